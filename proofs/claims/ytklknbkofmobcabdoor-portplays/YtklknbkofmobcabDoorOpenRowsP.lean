/- A script of things of two numbers and a text that came in, opened (ahead of stages 7 and 8). -/
import Derived.Test.YtklknbkofmobcabDoorOpenRows
import Derived.Test.YtklknbkofmobcabDoorOpenNumber
import Derived.Deep.Strs
namespace Go.Proofs.YtklknbkofmobcabDoor
open Go.ChangeShapes Go.WideShapes Go.ChangeAt Go.RowKit Go.Joins Go.Deep

/-- A row of n things of two numbers and a text each, in memory. -/
def RowsP (w : World) (a : Option Addr) (n : Nat) (f g : Nat → Int) (h : Nat → ByteArray) : Prop :=
  0 < n → ∃ b off, a = some ⟨b, off, none⟩ ∧ b < w.heap.size ∧ ∀ j, j < n → w.cell? ⟨b, off + j * 3, none⟩ = some (.int .i64 (f j)) ∧ w.cell? ⟨b, off + j * 3 + 1, none⟩ = some (.int .i64 (g j)) ∧ w.cell? ⟨b, off + j * 3 + 2, none⟩ = some (.string (h j))
theorem RowsP.below {w w' : World} {a : Option Addr} {n : Nat} {f g : Nat → Int} {h : Nat → ByteArray} (r : RowsP w a n f g h) (hb : Below w.heap.size w w') : RowsP w' a n f g h := by
  intro hn
  obtain ⟨b, off, ha, hbl, hc⟩ := r hn
  exact ⟨b, off, ha, Nat.lt_of_lt_of_le hbl hb.size, fun j hj => ⟨(hb.cell hbl).trans (hc j hj).1, (hb.cell hbl).trans (hc j hj).2.1, (hb.cell hbl).trans (hc j hj).2.2⟩⟩

section
variable {H : Type} {enc : TypeId × Value → H} {w : World} {spare : Nat → Bool} {held : Bool} {r : Reach} {b0 : Nat} {v : Value} {d : DataW H} {p : List MemPlace}

theorem open_put {P : Program} {t ti ts : TypeId} {f0 f1 f2 : Field} {n : Nat} {cs : List Value} {x : DataW H × List MemPlace} (ht : P.underlying t = some (.struct #[f0, f1, f2])) (hi : P.underlying ti = some (.int .i64)) (hs : P.underlying ts = some .string)
    (h0 : f0.type = ti ∧ f0.offset = 0) (h1 : f1.type = ti ∧ f1.offset = 1) (h2 : f2.type = ts ∧ f2.offset = 2) (hc : P.cellsOf t = 3) (hci : P.cellsOf ti = 1) (hcs : P.cellsOf ts = 1)
    (h : DataW.trod enc P w 0 spare held n t cs = some x) : ∃ (a b : Int) (c : ByteArray), cs = [.int .i64 a, .int .i64 b, .string c] ∧ isInt a ∧ isInt b ∧ c.size ≤ maxLen := by
  obtain ⟨y0, y1, y2, m, _, hl, q0, q1, q2⟩ := trod_struct3 ht h
  rw [hc] at hl
  match cs, hl with
  | [v0, v1, v2], _ =>
    rw [h0.1, h0.2, hci] at q0
    rw [h1.1, h1.2, hci] at q1
    rw [h2.1, h2.2, hcs] at q2
    obtain ⟨a, e0, _, wa⟩ := DataW.trod_int hi q0
    obtain ⟨b, e1, _, wb⟩ := DataW.trod_int hi q1
    obtain ⟨c, e2, _, wc⟩ := DataW.trod_string hs q2
    simp at e0 e1 e2
    subst e0 e1 e2
    exact ⟨a, b, c, rfl, wa, wb, wc⟩

/-- A slice of them. -/
theorem open_rowsP {P : Program} {t e : TypeId} {n : Nat} {v : Value} {x : DataW H × List MemPlace} (ht : P.underlying t = some (.slice e)) (hc : P.cellsOf e = 3)
    (hel : ∀ (n : Nat) (cs : List Value) (x : DataW H × List MemPlace), DataW.trod enc P w 0 spare held n e cs = some x → ∃ (a b : Int) (c : ByteArray), cs = [.int .i64 a, .int .i64 b, .string c] ∧ isInt a ∧ isInt b ∧ c.size ≤ maxLen)
    (h : DataW.trod enc P w 0 spare held n t [v] = some x) :
    ∃ (a : Option Addr) (len cap : Nat) (f g : Nat → Int) (k : Nat → ByteArray), v = .slice a len cap ∧ len ≤ maxLen ∧ RowsP w a len f g k ∧ ∀ j, j < len → isInt (f j) ∧ isInt (g j) ∧ (k j).size ≤ maxLen := by
  rcases open_slice ht h with ⟨h0, _⟩ | ⟨a, len, cap, m, n', D, Pl, h0, _, hl, hm, hmm, _, hx⟩
  · simp at h0
    exact ⟨none, 0, 0, fun _ => 0, fun _ => 0, fun _ => ByteArray.empty, h0, Nat.zero_le _, fun hn => absurd hn (Nat.lt_irrefl _), fun j hj => absurd hj (Nat.not_lt_zero _)⟩
  · simp at h0
    have hle : len ≤ m := by rw [hmm]; split <;> omega
    have key : ∀ i, i < len → ∃ q : Int × Int × ByteArray, (w.cell? (a.add (i * 3)) = some (.int .i64 q.1) ∧ w.cell? ((a.add (i * 3)).add 1) = some (.int .i64 q.2.1) ∧ w.cell? ((a.add (i * 3)).add 2) = some (.string q.2.2)) ∧ isInt q.1 ∧ isInt q.2.1 ∧ q.2.2.size ≤ maxLen := by
      intro i hi
      obtain ⟨cs', h1, h2⟩ := hx i (by omega)
      rw [hc] at h1
      obtain ⟨p, q, r, rfl, wp, wq, wr⟩ := hel _ _ _ h2
      obtain ⟨_, _, h3⟩ := World.cells?_some h1
      exact ⟨(p, q, r), ⟨by simpa [Addr.add] using h3 0 (by omega), by simpa using h3 1 (by omega), by simpa using h3 2 (by omega)⟩, wp, wq, wr⟩
    have key2 : ∃ F : Nat → Int × Int × ByteArray, ∀ i, i < len → (w.cell? (a.add (i * 3)) = some (.int .i64 (F i).1) ∧ w.cell? ((a.add (i * 3)).add 1) = some (.int .i64 (F i).2.1) ∧ w.cell? ((a.add (i * 3)).add 2) = some (.string (F i).2.2)) ∧ isInt (F i).1 ∧ isInt (F i).2.1 ∧ (F i).2.2.size ≤ maxLen :=
      ⟨fun i => if hi : i < len then (key i hi).choose else (0, 0, ByteArray.empty), fun i hi => by simp only [dif_pos hi]; exact (key i hi).choose_spec⟩
    obtain ⟨F, hF⟩ := key2
    refine ⟨some a, len, cap, fun i => (F i).1, fun i => (F i).2.1, fun i => (F i).2.2, h0, by omega, fun hn => ?_, fun j hj => (hF j hj).2⟩
    obtain ⟨b, off, spot⟩ := a
    have hs : spot = none := by simpa [Addr.add] using World.cell?_spot (hF 0 hn).1.1
    subst hs
    refine ⟨b, off, rfl, ?_, fun j hj => ?_⟩
    · have hc0 := (hF 0 hn).1.1
      rcases Nat.lt_or_ge b w.heap.size with g | g
      · exact g
      · simp [World.cell?, Addr.add, Array.getElem?_eq_none g] at hc0
    · have := (hF j hj).1
      simpa only [add_plain] using this
end
end Go.Proofs.YtklknbkofmobcabDoor
