/- Rows of small structs that came in, opened: their numbers in memory (over any program). -/
import Derived.ProofKit
import Derived.Lib.SmallJoins
import Derived.Deep.Slices
namespace Go.Proofs.Ytlpojkehbhkdiaa
open Go.ChangeShapes Go.WideShapes Go.ChangeAt Go.RowKit Go.Joins Go.Deep

/-- An int that a machine has. -/
def isInt (n : Int) : Prop := (Lit.int .i64 n).wf = true

theorem add_plain (b off n : Nat) : (⟨b, off, none⟩ : Addr).add n = ⟨b, off + n, none⟩ := by
  unfold Addr.add
  split
  · rename_i h; subst h; rfl
  · rfl

/-- A row of n things of three numbers each, in memory (of nothing, if n is 0). -/
def Rows3 (w : World) (a : Option Addr) (n : Nat) (f g h : Nat → Int) : Prop :=
  0 < n → ∃ b off, a = some ⟨b, off, none⟩ ∧ b < w.heap.size ∧ ∀ j, j < n → w.cell? ⟨b, off + j * 3, none⟩ = some (.int .i64 (f j)) ∧ w.cell? ⟨b, off + j * 3 + 1, none⟩ = some (.int .i64 (g j)) ∧ w.cell? ⟨b, off + j * 3 + 2, none⟩ = some (.int .i64 (h j))
theorem Rows3.below {w w' : World} {a : Option Addr} {n : Nat} {f g h : Nat → Int} (r : Rows3 w a n f g h) (hb : Below w.heap.size w w') : Rows3 w' a n f g h := by
  intro hn
  obtain ⟨b, off, ha, hbl, hc⟩ := r hn
  exact ⟨b, off, ha, Nat.lt_of_lt_of_le hbl hb.size, fun j hj => ⟨(hb.cell hbl).trans (hc j hj).1, (hb.cell hbl).trans (hc j hj).2.1, (hb.cell hbl).trans (hc j hj).2.2⟩⟩
/-- .. of four numbers each. -/
def Rows4 (w : World) (a : Option Addr) (n : Nat) (f g h i : Nat → Int) : Prop :=
  0 < n → ∃ b off, a = some ⟨b, off, none⟩ ∧ b < w.heap.size ∧ ∀ j, j < n → w.cell? ⟨b, off + j * 4, none⟩ = some (.int .i64 (f j)) ∧ w.cell? ⟨b, off + j * 4 + 1, none⟩ = some (.int .i64 (g j)) ∧ w.cell? ⟨b, off + j * 4 + 2, none⟩ = some (.int .i64 (h j)) ∧ w.cell? ⟨b, off + j * 4 + 3, none⟩ = some (.int .i64 (i j))
theorem Rows4.below {w w' : World} {a : Option Addr} {n : Nat} {f g h i : Nat → Int} (r : Rows4 w a n f g h i) (hb : Below w.heap.size w w') : Rows4 w' a n f g h i := by
  intro hn
  obtain ⟨b, off, ha, hbl, hc⟩ := r hn
  exact ⟨b, off, ha, Nat.lt_of_lt_of_le hbl hb.size, fun j hj => ⟨(hb.cell hbl).trans (hc j hj).1, (hb.cell hbl).trans (hc j hj).2.1, (hb.cell hbl).trans (hc j hj).2.2.1, (hb.cell hbl).trans (hc j hj).2.2.2⟩⟩

section
variable {H : Type} {enc : TypeId × Value → H} {P : Program} {w : World} {spare : Nat → Bool} {held : Bool}

/-- A thing of a number and a span: three numbers. -/
theorem open_three {t ti ts : TypeId} {f0 f1 g0 g1 : Field} {n : Nat} {cs : List Value} {x : DataW H × List MemPlace} (ht : P.underlying t = some (.struct #[f0, f1])) (hs : P.underlying ts = some (.struct #[g0, g1])) (hi : P.underlying ti = some (.int .i64))
    (h0 : f0.type = ti ∧ f0.offset = 0) (h1 : f1.type = ts ∧ f1.offset = 1) (k0 : g0.type = ti ∧ g0.offset = 0) (k1 : g1.type = ti ∧ g1.offset = 1) (hc : P.cellsOf t = 3) (hcs : P.cellsOf ts = 2) (hci : P.cellsOf ti = 1)
    (h : DataW.trod enc P w 0 spare held n t cs = some x) : ∃ a b c : Int, cs = [.int .i64 a, .int .i64 b, .int .i64 c] ∧ isInt a ∧ isInt b ∧ isInt c := by
  obtain ⟨y0, y1, m, _, hl, q0, q1⟩ := trod_struct2 ht h
  rw [hc] at hl
  match cs, hl with
  | [v0, v1, v2], _ =>
    rw [h0.1, h0.2, hci] at q0
    rw [h1.1, h1.2, hcs] at q1
    obtain ⟨a, e0, _, wa⟩ := DataW.trod_int hi q0
    obtain ⟨z0, z1, m2, _, _, r0, r1⟩ := trod_struct2 hs q1
    rw [k0.1, k0.2, hci] at r0
    rw [k1.1, k1.2, hci] at r1
    obtain ⟨b, e1, _, wb⟩ := DataW.trod_int hi r0
    obtain ⟨c, e2, _, wc⟩ := DataW.trod_int hi r1
    simp at e0 e1 e2
    subst e0 e1 e2
    exact ⟨a, b, c, rfl, wa, wb, wc⟩

theorem open_four {t ti : TypeId} {f0 f1 f2 f3 : Field} {n : Nat} {cs : List Value} {x : DataW H × List MemPlace} (ht : P.underlying t = some (.struct #[f0, f1, f2, f3])) (hi : P.underlying ti = some (.int .i64))
    (h0 : f0.type = ti ∧ f0.offset = 0) (h1 : f1.type = ti ∧ f1.offset = 1) (h2 : f2.type = ti ∧ f2.offset = 2) (h3 : f3.type = ti ∧ f3.offset = 3) (hc : P.cellsOf t = 4) (hci : P.cellsOf ti = 1)
    (h : DataW.trod enc P w 0 spare held n t cs = some x) : ∃ a b c d : Int, cs = [.int .i64 a, .int .i64 b, .int .i64 c, .int .i64 d] ∧ isInt a ∧ isInt b ∧ isInt c ∧ isInt d := by
  obtain ⟨y0, y1, y2, y3, m, _, hl, q0, q1, q2, q3⟩ := trod_struct4 ht h
  rw [hc] at hl
  match cs, hl with
  | [v0, v1, v2, v3], _ =>
    rw [h0.1, h0.2, hci] at q0
    rw [h1.1, h1.2, hci] at q1
    rw [h2.1, h2.2, hci] at q2
    rw [h3.1, h3.2, hci] at q3
    obtain ⟨a, e0, _, wa⟩ := DataW.trod_int hi q0
    obtain ⟨b, e1, _, wb⟩ := DataW.trod_int hi q1
    obtain ⟨c, e2, _, wc⟩ := DataW.trod_int hi q2
    obtain ⟨d, e3, _, wd⟩ := DataW.trod_int hi q3
    simp at e0 e1 e2 e3
    subst e0 e1 e2 e3
    exact ⟨a, b, c, d, rfl, wa, wb, wc, wd⟩

/-- A slice of things of three numbers. -/
theorem open_rows3 {t e : TypeId} {n : Nat} {v : Value} {x : DataW H × List MemPlace} (ht : P.underlying t = some (.slice e)) (hc : P.cellsOf e = 3)
    (hel : ∀ (n : Nat) (cs : List Value) (x : DataW H × List MemPlace), DataW.trod enc P w 0 spare held n e cs = some x → ∃ a b c : Int, cs = [.int .i64 a, .int .i64 b, .int .i64 c] ∧ isInt a ∧ isInt b ∧ isInt c)
    (h : DataW.trod enc P w 0 spare held n t [v] = some x) :
    ∃ (a : Option Addr) (len cap : Nat) (f g k : Nat → Int), v = .slice a len cap ∧ len ≤ maxLen ∧ Rows3 w a len f g k ∧ ∀ j, j < len → isInt (f j) ∧ isInt (g j) ∧ isInt (k j) := by
  rcases open_slice ht h with ⟨h0, _⟩ | ⟨a, len, cap, m, n', D, Pl, h0, _, hl, hm, hmm, _, hx⟩
  · simp at h0
    exact ⟨none, 0, 0, fun _ => 0, fun _ => 0, fun _ => 0, h0, Nat.zero_le _, fun hn => absurd hn (Nat.lt_irrefl _), fun j hj => absurd hj (Nat.not_lt_zero _)⟩
  · simp at h0
    have hle : len ≤ m := by rw [hmm]; split <;> omega
    have key : ∀ i, i < len → ∃ q : Int × Int × Int, (w.cell? (a.add (i * 3)) = some (.int .i64 q.1) ∧ w.cell? ((a.add (i * 3)).add 1) = some (.int .i64 q.2.1) ∧ w.cell? ((a.add (i * 3)).add 2) = some (.int .i64 q.2.2)) ∧ isInt q.1 ∧ isInt q.2.1 ∧ isInt q.2.2 := by
      intro i hi
      obtain ⟨cs', h1, h2⟩ := hx i (by omega)
      rw [hc] at h1
      obtain ⟨p, q, r, rfl, wp, wq, wr⟩ := hel _ _ _ h2
      obtain ⟨_, _, h3⟩ := World.cells?_some h1
      exact ⟨(p, q, r), ⟨by simpa [Addr.add] using h3 0 (by omega), by simpa using h3 1 (by omega), by simpa using h3 2 (by omega)⟩, wp, wq, wr⟩
    obtain ⟨F, hF⟩ := choose_lt key
    refine ⟨some a, len, cap, fun i => (F i).1, fun i => (F i).2.1, fun i => (F i).2.2, h0, by omega, fun hn => ?_, fun j hj => (hF j hj).2⟩
    obtain ⟨b, off, spot⟩ := a
    have hs : spot = none := by simpa [Addr.add] using World.cell?_spot (hF 0 hn).1.1
    subst hs
    refine ⟨b, off, rfl, ?_, fun j hj => ?_⟩
    · have hc0 := (hF 0 hn).1.1
      rcases Nat.lt_or_ge b w.heap.size with g | g
      · exact g
      · simp [World.cell?, Addr.add, Array.getElem?_eq_none g] at hc0
    · have := (hF j hj).1
      simpa only [add_plain] using this

/-- .. of four numbers. -/
theorem open_rows4 {t e : TypeId} {n : Nat} {v : Value} {x : DataW H × List MemPlace} (ht : P.underlying t = some (.slice e)) (hc : P.cellsOf e = 4)
    (hel : ∀ (n : Nat) (cs : List Value) (x : DataW H × List MemPlace), DataW.trod enc P w 0 spare held n e cs = some x → ∃ a b c d : Int, cs = [.int .i64 a, .int .i64 b, .int .i64 c, .int .i64 d] ∧ isInt a ∧ isInt b ∧ isInt c ∧ isInt d)
    (h : DataW.trod enc P w 0 spare held n t [v] = some x) :
    ∃ (a : Option Addr) (len cap : Nat) (f g k l : Nat → Int), v = .slice a len cap ∧ len ≤ maxLen ∧ Rows4 w a len f g k l ∧ ∀ j, j < len → isInt (f j) ∧ isInt (g j) ∧ isInt (k j) ∧ isInt (l j) := by
  rcases open_slice ht h with ⟨h0, _⟩ | ⟨a, len, cap, m, n', D, Pl, h0, _, hl, hm, hmm, _, hx⟩
  · simp at h0
    exact ⟨none, 0, 0, fun _ => 0, fun _ => 0, fun _ => 0, fun _ => 0, h0, Nat.zero_le _, fun hn => absurd hn (Nat.lt_irrefl _), fun j hj => absurd hj (Nat.not_lt_zero _)⟩
  · simp at h0
    have hle : len ≤ m := by rw [hmm]; split <;> omega
    have key : ∀ i, i < len → ∃ q : Int × Int × Int × Int, (w.cell? (a.add (i * 4)) = some (.int .i64 q.1) ∧ w.cell? ((a.add (i * 4)).add 1) = some (.int .i64 q.2.1) ∧ w.cell? ((a.add (i * 4)).add 2) = some (.int .i64 q.2.2.1) ∧ w.cell? ((a.add (i * 4)).add 3) = some (.int .i64 q.2.2.2)) ∧ isInt q.1 ∧ isInt q.2.1 ∧ isInt q.2.2.1 ∧ isInt q.2.2.2 := by
      intro i hi
      obtain ⟨cs', h1, h2⟩ := hx i (by omega)
      rw [hc] at h1
      obtain ⟨p, q, r, s, rfl, wp, wq, wr, ws⟩ := hel _ _ _ h2
      obtain ⟨_, _, h3⟩ := World.cells?_some h1
      exact ⟨(p, q, r, s), ⟨by simpa [Addr.add] using h3 0 (by omega), by simpa using h3 1 (by omega), by simpa using h3 2 (by omega), by simpa using h3 3 (by omega)⟩, wp, wq, wr, ws⟩
    obtain ⟨F, hF⟩ := choose_lt key
    refine ⟨some a, len, cap, fun i => (F i).1, fun i => (F i).2.1, fun i => (F i).2.2.1, fun i => (F i).2.2.2, h0, by omega, fun hn => ?_, fun j hj => (hF j hj).2⟩
    obtain ⟨b, off, spot⟩ := a
    have hs : spot = none := by simpa [Addr.add] using World.cell?_spot (hF 0 hn).1.1
    subst hs
    refine ⟨b, off, rfl, ?_, fun j hj => ?_⟩
    · have hc0 := (hF 0 hn).1.1
      rcases Nat.lt_or_ge b w.heap.size with g | g
      · exact g
      · simp [World.cell?, Addr.add, Array.getElem?_eq_none g] at hc0
    · have := (hF j hj).1
      simpa only [add_plain] using this
/-- A struct of ten fields of one cell each. -/
theorem open_ten {t : TypeId} {fs : Array Field} {r : Reach} {b0 : Nat} {v : Value} {d : DataW H} {p : List MemPlace} (ht : P.underlying t = some (.struct fs)) (hc : P.cellsOf t = 10) (ts : List TypeId)
    (hf : ∀ i, i < 10 → ∃ f, fs[i]? = some f ∧ f.type = ts.getD i 0 ∧ f.offset = i ∧ P.cellsOf (ts.getD i 0) = 1) (hsz : fs.size = 10)
    (hv : Value.okWide P w r b0 t v) (h : DataW.Trod enc P w 0 spare held t v d p) :
    ∃ c0 c1 c2 c3 c4 c5 c6 c7 c8 c9 : Value, v = .agg #[c0, c1, c2, c3, c4, c5, c6, c7, c8, c9] ∧ ∀ i, i < 10 → ∃ n x, DataW.trod enc P w 0 spare held n (ts.getD i 0) [[c0, c1, c2, c3, c4, c5, c6, c7, c8, c9].getD i .nilIface] = some x := by
  obtain ⟨cs, rfl, hz⟩ := okWide_struct ht hv
  rw [hc] at hz
  obtain ⟨l⟩ := cs
  match l, hz with
  | [c0, c1, c2, c3, c4, c5, c6, c7, c8, c9], _ =>
    refine ⟨c0, c1, c2, c3, c4, c5, c6, c7, c8, c9, rfl, fun i hi => ?_⟩
    obtain ⟨fuel, hfu⟩ := h
    obtain ⟨xs, n, _, _, _, hlen, hx⟩ := DataW.trod_struct ht hfu
    obtain ⟨f, h1, h2, h3, h4⟩ := hf i hi
    have g := hx i f h1
    rw [h2, h3, h4, List.getElem?_eq_getElem (by rw [hlen, hsz]; exact hi)] at g
    refine ⟨n, xs[i]'(by rw [hlen, hsz]; exact hi), ?_⟩
    rw [← g]
    have : i = 0 ∨ i = 1 ∨ i = 2 ∨ i = 3 ∨ i = 4 ∨ i = 5 ∨ i = 6 ∨ i = 7 ∨ i = 8 ∨ i = 9 := by omega
    rcases this with rfl | rfl | rfl | rfl | rfl | rfl | rfl | rfl | rfl | rfl <;> simp [Value.cells]
end
end Go.Proofs.Ytlpojkehbhkdiaa
