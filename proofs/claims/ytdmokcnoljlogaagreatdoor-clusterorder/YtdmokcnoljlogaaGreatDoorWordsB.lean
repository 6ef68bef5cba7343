/- Rows of small structs that came in, opened: their numbers in memory (over any program). -/
import Derived.ProofKit
import Derived.Lib.SmallJoins
import Derived.Deep.Slices
import Derived.Below
import Derived.Test.YtdmokcnoljlogaaGreatDoorProg
import Derived.Test.YtdmokcnoljlogaaGreatDoorWordsA
import Derived.Deep.QuietTactic
import Derived.Deep.RegionHeld3
import Derived.BigQuiet
import Derived.WalkKit
import Derived.WalkSpells
import Derived.WalkLawsBesides
namespace Go.Proofs.YtdmokcnoljlogaaGreatDoor
open Go.ChangeShapes Go.WideShapes Go.ChangeAt Go.RowKit Go.Joins Go.Deep

/-- An int that a machine has. -/
def isInt (n : Int) : Prop := (Lit.int .i64 n).wf = true

theorem add_plain (b off n : Nat) : (⟨b, off, none⟩ : Addr).add n = ⟨b, off + n, none⟩ := by
  unfold Addr.add
  split
  · rename_i h; subst h; rfl
  · rfl

/-- A row of n things of three numbers each, in memory (of nothing, if n is 0). -/
def Rows3 (w : World) (a : Option Addr) (n : Nat) (f g h : Nat → Int) : Prop :=
  0 < n → ∃ b off, a = some ⟨b, off, none⟩ ∧ b < w.heap.size ∧ ∀ j, j < n → w.cell? ⟨b, off + j * 3, none⟩ = some (.int .i64 (f j)) ∧ w.cell? ⟨b, off + j * 3 + 1, none⟩ = some (.int .i64 (g j)) ∧ w.cell? ⟨b, off + j * 3 + 2, none⟩ = some (.int .i64 (h j))
theorem Rows3.below {w w' : World} {a : Option Addr} {n : Nat} {f g h : Nat → Int} (r : Rows3 w a n f g h) (hb : Below w.heap.size w w') : Rows3 w' a n f g h := by
  intro hn
  obtain ⟨b, off, ha, hbl, hc⟩ := r hn
  exact ⟨b, off, ha, Nat.lt_of_lt_of_le hbl hb.size, fun j hj => ⟨(hb.cell hbl).trans (hc j hj).1, (hb.cell hbl).trans (hc j hj).2.1, (hb.cell hbl).trans (hc j hj).2.2⟩⟩
/-- .. of four numbers each. -/
def Rows4 (w : World) (a : Option Addr) (n : Nat) (f g h i : Nat → Int) : Prop :=
  0 < n → ∃ b off, a = some ⟨b, off, none⟩ ∧ b < w.heap.size ∧ ∀ j, j < n → w.cell? ⟨b, off + j * 4, none⟩ = some (.int .i64 (f j)) ∧ w.cell? ⟨b, off + j * 4 + 1, none⟩ = some (.int .i64 (g j)) ∧ w.cell? ⟨b, off + j * 4 + 2, none⟩ = some (.int .i64 (h j)) ∧ w.cell? ⟨b, off + j * 4 + 3, none⟩ = some (.int .i64 (i j))
theorem Rows4.below {w w' : World} {a : Option Addr} {n : Nat} {f g h i : Nat → Int} (r : Rows4 w a n f g h i) (hb : Below w.heap.size w w') : Rows4 w' a n f g h i := by
  intro hn
  obtain ⟨b, off, ha, hbl, hc⟩ := r hn
  exact ⟨b, off, ha, Nat.lt_of_lt_of_le hbl hb.size, fun j hj => ⟨(hb.cell hbl).trans (hc j hj).1, (hb.cell hbl).trans (hc j hj).2.1, (hb.cell hbl).trans (hc j hj).2.2.1, (hb.cell hbl).trans (hc j hj).2.2.2⟩⟩

section
variable {H : Type} {enc : TypeId × Value → H} {P : Program} {w : World} {spare : Nat → Bool} {held : Bool}

/-- A thing of a number and a span: three numbers. -/
theorem open_three {t ti ts : TypeId} {f0 f1 g0 g1 : Field} {n : Nat} {cs : List Value} {x : DataW H × List MemPlace} (ht : P.underlying t = some (.struct #[f0, f1])) (hs : P.underlying ts = some (.struct #[g0, g1])) (hi : P.underlying ti = some (.int .i64))
    (h0 : f0.type = ti ∧ f0.offset = 0) (h1 : f1.type = ts ∧ f1.offset = 1) (k0 : g0.type = ti ∧ g0.offset = 0) (k1 : g1.type = ti ∧ g1.offset = 1) (hc : P.cellsOf t = 3) (hcs : P.cellsOf ts = 2) (hci : P.cellsOf ti = 1)
    (h : DataW.trod enc P w 0 spare held n t cs = some x) : ∃ a b c : Int, cs = [.int .i64 a, .int .i64 b, .int .i64 c] ∧ isInt a ∧ isInt b ∧ isInt c := by
  obtain ⟨y0, y1, m, _, hl, q0, q1⟩ := trod_struct2 ht h
  rw [hc] at hl
  match cs, hl with
  | [v0, v1, v2], _ =>
    rw [h0.1, h0.2, hci] at q0
    rw [h1.1, h1.2, hcs] at q1
    obtain ⟨a, e0, _, wa⟩ := DataW.trod_int hi q0
    obtain ⟨z0, z1, m2, _, _, r0, r1⟩ := trod_struct2 hs q1
    rw [k0.1, k0.2, hci] at r0
    rw [k1.1, k1.2, hci] at r1
    obtain ⟨b, e1, _, wb⟩ := DataW.trod_int hi r0
    obtain ⟨c, e2, _, wc⟩ := DataW.trod_int hi r1
    simp at e0 e1 e2
    subst e0 e1 e2
    exact ⟨a, b, c, rfl, wa, wb, wc⟩

theorem open_four {t ti : TypeId} {f0 f1 f2 f3 : Field} {n : Nat} {cs : List Value} {x : DataW H × List MemPlace} (ht : P.underlying t = some (.struct #[f0, f1, f2, f3])) (hi : P.underlying ti = some (.int .i64))
    (h0 : f0.type = ti ∧ f0.offset = 0) (h1 : f1.type = ti ∧ f1.offset = 1) (h2 : f2.type = ti ∧ f2.offset = 2) (h3 : f3.type = ti ∧ f3.offset = 3) (hc : P.cellsOf t = 4) (hci : P.cellsOf ti = 1)
    (h : DataW.trod enc P w 0 spare held n t cs = some x) : ∃ a b c d : Int, cs = [.int .i64 a, .int .i64 b, .int .i64 c, .int .i64 d] ∧ isInt a ∧ isInt b ∧ isInt c ∧ isInt d := by
  obtain ⟨y0, y1, y2, y3, m, _, hl, q0, q1, q2, q3⟩ := trod_struct4 ht h
  rw [hc] at hl
  match cs, hl with
  | [v0, v1, v2, v3], _ =>
    rw [h0.1, h0.2, hci] at q0
    rw [h1.1, h1.2, hci] at q1
    rw [h2.1, h2.2, hci] at q2
    rw [h3.1, h3.2, hci] at q3
    obtain ⟨a, e0, _, wa⟩ := DataW.trod_int hi q0
    obtain ⟨b, e1, _, wb⟩ := DataW.trod_int hi q1
    obtain ⟨c, e2, _, wc⟩ := DataW.trod_int hi q2
    obtain ⟨d, e3, _, wd⟩ := DataW.trod_int hi q3
    simp at e0 e1 e2 e3
    subst e0 e1 e2 e3
    exact ⟨a, b, c, d, rfl, wa, wb, wc, wd⟩

/-- A slice of things of three numbers. -/
theorem open_rows3 {t e : TypeId} {n : Nat} {v : Value} {x : DataW H × List MemPlace} (ht : P.underlying t = some (.slice e)) (hc : P.cellsOf e = 3)
    (hel : ∀ (n : Nat) (cs : List Value) (x : DataW H × List MemPlace), DataW.trod enc P w 0 spare held n e cs = some x → ∃ a b c : Int, cs = [.int .i64 a, .int .i64 b, .int .i64 c] ∧ isInt a ∧ isInt b ∧ isInt c)
    (h : DataW.trod enc P w 0 spare held n t [v] = some x) :
    ∃ (a : Option Addr) (len cap : Nat) (f g k : Nat → Int), v = .slice a len cap ∧ len ≤ maxLen ∧ Rows3 w a len f g k ∧ ∀ j, j < len → isInt (f j) ∧ isInt (g j) ∧ isInt (k j) := by
  rcases open_slice ht h with ⟨h0, _⟩ | ⟨a, len, cap, m, n', D, Pl, h0, _, hl, hm, hmm, _, hx⟩
  · simp at h0
    exact ⟨none, 0, 0, fun _ => 0, fun _ => 0, fun _ => 0, h0, Nat.zero_le _, fun hn => absurd hn (Nat.lt_irrefl _), fun j hj => absurd hj (Nat.not_lt_zero _)⟩
  · simp at h0
    have hle : len ≤ m := by rw [hmm]; split <;> omega
    have key : ∀ i, i < len → ∃ q : Int × Int × Int, (w.cell? (a.add (i * 3)) = some (.int .i64 q.1) ∧ w.cell? ((a.add (i * 3)).add 1) = some (.int .i64 q.2.1) ∧ w.cell? ((a.add (i * 3)).add 2) = some (.int .i64 q.2.2)) ∧ isInt q.1 ∧ isInt q.2.1 ∧ isInt q.2.2 := by
      intro i hi
      obtain ⟨cs', h1, h2⟩ := hx i (by omega)
      rw [hc] at h1
      obtain ⟨p, q, r, rfl, wp, wq, wr⟩ := hel _ _ _ h2
      obtain ⟨_, _, h3⟩ := World.cells?_some h1
      exact ⟨(p, q, r), ⟨by simpa [Addr.add] using h3 0 (by omega), by simpa using h3 1 (by omega), by simpa using h3 2 (by omega)⟩, wp, wq, wr⟩
    obtain ⟨F, hF⟩ := choose_lt key
    refine ⟨some a, len, cap, fun i => (F i).1, fun i => (F i).2.1, fun i => (F i).2.2, h0, by omega, fun hn => ?_, fun j hj => (hF j hj).2⟩
    obtain ⟨b, off, spot⟩ := a
    have hs : spot = none := by simpa [Addr.add] using World.cell?_spot (hF 0 hn).1.1
    subst hs
    refine ⟨b, off, rfl, ?_, fun j hj => ?_⟩
    · have hc0 := (hF 0 hn).1.1
      rcases Nat.lt_or_ge b w.heap.size with g | g
      · exact g
      · simp [World.cell?, Addr.add, Array.getElem?_eq_none g] at hc0
    · have := (hF j hj).1
      simpa only [add_plain] using this

/-- .. of four numbers. -/
theorem open_rows4 {t e : TypeId} {n : Nat} {v : Value} {x : DataW H × List MemPlace} (ht : P.underlying t = some (.slice e)) (hc : P.cellsOf e = 4)
    (hel : ∀ (n : Nat) (cs : List Value) (x : DataW H × List MemPlace), DataW.trod enc P w 0 spare held n e cs = some x → ∃ a b c d : Int, cs = [.int .i64 a, .int .i64 b, .int .i64 c, .int .i64 d] ∧ isInt a ∧ isInt b ∧ isInt c ∧ isInt d)
    (h : DataW.trod enc P w 0 spare held n t [v] = some x) :
    ∃ (a : Option Addr) (len cap : Nat) (f g k l : Nat → Int), v = .slice a len cap ∧ len ≤ maxLen ∧ Rows4 w a len f g k l ∧ ∀ j, j < len → isInt (f j) ∧ isInt (g j) ∧ isInt (k j) ∧ isInt (l j) := by
  rcases open_slice ht h with ⟨h0, _⟩ | ⟨a, len, cap, m, n', D, Pl, h0, _, hl, hm, hmm, _, hx⟩
  · simp at h0
    exact ⟨none, 0, 0, fun _ => 0, fun _ => 0, fun _ => 0, fun _ => 0, h0, Nat.zero_le _, fun hn => absurd hn (Nat.lt_irrefl _), fun j hj => absurd hj (Nat.not_lt_zero _)⟩
  · simp at h0
    have hle : len ≤ m := by rw [hmm]; split <;> omega
    have key : ∀ i, i < len → ∃ q : Int × Int × Int × Int, (w.cell? (a.add (i * 4)) = some (.int .i64 q.1) ∧ w.cell? ((a.add (i * 4)).add 1) = some (.int .i64 q.2.1) ∧ w.cell? ((a.add (i * 4)).add 2) = some (.int .i64 q.2.2.1) ∧ w.cell? ((a.add (i * 4)).add 3) = some (.int .i64 q.2.2.2)) ∧ isInt q.1 ∧ isInt q.2.1 ∧ isInt q.2.2.1 ∧ isInt q.2.2.2 := by
      intro i hi
      obtain ⟨cs', h1, h2⟩ := hx i (by omega)
      rw [hc] at h1
      obtain ⟨p, q, r, s, rfl, wp, wq, wr, ws⟩ := hel _ _ _ h2
      obtain ⟨_, _, h3⟩ := World.cells?_some h1
      exact ⟨(p, q, r, s), ⟨by simpa [Addr.add] using h3 0 (by omega), by simpa using h3 1 (by omega), by simpa using h3 2 (by omega), by simpa using h3 3 (by omega)⟩, wp, wq, wr, ws⟩
    obtain ⟨F, hF⟩ := choose_lt key
    refine ⟨some a, len, cap, fun i => (F i).1, fun i => (F i).2.1, fun i => (F i).2.2.1, fun i => (F i).2.2.2, h0, by omega, fun hn => ?_, fun j hj => (hF j hj).2⟩
    obtain ⟨b, off, spot⟩ := a
    have hs : spot = none := by simpa [Addr.add] using World.cell?_spot (hF 0 hn).1.1
    subst hs
    refine ⟨b, off, rfl, ?_, fun j hj => ?_⟩
    · have hc0 := (hF 0 hn).1.1
      rcases Nat.lt_or_ge b w.heap.size with g | g
      · exact g
      · simp [World.cell?, Addr.add, Array.getElem?_eq_none g] at hc0
    · have := (hF j hj).1
      simpa only [add_plain] using this
/-- A struct of ten fields of one cell each. -/
theorem open_ten {t : TypeId} {fs : Array Field} {r : Reach} {b0 : Nat} {v : Value} {d : DataW H} {p : List MemPlace} (ht : P.underlying t = some (.struct fs)) (hc : P.cellsOf t = 10) (ts : List TypeId)
    (hf : ∀ i, i < 10 → ∃ f, fs[i]? = some f ∧ f.type = ts.getD i 0 ∧ f.offset = i ∧ P.cellsOf (ts.getD i 0) = 1) (hsz : fs.size = 10)
    (hv : Value.okWide P w r b0 t v) (h : DataW.Trod enc P w 0 spare held t v d p) :
    ∃ c0 c1 c2 c3 c4 c5 c6 c7 c8 c9 : Value, v = .agg #[c0, c1, c2, c3, c4, c5, c6, c7, c8, c9] ∧ ∀ i, i < 10 → ∃ n x, DataW.trod enc P w 0 spare held n (ts.getD i 0) [[c0, c1, c2, c3, c4, c5, c6, c7, c8, c9].getD i .nilIface] = some x := by
  obtain ⟨cs, rfl, hz⟩ := okWide_struct ht hv
  rw [hc] at hz
  obtain ⟨l⟩ := cs
  match l, hz with
  | [c0, c1, c2, c3, c4, c5, c6, c7, c8, c9], _ =>
    refine ⟨c0, c1, c2, c3, c4, c5, c6, c7, c8, c9, rfl, fun i hi => ?_⟩
    obtain ⟨fuel, hfu⟩ := h
    obtain ⟨xs, n, _, _, _, hlen, hx⟩ := DataW.trod_struct ht hfu
    obtain ⟨f, h1, h2, h3, h4⟩ := hf i hi
    have g := hx i f h1
    rw [h2, h3, h4, List.getElem?_eq_getElem (by rw [hlen, hsz]; exact hi)] at g
    refine ⟨n, xs[i]'(by rw [hlen, hsz]; exact hi), ?_⟩
    rw [← g]
    have : i = 0 ∨ i = 1 ∨ i = 2 ∨ i = 3 ∨ i = 4 ∨ i = 5 ∨ i = 6 ∨ i = 7 ∨ i = 8 ∨ i = 9 := by omega
    rcases this with rfl | rfl | rfl | rfl | rfl | rfl | rfl | rfl | rfl | rfl <;> simp [Value.cells]
end
end Go.Proofs.YtdmokcnoljlogaaGreatDoor

/- A row of numbers in memory. -/
namespace Go.Proofs.YtdmokcnoljlogaaGreatDoor
open Go.RowKit

/-- A row of numbers in memory. -/
def IntRow (w : World) (a : Option Addr) (l : List Int) : Prop :=
  0 < l.length → ∃ b off, a = some ⟨b, off, none⟩ ∧ b < w.heap.size ∧ ∀ j, j < l.length → w.cell? ⟨b, off + j, none⟩ = some (.int .i64 (l.getD j 0))

theorem IntRow.below {w w' : World} {a : Option Addr} {l : List Int} (h : IntRow w a l) (hb : Below w.heap.size w w') : IntRow w' a l := fun h0 => by
  obtain ⟨b, off, e, hl, hc⟩ := h h0
  exact ⟨b, off, e, Nat.lt_of_lt_of_le hl hb.size, fun j hj => (hb.cell (p := ⟨b, off + j, none⟩) hl).trans (hc j hj)⟩
end Go.Proofs.YtdmokcnoljlogaaGreatDoor

/- An error value in memory: none, an Errno, or an At around one. -/
namespace Go.Proofs.YtdmokcnoljlogaaGreatDoor
open Go.RowKit

theorem lt_of_cell {w : World} {a : Addr} {v : Value} (h : w.cell? a = some v) : a.block < w.heap.size := by
  rcases Nat.lt_or_ge a.block w.heap.size with g | g
  · exact g
  · simp [World.cell?, Array.getElem?_eq_none g] at h
theorem keep_cell {w w' : World} {a : Addr} {v : Value} (h : w.cell? a = some v) (hb : Below w.heap.size w w') : w'.cell? a = some v := (hb.cell (lt_of_cell h)).trans h

/-- An error value: none, an Errno, or an At around one. -/
def ErrIs (w : World) (E : Value) (e i : Int) : Prop :=
  (E = .nilIface ∧ e = 0 ∧ i = -1) ∨ (E = .iface 39 (.int .i64 e) ∧ e ≠ 0 ∧ i = -1) ∨ (∃ b, E = .iface 150 (.pointer (some ⟨b, 0, none⟩)) ∧ e ≠ 0 ∧ w.cell? ⟨b, 0, none⟩ = some (.int .i64 e) ∧ w.cell? ⟨b, 1, none⟩ = some (.int .i64 i))
theorem ErrIs.below {w w' : World} {E : Value} {e i : Int} (h : ErrIs w E e i) (hb : Below w.heap.size w w') : ErrIs w' E e i := by
  rcases h with h | h | ⟨b, h1, h2, h3, h4⟩
  · exact .inl h
  · exact .inr (.inl h)
  · exact .inr (.inr ⟨b, h1, h2, keep_cell h3 hb, keep_cell h4 hb⟩)
end Go.Proofs.YtdmokcnoljlogaaGreatDoor

/- An error of package api by its number, or none. -/
namespace Go.Proofs.YtdmokcnoljlogaaGreatDoor

def errV (k : Int) : Value := if k = 0 then .nilIface else .iface 39 (.int .i64 k)
theorem errV_0 : errV 0 = .nilIface := rfl
theorem errV_1 : errV 1 = .iface 39 (.int .i64 1) := rfl
theorem errV_2 : errV 2 = .iface 39 (.int .i64 2) := rfl
theorem errV_7 : errV 7 = .iface 39 (.int .i64 7) := rfl
end Go.Proofs.YtdmokcnoljlogaaGreatDoor

/- What a call on a thing may turn: its own blocks, and new memory (plain; for any thing behind a pointer). -/
namespace Go.Proofs.YtdmokcnoljlogaaGreatDoor
open Go.RowKit

/-- Nothing but the blocks of O is turned; new memory may be made; behind it the blocks are O'. -/
structure Foot (O O' : List Nat) (w w' : World) : Prop where
  os : w'.os = w.os
  tape : w'.tape = w.tape
  output : w'.output = w.output
  size : w.heap.size ≤ w'.heap.size
  block : ∀ c, c < w.heap.size → c ∉ O → w'.heap[c]? = w.heap[c]?
  fresh : ∀ c, c ∈ O' → c ∈ O ∨ w.heap.size ≤ c
theorem Foot.refl (O : List Nat) (w : World) : Foot O O w w := ⟨rfl, rfl, rfl, Nat.le_refl _, fun _ _ _ => rfl, fun _ h => .inl h⟩
theorem Foot.trans {O O' O'' : List Nat} {a b c : World} (h : Foot O O' a b) (k : Foot O' O'' b c) : Foot O O'' a c :=
  ⟨k.os.trans h.os, k.tape.trans h.tape, k.output.trans h.output, Nat.le_trans h.size k.size, fun i hi hn => (k.block i (Nat.lt_of_lt_of_le hi h.size) (fun y => (h.fresh i y).elim hn (fun z => absurd hi (by omega)))).trans (h.block i hi hn), fun i hi => by
    rcases k.fresh i hi with z | z
    · exact h.fresh i z
    · exact .inr (Nat.le_trans h.size z)⟩
theorem Foot.of_below {O : List Nat} {w w' : World} (h : Below w.heap.size w w') : Foot O O w w' := ⟨h.os, h.tape, h.output, h.size, fun c hc _ => h.block c hc, fun _ h => .inl h⟩
theorem Foot.of_turns {O : List Nat} {P Q : Nat} {w w' : World} (h : Turns P Q w w') (hp : P ∈ O) (hq : Q ∈ O) : Foot O O w w' :=
  ⟨h.os, h.tape, h.output, h.size, fun c hc hn => h.block c hc (fun e => hn (e ▸ hp)) (fun e => hn (e ▸ hq)), fun _ h => .inl h⟩
theorem Foot.drawn (O : List Nat) (w : World) (q : Nat) : Foot O O w (w.drewN q) := ⟨rfl, rfl, rfl, Nat.le_refl _, fun _ _ _ => rfl, fun _ h => .inl h⟩
/-- A larger footprint serves as well. -/
theorem Foot.more {O O' : List Nat} {w w' : World} (h : Foot O O' w w') (X : List Nat) : Foot (O ++ X) (O' ++ X) w w' :=
  ⟨h.os, h.tape, h.output, h.size, fun c hc hn => h.block c hc (fun y => hn (List.mem_append.2 (.inl y))), fun c hc => by
    rcases List.mem_append.1 hc with z | z
    · rcases h.fresh c z with y | y
      · exact .inl (List.mem_append.2 (.inl y))
      · exact .inr y
    · exact .inl (List.mem_append.2 (.inr z))⟩
theorem Foot.under {O O' : List Nat} {w w' : World} (h : Foot O O' w w') (P : Nat) : Foot (P :: O) (P :: O') w w' :=
  ⟨h.os, h.tape, h.output, h.size, fun c hc hn => h.block c hc (fun y => hn (List.mem_cons.2 (.inr y))), fun c hc => by
    rcases List.mem_cons.1 hc with z | z
    · exact .inl (List.mem_cons.2 (.inl z))
    · rcases h.fresh c z with y | y
      · exact .inl (List.mem_cons.2 (.inr y))
      · exact .inr y⟩
theorem Foot.below {O O' : List Nat} {w w' : World} {B : Nat} (h : Foot O O' w w') (hO : ∀ c, c ∈ O → B ≤ c) (hB : B ≤ w.heap.size) : Below B w w' := ⟨h.os, h.tape, h.output, h.size, fun c hc => h.block c (by omega) (fun y => by have := hO c y; omega)⟩
theorem Foot.above {O O' : List Nat} {w w' : World} {B : Nat} (h : Foot O O' w w') (hO : ∀ c, c ∈ O → B ≤ c) (hB : B ≤ w.heap.size) : ∀ c, c ∈ O' → B ≤ c := fun c hc => by
  rcases h.fresh c hc with y | y
  · exact hO c y
  · omega
theorem Foot.cell {O O' : List Nat} {w w' : World} (h : Foot O O' w w') {p : Addr} (hp : p.block < w.heap.size) (hn : p.block ∉ O) : w'.cell? p = w.cell? p := World.cell?_of_block (w := w) (h.block p.block hp hn)
theorem Foot.frozen {O O' : List Nat} {w w' : World} (h : Foot O O' w w') {p : Addr} (hp : p.block < w.heap.size) (hn : p.block ∉ O) : w'.frozen? p = w.frozen? p := World.frozen?_of_block (w := w) (h.block p.block hp hn)

/-- Two things that share no block. -/
def Apart (O X : List Nat) : Prop := ∀ c, c ∈ O → c ∉ X
theorem Apart.symm {O X : List Nat} (h : Apart O X) : Apart X O := fun c hc hn => h c hn hc
theorem Foot.apart {O O' X : List Nat} {w w' : World} (h : Foot O O' w w') (ha : Apart O X) (hX : ∀ c, c ∈ X → c < w.heap.size) : Apart O' X := fun c hc hx => by
  rcases h.fresh c hc with y | y
  · exact ha c y hx
  · have := hX c hx; omega
/-- What lies in the blocks X is as it was. -/
def Same (X : List Nat) (w w' : World) : Prop := w.heap.size ≤ w'.heap.size ∧ ∀ c, c ∈ X → w'.heap[c]? = w.heap[c]?
theorem Foot.same {O O' X : List Nat} {w w' : World} (h : Foot O O' w w') (ha : Apart O X) (hX : ∀ c, c ∈ X → c < w.heap.size) : Same X w w' := ⟨h.size, fun c hc => h.block c (hX c hc) (fun y => ha c y hc)⟩
theorem Same.of_below {X : List Nat} {w w' : World} (h : Below w.heap.size w w') (hX : ∀ c, c ∈ X → c < w.heap.size) : Same X w w' := ⟨h.size, fun c hc => h.block c (hX c hc)⟩
theorem Same.cell {X : List Nat} {w w' : World} (h : Same X w w') {p : Addr} (hp : p.block ∈ X) : w'.cell? p = w.cell? p := World.cell?_of_block (w := w) (h.2 p.block hp)
theorem Same.frozen {X : List Nat} {w w' : World} (h : Same X w w') {p : Addr} (hp : p.block ∈ X) : w'.frozen? p = w.frozen? p := World.frozen?_of_block (w := w) (h.2 p.block hp)
theorem Same.part {X Y : List Nat} {w w' : World} (h : Same X w w') (hs : ∀ c, c ∈ Y → c ∈ X) : Same Y w w' := ⟨h.1, fun c hc => h.2 c (hs c hc)⟩
theorem owns_same {X : List Nat} {w w' : World} {base : Nat} {e : TypeId} {size : Nat} {v : Value} {n : Nat} {xs : List Value} (h : w.ownsRow base e size v n xs) (hs : Same X w w') (hv : ∀ g, v.ownBlock = some g → g ∈ X) : w'.ownsRow base e size v n xs := by
  obtain ⟨h1, h2⟩ := h
  refine ⟨h1, ?_⟩
  rcases h2 with h2 | ⟨g, cap, cur, rfl, hg, hh, r⟩
  · exact .inl h2
  · refine .inr ⟨g, cap, cur, rfl, hg, ?_, r⟩
    rw [hs.2 g (hv g rfl)]; exact hh
end Go.Proofs.YtdmokcnoljlogaaGreatDoor

/- Plain words on ports: what they answer, and what becomes of them (8.1, 8.2). -/
namespace Go.Proofs.YtdmokcnoljlogaaGreatDoor

/-- What Write answers (at: the last message's time, below 0: there is none). -/
def writeK (at_ t : Int) (d : ByteArray) : Int := if 40 < d.size then 4 else if ¬ (0 ≤ t ∧ t ≤ 1099511627776) then 2 else if t < at_ then 10 else 0
def wrAt (K t at_ : Int) : Int := if K = 0 then t else at_
def wrDat (K : Int) (d dat : ByteArray) : ByteArray := if K = 0 then d else dat
/-- What Read answers. -/
def readK (at_ t : Int) : Int := if at_ < 0 then 8 else if t < at_ then 10 else 0
def rdDat (K : Int) (dat : ByteArray) : ByteArray := if K = 0 then dat else ByteArray.empty
def rdNew (K t at_ keep : Int) : Bool := decide (K = 0) && decide (t < at_ + keep)
/-- What becomes of what was lost; what Receive answers. -/
def lostK (K lost : Int) : Int := if K = 12 then lost + 1 else lost
def recvK (all : List ByteArray) : Int := if all = [] then 8 else 0
def recvD (all : List ByteArray) : ByteArray := all.headD ByteArray.empty

theorem wrAt_in {at_ t : Int} {d : ByteArray} (h : -1 ≤ at_ ∧ at_ ≤ 1099511627776) : -1 ≤ wrAt (writeK at_ t d) t at_ ∧ wrAt (writeK at_ t d) t at_ ≤ 1099511627776 := by
  unfold wrAt
  split
  · next e =>
    unfold writeK at e
    by_cases h1 : 40 < d.size
    · rw [if_pos h1] at e; cases e
    · rw [if_neg h1] at e
      by_cases h2 : 0 ≤ t ∧ t ≤ 1099511627776
      · omega
      · rw [if_pos h2] at e; cases e
  · exact h
end Go.Proofs.YtdmokcnoljlogaaGreatDoor

/- What the walks of stage 9's laws want of the program's cluster: its contracts, as one bundle (ahead of stage 9). -/
namespace Go.Proofs.YtdmokcnoljlogaaGreatDoor
open Go.RowKit

/-- Where a plan's rows lie. -/
structure PlanAt where
  sa : Option Addr
  sc : Nat
  la : Option Addr
  lc : Nat
  wa : Option Addr
  wc : Nat
def PlanN.val (p : PlanN) (a : PlanAt) : Value := .agg #[.int .i64 p.nodes, .int .i64 p.faulty, .int .i64 p.skew, .int .i64 p.jitter, .int .i64 p.drift, .int .i64 p.round, .slice a.sa p.ns a.sc, .slice a.la p.nl a.lc, .int .i64 p.frame, .slice a.wa p.nw a.wc]
/-- A plan in memory. -/
structure PlanN.In (p : PlanN) (a : PlanAt) (w : World) : Prop where
  slots : Rows3 w a.sa p.ns p.nd p.fr p.td
  links : Rows4 w a.la p.nl p.lf p.lt p.lb p.lq
  wins : Rows3 w a.wa p.nw p.wp p.wf p.wt
  ints : ∀ k, k < p.nl → -9223372036854775808 ≤ p.lt k ∧ p.lt k ≤ 9223372036854775807
  ls : p.ns ≤ 9223372036854775807
  ll : p.nl ≤ 9223372036854775807
  lw : p.nw ≤ 9223372036854775807
theorem PlanN.In.below {p : PlanN} {a : PlanAt} {w w' : World} (h : p.In a w) (hb : Below w.heap.size w w') : p.In a w' := ⟨h.slots.below hb, h.links.below hb, h.wins.below hb, h.ints, h.ls, h.ll, h.lw⟩
/-- Where a round's rows lie. -/
structure RoundAt where
  la : Option Addr
  lc : Nat
  ra : Option Addr
  rc : Nat
  da : Option Addr
  dc : Nat
  ma : Option Addr
  mc : Nat
def RoundN.val (r : RoundN) (a : RoundAt) : Value := .agg #[.slice a.la r.nL a.lc, .slice a.ra r.nR a.rc, .slice a.da r.drifts.length a.dc, .slice a.ma r.modes.length a.mc]
/-- A round in memory. -/
structure RoundN.In (r : RoundN) (a : RoundAt) (w : World) : Prop where
  losses : Rows3 w a.la r.nL r.ls r.lc r.lt
  reads : Rows3 w a.ra r.nR r.rn r.ro r.ri
  drifts : IntRow w a.da r.drifts
  modes : IntRow w a.ma r.modes
  ints : ∀ x, x < r.nL → -9223372036854775808 ≤ r.lt x ∧ r.lt x ≤ 9223372036854775807
  lL : r.nL ≤ 9223372036854775807
  lR : r.nR ≤ 9223372036854775807
  lD : r.drifts.length ≤ 9223372036854775807
  lM : r.modes.length ≤ 9223372036854775807
theorem RoundN.In.below {r : RoundN} {a : RoundAt} {w w' : World} (h : r.In a w) (hb : Below w.heap.size w w') : r.In a w' := ⟨h.losses.below hb, h.reads.below hb, h.drifts.below hb, h.modes.below hb, h.ints, h.lL, h.lR, h.lD, h.lM⟩

theorem RoundN.In.low {r : RoundN} {a : RoundAt} {w : World} (h : r.In a w) : ∀ b off, a.ma = some ⟨b, off, Option.none⟩ → 0 < r.modes.length → b < w.heap.size := fun b off e h0 => by
  obtain ⟨b', off', e', hl, _⟩ := h.modes h0
  rw [e] at e'
  injection e' with e'
  injection e' with e'
  rw [e']
  exact hl
/-- What Put and Receive make of all. -/
def ClS.put (s : ClS) (p : PlanN) (k : Nat) (d : ByteArray) : ClS where
  nodes := s.nodes
  links := fun j => if j = k then { all := putAll (putK ((s.links k).all.length - (s.links k).went) (p.lq k) d) (s.links k).all d, went := (s.links k).went, last := (s.links k).last, now := (s.links k).now } else s.links j
  newest := s.newest
  ports := s.ports
def ClS.putK (s : ClS) (p : PlanN) (k : Nat) (d : ByteArray) : Int := Go.Proofs.YtdmokcnoljlogaaGreatDoor.putK ((s.links k).all.length - (s.links k).went) (p.lq k) d
def ClS.recv (s : ClS) (k j : Nat) : ClS where
  nodes := s.nodes
  links := s.links
  newest := s.newest
  ports := fun k' j' => if k' = k ∧ j' = j then (s.ports k j).tail else s.ports k' j'

/-- The contracts. Clu w O C p fa cs s rd T: at C lies a cluster, its blocks O; by the plan p; fa are faulty; clocks show cs; all else is s; rd rounds were played; T calls were made. -/
structure CluOps (Clu : World → List Nat → Nat → PlanN → Int → List Int → ClS → Int → Nat → Prop) : Prop where
  chk : ∀ (p : PlanN) (a : PlanAt) (w : World), p.In a w → ∃ E I, p.Is E I ∧ Calls Tryz.prog 16 #[p.val a] w fun e w' => ∃ V, e = .returned V ∧ ErrIs w' V E I ∧ Below w.heap.size w w'
  ok : ∀ {w : World} {O : List Nat} {C : Nat} {p : PlanN} {fa : Int} {cs : List Int} {s : ClS} {rd : Int} {T : Nat}, Clu w O C p fa cs s rd T → CluOk p fa cs ∧ 0 ≤ rd ∧ rd ≤ T
  lt : ∀ {w : World} {O : List Nat} {C : Nat} {p : PlanN} {fa : Int} {cs : List Int} {s : ClS} {rd : Int} {T : Nat}, Clu w O C p fa cs s rd T → ∀ c, c ∈ O → c < w.heap.size
  keep : ∀ {w w' : World} {O : List Nat} {C : Nat} {p : PlanN} {fa : Int} {cs : List Int} {s : ClS} {rd : Int} {T : Nat}, Clu w O C p fa cs s rd T → Same O w w' → Clu w' O C p fa cs s rd T
  new : ∀ (p : PlanN) (a : PlanAt) (fa : Int) (ca : Option Addr) (cap : Nat) (cs : List Int) (w : World), p.In a w → IntRow w ca cs → cs.length ≤ 9223372036854775807 → -9223372036854775808 ≤ fa → fa ≤ 9223372036854775807 →
    Calls Tryz.prog 14 #[p.val a, .int .i64 fa, .slice ca cs.length cap] w fun e w' => Below w.heap.size w w' ∧ ∃ K I, NewIs p fa cs K I ∧ ((K ≠ 0 ∧ ∃ E, e = .returned (.tuple #[.pointer none, E]) ∧ ErrIs w' E K I) ∨ (K = 0 ∧ ∃ O C, e = .returned (.tuple #[.pointer (some ⟨C, 0, none⟩), .nilIface]) ∧ Clu w' O C p fa cs ClS.start 0 0 ∧ ∀ c, c ∈ O → w.heap.size ≤ c))
  play : ∀ {w : World} {O : List Nat} {C : Nat} {p : PlanN} {fa : Int} {cs : List Int} {s : ClS} {rd : Int} {T : Nat} (r : RoundN) (a : RoundAt), Clu w O C p fa cs s rd T → T ≤ 3000 → r.In a w → (∀ b off, a.ma = some ⟨b, off, none⟩ → 0 < r.modes.length → b ∉ O) →
    Calls Tryz.prog 8 #[.pointer (some ⟨C, 0, none⟩), r.val a] w fun e w' => ∃ O', Foot O O' w w' ∧ ((cluFar p fa cs r = true ∧ e = .returned (errV 6) ∧ Clu w' O' C p fa cs s rd T) ∨ (cluFar p fa cs r = false ∧ e = .returned (errV 0) ∧ Clu w' O' C p fa (cluTo p fa cs r) (cluOn p fa s rd r) (rd + 1) (T + 1)))
  put_bad : ∀ {w : World} {O : List Nat} {C : Nat} {p : PlanN} {fa : Int} {cs : List Int} {s : ClS} {rd : Int} {T : Nat} (k : Int) (d : ByteArray), Clu w O C p fa cs s rd T → ¬ (0 ≤ k ∧ k < p.nl) →
    Calls Tryz.prog 11 #[.pointer (some ⟨C, 0, none⟩), .int .i64 k, .string d] w fun e w' => e = .returned (errV 2) ∧ Below w.heap.size w w'
  put : ∀ {w : World} {O : List Nat} {C : Nat} {p : PlanN} {fa : Int} {cs : List Int} {s : ClS} {rd : Int} {T : Nat} (k : Nat) (d : ByteArray), Clu w O C p fa cs s rd T → T ≤ 3000 → k < p.nl →
    Calls Tryz.prog 11 #[.pointer (some ⟨C, 0, none⟩), .int .i64 k, .string d] w fun e w' => e = .returned (errV (s.putK p k d)) ∧ ∃ O', Foot O O' w w' ∧ Clu w' O' C p fa cs (s.put p k d) rd (T + 1)
  recv_bad : ∀ {w : World} {O : List Nat} {C : Nat} {p : PlanN} {fa : Int} {cs : List Int} {s : ClS} {rd : Int} {T : Nat} (j k : Int), Clu w O C p fa cs s rd T → ¬ ((0 ≤ j ∧ j < p.nodes) ∧ (0 ≤ k ∧ k < p.nl) ∧ bitI (p.lt k.toNat) j.toNat = true) →
    Calls Tryz.prog 12 #[.pointer (some ⟨C, 0, none⟩), .int .i64 j, .int .i64 k] w fun e w' => e = .returned (.tuple #[.string ByteArray.empty, errV 2]) ∧ Below w.heap.size w w'
  recv : ∀ {w : World} {O : List Nat} {C : Nat} {p : PlanN} {fa : Int} {cs : List Int} {s : ClS} {rd : Int} {T : Nat} (j k : Nat), Clu w O C p fa cs s rd T → j < p.n → k < p.nl → bitI (p.lt k) j = true →
    Calls Tryz.prog 12 #[.pointer (some ⟨C, 0, none⟩), .int .i64 j, .int .i64 k] w fun e w' => e = .returned (.tuple #[.string (recvD (s.ports k j)), errV (recvK (s.ports k j))]) ∧ ∃ O', Foot O O' w w' ∧ Clu w' O' C p fa cs (s.recv k j) rd T
  spread : ∀ {w : World} {O : List Nat} {C : Nat} {p : PlanN} {fa : Int} {cs : List Int} {s : ClS} {rd : Int} {T : Nat}, Clu w O C p fa cs s rd T →
    Calls Tryz.prog 10 #[.pointer (some ⟨C, 0, none⟩)] w fun e w' => e = .returned (.int .i64 (spreadL (rightOf fa cs))) ∧ Below w.heap.size w w'
  rounds : ∀ {w : World} {O : List Nat} {C : Nat} {p : PlanN} {fa : Int} {cs : List Int} {s : ClS} {rd : Int} {T : Nat}, Clu w O C p fa cs s rd T →
    Calls Tryz.prog 15 #[.pointer (some ⟨C, 0, none⟩)] w fun e w' => e = .returned (.int .i64 rd) ∧ Below w.heap.size w w'
end Go.Proofs.YtdmokcnoljlogaaGreatDoor

/- The statements' word 'pick'. -/
namespace Go.Proofs.YtdmokcnoljlogaaGreatDoor
open Go.RowKit

/-- What pick answers. -/
def pk (a n : Int) : Int := a % 18446744073709551616 % n
theorem pk_in {a n : Int} (h : 0 < n) : 0 ≤ pk a n ∧ pk a n < n := ⟨Int.emod_nonneg _ (by omega), Int.emod_lt_of_pos _ h⟩
theorem wrap_pk (a n : Int) : (IntKind.u64.wrap a).tmod n = pk a n := by
  have e : IntKind.u64.wrap a = a % 18446744073709551616 := by simp [IntKind.wrap, IntKind.signed, IntKind.bits]
  rw [e, Int.tmod_eq_emod_of_nonneg (Int.emod_nonneg _ (by decide))]
  rfl

set_option maxHeartbeats 1000000 in
theorem pick_any (a n : Int) (h0 : 0 < n) (h1 : n ≤ 9223372036854775807) (w : World) : Calls Tryz.prog 13 #[.int .i64 a, .int .i64 n] w fun e w' => e = .returned (.int .i64 (pk a n)) ∧ w' = w := by
  have hp := pk_in (a := a) h0
  have k1 : (n == 0) = false := by simp; omega
  have e1 := wrap_pk a n
  generalize pk a n = x at *
  go_enter Tryz.func13, Tryz.ntmps13
  go_wp2
  go_ret
  exact ⟨rfl, rfl⟩
end Go.Proofs.YtdmokcnoljlogaaGreatDoor

/- Rows of one's own (plain; of any seat): numbers. -/
namespace Go.Proofs.YtdmokcnoljlogaaGreatDoor
open Go.RowKit

theorem Tryz.infoInt : (Tryz.prog.info? 3).map (fun i => (i.zero, i.size, i.bytes)) = some (some (.int .i64 0), 1, 8) := by kernel_rfl

theorem add_at (b off n : Nat) : (⟨b, off, none⟩ : Addr).add n = ⟨b, off + n, none⟩ := by
  simp [Addr.add]

/-- What is owned stays owned where new memory alone is made. -/
theorem owns_below {w w' : World} {base : Nat} {e : TypeId} {size : Nat} {v : Value} {n : Nat} {xs : List Value} (h : w.ownsRow base e size v n xs) (hb : Below w.heap.size w w') : w'.ownsRow base e size v n xs := by
  obtain ⟨h1, h2⟩ := h
  refine ⟨h1, ?_⟩
  rcases h2 with h2 | ⟨g, cap, cur, rfl, hg, hh, r⟩
  · exact .inl h2
  · refine .inr ⟨g, cap, cur, rfl, hg, ?_, r⟩
    have hlt : g < w.heap.size := by
      rcases Nat.lt_or_ge g w.heap.size with q | q
      · exact q
      · rw [Array.getElem?_eq_none q] at hh; cases hh
    rw [hb.block g hlt]; exact hh

/-- A new row of one cell is owned. -/
theorem owns_lit (w : World) (x : Value) (e : TypeId) : (w.alloc (.cells #[x] e)).ownsRow w.heap.size e 1 (.slice (some ⟨w.heap.size, 0, none⟩) 1 1) 1 [x] :=
  ⟨by simp, .inr ⟨w.heap.size, 1, #[x], rfl, Nat.le_refl _, by show (w.heap.push _)[w.heap.size]? = _; simp, Nat.le_refl _, by simp [maxLen], rfl, rfl⟩⟩
theorem owns_mono {w : World} {base base' : Nat} {e : TypeId} {size : Nat} {v : Value} {n : Nat} {xs : List Value} (h : w.ownsRow base e size v n xs) (hb : base' ≤ base) : w.ownsRow base' e size v n xs := by
  obtain ⟨h1, h2⟩ := h
  refine ⟨h1, ?_⟩
  rcases h2 with h2 | ⟨g, cap, cur, hv, hg, r⟩
  · exact .inl h2
  · exact .inr ⟨g, cap, cur, hv, Nat.le_trans hb hg, r⟩
/-- A row that is owned and has something in it. -/
theorem owns_some {w : World} {base : Nat} {e : TypeId} {v : Value} {n : Nat} {xs : List Value} (h : w.ownsRow base e 1 v n xs) (hn : 1 ≤ n) :
    ∃ g cap, v = .slice (some ⟨g, 0, none⟩) n cap ∧ base ≤ g ∧ ∀ j u, xs[j]? = some u → w.cell? ((⟨g, 0, none⟩ : Addr).add j) = some u := by
  rcases h.2 with ⟨_, h0⟩ | ⟨g, cap, cur, hv, hg, r⟩
  · omega
  · exact ⟨g, cap, hv, hg, fun j u hj => h.cells (g := g) (by rw [hv]; rfl) j u hj⟩

theorem ints_one (l : List Int) : ∀ u ∈ l.map (Value.int .i64), u.oneCell' = true := fun u hu => by
  simp at hu; obtain ⟨a, _, rfl⟩ := hu; rfl
theorem owns_row (w : World) (cur : Array Value) (e : TypeId) (n : Nat) (hn : cur.size = n) (hm : n ≤ maxLen) (base : Nat) (hb : base ≤ w.heap.size) : (w.alloc (.cells cur e)).ownsRow base e 1 (.slice (some ⟨w.heap.size, 0, none⟩) n n) n cur.toList :=
  ⟨by simp [hn], .inr ⟨w.heap.size, n, cur, rfl, hb, by show (w.heap.push _)[w.heap.size]? = _; simp, Nat.le_refl _, hm, by omega, List.take_of_length_le (by simp [hn])⟩⟩
theorem row_cells (w : World) (cur : Array Value) (e : TypeId) : ∀ j u, cur.toList[j]? = some u → (w.alloc (.cells cur e)).cell? ((⟨w.heap.size, 0, none⟩ : Addr).add j) = some u := by
  intro j u hj
  rw [add_at]
  simp at hj ⊢
  simpa using hj
end Go.Proofs.YtdmokcnoljlogaaGreatDoor

/- Rows of rounds in memory; how far numbers are apart (ahead of stage 9). -/
namespace Go.Proofs.YtdmokcnoljlogaaGreatDoor
open Go.RowKit

/-- A row of rounds in memory. -/
def RoundsIn (w : World) (a : Option Addr) (n : Nat) (R : Nat → RoundN) (A : Nat → RoundAt) : Prop :=
  0 < n → ∃ b off, a = some ⟨b, off, none⟩ ∧ b < w.heap.size ∧ ∀ j, j < n → (w.cell? ⟨b, off + j * 4, none⟩ = some (.slice (A j).la (R j).nL (A j).lc) ∧ w.cell? ⟨b, off + j * 4 + 1, none⟩ = some (.slice (A j).ra (R j).nR (A j).rc) ∧ w.cell? ⟨b, off + j * 4 + 2, none⟩ = some (.slice (A j).da (R j).drifts.length (A j).dc) ∧ w.cell? ⟨b, off + j * 4 + 3, none⟩ = some (.slice (A j).ma (R j).modes.length (A j).mc)) ∧ (R j).In (A j) w
theorem RoundsIn.below {w w' : World} {a : Option Addr} {n : Nat} {R : Nat → RoundN} {A : Nat → RoundAt} (h : RoundsIn w a n R A) (hb : Below w.heap.size w w') : RoundsIn w' a n R A := by
  intro hn
  obtain ⟨b, off, e, hl, hc⟩ := h hn
  refine ⟨b, off, e, Nat.lt_of_lt_of_le hl hb.size, fun j hj => ⟨⟨?_, ?_, ?_, ?_⟩, (hc j hj).2.below hb⟩⟩
  · exact (hb.cell (p := ⟨b, off + j * 4, none⟩) hl).trans (hc j hj).1.1
  · exact (hb.cell (p := ⟨b, off + j * 4 + 1, none⟩) hl).trans (hc j hj).1.2.1
  · exact (hb.cell (p := ⟨b, off + j * 4 + 2, none⟩) hl).trans (hc j hj).1.2.2.1
  · exact (hb.cell (p := ⟨b, off + j * 4 + 3, none⟩) hl).trans (hc j hj).1.2.2.2
/-- A row of messages that are put ahead of rounds, in memory: the link, the round. -/
def SaysIn (w : World) (a : Option Addr) (n : Nat) (K : Nat → Int) (R : Nat → RoundN) (A : Nat → RoundAt) : Prop :=
  0 < n → ∃ b off, a = some ⟨b, off, none⟩ ∧ b < w.heap.size ∧ ∀ j, j < n → (w.cell? ⟨b, off + j * 5, none⟩ = some (.int .i64 (K j)) ∧ w.cell? ⟨b, off + j * 5 + 1, none⟩ = some (.slice (A j).la (R j).nL (A j).lc) ∧ w.cell? ⟨b, off + j * 5 + 2, none⟩ = some (.slice (A j).ra (R j).nR (A j).rc) ∧ w.cell? ⟨b, off + j * 5 + 3, none⟩ = some (.slice (A j).da (R j).drifts.length (A j).dc) ∧ w.cell? ⟨b, off + j * 5 + 4, none⟩ = some (.slice (A j).ma (R j).modes.length (A j).mc)) ∧ (R j).In (A j) w
theorem SaysIn.below {w w' : World} {a : Option Addr} {n : Nat} {K : Nat → Int} {R : Nat → RoundN} {A : Nat → RoundAt} (h : SaysIn w a n K R A) (hb : Below w.heap.size w w') : SaysIn w' a n K R A := by
  intro hn
  obtain ⟨b, off, e, hl, hc⟩ := h hn
  refine ⟨b, off, e, Nat.lt_of_lt_of_le hl hb.size, fun j hj => ⟨⟨?_, ?_, ?_, ?_, ?_⟩, (hc j hj).2.below hb⟩⟩
  · exact (hb.cell (p := ⟨b, off + j * 5, none⟩) hl).trans (hc j hj).1.1
  · exact (hb.cell (p := ⟨b, off + j * 5 + 1, none⟩) hl).trans (hc j hj).1.2.1
  · exact (hb.cell (p := ⟨b, off + j * 5 + 2, none⟩) hl).trans (hc j hj).1.2.2.1
  · exact (hb.cell (p := ⟨b, off + j * 5 + 3, none⟩) hl).trans (hc j hj).1.2.2.2.1
  · exact (hb.cell (p := ⟨b, off + j * 5 + 4, none⟩) hl).trans (hc j hj).1.2.2.2.2
theorem foldl_max_ge (l : List Int) : ∀ x, x ≤ l.foldl max x := by
  induction l with
  | nil => intro x; exact Int.le_refl _
  | cons a l ih =>
    intro x
    have := ih (max x a)
    simp only [List.foldl_cons]
    omega
theorem foldl_min_le (l : List Int) : ∀ x, l.foldl min x ≤ x := by
  induction l with
  | nil => intro x; exact Int.le_refl _
  | cons a l ih =>
    intro x
    have := ih (min x a)
    simp only [List.foldl_cons]
    omega
theorem spreadL_pos (l : List Int) : 0 ≤ spreadL l := by
  have h1 := foldl_max_ge l (l.headD 0)
  have h2 := foldl_min_le l (l.headD 0)
  unfold spreadL
  omega
end Go.Proofs.YtdmokcnoljlogaaGreatDoor

/- Many things side by side, each with blocks of its own (ahead of stage 9): a call on one of them leaves all others as they were. -/
namespace Go.Proofs.YtdmokcnoljlogaaGreatDoor
open Go.RowKit

/-- A family of things, no two of which share a block. -/
structure Fam {I : Type} (w : World) (O : I → List Nat) : Prop where
  lt : ∀ i c, c ∈ O i → c < w.heap.size
  ap : ∀ i j, i ≠ j → Apart (O i) (O j)

section
variable {I : Type} {w w' : World} {O : I → List Nat}
/-- The family behind a call on one of them. -/
def setO [DecidableEq I] (O : I → List Nat) (i : I) (X : List Nat) : I → List Nat := fun j => if j = i then X else O j
theorem setO_at [DecidableEq I] (O : I → List Nat) (i : I) (X : List Nat) : setO O i X i = X := if_pos rfl
theorem setO_not [DecidableEq I] (O : I → List Nat) {i j : I} (X : List Nat) (h : j ≠ i) : setO O i X j = O j := if_neg h
theorem Fam.same (h : Fam w O) {i : I} {X : List Nat} (k : Foot (O i) X w w') {j : I} (hj : j ≠ i) : Same (O j) w w' := k.same (h.ap i j (Ne.symm hj)) (h.lt j)
theorem Fam.step [DecidableEq I] (h : Fam w O) {i : I} {X : List Nat} (k : Foot (O i) X w w') (hX : ∀ c, c ∈ X → c < w'.heap.size) : Fam w' (setO O i X) := by
  refine ⟨fun j c hc => ?_, fun a b hab => ?_⟩
  · by_cases e : j = i
    · subst e; rw [setO_at] at hc; exact hX c hc
    · rw [setO_not _ _ e] at hc; exact Nat.lt_of_lt_of_le (h.lt j c hc) k.size
  · by_cases ea : a = i
    · subst ea
      rw [setO_at, setO_not _ _ (Ne.symm hab)]
      exact k.apart (h.ap a b hab) (h.lt b)
    · rw [setO_not _ _ ea]
      by_cases eb : b = i
      · subst eb
        rw [setO_at]
        exact (k.apart (h.ap b a (Ne.symm hab)) (h.lt a)).symm
      · rw [setO_not _ _ eb]
        exact h.ap a b hab
theorem Fam.below (h : Fam w O) (k : Below w.heap.size w w') : Fam w' O ∧ ∀ i, Same (O i) w w' :=
  ⟨⟨fun i c hc => Nat.lt_of_lt_of_le (h.lt i c hc) k.size, h.ap⟩, fun i => Same.of_below k (h.lt i)⟩
theorem Fam.drawn (h : Fam w O) (q : Nat) : Fam (w.drewN q) O := ⟨h.lt, h.ap⟩
/-- A new thing of new blocks. -/
theorem Fam.add [DecidableEq I] (h : Fam w O) {i : I} {X : List Nat} (k : Below w.heap.size w w') (hi : O i = []) (hX : ∀ c, c ∈ X → w.heap.size ≤ c ∧ c < w'.heap.size) : Fam w' (setO O i X) := by
  refine h.step (i := i) ?_ (fun c hc => (hX c hc).2)
  rw [hi]
  exact ⟨k.os, k.tape, k.output, k.size, fun c hc _ => k.block c hc, fun c hc => .inr (hX c hc).1⟩
/-- What a call on one of them turns lies where all of them lie. -/
theorem Fam.low {B : Nat} {w0 : World} (hb : Below B w0 w) (hB : B ≤ w.heap.size) {i : I} {X : List Nat} (k : Foot (O i) X w w') (hl : ∀ i c, c ∈ O i → B ≤ c) : Below B w0 w' ∧ ∀ c, c ∈ X → B ≤ c :=
  ⟨hb.trans (k.below (hl i) hB), k.above (hl i) hB⟩
end
end Go.Proofs.YtdmokcnoljlogaaGreatDoor

/- Rows of one's own: their form; a store elsewhere. -/
namespace Go.Proofs.YtdmokcnoljlogaaGreatDoor
open Go.RowKit

theorem owns_form {w : World} {base n : Nat} {e : TypeId} {v : Value} {xs : List Value} (h : w.ownsRow base e 1 v n xs) : ∃ a cap, v = .slice a n cap := by
  rcases h.2 with ⟨e0, rfl⟩ | ⟨g, cap, cur, hv, _⟩
  · exact ⟨none, 0, e0⟩
  · exact ⟨_, cap, hv⟩

theorem owns_put {w : World} {base : Nat} {e : TypeId} {size : Nat} {v : Value} {n : Nat} {xs : List Value} {b i : Nat} {x : Value} (h : w.ownsRow base e size v n xs) (hb : b < base) : (w.setCell ⟨b, i, none⟩ x).ownsRow base e size v n xs := by
  obtain ⟨h1, h2⟩ := h
  refine ⟨h1, ?_⟩
  rcases h2 with h2 | ⟨g, cap, cur, rfl, hg, hh, r⟩
  · exact .inl h2
  · refine .inr ⟨g, cap, cur, rfl, hg, ?_, r⟩
    rw [← hh]
    have : b ≠ g := by omega
    simp [World.setCell, Array.getElem?_modify, this]
end Go.Proofs.YtdmokcnoljlogaaGreatDoor
