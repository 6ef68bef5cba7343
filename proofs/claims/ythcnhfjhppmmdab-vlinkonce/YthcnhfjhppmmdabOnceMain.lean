/- VlinkOnce's memory while messages come: the receiver, what went, what is lost, how far each channel is, what was told. -/
import Derived.Test.YthcnhfjhppmmdabOnceLost
import Derived.Test.YthcnhfjhppmmdabOwnPut
namespace Go.Proofs.Ythcnhfjhppmmdab
open Go.RowKit

def gotCells (got : List Nat) : List Value := got.map fun x : Nat => Value.int .i64 (x : Int)

theorem own_items {w : World} {base n : Nat} {v : Value} {dd : Nat → ByteArray} (h : w.ownsRow base 67 2 v n (itemCells dd n)) (hn : 0 < n) : ∃ IB cap, v = .slice (some ⟨IB, 0, none⟩) n cap ∧ base ≤ IB ∧ IB < w.heap.size ∧ ∀ j, j < n → w.cell? ⟨IB, j * 2, none⟩ = some (.int .i64 (ordN j)) ∧ w.cell? ⟨IB, j * 2 + 1, none⟩ = some (.string (dd j)) := by
  rcases h.2 with ⟨_, h0⟩ | ⟨g, cap, cur, hv, hg, r⟩
  · omega
  · have hb : v.ownBlock = some g := by rw [hv]; rfl
    refine ⟨g, cap, hv, hg, (h.lt g hb).2, fun j hj => ?_⟩
    obtain ⟨h1, h2⟩ := itemCells_at dd hj
    have c1 := h.cells (g := g) hb (j * 2) _ h1
    have c2 := h.cells (g := g) hb (j * 2 + 1) _ h2
    rw [add_at, Nat.zero_add] at c1 c2
    exact ⟨c1, c2⟩

structure Mn (w wr : World) (IB LB AB G n : Nat) (dd : Nat → ByteArray) (L0 L1 : Nat → Bool) (OR : List Nat) (PR : Nat) (a0 a1 : Nat) (got : List Nat) (gv : Value) (ta tb : Int) : Prop where
  r : Rcv wr OR PR (numV got) ta tb
  i0 : ∀ j, j < n → wr.cell? ⟨IB, j * 2, none⟩ = some (.int .i64 (ordN j)) ∧ wr.cell? ⟨IB, j * 2 + 1, none⟩ = some (.string (dd j))
  l0 : ∀ j, j < n → wr.cell? ⟨LB, j, none⟩ = some (.int .i64 (LV (L0 j) (L1 j)))
  c0 : wr.cell? ⟨AB, 0, none⟩ = some (.int .i64 a0)
  c1 : wr.cell? ⟨AB, 1, none⟩ = some (.int .i64 a1)
  z : ∀ i, wr.frozen? ⟨AB, i, none⟩ = false
  own : wr.ownsRow G 3 1 gv got.length (gotCells got)
  ni : IB ∉ OR
  nl : LB ∉ OR
  na : AB ∉ OR
  ng : ∀ g, gv.ownBlock = some g → g ∉ OR
  nAI : AB ≠ IB
  nAL : AB ≠ LB
  gi : IB < G
  gl : LB < G
  ga : AB < G
  gs : G ≤ wr.heap.size
  lr : ∀ c, c ∈ OR → w.heap.size ≤ c
  la : w.heap.size ≤ AB
  lg : w.heap.size ≤ G
  old : Below w.heap.size w wr
section
variable {w wr w' : World} {IB LB AB G n : Nat} {dd : Nat → ByteArray} {L0 L1 : Nat → Bool} {OR OR' : List Nat} {PR : Nat} {a0 a1 : Nat} {got : List Nat} {gv gv' : Value} {ta tb ta' tb' : Int}

theorem Mn.drawn (h : Mn w wr IB LB AB G n dd L0 L1 OR PR a0 a1 got gv ta tb) (q : Nat) : Mn w (wr.drewN q) IB LB AB G n dd L0 L1 OR PR a0 a1 got gv ta tb :=
  ⟨h.r.keep ⟨Nat.le_refl _, fun _ _ => rfl⟩, h.i0, h.l0, h.c0, h.c1, h.z, h.own, h.ni, h.nl, h.na, h.ng, h.nAI, h.nAL, h.gi, h.gl, h.ga, h.gs, h.lr, h.la, h.lg, ⟨h.old.os, h.old.tape, h.old.output, h.old.size, h.old.block⟩⟩
theorem Mn.step (h : Mn w wr IB LB AB G n dd L0 L1 OR PR a0 a1 got gv ta tb) (c x : Nat) (hc : c ≤ 1) : Mn w (wr.setCell ⟨AB, c, none⟩ (.int .i64 x)) IB LB AB G n dd L0 L1 OR PR (if c = 0 then x else a0) (if c = 0 then a1 else x) got gv ta tb := by
  have ht : Turns AB AB wr (wr.setCell ⟨AB, c, none⟩ (.int .i64 x)) := (Turns.refl _ _ _).set (p := ⟨AB, c, none⟩) (.inl rfl) _
  have hl := h.ga
  have hg := h.gs
  refine ⟨h.r.keep ⟨ht.size, fun k hk => ht.block k (h.r.lt k hk) (fun e => h.na (e ▸ hk)) (fun e => h.na (e ▸ hk))⟩, fun j hj => ⟨(cell_other (.inl (Ne.symm h.nAI))).trans (h.i0 j hj).1, (cell_other (.inl (Ne.symm h.nAI))).trans (h.i0 j hj).2⟩, fun j hj => (cell_other (.inl (Ne.symm h.nAL))).trans (h.l0 j hj), ?_, ?_, fun i => soft_set.trans (h.z i), owns_put h.own h.ga, h.ni, h.nl, h.na, h.ng, h.nAI, h.nAL, h.gi, h.gl, h.ga, by simpa using h.gs, h.lr, h.la, h.lg, h.old.trans (ht.below h.old.size h.la h.la)⟩
  · by_cases e : c = 0
    · subst e; rw [if_pos rfl]; exact cell_set h.c0
    · rw [if_neg e]; exact (cell_other (.inr (by omega))).trans h.c0
  · by_cases e : c = 0
    · subst e; rw [if_pos rfl]; exact (cell_other (.inr (by decide))).trans h.c1
    · rw [if_neg e]
      obtain rfl : c = 1 := by omega
      exact cell_set h.c1
/-- Behind a Take. -/
theorem Mn.take (h : Mn w wr IB LB AB G n dd L0 L1 OR PR a0 a1 got gv ta tb) (f : Foot OR OR' wr w') {nw : Int} (hr : Rcv w' OR' PR nw ta' tb') :
    (∀ j, j < n → w'.cell? ⟨IB, j * 2, none⟩ = some (.int .i64 (ordN j)) ∧ w'.cell? ⟨IB, j * 2 + 1, none⟩ = some (.string (dd j))) ∧ (nw = numV got → Mn w w' IB LB AB G n dd L0 L1 OR' PR a0 a1 got gv ta' tb') := by
  have hI : IB < wr.heap.size := Nat.lt_of_lt_of_le h.gi h.gs
  have hL : LB < wr.heap.size := Nat.lt_of_lt_of_le h.gl h.gs
  have hA : AB < wr.heap.size := Nat.lt_of_lt_of_le h.ga h.gs
  have hic : ∀ j, j < n → w'.cell? ⟨IB, j * 2, none⟩ = some (.int .i64 (ordN j)) ∧ w'.cell? ⟨IB, j * 2 + 1, none⟩ = some (.string (dd j)) := fun j hj => ⟨(f.cell (p := ⟨IB, j * 2, none⟩) hI h.ni).trans (h.i0 j hj).1, (f.cell (p := ⟨IB, j * 2 + 1, none⟩) hI h.ni).trans (h.i0 j hj).2⟩
  have out : ∀ x, x < wr.heap.size → x ∉ OR → x ∉ OR' := fun x hx hn y => (f.fresh x y).elim hn (fun z => by omega)
  refine ⟨hic, fun e => ?_⟩
  rw [e] at hr
  refine ⟨hr, hic, fun j hj => (f.cell (p := ⟨LB, j, none⟩) hL h.nl).trans (h.l0 j hj), (f.cell (p := ⟨AB, 0, none⟩) hA h.na).trans h.c0, (f.cell (p := ⟨AB, 1, none⟩) hA h.na).trans h.c1, fun i => (f.frozen (p := ⟨AB, i, none⟩) hA h.na).trans (h.z i), ?_, out _ hI h.ni, out _ hL h.nl, out _ hA h.na, fun g hg => out g (h.own.lt g hg).2 (h.ng g hg), h.nAI, h.nAL, h.gi, h.gl, h.ga, Nat.le_trans h.gs f.size, f.above h.lr h.old.size, h.la, h.lg, h.old.trans (f.below h.lr h.old.size)⟩
  exact owns_same (X := gv.ownBlock.toList) h.own (f.same (fun c hc hx => h.ng c (by simpa using hx) hc) (fun c hc => (h.own.lt c (by simpa using hc)).2)) (fun g hg => by simpa using hg)
/-- Told, and set down. -/
theorem Mn.told {wt : World} {k : Nat} {o : Obj} (h : Mn w wr IB LB AB G n dd L0 L1 OR PR a0 a1 got gv ta tb) (f : Foot OR OR' wr wt) (hr : Rcv wt OR' PR (ordN k) ta' tb')
    (ho : w'.ownsRow G 3 1 gv' (got.length + 1) (gotCells got ++ [.int .i64 (k : Int)])) (hg : (wt.alloc o).grownBy w' gv.ownBlock) (hat : gv'.ownBlock = gv.ownBlock ∨ gv'.ownBlock = some (wt.alloc o).heap.size) :
    Mn w w' IB LB AB G n dd L0 L1 OR' PR a0 a1 (got ++ [k]) gv' ta' tb' := by
  have hgs := h.gs
  have hfs := f.size
  have hI : IB < wr.heap.size := Nat.lt_of_lt_of_le h.gi h.gs
  have hL : LB < wr.heap.size := Nat.lt_of_lt_of_le h.gl h.gs
  have hA : AB < wr.heap.size := Nat.lt_of_lt_of_le h.ga h.gs
  have out : ∀ x, x < wr.heap.size → x ∉ OR → x ∉ OR' := fun x hx hn y => (f.fresh x y).elim hn (fun z => by omega)
  have hX : ∀ g, gv.ownBlock = some g → G ≤ g ∧ g < wr.heap.size := fun g hg => h.own.lt g hg
  have hAl : Below wt.heap.size wt (wt.alloc o) := (Below.refl _ _).alloc (Nat.le_refl _) _
  have hs1 : (wt.alloc o).heap.size = wt.heap.size + 1 := by simp
  -- from wt on nothing but the row of what was told is turned
  have blk : ∀ c, c < wt.heap.size → gv.ownBlock ≠ some c → w'.heap[c]? = wt.heap[c]? := fun c hc hn => (hg.block c (by omega) (Ne.symm hn)).trans (hAl.block c hc)
  have far : ∀ c, c < G → gv.ownBlock ≠ some c := fun c hc e => by have := (hX c e).1; omega
  have cel : ∀ (b i : Nat), b < G → b ∉ OR → b < wr.heap.size → w'.cell? ⟨b, i, none⟩ = wr.cell? ⟨b, i, none⟩ := fun b i h1 h2 h3 => (World.cell?_of_block (a := ⟨b, i, none⟩) (blk b (by omega) (far b h1))).trans (f.cell (p := ⟨b, i, none⟩) h3 h2)
  have frz : ∀ (b i : Nat), b < G → b ∉ OR → b < wr.heap.size → w'.frozen? ⟨b, i, none⟩ = wr.frozen? ⟨b, i, none⟩ := fun b i h1 h2 h3 => (World.frozen?_of_block (a := ⟨b, i, none⟩) (blk b (by omega) (far b h1))).trans (f.frozen (p := ⟨b, i, none⟩) h3 h2)
  have hbT : Below w.heap.size w wt := h.old.trans (f.below h.lr h.old.size)
  have hsz : wt.heap.size ≤ w'.heap.size := Nat.le_trans hAl.size hg.size
  refine ⟨?_, fun j hj => ⟨(cel IB _ h.gi h.ni hI).trans (h.i0 j hj).1, (cel IB _ h.gi h.ni hI).trans (h.i0 j hj).2⟩, fun j hj => (cel LB _ h.gl h.nl hL).trans (h.l0 j hj), (cel AB _ h.ga h.na hA).trans h.c0, (cel AB _ h.ga h.na hA).trans h.c1, fun i => (frz AB i h.ga h.na hA).trans (h.z i), ?_, out _ hI h.ni, out _ hL h.nl, out _ hA h.na, fun g hg' => ?_, h.nAI, h.nAL, h.gi, h.gl, h.ga, by omega, f.above h.lr h.old.size, h.la, h.lg, ?_⟩
  · rw [numV_snoc]
    refine hr.keep ⟨hsz, fun c hc => blk c (hr.lt c hc) (fun e => ?_)⟩
    exact out c (hX c e).2 (h.ng c e) hc
  · have e1 : (got ++ [k]).length = got.length + 1 := by simp
    have e2 : gotCells (got ++ [k]) = gotCells got ++ [.int .i64 (k : Int)] := by simp [gotCells]
    rw [e1, e2]; exact ho
  · rcases hat with y | y
    · have y2 := y.symm.trans hg'
      exact out g (hX g y2).2 (h.ng g y2)
    · have : g = (wt.alloc o).heap.size := by rw [y] at hg'; injection hg' with e; exact e.symm
      intro z
      have := hr.lt g z
      omega
  · have hb : Below G wt w' := ((Below.refl _ _).alloc (by omega) o).grown hg (by omega) (fun g hg => (hX g hg).1)
    exact hbT.trans (hb.mono h.lg)
end
end Go.Proofs.Ythcnhfjhppmmdab
