/- ClusterApart's state: two clusters side by side, and what each call does to them (ahead of stage 9). -/
import Derived.Test.YtdmokcnoljlogaaGreatDoorWordsB
import Derived.Test.YtdmokcnoljlogaaGreatDoorWordsA
namespace Go.Proofs.YtdmokcnoljlogaaGreatDoor
open Go.RowKit

/-- Two clusters by one plan: R says how what they have is alike; the first one has played D rounds more. -/
structure AptSt (Clu : World → List Nat → Nat → PlanN → Int → List Int → ClS → Int → Nat → Prop) (w : World) (base Ca Cb : Nat) (p : PlanN) (fa : Int) (D : Int) (R : Int → ClS → ClS → Prop) (X : Nat → Prop) (B : Nat) : Prop where
  ex : ∃ Oa Ob ca cb sa sb rd Ta Tb, Clu w Oa Ca p fa ca sa (rd + D) Ta ∧ Clu w Ob Cb p fa cb sb rd Tb ∧ Apart Oa Ob ∧ (∀ c, c ∈ Oa → base ≤ c) ∧ (∀ c, c ∈ Ob → base ≤ c) ∧ Ta ≤ B ∧ Tb ≤ B ∧ R rd sa sb ∧ ∀ c, X c → c < w.heap.size ∧ c ∉ Oa ∧ c ∉ Ob
section
variable {Clu : World → List Nat → Nat → PlanN → Int → List Int → ClS → Int → Nat → Prop} {w w' : World} {base Ca Cb : Nat} {p : PlanN} {fa D : Int} {R R' : Int → ClS → ClS → Prop} {X : Nat → Prop} {B B' : Nat}
theorem AptSt.below (ops : CluOps Clu) (h : AptSt Clu w base Ca Cb p fa D R X B) (hb : Below w.heap.size w w') : AptSt Clu w' base Ca Cb p fa D R X B := by
  obtain ⟨Oa, Ob, ca, cb, sa, sb, rd, Ta, Tb, h1, h2, h3, h4, h5, h6, h7, h8, h9⟩ := h.ex
  exact ⟨Oa, Ob, ca, cb, sa, sb, rd, Ta, Tb, ops.keep h1 (Same.of_below hb (ops.lt h1)), ops.keep h2 (Same.of_below hb (ops.lt h2)), h3, h4, h5, h6, h7, h8, fun c hc => ⟨Nat.lt_of_lt_of_le (h9 c hc).1 hb.size, (h9 c hc).2⟩⟩
theorem AptSt.weaken (h : AptSt Clu w base Ca Cb p fa D R X B) (hR : ∀ rd x y, R rd x y → R' rd x y) (hB : B ≤ B') : AptSt Clu w base Ca Cb p fa D R' X B' := by
  obtain ⟨Oa, Ob, ca, cb, sa, sb, rd, Ta, Tb, h1, h2, h3, h4, h5, h6, h7, h8, h9⟩ := h.ex
  exact ⟨Oa, Ob, ca, cb, sa, sb, rd, Ta, Tb, h1, h2, h3, h4, h5, by omega, by omega, hR _ _ _ h8, h9⟩
theorem AptSt.fact (h : AptSt Clu w base Ca Cb p fa D R X B) : ∃ rd x y, R rd x y := by
  obtain ⟨Oa, Ob, ca, cb, sa, sb, rd, Ta, Tb, h1, h2, h3, h4, h5, h6, h7, h8, h9⟩ := h.ex
  exact ⟨_, _, _, h8⟩
/-- New memory is watched: no call on them turns it. -/
theorem AptSt.watch (ops : CluOps Clu) (h : AptSt Clu w base Ca Cb p fa D R X B) (hb : Below w.heap.size w w') (X' : Nat → Prop) (hX : ∀ c, X' c → c < w'.heap.size ∧ (w.heap.size ≤ c ∨ X c)) : AptSt Clu w' base Ca Cb p fa D R X' B := by
  obtain ⟨Oa, Ob, ca, cb, sa, sb, rd, Ta, Tb, h1, h2, h3, h4, h5, h6, h7, h8, h9⟩ := h.ex
  refine ⟨Oa, Ob, ca, cb, sa, sb, rd, Ta, Tb, ops.keep h1 (Same.of_below hb (ops.lt h1)), ops.keep h2 (Same.of_below hb (ops.lt h2)), h3, h4, h5, h6, h7, h8, fun c hc => ⟨(hX c hc).1, ?_⟩⟩
  rcases (hX c hc).2 with q | q
  · exact ⟨fun y => by have := ops.lt h1 c y; omega, fun y => by have := ops.lt h2 c y; omega⟩
  · exact (h9 c q).2
theorem AptSt.putA (ops : CluOps Clu) (h : AptSt Clu w base Ca Cb p fa D R X B) (hB : B ≤ 3000) (hba : base ≤ w.heap.size) (k : Nat) (hk : k < p.nl) (d : ByteArray) :
    Calls Tryz.prog 11 #[.pointer (some ⟨Ca, 0, none⟩), .int .i64 k, .string d] w fun e w' => ∃ K, e = .returned (errV K) ∧ AptSt Clu w' base Ca Cb p fa D (fun rd x y => ∃ x0, R rd x0 y ∧ x = x0.put p k d ∧ K = x0.putK p k d) X (B + 1) ∧ Below base w w' ∧ ∀ c, X c → w'.heap[c]? = w.heap[c]? := by
  obtain ⟨Oa, Ob, ca, cb, sa, sb, rd, Ta, Tb, h1, h2, h3, h4, h5, h6, h7, h8, h9⟩ := h.ex
  refine (ops.put k d h1 (by omega) hk).mono ?_
  rintro e w' ⟨rfl, O', hf, hC⟩
  refine ⟨_, rfl, ⟨O', Ob, ca, cb, _, sb, rd, Ta + 1, Tb, hC, ops.keep h2 (hf.same h3 (ops.lt h2)), hf.apart h3 (ops.lt h2), hf.above h4 hba, h5, by omega, by omega, ⟨sa, h8, rfl, rfl⟩, fun c hc => ⟨Nat.lt_of_lt_of_le (h9 c hc).1 hf.size, fun y => ?_, (h9 c hc).2.2⟩⟩, hf.below h4 hba, fun c hc => hf.block c (h9 c hc).1 (h9 c hc).2.1⟩
  rcases hf.fresh c y with q | q
  · exact (h9 c hc).2.1 q
  · have := (h9 c hc).1; omega
theorem AptSt.putB (ops : CluOps Clu) (h : AptSt Clu w base Ca Cb p fa D R X B) (hB : B ≤ 3000) (hba : base ≤ w.heap.size) (k : Nat) (hk : k < p.nl) (d : ByteArray) :
    Calls Tryz.prog 11 #[.pointer (some ⟨Cb, 0, none⟩), .int .i64 k, .string d] w fun e w' => ∃ K, e = .returned (errV K) ∧ AptSt Clu w' base Ca Cb p fa D (fun rd x y => ∃ y0, R rd x y0 ∧ y = y0.put p k d ∧ K = y0.putK p k d) X (B + 1) ∧ Below base w w' ∧ ∀ c, X c → w'.heap[c]? = w.heap[c]? := by
  obtain ⟨Oa, Ob, ca, cb, sa, sb, rd, Ta, Tb, h1, h2, h3, h4, h5, h6, h7, h8, h9⟩ := h.ex
  refine (ops.put k d h2 (by omega) hk).mono ?_
  rintro e w' ⟨rfl, O', hf, hC⟩
  refine ⟨_, rfl, ⟨Oa, O', ca, cb, sa, _, rd, Ta, Tb + 1, ops.keep h1 (hf.same h3.symm (ops.lt h1)), hC, (hf.apart h3.symm (ops.lt h1)).symm, h4, hf.above h5 hba, by omega, by omega, ⟨sb, h8, rfl, rfl⟩, fun c hc => ⟨Nat.lt_of_lt_of_le (h9 c hc).1 hf.size, (h9 c hc).2.1, fun y => ?_⟩⟩, hf.below h5 hba, fun c hc => hf.block c (h9 c hc).1 (h9 c hc).2.2⟩
  rcases hf.fresh c y with q | q
  · exact (h9 c hc).2.2 q
  · have := (h9 c hc).1; omega
theorem AptSt.playA (ops : CluOps Clu) (h : AptSt Clu w base Ca Cb p fa D R X B) (hB : B ≤ 3000) (hba : base ≤ w.heap.size) (r : RoundN) (a : RoundAt) (hr : r.In a w) (hm : ∀ b off, a.ma = some ⟨b, off, none⟩ → 0 < r.modes.length → b < base) :
    Calls Tryz.prog 8 #[.pointer (some ⟨Ca, 0, none⟩), r.val a] w fun e w' => ∃ K, e = .returned (errV K) ∧ (Below base w w' ∧ ∀ c, X c → w'.heap[c]? = w.heap[c]?) ∧ ((K = 6 ∧ AptSt Clu w' base Ca Cb p fa D R X (B + 1)) ∨ (K = 0 ∧ AptSt Clu w' base Ca Cb p fa (D + 1) (fun rd x y => ∃ x0, R rd x0 y ∧ x = cluOn p fa x0 (rd + D) r) X (B + 1))) := by
  obtain ⟨Oa, Ob, ca, cb, sa, sb, rd, Ta, Tb, h1, h2, h3, h4, h5, h6, h7, h8, h9⟩ := h.ex
  refine (ops.play r a h1 (by omega) hr (fun b off e0 e1 y => by have := hm b off e0 e1; have := h4 b y; omega)).mono ?_
  rintro e w' ⟨O', hf, hx⟩
  have hw : ∀ c, X c → c < w'.heap.size ∧ c ∉ O' ∧ c ∉ Ob := fun c hc => ⟨Nat.lt_of_lt_of_le (h9 c hc).1 hf.size, fun y => by
    rcases hf.fresh c y with q | q
    · exact (h9 c hc).2.1 q
    · have := (h9 c hc).1; omega, (h9 c hc).2.2⟩
  have hk : Below base w w' ∧ ∀ c, X c → w'.heap[c]? = w.heap[c]? := ⟨hf.below h4 hba, fun c hc => hf.block c (h9 c hc).1 (h9 c hc).2.1⟩
  rcases hx with ⟨_, rfl, hC⟩ | ⟨_, rfl, hC⟩
  · exact ⟨6, rfl, hk, .inl ⟨rfl, O', Ob, ca, cb, sa, sb, rd, Ta, Tb, hC, ops.keep h2 (hf.same h3 (ops.lt h2)), hf.apart h3 (ops.lt h2), hf.above h4 hba, h5, by omega, by omega, h8, hw⟩⟩
  · refine ⟨0, rfl, hk, .inr ⟨rfl, O', Ob, cluTo p fa ca r, cb, _, sb, rd, Ta + 1, Tb, ?_, ops.keep h2 (hf.same h3 (ops.lt h2)), hf.apart h3 (ops.lt h2), hf.above h4 hba, h5, by omega, by omega, ⟨sa, h8, rfl⟩, hw⟩⟩
    rw [← Int.add_assoc]
    exact hC
theorem AptSt.playB (ops : CluOps Clu) (h : AptSt Clu w base Ca Cb p fa D R X B) (hB : B ≤ 3000) (hba : base ≤ w.heap.size) (r : RoundN) (a : RoundAt) (hr : r.In a w) (hm : ∀ b off, a.ma = some ⟨b, off, none⟩ → 0 < r.modes.length → b < base) :
    Calls Tryz.prog 8 #[.pointer (some ⟨Cb, 0, none⟩), r.val a] w fun e w' => ∃ K, e = .returned (errV K) ∧ (Below base w w' ∧ ∀ c, X c → w'.heap[c]? = w.heap[c]?) ∧ ((K = 6 ∧ AptSt Clu w' base Ca Cb p fa D R X (B + 1)) ∨ (K = 0 ∧ AptSt Clu w' base Ca Cb p fa (D - 1) (fun rd x y => ∃ y0, R (rd - 1) x y0 ∧ y = cluOn p fa y0 (rd - 1) r) X (B + 1))) := by
  obtain ⟨Oa, Ob, ca, cb, sa, sb, rd, Ta, Tb, h1, h2, h3, h4, h5, h6, h7, h8, h9⟩ := h.ex
  refine (ops.play r a h2 (by omega) hr (fun b off e0 e1 y => by have := hm b off e0 e1; have := h5 b y; omega)).mono ?_
  rintro e w' ⟨O', hf, hx⟩
  have hw : ∀ c, X c → c < w'.heap.size ∧ c ∉ Oa ∧ c ∉ O' := fun c hc => ⟨Nat.lt_of_lt_of_le (h9 c hc).1 hf.size, (h9 c hc).2.1, fun y => by
    rcases hf.fresh c y with q | q
    · exact (h9 c hc).2.2 q
    · have := (h9 c hc).1; omega⟩
  have hk : Below base w w' ∧ ∀ c, X c → w'.heap[c]? = w.heap[c]? := ⟨hf.below h5 hba, fun c hc => hf.block c (h9 c hc).1 (h9 c hc).2.2⟩
  rcases hx with ⟨_, rfl, hC⟩ | ⟨_, rfl, hC⟩
  · exact ⟨6, rfl, hk, .inl ⟨rfl, Oa, O', ca, cb, sa, sb, rd, Ta, Tb, ops.keep h1 (hf.same h3.symm (ops.lt h1)), hC, (hf.apart h3.symm (ops.lt h1)).symm, h4, hf.above h5 hba, by omega, by omega, h8, hw⟩⟩
  · refine ⟨0, rfl, hk, .inr ⟨rfl, Oa, O', ca, cluTo p fa cb r, sa, _, rd + 1, Ta, Tb + 1, ?_, hC, (hf.apart h3.symm (ops.lt h1)).symm, h4, hf.above h5 hba, by omega, by omega, ⟨sb, ?_, ?_⟩, hw⟩⟩
    · rw [show rd + 1 + (D - 1) = rd + D by omega]
      exact ops.keep h1 (hf.same h3.symm (ops.lt h1))
    · rw [show rd + 1 - 1 = rd by omega]; exact h8
    · rw [show rd + 1 - 1 = rd by omega]
/-- What Receive answers, and makes of all. -/
def recvW (p : PlanN) (s : ClS) (k j : Nat) : ClS := if bitI (p.lt k) j = true then s.recv k j else s
def recvDW (p : PlanN) (s : ClS) (k j : Nat) : ByteArray := if bitI (p.lt k) j = true then recvD (s.ports k j) else ByteArray.empty
def recvKW (p : PlanN) (s : ClS) (k j : Nat) : Int := if bitI (p.lt k) j = true then recvK (s.ports k j) else 2
theorem AptSt.recvA (ops : CluOps Clu) (h : AptSt Clu w base Ca Cb p fa D R X B) (hba : base ≤ w.heap.size) (k j : Nat) (hk : k < p.nl) (hj : j < p.n) :
    Calls Tryz.prog 12 #[.pointer (some ⟨Ca, 0, none⟩), .int .i64 j, .int .i64 k] w fun e w' => ∃ d K, e = .returned (.tuple #[.string d, errV K]) ∧ AptSt Clu w' base Ca Cb p fa D (fun rd x y => ∃ x0, R rd x0 y ∧ x = recvW p x0 k j ∧ d = recvDW p x0 k j ∧ K = recvKW p x0 k j) (fun _ => False) B ∧ Below base w w' := by
  obtain ⟨Oa, Ob, ca, cb, sa, sb, rd, Ta, Tb, h1, h2, h3, h4, h5, h6, h7, h8, h9⟩ := h.ex
  by_cases hb : bitI (p.lt k) j = true
  · refine (ops.recv j k h1 hj hk hb).mono ?_
    rintro e w' ⟨rfl, O', hf, hC⟩
    exact ⟨_, _, rfl, ⟨O', Ob, ca, cb, _, sb, rd, _, Tb, hC, ops.keep h2 (hf.same h3 (ops.lt h2)), hf.apart h3 (ops.lt h2), hf.above h4 hba, h5, h6, h7, ⟨sa, h8, by unfold recvW; rw [if_pos hb], by unfold recvDW; rw [if_pos hb], by unfold recvKW; rw [if_pos hb]⟩, fun _ q => q.elim⟩, hf.below h4 hba⟩
  · refine (ops.recv_bad j k h1 (fun q => hb (by simpa using q.2.2))).mono ?_
    rintro e w' ⟨rfl, hb'⟩
    exact ⟨_, _, rfl, ⟨Oa, Ob, ca, cb, sa, sb, rd, Ta, Tb, ops.keep h1 (Same.of_below hb' (ops.lt h1)), ops.keep h2 (Same.of_below hb' (ops.lt h2)), h3, h4, h5, h6, h7, ⟨sa, h8, by unfold recvW; rw [if_neg hb], by unfold recvDW; rw [if_neg hb], by unfold recvKW; rw [if_neg hb]⟩, fun _ q => q.elim⟩, hb'.mono hba⟩
theorem AptSt.recvB (ops : CluOps Clu) (h : AptSt Clu w base Ca Cb p fa D R X B) (hba : base ≤ w.heap.size) (k j : Nat) (hk : k < p.nl) (hj : j < p.n) :
    Calls Tryz.prog 12 #[.pointer (some ⟨Cb, 0, none⟩), .int .i64 j, .int .i64 k] w fun e w' => ∃ d K, e = .returned (.tuple #[.string d, errV K]) ∧ AptSt Clu w' base Ca Cb p fa D (fun rd x y => ∃ y0, R rd x y0 ∧ y = recvW p y0 k j ∧ d = recvDW p y0 k j ∧ K = recvKW p y0 k j) (fun _ => False) B ∧ Below base w w' := by
  obtain ⟨Oa, Ob, ca, cb, sa, sb, rd, Ta, Tb, h1, h2, h3, h4, h5, h6, h7, h8, h9⟩ := h.ex
  by_cases hb : bitI (p.lt k) j = true
  · refine (ops.recv j k h2 hj hk hb).mono ?_
    rintro e w' ⟨rfl, O', hf, hC⟩
    exact ⟨_, _, rfl, ⟨Oa, O', ca, cb, sa, _, rd, Ta, _, ops.keep h1 (hf.same h3.symm (ops.lt h1)), hC, (hf.apart h3.symm (ops.lt h1)).symm, h4, hf.above h5 hba, h6, h7, ⟨sb, h8, by unfold recvW; rw [if_pos hb], by unfold recvDW; rw [if_pos hb], by unfold recvKW; rw [if_pos hb]⟩, fun _ q => q.elim⟩, hf.below h5 hba⟩
  · refine (ops.recv_bad j k h2 (fun q => hb (by simpa using q.2.2))).mono ?_
    rintro e w' ⟨rfl, hb'⟩
    exact ⟨_, _, rfl, ⟨Oa, Ob, ca, cb, sa, sb, rd, Ta, Tb, ops.keep h1 (Same.of_below hb' (ops.lt h1)), ops.keep h2 (Same.of_below hb' (ops.lt h2)), h3, h4, h5, h6, h7, ⟨sb, h8, by unfold recvW; rw [if_neg hb], by unfold recvDW; rw [if_neg hb], by unfold recvKW; rw [if_neg hb]⟩, fun _ q => q.elim⟩, hb'.mono hba⟩
end

/-- Plain: alike clusters answer alike, and stay alike. -/
theorem alike_put {p : PlanN} {who : Nat} {x y : ClS} (h : Alike1 p.S who x y) {k : Nat} (hk : p.S.lf k = who) (d : ByteArray) : x.putK p k d = y.putK p k d ∧ Alike1 p.S who (x.put p k d) (y.put p k d) := by
  have e := h.l k hk
  refine ⟨by unfold ClS.putK; rw [e], h.n, fun j hj => ?_, h.w, h.q⟩
  show (if j = k then _ else x.links j) = (if j = k then _ else y.links j)
  by_cases q : j = k
  · rw [if_pos q, if_pos q, e]
  · rw [if_neg q, if_neg q]; exact h.l j hj
theorem alike_putA {p : PlanN} {who : Nat} {x y : ClS} (h : Alike1 p.S who x y) {k : Nat} (hk : p.S.lf k ≠ who) (d : ByteArray) : Alike1 p.S who (x.put p k d) y := by
  refine ⟨h.n, fun j hj => ?_, h.w, h.q⟩
  show (if j = k then _ else x.links j) = y.links j
  have hne : j ≠ k := by rintro rfl; exact hk hj
  rw [if_neg hne]
  exact h.l j hj
theorem alike_putB {p : PlanN} {who : Nat} {x y : ClS} (h : Alike1 p.S who x y) {k : Nat} (hk : p.S.lf k ≠ who) (d : ByteArray) : Alike1 p.S who x (y.put p k d) := by
  refine ⟨h.n, fun j hj => ?_, h.w, h.q⟩
  show x.links j = (if j = k then _ else y.links j)
  have hne : j ≠ k := by rintro rfl; exact hk hj
  rw [if_neg hne]
  exact h.l j hj
theorem alike_recv {p : PlanN} {who : Nat} {x y : ClS} (h : Alike1 p.S who x y) {k : Nat} (hk : p.S.lf k = who) (j : Nat) : recvDW p x k j = recvDW p y k j ∧ recvKW p x k j = recvKW p y k j ∧ Alike1 p.S who (recvW p x k j) (recvW p y k j) := by
  have e := h.q k hk
  unfold recvDW recvKW recvW
  by_cases q : bitI (p.lt k) j = true
  · simp only [if_pos q]
    refine ⟨by rw [e], by rw [e], h.n, h.l, h.w, fun k' hk' => ?_⟩
    funext j'
    show (if k' = k ∧ j' = j then (x.ports k j).tail else x.ports k' j') = (if k' = k ∧ j' = j then (y.ports k j).tail else y.ports k' j')
    rw [e, h.q k' hk']
  · simp only [if_neg q]
    exact ⟨trivial, trivial, h⟩
/-- A round without what clocks read. -/
def RoundN.quiet (r : RoundN) : RoundN := ⟨r.nL, r.ls, r.lc, r.lt, 0, fun _ => 0, fun _ => 0, fun _ => 0, [], r.modes⟩
theorem alike_play {p : PlanN} {who : Nat} {x y : ClS} (h : Alike1 p.S who x y) (fa rd : Int) (r : RoundN) : Alike1 p.S who (cluOn p fa x rd r) (cluOn p fa y rd r.quiet) := h.slots (r.hap fa) rd p.ns
end Go.Proofs.YtdmokcnoljlogaaGreatDoor
