/- A region that draws its order, operation by operation (also where one of them panics): plain forms of the library's steps. -/
import Derived.Test.YtlpojkehbhkdiaaDoorProg
import Derived.Deep.RegionHeld3
import Derived.KernelRfl
import Derived.WalkKit
namespace Go.Proofs.YtlpojkehbhkdiaaDoor


theorem zA {α : Type} (l : List α) (i : Nat) (a : α) : l.toArray.setIfInBounds i a = (l.set i a).toArray := by simp
theorem zB {α : Type} (x : α) (l : List α) (a : α) : (x :: l).set 0 a = a :: l := rfl
theorem zC {α : Type} (x : α) (l : List α) (n : Nat) (a : α) : (x :: l).set (n + 1) a = x :: l.set n a := rfl
theorem opAt {ops : Array Oper} {i : Nat} {o : Oper} {r : List Oper} (h : ops.toList.drop i = o :: r) : ops[i]? = some o := by
  have := congrArg (fun l => l[0]?) h
  simpa using this
section
variable {P : Program} {ops : Array Oper} {Q : Exit → Act → World → Prop} {md : Region.Mode} {S : World → Prop} {fuel : Nat} {listed : Array Bool}
/-- An operation that only reads is taken first. -/
theorem tk (i : Nat) {v : Value} {a b : Act} {w : World} {oi : Oper} {r : List Oper} (hS : S w) (h : wpAnyH P md ops Q S fuel (listed.setIfInBounds i true) b w) (hi : ops.toList.drop i = oi :: r := by exact rfl) (hs : Region.noSelect ops = true := by kernel_rfl) (hf : Region.free md ops listed i = true := by kernel_rfl) (hr : (Region.ready md ops listed).contains i = true := by kernel_rfl) (hQ : ∀ c a w, Q (.panic c) (a.put oi.dst v) w → Q (.panic c) a w := by exact fun _ _ _ h => h) (hy : YieldsIf P ops S oi v a := by exact Or.inl ⟨by rfl, by (intro w hSw; (try dsimp only at hSw); go_simp <;> with_reducible rfl)⟩) (hb : a.put oi.dst v = b := by (simp only [Act.put, zA, zB, zC]; exact rfl)) : wpAnyH P md ops Q S (fuel + 1) listed a w := wpAnyH_take (opAt hi) hs hf hr hQ hy hS (hb ▸ h)
/-- The one that is ready comes. -/
theorem rdy (i : Nat) {o : Oper} {r : List Oper} {a : Act} {w : World} (h : ∀ K' : Act → World → Prop, Shut (∀ a w, S w → (S w → wpAnyH P md ops Q S fuel (listed.setIfInBounds i true) a w) → K' a w) → if Region.wanted o (yielded ops a.tmps) = true then Oper.wp P o a w K' Q else K' (a.put o.dst undef) w) (ho : ops.toList.drop i = o :: r := by exact rfl) (hr : Region.ready md ops listed = [i] := by kernel_rfl) : wpAnyH P md ops Q S (fuel + 1) listed a w := wpAnyH_ready hr (by simp) (AllReadyH.cons (opAt ho) h AllReadyH.nil)
/-- Either of two that are ready comes. -/
theorem rd2 (i j : Nat) {o p : Oper} {r s : List Oper} {a : Act} {w : World} (h : ∀ K' : Act → World → Prop, Shut (∀ a w, S w → (S w → wpAnyH P md ops Q S fuel (listed.setIfInBounds i true) a w) → K' a w) → if Region.wanted o (yielded ops a.tmps) = true then Oper.wp P o a w K' Q else K' (a.put o.dst undef) w) (k : ∀ K' : Act → World → Prop, Shut (∀ a w, S w → (S w → wpAnyH P md ops Q S fuel (listed.setIfInBounds j true) a w) → K' a w) → if Region.wanted p (yielded ops a.tmps) = true then Oper.wp P p a w K' Q else K' (a.put p.dst undef) w) (ho : ops.toList.drop i = o :: r := by exact rfl) (hp : ops.toList.drop j = p :: s := by exact rfl) (hr : Region.ready md ops listed = [i, j] := by kernel_rfl) : wpAnyH P md ops Q S (fuel + 1) listed a w := wpAnyH_ready hr (by simp) (AllReadyH.cons (opAt ho) h (AllReadyH.cons (opAt hp) k AllReadyH.nil))
/-- Behind it all goes on. -/
theorem kp {K : Act → World → Prop} {a b : Act} {w : World} (hK : Shut (∀ a w, S w → (S w → wpAnyH P md ops Q S fuel listed a w) → K a w)) (h : S w → wpAnyH P md ops Q S fuel listed b w) (hs : S w := by ((try dsimp only); go_keep)) (hb : a = b := by ((try simp only [Act.put, zA, zB, zC]); exact rfl)) : K a w := hK.out _ _ hs (hb ▸ h)
theorem dn {a : Act} {w : World} (h : Q .normal a w) (hr : Region.ready md ops listed = [] := by kernel_rfl) : wpAnyH P md ops Q S fuel listed a w := wpAnyH_done hr h _
end
end Go.Proofs.YtlpojkehbhkdiaaDoor
