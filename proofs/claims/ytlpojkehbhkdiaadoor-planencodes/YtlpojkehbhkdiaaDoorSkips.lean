/- A region that draws its order, where a guard is not met: all that the guard passes over is taken at once (over any program). -/
import Derived.Deep.RegionHeld3
namespace Go.Proofs.YtlpojkehbhkdiaaDoor

/-- These operations may come up, one behind the other, and each is passed over. -/
def skipB (md : Region.Mode) (ops : Array Oper) : Array Bool → List (Nat × Tmp) → Array Value → Bool
  | _, [], _ => true
  | listed, (i, d) :: r, t => match ops[i]? with
    | some o => (o.dst == some d) && !Region.wanted o (yielded ops t) && Region.free md ops listed i && (Region.ready md ops listed).contains i && skipB md ops (listed.setIfInBounds i true) r (t.setIfInBounds d undef)
    | none => false
def skipL (listed : Array Bool) (is : List (Nat × Tmp)) : Array Bool := is.foldl (fun l p => l.setIfInBounds p.1 true) listed
def skipA (a : Act) (is : List (Nat × Tmp)) : Act := is.foldl (fun a p => a.put (some p.2) undef) a

theorem wpAnyH_skips {P : Program} {md : Region.Mode} {ops : Array Oper} {Q : Exit → Act → World → Prop} {S : World → Prop} (hs : Region.noSelect ops = true) (hQ : ∀ c a d w, Q (.panic c) (a.put (some d) undef) w → Q (.panic c) a w) {w : World} (hS : S w) {fuel : Nat} :
    ∀ (is : List (Nat × Tmp)) {listed : Array Bool} {a : Act}, skipB md ops listed is a.tmps = true → wpAnyH P md ops Q S fuel (skipL listed is) (skipA a is) w → wpAnyH P md ops Q S (fuel + is.length) listed a w
  | [], _, _, _, h => h
  | (i, d) :: r, listed, a, hb, h => by
    unfold skipB at hb
    split at hb
    · rename_i o ho
      simp only [Bool.and_eq_true, Bool.not_eq_true', beq_iff_eq] at hb
      obtain ⟨⟨⟨⟨h1, h2⟩, h3⟩, h4⟩, h5⟩ := hb
      have ih := wpAnyH_skips hs hQ hS r (listed := listed.setIfInBounds i true) (a := a.put (some d) undef) h5 h
      refine wpAnyH_take (i := i) (oi := o) (v := undef) ho hs h3 h4 (by rw [h1]; exact fun c a w => hQ c a d w) (Or.inr ⟨h2, rfl⟩) hS ?_
      rw [h1]; exact ih
    · cases hb
end Go.Proofs.YtlpojkehbhkdiaaDoor
