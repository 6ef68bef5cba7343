/- TicksSpans' walk: out of what Add, Meet, Common and 'bare' answer. -/
import Derived.Test.YthinkdcekdgdcaaDoorSpans
import Derived.Deep.RegionWith
namespace Go.Proofs.YthinkdcekdgdcaaDoor
open Go.RowKit

def RefAddSays (a b v k : Int) : Prop := ∀ w, Calls Tryd.prog 14 #[.int .i64 a, .int .i64 b] w fun e w' => e = .returned (.tuple #[.int .i64 v, .int .i64 k]) ∧ Below w.heap.size w w'
def AddSays (a b v : Int) (E : Value) : Prop := ∀ w, Calls Tryd.prog 15 #[.int .i64 a, .int .i64 b] w fun e w' => e = .returned (.tuple #[.int .i64 v, E]) ∧ Below w.heap.size w w'
def RefCommonSays (p q r s x y : Int) (ok : Bool) : Prop := ∀ w, Calls Tryd.prog 16 #[.agg #[.int .i64 p, .int .i64 q], .agg #[.int .i64 r, .int .i64 s]] w fun e w' => e = .returned (.tuple #[.agg #[.int .i64 x, .int .i64 y], .bool ok]) ∧ Below w.heap.size w w'
def MeetSays (p q r s : Int) (ok : Bool) : Prop := ∀ w, Calls Tryd.prog 17 #[.agg #[.int .i64 p, .int .i64 q], .agg #[.int .i64 r, .int .i64 s]] w fun e w' => e = .returned (.bool ok) ∧ Below w.heap.size w w'
def CommonSays (p q r s x y : Int) : Prop := ∀ w, Calls Tryd.prog 18 #[.agg #[.int .i64 p, .int .i64 q], .agg #[.int .i64 r, .int .i64 s]] w fun e w' => e = .returned (.agg #[.int .i64 x, .int .i64 y]) ∧ Below w.heap.size w w'

theorem add_cases (a b : Int) : (∃ v, RefAddSays a b v 2 ∧ AddSays a b v (.iface 24 (.int .i64 2))) ∨ ∃ v, RefAddSays a b v 0 ∧ AddSays a b v .nilIface := by
  by_cases h1 : -1099511627776 ≤ a
  · by_cases h2 : a ≤ 1099511627776
    · by_cases h3 : -1099511627776 ≤ b
      · by_cases h4 : b ≤ 1099511627776
        · by_cases h5 : -1099511627776 ≤ a + b
          · by_cases h6 : a + b ≤ 1099511627776
            · exact .inr ⟨_, fun w => refAdd7 a b w h1 h2 h3 h4 h5 h6, fun w => add7 a b w h1 h2 h3 h4 h5 h6⟩
            · exact .inl ⟨_, fun w => refAdd6 a b w h1 h2 h3 h4 (by omega), fun w => add6 a b w h1 h2 h3 h4 (by omega)⟩
          · exact .inl ⟨_, fun w => refAdd5 a b w h1 h2 h3 h4 (by omega), fun w => add5 a b w h1 h2 h3 h4 (by omega)⟩
        · exact .inl ⟨_, fun w => refAdd4 a b w h1 h2 (by omega), fun w => add4 a b w h1 h2 (by omega)⟩
      · exact .inl ⟨_, fun w => refAdd3 a b w h1 h2 (by omega), fun w => add3 a b w h1 h2 (by omega)⟩
    · exact .inl ⟨_, fun w => refAdd2 a b w (by omega), fun w => add2 a b w (by omega)⟩
  · exact .inl ⟨_, fun w => refAdd1 a b w (by omega), fun w => add1 a b w (by omega)⟩

theorem common_cases (p q r s : Int) : ∃ x y ok, RefCommonSays p q r s x y ok ∧ MeetSays p q r s ok ∧ CommonSays p q r s x y := by
  rcases Int.lt_trichotomy p r with hf | rfl | hf <;> rcases Int.lt_trichotomy s q with ht | rfl | ht
  · by_cases he : r < s
    · exact ⟨_, _, _, fun w => refCommon1 p q r s w hf ht he, fun w => meet1 p q r s w hf ht he, fun w => common1 p q r s w hf ht he⟩
    · exact ⟨_, _, _, fun w => refCommon2 p q r s w hf ht (by omega), fun w => meet2 p q r s w hf ht (by omega), fun w => common2 p q r s w hf ht (by omega)⟩
  · by_cases he : r < s
    · exact ⟨_, _, _, fun w => refCommon5 p s r w hf he, fun w => meet5 p s r w hf he, fun w => common5 p s r w hf he⟩
    · exact ⟨_, _, _, fun w => refCommon6 p s r w hf (by omega), fun w => meet6 p s r w hf (by omega), fun w => common6 p s r w hf (by omega)⟩
  · by_cases he : r < q
    · exact ⟨_, _, _, fun w => refCommon3 p q r s w hf ht he, fun w => meet3 p q r s w hf ht he, fun w => common3 p q r s w hf ht he⟩
    · exact ⟨_, _, _, fun w => refCommon4 p q r s w hf ht (by omega), fun w => meet4 p q r s w hf ht (by omega), fun w => common4 p q r s w hf ht (by omega)⟩
  · by_cases he : p < s
    · exact ⟨_, _, _, fun w => refCommon13 p q s w ht he, fun w => meet13 p q s w ht he, fun w => common13 p q s w ht he⟩
    · exact ⟨_, _, _, fun w => refCommon14 p q s w ht (by omega), fun w => meet14 p q s w ht (by omega), fun w => common14 p q s w ht (by omega)⟩
  · by_cases he : p < s
    · exact ⟨_, _, _, fun w => refCommon17 p s w he, fun w => meet17 p s w he, fun w => common17 p s w he⟩
    · exact ⟨_, _, _, fun w => refCommon18 p s w (by omega), fun w => meet18 p s w (by omega), fun w => common18 p s w (by omega)⟩
  · by_cases he : p < q
    · exact ⟨_, _, _, fun w => refCommon15 p q s w ht he, fun w => meet15 p q s w ht he, fun w => common15 p q s w ht he⟩
    · exact ⟨_, _, _, fun w => refCommon16 p q s w ht (by omega), fun w => meet16 p q s w ht (by omega), fun w => common16 p q s w ht (by omega)⟩
  · by_cases he : p < s
    · exact ⟨_, _, _, fun w => refCommon7 p q r s w hf ht he, fun w => meet7 p q r s w hf ht he, fun w => common7 p q r s w hf ht he⟩
    · exact ⟨_, _, _, fun w => refCommon8 p q r s w hf ht (by omega), fun w => meet8 p q r s w hf ht (by omega), fun w => common8 p q r s w hf ht (by omega)⟩
  · by_cases he : p < s
    · exact ⟨_, _, _, fun w => refCommon11 p s r w hf he, fun w => meet11 p s r w hf he, fun w => common11 p s r w hf he⟩
    · exact ⟨_, _, _, fun w => refCommon12 p s r w hf (by omega), fun w => meet12 p s r w hf (by omega), fun w => common12 p s r w hf (by omega)⟩
  · by_cases he : p < q
    · exact ⟨_, _, _, fun w => refCommon9 p q r s w hf ht he, fun w => meet9 p q r s w hf ht he, fun w => common9 p q r s w hf ht he⟩
    · exact ⟨_, _, _, fun w => refCommon10 p q r s w hf ht (by omega), fun w => meet10 p q r s w hf ht (by omega), fun w => common10 p q r s w hf ht (by omega)⟩

end Go.Proofs.YthinkdcekdgdcaaDoor
