/-
  NARROWER THAN 'FOR EVERY INPUT', by the rows' own cells (each row's printed sentence says how): TicksLocal: laid · TicksReal: laid · TicksSpans: laid · PlanChecks: laid · PlanEncodes: laid · PlanDecodes: laid · FrameEncodes: laid · FrameDecodes: laid.
  DERIVED. THE GIVEN ROWS OF THIS SEAT. 8 by the template 'for every input the law returns true; each argument reads behind the call as it read before'; 0 by the template 'total and deterministic' (their statements: YtfofaaagenclmaaDoorTotals.lean).
  GIVEN WITH THE SEED: the statements are not yours to turn. If you find one false, say at which input.
  Laid BY PROGRAM, IN A SANDBOX (cutbox-rows.mjs): the forced cells as the released guide's own fill.sh prints them over the translation 9910a26034b103da… (all of the seat's roots in one cut). By AI agents, Wed Nov 11 2026. No macro, syntax, notation, axiom, sorry.
-/
import Derived.Test.YtfofaaagenclmaaDoorChecked
import GoSem.Claim
import GoSem.ClaimJoined
import GoSem.ClaimMapViews
import Derived.JoinedTies
import Derived.KernelRfl
namespace Go.Proofs.YtfofaaagenclmaaDoor
/- THE CELL 'sum', in the pinned program and in every row, IS THE sha256 OF THE DUMP (.gsa) THAT YtfofaaagenclmaaDoorProg.lean LOADS. Nothing in Lean hashes anything: it is a label: what it is worth is what the hold of that sum in a sandbox is worth. -/
noncomputable def Tryd.pinned : Pinned := { name := "ytfofaaagenclmaadoor", sum := "9910a26034b103da8d577c7f54fac229d64a363c98b9185fc375970a75614d52", checked := Tryd.checked }
namespace Rows
def none {H : Type} : Left H := { results := [], args := [] }

/- WHAT THE LISTED PACKAGE-LEVEL VARIABLES READ AS WHEN THE CALL BEGINS. Each datum BY PROGRAM (the guide's laid-datum.mjs) off the statement by which the dump's own 'gosem.cut.vars' lays the variable. In a bare row this is a premise. The card (YtfofaaagenclmaaDoorCards.lean) ties it to the program's text. -/
def laid_errors_errorType {H : Type} : DataW H := .iface "internal/reflectlite.rtype" (.agg [.ptr (.lit (.string [101, 114, 114, 111, 114]))])
def laid_metronome_metronomeref_Fine {H : Type} : DataW H := .agg [.lit (.int .i64 0), .lit (.int .i64 (-1))]

/-- 'metronomelaw.TicksLocal': WHATEVER THE INPUT: true; the input reads as it did. -/
def ticksLocalSpec : ChangeSpec := { name := "ticksLocal", fn := fun _ => fun
  | [d1, d2] => { results := [.lit (.bool true)], args := [d1, d2] }
  | _ => none }
def ticksLocalRow : OpenClaim := { program := "ytfofaaagenclmaadoor", sum := "9910a26034b103da8d577c7f54fac229d64a363c98b9185fc375970a75614d52", func := "metronome/metronomelaw.TicksLocal", spec := "ticksLocal", inPlace := ["internal/reflectlite.ValueOf", "(internal/reflectlite.Value).Type", "(internal/reflectlite.Value).IsNil", "internal/reflectlite.TypeOf", "(internal/reflectlite.Value).Elem", "(internal/reflectlite.Value).Set"], unfollowed := true, recurses := true, named := ["errors.errorType"], apart := false, laid := [("errors.errorType", laid_errors_errorType)] }
def TicksLocalSaid : Prop := ticksLocalRow.holds Tryd.pinned (OpenSpec.ofChange ticksLocalSpec)

/-- ITS FALSE NEIGHBOUR: 'it returns false'. Refute it at one input. -/
def ticksLocalWrong : ChangeSpec := { name := "ticksLocal", fn := fun _ => fun
  | [d1, d2] => { results := [.lit (.bool false)], args := [d1, d2] }
  | _ => none }
def TicksLocalWrongFalsely : Prop := ticksLocalRow.holds Tryd.pinned (OpenSpec.ofChange ticksLocalWrong)

/-- 'metronomelaw.TicksReal': WHATEVER THE INPUT: true; the input reads as it did. -/
def ticksRealSpec : ChangeSpec := { name := "ticksReal", fn := fun _ => fun
  | [d1, d2] => { results := [.lit (.bool true)], args := [d1, d2] }
  | _ => none }
def ticksRealRow : OpenClaim := { program := "ytfofaaagenclmaadoor", sum := "9910a26034b103da8d577c7f54fac229d64a363c98b9185fc375970a75614d52", func := "metronome/metronomelaw.TicksReal", spec := "ticksReal", inPlace := ["internal/reflectlite.ValueOf", "(internal/reflectlite.Value).Type", "(internal/reflectlite.Value).IsNil", "internal/reflectlite.TypeOf", "(internal/reflectlite.Value).Elem", "(internal/reflectlite.Value).Set"], unfollowed := true, recurses := true, named := ["errors.errorType"], apart := false, laid := [("errors.errorType", laid_errors_errorType)] }
def TicksRealSaid : Prop := ticksRealRow.holds Tryd.pinned (OpenSpec.ofChange ticksRealSpec)

/-- ITS FALSE NEIGHBOUR: 'it returns false'. Refute it at one input. -/
def ticksRealWrong : ChangeSpec := { name := "ticksReal", fn := fun _ => fun
  | [d1, d2] => { results := [.lit (.bool false)], args := [d1, d2] }
  | _ => none }
def TicksRealWrongFalsely : Prop := ticksRealRow.holds Tryd.pinned (OpenSpec.ofChange ticksRealWrong)

/-- 'metronomelaw.TicksSpans': WHATEVER THE INPUT: true; the input reads as it did. -/
def ticksSpansSpec : ChangeSpec := { name := "ticksSpans", fn := fun _ => fun
  | [d1, d2] => { results := [.lit (.bool true)], args := [d1, d2] }
  | _ => none }
def ticksSpansRow : OpenClaim := { program := "ytfofaaagenclmaadoor", sum := "9910a26034b103da8d577c7f54fac229d64a363c98b9185fc375970a75614d52", func := "metronome/metronomelaw.TicksSpans", spec := "ticksSpans", inPlace := ["internal/reflectlite.ValueOf", "(internal/reflectlite.Value).Type", "(internal/reflectlite.Value).IsNil", "internal/reflectlite.TypeOf", "(internal/reflectlite.Value).Elem", "(internal/reflectlite.Value).Set"], unfollowed := true, recurses := true, named := ["errors.errorType"], apart := false, laid := [("errors.errorType", laid_errors_errorType)] }
def TicksSpansSaid : Prop := ticksSpansRow.holds Tryd.pinned (OpenSpec.ofChange ticksSpansSpec)

/-- ITS FALSE NEIGHBOUR: 'it returns false'. Refute it at one input. -/
def ticksSpansWrong : ChangeSpec := { name := "ticksSpans", fn := fun _ => fun
  | [d1, d2] => { results := [.lit (.bool false)], args := [d1, d2] }
  | _ => none }
def TicksSpansWrongFalsely : Prop := ticksSpansRow.holds Tryd.pinned (OpenSpec.ofChange ticksSpansWrong)

/-- 'metronomelaw.PlanChecks': WHATEVER THE INPUT: true; the input reads as it did. -/
def planChecksSpec : ChangeSpec := { name := "planChecks", fn := fun _ => fun
  | [d] => { results := [.lit (.bool true)], args := [d] }
  | _ => none }
def planChecksRow : OpenClaim := { program := "ytfofaaagenclmaadoor", sum := "9910a26034b103da8d577c7f54fac229d64a363c98b9185fc375970a75614d52", func := "metronome/metronomelaw.PlanChecks", spec := "planChecks", inPlace := ["internal/reflectlite.ValueOf", "(internal/reflectlite.Value).Type", "(internal/reflectlite.Value).IsNil", "internal/reflectlite.TypeOf", "(internal/reflectlite.Value).Elem", "(internal/reflectlite.Value).Set"], unfollowed := true, recurses := true, named := ["metronome/metronomeref.Fine", "errors.errorType"], apart := false, laid := [("errors.errorType", laid_errors_errorType), ("metronome/metronomeref.Fine", laid_metronome_metronomeref_Fine)] }
def PlanChecksSaid : Prop := planChecksRow.holds Tryd.pinned (OpenSpec.ofChange planChecksSpec)

/-- ITS FALSE NEIGHBOUR: 'it returns false'. Refute it at one input. -/
def planChecksWrong : ChangeSpec := { name := "planChecks", fn := fun _ => fun
  | [d] => { results := [.lit (.bool false)], args := [d] }
  | _ => none }
def PlanChecksWrongFalsely : Prop := planChecksRow.holds Tryd.pinned (OpenSpec.ofChange planChecksWrong)

/-- 'metronomelaw.PlanEncodes': WHATEVER THE INPUT: true; the input reads as it did. -/
def planEncodesSpec : ChangeSpec := { name := "planEncodes", fn := fun _ => fun
  | [d] => { results := [.lit (.bool true)], args := [d] }
  | _ => none }
def planEncodesRow : OpenClaim := { program := "ytfofaaagenclmaadoor", sum := "9910a26034b103da8d577c7f54fac229d64a363c98b9185fc375970a75614d52", func := "metronome/metronomelaw.PlanEncodes", spec := "planEncodes", inPlace := ["internal/reflectlite.ValueOf", "(internal/reflectlite.Value).Type", "(internal/reflectlite.Value).IsNil", "internal/reflectlite.TypeOf", "(internal/reflectlite.Value).Elem", "(internal/reflectlite.Value).Set"], unfollowed := true, recurses := true, named := ["metronome/metronomeref.Fine", "errors.errorType"], apart := false, laid := [("errors.errorType", laid_errors_errorType), ("metronome/metronomeref.Fine", laid_metronome_metronomeref_Fine)] }
def PlanEncodesSaid : Prop := planEncodesRow.holds Tryd.pinned (OpenSpec.ofChange planEncodesSpec)

/-- ITS FALSE NEIGHBOUR: 'it returns false'. Refute it at one input. -/
def planEncodesWrong : ChangeSpec := { name := "planEncodes", fn := fun _ => fun
  | [d] => { results := [.lit (.bool false)], args := [d] }
  | _ => none }
def PlanEncodesWrongFalsely : Prop := planEncodesRow.holds Tryd.pinned (OpenSpec.ofChange planEncodesWrong)

/-- 'metronomelaw.PlanDecodes': WHATEVER THE INPUT: true; the input reads as it did. -/
def planDecodesSpec : ChangeSpec := { name := "planDecodes", fn := fun _ => fun
  | [d] => { results := [.lit (.bool true)], args := [d] }
  | _ => none }
def planDecodesRow : OpenClaim := { program := "ytfofaaagenclmaadoor", sum := "9910a26034b103da8d577c7f54fac229d64a363c98b9185fc375970a75614d52", func := "metronome/metronomelaw.PlanDecodes", spec := "planDecodes", inPlace := ["internal/reflectlite.ValueOf", "(internal/reflectlite.Value).Type", "(internal/reflectlite.Value).IsNil", "internal/reflectlite.TypeOf", "(internal/reflectlite.Value).Elem", "(internal/reflectlite.Value).Set"], unfollowed := true, recurses := true, named := ["metronome/metronomeref.Fine", "errors.errorType"], apart := false, laid := [("errors.errorType", laid_errors_errorType), ("metronome/metronomeref.Fine", laid_metronome_metronomeref_Fine)] }
def PlanDecodesSaid : Prop := planDecodesRow.holds Tryd.pinned (OpenSpec.ofChange planDecodesSpec)

/-- ITS FALSE NEIGHBOUR: 'it returns false'. Refute it at one input. -/
def planDecodesWrong : ChangeSpec := { name := "planDecodes", fn := fun _ => fun
  | [d] => { results := [.lit (.bool false)], args := [d] }
  | _ => none }
def PlanDecodesWrongFalsely : Prop := planDecodesRow.holds Tryd.pinned (OpenSpec.ofChange planDecodesWrong)

/-- 'metronomelaw.FrameEncodes': WHATEVER THE INPUT: true; the input reads as it did. -/
def frameEncodesSpec : ChangeSpec := { name := "frameEncodes", fn := fun _ => fun
  | [d] => { results := [.lit (.bool true)], args := [d] }
  | _ => none }
def frameEncodesRow : OpenClaim := { program := "ytfofaaagenclmaadoor", sum := "9910a26034b103da8d577c7f54fac229d64a363c98b9185fc375970a75614d52", func := "metronome/metronomelaw.FrameEncodes", spec := "frameEncodes", inPlace := ["internal/reflectlite.ValueOf", "(internal/reflectlite.Value).Type", "(internal/reflectlite.Value).IsNil", "internal/reflectlite.TypeOf", "(internal/reflectlite.Value).Elem", "(internal/reflectlite.Value).Set"], unfollowed := true, recurses := true, named := ["errors.errorType"], apart := false, laid := [("errors.errorType", laid_errors_errorType)] }
def FrameEncodesSaid : Prop := frameEncodesRow.holds Tryd.pinned (OpenSpec.ofChange frameEncodesSpec)

/-- ITS FALSE NEIGHBOUR: 'it returns false'. Refute it at one input. -/
def frameEncodesWrong : ChangeSpec := { name := "frameEncodes", fn := fun _ => fun
  | [d] => { results := [.lit (.bool false)], args := [d] }
  | _ => none }
def FrameEncodesWrongFalsely : Prop := frameEncodesRow.holds Tryd.pinned (OpenSpec.ofChange frameEncodesWrong)

/-- 'metronomelaw.FrameDecodes': WHATEVER THE INPUT: true; the input reads as it did. -/
def frameDecodesSpec : ChangeSpec := { name := "frameDecodes", fn := fun _ => fun
  | [d] => { results := [.lit (.bool true)], args := [d] }
  | _ => none }
def frameDecodesRow : OpenClaim := { program := "ytfofaaagenclmaadoor", sum := "9910a26034b103da8d577c7f54fac229d64a363c98b9185fc375970a75614d52", func := "metronome/metronomelaw.FrameDecodes", spec := "frameDecodes", inPlace := ["internal/reflectlite.ValueOf", "(internal/reflectlite.Value).Type", "(internal/reflectlite.Value).IsNil", "internal/reflectlite.TypeOf", "(internal/reflectlite.Value).Elem", "(internal/reflectlite.Value).Set"], unfollowed := true, recurses := true, named := ["errors.errorType"], apart := false, laid := [("errors.errorType", laid_errors_errorType)] }
def FrameDecodesSaid : Prop := frameDecodesRow.holds Tryd.pinned (OpenSpec.ofChange frameDecodesSpec)

/-- ITS FALSE NEIGHBOUR: 'it returns false'. Refute it at one input. -/
def frameDecodesWrong : ChangeSpec := { name := "frameDecodes", fn := fun _ => fun
  | [d] => { results := [.lit (.bool false)], args := [d] }
  | _ => none }
def FrameDecodesWrongFalsely : Prop := frameDecodesRow.holds Tryd.pinned (OpenSpec.ofChange frameDecodesWrong)

/- THE SECOND FORM. 'bulk': how many values and letters a reading holds, each counted each time it is reached (what is shared counts as often as it is met; a slice's spare places count too). A statement '..UptoSaid' is the law's where the arguments, and the package variables that the reading takes, are together of bulk at most 1048576: NARROWER than '..Said'. Prove '..Said' where nothing that the law and all that it calls make is longer than what came in: it says more and counts as full. Else prove '..UptoSaid'. A law counts once. -/
mutual
def uptoBulk {H : Type} : DataW H → Nat
  | .lit (.string bytes) => bytes.length + 1
  | .lit _ => 1
  | .nil => 1
  | .ptr d => uptoBulk d + 1
  | .slice elems spare => uptoBulkAll elems + uptoBulkAll spare + 1
  | .agg parts => uptoBulkAll parts + 1
  | .iface _ d => uptoBulk d + 1
  | .map entries => uptoBulkEntries entries + 1
  | .held _ => 1
def uptoBulkAll {H : Type} : List (DataW H) → Nat
  | [] => 0
  | d :: r => uptoBulk d + uptoBulkAll r
def uptoBulkEntries {H : Type} : List (Lit × DataW H) → Nat
  | [] => 0
  | x :: r => uptoBulkEntry x + uptoBulkEntries r
def uptoBulkEntry {H : Type} : Lit × DataW H → Nat
  | (.string bytes, d) => bytes.length + uptoBulk d + 1
  | (_, d) => uptoBulk d + 1
 end
def uptoSmall : (H : Type) → List (DataW H) → Bool := fun _ ds => decide (uptoBulkAll ds ≤ 1048576)
def OpenSpec.upto (s : _root_.Go.ChangeSpec) : _root_.Go.OpenSpec := { _root_.Go.OpenSpec.ofChange s with cond := some uptoSmall }

/-- 'metronomelaw.TicksLocal', WHERE WHAT IT READS IS OF BULK AT MOST 1048576: true; the input reads as it did. -/
def ticksLocalUptoRow : OpenClaim := { program := "ytfofaaagenclmaadoor", sum := "9910a26034b103da8d577c7f54fac229d64a363c98b9185fc375970a75614d52", func := "metronome/metronomelaw.TicksLocal", spec := "ticksLocal", inPlace := ["internal/reflectlite.ValueOf", "(internal/reflectlite.Value).Type", "(internal/reflectlite.Value).IsNil", "internal/reflectlite.TypeOf", "(internal/reflectlite.Value).Elem", "(internal/reflectlite.Value).Set"], unfollowed := true, recurses := true, named := ["errors.errorType"], apart := false, laid := [("errors.errorType", laid_errors_errorType)], narrowed := true }
def TicksLocalUptoSaid : Prop := ticksLocalUptoRow.holds Tryd.pinned (OpenSpec.upto ticksLocalSpec)

/-- 'metronomelaw.TicksReal', WHERE WHAT IT READS IS OF BULK AT MOST 1048576: true; the input reads as it did. -/
def ticksRealUptoRow : OpenClaim := { program := "ytfofaaagenclmaadoor", sum := "9910a26034b103da8d577c7f54fac229d64a363c98b9185fc375970a75614d52", func := "metronome/metronomelaw.TicksReal", spec := "ticksReal", inPlace := ["internal/reflectlite.ValueOf", "(internal/reflectlite.Value).Type", "(internal/reflectlite.Value).IsNil", "internal/reflectlite.TypeOf", "(internal/reflectlite.Value).Elem", "(internal/reflectlite.Value).Set"], unfollowed := true, recurses := true, named := ["errors.errorType"], apart := false, laid := [("errors.errorType", laid_errors_errorType)], narrowed := true }
def TicksRealUptoSaid : Prop := ticksRealUptoRow.holds Tryd.pinned (OpenSpec.upto ticksRealSpec)

/-- 'metronomelaw.TicksSpans', WHERE WHAT IT READS IS OF BULK AT MOST 1048576: true; the input reads as it did. -/
def ticksSpansUptoRow : OpenClaim := { program := "ytfofaaagenclmaadoor", sum := "9910a26034b103da8d577c7f54fac229d64a363c98b9185fc375970a75614d52", func := "metronome/metronomelaw.TicksSpans", spec := "ticksSpans", inPlace := ["internal/reflectlite.ValueOf", "(internal/reflectlite.Value).Type", "(internal/reflectlite.Value).IsNil", "internal/reflectlite.TypeOf", "(internal/reflectlite.Value).Elem", "(internal/reflectlite.Value).Set"], unfollowed := true, recurses := true, named := ["errors.errorType"], apart := false, laid := [("errors.errorType", laid_errors_errorType)], narrowed := true }
def TicksSpansUptoSaid : Prop := ticksSpansUptoRow.holds Tryd.pinned (OpenSpec.upto ticksSpansSpec)

/-- 'metronomelaw.PlanChecks', WHERE WHAT IT READS IS OF BULK AT MOST 1048576: true; the input reads as it did. -/
def planChecksUptoRow : OpenClaim := { program := "ytfofaaagenclmaadoor", sum := "9910a26034b103da8d577c7f54fac229d64a363c98b9185fc375970a75614d52", func := "metronome/metronomelaw.PlanChecks", spec := "planChecks", inPlace := ["internal/reflectlite.ValueOf", "(internal/reflectlite.Value).Type", "(internal/reflectlite.Value).IsNil", "internal/reflectlite.TypeOf", "(internal/reflectlite.Value).Elem", "(internal/reflectlite.Value).Set"], unfollowed := true, recurses := true, named := ["metronome/metronomeref.Fine", "errors.errorType"], apart := false, laid := [("errors.errorType", laid_errors_errorType), ("metronome/metronomeref.Fine", laid_metronome_metronomeref_Fine)], narrowed := true }
def PlanChecksUptoSaid : Prop := planChecksUptoRow.holds Tryd.pinned (OpenSpec.upto planChecksSpec)

/-- 'metronomelaw.PlanEncodes', WHERE WHAT IT READS IS OF BULK AT MOST 1048576: true; the input reads as it did. -/
def planEncodesUptoRow : OpenClaim := { program := "ytfofaaagenclmaadoor", sum := "9910a26034b103da8d577c7f54fac229d64a363c98b9185fc375970a75614d52", func := "metronome/metronomelaw.PlanEncodes", spec := "planEncodes", inPlace := ["internal/reflectlite.ValueOf", "(internal/reflectlite.Value).Type", "(internal/reflectlite.Value).IsNil", "internal/reflectlite.TypeOf", "(internal/reflectlite.Value).Elem", "(internal/reflectlite.Value).Set"], unfollowed := true, recurses := true, named := ["metronome/metronomeref.Fine", "errors.errorType"], apart := false, laid := [("errors.errorType", laid_errors_errorType), ("metronome/metronomeref.Fine", laid_metronome_metronomeref_Fine)], narrowed := true }
def PlanEncodesUptoSaid : Prop := planEncodesUptoRow.holds Tryd.pinned (OpenSpec.upto planEncodesSpec)

/-- 'metronomelaw.PlanDecodes', WHERE WHAT IT READS IS OF BULK AT MOST 1048576: true; the input reads as it did. -/
def planDecodesUptoRow : OpenClaim := { program := "ytfofaaagenclmaadoor", sum := "9910a26034b103da8d577c7f54fac229d64a363c98b9185fc375970a75614d52", func := "metronome/metronomelaw.PlanDecodes", spec := "planDecodes", inPlace := ["internal/reflectlite.ValueOf", "(internal/reflectlite.Value).Type", "(internal/reflectlite.Value).IsNil", "internal/reflectlite.TypeOf", "(internal/reflectlite.Value).Elem", "(internal/reflectlite.Value).Set"], unfollowed := true, recurses := true, named := ["metronome/metronomeref.Fine", "errors.errorType"], apart := false, laid := [("errors.errorType", laid_errors_errorType), ("metronome/metronomeref.Fine", laid_metronome_metronomeref_Fine)], narrowed := true }
def PlanDecodesUptoSaid : Prop := planDecodesUptoRow.holds Tryd.pinned (OpenSpec.upto planDecodesSpec)

/-- 'metronomelaw.FrameEncodes', WHERE WHAT IT READS IS OF BULK AT MOST 1048576: true; the input reads as it did. -/
def frameEncodesUptoRow : OpenClaim := { program := "ytfofaaagenclmaadoor", sum := "9910a26034b103da8d577c7f54fac229d64a363c98b9185fc375970a75614d52", func := "metronome/metronomelaw.FrameEncodes", spec := "frameEncodes", inPlace := ["internal/reflectlite.ValueOf", "(internal/reflectlite.Value).Type", "(internal/reflectlite.Value).IsNil", "internal/reflectlite.TypeOf", "(internal/reflectlite.Value).Elem", "(internal/reflectlite.Value).Set"], unfollowed := true, recurses := true, named := ["errors.errorType"], apart := false, laid := [("errors.errorType", laid_errors_errorType)], narrowed := true }
def FrameEncodesUptoSaid : Prop := frameEncodesUptoRow.holds Tryd.pinned (OpenSpec.upto frameEncodesSpec)

/-- 'metronomelaw.FrameDecodes', WHERE WHAT IT READS IS OF BULK AT MOST 1048576: true; the input reads as it did. -/
def frameDecodesUptoRow : OpenClaim := { program := "ytfofaaagenclmaadoor", sum := "9910a26034b103da8d577c7f54fac229d64a363c98b9185fc375970a75614d52", func := "metronome/metronomelaw.FrameDecodes", spec := "frameDecodes", inPlace := ["internal/reflectlite.ValueOf", "(internal/reflectlite.Value).Type", "(internal/reflectlite.Value).IsNil", "internal/reflectlite.TypeOf", "(internal/reflectlite.Value).Elem", "(internal/reflectlite.Value).Set"], unfollowed := true, recurses := true, named := ["errors.errorType"], apart := false, laid := [("errors.errorType", laid_errors_errorType)], narrowed := true }
def FrameDecodesUptoSaid : Prop := frameDecodesUptoRow.holds Tryd.pinned (OpenSpec.upto frameDecodesSpec)

end Rows
end Go.Proofs.YtfofaaagenclmaaDoor
