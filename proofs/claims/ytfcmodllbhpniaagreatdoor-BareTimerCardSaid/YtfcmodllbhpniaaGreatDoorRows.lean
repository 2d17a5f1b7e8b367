/-
  NARROWER THAN 'FOR EVERY INPUT', by the rows' own cells (each row's printed sentence says how): BareRows: laid · BareResets: laid · BareInstructions: laid · BareTimer: laid · BareStuck: laid.
  DERIVED. THE GIVEN ROWS OF THIS SEAT. 5 by the template 'for every input the law returns true; each argument reads behind the call as it read before'; 0 by the template 'total and deterministic' (their statements: YtfcmodllbhpniaaGreatDoorTotals.lean).
  GIVEN WITH THE SEED: the statements are not yours to turn. If you find one false, say at which input.
  Laid BY PROGRAM, IN A SANDBOX (cutbox-rows.mjs): the forced cells as the released guide's own fill.sh prints them over the translation 420276ea5d085548… (all of the seat's roots in one cut). By AI agents, Wed Nov 11 2026. No macro, syntax, notation, axiom, sorry.
-/
import Derived.Test.YtfcmodllbhpniaaGreatDoorChecked
import GoSem.Claim
import GoSem.ClaimJoined
import GoSem.ClaimMapViews
import Derived.JoinedTies
import Derived.KernelRfl
namespace Go.Proofs.YtfcmodllbhpniaaGreatDoor
/- THE CELL 'sum', in the pinned program and in every row, IS THE sha256 OF THE DUMP (.gsa) THAT YtfcmodllbhpniaaGreatDoorProg.lean LOADS. Nothing in Lean hashes anything: it is a label: what it is worth is what the hold of that sum in a sandbox is worth. -/
noncomputable def Tryz.pinned : Pinned := { name := "ytfcmodllbhpniaagreatdoor", sum := "420276ea5d085548ef10a72ba88244e66466fd8dcf2d77d54ced928f0073d37a", checked := Tryz.checked }
namespace Rows
def none {H : Type} : Left H := { results := [], args := [] }

/- WHAT THE LISTED PACKAGE-LEVEL VARIABLES READ AS WHEN THE CALL BEGINS. Each datum BY PROGRAM (the guide's laid-datum.mjs) off the statement by which the dump's own 'gosem.cut.vars' lays the variable. In a bare row this is a premise. The card (YtfcmodllbhpniaaGreatDoorCards.lean) ties it to the program's text. -/
def laid_errors_errorType {H : Type} : DataW H := .iface "internal/reflectlite.rtype" (.agg [.ptr (.lit (.string [101, 114, 114, 111, 114]))])

/-- 'trunnionlaw10.BareRows': WHATEVER THE INPUT: true; the input reads as it did. -/
def bareRowsSpec : ChangeSpec := { name := "bareRows", fn := fun _ => fun
  | [d1, d2, d3, d4] => { results := [.lit (.bool true)], args := [d1, d2, d3, d4] }
  | _ => none }
def bareRowsRow : OpenClaim := { program := "ytfcmodllbhpniaagreatdoor", sum := "420276ea5d085548ef10a72ba88244e66466fd8dcf2d77d54ced928f0073d37a", func := "trunnion/trunnionlaw10.BareRows", spec := "bareRows", inPlace := ["internal/reflectlite.ValueOf", "(internal/reflectlite.Value).Type", "(internal/reflectlite.Value).IsNil", "internal/reflectlite.TypeOf", "(internal/reflectlite.Value).Elem", "(internal/reflectlite.Value).Set"], unfollowed := true, recurses := true, named := ["errors.errorType"], apart := false, laid := [("errors.errorType", laid_errors_errorType)] }
def BareRowsSaid : Prop := bareRowsRow.holds Tryz.pinned (OpenSpec.ofChange bareRowsSpec)

/-- ITS FALSE NEIGHBOUR: 'it returns false'. Refute it at one input. -/
def bareRowsWrong : ChangeSpec := { name := "bareRows", fn := fun _ => fun
  | [d1, d2, d3, d4] => { results := [.lit (.bool false)], args := [d1, d2, d3, d4] }
  | _ => none }
def BareRowsWrongFalsely : Prop := bareRowsRow.holds Tryz.pinned (OpenSpec.ofChange bareRowsWrong)

/-- 'trunnionlaw10.BareResets': WHATEVER THE INPUT: true; the input reads as it did. -/
def bareResetsSpec : ChangeSpec := { name := "bareResets", fn := fun _ => fun
  | [d1, d2, d3, d4, d5] => { results := [.lit (.bool true)], args := [d1, d2, d3, d4, d5] }
  | _ => none }
def bareResetsRow : OpenClaim := { program := "ytfcmodllbhpniaagreatdoor", sum := "420276ea5d085548ef10a72ba88244e66466fd8dcf2d77d54ced928f0073d37a", func := "trunnion/trunnionlaw10.BareResets", spec := "bareResets", inPlace := ["internal/reflectlite.ValueOf", "(internal/reflectlite.Value).Type", "(internal/reflectlite.Value).IsNil", "internal/reflectlite.TypeOf", "(internal/reflectlite.Value).Elem", "(internal/reflectlite.Value).Set"], unfollowed := true, recurses := true, named := ["errors.errorType"], apart := false, laid := [("errors.errorType", laid_errors_errorType)] }
def BareResetsSaid : Prop := bareResetsRow.holds Tryz.pinned (OpenSpec.ofChange bareResetsSpec)

/-- ITS FALSE NEIGHBOUR: 'it returns false'. Refute it at one input. -/
def bareResetsWrong : ChangeSpec := { name := "bareResets", fn := fun _ => fun
  | [d1, d2, d3, d4, d5] => { results := [.lit (.bool false)], args := [d1, d2, d3, d4, d5] }
  | _ => none }
def BareResetsWrongFalsely : Prop := bareResetsRow.holds Tryz.pinned (OpenSpec.ofChange bareResetsWrong)

/-- 'trunnionlaw10.BareInstructions': WHATEVER THE INPUT: true; the input reads as it did. -/
def bareInstructionsSpec : ChangeSpec := { name := "bareInstructions", fn := fun _ => fun
  | [d1, d2, d3, d4] => { results := [.lit (.bool true)], args := [d1, d2, d3, d4] }
  | _ => none }
def bareInstructionsRow : OpenClaim := { program := "ytfcmodllbhpniaagreatdoor", sum := "420276ea5d085548ef10a72ba88244e66466fd8dcf2d77d54ced928f0073d37a", func := "trunnion/trunnionlaw10.BareInstructions", spec := "bareInstructions", inPlace := ["internal/reflectlite.ValueOf", "(internal/reflectlite.Value).Type", "(internal/reflectlite.Value).IsNil", "internal/reflectlite.TypeOf", "(internal/reflectlite.Value).Elem", "(internal/reflectlite.Value).Set"], unfollowed := true, recurses := true, named := ["errors.errorType"], apart := false, laid := [("errors.errorType", laid_errors_errorType)] }
def BareInstructionsSaid : Prop := bareInstructionsRow.holds Tryz.pinned (OpenSpec.ofChange bareInstructionsSpec)

/-- ITS FALSE NEIGHBOUR: 'it returns false'. Refute it at one input. -/
def bareInstructionsWrong : ChangeSpec := { name := "bareInstructions", fn := fun _ => fun
  | [d1, d2, d3, d4] => { results := [.lit (.bool false)], args := [d1, d2, d3, d4] }
  | _ => none }
def BareInstructionsWrongFalsely : Prop := bareInstructionsRow.holds Tryz.pinned (OpenSpec.ofChange bareInstructionsWrong)

/-- 'trunnionlaw10.BareTimer': WHATEVER THE INPUT: true; the input reads as it did. -/
def bareTimerSpec : ChangeSpec := { name := "bareTimer", fn := fun _ => fun
  | [d1, d2, d3] => { results := [.lit (.bool true)], args := [d1, d2, d3] }
  | _ => none }
def bareTimerRow : OpenClaim := { program := "ytfcmodllbhpniaagreatdoor", sum := "420276ea5d085548ef10a72ba88244e66466fd8dcf2d77d54ced928f0073d37a", func := "trunnion/trunnionlaw10.BareTimer", spec := "bareTimer", inPlace := ["internal/reflectlite.ValueOf", "(internal/reflectlite.Value).Type", "(internal/reflectlite.Value).IsNil", "internal/reflectlite.TypeOf", "(internal/reflectlite.Value).Elem", "(internal/reflectlite.Value).Set"], unfollowed := true, recurses := true, named := ["errors.errorType"], apart := false, laid := [("errors.errorType", laid_errors_errorType)] }
def BareTimerSaid : Prop := bareTimerRow.holds Tryz.pinned (OpenSpec.ofChange bareTimerSpec)

/-- ITS FALSE NEIGHBOUR: 'it returns false'. Refute it at one input. -/
def bareTimerWrong : ChangeSpec := { name := "bareTimer", fn := fun _ => fun
  | [d1, d2, d3] => { results := [.lit (.bool false)], args := [d1, d2, d3] }
  | _ => none }
def BareTimerWrongFalsely : Prop := bareTimerRow.holds Tryz.pinned (OpenSpec.ofChange bareTimerWrong)

/-- 'trunnionlaw10.BareStuck': WHATEVER THE INPUT: true; the input reads as it did. -/
def bareStuckSpec : ChangeSpec := { name := "bareStuck", fn := fun _ => fun
  | [d1, d2, d3] => { results := [.lit (.bool true)], args := [d1, d2, d3] }
  | _ => none }
def bareStuckRow : OpenClaim := { program := "ytfcmodllbhpniaagreatdoor", sum := "420276ea5d085548ef10a72ba88244e66466fd8dcf2d77d54ced928f0073d37a", func := "trunnion/trunnionlaw10.BareStuck", spec := "bareStuck", inPlace := ["internal/reflectlite.ValueOf", "(internal/reflectlite.Value).Type", "(internal/reflectlite.Value).IsNil", "internal/reflectlite.TypeOf", "(internal/reflectlite.Value).Elem", "(internal/reflectlite.Value).Set"], unfollowed := true, recurses := true, named := ["errors.errorType"], apart := false, laid := [("errors.errorType", laid_errors_errorType)] }
def BareStuckSaid : Prop := bareStuckRow.holds Tryz.pinned (OpenSpec.ofChange bareStuckSpec)

/-- ITS FALSE NEIGHBOUR: 'it returns false'. Refute it at one input. -/
def bareStuckWrong : ChangeSpec := { name := "bareStuck", fn := fun _ => fun
  | [d1, d2, d3] => { results := [.lit (.bool false)], args := [d1, d2, d3] }
  | _ => none }
def BareStuckWrongFalsely : Prop := bareStuckRow.holds Tryz.pinned (OpenSpec.ofChange bareStuckWrong)

/- THE SECOND FORM. 'bulk': how many values and letters a reading holds, each counted each time it is reached (what is shared counts as often as it is met; a slice's spare places count too). A statement '..UptoSaid' is the law's where the arguments, and the package variables that the reading takes, are together of bulk at most 1048576: NARROWER than '..Said'. Prove '..Said' where nothing that the law and all that it calls make is longer than what came in: it says more and counts as full. Else prove '..UptoSaid'. A law counts once. -/
mutual
def uptoBulk {H : Type} : DataW H → Nat
  | .lit (.string bytes) => bytes.length + 1
  | .lit _ => 1
  | .nil => 1
  | .ptr d => uptoBulk d + 1
  | .slice elems spare => uptoBulkAll elems + uptoBulkAll spare + 1
  | .agg parts => uptoBulkAll parts + 1
  | .iface _ d => uptoBulk d + 1
  | .map entries => uptoBulkEntries entries + 1
  | .held _ => 1
def uptoBulkAll {H : Type} : List (DataW H) → Nat
  | [] => 0
  | d :: r => uptoBulk d + uptoBulkAll r
def uptoBulkEntries {H : Type} : List (Lit × DataW H) → Nat
  | [] => 0
  | x :: r => uptoBulkEntry x + uptoBulkEntries r
def uptoBulkEntry {H : Type} : Lit × DataW H → Nat
  | (.string bytes, d) => bytes.length + uptoBulk d + 1
  | (_, d) => uptoBulk d + 1
 end
def uptoSmall : (H : Type) → List (DataW H) → Bool := fun _ ds => decide (uptoBulkAll ds ≤ 1048576)
def OpenSpec.upto (s : _root_.Go.ChangeSpec) : _root_.Go.OpenSpec := { _root_.Go.OpenSpec.ofChange s with cond := some uptoSmall }

/-- 'trunnionlaw10.BareRows', WHERE WHAT IT READS IS OF BULK AT MOST 1048576: true; the input reads as it did. -/
def bareRowsUptoRow : OpenClaim := { program := "ytfcmodllbhpniaagreatdoor", sum := "420276ea5d085548ef10a72ba88244e66466fd8dcf2d77d54ced928f0073d37a", func := "trunnion/trunnionlaw10.BareRows", spec := "bareRows", inPlace := ["internal/reflectlite.ValueOf", "(internal/reflectlite.Value).Type", "(internal/reflectlite.Value).IsNil", "internal/reflectlite.TypeOf", "(internal/reflectlite.Value).Elem", "(internal/reflectlite.Value).Set"], unfollowed := true, recurses := true, named := ["errors.errorType"], apart := false, laid := [("errors.errorType", laid_errors_errorType)], narrowed := true }
def BareRowsUptoSaid : Prop := bareRowsUptoRow.holds Tryz.pinned (OpenSpec.upto bareRowsSpec)

/-- 'trunnionlaw10.BareResets', WHERE WHAT IT READS IS OF BULK AT MOST 1048576: true; the input reads as it did. -/
def bareResetsUptoRow : OpenClaim := { program := "ytfcmodllbhpniaagreatdoor", sum := "420276ea5d085548ef10a72ba88244e66466fd8dcf2d77d54ced928f0073d37a", func := "trunnion/trunnionlaw10.BareResets", spec := "bareResets", inPlace := ["internal/reflectlite.ValueOf", "(internal/reflectlite.Value).Type", "(internal/reflectlite.Value).IsNil", "internal/reflectlite.TypeOf", "(internal/reflectlite.Value).Elem", "(internal/reflectlite.Value).Set"], unfollowed := true, recurses := true, named := ["errors.errorType"], apart := false, laid := [("errors.errorType", laid_errors_errorType)], narrowed := true }
def BareResetsUptoSaid : Prop := bareResetsUptoRow.holds Tryz.pinned (OpenSpec.upto bareResetsSpec)

/-- 'trunnionlaw10.BareInstructions', WHERE WHAT IT READS IS OF BULK AT MOST 1048576: true; the input reads as it did. -/
def bareInstructionsUptoRow : OpenClaim := { program := "ytfcmodllbhpniaagreatdoor", sum := "420276ea5d085548ef10a72ba88244e66466fd8dcf2d77d54ced928f0073d37a", func := "trunnion/trunnionlaw10.BareInstructions", spec := "bareInstructions", inPlace := ["internal/reflectlite.ValueOf", "(internal/reflectlite.Value).Type", "(internal/reflectlite.Value).IsNil", "internal/reflectlite.TypeOf", "(internal/reflectlite.Value).Elem", "(internal/reflectlite.Value).Set"], unfollowed := true, recurses := true, named := ["errors.errorType"], apart := false, laid := [("errors.errorType", laid_errors_errorType)], narrowed := true }
def BareInstructionsUptoSaid : Prop := bareInstructionsUptoRow.holds Tryz.pinned (OpenSpec.upto bareInstructionsSpec)

/-- 'trunnionlaw10.BareTimer', WHERE WHAT IT READS IS OF BULK AT MOST 1048576: true; the input reads as it did. -/
def bareTimerUptoRow : OpenClaim := { program := "ytfcmodllbhpniaagreatdoor", sum := "420276ea5d085548ef10a72ba88244e66466fd8dcf2d77d54ced928f0073d37a", func := "trunnion/trunnionlaw10.BareTimer", spec := "bareTimer", inPlace := ["internal/reflectlite.ValueOf", "(internal/reflectlite.Value).Type", "(internal/reflectlite.Value).IsNil", "internal/reflectlite.TypeOf", "(internal/reflectlite.Value).Elem", "(internal/reflectlite.Value).Set"], unfollowed := true, recurses := true, named := ["errors.errorType"], apart := false, laid := [("errors.errorType", laid_errors_errorType)], narrowed := true }
def BareTimerUptoSaid : Prop := bareTimerUptoRow.holds Tryz.pinned (OpenSpec.upto bareTimerSpec)

/-- 'trunnionlaw10.BareStuck', WHERE WHAT IT READS IS OF BULK AT MOST 1048576: true; the input reads as it did. -/
def bareStuckUptoRow : OpenClaim := { program := "ytfcmodllbhpniaagreatdoor", sum := "420276ea5d085548ef10a72ba88244e66466fd8dcf2d77d54ced928f0073d37a", func := "trunnion/trunnionlaw10.BareStuck", spec := "bareStuck", inPlace := ["internal/reflectlite.ValueOf", "(internal/reflectlite.Value).Type", "(internal/reflectlite.Value).IsNil", "internal/reflectlite.TypeOf", "(internal/reflectlite.Value).Elem", "(internal/reflectlite.Value).Set"], unfollowed := true, recurses := true, named := ["errors.errorType"], apart := false, laid := [("errors.errorType", laid_errors_errorType)], narrowed := true }
def BareStuckUptoSaid : Prop := bareStuckUptoRow.holds Tryz.pinned (OpenSpec.upto bareStuckSpec)

end Rows
end Go.Proofs.YtfcmodllbhpniaaGreatDoor
