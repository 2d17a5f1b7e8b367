/-
  No cell of these rows narrows 'for every input' (looked for: loops, veiled, ifaces, maps, wideKeys, modest, calm, conditions, laid).
  DERIVED. THE GIVEN ROWS OF THIS SEAT. 3 by the template 'for every input the law returns true; each argument reads behind the call as it read before'; 0 by the template 'total and deterministic' (their statements: YthgcmliiobcmlaaTotals.lean).
  GIVEN WITH THE SEED: the statements are not yours to turn. If you find one false, say at which input.
  Laid BY PROGRAM, IN A SANDBOX (cutbox-rows.mjs): the forced cells as the released guide's own fill.sh prints them over the translation 5edea657dd0aaabc… (all of the seat's roots in one cut). By AI agents, Wed Nov 11 2026. No macro, syntax, notation, axiom, sorry.
-/
import Derived.Test.YthgcmliiobcmlaaChecked
import GoSem.Claim
import GoSem.ClaimJoined
import GoSem.ClaimMapViews
import Derived.JoinedTies
import Derived.KernelRfl
namespace Go.Proofs.Ythgcmliiobcmlaa
/- THE CELL 'sum', in the pinned program and in every row, IS THE sha256 OF THE DUMP (.gsa) THAT YthgcmliiobcmlaaProg.lean LOADS. Nothing in Lean hashes anything: it is a label: what it is worth is what the hold of that sum in a sandbox is worth. -/
noncomputable def Try.pinned : Pinned := { name := "ythgcmliiobcmlaa", sum := "5edea657dd0aaabc437030e9ee825432a71c6ebccb2a7812599c318ed5795f70", checked := Try.checked }
namespace Rows
def none {H : Type} : Left H := { results := [], args := [] }

/-- 'trunnionlaw14.ConfigWrong': WHATEVER THE INPUT: true; the input reads as it did. -/
def configWrongSpec : ChangeSpec := { name := "configWrong", fn := fun _ => fun
  | [d1, d2] => { results := [.lit (.bool true)], args := [d1, d2] }
  | _ => none }
def configWrongRow : OpenClaim := { program := "ythgcmliiobcmlaa", sum := "5edea657dd0aaabc437030e9ee825432a71c6ebccb2a7812599c318ed5795f70", func := "trunnion/trunnionlaw14.ConfigWrong", spec := "configWrong", unfollowed := true, recurses := true, apart := false }
def ConfigWrongSaid : Prop := configWrongRow.holds Try.pinned (OpenSpec.ofChange configWrongSpec)

/-- ITS FALSE NEIGHBOUR: 'it returns false'. Refute it at one input. -/
def configWrongWrong : ChangeSpec := { name := "configWrong", fn := fun _ => fun
  | [d1, d2] => { results := [.lit (.bool false)], args := [d1, d2] }
  | _ => none }
def ConfigWrongWrongFalsely : Prop := configWrongRow.holds Try.pinned (OpenSpec.ofChange configWrongWrong)

/-- 'trunnionlaw14.ConfigMany': WHATEVER THE INPUT: true; the input reads as it did. -/
def configManySpec : ChangeSpec := { name := "configMany", fn := fun _ => fun
  | [d1, d2, d3, d4, d5] => { results := [.lit (.bool true)], args := [d1, d2, d3, d4, d5] }
  | _ => none }
def configManyRow : OpenClaim := { program := "ythgcmliiobcmlaa", sum := "5edea657dd0aaabc437030e9ee825432a71c6ebccb2a7812599c318ed5795f70", func := "trunnion/trunnionlaw14.ConfigMany", spec := "configMany", unfollowed := true, recurses := true, apart := false }
def ConfigManySaid : Prop := configManyRow.holds Try.pinned (OpenSpec.ofChange configManySpec)

/-- ITS FALSE NEIGHBOUR: 'it returns false'. Refute it at one input. -/
def configManyWrong : ChangeSpec := { name := "configMany", fn := fun _ => fun
  | [d1, d2, d3, d4, d5] => { results := [.lit (.bool false)], args := [d1, d2, d3, d4, d5] }
  | _ => none }
def ConfigManyWrongFalsely : Prop := configManyRow.holds Try.pinned (OpenSpec.ofChange configManyWrong)

/-- 'trunnionlaw14.ConfigTwice': WHATEVER THE INPUT: true; the input reads as it did. -/
def configTwiceSpec : ChangeSpec := { name := "configTwice", fn := fun _ => fun
  | [d1, d2, d3] => { results := [.lit (.bool true)], args := [d1, d2, d3] }
  | _ => none }
def configTwiceRow : OpenClaim := { program := "ythgcmliiobcmlaa", sum := "5edea657dd0aaabc437030e9ee825432a71c6ebccb2a7812599c318ed5795f70", func := "trunnion/trunnionlaw14.ConfigTwice", spec := "configTwice", unfollowed := true, recurses := true, apart := false }
def ConfigTwiceSaid : Prop := configTwiceRow.holds Try.pinned (OpenSpec.ofChange configTwiceSpec)

/-- ITS FALSE NEIGHBOUR: 'it returns false'. Refute it at one input. -/
def configTwiceWrong : ChangeSpec := { name := "configTwice", fn := fun _ => fun
  | [d1, d2, d3] => { results := [.lit (.bool false)], args := [d1, d2, d3] }
  | _ => none }
def ConfigTwiceWrongFalsely : Prop := configTwiceRow.holds Try.pinned (OpenSpec.ofChange configTwiceWrong)

/- THE SECOND FORM. 'bulk': how many values and letters a reading holds, each counted each time it is reached (what is shared counts as often as it is met; a slice's spare places count too). A statement '..UptoSaid' is the law's where the arguments, and the package variables that the reading takes, are together of bulk at most 1048576: NARROWER than '..Said'. Prove '..Said' where nothing that the law and all that it calls make is longer than what came in: it says more and counts as full. Else prove '..UptoSaid'. A law counts once. -/
mutual
def uptoBulk {H : Type} : DataW H → Nat
  | .lit (.string bytes) => bytes.length + 1
  | .lit _ => 1
  | .nil => 1
  | .ptr d => uptoBulk d + 1
  | .slice elems spare => uptoBulkAll elems + uptoBulkAll spare + 1
  | .agg parts => uptoBulkAll parts + 1
  | .iface _ d => uptoBulk d + 1
  | .map entries => uptoBulkEntries entries + 1
  | .held _ => 1
def uptoBulkAll {H : Type} : List (DataW H) → Nat
  | [] => 0
  | d :: r => uptoBulk d + uptoBulkAll r
def uptoBulkEntries {H : Type} : List (Lit × DataW H) → Nat
  | [] => 0
  | x :: r => uptoBulkEntry x + uptoBulkEntries r
def uptoBulkEntry {H : Type} : Lit × DataW H → Nat
  | (.string bytes, d) => bytes.length + uptoBulk d + 1
  | (_, d) => uptoBulk d + 1
 end
def uptoSmall : (H : Type) → List (DataW H) → Bool := fun _ ds => decide (uptoBulkAll ds ≤ 1048576)
def OpenSpec.upto (s : _root_.Go.ChangeSpec) : _root_.Go.OpenSpec := { _root_.Go.OpenSpec.ofChange s with cond := some uptoSmall }

/-- 'trunnionlaw14.ConfigWrong', WHERE WHAT IT READS IS OF BULK AT MOST 1048576: true; the input reads as it did. -/
def configWrongUptoRow : OpenClaim := { program := "ythgcmliiobcmlaa", sum := "5edea657dd0aaabc437030e9ee825432a71c6ebccb2a7812599c318ed5795f70", func := "trunnion/trunnionlaw14.ConfigWrong", spec := "configWrong", unfollowed := true, recurses := true, apart := false, narrowed := true }
def ConfigWrongUptoSaid : Prop := configWrongUptoRow.holds Try.pinned (OpenSpec.upto configWrongSpec)

/-- 'trunnionlaw14.ConfigMany', WHERE WHAT IT READS IS OF BULK AT MOST 1048576: true; the input reads as it did. -/
def configManyUptoRow : OpenClaim := { program := "ythgcmliiobcmlaa", sum := "5edea657dd0aaabc437030e9ee825432a71c6ebccb2a7812599c318ed5795f70", func := "trunnion/trunnionlaw14.ConfigMany", spec := "configMany", unfollowed := true, recurses := true, apart := false, narrowed := true }
def ConfigManyUptoSaid : Prop := configManyUptoRow.holds Try.pinned (OpenSpec.upto configManySpec)

/-- 'trunnionlaw14.ConfigTwice', WHERE WHAT IT READS IS OF BULK AT MOST 1048576: true; the input reads as it did. -/
def configTwiceUptoRow : OpenClaim := { program := "ythgcmliiobcmlaa", sum := "5edea657dd0aaabc437030e9ee825432a71c6ebccb2a7812599c318ed5795f70", func := "trunnion/trunnionlaw14.ConfigTwice", spec := "configTwice", unfollowed := true, recurses := true, apart := false, narrowed := true }
def ConfigTwiceUptoSaid : Prop := configTwiceUptoRow.holds Try.pinned (OpenSpec.upto configTwiceSpec)

end Rows
end Go.Proofs.Ythgcmliiobcmlaa
