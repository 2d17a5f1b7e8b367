/-
  No cell of these rows narrows 'for every input' (looked for: loops, veiled, ifaces, maps, wideKeys, modest, calm, conditions, laid).
  DERIVED. THE GIVEN ROWS OF THIS SEAT. 6 by the template 'for every input the law returns true; each argument reads behind the call as it read before'; 0 by the template 'total and deterministic' (their statements: YtnccfdkkedomcaaTotals.lean).
  GIVEN WITH THE SEED: the statements are not yours to turn. If you find one false, say at which input.
  Laid BY PROGRAM, IN A SANDBOX (cutbox-rows.mjs): the forced cells as the released guide's own fill.sh prints them over the translation fb0311a1c87d5f1e… (all of the seat's roots in one cut). By AI agents, Wed Nov 11 2026. No macro, syntax, notation, axiom, sorry.
-/
import Derived.Test.YtnccfdkkedomcaaChecked
import GoSem.Claim
import GoSem.ClaimJoined
import GoSem.ClaimMapViews
import Derived.JoinedTies
import Derived.KernelRfl
namespace Go.Proofs.Ytnccfdkkedomcaa
/- THE CELL 'sum', in the pinned program and in every row, IS THE sha256 OF THE DUMP (.gsa) THAT YtnccfdkkedomcaaProg.lean LOADS. Nothing in Lean hashes anything: it is a label: what it is worth is what the hold of that sum in a sandbox is worth. -/
noncomputable def Try.pinned : Pinned := { name := "ytnccfdkkedomcaa", sum := "fb0311a1c87d5f1e7b01cef9676753f5821628eb3c536628ffcefd5d8a742cb9", checked := Try.checked }
namespace Rows
def none {H : Type} : Left H := { results := [], args := [] }

/-- 'trunnionlaw9.CpuAlu': WHATEVER THE INPUT: true; the input reads as it did. -/
def cpuAluSpec : ChangeSpec := { name := "cpuAlu", fn := fun _ => fun
  | [d1, d2, d3] => { results := [.lit (.bool true)], args := [d1, d2, d3] }
  | _ => none }
def cpuAluRow : OpenClaim := { program := "ytnccfdkkedomcaa", sum := "fb0311a1c87d5f1e7b01cef9676753f5821628eb3c536628ffcefd5d8a742cb9", func := "trunnion/trunnionlaw9.CpuAlu", spec := "cpuAlu", unfollowed := true, recurses := true, apart := false }
def CpuAluSaid : Prop := cpuAluRow.holds Try.pinned (OpenSpec.ofChange cpuAluSpec)

/-- ITS FALSE NEIGHBOUR: 'it returns false'. Refute it at one input. -/
def cpuAluWrong : ChangeSpec := { name := "cpuAlu", fn := fun _ => fun
  | [d1, d2, d3] => { results := [.lit (.bool false)], args := [d1, d2, d3] }
  | _ => none }
def CpuAluWrongFalsely : Prop := cpuAluRow.holds Try.pinned (OpenSpec.ofChange cpuAluWrong)

/-- 'trunnionlaw9.CpuTraps': WHATEVER THE INPUT: true; the input reads as it did. -/
def cpuTrapsSpec : ChangeSpec := { name := "cpuTraps", fn := fun _ => fun
  | [d1, d2, d3] => { results := [.lit (.bool true)], args := [d1, d2, d3] }
  | _ => none }
def cpuTrapsRow : OpenClaim := { program := "ytnccfdkkedomcaa", sum := "fb0311a1c87d5f1e7b01cef9676753f5821628eb3c536628ffcefd5d8a742cb9", func := "trunnion/trunnionlaw9.CpuTraps", spec := "cpuTraps", unfollowed := true, recurses := true, apart := false }
def CpuTrapsSaid : Prop := cpuTrapsRow.holds Try.pinned (OpenSpec.ofChange cpuTrapsSpec)

/-- ITS FALSE NEIGHBOUR: 'it returns false'. Refute it at one input. -/
def cpuTrapsWrong : ChangeSpec := { name := "cpuTraps", fn := fun _ => fun
  | [d1, d2, d3] => { results := [.lit (.bool false)], args := [d1, d2, d3] }
  | _ => none }
def CpuTrapsWrongFalsely : Prop := cpuTrapsRow.holds Try.pinned (OpenSpec.ofChange cpuTrapsWrong)

/-- 'trunnionlaw9.CpuBack': WHATEVER THE INPUT: true; the input reads as it did. -/
def cpuBackSpec : ChangeSpec := { name := "cpuBack", fn := fun _ => fun
  | [d1, d2, d3] => { results := [.lit (.bool true)], args := [d1, d2, d3] }
  | _ => none }
def cpuBackRow : OpenClaim := { program := "ytnccfdkkedomcaa", sum := "fb0311a1c87d5f1e7b01cef9676753f5821628eb3c536628ffcefd5d8a742cb9", func := "trunnion/trunnionlaw9.CpuBack", spec := "cpuBack", unfollowed := true, recurses := true, apart := false }
def CpuBackSaid : Prop := cpuBackRow.holds Try.pinned (OpenSpec.ofChange cpuBackSpec)

/-- ITS FALSE NEIGHBOUR: 'it returns false'. Refute it at one input. -/
def cpuBackWrong : ChangeSpec := { name := "cpuBack", fn := fun _ => fun
  | [d1, d2, d3] => { results := [.lit (.bool false)], args := [d1, d2, d3] }
  | _ => none }
def CpuBackWrongFalsely : Prop := cpuBackRow.holds Try.pinned (OpenSpec.ofChange cpuBackWrong)

/-- 'trunnionlaw9.CpuBranches': WHATEVER THE INPUT: true; the input reads as it did. -/
def cpuBranchesSpec : ChangeSpec := { name := "cpuBranches", fn := fun _ => fun
  | [d1, d2] => { results := [.lit (.bool true)], args := [d1, d2] }
  | _ => none }
def cpuBranchesRow : OpenClaim := { program := "ytnccfdkkedomcaa", sum := "fb0311a1c87d5f1e7b01cef9676753f5821628eb3c536628ffcefd5d8a742cb9", func := "trunnion/trunnionlaw9.CpuBranches", spec := "cpuBranches", unfollowed := true, recurses := true, apart := false }
def CpuBranchesSaid : Prop := cpuBranchesRow.holds Try.pinned (OpenSpec.ofChange cpuBranchesSpec)

/-- ITS FALSE NEIGHBOUR: 'it returns false'. Refute it at one input. -/
def cpuBranchesWrong : ChangeSpec := { name := "cpuBranches", fn := fun _ => fun
  | [d1, d2] => { results := [.lit (.bool false)], args := [d1, d2] }
  | _ => none }
def CpuBranchesWrongFalsely : Prop := cpuBranchesRow.holds Try.pinned (OpenSpec.ofChange cpuBranchesWrong)

/-- 'trunnionlaw9.CpuPairs': WHATEVER THE INPUT: true; the input reads as it did. -/
def cpuPairsSpec : ChangeSpec := { name := "cpuPairs", fn := fun _ => fun
  | [d1, d2] => { results := [.lit (.bool true)], args := [d1, d2] }
  | _ => none }
def cpuPairsRow : OpenClaim := { program := "ytnccfdkkedomcaa", sum := "fb0311a1c87d5f1e7b01cef9676753f5821628eb3c536628ffcefd5d8a742cb9", func := "trunnion/trunnionlaw9.CpuPairs", spec := "cpuPairs", unfollowed := true, recurses := true, apart := false }
def CpuPairsSaid : Prop := cpuPairsRow.holds Try.pinned (OpenSpec.ofChange cpuPairsSpec)

/-- ITS FALSE NEIGHBOUR: 'it returns false'. Refute it at one input. -/
def cpuPairsWrong : ChangeSpec := { name := "cpuPairs", fn := fun _ => fun
  | [d1, d2] => { results := [.lit (.bool false)], args := [d1, d2] }
  | _ => none }
def CpuPairsWrongFalsely : Prop := cpuPairsRow.holds Try.pinned (OpenSpec.ofChange cpuPairsWrong)

/-- 'trunnionlaw9.CpuNest': WHATEVER THE INPUT: true; the input reads as it did. -/
def cpuNestSpec : ChangeSpec := { name := "cpuNest", fn := fun _ => fun
  | [d1, d2, d3] => { results := [.lit (.bool true)], args := [d1, d2, d3] }
  | _ => none }
def cpuNestRow : OpenClaim := { program := "ytnccfdkkedomcaa", sum := "fb0311a1c87d5f1e7b01cef9676753f5821628eb3c536628ffcefd5d8a742cb9", func := "trunnion/trunnionlaw9.CpuNest", spec := "cpuNest", unfollowed := true, recurses := true, apart := false }
def CpuNestSaid : Prop := cpuNestRow.holds Try.pinned (OpenSpec.ofChange cpuNestSpec)

/-- ITS FALSE NEIGHBOUR: 'it returns false'. Refute it at one input. -/
def cpuNestWrong : ChangeSpec := { name := "cpuNest", fn := fun _ => fun
  | [d1, d2, d3] => { results := [.lit (.bool false)], args := [d1, d2, d3] }
  | _ => none }
def CpuNestWrongFalsely : Prop := cpuNestRow.holds Try.pinned (OpenSpec.ofChange cpuNestWrong)

/- THE SECOND FORM. 'bulk': how many values and letters a reading holds, each counted each time it is reached (what is shared counts as often as it is met; a slice's spare places count too). A statement '..UptoSaid' is the law's where the arguments, and the package variables that the reading takes, are together of bulk at most 1048576: NARROWER than '..Said'. Prove '..Said' where nothing that the law and all that it calls make is longer than what came in: it says more and counts as full. Else prove '..UptoSaid'. A law counts once. -/
mutual
def uptoBulk {H : Type} : DataW H → Nat
  | .lit (.string bytes) => bytes.length + 1
  | .lit _ => 1
  | .nil => 1
  | .ptr d => uptoBulk d + 1
  | .slice elems spare => uptoBulkAll elems + uptoBulkAll spare + 1
  | .agg parts => uptoBulkAll parts + 1
  | .iface _ d => uptoBulk d + 1
  | .map entries => uptoBulkEntries entries + 1
  | .held _ => 1
def uptoBulkAll {H : Type} : List (DataW H) → Nat
  | [] => 0
  | d :: r => uptoBulk d + uptoBulkAll r
def uptoBulkEntries {H : Type} : List (Lit × DataW H) → Nat
  | [] => 0
  | x :: r => uptoBulkEntry x + uptoBulkEntries r
def uptoBulkEntry {H : Type} : Lit × DataW H → Nat
  | (.string bytes, d) => bytes.length + uptoBulk d + 1
  | (_, d) => uptoBulk d + 1
 end
def uptoSmall : (H : Type) → List (DataW H) → Bool := fun _ ds => decide (uptoBulkAll ds ≤ 1048576)
def OpenSpec.upto (s : _root_.Go.ChangeSpec) : _root_.Go.OpenSpec := { _root_.Go.OpenSpec.ofChange s with cond := some uptoSmall }

/-- 'trunnionlaw9.CpuAlu', WHERE WHAT IT READS IS OF BULK AT MOST 1048576: true; the input reads as it did. -/
def cpuAluUptoRow : OpenClaim := { program := "ytnccfdkkedomcaa", sum := "fb0311a1c87d5f1e7b01cef9676753f5821628eb3c536628ffcefd5d8a742cb9", func := "trunnion/trunnionlaw9.CpuAlu", spec := "cpuAlu", unfollowed := true, recurses := true, apart := false, narrowed := true }
def CpuAluUptoSaid : Prop := cpuAluUptoRow.holds Try.pinned (OpenSpec.upto cpuAluSpec)

/-- 'trunnionlaw9.CpuTraps', WHERE WHAT IT READS IS OF BULK AT MOST 1048576: true; the input reads as it did. -/
def cpuTrapsUptoRow : OpenClaim := { program := "ytnccfdkkedomcaa", sum := "fb0311a1c87d5f1e7b01cef9676753f5821628eb3c536628ffcefd5d8a742cb9", func := "trunnion/trunnionlaw9.CpuTraps", spec := "cpuTraps", unfollowed := true, recurses := true, apart := false, narrowed := true }
def CpuTrapsUptoSaid : Prop := cpuTrapsUptoRow.holds Try.pinned (OpenSpec.upto cpuTrapsSpec)

/-- 'trunnionlaw9.CpuBack', WHERE WHAT IT READS IS OF BULK AT MOST 1048576: true; the input reads as it did. -/
def cpuBackUptoRow : OpenClaim := { program := "ytnccfdkkedomcaa", sum := "fb0311a1c87d5f1e7b01cef9676753f5821628eb3c536628ffcefd5d8a742cb9", func := "trunnion/trunnionlaw9.CpuBack", spec := "cpuBack", unfollowed := true, recurses := true, apart := false, narrowed := true }
def CpuBackUptoSaid : Prop := cpuBackUptoRow.holds Try.pinned (OpenSpec.upto cpuBackSpec)

/-- 'trunnionlaw9.CpuBranches', WHERE WHAT IT READS IS OF BULK AT MOST 1048576: true; the input reads as it did. -/
def cpuBranchesUptoRow : OpenClaim := { program := "ytnccfdkkedomcaa", sum := "fb0311a1c87d5f1e7b01cef9676753f5821628eb3c536628ffcefd5d8a742cb9", func := "trunnion/trunnionlaw9.CpuBranches", spec := "cpuBranches", unfollowed := true, recurses := true, apart := false, narrowed := true }
def CpuBranchesUptoSaid : Prop := cpuBranchesUptoRow.holds Try.pinned (OpenSpec.upto cpuBranchesSpec)

/-- 'trunnionlaw9.CpuPairs', WHERE WHAT IT READS IS OF BULK AT MOST 1048576: true; the input reads as it did. -/
def cpuPairsUptoRow : OpenClaim := { program := "ytnccfdkkedomcaa", sum := "fb0311a1c87d5f1e7b01cef9676753f5821628eb3c536628ffcefd5d8a742cb9", func := "trunnion/trunnionlaw9.CpuPairs", spec := "cpuPairs", unfollowed := true, recurses := true, apart := false, narrowed := true }
def CpuPairsUptoSaid : Prop := cpuPairsUptoRow.holds Try.pinned (OpenSpec.upto cpuPairsSpec)

/-- 'trunnionlaw9.CpuNest', WHERE WHAT IT READS IS OF BULK AT MOST 1048576: true; the input reads as it did. -/
def cpuNestUptoRow : OpenClaim := { program := "ytnccfdkkedomcaa", sum := "fb0311a1c87d5f1e7b01cef9676753f5821628eb3c536628ffcefd5d8a742cb9", func := "trunnion/trunnionlaw9.CpuNest", spec := "cpuNest", unfollowed := true, recurses := true, apart := false, narrowed := true }
def CpuNestUptoSaid : Prop := cpuNestUptoRow.holds Try.pinned (OpenSpec.upto cpuNestSpec)

end Rows
end Go.Proofs.Ytnccfdkkedomcaa
