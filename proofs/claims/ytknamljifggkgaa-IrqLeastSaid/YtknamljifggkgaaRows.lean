/-
  No cell of these rows narrows 'for every input' (looked for: loops, veiled, ifaces, maps, wideKeys, modest, calm, conditions, laid).
  DERIVED. THE GIVEN ROWS OF THIS SEAT. 3 by the template 'for every input the law returns true; each argument reads behind the call as it read before'; 0 by the template 'total and deterministic' (their statements: YtknamljifggkgaaTotals.lean).
  GIVEN WITH THE SEED: the statements are not yours to turn. If you find one false, say at which input.
  Laid BY PROGRAM, IN A SANDBOX (cutbox-rows.mjs): the forced cells as the released guide's own fill.sh prints them over the translation 525112e332532540… (all of the seat's roots in one cut). By AI agents, Wed Nov 11 2026. No macro, syntax, notation, axiom, sorry.
-/
import Derived.Test.YtknamljifggkgaaChecked
import GoSem.Claim
import GoSem.ClaimJoined
import GoSem.ClaimMapViews
import Derived.JoinedTies
import Derived.KernelRfl
namespace Go.Proofs.Ytknamljifggkgaa
/- THE CELL 'sum', in the pinned program and in every row, IS THE sha256 OF THE DUMP (.gsa) THAT YtknamljifggkgaaProg.lean LOADS. Nothing in Lean hashes anything: it is a label: what it is worth is what the hold of that sum in a sandbox is worth. -/
noncomputable def Try.pinned : Pinned := { name := "ytknamljifggkgaa", sum := "525112e332532540c1009572a724065ad07629552ca5013428245b2e66434aec", checked := Try.checked }
namespace Rows
def none {H : Type} : Left H := { results := [], args := [] }

/-- 'trunnionlaw8.IrqPending': WHATEVER THE INPUT: true; the input reads as it did. -/
def irqPendingSpec : ChangeSpec := { name := "irqPending", fn := fun _ => fun
  | [d1, d2, d3, d4] => { results := [.lit (.bool true)], args := [d1, d2, d3, d4] }
  | _ => none }
def irqPendingRow : OpenClaim := { program := "ytknamljifggkgaa", sum := "525112e332532540c1009572a724065ad07629552ca5013428245b2e66434aec", func := "trunnion/trunnionlaw8.IrqPending", spec := "irqPending", apart := false }
def IrqPendingSaid : Prop := irqPendingRow.holds Try.pinned (OpenSpec.ofChange irqPendingSpec)

/-- ITS FALSE NEIGHBOUR: 'it returns false'. Refute it at one input. -/
def irqPendingWrong : ChangeSpec := { name := "irqPending", fn := fun _ => fun
  | [d1, d2, d3, d4] => { results := [.lit (.bool false)], args := [d1, d2, d3, d4] }
  | _ => none }
def IrqPendingWrongFalsely : Prop := irqPendingRow.holds Try.pinned (OpenSpec.ofChange irqPendingWrong)

/-- 'trunnionlaw8.IrqTakes': WHATEVER THE INPUT: true; the input reads as it did. -/
def irqTakesSpec : ChangeSpec := { name := "irqTakes", fn := fun _ => fun
  | [d1, d2, d3] => { results := [.lit (.bool true)], args := [d1, d2, d3] }
  | _ => none }
def irqTakesRow : OpenClaim := { program := "ytknamljifggkgaa", sum := "525112e332532540c1009572a724065ad07629552ca5013428245b2e66434aec", func := "trunnion/trunnionlaw8.IrqTakes", spec := "irqTakes", apart := false }
def IrqTakesSaid : Prop := irqTakesRow.holds Try.pinned (OpenSpec.ofChange irqTakesSpec)

/-- ITS FALSE NEIGHBOUR: 'it returns false'. Refute it at one input. -/
def irqTakesWrong : ChangeSpec := { name := "irqTakes", fn := fun _ => fun
  | [d1, d2, d3] => { results := [.lit (.bool false)], args := [d1, d2, d3] }
  | _ => none }
def IrqTakesWrongFalsely : Prop := irqTakesRow.holds Try.pinned (OpenSpec.ofChange irqTakesWrong)

/-- 'trunnionlaw8.IrqLeast': WHATEVER THE INPUT: true; the input reads as it did. -/
def irqLeastSpec : ChangeSpec := { name := "irqLeast", fn := fun _ => fun
  | [d1, d2] => { results := [.lit (.bool true)], args := [d1, d2] }
  | _ => none }
def irqLeastRow : OpenClaim := { program := "ytknamljifggkgaa", sum := "525112e332532540c1009572a724065ad07629552ca5013428245b2e66434aec", func := "trunnion/trunnionlaw8.IrqLeast", spec := "irqLeast", apart := false }
def IrqLeastSaid : Prop := irqLeastRow.holds Try.pinned (OpenSpec.ofChange irqLeastSpec)

/-- ITS FALSE NEIGHBOUR: 'it returns false'. Refute it at one input. -/
def irqLeastWrong : ChangeSpec := { name := "irqLeast", fn := fun _ => fun
  | [d1, d2] => { results := [.lit (.bool false)], args := [d1, d2] }
  | _ => none }
def IrqLeastWrongFalsely : Prop := irqLeastRow.holds Try.pinned (OpenSpec.ofChange irqLeastWrong)

/- THE SECOND FORM. 'bulk': how many values and letters a reading holds, each counted each time it is reached (what is shared counts as often as it is met; a slice's spare places count too). A statement '..UptoSaid' is the law's where the arguments, and the package variables that the reading takes, are together of bulk at most 1048576: NARROWER than '..Said'. Prove '..Said' where nothing that the law and all that it calls make is longer than what came in: it says more and counts as full. Else prove '..UptoSaid'. A law counts once. -/
mutual
def uptoBulk {H : Type} : DataW H → Nat
  | .lit (.string bytes) => bytes.length + 1
  | .lit _ => 1
  | .nil => 1
  | .ptr d => uptoBulk d + 1
  | .slice elems spare => uptoBulkAll elems + uptoBulkAll spare + 1
  | .agg parts => uptoBulkAll parts + 1
  | .iface _ d => uptoBulk d + 1
  | .map entries => uptoBulkEntries entries + 1
  | .held _ => 1
def uptoBulkAll {H : Type} : List (DataW H) → Nat
  | [] => 0
  | d :: r => uptoBulk d + uptoBulkAll r
def uptoBulkEntries {H : Type} : List (Lit × DataW H) → Nat
  | [] => 0
  | x :: r => uptoBulkEntry x + uptoBulkEntries r
def uptoBulkEntry {H : Type} : Lit × DataW H → Nat
  | (.string bytes, d) => bytes.length + uptoBulk d + 1
  | (_, d) => uptoBulk d + 1
 end
def uptoSmall : (H : Type) → List (DataW H) → Bool := fun _ ds => decide (uptoBulkAll ds ≤ 1048576)
def OpenSpec.upto (s : _root_.Go.ChangeSpec) : _root_.Go.OpenSpec := { _root_.Go.OpenSpec.ofChange s with cond := some uptoSmall }

/-- 'trunnionlaw8.IrqPending', WHERE WHAT IT READS IS OF BULK AT MOST 1048576: true; the input reads as it did. -/
def irqPendingUptoRow : OpenClaim := { program := "ytknamljifggkgaa", sum := "525112e332532540c1009572a724065ad07629552ca5013428245b2e66434aec", func := "trunnion/trunnionlaw8.IrqPending", spec := "irqPending", apart := false, narrowed := true }
def IrqPendingUptoSaid : Prop := irqPendingUptoRow.holds Try.pinned (OpenSpec.upto irqPendingSpec)

/-- 'trunnionlaw8.IrqTakes', WHERE WHAT IT READS IS OF BULK AT MOST 1048576: true; the input reads as it did. -/
def irqTakesUptoRow : OpenClaim := { program := "ytknamljifggkgaa", sum := "525112e332532540c1009572a724065ad07629552ca5013428245b2e66434aec", func := "trunnion/trunnionlaw8.IrqTakes", spec := "irqTakes", apart := false, narrowed := true }
def IrqTakesUptoSaid : Prop := irqTakesUptoRow.holds Try.pinned (OpenSpec.upto irqTakesSpec)

/-- 'trunnionlaw8.IrqLeast', WHERE WHAT IT READS IS OF BULK AT MOST 1048576: true; the input reads as it did. -/
def irqLeastUptoRow : OpenClaim := { program := "ytknamljifggkgaa", sum := "525112e332532540c1009572a724065ad07629552ca5013428245b2e66434aec", func := "trunnion/trunnionlaw8.IrqLeast", spec := "irqLeast", apart := false, narrowed := true }
def IrqLeastUptoSaid : Prop := irqLeastUptoRow.holds Try.pinned (OpenSpec.upto irqLeastSpec)

end Rows
end Go.Proofs.Ytknamljifggkgaa
