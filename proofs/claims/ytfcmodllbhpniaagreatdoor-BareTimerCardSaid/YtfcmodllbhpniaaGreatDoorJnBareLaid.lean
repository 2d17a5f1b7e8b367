/-
  The laws' condition: the one listed variable (errors.errorType): what it gives a walk, a world that meets it.
-/
import Derived.Test.YtfcmodllbhpniaaGreatDoorJnBareLay
import Derived.Test.YtfcmodllbhpniaaGreatDoorRows
import Derived.ChangeSame
import Derived.ChangeVars
import Derived.JoinedOf
import Derived.RowKit
import Derived.RowKitTokens
import Derived.LaidLaws
import Derived.LaidHandle
import Derived.Stop.Joined
import Derived.Carry
import Derived.OpenShut
set_option linter.unusedVariables false
set_option maxRecDepth 100000
namespace Go.Proofs.YtfcmodllbhpniaaGreatDoor.Ser
open Go Go.Proofs.YtfcmodllbhpniaaGreatDoor
open Go.ChangeShapes Go.WideShapes Go.ChangeAt Go.RowKit
/-- The listed variable. -/
def laidB : List (String × DataW Unit) := [("errors.errorType", Rows.laid_errors_errorType)]
theorem ownB : ownKnob Tryz.prog.godebug = none := by kernel_rfl
theorem eT : Tryz.prog.globalNamed "errors.errorType" = some 0 := by kernel_rfl
theorem rT : (Tryz.prog.cutTypes.find? (·.1 == "internal/reflectlite.rtype")).map (·.2) = some 174 := by kernel_rfl
theorem oneRowB : ((List.range 260).filter fun t => Tryz.prog.rowNamed t [101, 114, 114, 111, 114]) = [97] := by kernel_rfl
theorem sizeB : Tryz.prog.types.size = 260 := by kernel_rfl
/-- What the condition gives the walks. -/
theorem glob_of_laid {W : World} (h : laidMetH Tryz.prog laidB W) : Glob W := by
  have h' : laidMet Tryz.prog [] W ∧ handlesMet Tryz.prog laidB W := h
  obtain ⟨name, u, ty, e1, e2, e3, e4, e5⟩ := h'.2 _ (List.mem_singleton.2 rfl)
  have en : name = [101, 114, 114, 111, 114] := (Option.some.inj e1).symm
  subst en
  obtain rfl := Option.some.inj (rT.symm.trans e2)
  have hm : ty ∈ (List.range 260).filter fun t => Tryz.prog.rowNamed t [101, 114, 114, 111, 114] := List.mem_filter.2 ⟨List.mem_range.2 (by rw [← sizeB]; exact e3), e4⟩
  rw [oneRowB] at hm
  obtain rfl := List.mem_singleton.1 hm
  have hh : typeHandle Tryz.prog 97 = .pointer (some ⟨1, 97, none⟩) := by kernel_rfl
  rw [hh] at e5
  simpa using World.var?_cell eT e5 0
/-- A world that meets the condition. -/
noncomputable def laidWorld (os : Os) : World :=
  let w0 := World.holding Tryz.prog os ⟨#[], #[], []⟩
  { w0 with heap := w0.heap.modify 0 fun
      | .cells _ t frozen => .cells #[.iface 174 (.agg #[.pointer (some ⟨1, 97, none⟩)])] t frozen
      | o => o }
theorem laidWorld_met (os : Os) (args : Array Value) : laidMetH Tryz.prog laidB ((laidWorld os).forCall (fun _ _ => 0) ⟨#[], args, []⟩).memory :=
  laidMetH_of_parts (laidMet_nil _ _) (by kernel_rfl)
end Go.Proofs.YtfcmodllbhpniaaGreatDoor.Ser
