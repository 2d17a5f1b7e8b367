
/-
  The contract of the document's own answer Form: form's letter and name of each operation.
-/
import Derived.Test.YtpjonhcbhgalpaaDoorIsaMath
import Derived.Test.YtpjonhcbhgalpaaDoorWord
namespace Go.Proofs.YtpjonhcbhgalpaaDoor
open Go.ChangeShapes Go.WideShapes Go.ChangeAt Go.RowKit
theorem u8str {a b : Int} {s t : ByteArray} (h : a = b) (h' : s = t) : Ending.returned (.tuple #[.int .u8 a, .string s]) = .returned (.tuple #[.int .u8 b, .string t]) := by rw [h, h']
set_option maxHeartbeats 4000000 in
set_option maxRecDepth 100000 in
theorem form_says (op : Int) : Says 6 #[i64 op] (.tuple #[.int .u8 (fC (opF op)), .string (opN op)]) := by
  intro w
  go_enter Tryd.func6, Tryd.ntmps6
  go_wp2
  all_goals go_ret2
  all_goals refine ⟨?_, rfl⟩
  all_goals first
    | (have e := eq_of_beq ‹(op == _) = true›; rw [e]; rfl)
    | skip
  by_cases h0 : op < 0
  · rw [opF_neg op h0, opN_neg op h0]; rfl
  · by_cases h1 : 70 < op
    · rw [opF_great op h1, opN_great op h1]; rfl
    · rcases op_cases op (by omega) (by omega) with rfl | rfl | rfl | rfl | rfl | rfl | rfl | rfl | rfl | rfl | rfl | rfl | rfl | rfl | rfl | rfl | rfl | rfl | rfl | rfl | rfl | rfl | rfl | rfl | rfl | rfl | rfl | rfl | rfl | rfl | rfl | rfl | rfl | rfl | rfl | rfl | rfl | rfl | rfl | rfl | rfl | rfl | rfl | rfl | rfl | rfl | rfl | rfl | rfl | rfl | rfl | rfl | rfl | rfl | rfl | rfl | rfl | rfl | rfl | rfl | rfl | rfl | rfl | rfl | rfl | rfl | rfl | rfl | rfl | rfl | rfl <;> first | rfl | contradiction
end Go.Proofs.YtpjonhcbhgalpaaDoor
