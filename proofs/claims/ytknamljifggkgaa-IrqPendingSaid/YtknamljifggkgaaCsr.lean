
/-
  Contracts of package csr's calls and of the like answers of trunnionref1: each answers the same plain function, and changes nothing.
-/
import Derived.Test.YtknamljifggkgaaWord
import Derived.Test.YtknamljifggkgaaCsrMath
namespace Go.Proofs.Ytknamljifggkgaa
open Go.ChangeShapes Go.WideShapes Go.ChangeAt Go.RowKit
theorem mk_cases (n : Int) : n = 0 ∨ n = 1 ∨ n = 2 ∨ n = 3 ∨ n = 4 ∨ n = 5 ∨ n = 6 ∨ n = 8 ∨ n = 10 ∨ (¬ n = 0 ∧ ¬ n = 1 ∧ ¬ n = 2 ∧ ¬ n = 3 ∧ ¬ n = 4 ∧ ¬ n = 5 ∧ ¬ n = 6 ∧ ¬ n = 8 ∧ ¬ n = 10) := by omega
theorem mk_none (n : Int) (h : ¬ n = 0 ∧ ¬ n = 1 ∧ ¬ n = 2 ∧ ¬ n = 3 ∧ ¬ n = 4 ∧ ¬ n = 5 ∧ ¬ n = 6 ∧ ¬ n = 8 ∧ ¬ n = 10) : mk n = 0 := by
  unfold mk; obtain ⟨h0, h1, h2, h3, h4, h5, h6, h8, h10⟩ := h; simp only [h0, h1, h2, h3, h4, h5, h6, h8, h10, or_self, if_false]
theorem or_mask : bits .or .i64 3 4294967292 = 4294967295 := by decide +kernel
theorem or_mask0 : bits .or .i64 0 4294967292 = 4294967292 := by decide +kernel
theorem user_says (s : Int) : Says 16 #[i64 s] (.bool (decide (s / 4 % 2 = 0))) := by
  intro w
  have e1 := and4 s
  rcases two_of (s / 4) with h | h
  all_goals
    go_enter Try.func16, Try.ntmps16
    go_wp2
    go_ret
    exact ⟨ret_bool (by simp [h]), rfl⟩
theorem or_4_2 : bits .or .i64 4 2 = 6 := by decide +kernel
theorem or_4_8 : bits .or .i64 4 8 = 12 := by decide +kernel
theorem or_6_8 : bits .or .i64 6 8 = 14 := by decide +kernel
theorem or_2_1 : bits .or .i64 2 1 = 3 := by decide +kernel
theorem or_2_4 : bits .or .i64 2 4 = 6 := by decide +kernel
theorem or_3_4 : bits .or .i64 3 4 = 7 := by decide +kernel
end Go.Proofs.Ytknamljifggkgaa
