
/-
  Contracts of package csr's calls and of the like answers of trunnionref1: each answers the same plain function, and changes nothing.
-/
import Derived.Test.YtnccfdkkedomcaaWord
import Derived.Test.YtnccfdkkedomcaaCsrMath
namespace Go.Proofs.Ytnccfdkkedomcaa
open Go.ChangeShapes Go.WideShapes Go.ChangeAt Go.RowKit
theorem mk_cases (n : Int) : n = 0 ∨ n = 1 ∨ n = 2 ∨ n = 3 ∨ n = 4 ∨ n = 5 ∨ n = 6 ∨ n = 8 ∨ n = 10 ∨ (¬ n = 0 ∧ ¬ n = 1 ∧ ¬ n = 2 ∧ ¬ n = 3 ∧ ¬ n = 4 ∧ ¬ n = 5 ∧ ¬ n = 6 ∧ ¬ n = 8 ∧ ¬ n = 10) := by omega
theorem mk_none (n : Int) (h : ¬ n = 0 ∧ ¬ n = 1 ∧ ¬ n = 2 ∧ ¬ n = 3 ∧ ¬ n = 4 ∧ ¬ n = 5 ∧ ¬ n = 6 ∧ ¬ n = 8 ∧ ¬ n = 10) : mk n = 0 := by
  unfold mk; obtain ⟨h0, h1, h2, h3, h4, h5, h6, h8, h10⟩ := h; simp only [h0, h1, h2, h3, h4, h5, h6, h8, h10, or_self, if_false]
theorem or_mask : bits .or .i64 3 4294967292 = 4294967295 := by decide +kernel
theorem or_mask0 : bits .or .i64 0 4294967292 = 4294967292 := by decide +kernel
theorem enter_says (s : Int) : Says 55 #[i64 s] (i64 (en s)) := by
  intro w
  have e1 := and5 s
  have b0 := two_of s
  have b1 := two_of (s / 4)
  have e2 := Lib.hid (or_en (s % 2) (s / 4 % 2) b0 b1)
  go_enter Try.func55, Try.ntmps55
  go_wp2
  go_ret
  exact ⟨ret_int e2.out, rfl⟩
theorem leave_says (s : Int) : Says 56 #[i64 s] (i64 (le s)) := by
  intro w
  have e1 := and10 s
  have b0 := two_of (s / 2)
  have b1 := two_of (s / 8)
  have e2 := Lib.hid (or_le (s / 2 % 2) (s / 8 % 2) b0 b1)
  go_enter Try.func56, Try.ntmps56
  go_wp2
  go_ret
  exact ⟨ret_int e2.out, rfl⟩
theorem or_4_2 : bits .or .i64 4 2 = 6 := by decide +kernel
theorem or_4_8 : bits .or .i64 4 8 = 12 := by decide +kernel
theorem or_6_8 : bits .or .i64 6 8 = 14 := by decide +kernel
theorem or_2_1 : bits .or .i64 2 1 = 3 := by decide +kernel
theorem or_2_4 : bits .or .i64 2 4 = 6 := by decide +kernel
theorem or_3_4 : bits .or .i64 3 4 = 7 := by decide +kernel
theorem renter_says (s : Int) : Says 60 #[i64 s] (i64 (en s)) := by
  intro w
  have e1 := and1 s
  have e2 := and4 s
  have f1 := or_4_2
  have f2 := or_4_8
  have f3 := or_6_8
  rcases two_of s with h | h <;> rcases two_of (s / 4) with h' | h'
  all_goals
    have hd := Lib.hid (show en s = s % 2 * 2 + s / 4 % 2 * 8 + 4 from rfl)
    rw [h, h'] at hd
    rw [h] at e1
    rw [h'] at e2
    go_enter Try.func60, Try.ntmps60
    go_wp2
    go_ret
    exact ⟨ret_int hd.out.symm, rfl⟩
theorem rleave_says (s : Int) : Says 59 #[i64 s] (i64 (le s)) := by
  intro w
  have e1 := and2 s
  have e2 := and8 s
  have f1 := or_2_1
  have f2 := or_2_4
  have f3 := or_3_4
  rcases two_of (s / 2) with h | h <;> rcases two_of (s / 8) with h' | h'
  all_goals
    have hd := Lib.hid (show le s = s / 2 % 2 + s / 8 % 2 * 4 + 2 from rfl)
    rw [h, h'] at hd
    rw [h] at e1
    rw [h'] at e2
    go_enter Try.func59, Try.ntmps59
    go_wp2
    go_ret
    exact ⟨ret_int hd.out.symm, rfl⟩
end Go.Proofs.Ytnccfdkkedomcaa
