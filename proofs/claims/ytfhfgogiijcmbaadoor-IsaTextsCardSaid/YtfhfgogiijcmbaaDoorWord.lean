
/-
  Contracts of package word's calls and of the like answers of trunnionref1: each answers the same plain function, and changes nothing.
-/
import Derived.Test.YtfhfgogiijcmbaaDoorRows
import Derived.WalkKit
import Derived.ProofKit
import Derived.OpenShut
import Derived.Lib.Hide
import Derived.Test.YtfhfgogiijcmbaaDoorMath
namespace Go.Proofs.YtfhfgogiijcmbaaDoor
open Go.ChangeShapes Go.WideShapes Go.ChangeAt Go.RowKit
theorem ret_int {k : IntKind} {a b : Int} (h : a = b) : Ending.returned (.int k a) = .returned (.int k b) := by rw [h]
theorem ret_bool {a b : Bool} (h : a = b) : Ending.returned (.bool a) = .returned (.bool b) := by rw [h]

/-- A call that answers v and changes nothing. -/
abbrev Says (f : Nat) (args : Array Value) (v : Value) : Prop := ∀ w : World, Calls Tryd.prog f args w fun e w' => e = .returned v ∧ w = w'
abbrev i64 (n : Int) : Value := .int .i64 n

theorem w_says (a : Int) : Says 17 #[i64 a] (i64 (wd a)) := by
  intro w
  go_enter Tryd.func17, Tryd.ntmps17
  go_wp2
  go_ret
  exact ⟨ret_int (i64_word a), rfl⟩
theorem signed32_says (a : Int) : Says 41 #[i64 a] (.int .i32 (sg a)) := by
  intro w
  go_enter Tryd.func41, Tryd.ntmps41
  go_wp2
  go_ret
  exact ⟨ret_int (w32 a), rfl⟩
theorem signed_says (a : Int) : Says 34 #[i64 a] (i64 (sg a)) := by
  intro w
  have h1 := sg_lo a
  have h2 := sg_hi a
  go_enter Tryd.func34, Tryd.ntmps34
  go_wp2_with (go_at_call 41; refine (signed32_says _ _).mono ?_; rintro e w' ⟨rfl, rfl⟩)
  go_ret
  exact ⟨rfl, rfl⟩
theorem rsigned_says (a : Int) : Says 30 #[i64 a] (i64 (sg a)) := by
  intro w
  have e := i64_word a
  have h1 := wd_lo a
  have h2 := wd_hi a
  have h3 := sg_of a
  by_cases h : 2147483647 < wd a
  all_goals
    simp only [h, if_true, if_false] at h3
    have h3' := Lib.hid h3
    clear h3
    go_enter Tryd.func30, Tryd.ntmps30
    go_wp2
    go_ret
    exact ⟨ret_int h3'.out.symm, rfl⟩
theorem bits_says (a h l : Int) : Says 36 #[i64 a, i64 h, i64 l] (i64 (bt a h l)) := by
  intro w
  by_cases hn : l < 0 ∨ h < l ∨ 31 < h
  · have hd := Lib.hid (bt_no a h l hn)
    rcases hn with hn | hn | hn
    · go_enter Tryd.func36, Tryd.ntmps36
      go_wp2
      go_ret
      exact ⟨ret_int hd.out.symm, rfl⟩
    · by_cases h0 : l < 0
      all_goals
        go_enter Tryd.func36, Tryd.ntmps36
        go_wp2
        go_ret
        exact ⟨ret_int hd.out.symm, rfl⟩
    · by_cases h0 : l < 0
      all_goals by_cases h1 : h < l
      all_goals
        go_enter Tryd.func36, Tryd.ntmps36
        go_wp2
        go_ret
        exact ⟨ret_int hd.out.symm, rfl⟩
  · have h0 : 0 ≤ l := by omega
    have h1 : l ≤ h := by omega
    have h2 : h ≤ 31 := by omega
    have hd := Lib.hid (bt_raw' a h l h0 h1 h2)
    clear hn
    go_enter Tryd.func36, Tryd.ntmps36
    go_wp2
    go_ret
    exact ⟨ret_int hd.out, rfl⟩
theorem extend_says (a n : Int) : Says 35 #[i64 a, i64 n] (i64 (ex a n)) := by
  intro w
  by_cases h : n < 1
  · have hd := Lib.hid (ex_no a n h)
    go_enter Tryd.func35, Tryd.ntmps35
    go_wp2
    go_ret
    exact ⟨ret_int hd.out.symm, rfl⟩
  · have h1 : 1 ≤ n := by omega
    clear h
    by_cases h2 : 32 < n
    · have hd := Lib.hid (ex_all a n (by omega))
      go_enter Tryd.func35, Tryd.ntmps35
      go_wp2
      go_ret
      exact ⟨ret_int (by rw [hd.out, w32]; exact wd_sg a), rfl⟩
    · have h3 : n ≤ 32 := by omega
      have hd := Lib.hid (ex_raw a n h1 h3)
      go_enter Tryd.func35, Tryd.ntmps35
      go_wp2
      go_ret
      exact ⟨ret_int hd.out, rfl⟩
theorem rextend_says (a n : Int) : Says 31 #[i64 a, i64 n] (i64 (ex a n)) := by
  intro w
  by_cases h : n < 1
  · have hd := Lib.hid (ex_no a n h)
    go_enter Tryd.func31, Tryd.ntmps31
    go_wp2
    go_ret
    exact ⟨ret_int hd.out.symm, rfl⟩
  · have h1 : 1 ≤ n := by omega
    clear h
    by_cases h2 : 32 < n
    · have hd := Lib.hid (ex_all a n (by omega))
      have e := i64_word a
      go_enter Tryd.func31, Tryd.ntmps31
      go_wp2_with (go_at_call 17; refine (w_says _ _).mono ?_; rintro e w' ⟨rfl, rfl⟩)
      all_goals go_ret
      · exact ⟨ret_int (by rw [hd.out, wd_wrap]; unfold wd; omega), rfl⟩
      · exact ⟨ret_int (by rw [hd.out, wd_wd]), rfl⟩
    · have h3 : n ≤ 32 := by omega
      have ht := ex_two a n h1 h3
      have hp : (2 : Int) ^ n.toNat ≤ 4294967296 := pow_le' (b := 32) (by omega)
      have hp' := pow_pos' n.toNat
      have hp1 := pow_pos' (n.toNat - 1)
      have hpp : (2 : Int) ^ n.toNat = 2 * 2 ^ (n.toNat - 1) := by
        rw [show n.toNat = n.toNat - 1 + 1 from by omega, Nat.add_sub_cancel, Int.pow_succ, Int.mul_comm]
      have e := i64_mask a n.toNat (by omega)
      have r0 := Int.emod_nonneg a (by omega : (2 : Int) ^ n.toNat ≠ 0)
      have r1 := Int.emod_lt_of_pos a hp'
      have hh := half_one (a % 2 ^ n.toNat) (2 ^ (n.toNat - 1)) hp1 r0 (by omega)
      clear hpp
      by_cases h4 : 2 ^ (n.toNat - 1) ≤ a % 2 ^ n.toNat
      all_goals
        simp only [h4, if_true, if_false, decide_true, decide_false] at hh ht
        have hd := Lib.hid ht
        clear ht
        go_enter Tryd.func31, Tryd.ntmps31
        go_wp2_with (go_at_call 17; refine (w_says _ _).mono ?_; rintro e w' ⟨rfl, rfl⟩)
        go_ret
        exact ⟨ret_int hd.out.symm, rfl⟩
end Go.Proofs.YtfhfgogiijcmbaaDoor
