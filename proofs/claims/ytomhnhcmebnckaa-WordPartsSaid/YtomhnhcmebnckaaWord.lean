/-
  Contracts of package word's calls and of the like answers of trunnionref1: each answers the same plain function, and changes nothing.
-/
import Derived.Test.YtomhnhcmebnckaaRows
import Derived.WalkKit
import Derived.ProofKit
import Derived.OpenShut
import Derived.Lib.Hide
import Derived.Test.YtomhnhcmebnckaaMath
namespace Go.Proofs.Ytomhnhcmebnckaa
open Go.ChangeShapes Go.WideShapes Go.ChangeAt Go.RowKit
theorem ret_int {k : IntKind} {a b : Int} (h : a = b) : Ending.returned (.int k a) = .returned (.int k b) := by rw [h]
theorem ret_bool {a b : Bool} (h : a = b) : Ending.returned (.bool a) = .returned (.bool b) := by rw [h]

/-- A call that answers v and changes nothing. -/
abbrev Says (f : Nat) (args : Array Value) (v : Value) : Prop := ∀ w : World, Calls Try.prog f args w fun e w' => e = .returned v ∧ w = w'
abbrev i64 (n : Int) : Value := .int .i64 n

theorem of_says (a : Int) : Says 14 #[i64 a] (i64 (wd a)) := by
  intro w
  go_enter Try.func14, Try.ntmps14
  go_wp2
  go_ret
  exact ⟨rfl, rfl⟩
theorem w_says (a : Int) : Says 15 #[i64 a] (i64 (wd a)) := by
  intro w
  go_enter Try.func15, Try.ntmps15
  go_wp2
  go_ret
  exact ⟨ret_int (i64_word a), rfl⟩
theorem signed32_says (a : Int) : Says 38 #[i64 a] (.int .i32 (sg a)) := by
  intro w
  go_enter Try.func38, Try.ntmps38
  go_wp2
  go_ret
  exact ⟨ret_int (w32 a), rfl⟩
theorem signed_says (a : Int) : Says 16 #[i64 a] (i64 (sg a)) := by
  intro w
  have h1 := sg_lo a
  have h2 := sg_hi a
  go_enter Try.func16, Try.ntmps16
  go_wp2_with (go_at_call 38; refine (signed32_says _ _).mono ?_; rintro e w' ⟨rfl, rfl⟩)
  go_ret
  exact ⟨rfl, rfl⟩
theorem rsigned_says (a : Int) : Says 17 #[i64 a] (i64 (sg a)) := by
  intro w
  have e := i64_word a
  have h1 := wd_lo a
  have h2 := wd_hi a
  have h3 := sg_of a
  by_cases h : 2147483647 < wd a
  all_goals
    simp only [h, if_true, if_false] at h3
    have h3' := Lib.hid h3
    clear h3
    go_enter Try.func17, Try.ntmps17
    go_wp2
    go_ret
    exact ⟨ret_int h3'.out.symm, rfl⟩
theorem add_says (a b : Int) : Says 18 #[i64 a, i64 b] (i64 (wd (a + b))) := by
  intro w
  go_enter Try.func18, Try.ntmps18
  go_wp2
  go_ret
  exact ⟨ret_int rfl, rfl⟩
theorem sub_says (a b : Int) : Says 19 #[i64 a, i64 b] (i64 (wd (a - b))) := by
  intro w
  go_enter Try.func19, Try.ntmps19
  go_wp2
  go_ret
  exact ⟨ret_int rfl, rfl⟩
theorem mul_says (a b : Int) : Says 20 #[i64 a, i64 b] (i64 (wd (a * b))) := by
  intro w
  go_enter Try.func20, Try.ntmps20
  go_wp2
  go_ret
  exact ⟨ret_int (wd_mul a b), rfl⟩
theorem rmul_says (a b : Int) : Says 21 #[i64 a, i64 b] (i64 (wd (a * b))) := by
  intro w
  go_enter Try.func21, Try.ntmps21
  go_wp2
  go_ret
  exact ⟨ret_int (wd_mul a b), rfl⟩
theorem div_says (a b : Int) : Says 22 #[i64 a, i64 b] (i64 (dv a b)) := by
  intro w
  by_cases h : b % 4294967296 = 0
  · have hd : dv a b = 4294967295 := by unfold dv wd; rw [if_pos h]
    have hd' := Lib.hid hd
    clear hd
    go_enter Try.func22, Try.ntmps22
    go_wp2
    go_ret
    exact ⟨ret_int hd'.out.symm, rfl⟩
  · have hd : dv a b = a % 4294967296 / (b % 4294967296) := by unfold dv wd; rw [if_neg h]
    have hd' := Lib.hid hd
    have hb : (b % 4294967296 == 0) = false := by simpa using h
    have hp : 1 ≤ b % 4294967296 := by omega
    have hq := IntWalk.tdiv_le (a % 4294967296) (b % 4294967296) (by omega) hp
    have hq2 : a % 4294967296 / (b % 4294967296) ≤ 4294967295 := by omega
    clear hd
    go_enter Try.func22, Try.ntmps22
    go_wp2
    go_ret
    exact ⟨ret_int hd'.out.symm, rfl⟩
theorem rem_says (a b : Int) : Says 23 #[i64 a, i64 b] (i64 (rm a b)) := by
  intro w
  by_cases h : b % 4294967296 = 0
  · have hd : rm a b = wd a := by unfold rm wd; rw [if_pos h]
    have hd' := Lib.hid hd
    clear hd
    go_enter Try.func23, Try.ntmps23
    go_wp2_with (go_at_call 14; refine (of_says _ _).mono ?_; rintro e w' ⟨rfl, rfl⟩)
    go_ret
    exact ⟨ret_int hd'.out.symm, rfl⟩
  · have hd : rm a b = a % 4294967296 % (b % 4294967296) := by unfold rm wd; rw [if_neg h]
    have hd' := Lib.hid hd
    have hb : (b % 4294967296 == 0) = false := by simpa using h
    have hp : 1 ≤ b % 4294967296 := by omega
    have hq1 : 0 ≤ a % 4294967296 % (b % 4294967296) := Int.emod_nonneg _ (by omega)
    have hq2 : a % 4294967296 % (b % 4294967296) < b % 4294967296 := Int.emod_lt_of_pos _ (by omega)
    clear hd
    go_enter Try.func23, Try.ntmps23
    go_wp2
    go_ret
    exact ⟨ret_int hd'.out.symm, rfl⟩
theorem rdiv_says (a b : Int) : Says 24 #[i64 a, i64 b] (i64 (dv a b)) := by
  intro w
  have a1 := wd_lo a
  have a2 := wd_hi a
  have b1 := wd_lo b
  have b2 := wd_hi b
  by_cases h : wd b = 0
  · have hd : dv a b = 4294967295 := by unfold dv; rw [if_pos h]
    have hd' := Lib.hid hd
    clear hd
    go_enter Try.func24, Try.ntmps24
    go_wp2_with (go_at_call 15; refine (w_says _ _).mono ?_; rintro e w' ⟨rfl, rfl⟩)
    go_ret
    exact ⟨ret_int hd'.out.symm, rfl⟩
  · have hd : dv a b = wd a / wd b := by unfold dv; rw [if_neg h]
    have hd' := Lib.hid hd
    have hb : (wd b == 0) = false := by simpa using h
    have hp : 1 ≤ wd b := by omega
    have hq := IntWalk.tdiv_le (wd a) (wd b) (by omega) hp
    clear hd
    go_enter Try.func24, Try.ntmps24
    go_wp2_with (go_at_call 15; refine (w_says _ _).mono ?_; rintro e w' ⟨rfl, rfl⟩)
    go_ret
    exact ⟨ret_int hd'.out.symm, rfl⟩
theorem rrem_says (a b : Int) : Says 25 #[i64 a, i64 b] (i64 (rm a b)) := by
  intro w
  have a1 := wd_lo a
  have a2 := wd_hi a
  have b1 := wd_lo b
  have b2 := wd_hi b
  by_cases h : wd b = 0
  · have hd : rm a b = wd a := by unfold rm; rw [if_pos h]
    have hd' := Lib.hid hd
    clear hd
    go_enter Try.func25, Try.ntmps25
    go_wp2_with (go_at_call 15; refine (w_says _ _).mono ?_; rintro e w' ⟨rfl, rfl⟩)
    go_ret
    exact ⟨ret_int hd'.out.symm, rfl⟩
  · have hd : rm a b = wd a % wd b := by unfold rm; rw [if_neg h]
    have hd' := Lib.hid hd
    have hb : (wd b == 0) = false := by simpa using h
    have hp : 1 ≤ wd b := by omega
    have hq1 : 0 ≤ wd a % wd b := Int.emod_nonneg _ (by omega)
    have hq2 : wd a % wd b < wd b := Int.emod_lt_of_pos _ (by omega)
    clear hd
    go_enter Try.func25, Try.ntmps25
    go_wp2_with (go_at_call 15; refine (w_says _ _).mono ?_; rintro e w' ⟨rfl, rfl⟩)
    go_ret
    exact ⟨ret_int hd'.out.symm, rfl⟩
theorem places_says (n : Int) : Says 39 #[i64 n] (.int .u32 (pl n)) := by
  intro w
  go_enter Try.func39, Try.ntmps39
  go_wp2
  go_ret
  exact ⟨ret_int ((u32_five n).trans (pl_cast n).symm), rfl⟩
theorem left_says (a n : Int) : Says 26 #[i64 a, i64 n] (i64 (lf a n)) := by
  intro w
  have h1 := pl_lt n
  go_enter Try.func26, Try.ntmps26
  go_wp2_with (go_at_call 39; refine (places_says _ _).mono ?_; rintro e w' ⟨rfl, rfl⟩)
  go_ret
  exact ⟨ret_int rfl, rfl⟩
theorem right_says (a n : Int) : Says 28 #[i64 a, i64 n] (i64 (rt a n)) := by
  intro w
  have h1 := pl_lt n
  go_enter Try.func28, Try.ntmps28
  go_wp2_with (go_at_call 39; refine (places_says _ _).mono ?_; rintro e w' ⟨rfl, rfl⟩)
  go_ret
  exact ⟨ret_int (rt_raw a n), rfl⟩
theorem arith_says (a n : Int) : Says 30 #[i64 a, i64 n] (i64 (ar a n)) := by
  intro w
  have h1 := pl_lt n
  go_enter Try.func30, Try.ntmps30
  go_wp2_with (first | (go_at_call 39; refine (places_says _ _).mono ?_; rintro e w' ⟨rfl, rfl⟩) | (go_at_call 38; refine (signed32_says _ _).mono ?_; rintro e w' ⟨rfl, rfl⟩))
  go_ret
  exact ⟨ret_int rfl, rfl⟩
theorem rleft_says (a n : Int) : Says 27 #[i64 a, i64 n] (i64 (lf a n)) := by
  intro w
  have h1 := pl_lt n
  go_enter Try.func27, Try.ntmps27
  go_wp2_with (go_at_call 15; refine (w_says _ _).mono ?_; rintro e w' ⟨rfl, rfl⟩)
  go_ret
  exact ⟨ret_int (by rw [sh64]; exact lf_raw a n), rfl⟩
theorem rright_says (a n : Int) : Says 29 #[i64 a, i64 n] (i64 (rt a n)) := by
  intro w
  have h1 := pl_lt n
  go_enter Try.func29, Try.ntmps29
  go_wp2_with (go_at_call 15; refine (w_says _ _).mono ?_; rintro e w' ⟨rfl, rfl⟩)
  go_ret
  exact ⟨ret_int (by rw [sh64]; rfl), rfl⟩
theorem rarith_says (a n : Int) : Says 31 #[i64 a, i64 n] (i64 (ar a n)) := by
  intro w
  have h1 := pl_lt n
  go_enter Try.func31, Try.ntmps31
  go_wp2_with (first | (go_at_call 15; refine (w_says _ _).mono ?_; rintro e w' ⟨rfl, rfl⟩) | (go_at_call 17; refine (rsigned_says _ _).mono ?_; rintro e w' ⟨rfl, rfl⟩))
  go_ret
  exact ⟨ret_int (by rw [sh64]; rfl), rfl⟩
theorem bits_says (a h l : Int) : Says 34 #[i64 a, i64 h, i64 l] (i64 (bt a h l)) := by
  intro w
  by_cases hn : l < 0 ∨ h < l ∨ 31 < h
  · have hd := Lib.hid (bt_no a h l hn)
    rcases hn with hn | hn | hn
    · go_enter Try.func34, Try.ntmps34
      go_wp2
      go_ret
      exact ⟨ret_int hd.out.symm, rfl⟩
    · by_cases h0 : l < 0
      all_goals
        go_enter Try.func34, Try.ntmps34
        go_wp2
        go_ret
        exact ⟨ret_int hd.out.symm, rfl⟩
    · by_cases h0 : l < 0
      all_goals by_cases h1 : h < l
      all_goals
        go_enter Try.func34, Try.ntmps34
        go_wp2
        go_ret
        exact ⟨ret_int hd.out.symm, rfl⟩
  · have h0 : 0 ≤ l := by omega
    have h1 : l ≤ h := by omega
    have h2 : h ≤ 31 := by omega
    have hd := Lib.hid (bt_raw' a h l h0 h1 h2)
    clear hn
    go_enter Try.func34, Try.ntmps34
    go_wp2
    go_ret
    exact ⟨ret_int hd.out, rfl⟩
theorem rbits_says (a h l : Int) : Says 35 #[i64 a, i64 h, i64 l] (i64 (bt a h l)) := by
  intro w
  by_cases hn : l < 0 ∨ h < l ∨ 31 < h
  · have hd := Lib.hid (bt_no a h l hn)
    by_cases h2 : 31 < h
    · go_enter Try.func35, Try.ntmps35
      go_wp2
      go_ret
      exact ⟨ret_int hd.out.symm, rfl⟩
    · by_cases h0 : l < 0
      · go_enter Try.func35, Try.ntmps35
        go_wp2
        go_ret
        exact ⟨ret_int hd.out.symm, rfl⟩
      · have h1 : h < l := by omega
        go_enter Try.func35, Try.ntmps35
        go_wp2
        go_ret
        exact ⟨ret_int hd.out.symm, rfl⟩
  · have h0 : 0 ≤ l := by omega
    have h1 : l ≤ h := by omega
    have h2 : h ≤ 31 := by omega
    have hd := Lib.hid (bt_mask a h l h0 h1 h2)
    have hp : (2 : Int) ^ (h - l + 1).toNat ≤ 4294967296 := pow_le' (b := 32) (by omega)
    have hp' := pow_pos' (h - l + 1).toNat
    have a1 := wd_lo a
    clear hn
    go_enter Try.func35, Try.ntmps35
    go_wp2_with (go_at_call 15; refine (w_says _ _).mono ?_; rintro e w' ⟨rfl, rfl⟩)
    go_ret
    exact ⟨ret_int hd.out, rfl⟩
theorem extend_says (a n : Int) : Says 36 #[i64 a, i64 n] (i64 (ex a n)) := by
  intro w
  by_cases h : n < 1
  · have hd := Lib.hid (ex_no a n h)
    go_enter Try.func36, Try.ntmps36
    go_wp2
    go_ret
    exact ⟨ret_int hd.out.symm, rfl⟩
  · have h1 : 1 ≤ n := by omega
    clear h
    by_cases h2 : 32 < n
    · have hd := Lib.hid (ex_all a n (by omega))
      go_enter Try.func36, Try.ntmps36
      go_wp2
      go_ret
      exact ⟨ret_int (by rw [hd.out, w32]; exact wd_sg a), rfl⟩
    · have h3 : n ≤ 32 := by omega
      have hd := Lib.hid (ex_raw a n h1 h3)
      go_enter Try.func36, Try.ntmps36
      go_wp2
      go_ret
      exact ⟨ret_int hd.out, rfl⟩
theorem rextend_says (a n : Int) : Says 37 #[i64 a, i64 n] (i64 (ex a n)) := by
  intro w
  by_cases h : n < 1
  · have hd := Lib.hid (ex_no a n h)
    go_enter Try.func37, Try.ntmps37
    go_wp2
    go_ret
    exact ⟨ret_int hd.out.symm, rfl⟩
  · have h1 : 1 ≤ n := by omega
    clear h
    by_cases h2 : 32 < n
    · have hd := Lib.hid (ex_all a n (by omega))
      have e := i64_word a
      go_enter Try.func37, Try.ntmps37
      go_wp2_with (go_at_call 15; refine (w_says _ _).mono ?_; rintro e w' ⟨rfl, rfl⟩)
      all_goals go_ret
      · exact ⟨ret_int (by rw [hd.out, wd_wrap]; unfold wd; omega), rfl⟩
      · exact ⟨ret_int (by rw [hd.out, wd_wd]), rfl⟩
    · have h3 : n ≤ 32 := by omega
      have ht := ex_two a n h1 h3
      have hp : (2 : Int) ^ n.toNat ≤ 4294967296 := pow_le' (b := 32) (by omega)
      have hp' := pow_pos' n.toNat
      have hp1 := pow_pos' (n.toNat - 1)
      have hpp : (2 : Int) ^ n.toNat = 2 * 2 ^ (n.toNat - 1) := by
        rw [show n.toNat = n.toNat - 1 + 1 from by omega, Nat.add_sub_cancel, Int.pow_succ, Int.mul_comm]
      have e := i64_mask a n.toNat (by omega)
      have r0 := Int.emod_nonneg a (by omega : (2 : Int) ^ n.toNat ≠ 0)
      have r1 := Int.emod_lt_of_pos a hp'
      have hh := half_one (a % 2 ^ n.toNat) (2 ^ (n.toNat - 1)) hp1 r0 (by omega)
      clear hpp
      by_cases h4 : 2 ^ (n.toNat - 1) ≤ a % 2 ^ n.toNat
      all_goals
        simp only [h4, if_true, if_false, decide_true, decide_false] at hh ht
        have hd := Lib.hid ht
        clear ht
        go_enter Try.func37, Try.ntmps37
        go_wp2_with (go_at_call 15; refine (w_says _ _).mono ?_; rintro e w' ⟨rfl, rfl⟩)
        go_ret
        exact ⟨ret_int hd.out.symm, rfl⟩
theorem less_says (a b : Int) : Says 32 #[i64 a, i64 b] (.bool (decide (sg a < sg b))) := by
  intro w
  go_enter Try.func32, Try.ntmps32
  go_wp2_with (go_at_call 38; refine (signed32_says _ _).mono ?_; rintro e w' ⟨rfl, rfl⟩)
  go_ret
  exact ⟨ret_bool rfl, rfl⟩
theorem below_says (a b : Int) : Says 33 #[i64 a, i64 b] (.bool (decide (wd a < wd b))) := by
  intro w
  go_enter Try.func33, Try.ntmps33
  go_wp2
  go_ret
  exact ⟨ret_bool rfl, rfl⟩
theorem alive_says : Says 13 #[] (.bool true) := by
  intro w
  have e1 : wd (4294967295 + 2) = 1 := by decide
  have e2 : ex 32768 16 = 4294934528 := by decide
  have e3 : sg 4294967295 = -1 := by decide
  go_enter Try.func13, Try.ntmps13
  go_wp2_with (first | (go_at_call 18; refine (add_says _ _ _).mono ?_; rintro e w' ⟨rfl, rfl⟩) | (go_at_call 36; refine (extend_says _ _ _).mono ?_; rintro e w' ⟨rfl, rfl⟩) | (go_at_call 16; refine (signed_says _ _).mono ?_; rintro e w' ⟨rfl, rfl⟩))
  go_ret
  exact ⟨ret_bool rfl, rfl⟩
end Go.Proofs.Ytomhnhcmebnckaa
