/-
  Contracts of package word's calls and of the like answers of trunnionref1: each answers the same plain function, and changes nothing. | Contracts of package csr's calls and of the like answers of trunnionref1: each answers the same plain function, and changes nothing. | Contracts of package irq's calls Pick and Takes and of the like answers of trunnionref1: each answers the same plain function, and changes nothing.
-/
import Derived.Test.YtfcmodllbhpniaaGreatDoorRows
import Derived.Test.YtfcmodllbhpniaaGreatDoorJnNum
import Derived.WalkKit
import Derived.ProofKit
import Derived.OpenShut
import Derived.Lib.Hide
set_option linter.unusedVariables false
set_option maxRecDepth 100000
namespace Go.Proofs.YtfcmodllbhpniaaGreatDoor
open Go.ChangeShapes Go.WideShapes Go.ChangeAt Go.RowKit
theorem ret_int {k : IntKind} {a b : Int} (h : a = b) : Ending.returned (.int k a) = .returned (.int k b) := by rw [h]
theorem ret_bool {a b : Bool} (h : a = b) : Ending.returned (.bool a) = .returned (.bool b) := by rw [h]

/-- A call that answers v and changes nothing. -/
abbrev Says (f : Nat) (args : Array Value) (v : Value) : Prop := ∀ w : World, Calls Tryz.prog f args w fun e w' => e = .returned v ∧ w = w'
abbrev i64 (n : Int) : Value := .int .i64 n

theorem of_says (a : Int) : Says 27 #[i64 a] (i64 (wd a)) := by
  intro w
  go_enter Tryz.func27, Tryz.ntmps27
  go_wp2
  go_ret
  exact ⟨rfl, rfl⟩
theorem w_says (a : Int) : Says 19 #[i64 a] (i64 (wd a)) := by
  intro w
  go_enter Tryz.func19, Tryz.ntmps19
  go_wp2
  go_ret
  exact ⟨ret_int (i64_word a), rfl⟩
theorem signed32_says (a : Int) : Says 177 #[i64 a] (.int .i32 (sg a)) := by
  intro w
  go_enter Tryz.func177, Tryz.ntmps177
  go_wp2
  go_ret
  exact ⟨ret_int (w32 a), rfl⟩
theorem signed_says (a : Int) : Says 164 #[i64 a] (i64 (sg a)) := by
  intro w
  have h1 := sg_lo a
  have h2 := sg_hi a
  go_enter Tryz.func164, Tryz.ntmps164
  go_wp2_with (go_at_call 177; refine (signed32_says _ _).mono ?_; rintro e w' ⟨rfl, rfl⟩)
  go_ret
  exact ⟨rfl, rfl⟩
theorem rsigned_says (a : Int) : Says 45 #[i64 a] (i64 (sg a)) := by
  intro w
  have e := i64_word a
  have h1 := wd_lo a
  have h2 := wd_hi a
  have h3 := sg_of a
  by_cases h : 2147483647 < wd a
  all_goals
    simp only [h, if_true, if_false] at h3
    have h3' := Lib.hid h3
    clear h3
    go_enter Tryz.func45, Tryz.ntmps45
    go_wp2
    go_ret
    exact ⟨ret_int h3'.out.symm, rfl⟩
theorem add_says (a b : Int) : Says 40 #[i64 a, i64 b] (i64 (wd (a + b))) := by
  intro w
  go_enter Tryz.func40, Tryz.ntmps40
  go_wp2
  go_ret
  exact ⟨ret_int rfl, rfl⟩
theorem sub_says (a b : Int) : Says 169 #[i64 a, i64 b] (i64 (wd (a - b))) := by
  intro w
  go_enter Tryz.func169, Tryz.ntmps169
  go_wp2
  go_ret
  exact ⟨ret_int rfl, rfl⟩
theorem mul_says (a b : Int) : Says 173 #[i64 a, i64 b] (i64 (wd (a * b))) := by
  intro w
  go_enter Tryz.func173, Tryz.ntmps173
  go_wp2
  go_ret
  exact ⟨ret_int (wd_mul a b), rfl⟩
theorem rmul_says (a b : Int) : Says 95 #[i64 a, i64 b] (i64 (wd (a * b))) := by
  intro w
  go_enter Tryz.func95, Tryz.ntmps95
  go_wp2
  go_ret
  exact ⟨ret_int (wd_mul a b), rfl⟩
theorem div_says (a b : Int) : Says 175 #[i64 a, i64 b] (i64 (dv a b)) := by
  intro w
  by_cases h : b % 4294967296 = 0
  · have hd : dv a b = 4294967295 := by unfold dv wd; rw [if_pos h]
    have hd' := Lib.hid hd
    clear hd
    go_enter Tryz.func175, Tryz.ntmps175
    go_wp2
    go_ret
    exact ⟨ret_int hd'.out.symm, rfl⟩
  · have hd : dv a b = a % 4294967296 / (b % 4294967296) := by unfold dv wd; rw [if_neg h]
    have hd' := Lib.hid hd
    have hb : (b % 4294967296 == 0) = false := by simpa using h
    have hp : 1 ≤ b % 4294967296 := by omega
    have hq := IntWalk.tdiv_le (a % 4294967296) (b % 4294967296) (by omega) hp
    have hq2 : a % 4294967296 / (b % 4294967296) ≤ 4294967295 := by omega
    clear hd
    go_enter Tryz.func175, Tryz.ntmps175
    go_wp2
    go_ret
    exact ⟨ret_int hd'.out.symm, rfl⟩
theorem rem_says (a b : Int) : Says 176 #[i64 a, i64 b] (i64 (rm a b)) := by
  intro w
  by_cases h : b % 4294967296 = 0
  · have hd : rm a b = wd a := by unfold rm wd; rw [if_pos h]
    have hd' := Lib.hid hd
    clear hd
    go_enter Tryz.func176, Tryz.ntmps176
    go_wp2_with (go_at_call 27; refine (of_says _ _).mono ?_; rintro e w' ⟨rfl, rfl⟩)
    go_ret
    exact ⟨ret_int hd'.out.symm, rfl⟩
  · have hd : rm a b = a % 4294967296 % (b % 4294967296) := by unfold rm wd; rw [if_neg h]
    have hd' := Lib.hid hd
    have hb : (b % 4294967296 == 0) = false := by simpa using h
    have hp : 1 ≤ b % 4294967296 := by omega
    have hq1 : 0 ≤ a % 4294967296 % (b % 4294967296) := Int.emod_nonneg _ (by omega)
    have hq2 : a % 4294967296 % (b % 4294967296) < b % 4294967296 := Int.emod_lt_of_pos _ (by omega)
    clear hd
    go_enter Tryz.func176, Tryz.ntmps176
    go_wp2
    go_ret
    exact ⟨ret_int hd'.out.symm, rfl⟩
theorem rdiv_says (a b : Int) : Says 96 #[i64 a, i64 b] (i64 (dv a b)) := by
  intro w
  have a1 := wd_lo a
  have a2 := wd_hi a
  have b1 := wd_lo b
  have b2 := wd_hi b
  by_cases h : wd b = 0
  · have hd : dv a b = 4294967295 := by unfold dv; rw [if_pos h]
    have hd' := Lib.hid hd
    clear hd
    go_enter Tryz.func96, Tryz.ntmps96
    go_wp2_with (go_at_call 19; refine (w_says _ _).mono ?_; rintro e w' ⟨rfl, rfl⟩)
    go_ret
    exact ⟨ret_int hd'.out.symm, rfl⟩
  · have hd : dv a b = wd a / wd b := by unfold dv; rw [if_neg h]
    have hd' := Lib.hid hd
    have hb : (wd b == 0) = false := by simpa using h
    have hp : 1 ≤ wd b := by omega
    have hq := IntWalk.tdiv_le (wd a) (wd b) (by omega) hp
    clear hd
    go_enter Tryz.func96, Tryz.ntmps96
    go_wp2_with (go_at_call 19; refine (w_says _ _).mono ?_; rintro e w' ⟨rfl, rfl⟩)
    go_ret
    exact ⟨ret_int hd'.out.symm, rfl⟩
theorem rrem_says (a b : Int) : Says 97 #[i64 a, i64 b] (i64 (rm a b)) := by
  intro w
  have a1 := wd_lo a
  have a2 := wd_hi a
  have b1 := wd_lo b
  have b2 := wd_hi b
  by_cases h : wd b = 0
  · have hd : rm a b = wd a := by unfold rm; rw [if_pos h]
    have hd' := Lib.hid hd
    clear hd
    go_enter Tryz.func97, Tryz.ntmps97
    go_wp2_with (go_at_call 19; refine (w_says _ _).mono ?_; rintro e w' ⟨rfl, rfl⟩)
    go_ret
    exact ⟨ret_int hd'.out.symm, rfl⟩
  · have hd : rm a b = wd a % wd b := by unfold rm; rw [if_neg h]
    have hd' := Lib.hid hd
    have hb : (wd b == 0) = false := by simpa using h
    have hp : 1 ≤ wd b := by omega
    have hq1 : 0 ≤ wd a % wd b := Int.emod_nonneg _ (by omega)
    have hq2 : wd a % wd b < wd b := Int.emod_lt_of_pos _ (by omega)
    clear hd
    go_enter Tryz.func97, Tryz.ntmps97
    go_wp2_with (go_at_call 19; refine (w_says _ _).mono ?_; rintro e w' ⟨rfl, rfl⟩)
    go_ret
    exact ⟨ret_int hd'.out.symm, rfl⟩
theorem places_says (n : Int) : Says 178 #[i64 n] (.int .u32 (pl n)) := by
  intro w
  go_enter Tryz.func178, Tryz.ntmps178
  go_wp2
  go_ret
  exact ⟨ret_int ((u32_five n).trans (pl_cast n).symm), rfl⟩
theorem left_says (a n : Int) : Says 170 #[i64 a, i64 n] (i64 (lf a n)) := by
  intro w
  have h1 := pl_lt n
  go_enter Tryz.func170, Tryz.ntmps170
  go_wp2_with (go_at_call 178; refine (places_says _ _).mono ?_; rintro e w' ⟨rfl, rfl⟩)
  go_ret
  exact ⟨ret_int rfl, rfl⟩
theorem right_says (a n : Int) : Says 171 #[i64 a, i64 n] (i64 (rt a n)) := by
  intro w
  have h1 := pl_lt n
  go_enter Tryz.func171, Tryz.ntmps171
  go_wp2_with (go_at_call 178; refine (places_says _ _).mono ?_; rintro e w' ⟨rfl, rfl⟩)
  go_ret
  exact ⟨ret_int (rt_raw a n), rfl⟩
theorem arith_says (a n : Int) : Says 172 #[i64 a, i64 n] (i64 (ar a n)) := by
  intro w
  have h1 := pl_lt n
  go_enter Tryz.func172, Tryz.ntmps172
  go_wp2_with (first | (go_at_call 178; refine (places_says _ _).mono ?_; rintro e w' ⟨rfl, rfl⟩) | (go_at_call 177; refine (signed32_says _ _).mono ?_; rintro e w' ⟨rfl, rfl⟩))
  go_ret
  exact ⟨ret_int rfl, rfl⟩
theorem rleft_says (a n : Int) : Says 92 #[i64 a, i64 n] (i64 (lf a n)) := by
  intro w
  have h1 := pl_lt n
  go_enter Tryz.func92, Tryz.ntmps92
  go_wp2_with (go_at_call 19; refine (w_says _ _).mono ?_; rintro e w' ⟨rfl, rfl⟩)
  go_ret
  exact ⟨ret_int (by rw [sh64]; exact lf_raw a n), rfl⟩
theorem rright_says (a n : Int) : Says 93 #[i64 a, i64 n] (i64 (rt a n)) := by
  intro w
  have h1 := pl_lt n
  go_enter Tryz.func93, Tryz.ntmps93
  go_wp2_with (go_at_call 19; refine (w_says _ _).mono ?_; rintro e w' ⟨rfl, rfl⟩)
  go_ret
  exact ⟨ret_int (by rw [sh64]; rfl), rfl⟩
theorem rarith_says (a n : Int) : Says 94 #[i64 a, i64 n] (i64 (ar a n)) := by
  intro w
  have h1 := pl_lt n
  go_enter Tryz.func94, Tryz.ntmps94
  go_wp2_with (first | (go_at_call 19; refine (w_says _ _).mono ?_; rintro e w' ⟨rfl, rfl⟩) | (go_at_call 45; refine (rsigned_says _ _).mono ?_; rintro e w' ⟨rfl, rfl⟩))
  go_ret
  exact ⟨ret_int (by rw [sh64]; rfl), rfl⟩
theorem bits_says (a h l : Int) : Says 161 #[i64 a, i64 h, i64 l] (i64 (bt a h l)) := by
  intro w
  by_cases hn : l < 0 ∨ h < l ∨ 31 < h
  · have hd := Lib.hid (bt_no a h l hn)
    rcases hn with hn | hn | hn
    · go_enter Tryz.func161, Tryz.ntmps161
      go_wp2
      go_ret
      exact ⟨ret_int hd.out.symm, rfl⟩
    · by_cases h0 : l < 0
      all_goals
        go_enter Tryz.func161, Tryz.ntmps161
        go_wp2
        go_ret
        exact ⟨ret_int hd.out.symm, rfl⟩
    · by_cases h0 : l < 0
      all_goals by_cases h1 : h < l
      all_goals
        go_enter Tryz.func161, Tryz.ntmps161
        go_wp2
        go_ret
        exact ⟨ret_int hd.out.symm, rfl⟩
  · have h0 : 0 ≤ l := by omega
    have h1 : l ≤ h := by omega
    have h2 : h ≤ 31 := by omega
    have hd := Lib.hid (bt_raw' a h l h0 h1 h2)
    clear hn
    go_enter Tryz.func161, Tryz.ntmps161
    go_wp2
    go_ret
    exact ⟨ret_int hd.out, rfl⟩
theorem extend_says (a n : Int) : Says 165 #[i64 a, i64 n] (i64 (ex a n)) := by
  intro w
  by_cases h : n < 1
  · have hd := Lib.hid (ex_no a n h)
    go_enter Tryz.func165, Tryz.ntmps165
    go_wp2
    go_ret
    exact ⟨ret_int hd.out.symm, rfl⟩
  · have h1 : 1 ≤ n := by omega
    clear h
    by_cases h2 : 32 < n
    · have hd := Lib.hid (ex_all a n (by omega))
      go_enter Tryz.func165, Tryz.ntmps165
      go_wp2
      go_ret
      exact ⟨ret_int (by rw [hd.out, w32]; exact wd_sg a), rfl⟩
    · have h3 : n ≤ 32 := by omega
      have hd := Lib.hid (ex_raw a n h1 h3)
      go_enter Tryz.func165, Tryz.ntmps165
      go_wp2
      go_ret
      exact ⟨ret_int hd.out, rfl⟩
theorem rextend_says (a n : Int) : Says 46 #[i64 a, i64 n] (i64 (ex a n)) := by
  intro w
  by_cases h : n < 1
  · have hd := Lib.hid (ex_no a n h)
    go_enter Tryz.func46, Tryz.ntmps46
    go_wp2
    go_ret
    exact ⟨ret_int hd.out.symm, rfl⟩
  · have h1 : 1 ≤ n := by omega
    clear h
    by_cases h2 : 32 < n
    · have hd := Lib.hid (ex_all a n (by omega))
      have e := i64_word a
      go_enter Tryz.func46, Tryz.ntmps46
      go_wp2_with (go_at_call 19; refine (w_says _ _).mono ?_; rintro e w' ⟨rfl, rfl⟩)
      all_goals go_ret
      · exact ⟨ret_int (by rw [hd.out, wd_wrap]; unfold wd; omega), rfl⟩
      · exact ⟨ret_int (by rw [hd.out, wd_wd]), rfl⟩
    · have h3 : n ≤ 32 := by omega
      have ht := ex_two a n h1 h3
      have hp : (2 : Int) ^ n.toNat ≤ 4294967296 := pow_le' (b := 32) (by omega)
      have hp' := pow_pos' n.toNat
      have hp1 := pow_pos' (n.toNat - 1)
      have hpp : (2 : Int) ^ n.toNat = 2 * 2 ^ (n.toNat - 1) := by
        rw [show n.toNat = n.toNat - 1 + 1 from by omega, Nat.add_sub_cancel, Int.pow_succ, Int.mul_comm]
      have e := i64_mask a n.toNat (by omega)
      have r0 := Int.emod_nonneg a (by omega : (2 : Int) ^ n.toNat ≠ 0)
      have r1 := Int.emod_lt_of_pos a hp'
      have hh := half_one (a % 2 ^ n.toNat) (2 ^ (n.toNat - 1)) hp1 r0 (by omega)
      clear hpp
      by_cases h4 : 2 ^ (n.toNat - 1) ≤ a % 2 ^ n.toNat
      all_goals
        simp only [h4, if_true, if_false, decide_true, decide_false] at hh ht
        have hd := Lib.hid ht
        clear ht
        go_enter Tryz.func46, Tryz.ntmps46
        go_wp2_with (go_at_call 19; refine (w_says _ _).mono ?_; rintro e w' ⟨rfl, rfl⟩)
        go_ret
        exact ⟨ret_int hd.out.symm, rfl⟩
theorem less_says (a b : Int) : Says 168 #[i64 a, i64 b] (.bool (decide (sg a < sg b))) := by
  intro w
  go_enter Tryz.func168, Tryz.ntmps168
  go_wp2_with (go_at_call 177; refine (signed32_says _ _).mono ?_; rintro e w' ⟨rfl, rfl⟩)
  go_ret
  exact ⟨ret_bool rfl, rfl⟩
theorem below_says (a b : Int) : Says 73 #[i64 a, i64 b] (.bool (decide (wd a < wd b))) := by
  intro w
  go_enter Tryz.func73, Tryz.ntmps73
  go_wp2
  go_ret
  exact ⟨ret_bool rfl, rfl⟩
end Go.Proofs.YtfcmodllbhpniaaGreatDoor
set_option maxRecDepth 100000
namespace Go.Proofs.YtfcmodllbhpniaaGreatDoor
open Go.ChangeShapes Go.WideShapes Go.ChangeAt Go.RowKit
theorem mk_cases (n : Int) : n = 0 ∨ n = 1 ∨ n = 2 ∨ n = 3 ∨ n = 4 ∨ n = 5 ∨ n = 6 ∨ n = 8 ∨ n = 10 ∨ (¬ n = 0 ∧ ¬ n = 1 ∧ ¬ n = 2 ∧ ¬ n = 3 ∧ ¬ n = 4 ∧ ¬ n = 5 ∧ ¬ n = 6 ∧ ¬ n = 8 ∧ ¬ n = 10) := by omega
theorem mk_none (n : Int) (h : ¬ n = 0 ∧ ¬ n = 1 ∧ ¬ n = 2 ∧ ¬ n = 3 ∧ ¬ n = 4 ∧ ¬ n = 5 ∧ ¬ n = 6 ∧ ¬ n = 8 ∧ ¬ n = 10) : mk n = 0 := by
  unfold mk; obtain ⟨h0, h1, h2, h3, h4, h5, h6, h8, h10⟩ := h; simp only [h0, h1, h2, h3, h4, h5, h6, h8, h10, or_self, if_false]
theorem or_mask : bits .or .i64 3 4294967292 = 4294967295 := by decide +kernel
theorem or_mask0 : bits .or .i64 0 4294967292 = 4294967292 := by decide +kernel
theorem mask_says (n : Int) : Says 113 #[i64 n] (i64 (mk n)) := by
  intro w
  have e1 := or_mask
  have e2 := or_mask0
  rcases mk_cases n with rfl | rfl | rfl | rfl | rfl | rfl | rfl | rfl | rfl | h
  iterate 9
    · go_enter Tryz.func113, Tryz.ntmps113
      go_wp2
      go_ret
      exact ⟨ret_int rfl, rfl⟩
  · have hd := Lib.hid (mk_none n h)
    obtain ⟨h0, h1, h2, h3, h4, h5, h6, h8, h10⟩ := h
    go_enter Tryz.func113, Tryz.ntmps113
    go_wp2
    go_ret
    exact ⟨ret_int hd.out.symm, rfl⟩
theorem rmask_says (n : Int) : Says 104 #[i64 n] (i64 (mk n)) := by
  intro w
  rcases mk_cases n with rfl | rfl | rfl | rfl | rfl | rfl | rfl | rfl | rfl | h
  iterate 9
    · go_enter Tryz.func104, Tryz.ntmps104
      go_wp2
      go_ret
      exact ⟨ret_int rfl, rfl⟩
  · have hd := Lib.hid (mk_none n h)
    obtain ⟨h0, h1, h2, h3, h4, h5, h6, h8, h10⟩ := h
    go_enter Tryz.func104, Tryz.ntmps104
    go_wp2
    go_ret
    exact ⟨ret_int hd.out.symm, rfl⟩
theorem write_says (n old v : Int) : Says 83 #[i64 n, i64 old, i64 v] (i64 (wr (mk n) old v)) := by
  intro w
  go_enter Tryz.func83, Tryz.ntmps83
  go_wp2_with (first | (go_at_call 113; refine (mask_says _ _).mono ?_; rintro e w' ⟨rfl, rfl⟩) | (go_at_call 27; refine (of_says _ _).mono ?_; rintro e w' ⟨rfl, rfl⟩))
  go_ret
  exact ⟨ret_int rfl, rfl⟩
theorem rwrite_says (n old v : Int) : Says 72 #[i64 n, i64 old, i64 v] (i64 (wr (mk n) old v)) := by
  intro w
  go_enter Tryz.func72, Tryz.ntmps72
  go_wp2_with (first | (go_at_call 104; refine (rmask_says _ _).mono ?_; rintro e w' ⟨rfl, rfl⟩) | (go_at_call 19; refine (w_says _ _).mono ?_; rintro e w' ⟨rfl, rfl⟩))
  go_ret
  exact ⟨ret_int (wr_ref _ _ _ (mk_wd _)), rfl⟩
theorem enter_says (s : Int) : Says 110 #[i64 s] (i64 (en s)) := by
  intro w
  have e1 := and5 s
  have b0 := two_of s
  have b1 := two_of (s / 4)
  have e2 := Lib.hid (or_en (s % 2) (s / 4 % 2) b0 b1)
  go_enter Tryz.func110, Tryz.ntmps110
  go_wp2
  go_ret
  exact ⟨ret_int e2.out, rfl⟩
theorem leave_says (s : Int) : Says 112 #[i64 s] (i64 (le s)) := by
  intro w
  have e1 := and10 s
  have b0 := two_of (s / 2)
  have b1 := two_of (s / 8)
  have e2 := Lib.hid (or_le (s / 2 % 2) (s / 8 % 2) b0 b1)
  go_enter Tryz.func112, Tryz.ntmps112
  go_wp2
  go_ret
  exact ⟨ret_int e2.out, rfl⟩
theorem user_says (s : Int) : Says 78 #[i64 s] (.bool (decide (s / 4 % 2 = 0))) := by
  intro w
  have e1 := and4 s
  rcases two_of (s / 4) with h | h
  all_goals
    go_enter Tryz.func78, Tryz.ntmps78
    go_wp2
    go_ret
    exact ⟨ret_bool (by simp [h]), rfl⟩
theorem or_4_2 : bits .or .i64 4 2 = 6 := by decide +kernel
theorem or_4_8 : bits .or .i64 4 8 = 12 := by decide +kernel
theorem or_6_8 : bits .or .i64 6 8 = 14 := by decide +kernel
theorem or_2_1 : bits .or .i64 2 1 = 3 := by decide +kernel
theorem or_2_4 : bits .or .i64 2 4 = 6 := by decide +kernel
theorem or_3_4 : bits .or .i64 3 4 = 7 := by decide +kernel
theorem renter_says (s : Int) : Says 91 #[i64 s] (i64 (en s)) := by
  intro w
  have e1 := and1 s
  have e2 := and4 s
  have f1 := or_4_2
  have f2 := or_4_8
  have f3 := or_6_8
  rcases two_of s with h | h <;> rcases two_of (s / 4) with h' | h'
  all_goals
    have hd := Lib.hid (show en s = s % 2 * 2 + s / 4 % 2 * 8 + 4 from rfl)
    rw [h, h'] at hd
    rw [h] at e1
    rw [h'] at e2
    go_enter Tryz.func91, Tryz.ntmps91
    go_wp2
    go_ret
    exact ⟨ret_int hd.out.symm, rfl⟩
theorem rleave_says (s : Int) : Says 71 #[i64 s] (i64 (le s)) := by
  intro w
  have e1 := and2 s
  have e2 := and8 s
  have f1 := or_2_1
  have f2 := or_2_4
  have f3 := or_3_4
  rcases two_of (s / 2) with h | h <;> rcases two_of (s / 8) with h' | h'
  all_goals
    have hd := Lib.hid (show le s = s / 2 % 2 + s / 8 % 2 * 4 + 2 from rfl)
    rw [h, h'] at hd
    rw [h] at e1
    rw [h'] at e2
    go_enter Tryz.func71, Tryz.ntmps71
    go_wp2
    go_ret
    exact ⟨ret_int hd.out.symm, rfl⟩
end Go.Proofs.YtfcmodllbhpniaaGreatDoor
set_option maxRecDepth 100000
namespace Go.Proofs.YtfcmodllbhpniaaGreatDoor
open Go.ChangeShapes Go.WideShapes Go.ChangeAt Go.RowKit
/-- The least of the three lowest bits, and whether there is one. -/
def pkn (b : Int) : Int := if b % 2 = 1 then 0 else if b / 2 % 2 = 1 then 1 else if b / 4 % 2 = 1 then 2 else 0
def pkb (b : Int) : Bool := if b % 2 = 1 then true else if b / 2 % 2 = 1 then true else if b / 4 % 2 = 1 then true else false
/-- What a machine of the status s takes. -/
def tkn (s b : Int) : Int := if s / 4 % 2 = 1 ∧ s % 2 = 0 ∨ pkb b = false then 0 else 2147483648 + pkn b
def tkb (s b : Int) : Bool := if s / 4 % 2 = 1 ∧ s % 2 = 0 ∨ pkb b = false then false else true
theorem pkn_bd (b : Int) : 0 ≤ pkn b ∧ pkn b ≤ 2 := by unfold pkn; (repeat' split) <;> omega
theorem pick_says (p e : Int) : Says 79 #[i64 p, i64 e] (.tuple #[i64 (pkn (bits .and .i64 p e)), .bool (pkb (bits .and .i64 p e))]) := by
  intro w
  have a0 := and1 (bits .and .i64 p e)
  have a1 := and1 (bits .and .i64 p e / 2)
  have a2 := and1 (bits .and .i64 p e / 4)
  rcases two_of (bits .and .i64 p e) with h0 | h0
  · rcases two_of (bits .and .i64 p e / 2) with h1 | h1
    · rcases two_of (bits .and .i64 p e / 4) with h2 | h2
      · go_enter Tryz.func79, Tryz.ntmps79
        go_wp2
        refine wp_loop_rounds 4 ?_
        rw [rounds_succ]
        go_wp2
        rw [rounds_succ]
        go_wp2
        rw [rounds_succ]
        go_wp2
        rw [rounds_succ]
        go_wp2
        go_ret2
        exact ⟨by simp [pkn, pkb, h0, h1, h2], rfl⟩
      · go_enter Tryz.func79, Tryz.ntmps79
        go_wp2
        refine wp_loop_rounds 4 ?_
        rw [rounds_succ]
        go_wp2
        rw [rounds_succ]
        go_wp2
        rw [rounds_succ]
        go_wp2
        go_ret2
        exact ⟨by simp [pkn, pkb, h0, h1, h2], rfl⟩
    · go_enter Tryz.func79, Tryz.ntmps79
      go_wp2
      refine wp_loop_rounds 4 ?_
      rw [rounds_succ]
      go_wp2
      rw [rounds_succ]
      go_wp2
      go_ret2
      exact ⟨by simp [pkn, pkb, h0, h1], rfl⟩
  · go_enter Tryz.func79, Tryz.ntmps79
    go_wp2
    refine wp_loop_rounds 4 ?_
    rw [rounds_succ]
    go_wp2
    go_ret2
    exact ⟨by simp [pkn, pkb, h0], rfl⟩
theorem rpick_says (p e : Int) : Says 90 #[i64 p, i64 e] (.tuple #[i64 (pkn (bits .and .i64 p e)), .bool (pkb (bits .and .i64 p e))]) := by
  intro w
  have a0 := and1 (bits .and .i64 p e)
  have a1 := and1 (bits .and .i64 p e / 2)
  have a2 := and1 (bits .and .i64 p e / 4)
  rcases two_of (bits .and .i64 p e) with h0 | h0
  · rcases two_of (bits .and .i64 p e / 2) with h1 | h1
    · rcases two_of (bits .and .i64 p e / 4) with h2 | h2
      · go_enter Tryz.func90, Tryz.ntmps90
        go_wp2
        refine wp_loop_rounds 4 ?_
        rw [rounds_succ]
        go_wp2
        rw [rounds_succ]
        go_wp2
        rw [rounds_succ]
        go_wp2
        rw [rounds_succ]
        go_wp2
        go_ret2
        exact ⟨by simp [pkn, pkb, h0, h1, h2], rfl⟩
      · go_enter Tryz.func90, Tryz.ntmps90
        go_wp2
        refine wp_loop_rounds 4 ?_
        rw [rounds_succ]
        go_wp2
        rw [rounds_succ]
        go_wp2
        rw [rounds_succ]
        go_wp2
        go_ret2
        exact ⟨by simp [pkn, pkb, h0, h1, h2], rfl⟩
    · go_enter Tryz.func90, Tryz.ntmps90
      go_wp2
      refine wp_loop_rounds 4 ?_
      rw [rounds_succ]
      go_wp2
      rw [rounds_succ]
      go_wp2
      go_ret2
      exact ⟨by simp [pkn, pkb, h0, h1], rfl⟩
  · go_enter Tryz.func90, Tryz.ntmps90
    go_wp2
    refine wp_loop_rounds 4 ?_
    rw [rounds_succ]
    go_wp2
    go_ret2
    exact ⟨by simp [pkn, pkb, h0], rfl⟩
theorem takes_says (s p e : Int) : Says 56 #[i64 s, i64 p, i64 e] (.tuple #[i64 (tkn s (bits .and .i64 p e)), .bool (tkb s (bits .and .i64 p e))]) := by
  intro w
  have a1 := and1 s
  have hp := pick_says p e
  have bd := pkn_bd (bits .and .i64 p e)
  have us := user_says s
  have hn : tkn s (bits .and .i64 p e) = if s / 4 % 2 = 1 ∧ s % 2 = 0 ∨ pkb (bits .and .i64 p e) = false then 0 else 2147483648 + pkn (bits .and .i64 p e) := rfl
  have hb : tkb s (bits .and .i64 p e) = if s / 4 % 2 = 1 ∧ s % 2 = 0 ∨ pkb (bits .and .i64 p e) = false then false else true := rfl
  generalize tkn s (bits .and .i64 p e) = tn at *
  generalize tkb s (bits .and .i64 p e) = tb at *
  generalize pkn (bits .and .i64 p e) = n at *
  generalize pkb (bits .and .i64 p e) = b at *
  rcases two_of (s / 4) with h4 | h4 <;> rcases two_of s with h1 | h1 <;> cases b
  all_goals
    simp [h4, h1] at hn hb us
    subst hn hb
    go_enter Tryz.func56, Tryz.ntmps56
    go_wp2_with (first | (go_at_call 79; refine (hp _).mono ?_; rintro e w' ⟨rfl, rfl⟩) | (go_at_call 78; refine (us _).mono ?_; rintro e w' ⟨rfl, rfl⟩))
    go_ret2
    exact ⟨rfl, rfl⟩
theorem rtakes_says (s p e : Int) : Says 61 #[i64 s, i64 p, i64 e] (.tuple #[i64 (tkn s (bits .and .i64 p e)), .bool (tkb s (bits .and .i64 p e))]) := by
  intro w
  have a1 := and5 s
  have hp := rpick_says p e
  have bd := pkn_bd (bits .and .i64 p e)
  have hn : tkn s (bits .and .i64 p e) = if s / 4 % 2 = 1 ∧ s % 2 = 0 ∨ pkb (bits .and .i64 p e) = false then 0 else 2147483648 + pkn (bits .and .i64 p e) := rfl
  have hb : tkb s (bits .and .i64 p e) = if s / 4 % 2 = 1 ∧ s % 2 = 0 ∨ pkb (bits .and .i64 p e) = false then false else true := rfl
  generalize tkn s (bits .and .i64 p e) = tn at *
  generalize tkb s (bits .and .i64 p e) = tb at *
  generalize pkn (bits .and .i64 p e) = n at *
  generalize pkb (bits .and .i64 p e) = b at *
  rcases two_of (s / 4) with h4 | h4 <;> rcases two_of s with h1 | h1 <;> cases b
  all_goals
    simp [h4, h1] at hn hb
    subst hn hb
    rw [h4, h1] at a1
    go_enter Tryz.func61, Tryz.ntmps61
    go_wp2_with (first | (go_at_call 90; refine (hp _).mono ?_; rintro e w' ⟨rfl, rfl⟩))
    go_ret2
    exact ⟨rfl, rfl⟩
/-- What waits: the timer's line where cmp is a time that has come, that of the bytes, that of the messages. -/
def pnd (t c u m : Int) : Int := (if wd c ≠ 0 ∧ wd c ≤ wd t then 1 else 0) + (if 0 < u then 2 else 0) + (if 0 < m then 4 else 0)
theorem pending_says (t c u m : Int) : Says 51 #[i64 t, i64 c, i64 u, i64 m] (i64 (pnd t c u m)) := by
  intro w
  obtain ⟨p, hp⟩ : ∃ p, p = pnd t c u m := ⟨_, rfl⟩
  rw [← hp]
  have o := of_says c
  have b := below_says t (wd c)
  rw [wd_wd] at b
  have lc := wd_lo c
  have l1 := wd_hi c
  unfold pnd at hp
  generalize wd c = x at *
  generalize wd t = y at *
  by_cases h0 : x = 0
  · subst h0
    by_cases hu : 0 < u <;> by_cases hm : 0 < m
    all_goals
      simp [hu, hm] at hp
      subst hp
      go_enter Tryz.func51, Tryz.ntmps51
      go_wp2_with (first | (go_at_call 27; refine (o _).mono ?_; rintro e w' ⟨rfl, rfl⟩))
      go_ret
      exact ⟨by rfl, rfl⟩
  · by_cases hb : y < x <;> by_cases hu : 0 < u <;> by_cases hm : 0 < m
    all_goals
      have hb' : decide (y < x) = decide (y < x) := rfl
      simp [h0, hu, hm] at hp
      simp only [hb, decide_true, decide_false] at b
      first | rw [if_neg (by omega)] at hp | rw [if_pos (by omega)] at hp
      subst hp
      go_enter Tryz.func51, Tryz.ntmps51
      go_wp2_with (first | (go_at_call 73; refine (b _).mono ?_; rintro e w' ⟨rfl, rfl⟩) | (go_at_call 27; refine (o _).mono ?_; rintro e w' ⟨rfl, rfl⟩))
      go_ret
      exact ⟨by rfl, rfl⟩
theorem rpending_says (t c u m : Int) : Says 59 #[i64 t, i64 c, i64 u, i64 m] (i64 (pnd t c u m)) := by
  intro w
  obtain ⟨p, hp⟩ : ∃ p, p = pnd t c u m := ⟨_, rfl⟩
  rw [← hp]
  have o := w_says c
  have b := w_says t
  have lc := wd_lo c
  have l1 := wd_hi c
  have lt := wd_lo t
  have l2 := wd_hi t
  unfold pnd at hp
  generalize wd c = x at *
  generalize wd t = y at *
  by_cases h0 : x = 0
  · subst h0
    by_cases hu : 0 < u <;> by_cases hm : 0 < m
    all_goals
      simp [hu, hm] at hp
      subst hp
      go_enter Tryz.func59, Tryz.ntmps59
      go_wp2_with (first | (go_at_call 19; refine (o _).mono ?_; rintro e w' ⟨rfl, rfl⟩))
      go_ret
      exact ⟨by rfl, rfl⟩
  · by_cases hb : y < x <;> by_cases hu : 0 < u <;> by_cases hm : 0 < m
    all_goals
      simp [h0, hu, hm] at hp
      first | rw [if_neg (by omega)] at hp | rw [if_pos (by omega)] at hp
      have hb2 : (x ≤ y) = ¬ (y < x) := by simp
      subst hp
      go_enter Tryz.func59, Tryz.ntmps59
      go_wp2_with (first | (go_at_call 19; first | ((with_reducible refine (o _).mono ?_); rintro e w' ⟨rfl, rfl⟩) | ((with_reducible refine (b _).mono ?_); rintro e w' ⟨rfl, rfl⟩)))
      go_ret
      exact ⟨by rfl, rfl⟩
theorem pending5_says : Says 51 #[i64 5, i64 5, i64 0, i64 0] (i64 1) := pending_says 5 5 0 0
end Go.Proofs.YtfcmodllbhpniaaGreatDoor
