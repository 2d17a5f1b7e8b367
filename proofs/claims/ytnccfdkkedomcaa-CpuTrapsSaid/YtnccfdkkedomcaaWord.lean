
/-
  Contracts of package word's calls and of the like answers of trunnionref1: each answers the same plain function, and changes nothing.
-/
import Derived.Test.YtnccfdkkedomcaaRows
import Derived.WalkKit
import Derived.ProofKit
import Derived.OpenShut
import Derived.Lib.Hide
import Derived.Test.YtnccfdkkedomcaaMath
namespace Go.Proofs.Ytnccfdkkedomcaa
open Go.ChangeShapes Go.WideShapes Go.ChangeAt Go.RowKit
theorem ret_int {k : IntKind} {a b : Int} (h : a = b) : Ending.returned (.int k a) = .returned (.int k b) := by rw [h]
theorem ret_bool {a b : Bool} (h : a = b) : Ending.returned (.bool a) = .returned (.bool b) := by rw [h]

/-- A call that answers v and changes nothing. -/
abbrev Says (f : Nat) (args : Array Value) (v : Value) : Prop := ∀ w : World, Calls Try.prog f args w fun e w' => e = .returned v ∧ w = w'
abbrev i64 (n : Int) : Value := .int .i64 n

theorem of_says (a : Int) : Says 54 #[i64 a] (i64 (wd a)) := by
  intro w
  go_enter Try.func54, Try.ntmps54
  go_wp2
  go_ret
  exact ⟨rfl, rfl⟩
theorem w_says (a : Int) : Says 23 #[i64 a] (i64 (wd a)) := by
  intro w
  go_enter Try.func23, Try.ntmps23
  go_wp2
  go_ret
  exact ⟨ret_int (i64_word a), rfl⟩
theorem signed32_says (a : Int) : Says 79 #[i64 a] (.int .i32 (sg a)) := by
  intro w
  go_enter Try.func79, Try.ntmps79
  go_wp2
  go_ret
  exact ⟨ret_int (w32 a), rfl⟩
theorem rsigned_says (a : Int) : Says 44 #[i64 a] (i64 (sg a)) := by
  intro w
  have e := i64_word a
  have h1 := wd_lo a
  have h2 := wd_hi a
  have h3 := sg_of a
  by_cases h : 2147483647 < wd a
  all_goals
    simp only [h, if_true, if_false] at h3
    have h3' := Lib.hid h3
    clear h3
    go_enter Try.func44, Try.ntmps44
    go_wp2
    go_ret
    exact ⟨ret_int h3'.out.symm, rfl⟩
theorem add_says (a b : Int) : Says 63 #[i64 a, i64 b] (i64 (wd (a + b))) := by
  intro w
  go_enter Try.func63, Try.ntmps63
  go_wp2
  go_ret
  exact ⟨ret_int rfl, rfl⟩
theorem sub_says (a b : Int) : Says 64 #[i64 a, i64 b] (i64 (wd (a - b))) := by
  intro w
  go_enter Try.func64, Try.ntmps64
  go_wp2
  go_ret
  exact ⟨ret_int rfl, rfl⟩
theorem mul_says (a b : Int) : Says 68 #[i64 a, i64 b] (i64 (wd (a * b))) := by
  intro w
  go_enter Try.func68, Try.ntmps68
  go_wp2
  go_ret
  exact ⟨ret_int (wd_mul a b), rfl⟩
theorem rmul_says (a b : Int) : Says 43 #[i64 a, i64 b] (i64 (wd (a * b))) := by
  intro w
  go_enter Try.func43, Try.ntmps43
  go_wp2
  go_ret
  exact ⟨ret_int (wd_mul a b), rfl⟩
theorem div_says (a b : Int) : Says 70 #[i64 a, i64 b] (i64 (dv a b)) := by
  intro w
  by_cases h : b % 4294967296 = 0
  · have hd : dv a b = 4294967295 := by unfold dv wd; rw [if_pos h]
    have hd' := Lib.hid hd
    clear hd
    go_enter Try.func70, Try.ntmps70
    go_wp2
    go_ret
    exact ⟨ret_int hd'.out.symm, rfl⟩
  · have hd : dv a b = a % 4294967296 / (b % 4294967296) := by unfold dv wd; rw [if_neg h]
    have hd' := Lib.hid hd
    have hb : (b % 4294967296 == 0) = false := by simpa using h
    have hp : 1 ≤ b % 4294967296 := by omega
    have hq := IntWalk.tdiv_le (a % 4294967296) (b % 4294967296) (by omega) hp
    have hq2 : a % 4294967296 / (b % 4294967296) ≤ 4294967295 := by omega
    clear hd
    go_enter Try.func70, Try.ntmps70
    go_wp2
    go_ret
    exact ⟨ret_int hd'.out.symm, rfl⟩
theorem rem_says (a b : Int) : Says 71 #[i64 a, i64 b] (i64 (rm a b)) := by
  intro w
  by_cases h : b % 4294967296 = 0
  · have hd : rm a b = wd a := by unfold rm wd; rw [if_pos h]
    have hd' := Lib.hid hd
    clear hd
    go_enter Try.func71, Try.ntmps71
    go_wp2_with (go_at_call 54; refine (of_says _ _).mono ?_; rintro e w' ⟨rfl, rfl⟩)
    go_ret
    exact ⟨ret_int hd'.out.symm, rfl⟩
  · have hd : rm a b = a % 4294967296 % (b % 4294967296) := by unfold rm wd; rw [if_neg h]
    have hd' := Lib.hid hd
    have hb : (b % 4294967296 == 0) = false := by simpa using h
    have hp : 1 ≤ b % 4294967296 := by omega
    have hq1 : 0 ≤ a % 4294967296 % (b % 4294967296) := Int.emod_nonneg _ (by omega)
    have hq2 : a % 4294967296 % (b % 4294967296) < b % 4294967296 := Int.emod_lt_of_pos _ (by omega)
    clear hd
    go_enter Try.func71, Try.ntmps71
    go_wp2
    go_ret
    exact ⟨ret_int hd'.out.symm, rfl⟩
theorem rdiv_says (a b : Int) : Says 45 #[i64 a, i64 b] (i64 (dv a b)) := by
  intro w
  have a1 := wd_lo a
  have a2 := wd_hi a
  have b1 := wd_lo b
  have b2 := wd_hi b
  by_cases h : wd b = 0
  · have hd : dv a b = 4294967295 := by unfold dv; rw [if_pos h]
    have hd' := Lib.hid hd
    clear hd
    go_enter Try.func45, Try.ntmps45
    go_wp2_with (go_at_call 23; refine (w_says _ _).mono ?_; rintro e w' ⟨rfl, rfl⟩)
    go_ret
    exact ⟨ret_int hd'.out.symm, rfl⟩
  · have hd : dv a b = wd a / wd b := by unfold dv; rw [if_neg h]
    have hd' := Lib.hid hd
    have hb : (wd b == 0) = false := by simpa using h
    have hp : 1 ≤ wd b := by omega
    have hq := IntWalk.tdiv_le (wd a) (wd b) (by omega) hp
    clear hd
    go_enter Try.func45, Try.ntmps45
    go_wp2_with (go_at_call 23; refine (w_says _ _).mono ?_; rintro e w' ⟨rfl, rfl⟩)
    go_ret
    exact ⟨ret_int hd'.out.symm, rfl⟩
theorem rrem_says (a b : Int) : Says 46 #[i64 a, i64 b] (i64 (rm a b)) := by
  intro w
  have a1 := wd_lo a
  have a2 := wd_hi a
  have b1 := wd_lo b
  have b2 := wd_hi b
  by_cases h : wd b = 0
  · have hd : rm a b = wd a := by unfold rm; rw [if_pos h]
    have hd' := Lib.hid hd
    clear hd
    go_enter Try.func46, Try.ntmps46
    go_wp2_with (go_at_call 23; refine (w_says _ _).mono ?_; rintro e w' ⟨rfl, rfl⟩)
    go_ret
    exact ⟨ret_int hd'.out.symm, rfl⟩
  · have hd : rm a b = wd a % wd b := by unfold rm; rw [if_neg h]
    have hd' := Lib.hid hd
    have hb : (wd b == 0) = false := by simpa using h
    have hp : 1 ≤ wd b := by omega
    have hq1 : 0 ≤ wd a % wd b := Int.emod_nonneg _ (by omega)
    have hq2 : wd a % wd b < wd b := Int.emod_lt_of_pos _ (by omega)
    clear hd
    go_enter Try.func46, Try.ntmps46
    go_wp2_with (go_at_call 23; refine (w_says _ _).mono ?_; rintro e w' ⟨rfl, rfl⟩)
    go_ret
    exact ⟨ret_int hd'.out.symm, rfl⟩
theorem places_says (n : Int) : Says 78 #[i64 n] (.int .u32 (pl n)) := by
  intro w
  go_enter Try.func78, Try.ntmps78
  go_wp2
  go_ret
  exact ⟨ret_int ((u32_five n).trans (pl_cast n).symm), rfl⟩
theorem left_says (a n : Int) : Says 65 #[i64 a, i64 n] (i64 (lf a n)) := by
  intro w
  have h1 := pl_lt n
  go_enter Try.func65, Try.ntmps65
  go_wp2_with (go_at_call 78; refine (places_says _ _).mono ?_; rintro e w' ⟨rfl, rfl⟩)
  go_ret
  exact ⟨ret_int rfl, rfl⟩
theorem right_says (a n : Int) : Says 66 #[i64 a, i64 n] (i64 (rt a n)) := by
  intro w
  have h1 := pl_lt n
  go_enter Try.func66, Try.ntmps66
  go_wp2_with (go_at_call 78; refine (places_says _ _).mono ?_; rintro e w' ⟨rfl, rfl⟩)
  go_ret
  exact ⟨ret_int (rt_raw a n), rfl⟩
theorem arith_says (a n : Int) : Says 67 #[i64 a, i64 n] (i64 (ar a n)) := by
  intro w
  have h1 := pl_lt n
  go_enter Try.func67, Try.ntmps67
  go_wp2_with (first | (go_at_call 78; refine (places_says _ _).mono ?_; rintro e w' ⟨rfl, rfl⟩) | (go_at_call 79; refine (signed32_says _ _).mono ?_; rintro e w' ⟨rfl, rfl⟩))
  go_ret
  exact ⟨ret_int rfl, rfl⟩
theorem rleft_says (a n : Int) : Says 40 #[i64 a, i64 n] (i64 (lf a n)) := by
  intro w
  have h1 := pl_lt n
  go_enter Try.func40, Try.ntmps40
  go_wp2_with (go_at_call 23; refine (w_says _ _).mono ?_; rintro e w' ⟨rfl, rfl⟩)
  go_ret
  exact ⟨ret_int (by rw [sh64]; exact lf_raw a n), rfl⟩
theorem rright_says (a n : Int) : Says 41 #[i64 a, i64 n] (i64 (rt a n)) := by
  intro w
  have h1 := pl_lt n
  go_enter Try.func41, Try.ntmps41
  go_wp2_with (go_at_call 23; refine (w_says _ _).mono ?_; rintro e w' ⟨rfl, rfl⟩)
  go_ret
  exact ⟨ret_int (by rw [sh64]; rfl), rfl⟩
theorem rarith_says (a n : Int) : Says 42 #[i64 a, i64 n] (i64 (ar a n)) := by
  intro w
  have h1 := pl_lt n
  go_enter Try.func42, Try.ntmps42
  go_wp2_with (first | (go_at_call 23; refine (w_says _ _).mono ?_; rintro e w' ⟨rfl, rfl⟩) | (go_at_call 44; refine (rsigned_says _ _).mono ?_; rintro e w' ⟨rfl, rfl⟩))
  go_ret
  exact ⟨ret_int (by rw [sh64]; rfl), rfl⟩
theorem extend_says (a n : Int) : Says 62 #[i64 a, i64 n] (i64 (ex a n)) := by
  intro w
  by_cases h : n < 1
  · have hd := Lib.hid (ex_no a n h)
    go_enter Try.func62, Try.ntmps62
    go_wp2
    go_ret
    exact ⟨ret_int hd.out.symm, rfl⟩
  · have h1 : 1 ≤ n := by omega
    clear h
    by_cases h2 : 32 < n
    · have hd := Lib.hid (ex_all a n (by omega))
      go_enter Try.func62, Try.ntmps62
      go_wp2
      go_ret
      exact ⟨ret_int (by rw [hd.out, w32]; exact wd_sg a), rfl⟩
    · have h3 : n ≤ 32 := by omega
      have hd := Lib.hid (ex_raw a n h1 h3)
      go_enter Try.func62, Try.ntmps62
      go_wp2
      go_ret
      exact ⟨ret_int hd.out, rfl⟩
theorem less_says (a b : Int) : Says 72 #[i64 a, i64 b] (.bool (decide (sg a < sg b))) := by
  intro w
  go_enter Try.func72, Try.ntmps72
  go_wp2_with (go_at_call 79; refine (signed32_says _ _).mono ?_; rintro e w' ⟨rfl, rfl⟩)
  go_ret
  exact ⟨ret_bool rfl, rfl⟩
theorem below_says (a b : Int) : Says 73 #[i64 a, i64 b] (.bool (decide (wd a < wd b))) := by
  intro w
  go_enter Try.func73, Try.ntmps73
  go_wp2
  go_ret
  exact ⟨ret_bool rfl, rfl⟩
end Go.Proofs.Ytnccfdkkedomcaa
