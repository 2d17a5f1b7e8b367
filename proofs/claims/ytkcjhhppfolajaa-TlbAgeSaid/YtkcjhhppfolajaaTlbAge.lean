/-
  Of more entries than there are places the last ones are kept, and one that is put anew keeps its age (law TlbAge returns true).
  No condition: whatever the arguments are.
-/
import Derived.Test.YtkcjhhppfolajaaRows
import Derived.WalkKit
import Derived.ProofKit
import Derived.OpenShut
import Derived.Test.YtkcjhhppfolajaaTlbAt
namespace Go.Proofs.Ytkcjhhppfolajaa.tlbAge
open Go.ChangeShapes Go.WideShapes Go.ChangeAt Go.RowKit
set_option linter.unusedVariables false      -- a walk need not use every 'w<i>' (that an integer argument fits its kind)

theorem own : ownKnob Try.prog.godebug = none := by kernel_rfl

theorem places_in (n : Nat) (h1 : 1 ≤ n) (h2 : n ≤ 256) : places n = n := by unfold places; omega
theorem lk_of {l : List Ent} {t v : Int} {o : Option Int} (h : tlook l (t, v) = o) : lk l t v = .returned (.tuple #[i64 (o.getD 0), .bool o.isSome]) := by unfold lk; rw [h]
theorem age_nil (n : Nat) : ageL n 0 = [] := by unfold ageL rowL; simp
theorem one_nil : oneL 0 = [] := rfl
theorem one_first' : tput 1 (oneL 0) (1, 0) 0 = oneL 1 := rfl
set_option maxRecDepth 100000 in
set_option maxHeartbeats 4000000 in
theorem leg_no (n : Nat) (h1 : 1 ≤ n) (h2 : n ≤ 64) (M : Nat) (hM : M ≤ 200) (w : World) :
    Calls Try.prog 4 #[.int .i64 n, .int .i64 M, .bool false] w fun e w' => e = .returned (.bool true) ∧ Below w.heap.size w w' := by
  have hpl := places_in n (by omega) (by omega)
  go_enter Try.func4, Try.ntmps4
  go_upto_region 4 with (go_at_call 7; refine (alive6_says _).mono ?_; rintro e w1 ⟨rfl, hL⟩)
  go_upto_region 5 with (go_at_call 8; refine (new_at hL _).mono ?_; rintro e w2 ⟨h, m, rfl, A⟩; rw [hpl] at A)
  clear hpl
  have HL := Lib.hid hL; clear hL
  go_wp2_with fail
  go_loopw [9] (fun i wr => ∃ c : Nat, c ≤ M ∧ i = .int .i64 c ∧ At w wr h m n (ageL n c)) (fun i _ => M - (intOf i).toNat)
  case atStart => exact ⟨0, Nat.zero_le _, rfl, by rw [age_nil]; exact A⟩
  case round =>
    clear A
    obtain ⟨c, hc, rfl, A⟩ := hrel
    by_cases hcn : c < M
    · have hput := Lib.hid (age_put n c h1)
      go_wp2_with (go_at_call 9; refine (put_at A _ _ _ (by omega) (by omega) (by omega)).mono ?_; rintro e w3 ⟨rfl, A3⟩; rw [hput.out] at A3)
      go_roundw
      case rel => exact ⟨c + 1, hcn, by go_num, A3⟩
      case measure => simp [intOf]; omega
    · obtain rfl : c = M := by omega
      go_wp2_with fail
      go_loopw [10] (fun i wr => ∃ j : Nat, j ≤ c ∧ i = .int .i64 j ∧ At w wr h m n (ageL n c)) (fun i _ => c - (intOf i).toNat)
      case atStart => exact ⟨0, Nat.zero_le _, rfl, A⟩
      case round =>
        clear A
        obtain ⟨j, hj, rfl, A⟩ := hrel
        by_cases hjc : j < c
        · have hlk := age_look n c j
          by_cases hth : (c : Int) - n ≤ j
          · rw [if_pos (by omega)] at hlk
            have HL2 := Lib.hid (lk_of hlk); clear hlk
            go_wp2_with (go_at_call 10; refine (look_at A _ _ (by omega) (by omega)).mono ?_; rintro e w4 ⟨rfl, rfl⟩; rw [HL2.out])
            go_roundw
            case rel => exact ⟨j + 1, hjc, by go_num, A⟩
            case measure => simp [intOf]; omega
          · rw [if_neg (by omega)] at hlk
            have HL2 := Lib.hid (lk_of hlk); clear hlk
            go_wp2_with (go_at_call 10; refine (look_at A _ _ (by omega) (by omega)).mono ?_; rintro e w4 ⟨rfl, rfl⟩; rw [HL2.out])
            go_roundw
            case rel => exact ⟨j + 1, hjc, by go_num, A⟩
            case measure => simp [intOf]; omega
        · obtain rfl : j = c := by omega
          go_wp2
          go_ret
          exact ⟨rfl, A.b⟩
set_option maxRecDepth 100000 in
set_option maxHeartbeats 4000000 in
theorem leg_yes (n : Nat) (h1 : 2 ≤ n) (h2 : n ≤ 64) (M : Nat) (hM : M ≤ 200) (w : World) :
    Calls Try.prog 4 #[.int .i64 n, .int .i64 M, .bool true] w fun e w' => e = .returned (.bool true) ∧ Below w.heap.size w w' := by
  have hpl := places_in n (by omega) (by omega)
  go_enter Try.func4, Try.ntmps4
  go_upto_region 4 with (go_at_call 7; refine (alive6_says _).mono ?_; rintro e w1 ⟨rfl, hL⟩)
  go_upto_region 5 with (go_at_call 8; refine (new_at hL _).mono ?_; rintro e w2 ⟨h, m, rfl, A⟩; rw [hpl] at A)
  clear hpl
  have HL := Lib.hid hL; clear hL
  go_wp2_with fail
  go_loopw [9] (fun i wr => ∃ c : Nat, c ≤ M ∧ i = .int .i64 c ∧ At w wr h m n (ageL n c)) (fun i _ => M - (intOf i).toNat)
  case atStart => exact ⟨0, Nat.zero_le _, rfl, by rw [age_nil]; exact A⟩
  case round =>
    clear A
    obtain ⟨c, hc, rfl, A⟩ := hrel
    by_cases hcn : c < M
    · by_cases hc0 : 0 < c
      · have hput := Lib.hid (age_put n c (by omega)); have hag := Lib.hid (age_again n c h1 hc0)
        go_wp2_with (first | (go_at_call 9; refine (put_at A3 _ _ _ (by omega) (by omega) (by omega)).mono ?_; rintro e w3 ⟨rfl, A4⟩; rw [hag.out] at A4) | (go_at_call 9; refine (put_at A _ _ _ (by omega) (by omega) (by omega)).mono ?_; rintro e w3 ⟨rfl, A3⟩; rw [hput.out] at A3))
        go_roundw
        case rel => exact ⟨c + 1, hcn, by go_num, A4⟩
        case measure => simp [intOf]; omega
      · have hput := Lib.hid (age_put n c (by omega))
        go_wp2_with (go_at_call 9; refine (put_at A _ _ _ (by omega) (by omega) (by omega)).mono ?_; rintro e w3 ⟨rfl, A3⟩; rw [hput.out] at A3)
        go_roundw
        case rel => exact ⟨c + 1, hcn, by go_num, A3⟩
        case measure => simp [intOf]; omega
    · obtain rfl : c = M := by omega
      go_wp2_with fail
      go_loopw [10] (fun i wr => ∃ j : Nat, j ≤ c ∧ i = .int .i64 j ∧ At w wr h m n (ageL n c)) (fun i _ => c - (intOf i).toNat)
      case atStart => exact ⟨0, Nat.zero_le _, rfl, A⟩
      case round =>
        clear A
        obtain ⟨j, hj, rfl, A⟩ := hrel
        by_cases hjc : j < c
        · have hlk := age_look n c j
          by_cases hth : (c : Int) - n ≤ j
          · rw [if_pos (by omega)] at hlk
            have HL2 := Lib.hid (lk_of hlk); clear hlk
            go_wp2_with (go_at_call 10; refine (look_at A _ _ (by omega) (by omega)).mono ?_; rintro e w4 ⟨rfl, rfl⟩; rw [HL2.out])
            go_roundw
            case rel => exact ⟨j + 1, hjc, by go_num, A⟩
            case measure => simp [intOf]; omega
          · rw [if_neg (by omega)] at hlk
            have HL2 := Lib.hid (lk_of hlk); clear hlk
            go_wp2_with (go_at_call 10; refine (look_at A _ _ (by omega) (by omega)).mono ?_; rintro e w4 ⟨rfl, rfl⟩; rw [HL2.out])
            go_roundw
            case rel => exact ⟨j + 1, hjc, by go_num, A⟩
            case measure => simp [intOf]; omega
        · obtain rfl : j = c := by omega
          go_wp2
          go_ret
          exact ⟨rfl, A.b⟩
set_option maxRecDepth 100000 in
set_option maxHeartbeats 4000000 in
theorem leg_one  (M : Nat) (hM : M ≤ 200) (hM1 : ¬ M = 1) (w : World) :
    Calls Try.prog 4 #[.int .i64 1, .int .i64 M, .bool true] w fun e w' => e = .returned (.bool true) ∧ Below w.heap.size w w' := by
  have hpl := places_in 1 (by omega) (by omega)
  go_enter Try.func4, Try.ntmps4
  go_upto_region 4 with (go_at_call 7; refine (alive6_says _).mono ?_; rintro e w1 ⟨rfl, hL⟩)
  go_upto_region 5 with (go_at_call 8; refine (new_at hL _).mono ?_; rintro e w2 ⟨h, m, rfl, A⟩; rw [show places 1 = 1 from rfl] at A)
  clear hpl
  have HL := Lib.hid hL; clear hL
  go_wp2_with fail
  go_loopw [9] (fun i wr => ∃ c : Nat, c ≤ M ∧ i = .int .i64 c ∧ At w wr h m 1 (oneL c)) (fun i _ => M - (intOf i).toNat)
  case atStart => exact ⟨0, Nat.zero_le _, rfl, by rw [one_nil]; exact A⟩
  case round =>
    clear A
    obtain ⟨c, hc, rfl, A⟩ := hrel
    by_cases hcn : c < M
    · by_cases hc0 : 0 < c
      · have hag := Lib.hid (one_put c hc0)
        go_wp2_with (first | (go_at_call 9; refine (put_at A3 _ _ _ (by omega) (by omega) (by omega)).mono ?_; rintro e w3 ⟨rfl, A4⟩; rw [hag.out] at A4) | (go_at_call 9; refine (put_at A _ _ _ (by omega) (by omega) (by omega)).mono ?_; rintro e w3 ⟨rfl, A3⟩))
        go_roundw
        case rel => exact ⟨c + 1, hcn, by go_num, A4⟩
        case measure => simp [intOf]; omega
      · obtain rfl : c = 0 := by omega
        go_wp2_with (go_at_call 9; refine (put_at A _ _ _ (by omega) (by omega) (by omega)).mono ?_; rintro e w3 ⟨rfl, A3⟩; rw [one_first'] at A3)
        go_roundw
        case rel => exact ⟨0 + 1, hcn, by go_num, A3⟩
        case measure => simp [intOf]; omega
    · obtain rfl : c = M := by omega
      go_wp2_with fail
      go_loopw [10] (fun i wr => ∃ j : Nat, j ≤ c ∧ i = .int .i64 j ∧ At w wr h m 1 (oneL c)) (fun i _ => c - (intOf i).toNat)
      case atStart => exact ⟨0, Nat.zero_le _, rfl, A⟩
      case round =>
        clear A
        obtain ⟨j, hj, rfl, A⟩ := hrel
        by_cases hjc : j < c
        · have hlk := one_look c j hjc
          by_cases hth : (j : Int) = (c : Int) - 2 ∧ 1 < c ∨ c = 1
          · rw [if_pos (by omega)] at hlk
            have HL2 := Lib.hid (lk_of hlk); clear hlk
            have hM2 : ¬ (c : Int) = 1 := by omega
            go_wp2_with (go_at_call 10; refine (look_at A _ _ (by omega) (by omega)).mono ?_; rintro e w4 ⟨rfl, rfl⟩; rw [HL2.out])
            go_roundw
            case rel => exact ⟨j + 1, hjc, by go_num, A⟩
            case measure => simp [intOf]; omega
          · rw [if_neg (by omega)] at hlk
            have HL2 := Lib.hid (lk_of hlk); clear hlk
            have hM2 : ¬ (c : Int) = 1 := by omega
            go_wp2_with (go_at_call 10; refine (look_at A _ _ (by omega) (by omega)).mono ?_; rintro e w4 ⟨rfl, rfl⟩; rw [HL2.out])
            go_roundw
            case rel => exact ⟨j + 1, hjc, by go_num, A⟩
            case measure => simp [intOf]; omega
        · obtain rfl : j = c := by omega
          go_wp2
          go_ret
          exact ⟨rfl, A.b⟩
theorem one_l0 : lk (oneL 1) 1 0 = .returned (.tuple #[i64 0, .bool true]) := by rfl
theorem leg_11  (w : World) :
    Calls Try.prog 4 #[.int .i64 1, i64 1, .bool true] w fun e w' => e = .returned (.bool true) ∧ Below w.heap.size w w' := by
  have hpl := places_in 1 (by omega) (by omega)
  go_enter Try.func4, Try.ntmps4
  go_upto_region 4 with (go_at_call 7; refine (alive6_says _).mono ?_; rintro e w1 ⟨rfl, hL⟩)
  go_upto_region 5 with (go_at_call 8; refine (new_at hL _).mono ?_; rintro e w2 ⟨h, m, rfl, A⟩; rw [show places 1 = 1 from rfl] at A)
  clear hpl
  have HL := Lib.hid hL; clear hL
  go_wp2_with fail
  go_loopw [9] (fun i wr => ∃ c : Nat, c ≤ 1 ∧ i = .int .i64 c ∧ At w wr h m 1 (oneL c)) (fun i _ => 1 - (intOf i).toNat)
  case atStart => exact ⟨0, Nat.zero_le _, rfl, by rw [one_nil]; exact A⟩
  case round =>
    clear A
    obtain ⟨c, hc, rfl, A⟩ := hrel
    by_cases hcn : c < 1
    · obtain rfl : c = 0 := by omega
      go_wp2_with (go_at_call 9; refine (put_at A _ _ _ (by omega) (by omega) (by omega)).mono ?_; rintro e w3 ⟨rfl, A3⟩; rw [one_first'] at A3)
      go_roundw
      case rel => exact ⟨0 + 1, hcn, by go_num, A3⟩
      case measure => simp [intOf]
    · obtain rfl : c = 1 := by omega
      go_wp2_with fail
      go_loopw [10] (fun i wr => ∃ j : Nat, j ≤ 1 ∧ i = .int .i64 j ∧ At w wr h m 1 (oneL 1)) (fun i _ => 1 - (intOf i).toNat)
      case atStart => exact ⟨0, Nat.zero_le _, rfl, A⟩
      case round =>
        clear A
        obtain ⟨j, hj, rfl, A⟩ := hrel
        by_cases hjc : j < 1
        · obtain rfl : j = 0 := by omega
          have HL2 := Lib.hid one_l0
          go_wp2_with (go_at_call 10; refine (look_at A _ _ (by omega) (by omega)).mono ?_; rintro e w4 ⟨rfl, rfl⟩; rw [HL2.out])
          go_roundw
          case rel => exact ⟨_, _, _, _, _, _, _, _, _, _, _, _, _, _, _, _, _, _, _, _, _, _, _, _, _, _, _, _, _, _, _, _, _, _, _, _, _, _, _, _, _, _, _, _, _, _, _, _, _, _, ⟨0 + 1, hjc, rfl, A⟩, rfl⟩
          case measure => simp [intOf]
        · obtain rfl : j = 1 := by omega
          go_wp2
          go_ret
          exact ⟨rfl, A.b⟩
set_option maxRecDepth 100000 in
set_option maxHeartbeats 4000000 in
theorem walk (a0 : Int) (a1 : Int) (a2 : Bool) (w0 : (Lit.int .i64 a0).wf = true) (w1 : (Lit.int .i64 a1).wf = true) (w : World) :
    Calls Try.prog 4 #[.int .i64 a0, .int .i64 a1, .bool a2] w fun e w' => e = .returned (.bool true) ∧ Below w.heap.size w w' := by
  by_cases hs : 1 ≤ a0 ∧ a0 ≤ 64 ∧ 0 ≤ a1 ∧ a1 ≤ 200
  · obtain ⟨p0, p1, q0, q1⟩ := hs
    obtain ⟨n, rfl⟩ := Int.eq_ofNat_of_zero_le (show 0 ≤ a0 by omega)
    obtain ⟨M, rfl⟩ := Int.eq_ofNat_of_zero_le q0
    cases a2 with
    | false => exact leg_no n (by omega) (by omega) M (by omega) w
    | true =>
      by_cases hn : n = 1
      · subst hn
        by_cases hM : M = 1
        · subst hM; exact leg_11 w
        · exact leg_one M (by omega) hM w
      · exact leg_yes n (by omega) (by omega) M (by omega) w
  · have HS := Lib.hid hs; clear hs
    go_enter Try.func4, Try.ntmps4
    go_wp2_with (first
      | (go_at_call 7; refine (alive6_says _).mono ?_; rintro e w1 ⟨rfl, hL⟩)
      | (go_at_call 8; exact (HS.out (by omega)).elim))
    all_goals
      go_ret
      exact ⟨rfl, hL⟩

/-! ### THE ROW's STEP: WRITTEN OUT: LEAVE IT -/
set_option maxRecDepth 100000 in
theorem lifted (os : Os) (started : os.Started) (H : Type) (enc : TypeId × Value → H) :
    ReturnsInHanded {} Try.checked os 4 .any (Rows.tlbAgeSpec.pre6 enc Try.prog Try.f4 Rows.tlbAgeRow.domain false) (Rows.tlbAgeSpec.post enc Try.prog Try.f4 false true false false) := by
  refine returnsInHanded_of_change (C := Try.checked) own started (by kernel_rfl) Try.func4
    (ChangeSpec.witness6 (enc := enc) (C := Try.checked) false ⟨#[], #[.int .i64 0, .int .i64 0, .bool false], []⟩ 8 (by kernel_rfl) (by kernel_rfl) (by kernel_rfl) (by kernel_rfl)) ?_
  intro W base args ds gs before hval0 hW hcnd _
  have hval : ∀ (j : Nat) t v, Try.f4.params[j]? = some t → args[j]? = some v → Value.okWide Try.prog W .any base t v := hval0
  have hW' := hW
  obtain ⟨p, q, hA0, hV, rfl, hfz, hnd⟩ := hW
  have hA : DataW.TrodAll enc Try.prog W 0 (fun _ => true) true Try.f4.params.toList args.toList ds p := hA0
  rw [Try.params4] at hA hval
  obtain ⟨v0, vs0, d0, ds0, p0, q0, hargs, rfl, rfl, h0, r0⟩ := trodAll_cons hA
  obtain ⟨v1, vs1, d1, ds1, p1, q1, rfl, rfl, rfl, h1, r1⟩ := trodAll_cons r0
  obtain ⟨v2, vs2, d2, ds2, p2, q2, rfl, rfl, rfl, h2, r2⟩ := trodAll_cons r1
  obtain ⟨rfl, rfl, rfl⟩ := trodAll_nil r2
  obtain rfl : args = #[v0, v1, v2] := by cases args; simp_all
  obtain ⟨rfl, rfl⟩ := trodVars_none hV
  obtain ⟨a0, rfl, rfl, rfl, w0⟩ := open_int Try.underlying3 (hval 0 3 v0 rfl rfl) h0
  obtain ⟨a1, rfl, rfl, rfl, w1⟩ := open_int Try.underlying3 (hval 1 3 v1 rfl rfl) h1
  obtain ⟨a2, rfl, rfl, rfl⟩ := open_bool Try.underlying4 (hval 2 4 v2 rfl rfl) h2
  clear hA0 hval0
  simp only [List.append_nil] at hW'
  refine (walk a0 a1 a2 w0 w1 W).mono fun e W' ⟨he, hg⟩ => ?_
  subst he
  exact ⟨_, rfl, _, _, _, [], [], [], hW', (trodAll_cons_mk (shut_bool Try.underlying4 _) trodAll_mk0), (trodAll_cons_mk (shut_int Try.underlying3 w0) (trodAll_cons_mk (shut_int Try.underlying3 w1) (trodAll_cons_mk (shut_bool Try.underlying4 _) trodAll_mk0))), rfl, hg.frame _, fun h => by cases h⟩

theorem over : Rows.tlbAgeRow.holds Try.pinned (OpenSpec.ofChange Rows.tlbAgeSpec) :=
  OpenClaim.holds_of_wide 4 Try.f4 rfl rfl rfl rfl rfl rfl rfl ⟨rfl, rfl, rfl, rfl, rfl⟩ rfl rfl rfl rfl rfl (by kernel_rfl) Try.func4 (by kernel_rfl)
    (of_decide_eq_true (by kernel_rfl)) (by unfold Func.isWrapper; first | (rw [if_pos (by decide +kernel)]; kernel_rfl) | (rw [if_neg (by decide +kernel)]; exact ⟨rfl, rfl⟩))
    (fun os started H enc _ => lifted os started H enc)

/-- ████ THE STATEMENT ████ -/
theorem proved : Rows.TlbAgeSaid :=
  over
end Go.Proofs.Ytkcjhhppfolajaa.tlbAge
