/-
  A flush of one tag leaves all others, and one vpn may stand under many tags (law TlbTags returns true).
  No condition: whatever the arguments are.
-/
import Derived.Test.YtkcjhhppfolajaaRows
import Derived.WalkKit
import Derived.ProofKit
import Derived.OpenShut
import Derived.Test.YtkcjhhppfolajaaTlbAt
namespace Go.Proofs.Ytkcjhhppfolajaa.tlbTags
open Go.ChangeShapes Go.WideShapes Go.ChangeAt Go.RowKit
set_option linter.unusedVariables false      -- a walk need not use every 'w<i>' (that an integer argument fits its kind)

theorem own : ownKnob Try.prog.godebug = none := by kernel_rfl

theorem lk_of {l : List Ent} {t v : Int} {o : Option Int} (h : tlook l (t, v) = o) : lk l t v = .returned (.tuple #[i64 (o.getD 0), .bool o.isSome]) := by unfold lk; rw [h]
theorem tag_nil (v : Nat) : tagL v (0 * v) = [] := by unfold tagL rowL; simp
theorem under (T V i k : Nat) (hi : i < T) (hk : k < V) : i * V + k < T * V := by
  have := Nat.mul_le_mul_right V (show i + 1 ≤ T from hi)
  rw [Nat.succ_mul] at this
  omega
set_option maxRecDepth 100000 in
set_option maxHeartbeats 4000000 in
theorem walk (a0 : Int) (a1 : Int) (a2 : Int) (w0 : (Lit.int .i64 a0).wf = true) (w1 : (Lit.int .i64 a1).wf = true) (w2 : (Lit.int .i64 a2).wf = true) (w : World) :
    Calls Try.prog 5 #[.int .i64 a0, .int .i64 a1, .int .i64 a2] w fun e w' => e = .returned (.bool true) ∧ Below w.heap.size w w' := by
  by_cases hs : 1 ≤ a0 ∧ a0 ≤ 10 ∧ 1 ≤ a1 ∧ a1 ≤ 10
  · obtain ⟨p0, p1, q0, q1⟩ := hs
    obtain ⟨T, rfl⟩ := Int.eq_ofNat_of_zero_le (show 0 ≤ a0 by omega)
    obtain ⟨V, rfl⟩ := Int.eq_ofNat_of_zero_le (show 0 ≤ a1 by omega)
    obtain ⟨P, hP⟩ : ∃ P, P = T * V := ⟨_, rfl⟩
    have hPI : (T : Int) * (V : Int) = (P : Int) := by rw [hP]; exact (Int.natCast_mul T V).symm
    have hP1 : P ≤ 100 := by rw [hP]; exact Nat.mul_le_mul (show T ≤ 10 by omega) (show V ≤ 10 by omega)
    have hP0 : 1 ≤ P := by rw [hP]; exact Nat.mul_le_mul (show 1 ≤ T by omega) (show 1 ≤ V by omega)
    have hwr : IntKind.i64.wrap ((T : Int) * (V : Int)) = (P : Int) := by rw [hPI]; exact IntWalk.i64_in _ (by omega)
    have hpl : places (P : Int) = P := by unfold places; omega
    have HP := Lib.hid hP; clear hP
    go_enter Try.func5, Try.ntmps5
    go_upto_region 4 with (go_at_call 7; refine (alive6_says _).mono ?_; rintro e w1 ⟨rfl, hL⟩)
    go_upto_region 5 with (go_at_call 8; refine (new_at hL _).mono ?_; rintro e w2 ⟨h, m, rfl, A⟩; rw [hpl] at A)
    clear hpl
    have HL := Lib.hid hL; clear hL
    have HPI := Lib.hid hPI; clear hPI
    go_wp2_with fail
    go_loopw [9] (fun s wr => ∃ i : Nat, i ≤ T ∧ s = .int .i64 i ∧ At w wr h m P (tagL V (i * V))) (fun s _ => T - (intOf s).toNat)
    case atStart => exact ⟨0, Nat.zero_le _, rfl, by rw [tag_nil]; exact A⟩
    case round =>
      clear A
      obtain ⟨i, hi, rfl, A⟩ := hrel
      by_cases hiT : i < T
      · go_wp2_with fail
        go_loopw [10] (fun s wr => ∃ k : Nat, k ≤ V ∧ s = .int .i64 k ∧ At w wr h m P (tagL V (i * V + k))) (fun s _ => V - (intOf s).toNat)
        case atStart => exact ⟨0, Nat.zero_le _, rfl, A⟩
        case round =>
          clear A
          obtain ⟨k, hk, rfl, A⟩ := hrel
          by_cases hkV : k < V
          · have hput := Lib.hid (tag_put P V i k hkV (by rw [HP.out]; exact under T V i k hiT hkV))
            go_wp2_with (go_at_call 9; refine (put_at A _ _ _ (by omega) (by omega) (by omega)).mono ?_; rintro e w3 ⟨rfl, A3⟩; rw [hput.out] at A3)
            go_roundw
            case rel => exact ⟨k + 1, hkV, by go_num, A3⟩
            case measure => simp [intOf]; omega
          · obtain rfl : k = V := by omega
            rw [← Nat.succ_mul] at A
            go_wp2_with fail
            go_roundw
            case rel => exact ⟨i + 1, hiT, by go_num, A⟩
            case measure => simp [intOf]; omega
      · obtain rfl : i = T := by omega
        rw [← HP.out] at A
        have hln := tag_length V P
        have HN := Lib.hid hln; clear hln
        go_upto_region 15 with (first | (go_at_call 13; refine (len_at A).mono ?_; rintro e w3 ⟨rfl, rfl⟩; rw [HN.out]) | (go_at_call 11; refine (flush_at A _).mono ?_; rintro e w3 ⟨rfl, A3⟩))
        go_wp2_with fail
        go_loopw [11] (fun s wr => ∃ j : Nat, j ≤ i ∧ s = .int .i64 j ∧ At w wr h m P (tflush (tagL V P) a2)) (fun s _ => i - (intOf s).toNat)
        case atStart => exact ⟨0, Nat.zero_le _, rfl, A3⟩
        case round =>
          clear A A3
          obtain ⟨j, hj, rfl, A⟩ := hrel
          by_cases hjT : j < i
          · go_wp2_with fail
            go_loopw [12] (fun s wr => ∃ k : Nat, k ≤ V ∧ s = .int .i64 k ∧ At w wr h m P (tflush (tagL V P) a2)) (fun s _ => V - (intOf s).toNat)
            case atStart => exact ⟨0, Nat.zero_le _, rfl, A⟩
            case round =>
              clear A
              obtain ⟨k, hk, rfl, A⟩ := hrel
              by_cases hkV : k < V
              · have hlk := tag_look V P j k a2 hkV (by rw [HP.out]; exact under i V j k hjT hkV)
                by_cases hf : (j : Int) = a2
                · rw [if_pos hf] at hlk
                  have HL2 := Lib.hid (lk_of hlk); clear hlk
                  have hfb : ((j : Int) != a2) = false := by rw [hf]; simp
                  clear hf
                  go_wp2_with (go_at_call 10; refine (look_at A _ _ (by omega) (by omega)).mono ?_; rintro e w4 ⟨rfl, rfl⟩; rw [HL2.out])
                  go_roundw
                  case rel => exact ⟨k + 1, hkV, by go_num, A⟩
                  case measure => simp [intOf]; omega
                · rw [if_neg hf] at hlk
                  have HL2 := Lib.hid (lk_of hlk); clear hlk
                  have hfb : ((j : Int) != a2) = true := by simp [hf]
                  clear hf
                  go_wp2_with (go_at_call 10; refine (look_at A _ _ (by omega) (by omega)).mono ?_; rintro e w4 ⟨rfl, rfl⟩; rw [HL2.out])
                  go_roundw
                  case rel => exact ⟨k + 1, hkV, by go_num, A⟩
                  case measure => simp [intOf]; omega
              · obtain rfl : k = V := by omega
                go_wp2_with fail
                go_roundw
                case rel => exact ⟨j + 1, hjT, by go_num, A⟩
                case measure => simp [intOf]; omega
          · obtain rfl : j = i := by omega
            go_wp2
            go_ret
            exact ⟨rfl, A.b⟩
  · have HS := Lib.hid hs; clear hs
    go_enter Try.func5, Try.ntmps5
    go_wp2_with (first
      | (go_at_call 7; refine (alive6_says _).mono ?_; rintro e w1 ⟨rfl, hL⟩)
      | (go_at_call 8; exact (HS.out (by omega)).elim))
    all_goals
      go_ret
      exact ⟨rfl, hL⟩

/-! ### THE ROW's STEP: WRITTEN OUT: LEAVE IT -/
set_option maxRecDepth 100000 in
theorem lifted (os : Os) (started : os.Started) (H : Type) (enc : TypeId × Value → H) :
    ReturnsInHanded {} Try.checked os 5 .any (Rows.tlbTagsSpec.pre6 enc Try.prog Try.f5 Rows.tlbTagsRow.domain false) (Rows.tlbTagsSpec.post enc Try.prog Try.f5 false true false false) := by
  refine returnsInHanded_of_change (C := Try.checked) own started (by kernel_rfl) Try.func5
    (ChangeSpec.witness6 (enc := enc) (C := Try.checked) false ⟨#[], #[.int .i64 0, .int .i64 0, .int .i64 0], []⟩ 8 (by kernel_rfl) (by kernel_rfl) (by kernel_rfl) (by kernel_rfl)) ?_
  intro W base args ds gs before hval0 hW hcnd _
  have hval : ∀ (j : Nat) t v, Try.f5.params[j]? = some t → args[j]? = some v → Value.okWide Try.prog W .any base t v := hval0
  have hW' := hW
  obtain ⟨p, q, hA0, hV, rfl, hfz, hnd⟩ := hW
  have hA : DataW.TrodAll enc Try.prog W 0 (fun _ => true) true Try.f5.params.toList args.toList ds p := hA0
  rw [Try.params5] at hA hval
  obtain ⟨v0, vs0, d0, ds0, p0, q0, hargs, rfl, rfl, h0, r0⟩ := trodAll_cons hA
  obtain ⟨v1, vs1, d1, ds1, p1, q1, rfl, rfl, rfl, h1, r1⟩ := trodAll_cons r0
  obtain ⟨v2, vs2, d2, ds2, p2, q2, rfl, rfl, rfl, h2, r2⟩ := trodAll_cons r1
  obtain ⟨rfl, rfl, rfl⟩ := trodAll_nil r2
  obtain rfl : args = #[v0, v1, v2] := by cases args; simp_all
  obtain ⟨rfl, rfl⟩ := trodVars_none hV
  obtain ⟨a0, rfl, rfl, rfl, w0⟩ := open_int Try.underlying3 (hval 0 3 v0 rfl rfl) h0
  obtain ⟨a1, rfl, rfl, rfl, w1⟩ := open_int Try.underlying3 (hval 1 3 v1 rfl rfl) h1
  obtain ⟨a2, rfl, rfl, rfl, w2⟩ := open_int Try.underlying3 (hval 2 3 v2 rfl rfl) h2
  clear hA0 hval0
  simp only [List.append_nil] at hW'
  refine (walk a0 a1 a2 w0 w1 w2 W).mono fun e W' ⟨he, hg⟩ => ?_
  subst he
  exact ⟨_, rfl, _, _, _, [], [], [], hW', (trodAll_cons_mk (shut_bool Try.underlying4 _) trodAll_mk0), (trodAll_cons_mk (shut_int Try.underlying3 w0) (trodAll_cons_mk (shut_int Try.underlying3 w1) (trodAll_cons_mk (shut_int Try.underlying3 w2) trodAll_mk0))), rfl, hg.frame _, fun h => by cases h⟩

theorem over : Rows.tlbTagsRow.holds Try.pinned (OpenSpec.ofChange Rows.tlbTagsSpec) :=
  OpenClaim.holds_of_wide 5 Try.f5 rfl rfl rfl rfl rfl rfl rfl ⟨rfl, rfl, rfl, rfl, rfl⟩ rfl rfl rfl rfl rfl (by kernel_rfl) Try.func5 (by kernel_rfl)
    (of_decide_eq_true (by kernel_rfl)) (by unfold Func.isWrapper; first | (rw [if_pos (by decide +kernel)]; kernel_rfl) | (rw [if_neg (by decide +kernel)]; exact ⟨rfl, rfl⟩))
    (fun os started H enc _ => lifted os started H enc)

/-- ████ THE STATEMENT ████ -/
theorem proved : Rows.TlbTagsSaid :=
  over
end Go.Proofs.Ytkcjhhppfolajaa.tlbTags
