/-
  An eviction takes the entry of that age, and no other (law TlbEvicts returns true).
  No condition: whatever the arguments are.
-/
import Derived.Test.YtkcjhhppfolajaaRows
import Derived.WalkKit
import Derived.ProofKit
import Derived.OpenShut
import Derived.Test.YtkcjhhppfolajaaTlbAt
namespace Go.Proofs.Ytkcjhhppfolajaa.tlbEvicts
open Go.ChangeShapes Go.WideShapes Go.ChangeAt Go.RowKit
set_option linter.unusedVariables false      -- a walk need not use every 'w<i>' (that an integer argument fits its kind)

theorem own : ownKnob Try.prog.godebug = none := by kernel_rfl

theorem places_in (n : Nat) (h1 : 1 ≤ n) (h2 : n ≤ 256) : places n = n := by unfold places; omega
theorem lk_of {l : List Ent} {t v : Int} {o : Option Int} (h : tlook l (t, v) = o) : lk l t v = .returned (.tuple #[i64 (o.getD 0), .bool o.isSome]) := by unfold lk; rw [h]
set_option maxRecDepth 100000 in
set_option maxHeartbeats 4000000 in
theorem walk (a0 : Int) (a1 : Int) (w0 : (Lit.int .i64 a0).wf = true) (w1 : (Lit.int .i64 a1).wf = true) (w : World) :
    Calls Try.prog 6 #[.int .i64 a0, .int .i64 a1] w fun e w' => e = .returned (.bool true) ∧ Below w.heap.size w w' := by
  by_cases hs : 1 ≤ a0 ∧ a0 ≤ 60
  · obtain ⟨p0, p1⟩ := hs
    obtain ⟨n, rfl⟩ := Int.eq_ofNat_of_zero_le (show 0 ≤ a0 by omega)
    have hpl := places_in n (by omega) (by omega)
    go_enter Try.func6, Try.ntmps6
    go_upto_region 4 with (go_at_call 7; refine (alive6_says _).mono ?_; rintro e w1 ⟨rfl, hL⟩)
    go_upto_region 5 with (go_at_call 8; refine (new_at hL _).mono ?_; rintro e w2 ⟨h, m, rfl, A⟩; rw [hpl] at A)
    clear hpl
    have HL := Lib.hid hL; clear hL
    go_wp2_with fail
    go_loopw [7] (fun i wr => ∃ c : Nat, c ≤ n ∧ i = .int .i64 c ∧ At w wr h m n (evL c)) (fun i _ => n - (intOf i).toNat)
    case atStart => exact ⟨0, Nat.zero_le _, rfl, A⟩
    case round =>
      clear A
      obtain ⟨c, hc, rfl, A⟩ := hrel
      by_cases hcn : c < n
      · have hput := Lib.hid (ev_put n c hcn)
        go_wp2_with (go_at_call 9; refine (put_at A _ _ _ (by omega) (by omega) (by omega)).mono ?_; rintro e w3 ⟨rfl, A3⟩; rw [hput.out] at A3)
        go_roundw
        case rel => exact ⟨c + 1, hcn, by go_num, A3⟩
        case measure => simp [intOf]; omega
      · obtain rfl : c = n := by omega
        have hln := Lib.hid (ev_length c a1)
        go_upto_region 10 with (go_at_call 12; refine (evict_at A _).mono ?_; rintro e w3 ⟨rfl, A3⟩)
        go_wp2_with fail
        go_loopw [8] (fun i wr => ∃ j : Nat, j ≤ c ∧ i = .int .i64 j ∧ At w wr h m c (tevict (evL c) a1)) (fun i _ => c - (intOf i).toNat)
        case atStart => exact ⟨0, Nat.zero_le _, rfl, A3⟩
        case round =>
          clear A A3
          obtain ⟨j, hj, rfl, A⟩ := hrel
          by_cases hjc : j < c
          · have hlk := ev_look c j a1 hjc
            obtain ⟨o, ho⟩ : ∃ o, tlook (tevict (evL c) a1) (0, (j : Int)) = o := ⟨_, rfl⟩
            rw [ho] at hlk
            have hl2 := lk_of ho
            rw [hlk] at hl2
            have HL2 := Lib.hid hl2
            by_cases hk : (j : Int) = a1
            · rw [decide_eq_true hk] at HL2
              subst hk
              clear ho hlk hl2
              go_wp2_with (go_at_call 10; refine (look_at A _ _ (by omega) (by omega)).mono ?_; rintro e w4 ⟨rfl, rfl⟩; rw [HL2.out])
              go_roundw
              case rel => exact ⟨j + 1, hjc, by go_num, A⟩
              case measure => simp [intOf]; omega
            · rw [decide_eq_false hk] at HL2
              have hkb : ((j : Int) == a1) = false := beq_false_of_ne hk
              clear ho hlk hl2
              go_wp2_with (go_at_call 10; refine (look_at A _ _ (by omega) (by omega)).mono ?_; rintro e w4 ⟨rfl, rfl⟩; rw [HL2.out])
              go_roundw
              case rel => exact ⟨j + 1, hjc, by go_num, A⟩
              case measure => simp [intOf]; omega
          · obtain rfl : j = c := by omega
            by_cases hk : 0 ≤ a1 ∧ a1 < j
            · have hl := hln.out
              rw [if_pos hk] at hl
              have HN := Lib.hid hl
              obtain ⟨k0, k1⟩ := hk
              go_wp2_with (go_at_call 13; refine (len_at A).mono ?_; rintro e w4 ⟨rfl, rfl⟩; rw [HN.out])
              go_ret
              trace_state
              exact ⟨ret_bool (by simp), A.b⟩
            · have hl := hln.out
              rw [if_neg hk] at hl
              have HN := Lib.hid hl
              go_wp2_with (go_at_call 13; refine (len_at A).mono ?_; rintro e w4 ⟨rfl, rfl⟩; rw [HN.out])
              all_goals
                first
                  | (go_ret; exact ⟨ret_bool (by simp), A.b⟩)
                  | trace_state
  · have HS := Lib.hid hs; clear hs
    go_enter Try.func6, Try.ntmps6
    go_wp2_with (first
      | (go_at_call 7; refine (alive6_says _).mono ?_; rintro e w1 ⟨rfl, hL⟩)
      | (go_at_call 8; exact (HS.out (by omega)).elim))
    all_goals
      go_ret
      exact ⟨rfl, hL⟩

/-! ### THE ROW's STEP: WRITTEN OUT: LEAVE IT -/
set_option maxRecDepth 100000 in
theorem lifted (os : Os) (started : os.Started) (H : Type) (enc : TypeId × Value → H) :
    ReturnsInHanded {} Try.checked os 6 .any (Rows.tlbEvictsSpec.pre6 enc Try.prog Try.f6 Rows.tlbEvictsRow.domain false) (Rows.tlbEvictsSpec.post enc Try.prog Try.f6 false true false false) := by
  refine returnsInHanded_of_change (C := Try.checked) own started (by kernel_rfl) Try.func6
    (ChangeSpec.witness6 (enc := enc) (C := Try.checked) false ⟨#[], #[.int .i64 0, .int .i64 0], []⟩ 8 (by kernel_rfl) (by kernel_rfl) (by kernel_rfl) (by kernel_rfl)) ?_
  intro W base args ds gs before hval0 hW hcnd _
  have hval : ∀ (j : Nat) t v, Try.f6.params[j]? = some t → args[j]? = some v → Value.okWide Try.prog W .any base t v := hval0
  have hW' := hW
  obtain ⟨p, q, hA0, hV, rfl, hfz, hnd⟩ := hW
  have hA : DataW.TrodAll enc Try.prog W 0 (fun _ => true) true Try.f6.params.toList args.toList ds p := hA0
  rw [Try.params6] at hA hval
  obtain ⟨v0, vs0, d0, ds0, p0, q0, hargs, rfl, rfl, h0, r0⟩ := trodAll_cons hA
  obtain ⟨v1, vs1, d1, ds1, p1, q1, rfl, rfl, rfl, h1, r1⟩ := trodAll_cons r0
  obtain ⟨rfl, rfl, rfl⟩ := trodAll_nil r1
  obtain rfl : args = #[v0, v1] := by cases args; simp_all
  obtain ⟨rfl, rfl⟩ := trodVars_none hV
  obtain ⟨a0, rfl, rfl, rfl, w0⟩ := open_int Try.underlying3 (hval 0 3 v0 rfl rfl) h0
  obtain ⟨a1, rfl, rfl, rfl, w1⟩ := open_int Try.underlying3 (hval 1 3 v1 rfl rfl) h1
  clear hA0 hval0
  simp only [List.append_nil] at hW'
  refine (walk a0 a1 w0 w1 W).mono fun e W' ⟨he, hg⟩ => ?_
  subst he
  exact ⟨_, rfl, _, _, _, [], [], [], hW', (trodAll_cons_mk (shut_bool Try.underlying4 _) trodAll_mk0), (trodAll_cons_mk (shut_int Try.underlying3 w0) (trodAll_cons_mk (shut_int Try.underlying3 w1) trodAll_mk0)), rfl, hg.frame _, fun h => by cases h⟩

theorem over : Rows.tlbEvictsRow.holds Try.pinned (OpenSpec.ofChange Rows.tlbEvictsSpec) :=
  OpenClaim.holds_of_wide 6 Try.f6 rfl rfl rfl rfl rfl rfl rfl ⟨rfl, rfl, rfl, rfl, rfl⟩ rfl rfl rfl rfl rfl (by kernel_rfl) Try.func6 (by kernel_rfl)
    (of_decide_eq_true (by kernel_rfl)) (by unfold Func.isWrapper; first | (rw [if_pos (by decide +kernel)]; kernel_rfl) | (rw [if_neg (by decide +kernel)]; exact ⟨rfl, rfl⟩))
    (fun os started H enc _ => lifted os started H enc)

/-- ████ THE STATEMENT ████ -/
theorem proved : Rows.TlbEvictsSaid :=
  over
end Go.Proofs.Ytkcjhhppfolajaa.tlbEvicts
