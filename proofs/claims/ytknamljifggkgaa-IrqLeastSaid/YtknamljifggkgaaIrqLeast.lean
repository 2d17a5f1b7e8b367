/-
  Of several lines the least is taken, and a supervisor without the leave takes none (law IrqLeast returns true).
  No condition: whatever the arguments are.
-/
import Derived.Test.YtknamljifggkgaaRows
import Derived.WalkKit
import Derived.ProofKit
import Derived.OpenShut
import Derived.Test.YtknamljifggkgaaIrq
namespace Go.Proofs.Ytknamljifggkgaa.irqLeast
open Go.ChangeShapes Go.WideShapes Go.ChangeAt Go.RowKit
set_option linter.unusedVariables false      -- a walk need not use every 'w<i>' (that an integer argument fits its kind)

theorem own : ownKnob Try.prog.godebug = none := by kernel_rfl

theorem and7 (s : Int) : bits .and .i64 s 7 = s % 8 := by
  rw [and_low s 7 (by decide) (by decide), show s % 8 = s % 16 % 8 from by omega]
  exact low_cases s (fun t => bits .and .i64 t 7 = t % 8) (by decide +kernel)
theorem pair_cases {P : Int → Int → Prop} (h : ∀ p q : Fin 8, P (p.val : Int) (q.val : Int)) (p q : Int) (p0 : 0 ≤ p) (p1 : p < 8) (q0 : 0 ≤ q) (q1 : q < 8) : P p q := by
  have e := h ⟨p.toNat, by omega⟩ ⟨q.toNat, by omega⟩
  simpa [Int.toNat_of_nonneg p0, Int.toNat_of_nonneg q0] using e
theorem both_bd (p q : Int) (p0 : 0 ≤ p) (p1 : p < 8) (q0 : 0 ≤ q) (q1 : q < 8) : 0 ≤ bits .and .i64 p q ∧ bits .and .i64 p q ≤ 7 := pair_cases (P := fun p q => 0 ≤ bits .and .i64 p q ∧ bits .and .i64 p q ≤ 7) (by decide +kernel) p q p0 p1 q0 q1
theorem b_cases (b : Int) (h : 0 ≤ b ∧ b ≤ 7) : b = 0 ∨ b = 1 ∨ b = 2 ∨ b = 3 ∨ b = 4 ∨ b = 5 ∨ b = 6 ∨ b = 7 := by omega
set_option maxRecDepth 100000 in
set_option maxHeartbeats 4000000 in
theorem walk (a0 : Int) (a1 : Int) (w0 : (Lit.int .i64 a0).wf = true) (w1 : (Lit.int .i64 a1).wf = true) (w : World) :
    Calls Try.prog 5 #[.int .i64 a0, .int .i64 a1] w fun e w' => e = .returned (.bool true) ∧ Grown w w' := by
  have e0 := and7 a0
  have e1 := and7 a1
  have hb := b_cases _ (both_bd (a0 % 8) (a1 % 8) (by omega) (by omega) (by omega) (by omega))
  have T := fun s => takes_says s (a0 % 8) (a1 % 8)
  have K := pick_says (a0 % 8) (a1 % 8)
  obtain ⟨b, hB⟩ : ∃ b, bits .and .i64 (a0 % 8) (a1 % 8) = b := ⟨_, rfl⟩
  rw [hB] at hb T K
  have T4 := T 4
  have T5 := T 5
  have T0 := T 0
  clear T
  rcases hb with rfl | rfl | rfl | rfl | rfl | rfl | rfl | rfl
  · replace K : Says 9 #[i64 (a0 % 8), i64 (a1 % 8)] (.tuple #[i64 0, .bool false]) := K
    replace T4 : Says 11 #[i64 4, i64 (a0 % 8), i64 (a1 % 8)] (.tuple #[i64 0, .bool false]) := T4
    replace T5 : Says 11 #[i64 5, i64 (a0 % 8), i64 (a1 % 8)] (.tuple #[i64 0, .bool false]) := T5
    replace T0 : Says 11 #[i64 0, i64 (a0 % 8), i64 (a1 % 8)] (.tuple #[i64 0, .bool false]) := T0
    go_enter Try.func5, Try.ntmps5
    go_wp2_with (first | (go_at_call 6; refine (alive8_says _).mono ?_; rintro e w' ⟨rfl, rfl⟩) | (go_at_call 9; (with_reducible refine (K _).mono ?_); rintro e w' ⟨rfl, rfl⟩) | (go_at_call 11; (with_reducible refine (T4 _).mono ?_); rintro e w' ⟨rfl, rfl⟩) | (go_at_call 11; (with_reducible refine (T5 _).mono ?_); rintro e w' ⟨rfl, rfl⟩) | (go_at_call 11; (with_reducible refine (T0 _).mono ?_); rintro e w' ⟨rfl, rfl⟩))
    go_ret
    exact ⟨ret_bool (by decide +kernel), Grown.refl _⟩
  · replace K : Says 9 #[i64 (a0 % 8), i64 (a1 % 8)] (.tuple #[i64 0, .bool true]) := K
    replace T4 : Says 11 #[i64 4, i64 (a0 % 8), i64 (a1 % 8)] (.tuple #[i64 0, .bool false]) := T4
    replace T5 : Says 11 #[i64 5, i64 (a0 % 8), i64 (a1 % 8)] (.tuple #[i64 2147483648, .bool true]) := T5
    replace T0 : Says 11 #[i64 0, i64 (a0 % 8), i64 (a1 % 8)] (.tuple #[i64 2147483648, .bool true]) := T0
    go_enter Try.func5, Try.ntmps5
    go_wp2_with (first | (go_at_call 6; refine (alive8_says _).mono ?_; rintro e w' ⟨rfl, rfl⟩) | (go_at_call 9; (with_reducible refine (K _).mono ?_); rintro e w' ⟨rfl, rfl⟩) | (go_at_call 11; (with_reducible refine (T4 _).mono ?_); rintro e w' ⟨rfl, rfl⟩) | (go_at_call 11; (with_reducible refine (T5 _).mono ?_); rintro e w' ⟨rfl, rfl⟩) | (go_at_call 11; (with_reducible refine (T0 _).mono ?_); rintro e w' ⟨rfl, rfl⟩))
    go_ret
    exact ⟨ret_bool (by decide +kernel), Grown.refl _⟩
  · replace K : Says 9 #[i64 (a0 % 8), i64 (a1 % 8)] (.tuple #[i64 1, .bool true]) := K
    replace T4 : Says 11 #[i64 4, i64 (a0 % 8), i64 (a1 % 8)] (.tuple #[i64 0, .bool false]) := T4
    replace T5 : Says 11 #[i64 5, i64 (a0 % 8), i64 (a1 % 8)] (.tuple #[i64 2147483649, .bool true]) := T5
    replace T0 : Says 11 #[i64 0, i64 (a0 % 8), i64 (a1 % 8)] (.tuple #[i64 2147483649, .bool true]) := T0
    go_enter Try.func5, Try.ntmps5
    go_wp2_with (first | (go_at_call 6; refine (alive8_says _).mono ?_; rintro e w' ⟨rfl, rfl⟩) | (go_at_call 9; (with_reducible refine (K _).mono ?_); rintro e w' ⟨rfl, rfl⟩) | (go_at_call 11; (with_reducible refine (T4 _).mono ?_); rintro e w' ⟨rfl, rfl⟩) | (go_at_call 11; (with_reducible refine (T5 _).mono ?_); rintro e w' ⟨rfl, rfl⟩) | (go_at_call 11; (with_reducible refine (T0 _).mono ?_); rintro e w' ⟨rfl, rfl⟩))
    go_ret
    exact ⟨ret_bool (by decide +kernel), Grown.refl _⟩
  · replace K : Says 9 #[i64 (a0 % 8), i64 (a1 % 8)] (.tuple #[i64 0, .bool true]) := K
    replace T4 : Says 11 #[i64 4, i64 (a0 % 8), i64 (a1 % 8)] (.tuple #[i64 0, .bool false]) := T4
    replace T5 : Says 11 #[i64 5, i64 (a0 % 8), i64 (a1 % 8)] (.tuple #[i64 2147483648, .bool true]) := T5
    replace T0 : Says 11 #[i64 0, i64 (a0 % 8), i64 (a1 % 8)] (.tuple #[i64 2147483648, .bool true]) := T0
    go_enter Try.func5, Try.ntmps5
    go_wp2_with (first | (go_at_call 6; refine (alive8_says _).mono ?_; rintro e w' ⟨rfl, rfl⟩) | (go_at_call 9; (with_reducible refine (K _).mono ?_); rintro e w' ⟨rfl, rfl⟩) | (go_at_call 11; (with_reducible refine (T4 _).mono ?_); rintro e w' ⟨rfl, rfl⟩) | (go_at_call 11; (with_reducible refine (T5 _).mono ?_); rintro e w' ⟨rfl, rfl⟩) | (go_at_call 11; (with_reducible refine (T0 _).mono ?_); rintro e w' ⟨rfl, rfl⟩))
    go_ret
    exact ⟨ret_bool (by decide +kernel), Grown.refl _⟩
  · replace K : Says 9 #[i64 (a0 % 8), i64 (a1 % 8)] (.tuple #[i64 2, .bool true]) := K
    replace T4 : Says 11 #[i64 4, i64 (a0 % 8), i64 (a1 % 8)] (.tuple #[i64 0, .bool false]) := T4
    replace T5 : Says 11 #[i64 5, i64 (a0 % 8), i64 (a1 % 8)] (.tuple #[i64 2147483650, .bool true]) := T5
    replace T0 : Says 11 #[i64 0, i64 (a0 % 8), i64 (a1 % 8)] (.tuple #[i64 2147483650, .bool true]) := T0
    go_enter Try.func5, Try.ntmps5
    go_wp2_with (first | (go_at_call 6; refine (alive8_says _).mono ?_; rintro e w' ⟨rfl, rfl⟩) | (go_at_call 9; (with_reducible refine (K _).mono ?_); rintro e w' ⟨rfl, rfl⟩) | (go_at_call 11; (with_reducible refine (T4 _).mono ?_); rintro e w' ⟨rfl, rfl⟩) | (go_at_call 11; (with_reducible refine (T5 _).mono ?_); rintro e w' ⟨rfl, rfl⟩) | (go_at_call 11; (with_reducible refine (T0 _).mono ?_); rintro e w' ⟨rfl, rfl⟩))
    go_ret
    exact ⟨ret_bool (by decide +kernel), Grown.refl _⟩
  · replace K : Says 9 #[i64 (a0 % 8), i64 (a1 % 8)] (.tuple #[i64 0, .bool true]) := K
    replace T4 : Says 11 #[i64 4, i64 (a0 % 8), i64 (a1 % 8)] (.tuple #[i64 0, .bool false]) := T4
    replace T5 : Says 11 #[i64 5, i64 (a0 % 8), i64 (a1 % 8)] (.tuple #[i64 2147483648, .bool true]) := T5
    replace T0 : Says 11 #[i64 0, i64 (a0 % 8), i64 (a1 % 8)] (.tuple #[i64 2147483648, .bool true]) := T0
    go_enter Try.func5, Try.ntmps5
    go_wp2_with (first | (go_at_call 6; refine (alive8_says _).mono ?_; rintro e w' ⟨rfl, rfl⟩) | (go_at_call 9; (with_reducible refine (K _).mono ?_); rintro e w' ⟨rfl, rfl⟩) | (go_at_call 11; (with_reducible refine (T4 _).mono ?_); rintro e w' ⟨rfl, rfl⟩) | (go_at_call 11; (with_reducible refine (T5 _).mono ?_); rintro e w' ⟨rfl, rfl⟩) | (go_at_call 11; (with_reducible refine (T0 _).mono ?_); rintro e w' ⟨rfl, rfl⟩))
    go_ret
    exact ⟨ret_bool (by decide +kernel), Grown.refl _⟩
  · replace K : Says 9 #[i64 (a0 % 8), i64 (a1 % 8)] (.tuple #[i64 1, .bool true]) := K
    replace T4 : Says 11 #[i64 4, i64 (a0 % 8), i64 (a1 % 8)] (.tuple #[i64 0, .bool false]) := T4
    replace T5 : Says 11 #[i64 5, i64 (a0 % 8), i64 (a1 % 8)] (.tuple #[i64 2147483649, .bool true]) := T5
    replace T0 : Says 11 #[i64 0, i64 (a0 % 8), i64 (a1 % 8)] (.tuple #[i64 2147483649, .bool true]) := T0
    go_enter Try.func5, Try.ntmps5
    go_wp2_with (first | (go_at_call 6; refine (alive8_says _).mono ?_; rintro e w' ⟨rfl, rfl⟩) | (go_at_call 9; (with_reducible refine (K _).mono ?_); rintro e w' ⟨rfl, rfl⟩) | (go_at_call 11; (with_reducible refine (T4 _).mono ?_); rintro e w' ⟨rfl, rfl⟩) | (go_at_call 11; (with_reducible refine (T5 _).mono ?_); rintro e w' ⟨rfl, rfl⟩) | (go_at_call 11; (with_reducible refine (T0 _).mono ?_); rintro e w' ⟨rfl, rfl⟩))
    go_ret
    exact ⟨ret_bool (by decide +kernel), Grown.refl _⟩
  · replace K : Says 9 #[i64 (a0 % 8), i64 (a1 % 8)] (.tuple #[i64 0, .bool true]) := K
    replace T4 : Says 11 #[i64 4, i64 (a0 % 8), i64 (a1 % 8)] (.tuple #[i64 0, .bool false]) := T4
    replace T5 : Says 11 #[i64 5, i64 (a0 % 8), i64 (a1 % 8)] (.tuple #[i64 2147483648, .bool true]) := T5
    replace T0 : Says 11 #[i64 0, i64 (a0 % 8), i64 (a1 % 8)] (.tuple #[i64 2147483648, .bool true]) := T0
    go_enter Try.func5, Try.ntmps5
    go_wp2_with (first | (go_at_call 6; refine (alive8_says _).mono ?_; rintro e w' ⟨rfl, rfl⟩) | (go_at_call 9; (with_reducible refine (K _).mono ?_); rintro e w' ⟨rfl, rfl⟩) | (go_at_call 11; (with_reducible refine (T4 _).mono ?_); rintro e w' ⟨rfl, rfl⟩) | (go_at_call 11; (with_reducible refine (T5 _).mono ?_); rintro e w' ⟨rfl, rfl⟩) | (go_at_call 11; (with_reducible refine (T0 _).mono ?_); rintro e w' ⟨rfl, rfl⟩))
    go_ret
    exact ⟨ret_bool (by decide +kernel), Grown.refl _⟩

/-! ### THE ROW's STEP: WRITTEN OUT: LEAVE IT -/
set_option maxRecDepth 100000 in
theorem lifted (os : Os) (started : os.Started) (H : Type) (enc : TypeId × Value → H) :
    ReturnsInHanded {} Try.checked os 5 .any (Rows.irqLeastSpec.pre6 enc Try.prog Try.f5 Rows.irqLeastRow.domain false) (Rows.irqLeastSpec.post enc Try.prog Try.f5 false true false false) := by
  refine returnsInHanded_of_change (C := Try.checked) own started (by kernel_rfl) Try.func5
    (ChangeSpec.witness6 (enc := enc) (C := Try.checked) false ⟨#[], #[.int .i64 0, .int .i64 0], []⟩ 8 (by kernel_rfl) (by kernel_rfl) (by kernel_rfl) (by kernel_rfl)) ?_
  intro W base args ds gs before hval0 hW hcnd _
  have hval : ∀ (j : Nat) t v, Try.f5.params[j]? = some t → args[j]? = some v → Value.okWide Try.prog W .any base t v := hval0
  have hW' := hW
  obtain ⟨p, q, hA0, hV, rfl, hfz, hnd⟩ := hW
  have hA : DataW.TrodAll enc Try.prog W 0 (fun _ => true) true Try.f5.params.toList args.toList ds p := hA0
  rw [Try.params5] at hA hval
  obtain ⟨v0, vs0, d0, ds0, p0, q0, hargs, rfl, rfl, h0, r0⟩ := trodAll_cons hA
  obtain ⟨v1, vs1, d1, ds1, p1, q1, rfl, rfl, rfl, h1, r1⟩ := trodAll_cons r0
  obtain ⟨rfl, rfl, rfl⟩ := trodAll_nil r1
  obtain rfl : args = #[v0, v1] := by cases args; simp_all
  obtain ⟨rfl, rfl⟩ := trodVars_none hV
  obtain ⟨a0, rfl, rfl, rfl, w0⟩ := open_int Try.underlying3 (hval 0 3 v0 rfl rfl) h0
  obtain ⟨a1, rfl, rfl, rfl, w1⟩ := open_int Try.underlying3 (hval 1 3 v1 rfl rfl) h1
  clear hA0 hval0
  simp only [List.append_nil] at hW'
  refine (walk a0 a1 w0 w1 W).mono fun e W' ⟨he, hg⟩ => ?_
  subst he
  exact ⟨_, rfl, post_of_same (pa := []) (pv := []) hW' (fun _ _ _ => (trodAll_cons_mk (shut_bool Try.underlying4 _) trodAll_mk0)) (fun sp _ => (trodAll_cons_mk (shut_int Try.underlying3 w0) (trodAll_cons_mk (shut_int Try.underlying3 w1) trodAll_mk0))) (fun _ _ => rfl) rfl
    (hg.frame _) hg.2.1 (ok_one (by kernel_rfl) rfl (okWide_bool_mk Try.underlying4 _))⟩

theorem over : Rows.irqLeastRow.holds Try.pinned (OpenSpec.ofChange Rows.irqLeastSpec) :=
  OpenClaim.holds_of_wide 5 Try.f5 rfl rfl rfl rfl rfl rfl rfl ⟨rfl, rfl, rfl, rfl, rfl⟩ rfl rfl rfl rfl rfl (by kernel_rfl) Try.func5 (by kernel_rfl)
    (of_decide_eq_true (by kernel_rfl)) (by unfold Func.isWrapper; first | (rw [if_pos (by decide +kernel)]; kernel_rfl) | (rw [if_neg (by decide +kernel)]; exact ⟨rfl, rfl⟩))
    (fun os started H enc _ => lifted os started H enc)

/-- ████ THE STATEMENT ████ -/
theorem proved : Rows.IrqLeastSaid :=
  over
end Go.Proofs.Ytknamljifggkgaa.irqLeast
