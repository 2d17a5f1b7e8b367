/-
  Of each two branches that are opposites just one is taken, and these are what the comparisons tell (law CpuBranches returns true).
  No condition: whatever the arguments are.
-/
import Derived.Test.YtnccfdkkedomcaaRows
import Derived.WalkKit
import Derived.ProofKit
import Derived.OpenShut
import Derived.Test.YtnccfdkkedomcaaCpuAlive
import Derived.LoopTactic
namespace Go.Proofs.Ytnccfdkkedomcaa.cpuBranches
open Go.ChangeShapes Go.WideShapes Go.ChangeAt Go.RowKit
set_option linter.unusedVariables false      -- a walk need not use every 'w<i>' (that an integer argument fits its kind)

theorem own : ownKnob Try.prog.godebug = none := by kernel_rfl

theorem one_of (x y : Int) : (aluV 10 x y == 1) = decide (sg x < sg y) := by
  show ((if sg x < sg y then (1 : Int) else 0) == 1) = _
  by_cases h : sg x < sg y <;> simp [h]
theorem one_of2 (x y : Int) : (aluV 11 x y == 1) = decide (wd x < wd y) := by
  show ((if wd x < wd y then (1 : Int) else 0) == 1) = _
  by_cases h : wd x < wd y <;> simp [h]
theorem not_same (b : Bool) : (b == !b) = false := by cases b <;> rfl
set_option maxRecDepth 100000 in
set_option maxHeartbeats 4000000 in
theorem walk (a0 : Int) (a1 : Int) (w0 : (Lit.int .i64 a0).wf = true) (w1 : (Lit.int .i64 a1).wf = true) (w : World) :
    Calls Try.prog 6 #[.int .i64 a0, .int .i64 a1] w fun e w' => e = .returned (.bool true) ∧ Below w.heap.size w w' := by
  have t48 := tak_48 a0 a1
  have t49 := tak_49 a0 a1
  have t50 := tak_50 a0 a1
  have t51 := tak_51 a0 a1
  have t52 := tak_52 a0 a1
  have t53 := tak_53 a0 a1
  have al10 := alu_says 10 a0 a1 (by omega)
  have al11 := alu_says 11 a0 a1 (by omega)
  rw [show aluK 10 = true from by decide +kernel] at al10
  rw [show aluK 11 = true from by decide +kernel] at al11
  have e10 := one_of a0 a1
  have e11 := one_of2 a0 a1
  have hx := w_says a0
  have hy := w_says a1
  have hd : (wd a0 == wd a1) = decide (wd a0 = wd a1) := by rw [Bool.eq_iff_iff]; simp
  generalize decide (wd a0 = wd a1) = e at *
  generalize decide (sg a0 < sg a1) = l at *
  generalize decide (wd a0 < wd a1) = b at *
  generalize wd a0 = p at *
  generalize wd a1 = q at *
  generalize aluV 10 a0 a1 = v at *
  generalize aluV 11 a0 a1 = u at *
  have ne := not_same e
  have nl := not_same l
  have nb := not_same b
  go_enter Try.func6, Try.ntmps6
  go_wp2_with (go_at_call 9; refine (alive9_says _).mono ?_; rintro e w1 ⟨rfl, hb1⟩)
  go_loopw [6] (fun i wr => ∃ c : Int, i = .int .i64 c ∧ (c = 48 ∨ c = 50 ∨ c = 52 ∨ c = 54) ∧ Below w.heap.size w wr) (fun i _ => (54 - intOf i).toNat)
  case atStart => exact ⟨48, rfl, .inl rfl, hb1⟩
  case round =>
    obtain ⟨c, rfl, hc, hB⟩ := hrel
    rcases hc with rfl | rfl | rfl | rfl
    · go_wp2_with (go_at_call 12; first | ((with_reducible refine (t49 _).mono ?_); rintro e' w3 ⟨rfl, hb3⟩) | ((with_reducible refine (t48 _).mono ?_); rintro e' w2 ⟨rfl, hb2⟩))
      go_roundw
      case rel => exact ⟨50, rfl, .inr (.inl rfl), hB.trans ((hb2.trans (hb3.mono hb2.size)).mono hB.size)⟩
      case measure => simp [intOf]
    · go_wp2_with (go_at_call 12; first | ((with_reducible refine (t51 _).mono ?_); rintro e' w3 ⟨rfl, hb3⟩) | ((with_reducible refine (t50 _).mono ?_); rintro e' w2 ⟨rfl, hb2⟩))
      go_roundw
      case rel => exact ⟨52, rfl, .inr (.inr (.inl rfl)), hB.trans ((hb2.trans (hb3.mono hb2.size)).mono hB.size)⟩
      case measure => simp [intOf]
    · go_wp2_with (go_at_call 12; first | ((with_reducible refine (t53 _).mono ?_); rintro e' w3 ⟨rfl, hb3⟩) | ((with_reducible refine (t52 _).mono ?_); rintro e' w2 ⟨rfl, hb2⟩))
      go_roundw
      case rel => exact ⟨54, rfl, .inr (.inr (.inr rfl)), hB.trans ((hb2.trans (hb3.mono hb2.size)).mono hB.size)⟩
      case measure => simp [intOf]
    · go_wp2_with (first
        | (go_at_call 23; first | ((with_reducible refine (hx _).mono ?_); rintro e' w' ⟨rfl, rfl⟩) | ((with_reducible refine (hy _).mono ?_); rintro e' w' ⟨rfl, rfl⟩))
        | (go_at_call 10; first | ((with_reducible refine (al11 _).mono ?_); rintro e' w5 ⟨rfl, hb5⟩) | ((with_reducible refine (al10 _).mono ?_); rintro e' w4 ⟨rfl, hb4⟩))
        | (go_at_call 12; first | ((with_reducible refine (t48 _).mono ?_); rintro e' w6 ⟨rfl, hb6⟩) | ((with_reducible refine (t52 _).mono ?_); rintro e' w3 ⟨rfl, hb3⟩) | ((with_reducible refine (t50 _).mono ?_); rintro e' w2 ⟨rfl, hb2⟩)))
      go_ret
      exact ⟨ret_bool (by simp), hB.trans ((hb2.trans ((hb3.trans ((hb4.trans ((hb5.trans (hb6.mono hb5.size)).mono hb4.size)).mono hb3.size)).mono hb2.size)).mono hB.size)⟩

/-! ### THE ROW's STEP: WRITTEN OUT: LEAVE IT -/
set_option maxRecDepth 100000 in
theorem lifted (os : Os) (started : os.Started) (H : Type) (enc : TypeId × Value → H) :
    ReturnsInHanded {} Try.checked os 6 .any (Rows.cpuBranchesSpec.pre6 enc Try.prog Try.f6 Rows.cpuBranchesRow.domain false) (Rows.cpuBranchesSpec.post enc Try.prog Try.f6 false true false false) := by
  refine returnsInHanded_of_change (C := Try.checked) own started (by kernel_rfl) Try.func6
    (ChangeSpec.witness6 (enc := enc) (C := Try.checked) false ⟨#[], #[.int .i64 0, .int .i64 0], []⟩ 8 (by kernel_rfl) (by kernel_rfl) (by kernel_rfl) (by kernel_rfl)) ?_
  intro W base args ds gs before hval0 hW hcnd _
  have hval : ∀ (j : Nat) t v, Try.f6.params[j]? = some t → args[j]? = some v → Value.okWide Try.prog W .any base t v := hval0
  have hW' := hW
  obtain ⟨p, q, hA0, hV, rfl, hfz, hnd⟩ := hW
  have hA : DataW.TrodAll enc Try.prog W 0 (fun _ => true) true Try.f6.params.toList args.toList ds p := hA0
  rw [Try.params6] at hA hval
  obtain ⟨v0, vs0, d0, ds0, p0, q0, hargs, rfl, rfl, h0, r0⟩ := trodAll_cons hA
  obtain ⟨v1, vs1, d1, ds1, p1, q1, rfl, rfl, rfl, h1, r1⟩ := trodAll_cons r0
  obtain ⟨rfl, rfl, rfl⟩ := trodAll_nil r1
  obtain rfl : args = #[v0, v1] := by cases args; simp_all
  obtain ⟨rfl, rfl⟩ := trodVars_none hV
  obtain ⟨a0, rfl, rfl, rfl, w0⟩ := open_int Try.underlying3 (hval 0 3 v0 rfl rfl) h0
  obtain ⟨a1, rfl, rfl, rfl, w1⟩ := open_int Try.underlying3 (hval 1 3 v1 rfl rfl) h1
  clear hA0 hval0
  simp only [List.append_nil] at hW'
  refine (walk a0 a1 w0 w1 W).mono fun e W' ⟨he, hg⟩ => ?_
  subst he
  exact ⟨_, rfl, _, _, _, [], [], [], hW', (trodAll_cons_mk (shut_bool Try.underlying4 _) trodAll_mk0), (trodAll_cons_mk (shut_int Try.underlying3 w0) (trodAll_cons_mk (shut_int Try.underlying3 w1) trodAll_mk0)), rfl, hg.frame _, fun h => by cases h⟩

theorem over : Rows.cpuBranchesRow.holds Try.pinned (OpenSpec.ofChange Rows.cpuBranchesSpec) :=
  OpenClaim.holds_of_wide 6 Try.f6 rfl rfl rfl rfl rfl rfl rfl ⟨rfl, rfl, rfl, rfl, rfl⟩ rfl rfl rfl rfl rfl (by kernel_rfl) Try.func6 (by kernel_rfl)
    (of_decide_eq_true (by kernel_rfl)) (by unfold Func.isWrapper; first | (rw [if_pos (by decide +kernel)]; kernel_rfl) | (rw [if_neg (by decide +kernel)]; exact ⟨rfl, rfl⟩))
    (fun os started H enc _ => lifted os started H enc)

/-- ████ THE STATEMENT ████ -/
theorem proved : Rows.CpuBranchesSaid :=
  over
end Go.Proofs.Ytnccfdkkedomcaa.cpuBranches
