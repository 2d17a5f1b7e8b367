/-
  An operation with a register and its like with a number do the same (law CpuPairs returns true).
  No condition: whatever the arguments are.
-/
import Derived.Test.YtnccfdkkedomcaaRows
import Derived.WalkKit
import Derived.ProofKit
import Derived.OpenShut
import Derived.Test.YtnccfdkkedomcaaCpuAlive
import Derived.LoopTactic
namespace Go.Proofs.Ytnccfdkkedomcaa.cpuPairs
open Go.ChangeShapes Go.WideShapes Go.ChangeAt Go.RowKit
set_option linter.unusedVariables false      -- a walk need not use every 'w<i>' (that an integer argument fits its kind)

theorem own : ownKnob Try.prog.godebug = none := by kernel_rfl

def rI : Nat → Int := fun j => [1, 3, 4, 5, 6, 7, 8, 10].getD j 0
def iI : Nat → Int := fun j => [16, 17, 18, 19, 20, 21, 22, 24].getD j 0
theorem pairs_all (j : Nat) (h : j < 8) (x y : Int) : aluV (iI j) x y = aluV (rI j) x y ∧ aluK (iI j) = true ∧ aluK (rI j) = true ∧ (-9223372036854775808 ≤ rI j ∧ rI j ≤ 9223372036854775807) ∧ (-9223372036854775808 ≤ iI j ∧ iI j ≤ 9223372036854775807) := by
  have hj : j = 0 ∨ j = 1 ∨ j = 2 ∨ j = 3 ∨ j = 4 ∨ j = 5 ∨ j = 6 ∨ j = 7 := by omega
  rcases hj with rfl | rfl | rfl | rfl | rfl | rfl | rfl | rfl <;> exact ⟨rfl, by decide, by decide, by decide, by decide⟩
/-- The two rows, as the loop keeps them. -/
structure Rw (w0 w1 wr : World) : Prop where
  r : ∀ j, j < 8 → wr.cell? ⟨w1.heap.size, j, none⟩ = some (i64 (rI j))
  i : ∀ j, j < 8 → wr.cell? ⟨w1.heap.size + 1, j, none⟩ = some (i64 (iI j))
  lt : w1.heap.size + 2 ≤ wr.heap.size
  b : Below w0.heap.size w0 wr
theorem Rw.call {w0 w1 wr w' : World} (R : Rw w0 w1 wr) (h : Below wr.heap.size wr w') : Rw w0 w1 w' := by
  have l := R.lt
  have l2 := h.size
  exact ⟨fun j hj => (World.cell?_of_block (h.block w1.heap.size (by omega))).trans (R.r j hj), fun j hj => (World.cell?_of_block (h.block (w1.heap.size + 1) (by omega))).trans (R.i j hj), by omega, R.b.trans (h.mono R.b.size)⟩
theorem Rw.start {w0 w1 : World} (h : Below w0.heap.size w0 w1) (t t' : TypeId) : Rw w0 w1 ((w1.alloc (.cells #[i64 1, i64 3, i64 4, i64 5, i64 6, i64 7, i64 8, i64 10] t)).alloc (.cells #[i64 16, i64 17, i64 18, i64 19, i64 20, i64 21, i64 22, i64 24] t')) := by
  have hs : (w1.alloc (.cells #[i64 1, i64 3, i64 4, i64 5, i64 6, i64 7, i64 8, i64 10] t)).heap.size = w1.heap.size + 1 := by simp
  have hn := heap_alloc_new (w1.alloc (.cells #[i64 1, i64 3, i64 4, i64 5, i64 6, i64 7, i64 8, i64 10] t)) (.cells #[i64 16, i64 17, i64 18, i64 19, i64 20, i64 21, i64 22, i64 24] t')
  rw [hs] at hn
  have ho : ((w1.alloc (.cells #[i64 1, i64 3, i64 4, i64 5, i64 6, i64 7, i64 8, i64 10] t)).alloc (.cells #[i64 16, i64 17, i64 18, i64 19, i64 20, i64 21, i64 22, i64 24] t')).heap[w1.heap.size]? = some (.cells #[i64 1, i64 3, i64 4, i64 5, i64 6, i64 7, i64 8, i64 10] t) := by
    rw [Below.heap_alloc _ _ _ (by rw [hs]; omega)]
    exact heap_alloc_new _ _
  have eight : ∀ j, j < 8 → j = 0 ∨ j = 1 ∨ j = 2 ∨ j = 3 ∨ j = 4 ∨ j = 5 ∨ j = 6 ∨ j = 7 := by omega
  refine ⟨fun j hj => ?_, fun j hj => ?_, by simp, (h.alloc h.size _).alloc (by rw [hs]; have := h.size; omega) _⟩
  · rw [cell_of_row _ _ j _ _ _ ho]
    rcases eight j hj with rfl | rfl | rfl | rfl | rfl | rfl | rfl | rfl <;> rfl
  · rw [cell_of_row _ _ j _ _ _ hn]
    rcases eight j hj with rfl | rfl | rfl | rfl | rfl | rfl | rfl | rfl <;> rfl
theorem div_back (x y : Int) (h : wd y ≠ 0) : aluV 1 (aluV 9 (aluV 12 x y) y) (aluV 13 x y) = wd x := by
  show wd (wd (dv x y * y) + rm x y) = wd x
  unfold dv rm
  rw [if_neg h, if_neg h]
  have e1 : wd (wd x / wd y * y) = wd (wd x / wd y * wd y) := by rw [← wd_mul (wd x / wd y) y, ← wd_mul (wd x / wd y) (wd y), wd_wd]
  have e2 : wd x / wd y * wd y + wd x % wd y = wd x := by rw [Int.mul_comm]; exact Int.mul_ediv_add_emod _ _
  have e3 : ∀ A r : Int, wd (wd A + r) = wd (A + r) := by intro A r; unfold wd; omega
  rw [e1, e3, e2, wd_wd]
set_option maxRecDepth 100000 in
set_option maxHeartbeats 4000000 in
theorem walk (a0 : Int) (a1 : Int) (w0 : (Lit.int .i64 a0).wf = true) (w1 : (Lit.int .i64 a1).wf = true) (w : World) :
    Calls Try.prog 7 #[.int .i64 a0, .int .i64 a1] w fun e w' => e = .returned (.bool true) ∧ Below w.heap.size w w' := by
  have hx := w_says a0
  have hy := w_says a1
  go_enter Try.func7, Try.ntmps7
  go_wp2_with (go_at_call 9; refine (alive9_says _).mono ?_; rintro e w1 ⟨rfl, hb1⟩)
  go_loopw [8] (fun i wr => ∃ c : Nat, c ≤ 8 ∧ i = .int .i64 c ∧ Rw w w1 wr) (fun i _ => (8 - intOf i).toNat)
  case atStart => exact ⟨0, by omega, rfl, Rw.start hb1 _ _⟩
  case round =>
    obtain ⟨c, hc, rfl, R⟩ := hrel
    by_cases h8 : c < 8
    · obtain ⟨p1, p2, p3, p4, p5⟩ := pairs_all c h8 a0 a1
      have c1 := R.r c h8
      have al1 := alu_says (rI c) a0 a1 p4
      have al2 := alu_says (iI c) a0 a1 p5
      rw [p3] at al1
      rw [p2, p1] at al2
      clear p1 p2 p3 p4 p5
      generalize aluV (rI c) a0 a1 = v at *
      have HR := Lib.hid R
      go_wp2_with (go_at_call 10; first
        | ((with_reducible refine (al2 _).mono ?_); rintro e' w3 ⟨rfl, hb3⟩)
        | ((with_reducible refine (al1 _).mono ?_); rintro e' w2 ⟨rfl, hb2⟩; have R2 := HR.out.call hb2; have c2 := R2.i c h8))
      go_roundw
      case rel => exact ⟨c + 1, h8, by go_num, R2.call hb3⟩
      case measure => simp [intOf]; omega
    · obtain rfl : c = 8 := by omega
      have al12 := alu_says 12 a0 a1 (by omega)
      have al13 := alu_says 13 a0 a1 (by omega)
      have al9 := alu_says 9 (aluV 12 a0 a1) a1 (by omega)
      have al1 := alu_says 1 (aluV 9 (aluV 12 a0 a1) a1) (aluV 13 a0 a1) (by omega)
      rw [show aluK 12 = true from by decide +kernel] at al12
      rw [show aluK 13 = true from by decide +kernel] at al13
      rw [show aluK 9 = true from by decide +kernel] at al9
      rw [show aluK 1 = true from by decide +kernel] at al1
      have hb := R.b
      have hdv := div_back a0 a1
      generalize aluV 1 (aluV 9 (aluV 12 a0 a1) a1) (aluV 13 a0 a1) = v1 at *
      generalize aluV 9 (aluV 12 a0 a1) a1 = v9 at *
      generalize aluV 12 a0 a1 = v12 at *
      generalize aluV 13 a0 a1 = v13 at *
      generalize wd a0 = p at *
      generalize wd a1 = q at *
      clear R
      by_cases hq : q = 0
      · subst hq
        go_wp2_with (first
          | (go_at_call 23; first | ((with_reducible refine (hx _).mono ?_); rintro e' w' ⟨rfl, rfl⟩) | ((with_reducible refine (hy _).mono ?_); rintro e' w' ⟨rfl, rfl⟩))
          | (go_at_call 10; first | ((with_reducible refine (al1 _).mono ?_); rintro e' w5 ⟨rfl, hb5⟩) | ((with_reducible refine (al9 _).mono ?_); rintro e' w4 ⟨rfl, hb4⟩) | ((with_reducible refine (al13 _).mono ?_); rintro e' w3 ⟨rfl, hb3⟩) | ((with_reducible refine (al12 _).mono ?_); rintro e' w2 ⟨rfl, hb2⟩)))
        go_ret
        exact ⟨ret_bool (by simp), hb.trans ((hb2.trans ((hb3.trans ((hb4.trans (hb5.mono hb4.size)).mono hb3.size)).mono hb2.size)).mono hb.size)⟩
      · have hqb : (q == 0) = false := beq_false_of_ne hq
        obtain rfl := hdv hq
        go_wp2_with (first
          | (go_at_call 23; first | ((with_reducible refine (hx _).mono ?_); rintro e' w' ⟨rfl, rfl⟩) | ((with_reducible refine (hy _).mono ?_); rintro e' w' ⟨rfl, rfl⟩))
          | (go_at_call 10; first | ((with_reducible refine (al1 _).mono ?_); rintro e' w5 ⟨rfl, hb5⟩) | ((with_reducible refine (al9 _).mono ?_); rintro e' w4 ⟨rfl, hb4⟩) | ((with_reducible refine (al13 _).mono ?_); rintro e' w3 ⟨rfl, hb3⟩) | ((with_reducible refine (al12 _).mono ?_); rintro e' w2 ⟨rfl, hb2⟩)))
        go_ret
        exact ⟨ret_bool (by simp), hb.trans ((hb2.trans ((hb3.trans ((hb4.trans (hb5.mono hb4.size)).mono hb3.size)).mono hb2.size)).mono hb.size)⟩

/-! ### THE ROW's STEP: WRITTEN OUT: LEAVE IT -/
set_option maxRecDepth 100000 in
theorem lifted (os : Os) (started : os.Started) (H : Type) (enc : TypeId × Value → H) :
    ReturnsInHanded {} Try.checked os 7 .any (Rows.cpuPairsSpec.pre6 enc Try.prog Try.f7 Rows.cpuPairsRow.domain false) (Rows.cpuPairsSpec.post enc Try.prog Try.f7 false true false false) := by
  refine returnsInHanded_of_change (C := Try.checked) own started (by kernel_rfl) Try.func7
    (ChangeSpec.witness6 (enc := enc) (C := Try.checked) false ⟨#[], #[.int .i64 0, .int .i64 0], []⟩ 8 (by kernel_rfl) (by kernel_rfl) (by kernel_rfl) (by kernel_rfl)) ?_
  intro W base args ds gs before hval0 hW hcnd _
  have hval : ∀ (j : Nat) t v, Try.f7.params[j]? = some t → args[j]? = some v → Value.okWide Try.prog W .any base t v := hval0
  have hW' := hW
  obtain ⟨p, q, hA0, hV, rfl, hfz, hnd⟩ := hW
  have hA : DataW.TrodAll enc Try.prog W 0 (fun _ => true) true Try.f7.params.toList args.toList ds p := hA0
  rw [Try.params7] at hA hval
  obtain ⟨v0, vs0, d0, ds0, p0, q0, hargs, rfl, rfl, h0, r0⟩ := trodAll_cons hA
  obtain ⟨v1, vs1, d1, ds1, p1, q1, rfl, rfl, rfl, h1, r1⟩ := trodAll_cons r0
  obtain ⟨rfl, rfl, rfl⟩ := trodAll_nil r1
  obtain rfl : args = #[v0, v1] := by cases args; simp_all
  obtain ⟨rfl, rfl⟩ := trodVars_none hV
  obtain ⟨a0, rfl, rfl, rfl, w0⟩ := open_int Try.underlying3 (hval 0 3 v0 rfl rfl) h0
  obtain ⟨a1, rfl, rfl, rfl, w1⟩ := open_int Try.underlying3 (hval 1 3 v1 rfl rfl) h1
  clear hA0 hval0
  simp only [List.append_nil] at hW'
  refine (walk a0 a1 w0 w1 W).mono fun e W' ⟨he, hg⟩ => ?_
  subst he
  exact ⟨_, rfl, _, _, _, [], [], [], hW', (trodAll_cons_mk (shut_bool Try.underlying4 _) trodAll_mk0), (trodAll_cons_mk (shut_int Try.underlying3 w0) (trodAll_cons_mk (shut_int Try.underlying3 w1) trodAll_mk0)), rfl, hg.frame _, fun h => by cases h⟩

theorem over : Rows.cpuPairsRow.holds Try.pinned (OpenSpec.ofChange Rows.cpuPairsSpec) :=
  OpenClaim.holds_of_wide 7 Try.f7 rfl rfl rfl rfl rfl rfl rfl ⟨rfl, rfl, rfl, rfl, rfl⟩ rfl rfl rfl rfl rfl (by kernel_rfl) Try.func7 (by kernel_rfl)
    (of_decide_eq_true (by kernel_rfl)) (by unfold Func.isWrapper; first | (rw [if_pos (by decide +kernel)]; kernel_rfl) | (rw [if_neg (by decide +kernel)]; exact ⟨rfl, rfl⟩))
    (fun os started H enc _ => lifted os started H enc)

/-- ████ THE STATEMENT ████ -/
theorem proved : Rows.CpuPairsSaid :=
  over
end Go.Proofs.Ytnccfdkkedomcaa.cpuPairs
