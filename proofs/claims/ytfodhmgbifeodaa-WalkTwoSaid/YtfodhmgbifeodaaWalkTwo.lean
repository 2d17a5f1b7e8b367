/-
  Two pages may be one frame, and a change of the table is seen at once (law WalkTwo returns true).
  No condition: whatever the arguments are.
-/
import Derived.Test.YtfodhmgbifeodaaRows
import Derived.WalkKit
import Derived.ProofKit
import Derived.OpenShut
import Derived.Test.YtfodhmgbifeodaaWalkBoth
namespace Go.Proofs.Ytfodhmgbifeodaa.walkTwo
open Go.ChangeShapes Go.WideShapes Go.ChangeAt Go.RowKit
set_option linter.unusedVariables false      -- a walk need not use every 'w<i>' (that an integer argument fits its kind)

theorem own : ownKnob Try.prog.godebug = none := by kernel_rfl

theorem three_pokes (w : World) (x0 v0 x1 v1 x2 v2 : Int) : Pokes (w.alloc (.cells #[.int .i64 x0, .int .i64 v0, .int .i64 x1, .int .i64 v1, .int .i64 x2, .int .i64 v2] 35)) (some ⟨w.heap.size, 0, none⟩) 3 (fun i => if i = 0 then (x0, v0) else if i = 1 then (x1, v1) else (x2, v2)) := by
  have h : (w.alloc (.cells #[.int .i64 x0, .int .i64 v0, .int .i64 x1, .int .i64 v1, .int .i64 x2, .int .i64 v2] 35)).heap[w.heap.size]? = some (.cells #[.int .i64 x0, .int .i64 v0, .int .i64 x1, .int .i64 v1, .int .i64 x2, .int .i64 v2] 35 (0, 0)) := heap_alloc_new _ _
  refine ⟨fun _ => ⟨w.heap.size, 0, rfl, (Array.getElem?_eq_some_iff.1 h).1, fun i hi => ?_⟩⟩
  rw [cell_of_row _ _ _ _ _ _ h, cell_of_row _ _ _ _ _ _ h]
  have : i = 0 ∨ i = 1 ∨ i = 2 := by omega
  rcases this with rfl | rfl | rfl <;> exact ⟨rfl, rfl⟩
theorem three_bytes (a b frame : Int) : bothL 3 (fun i => if i = 0 then (1024, 8193) else if i = 1 then (2048 + a, frame * 4096 + 7) else (2048 + b, frame * 4096 + 3)) 3 = two a b frame := rfl
theorem join_low (x : Int) (x0 : 0 ≤ x) (x1 : x ≤ 1048575) (k : Int) (k0 : 0 ≤ k) (k1 : k ≤ 4095) : bits .or .i64 (x * 4096) k = x * 4096 + k := join12 x k x0 x1 k0 k1
set_option maxRecDepth 100000 in
set_option maxHeartbeats 4000000 in
theorem walk (a0 : Int) (a1 : Int) (a2 : Int) (a3 : Int) (w0 : (Lit.int .i64 a0).wf = true) (w1 : (Lit.int .i64 a1).wf = true) (w2 : (Lit.int .i64 a2).wf = true) (w3 : (Lit.int .i64 a3).wf = true) (w : World) :
    Calls Try.prog 7 #[.int .i64 a0, .int .i64 a1, .int .i64 a2, .int .i64 a3] w fun e w' => e = .returned (.bool true) ∧ Below w.heap.size w w' := by
  by_cases hs : 0 ≤ a0 ∧ a0 ≤ 1023 ∧ 0 ≤ a1 ∧ a1 ≤ 1023 ∧ ¬ a0 = a1 ∧ 0 ≤ a2 ∧ a2 ≤ 1048575 ∧ 0 ≤ a3 ∧ a3 ≤ 4095
  · obtain ⟨p0, p1, q0, q1, hne, f0, f1, o0, o1⟩ := hs
    have bne : (a0 == a1) = false := by simpa using hne
    obtain ⟨W1, W2, W3, W4⟩ := walk_two a0 a1 a2 a3 p0 p1 q0 q1 hne f0 f1 o0 o1
    have j1 := join_low a0 p0 (by omega) a3 o0 o1
    have j2 := join_low a1 q0 (by omega) a3 o0 o1
    have j3 := join_low a2 f0 f1 7 (by decide) (by decide)
    have j4 := join_low a2 f0 f1 3 (by decide) (by decide)
    have j5 := join_low a2 f0 f1 a3 o0 o1
    have hb := three_bytes a0 a1 a2
    obtain ⟨bs, hbs⟩ : ∃ bs, bs = two a0 a1 a2 := ⟨_, rfl⟩
    rw [← hbs] at W1 W2 W3 W4 hb
    obtain ⟨b2, hb2⟩ : ∃ b2, b2 = stv bs (4 * (2048 + a0)) 4 0 := ⟨_, rfl⟩
    rw [← hb2] at W4
    have HB := Lib.hid hb; have H2 := Lib.hid hb2; have V1 := Lib.hid W1; have V2 := Lib.hid W2; have V3 := Lib.hid W3; have V4 := Lib.hid W4
    clear hb hb2 W1 W2 W3 W4 hbs hne
    go_enter Try.func7, Try.ntmps7
    go_upto_region 4 with (go_at_call 10; refine (alive5_says _).mono ?_; rintro e w1 ⟨rfl, hL⟩)
    go_upto_region 5 with (go_at_call 11; refine (both_says 3 _ _ _ _ (three_pokes w1 1024 8193 (2048 + a0) (a2 * 4096 + 7) (2048 + a1) (a2 * 4096 + 3)) (by decide)).mono ?_; rintro e w2 ⟨hm, gm, hr, gr, hT⟩; obtain rfl := hT.e; have T := hT.t; rw [HB.out] at T)
    have hB1 : Below w.heap.size w w2 := below_then (below_then hL ((Below.refl _ _).alloc (Nat.le_refl _) _)) T.b
    go_upto_region 6 with (go_at_call 15; refine (walk_says T.m _ _ _ _).mono ?_; rintro e w3 ⟨rfl, hb3⟩; rw [V1.out])
    have T3 := T.m.grow hb3
    go_upto_region 7 with (go_at_call 15; refine (walk_says T3 _ _ _ _).mono ?_; rintro e w4 ⟨rfl, hb4⟩; rw [V2.out])
    have T4 := T3.grow hb4
    go_upto_region 8 with (go_at_call 15; refine (walk_says T4 _ _ _ _).mono ?_; rintro e w5 ⟨rfl, hb5⟩; rw [V3.out])
    have T5 := T4.grow hb5
    go_upto_region 9 with (go_at_call 16; refine (store_says T5 _ _ _ (by omega)).mono ?_; rintro e w6 ⟨rfl, hm6, ho6⟩; rw [← H2.out] at hm6)
    have hB6 : Below w.heap.size w w6 := (below_then (below_then (below_then hB1 hb3) hb4) hb5).trans (ho6.below (by have h1 := T.bd.2.1; have h2 := hL.size; have h3 : w1.heap.size ≤ (w1.alloc (.cells #[.int .i64 1024, .int .i64 8193, .int .i64 (2048 + a0), .int .i64 (a2 * 4096 + 7), .int .i64 (2048 + a1), .int .i64 (a2 * 4096 + 3)] 35)).heap.size := ((Below.refl _ _).alloc (Nat.le_refl _) _).size; omega))
    go_wp2_with (go_at_call 15; refine (walk_says hm6 _ _ _ _).mono ?_; rintro e w7 ⟨rfl, hb7⟩; rw [V4.out])
    all_goals
      go_ret
      exact ⟨ret_bool (by simp), below_then hB6 hb7⟩
  · have HS := Lib.hid hs; clear hs
    go_enter Try.func7, Try.ntmps7
    go_wp2_with (first
      | (go_at_call 10; refine (alive5_says _).mono ?_; rintro e w1 ⟨rfl, hL⟩)
      | (go_at_call 11; exact (HS.out (by omega)).elim))
    all_goals
      go_ret
      exact ⟨rfl, hL⟩

/-! ### THE ROW's STEP: WRITTEN OUT: LEAVE IT -/
set_option maxRecDepth 100000 in
theorem lifted (os : Os) (started : os.Started) (H : Type) (enc : TypeId × Value → H) :
    ReturnsInHanded {} Try.checked os 7 .any (Rows.walkTwoSpec.pre6 enc Try.prog Try.f7 Rows.walkTwoRow.domain false) (Rows.walkTwoSpec.post enc Try.prog Try.f7 false true false false) := by
  refine returnsInHanded_of_change (C := Try.checked) own started (by kernel_rfl) Try.func7
    (ChangeSpec.witness6 (enc := enc) (C := Try.checked) false ⟨#[], #[.int .i64 0, .int .i64 0, .int .i64 0, .int .i64 0], []⟩ 8 (by kernel_rfl) (by kernel_rfl) (by kernel_rfl) (by kernel_rfl)) ?_
  intro W base args ds gs before hval0 hW hcnd _
  have hval : ∀ (j : Nat) t v, Try.f7.params[j]? = some t → args[j]? = some v → Value.okWide Try.prog W .any base t v := hval0
  have hW' := hW
  obtain ⟨p, q, hA0, hV, rfl, hfz, hnd⟩ := hW
  have hA : DataW.TrodAll enc Try.prog W 0 (fun _ => true) true Try.f7.params.toList args.toList ds p := hA0
  rw [Try.params7] at hA hval
  obtain ⟨v0, vs0, d0, ds0, p0, q0, hargs, rfl, rfl, h0, r0⟩ := trodAll_cons hA
  obtain ⟨v1, vs1, d1, ds1, p1, q1, rfl, rfl, rfl, h1, r1⟩ := trodAll_cons r0
  obtain ⟨v2, vs2, d2, ds2, p2, q2, rfl, rfl, rfl, h2, r2⟩ := trodAll_cons r1
  obtain ⟨v3, vs3, d3, ds3, p3, q3, rfl, rfl, rfl, h3, r3⟩ := trodAll_cons r2
  obtain ⟨rfl, rfl, rfl⟩ := trodAll_nil r3
  obtain rfl : args = #[v0, v1, v2, v3] := by cases args; simp_all
  obtain ⟨rfl, rfl⟩ := trodVars_none hV
  obtain ⟨a0, rfl, rfl, rfl, w0⟩ := open_int Try.underlying3 (hval 0 3 v0 rfl rfl) h0
  obtain ⟨a1, rfl, rfl, rfl, w1⟩ := open_int Try.underlying3 (hval 1 3 v1 rfl rfl) h1
  obtain ⟨a2, rfl, rfl, rfl, w2⟩ := open_int Try.underlying3 (hval 2 3 v2 rfl rfl) h2
  obtain ⟨a3, rfl, rfl, rfl, w3⟩ := open_int Try.underlying3 (hval 3 3 v3 rfl rfl) h3
  clear hA0 hval0
  simp only [List.append_nil] at hW'
  refine (walk a0 a1 a2 a3 w0 w1 w2 w3 W).mono fun e W' ⟨he, hg⟩ => ?_
  subst he
  exact ⟨_, rfl, _, _, _, [], [], [], hW', (trodAll_cons_mk (shut_bool Try.underlying4 _) trodAll_mk0), (trodAll_cons_mk (shut_int Try.underlying3 w0) (trodAll_cons_mk (shut_int Try.underlying3 w1) (trodAll_cons_mk (shut_int Try.underlying3 w2) (trodAll_cons_mk (shut_int Try.underlying3 w3) trodAll_mk0)))), rfl, hg.frame _, fun h => by cases h⟩

theorem over : Rows.walkTwoRow.holds Try.pinned (OpenSpec.ofChange Rows.walkTwoSpec) :=
  OpenClaim.holds_of_wide 7 Try.f7 rfl rfl rfl rfl rfl rfl rfl ⟨rfl, rfl, rfl, rfl, rfl⟩ rfl rfl rfl rfl rfl (by kernel_rfl) Try.func7 (by kernel_rfl)
    (of_decide_eq_true (by kernel_rfl)) (by unfold Func.isWrapper; first | (rw [if_pos (by decide +kernel)]; kernel_rfl) | (rw [if_neg (by decide +kernel)]; exact ⟨rfl, rfl⟩))
    (fun os started H enc _ => lifted os started H enc)

/-- ████ THE STATEMENT ████ -/
theorem proved : Rows.WalkTwoSaid :=
  over
end Go.Proofs.Ytfodhmgbifeodaa.walkTwo
