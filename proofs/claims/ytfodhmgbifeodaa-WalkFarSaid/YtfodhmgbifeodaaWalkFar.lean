/-
  A table that is not in the memory is a fault of the bus, one that is not valid a fault of the page (law WalkFar returns true).
  No condition: whatever the arguments are.
-/
import Derived.Test.YtfodhmgbifeodaaRows
import Derived.WalkKit
import Derived.ProofKit
import Derived.OpenShut
import Derived.Test.YtfodhmgbifeodaaWalkBoth
namespace Go.Proofs.Ytfodhmgbifeodaa.walkFar
open Go.ChangeShapes Go.WideShapes Go.ChangeAt Go.RowKit
set_option linter.unusedVariables false      -- a walk need not use every 'w<i>' (that an integer argument fits its kind)

theorem own : ownKnob Try.prog.godebug = none := by kernel_rfl

theorem one_poke (w : World) (x0 v0 : Int) : Pokes (w.alloc (.cells #[.int .i64 x0, .int .i64 v0] 35)) (some ⟨w.heap.size, 0, none⟩) 1 (fun _ => (x0, v0)) := by
  have h : (w.alloc (.cells #[.int .i64 x0, .int .i64 v0] 35)).heap[w.heap.size]? = some (.cells #[.int .i64 x0, .int .i64 v0] 35 (0, 0)) := heap_alloc_new _ _
  refine ⟨fun _ => ⟨w.heap.size, 0, rfl, (Array.getElem?_eq_some_iff.1 h).1, fun i hi => ?_⟩⟩
  rw [cell_of_row _ _ _ _ _ _ h, cell_of_row _ _ _ _ _ _ h]
  obtain rfl : i = 0 := by omega
  exact ⟨rfl, rfl⟩
theorem far_no {P : Prop} {a1 a2 : Int} {A B C D E F G I J K : Prop} (HS : ¬ (A ∧ B ∧ C ∧ D ∧ E ∧ F ∧ G ∧ I ∧ J ∧ K ∧ ¬ a2 = a1)) (h : P ∧ (a2 == a1) = false) (hq : A ∧ B ∧ C ∧ D ∧ E ∧ F ∧ G ∧ I ∧ J ∧ K) : False := by
  obtain ⟨h1, h2, h3, h4, h5, h6, h7, h8, h9, h10⟩ := hq
  exact HS ⟨h1, h2, h3, h4, h5, h6, h7, h8, h9, h10, ne_of_beq_false h.2⟩
theorem one_bytes (n x0 v0 : Int) : bothL n (fun _ => (x0, v0)) 1 = poke (List.replicate (pg n * 4096) 0) [(x0, v0)] := rfl
set_option maxRecDepth 100000 in
set_option maxHeartbeats 4000000 in
theorem walk (a0 : Int) (a1 : Int) (a2 : Int) (a3 : Int) (a4 : Int) (w0 : (Lit.int .i64 a0).wf = true) (w1 : (Lit.int .i64 a1).wf = true) (w2 : (Lit.int .i64 a2).wf = true) (w3 : (Lit.int .i64 a3).wf = true) (w4 : (Lit.int .i64 a4).wf = true) (w : World) :
    Calls Try.prog 6 #[.int .i64 a0, .int .i64 a1, .int .i64 a2, .int .i64 a3, .int .i64 a4] w fun e w' => e = .returned (.bool true) ∧ Below w.heap.size w w' := by
  by_cases hs : 2 ≤ a0 ∧ a0 ≤ 32 ∧ 0 ≤ a1 ∧ a1 ≤ 64 ∧ 0 ≤ a2 ∧ a2 ≤ 64 ∧ 0 ≤ a3 ∧ a3 ≤ 1023 ∧ 0 ≤ a4 ∧ a4 ≤ 2 ∧ ¬ a2 = a1
  · obtain ⟨p0, p1, r0, r1, n0, n1, v0, v1, k0, k1, hne⟩ := hs
    have bne : (a2 == a1) = false := by simpa using hne
    have hL : ((pg a0 * 4096 : Nat) : Int) = a0 * 4096 := by unfold pg; omega
    obtain ⟨hc, hn⟩ := walk_far a0 a1 a2 a3 a4 p0 p1 r0 r1 n0 n1 v0 v1 hne (pg a0 * 4096) hL
    have hk : kk a4 = a4 := by unfold kk; split <;> omega
    rw [hk] at hc
    have j1 := join31 a1 r0 (by omega)
    have j2 := join12 a2 1 n0 (by omega) (by decide) (by decide)
    have hb := one_bytes a0 (a1 * 1024) (a2 * 4096 + 1)
    obtain ⟨bs, hbs⟩ : ∃ bs, bs = poke (List.replicate (pg a0 * 4096) 0) [(a1 * 1024, a2 * 4096 + 1)] := ⟨_, rfl⟩
    rw [← hbs] at hc hn hb
    obtain ⟨x, c, hw⟩ : ∃ x c, walkV bs (2147483648 + a1) (a3 * 4096) a4 false = (x, c) := ⟨_, _, rfl⟩
    rw [hw] at hc
    dsimp only at hc
    have HB := Lib.hid hb; have HW := Lib.hid hw; have HN := Lib.hid hn; have HC := Lib.hid hc
    clear hb hbs hw hn hc hL hk hne
    go_enter Try.func6, Try.ntmps6
    go_upto_region 4 with (go_at_call 10; refine (alive5_says _).mono ?_; rintro e w1 ⟨rfl, hL⟩)
    go_upto_region 5 with (go_at_call 11; refine (both_says a0 _ _ _ _ (one_poke w1 (a1 * 1024) (a2 * 4096 + 1)) (by decide)).mono ?_; rintro e w2 ⟨hm, gm, hr, gr, hT⟩; obtain rfl := hT.e; have T := hT.t; rw [HB.out] at T)
    have hB1 : Below w.heap.size w w2 := below_then (below_then hL ((Below.refl _ _).alloc (Nat.le_refl _) _)) T.b
    go_upto_region 6 with (go_at_call 15; refine (walk_says T.m _ _ _ _).mono ?_; rintro e w3 ⟨rfl, hb3⟩; rw [HW.out])
    have T3 := T.m.grow hb3
    go_upto_region 8 with (go_at_call 12; refine (map_says T3 _ _).mono ?_; rintro e w4 ⟨rfl, hb4⟩; rw [HN.out])
    have hc := HC.out
    by_cases h1 : a0 ≤ a1
    · obtain rfl : c = 4 := hc.trans (if_pos (.inl h1))
      clear hc
      go_wp2
      go_ret
      exact ⟨ret_bool (by simp), below_then (below_then hB1 hb3) hb4⟩
    · by_cases h2 : a0 ≤ a2
      · obtain rfl : c = 4 := hc.trans (if_pos (.inr h2))
        clear hc
        go_wp2
        go_ret
        exact ⟨ret_bool (by simp), below_then (below_then hB1 hb3) hb4⟩
      · obtain rfl : c = 5 + a4 := hc.trans (if_neg (by omega))
        clear hc
        go_wp2
        go_ret
        exact ⟨ret_bool (by simp), below_then (below_then hB1 hb3) hb4⟩
  · have HS := Lib.hid hs; clear hs
    go_enter Try.func6, Try.ntmps6
    go_wp2_with (first
      | (go_at_call 10; refine (alive5_says _).mono ?_; rintro e w1 ⟨rfl, hL⟩)
      | (go_at_call 11; exact (far_no HS.out ‹_ ∧ (a2 == a1) = false› (by omega)).elim))
    all_goals
      go_ret
      exact ⟨rfl, hL⟩

/-! ### THE ROW's STEP: WRITTEN OUT: LEAVE IT -/
set_option maxRecDepth 100000 in
theorem lifted (os : Os) (started : os.Started) (H : Type) (enc : TypeId × Value → H) :
    ReturnsInHanded {} Try.checked os 6 .any (Rows.walkFarSpec.pre6 enc Try.prog Try.f6 Rows.walkFarRow.domain false) (Rows.walkFarSpec.post enc Try.prog Try.f6 false true false false) := by
  refine returnsInHanded_of_change (C := Try.checked) own started (by kernel_rfl) Try.func6
    (ChangeSpec.witness6 (enc := enc) (C := Try.checked) false ⟨#[], #[.int .i64 0, .int .i64 0, .int .i64 0, .int .i64 0, .int .i64 0], []⟩ 8 (by kernel_rfl) (by kernel_rfl) (by kernel_rfl) (by kernel_rfl)) ?_
  intro W base args ds gs before hval0 hW hcnd _
  have hval : ∀ (j : Nat) t v, Try.f6.params[j]? = some t → args[j]? = some v → Value.okWide Try.prog W .any base t v := hval0
  have hW' := hW
  obtain ⟨p, q, hA0, hV, rfl, hfz, hnd⟩ := hW
  have hA : DataW.TrodAll enc Try.prog W 0 (fun _ => true) true Try.f6.params.toList args.toList ds p := hA0
  rw [Try.params6] at hA hval
  obtain ⟨v0, vs0, d0, ds0, p0, q0, hargs, rfl, rfl, h0, r0⟩ := trodAll_cons hA
  obtain ⟨v1, vs1, d1, ds1, p1, q1, rfl, rfl, rfl, h1, r1⟩ := trodAll_cons r0
  obtain ⟨v2, vs2, d2, ds2, p2, q2, rfl, rfl, rfl, h2, r2⟩ := trodAll_cons r1
  obtain ⟨v3, vs3, d3, ds3, p3, q3, rfl, rfl, rfl, h3, r3⟩ := trodAll_cons r2
  obtain ⟨v4, vs4, d4, ds4, p4, q4, rfl, rfl, rfl, h4, r4⟩ := trodAll_cons r3
  obtain ⟨rfl, rfl, rfl⟩ := trodAll_nil r4
  obtain rfl : args = #[v0, v1, v2, v3, v4] := by cases args; simp_all
  obtain ⟨rfl, rfl⟩ := trodVars_none hV
  obtain ⟨a0, rfl, rfl, rfl, w0⟩ := open_int Try.underlying3 (hval 0 3 v0 rfl rfl) h0
  obtain ⟨a1, rfl, rfl, rfl, w1⟩ := open_int Try.underlying3 (hval 1 3 v1 rfl rfl) h1
  obtain ⟨a2, rfl, rfl, rfl, w2⟩ := open_int Try.underlying3 (hval 2 3 v2 rfl rfl) h2
  obtain ⟨a3, rfl, rfl, rfl, w3⟩ := open_int Try.underlying3 (hval 3 3 v3 rfl rfl) h3
  obtain ⟨a4, rfl, rfl, rfl, w4⟩ := open_int Try.underlying3 (hval 4 3 v4 rfl rfl) h4
  clear hA0 hval0
  simp only [List.append_nil] at hW'
  refine (walk a0 a1 a2 a3 a4 w0 w1 w2 w3 w4 W).mono fun e W' ⟨he, hg⟩ => ?_
  subst he
  exact ⟨_, rfl, _, _, _, [], [], [], hW', (trodAll_cons_mk (shut_bool Try.underlying4 _) trodAll_mk0), (trodAll_cons_mk (shut_int Try.underlying3 w0) (trodAll_cons_mk (shut_int Try.underlying3 w1) (trodAll_cons_mk (shut_int Try.underlying3 w2) (trodAll_cons_mk (shut_int Try.underlying3 w3) (trodAll_cons_mk (shut_int Try.underlying3 w4) trodAll_mk0))))), rfl, hg.frame _, fun h => by cases h⟩

theorem over : Rows.walkFarRow.holds Try.pinned (OpenSpec.ofChange Rows.walkFarSpec) :=
  OpenClaim.holds_of_wide 6 Try.f6 rfl rfl rfl rfl rfl rfl rfl ⟨rfl, rfl, rfl, rfl, rfl⟩ rfl rfl rfl rfl rfl (by kernel_rfl) Try.func6 (by kernel_rfl)
    (of_decide_eq_true (by kernel_rfl)) (by unfold Func.isWrapper; first | (rw [if_pos (by decide +kernel)]; kernel_rfl) | (rw [if_neg (by decide +kernel)]; exact ⟨rfl, rfl⟩))
    (fun os started H enc _ => lifted os started H enc)

/-- ████ THE STATEMENT ████ -/
theorem proved : Rows.WalkFarSaid :=
  over
end Go.Proofs.Ytfodhmgbifeodaa.walkFar
