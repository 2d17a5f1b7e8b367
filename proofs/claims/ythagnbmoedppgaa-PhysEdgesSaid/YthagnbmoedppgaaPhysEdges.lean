/-
  The last number of a memory is there, and none behind it nor ahead of it (law PhysEdges returns true).
  No condition: whatever the arguments are.
-/
import Derived.Test.YthagnbmoedppgaaRows
import Derived.WalkKit
import Derived.ProofKit
import Derived.OpenShut
import Derived.Test.YthagnbmoedppgaaPhysAlive
namespace Go.Proofs.Ythagnbmoedppgaa.physEdges
open Go.ChangeShapes Go.WideShapes Go.ChangeAt Go.RowKit
set_option linter.unusedVariables false      -- a walk need not use every 'w<i>' (that an integer argument fits its kind)

theorem own : ownKnob Try.prog.godebug = none := by kernel_rfl

structure Edged (x0 x1 : List Int) (e s m : Int) : Prop where
  k1 : okc x0.length (e - s) s
  k2 : okc x1.length (e - s) s
  v2 : ldv x1 (e - s) s = 7
  k3 : ¬ okc x1.length e s
  k4 : ¬ okc x1.length m s
  ll : (x1.length : Int) = e
  s3 : stv x1 e s 7 = x1
  f1 : fits x1.length e 0
  f2 : ¬ fits x1.length (e - 1) 2
  f3 : fits x1.length (e - 1) 1
  p2 : putL x1 (e - 1) [1, 2] = x1
  g0 : getL x1 e 0 = []
theorem edged (n : Nat) (hn : 1 ≤ n) (s : Nat) (hs : s = 1 ∨ s = 2 ∨ s = 4) (x0 : List Int) (hx : x0.length = n * 4096) : Edged x0 (stv x0 ((n : Int) * 4096 - s) s 7) ((n : Int) * 4096) s (-s) := by
  obtain ⟨e, he⟩ : ∃ e : Nat, (n : Int) * 4096 - s = (e : Int) := ⟨n * 4096 - s, by rcases hs with rfl | rfl | rfl <;> omega⟩
  have he' : e + s = n * 4096 := by omega
  have hm : (e : Int) % s = 0 := by rcases hs with rfl | rfl | rfl <;> omega
  have hs3 : (s : Int) = 1 ∨ (s : Int) = 2 ∨ (s : Int) = 4 := by omega
  have k1 : okc x0.length (e : Int) s := ⟨hs3, hm, by unfold fits; omega⟩
  have hl := stv_length x0 e s 7
  rw [he]
  obtain ⟨x1, hx1⟩ : ∃ x1, x1 = stv x0 e s 7 := ⟨_, rfl⟩
  have hg : ∀ i, x1.getD i 0 = if e ≤ i ∧ i < e + s then (7 : Int) / 256 ^ (i - e) % 256 else x0.getD i 0 := fun i => by rw [hx1]; exact stv_getD x0 e s 7 k1 i
  rw [← hx1] at hl ⊢
  have k2 : okc x1.length (e : Int) s := by rw [hl]; exact k1
  have k3 : ¬ okc x1.length ((n : Int) * 4096) s := fun h => by have := h.2.2.2.2; omega
  have f2 : ¬ fits x1.length ((n : Int) * 4096 - 1) 2 := by unfold fits; omega
  refine ⟨by rw [he]; exact k1, by rw [he]; exact k2, ?_, k3, fun h => by have := h.2.2.1; omega, by omega, by unfold stv; rw [if_neg k3], by unfold fits; omega, f2, by unfold fits; omega, by unfold putL; exact if_neg f2, by unfold getL; split <;> simp⟩
  rw [he]
  rcases hs with rfl | rfl | rfl
  · rw [show ((1 : Nat) : Int) = 1 from rfl, (ldv_one x1 e (by omega)).2, hg, if_pos (by omega), Nat.sub_self]; rfl
  · rw [show ((2 : Nat) : Int) = 2 from rfl, (ldv_two x1 e (by omega) (by omega)).2, hg, hg, if_pos (by omega), if_pos (by omega), Nat.sub_self, Nat.add_sub_cancel_left]; rfl
  · rw [show ((4 : Nat) : Int) = 4 from rfl, (ldv_four x1 e (by omega) (by omega)).2, hg, hg, hg, hg, if_pos (by omega), if_pos (by omega), if_pos (by omega), if_pos (by omega), Nat.sub_self, Nat.add_sub_cancel_left, Nat.add_sub_cancel_left, Nat.add_sub_cancel_left]; rfl

theorem src2 (w : World) : Src8 (w.alloc (.cells #[.int .u8 1, .int .u8 2] 5)) (some ⟨w.heap.size, 0, none⟩) [1, 2] :=
  Src8.made w [1, 2] (by intro b hb; simp at hb; omega)
theorem src1 (w : World) : Src8 (w.alloc (.cells #[.int .u8 1] 5)) (some ⟨w.heap.size, 0, none⟩) [1] :=
  Src8.made w [1] (by intro b hb; simp at hb; omega)
set_option maxHeartbeats 200000 in
theorem leg1 (a0 : Int) (w0 : (Lit.int .i64 a0).wf = true) (w : World) :
    Calls Try.prog 5 #[.int .i64 a0, .int .i64 1] w fun e w' => e = .returned (.bool true) ∧ Below w.heap.size w w' := by
  have HH : 1 ≤ a0 ∧ a0 ≤ 256 → Edged (List.replicate (pg a0 * 4096) 0) (stv (List.replicate (pg a0 * 4096) 0) (a0 * 4096 - 1) 1 7) (a0 * 4096) 1 (-1) := by
    rintro ⟨h1, h2⟩
    obtain ⟨n, rfl⟩ := Int.eq_ofNat_of_zero_le (show 0 ≤ a0 by omega)
    exact edged n (by omega) 1 (by omega) _ (by rw [List.length_replicate]; unfold pg; omega)
  obtain ⟨x0, hx0⟩ : ∃ x : List Int, x = List.replicate (pg a0 * 4096) 0 := ⟨_, rfl⟩
  rw [← hx0] at HH
  have hlen : a0 > 256 → (x0.length : Int) = 1048576 := fun h => by rw [hx0, List.length_replicate]; unfold pg; omega
  obtain ⟨x1, hx1⟩ : ∃ x : List Int, x = stv x0 (a0 * 4096 - 1) 1 7 := ⟨_, rfl⟩
  rw [← hx1] at HH
  have H := Lib.hid HH; clear HH
  have HL := Lib.hid hlen; clear hlen
  have X0 := Lib.hid hx0; have X1 := Lib.hid hx1; clear hx0 hx1
  go_enter Try.func5, Try.ntmps5
  go_wp2_with (first
    | (go_at_call 8; refine (alive4_says _).mono ?_; rintro e w1 ⟨rfl, hB⟩)
    | (go_at_call 9; refine (new_says _ _).mono ?_; rintro e w2 ⟨h, g, ⟨rfl, hm, hh, hg, hb⟩⟩; have hg := Nat.le_trans hB.size hg; have hB := hB.trans (hb.mono hB.size); rw [← X0.out] at hm; first | (have hE := H.out (by omega); have k1 := hE.k1; have k2 := hE.k2; have v2 := hE.v2; have k3 := hE.k3; have k4 := hE.k4; have ll := hE.ll; have f1 := hE.f1; have f2 := hE.f2; have f3 := hE.f3; have S3 := Lib.hid hE.s3; have P2 := Lib.hid hE.p2; have G0 := Lib.hid hE.g0; clear hE) | (have ll := HL.out (by omega)))
    | (go_at_call 12; refine (store_says ‹Mem _ _ _ _ _› _ _ _ (by omega)).mono ?_; rintro e w3 ⟨rfl, hm2, ho⟩; have hB := hB.trans (ho.below hg); first | rw [← X1.out] at hm2 | rw [S3.out] at hm2)
    | (go_at_call 13; refine (load_says ‹Mem _ _ _ _ _› _ _ (by omega)).mono ?_; rintro e w' ⟨rfl, rfl⟩)
    | (go_at_call 11; refine (size_says ‹Mem _ _ _ _ _›).mono ?_; rintro e w' ⟨rfl, rfl⟩)
    | (go_at_call 16; (refine (get_says ‹Mem _ _ _ _ _› _ _ (by omega) (by omega)).mono ?_; intro e w4 hq; rw [G0.out] at hq; obtain ⟨p, c, rfl, how, hb4⟩ := getQ hq; have hm4 := hm2.grow hb4; have hB := hB.trans (hb4.mono hB.size))))
  · go_ret
    exact ⟨rfl, hB⟩
  · have hs := src2 w4
    have hm4' := hm4.alloc (.cells #[.int .u8 1, .int .u8 2] 5)
    refine (put_says hm4' _ (by omega) _ 2 _ (by omega) [1, 2] rfl hs).mono ?_
    intro e w5 hq
    obtain ⟨rfl, hm5, ho5⟩ := putQ (n := 2) rfl hq
    rw [P2.out] at hm5
    have hB := (hB.alloc hB.size (.cells #[.int .u8 1, .int .u8 2] 5)).trans (ho5.below hg)
    clear hs hq how hb4 hm4 hm4' hm hm2
    go_wp2_with fail
    have hs := src1 w5
    have hm5' := hm5.alloc (.cells #[.int .u8 1] 5)
    refine (put_says hm5' _ (by omega) _ 1 _ (by omega) [1] rfl hs).mono ?_
    intro e w6 hq
    obtain ⟨rfl, hm6, ho6⟩ := putQ (n := 1) rfl hq
    have hB := (hB.alloc hB.size (.cells #[.int .u8 1] 5)).trans (ho6.below hg)
    clear hs hq hm5 hm5' hm6
    go_wp2_with fail
    go_ret
    exact ⟨rfl, hB⟩
  · go_ret
    exact ⟨rfl, hB⟩
  · go_ret
    exact ⟨rfl, hB⟩
set_option maxHeartbeats 200000 in
theorem leg2 (a0 : Int) (w0 : (Lit.int .i64 a0).wf = true) (w : World) :
    Calls Try.prog 5 #[.int .i64 a0, .int .i64 2] w fun e w' => e = .returned (.bool true) ∧ Below w.heap.size w w' := by
  have HH : 1 ≤ a0 ∧ a0 ≤ 256 → Edged (List.replicate (pg a0 * 4096) 0) (stv (List.replicate (pg a0 * 4096) 0) (a0 * 4096 - 2) 2 7) (a0 * 4096) 2 (-2) := by
    rintro ⟨h1, h2⟩
    obtain ⟨n, rfl⟩ := Int.eq_ofNat_of_zero_le (show 0 ≤ a0 by omega)
    exact edged n (by omega) 2 (by omega) _ (by rw [List.length_replicate]; unfold pg; omega)
  obtain ⟨x0, hx0⟩ : ∃ x : List Int, x = List.replicate (pg a0 * 4096) 0 := ⟨_, rfl⟩
  rw [← hx0] at HH
  have hlen : a0 > 256 → (x0.length : Int) = 1048576 := fun h => by rw [hx0, List.length_replicate]; unfold pg; omega
  obtain ⟨x1, hx1⟩ : ∃ x : List Int, x = stv x0 (a0 * 4096 - 2) 2 7 := ⟨_, rfl⟩
  rw [← hx1] at HH
  have H := Lib.hid HH; clear HH
  have HL := Lib.hid hlen; clear hlen
  have X0 := Lib.hid hx0; have X1 := Lib.hid hx1; clear hx0 hx1
  go_enter Try.func5, Try.ntmps5
  go_wp2_with (first
    | (go_at_call 8; refine (alive4_says _).mono ?_; rintro e w1 ⟨rfl, hB⟩)
    | (go_at_call 9; refine (new_says _ _).mono ?_; rintro e w2 ⟨h, g, ⟨rfl, hm, hh, hg, hb⟩⟩; have hg := Nat.le_trans hB.size hg; have hB := hB.trans (hb.mono hB.size); rw [← X0.out] at hm; first | (have hE := H.out (by omega); have k1 := hE.k1; have k2 := hE.k2; have v2 := hE.v2; have k3 := hE.k3; have k4 := hE.k4; have ll := hE.ll; have f1 := hE.f1; have f2 := hE.f2; have f3 := hE.f3; have S3 := Lib.hid hE.s3; have P2 := Lib.hid hE.p2; have G0 := Lib.hid hE.g0; clear hE) | (have ll := HL.out (by omega)))
    | (go_at_call 12; refine (store_says ‹Mem _ _ _ _ _› _ _ _ (by omega)).mono ?_; rintro e w3 ⟨rfl, hm2, ho⟩; have hB := hB.trans (ho.below hg); first | rw [← X1.out] at hm2 | rw [S3.out] at hm2)
    | (go_at_call 13; refine (load_says ‹Mem _ _ _ _ _› _ _ (by omega)).mono ?_; rintro e w' ⟨rfl, rfl⟩)
    | (go_at_call 11; refine (size_says ‹Mem _ _ _ _ _›).mono ?_; rintro e w' ⟨rfl, rfl⟩)
    | (go_at_call 16; (refine (get_says ‹Mem _ _ _ _ _› _ _ (by omega) (by omega)).mono ?_; intro e w4 hq; rw [G0.out] at hq; obtain ⟨p, c, rfl, how, hb4⟩ := getQ hq; have hm4 := hm2.grow hb4; have hB := hB.trans (hb4.mono hB.size))))
  · go_ret
    exact ⟨rfl, hB⟩
  · have hs := src2 w4
    have hm4' := hm4.alloc (.cells #[.int .u8 1, .int .u8 2] 5)
    refine (put_says hm4' _ (by omega) _ 2 _ (by omega) [1, 2] rfl hs).mono ?_
    intro e w5 hq
    obtain ⟨rfl, hm5, ho5⟩ := putQ (n := 2) rfl hq
    rw [P2.out] at hm5
    have hB := (hB.alloc hB.size (.cells #[.int .u8 1, .int .u8 2] 5)).trans (ho5.below hg)
    clear hs hq how hb4 hm4 hm4' hm hm2
    go_wp2_with fail
    have hs := src1 w5
    have hm5' := hm5.alloc (.cells #[.int .u8 1] 5)
    refine (put_says hm5' _ (by omega) _ 1 _ (by omega) [1] rfl hs).mono ?_
    intro e w6 hq
    obtain ⟨rfl, hm6, ho6⟩ := putQ (n := 1) rfl hq
    have hB := (hB.alloc hB.size (.cells #[.int .u8 1] 5)).trans (ho6.below hg)
    clear hs hq hm5 hm5' hm6
    go_wp2_with fail
    go_ret
    exact ⟨rfl, hB⟩
  · go_ret
    exact ⟨rfl, hB⟩
  · go_ret
    exact ⟨rfl, hB⟩
set_option maxHeartbeats 200000 in
theorem leg4 (a0 : Int) (w0 : (Lit.int .i64 a0).wf = true) (w : World) :
    Calls Try.prog 5 #[.int .i64 a0, .int .i64 4] w fun e w' => e = .returned (.bool true) ∧ Below w.heap.size w w' := by
  have HH : 1 ≤ a0 ∧ a0 ≤ 256 → Edged (List.replicate (pg a0 * 4096) 0) (stv (List.replicate (pg a0 * 4096) 0) (a0 * 4096 - 4) 4 7) (a0 * 4096) 4 (-4) := by
    rintro ⟨h1, h2⟩
    obtain ⟨n, rfl⟩ := Int.eq_ofNat_of_zero_le (show 0 ≤ a0 by omega)
    exact edged n (by omega) 4 (by omega) _ (by rw [List.length_replicate]; unfold pg; omega)
  obtain ⟨x0, hx0⟩ : ∃ x : List Int, x = List.replicate (pg a0 * 4096) 0 := ⟨_, rfl⟩
  rw [← hx0] at HH
  have hlen : a0 > 256 → (x0.length : Int) = 1048576 := fun h => by rw [hx0, List.length_replicate]; unfold pg; omega
  obtain ⟨x1, hx1⟩ : ∃ x : List Int, x = stv x0 (a0 * 4096 - 4) 4 7 := ⟨_, rfl⟩
  rw [← hx1] at HH
  have H := Lib.hid HH; clear HH
  have HL := Lib.hid hlen; clear hlen
  have X0 := Lib.hid hx0; have X1 := Lib.hid hx1; clear hx0 hx1
  go_enter Try.func5, Try.ntmps5
  go_wp2_with (first
    | (go_at_call 8; refine (alive4_says _).mono ?_; rintro e w1 ⟨rfl, hB⟩)
    | (go_at_call 9; refine (new_says _ _).mono ?_; rintro e w2 ⟨h, g, ⟨rfl, hm, hh, hg, hb⟩⟩; have hg := Nat.le_trans hB.size hg; have hB := hB.trans (hb.mono hB.size); rw [← X0.out] at hm; first | (have hE := H.out (by omega); have k1 := hE.k1; have k2 := hE.k2; have v2 := hE.v2; have k3 := hE.k3; have k4 := hE.k4; have ll := hE.ll; have f1 := hE.f1; have f2 := hE.f2; have f3 := hE.f3; have S3 := Lib.hid hE.s3; have P2 := Lib.hid hE.p2; have G0 := Lib.hid hE.g0; clear hE) | (have ll := HL.out (by omega)))
    | (go_at_call 12; refine (store_says ‹Mem _ _ _ _ _› _ _ _ (by omega)).mono ?_; rintro e w3 ⟨rfl, hm2, ho⟩; have hB := hB.trans (ho.below hg); first | rw [← X1.out] at hm2 | rw [S3.out] at hm2)
    | (go_at_call 13; refine (load_says ‹Mem _ _ _ _ _› _ _ (by omega)).mono ?_; rintro e w' ⟨rfl, rfl⟩)
    | (go_at_call 11; refine (size_says ‹Mem _ _ _ _ _›).mono ?_; rintro e w' ⟨rfl, rfl⟩)
    | (go_at_call 16; (refine (get_says ‹Mem _ _ _ _ _› _ _ (by omega) (by omega)).mono ?_; intro e w4 hq; rw [G0.out] at hq; obtain ⟨p, c, rfl, how, hb4⟩ := getQ hq; have hm4 := hm2.grow hb4; have hB := hB.trans (hb4.mono hB.size))))
  · go_ret
    exact ⟨rfl, hB⟩
  · have hs := src2 w4
    have hm4' := hm4.alloc (.cells #[.int .u8 1, .int .u8 2] 5)
    refine (put_says hm4' _ (by omega) _ 2 _ (by omega) [1, 2] rfl hs).mono ?_
    intro e w5 hq
    obtain ⟨rfl, hm5, ho5⟩ := putQ (n := 2) rfl hq
    rw [P2.out] at hm5
    have hB := (hB.alloc hB.size (.cells #[.int .u8 1, .int .u8 2] 5)).trans (ho5.below hg)
    clear hs hq how hb4 hm4 hm4' hm hm2
    go_wp2_with fail
    have hs := src1 w5
    have hm5' := hm5.alloc (.cells #[.int .u8 1] 5)
    refine (put_says hm5' _ (by omega) _ 1 _ (by omega) [1] rfl hs).mono ?_
    intro e w6 hq
    obtain ⟨rfl, hm6, ho6⟩ := putQ (n := 1) rfl hq
    have hB := (hB.alloc hB.size (.cells #[.int .u8 1] 5)).trans (ho6.below hg)
    clear hs hq hm5 hm5' hm6
    go_wp2_with fail
    go_ret
    exact ⟨rfl, hB⟩
  · go_ret
    exact ⟨rfl, hB⟩
  · go_ret
    exact ⟨rfl, hB⟩
theorem walk (a0 : Int) (a1 : Int) (w0 : (Lit.int .i64 a0).wf = true) (w1 : (Lit.int .i64 a1).wf = true) (w : World) :
    Calls Try.prog 5 #[.int .i64 a0, .int .i64 a1] w fun e w' => e = .returned (.bool true) ∧ Below w.heap.size w w' := by
  have hcase : a1 = 1 ∨ a1 = 2 ∨ a1 = 4 ∨ (¬ a1 = 1 ∧ ¬ a1 = 2 ∧ ¬ a1 = 4) := by omega
  rcases hcase with rfl | rfl | rfl | ⟨h1, h2, h4⟩
  · exact leg1 a0 w0 w
  · exact leg2 a0 w0 w
  · exact leg4 a0 w0 w
  · have e1 : (a1 == 1) = false := by simpa using h1
    have e2 : (a1 == 2) = false := by simpa using h2
    have e4 : (a1 == 4) = false := by simpa using h4
    go_enter Try.func5, Try.ntmps5
    go_wp2_with (first | (go_at_call 8; refine (alive4_says _).mono ?_; rintro e w1 ⟨rfl, hb1⟩) | (go_at_call 9; exfalso; simp_all; done))
    all_goals
      go_ret
      exact ⟨rfl, hb1⟩

/-! ### THE ROW's STEP: WRITTEN OUT: LEAVE IT -/
set_option maxRecDepth 100000 in
theorem lifted (os : Os) (started : os.Started) (H : Type) (enc : TypeId × Value → H) :
    ReturnsInHanded {} Try.checked os 5 .any (Rows.physEdgesSpec.pre6 enc Try.prog Try.f5 Rows.physEdgesRow.domain false) (Rows.physEdgesSpec.post enc Try.prog Try.f5 false true false false) := by
  refine returnsInHanded_of_change (C := Try.checked) own started (by kernel_rfl) Try.func5
    (ChangeSpec.witness6 (enc := enc) (C := Try.checked) false ⟨#[], #[.int .i64 0, .int .i64 0], []⟩ 8 (by kernel_rfl) (by kernel_rfl) (by kernel_rfl) (by kernel_rfl)) ?_
  intro W base args ds gs before hval0 hW hcnd _
  have hval : ∀ (j : Nat) t v, Try.f5.params[j]? = some t → args[j]? = some v → Value.okWide Try.prog W .any base t v := hval0
  have hW' := hW
  obtain ⟨p, q, hA0, hV, rfl, hfz, hnd⟩ := hW
  have hA : DataW.TrodAll enc Try.prog W 0 (fun _ => true) true Try.f5.params.toList args.toList ds p := hA0
  rw [Try.params5] at hA hval
  obtain ⟨v0, vs0, d0, ds0, p0, q0, hargs, rfl, rfl, h0, r0⟩ := trodAll_cons hA
  obtain ⟨v1, vs1, d1, ds1, p1, q1, rfl, rfl, rfl, h1, r1⟩ := trodAll_cons r0
  obtain ⟨rfl, rfl, rfl⟩ := trodAll_nil r1
  obtain rfl : args = #[v0, v1] := by cases args; simp_all
  obtain ⟨rfl, rfl⟩ := trodVars_none hV
  obtain ⟨a0, rfl, rfl, rfl, w0⟩ := open_int Try.underlying3 (hval 0 3 v0 rfl rfl) h0
  obtain ⟨a1, rfl, rfl, rfl, w1⟩ := open_int Try.underlying3 (hval 1 3 v1 rfl rfl) h1
  clear hA0 hval0
  simp only [List.append_nil] at hW'
  refine (walk a0 a1 w0 w1 W).mono fun e W' ⟨he, hg⟩ => ?_
  subst he
  exact ⟨_, rfl, _, _, _, [], [], [], hW', (trodAll_cons_mk (shut_bool Try.underlying4 _) trodAll_mk0), (trodAll_cons_mk (shut_int Try.underlying3 w0) (trodAll_cons_mk (shut_int Try.underlying3 w1) trodAll_mk0)), rfl, hg.frame _, fun h => by cases h⟩

theorem over : Rows.physEdgesRow.holds Try.pinned (OpenSpec.ofChange Rows.physEdgesSpec) :=
  OpenClaim.holds_of_wide 5 Try.f5 rfl rfl rfl rfl rfl rfl rfl ⟨rfl, rfl, rfl, rfl, rfl⟩ rfl rfl rfl rfl rfl (by kernel_rfl) Try.func5 (by kernel_rfl)
    (of_decide_eq_true (by kernel_rfl)) (by unfold Func.isWrapper; first | (rw [if_pos (by decide +kernel)]; kernel_rfl) | (rw [if_neg (by decide +kernel)]; exact ⟨rfl, rfl⟩))
    (fun os started H enc _ => lifted os started H enc)

/-- ████ THE STATEMENT ████ -/
theorem proved : Rows.PhysEdgesSaid :=
  over
end Go.Proofs.Ythagnbmoedppgaa.physEdges
