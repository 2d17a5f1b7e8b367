/-
  Two instructions that have words are one if and only if their words are one, and if and only if their texts are one, and the operation stands in the word's highest byte (law IsaUnlike returns true).
  No condition on the arguments: whatever they are. The card ties the three listed tables of Go's library to the program's text.
-/
import Derived.Test.YtpjonhcbhgalpaaDoorIsaFrame
import Derived.Test.YtpjonhcbhgalpaaDoorCards
import Derived.Test.YtpjonhcbhgalpaaDoorTie
import Derived.SevenTiedAt
import Derived.Test.YtpjonhcbhgalpaaDoorIsaSame
import Derived.Deep.RegionHeld3
namespace Go.Proofs.YtpjonhcbhgalpaaDoor.isaUnlike
open Go Go.ChangeShapes Go.WideShapes Go.ChangeAt Go.RowKit
set_option linter.unusedVariables false
theorem keepU {V u u' : World} {B C : Nat} {v0 v1 v2 v3 v4 t0 t1 t2 t3 t4 : Value} (hB : B < V.heap.size) (hC : C < V.heap.size) (h : Below u.heap.size u u')
    (hS : u.cell? ⟨B, 0, none⟩ = some v0 ∧ u.cell? ⟨B, 1, none⟩ = some v1 ∧ u.cell? ⟨B, 2, none⟩ = some v2 ∧ u.cell? ⟨B, 3, none⟩ = some v3 ∧ u.cell? ⟨B, 4, none⟩ = some v4 ∧ u.cell? ⟨C, 0, none⟩ = some t0 ∧ u.cell? ⟨C, 1, none⟩ = some t1 ∧ u.cell? ⟨C, 2, none⟩ = some t2 ∧ u.cell? ⟨C, 3, none⟩ = some t3 ∧ u.cell? ⟨C, 4, none⟩ = some t4 ∧ Below V.heap.size V u) :
    u'.cell? ⟨B, 0, none⟩ = some v0 ∧ u'.cell? ⟨B, 1, none⟩ = some v1 ∧ u'.cell? ⟨B, 2, none⟩ = some v2 ∧ u'.cell? ⟨B, 3, none⟩ = some v3 ∧ u'.cell? ⟨B, 4, none⟩ = some v4 ∧ u'.cell? ⟨C, 0, none⟩ = some t0 ∧ u'.cell? ⟨C, 1, none⟩ = some t1 ∧ u'.cell? ⟨C, 2, none⟩ = some t2 ∧ u'.cell? ⟨C, 3, none⟩ = some t3 ∧ u'.cell? ⟨C, 4, none⟩ = some t4 ∧ Below V.heap.size V u' := by
  obtain ⟨h0, h1, h2, h3, h4, k0, k1, k2, k3, k4, hb⟩ := hS
  have hs := hb.size
  have hc : ∀ k, u'.cell? ⟨B, k, none⟩ = u.cell? ⟨B, k, none⟩ := fun k => h.cell (p := ⟨B, k, none⟩) (by show B < _; omega)
  have hd : ∀ k, u'.cell? ⟨C, k, none⟩ = u.cell? ⟨C, k, none⟩ := fun k => h.cell (p := ⟨C, k, none⟩) (by show C < _; omega)
  exact ⟨(hc 0).trans h0, (hc 1).trans h1, (hc 2).trans h2, (hc 3).trans h3, (hc 4).trans h4, (hd 0).trans k0, (hd 1).trans k1, (hd 2).trans k2, (hd 3).trans k3, (hd 4).trans k4, hb.trans (h.mono hs)⟩
theorem tabU {W V u : World} {B C : Nat} {v0 v1 v2 v3 v4 t0 t1 t2 t3 t4 : Value} (hT : Tab W) (hV : Below W.heap.size W V)
    (hS : u.cell? ⟨B, 0, none⟩ = some v0 ∧ u.cell? ⟨B, 1, none⟩ = some v1 ∧ u.cell? ⟨B, 2, none⟩ = some v2 ∧ u.cell? ⟨B, 3, none⟩ = some v3 ∧ u.cell? ⟨B, 4, none⟩ = some v4 ∧ u.cell? ⟨C, 0, none⟩ = some t0 ∧ u.cell? ⟨C, 1, none⟩ = some t1 ∧ u.cell? ⟨C, 2, none⟩ = some t2 ∧ u.cell? ⟨C, 3, none⟩ = some t3 ∧ u.cell? ⟨C, 4, none⟩ = some t4 ∧ Below V.heap.size V u) : Tab u :=
  hT.later (hV.trans (hS.2.2.2.2.2.2.2.2.2.2.mono hV.size))
theorem belowU {W V u : World} {B C : Nat} {v0 v1 v2 v3 v4 t0 t1 t2 t3 t4 : Value} (hV : Below W.heap.size W V)
    (hS : u.cell? ⟨B, 0, none⟩ = some v0 ∧ u.cell? ⟨B, 1, none⟩ = some v1 ∧ u.cell? ⟨B, 2, none⟩ = some v2 ∧ u.cell? ⟨B, 3, none⟩ = some v3 ∧ u.cell? ⟨B, 4, none⟩ = some v4 ∧ u.cell? ⟨C, 0, none⟩ = some t0 ∧ u.cell? ⟨C, 1, none⟩ = some t1 ∧ u.cell? ⟨C, 2, none⟩ = some t2 ∧ u.cell? ⟨C, 3, none⟩ = some t3 ∧ u.cell? ⟨C, 4, none⟩ = some t4 ∧ Below V.heap.size V u) : Below W.heap.size W u :=
  hV.trans (hS.2.2.2.2.2.2.2.2.2.2.mono hV.size)
theorem first_diff (o a b c m o' a' b' c' m' : Int) (h : ¬ (o = o' ∧ a = a' ∧ b = b' ∧ c = c' ∧ m = m')) :
    ¬ o = o' ∨ (o = o' ∧ ¬ a = a') ∨ (o = o' ∧ a = a' ∧ ¬ b = b') ∨ (o = o' ∧ a = a' ∧ b = b' ∧ ¬ c = c') ∨ (o = o' ∧ a = a' ∧ b = b' ∧ c = c' ∧ ¬ m = m') := by
  by_cases h0 : o = o'
  · by_cases h1 : a = a'
    · by_cases h2 : b = b'
      · by_cases h3 : c = c'
        · exact .inr (.inr (.inr (.inr ⟨h0, h1, h2, h3, fun h4 => h ⟨h0, h1, h2, h3, h4⟩⟩)))
        · exact .inr (.inr (.inr (.inl ⟨h0, h1, h2, h3⟩)))
      · exact .inr (.inr (.inl ⟨h0, h1, h2⟩))
    · exact .inr (.inl ⟨h0, h1⟩)
  · exact .inl h0
/-- Two blocks that are made one behind the other. -/
theorem two_blocks (W : World) (x y : Obj) : ((W.alloc x).alloc y).heap[W.heap.size]? = (W.alloc x).heap[W.heap.size]? ∧ ((W.alloc x).alloc y).heap[W.heap.size + 1]? = ((W.alloc x).alloc y).heap[(W.alloc x).heap.size]? := by
  have hs : (W.alloc x).heap.size = W.heap.size + 1 := by simp
  exact ⟨(MapKept.heap_alloc (W.alloc x) y).2 _ (by omega), by rw [hs]⟩
/-- The operation stands in the highest byte. -/
theorem op_top (o a b c m : Int) (h : encE o a b c m = 0) : encW o a b c m / 16777216 = o ∧ 0 ≤ encW o a b c m ∧ encW o a b c m ≤ 4294967295 := by
  obtain ⟨f0, _, _, _, _, f5, f6⟩ := fields_of o a b c m h
  exact ⟨f0, f5, f6⟩
/-- What the call does. -/
def Fine (W : World) (e : Ending) (W' : World) : Prop := e = .returned (.bool true) ∧ Below W.heap.size W W'
set_option maxHeartbeats 8000000 in
theorem walk (o0 a0 b0 c0 m0 : Int) (wo0 : (Lit.int .i64 o0).wf = true) (wa0 : (Lit.int .i64 a0).wf = true) (wb0 : (Lit.int .i64 b0).wf = true) (wc0 : (Lit.int .i64 c0).wf = true) (wm0 : (Lit.int .i64 m0).wf = true) (o1 a1 b1 c1 m1 : Int) (wo1 : (Lit.int .i64 o1).wf = true) (wa1 : (Lit.int .i64 a1).wf = true) (wb1 : (Lit.int .i64 b1).wf = true) (wc1 : (Lit.int .i64 c1).wf = true) (wm1 : (Lit.int .i64 m1).wf = true) (W : World) (hT : Tab W) :
    Calls Tryd.prog 4 #[insV o0 a0 b0 c0 m0, insV o1 a1 b1 c1 m1] W (Fine W) := by
  by_cases h0 : encE o0 a0 b0 c0 m0 = 0
  · by_cases h1 : encE o1 a1 b1 c1 m1 = 0
    · obtain ⟨hx, x0, x1⟩ := op_top o0 a0 b0 c0 m0 h0
      by_cases hq : o0 = o1 ∧ a0 = a1 ∧ b0 = b1 ∧ c0 = c1 ∧ m0 = m1
      · obtain ⟨rfl, rfl, rfl, rfl, rfl⟩ := hq
        go_enter Tryd.func4, Tryd.ntmps4
        go_upto_region 6 with (first | (go_at_call 5; refine (alive_says _ (hT.later (((Below.refl _ _).alloc (Nat.le_refl _) _).alloc (by simp) _))).mono ?_; rintro e u1 ⟨rfl, hb1⟩; obtain ⟨hc1, hf1⟩ := bcell hb1; have hz1 : W.heap.size + 1 < u1.heap.size := (by have := hb1.size; simp at this; omega); have hy1 : W.heap.size < u1.heap.size := (by omega)) | (go_at_call 12; (with_reducible refine (encode_says _ _ _ _ _ u1).mono ?_); rintro e u2 ⟨rfl, hb2⟩; obtain ⟨hc2, hf2⟩ := bcell hb2; have hs2 : u1.heap.size ≤ u2.heap.size := hb2.size; have hz2 : W.heap.size + 1 < u2.heap.size := (by omega); have hy2 : W.heap.size < u2.heap.size := (by omega)) | (go_at_call 12; (with_reducible refine (encode_says _ _ _ _ _ u2).mono ?_); rintro e u3 ⟨rfl, hb3⟩; obtain ⟨hc3, hf3⟩ := bcell hb3; have hs3 : u2.heap.size ≤ u3.heap.size := hb3.size; have hz3 : W.heap.size + 1 < u3.heap.size := (by omega); have hy3 : W.heap.size < u3.heap.size := (by omega)) | (go_at_call 13; refine (num_says _ _).mono ?_; rintro e w' ⟨rfl, rfl⟩))
        have hU : Below (W.heap.size + 2) ((W.alloc (.cells #[.int .i64 o0, .int .i64 a0, .int .i64 b0, .int .i64 c0, .int .i64 m0] 23)).alloc (.cells #[.int .i64 o0, .int .i64 a0, .int .i64 b0, .int .i64 c0, .int .i64 m0] 23)) u3 := (Below.mono hb1 (by simp)).trans ((hb2.mono (by omega)).trans (hb3.mono (by omega)))
        have hV : Below W.heap.size W u3 := (((Below.refl _ _).alloc (Nat.le_refl _) _).alloc (by simp) _).trans (hU.mono (by omega))
        have hr : u3.heap[W.heap.size]? = some (.cells #[.int .i64 o0, .int .i64 a0, .int .i64 b0, .int .i64 c0, .int .i64 m0] 23 (0, 0)) := (hU.block _ (by omega)).trans ((two_blocks W _ _).1.trans (MapKept.heap_alloc W _).1)
        have hr' : u3.heap[W.heap.size + 1]? = some (.cells #[.int .i64 o0, .int .i64 a0, .int .i64 b0, .int .i64 c0, .int .i64 m0] 23 (0, 0)) := (hU.block _ (by omega)).trans ((two_blocks W _ _).2.trans (MapKept.heap_alloc _ _).1)
        have q0 := cell_heap hr 0 _ rfl
        have q1 := cell_heap hr 1 _ rfl
        have q2 := cell_heap hr 2 _ rfl
        have q3 := cell_heap hr 3 _ rfl
        have q4 := cell_heap hr 4 _ rfl
        have p0 := cell_heap hr' 0 _ rfl
        have p1 := cell_heap hr' 1 _ rfl
        have p2 := cell_heap hr' 2 _ rfl
        have p3 := cell_heap hr' 3 _ rfl
        have p4 := cell_heap hr' 4 _ rfl
        clear hr hr' hU hb1 hb2 hb3 hc1 hc2 hc3 hf1 hf2 hf3 hs2 hs3 hz1 hz2 hy1 hy2
        go_region_held3 (fun u' => u'.cell? ⟨W.heap.size, 0, none⟩ = some (.int .i64 o0) ∧ u'.cell? ⟨W.heap.size, 1, none⟩ = some (.int .i64 a0) ∧ u'.cell? ⟨W.heap.size, 2, none⟩ = some (.int .i64 b0) ∧ u'.cell? ⟨W.heap.size, 3, none⟩ = some (.int .i64 c0) ∧ u'.cell? ⟨W.heap.size, 4, none⟩ = some (.int .i64 m0) ∧ u'.cell? ⟨W.heap.size + 1, 0, none⟩ = some (.int .i64 o0) ∧ u'.cell? ⟨W.heap.size + 1, 1, none⟩ = some (.int .i64 a0) ∧ u'.cell? ⟨W.heap.size + 1, 2, none⟩ = some (.int .i64 b0) ∧ u'.cell? ⟨W.heap.size + 1, 3, none⟩ = some (.int .i64 c0) ∧ u'.cell? ⟨W.heap.size + 1, 4, none⟩ = some (.int .i64 m0) ∧ Below u3.heap.size u3 u') (first | assumption | (with_reducible exact keepU hy3 hz3 (by assumption) (by assumption)) | exact ⟨q0, q1, q2, q3, q4, p0, p1, p2, p3, p4, Below.refl _ _⟩ | exact ⟨q0, q1, q2, q3, q4, p0, p1, p2, p3, p4, (Below.refl _ _).drew⟩) (first | (go_at_call 10; refine (show_says _ _ _ _ _ _ (tabU hT hV (by assumption))).mono ?_; rintro e t' ⟨rfl, ht'⟩))
        all_goals go_wp2_with fail
        all_goals go_ret
        all_goals exact ⟨ret_bool (by simp), belowU hV (by assumption)⟩
      · have e1 : (encW o0 a0 b0 c0 m0 == encW o1 a1 b1 c1 m1) = false := beq_eq_false_iff_ne.2 fun h => hq (word_one _ _ _ _ _ _ _ _ _ _ h0 h1 h)
        have e2 : ((showS o0 a0 b0 c0 m0).toList == (showS o1 a1 b1 c1 m1).toList) = false := by
          refine beq_eq_false_iff_ne.2 fun h => hq (text_one _ _ _ _ _ _ _ _ _ _ h0 h1 ?_)
          rw [ByteArray.toList_eq, ByteArray.toList_eq] at h
          exact bytes_ext h
        rcases first_diff _ _ _ _ _ _ _ _ _ _ hq with d | ⟨rfl, d⟩ | ⟨rfl, rfl, d⟩ | ⟨rfl, rfl, rfl, d⟩ | ⟨rfl, rfl, rfl, rfl, d⟩
        · clear hq
          go_enter Tryd.func4, Tryd.ntmps4
          go_upto_region 6 with (first | (go_at_call 5; refine (alive_says _ (hT.later (((Below.refl _ _).alloc (Nat.le_refl _) _).alloc (by simp) _))).mono ?_; rintro e u1 ⟨rfl, hb1⟩; obtain ⟨hc1, hf1⟩ := bcell hb1; have hz1 : W.heap.size + 1 < u1.heap.size := (by have := hb1.size; simp at this; omega); have hy1 : W.heap.size < u1.heap.size := (by omega)) | (go_at_call 12; (with_reducible refine (encode_says _ _ _ _ _ u1).mono ?_); rintro e u2 ⟨rfl, hb2⟩; obtain ⟨hc2, hf2⟩ := bcell hb2; have hs2 : u1.heap.size ≤ u2.heap.size := hb2.size; have hz2 : W.heap.size + 1 < u2.heap.size := (by omega); have hy2 : W.heap.size < u2.heap.size := (by omega)) | (go_at_call 12; (with_reducible refine (encode_says _ _ _ _ _ u2).mono ?_); rintro e u3 ⟨rfl, hb3⟩; obtain ⟨hc3, hf3⟩ := bcell hb3; have hs3 : u2.heap.size ≤ u3.heap.size := hb3.size; have hz3 : W.heap.size + 1 < u3.heap.size := (by omega); have hy3 : W.heap.size < u3.heap.size := (by omega)) | (go_at_call 13; refine (num_says _ _).mono ?_; rintro e w' ⟨rfl, rfl⟩))
          have hU : Below (W.heap.size + 2) ((W.alloc (.cells #[.int .i64 o0, .int .i64 a0, .int .i64 b0, .int .i64 c0, .int .i64 m0] 23)).alloc (.cells #[.int .i64 o1, .int .i64 a1, .int .i64 b1, .int .i64 c1, .int .i64 m1] 23)) u3 := (Below.mono hb1 (by simp)).trans ((hb2.mono (by omega)).trans (hb3.mono (by omega)))
          have hV : Below W.heap.size W u3 := (((Below.refl _ _).alloc (Nat.le_refl _) _).alloc (by simp) _).trans (hU.mono (by omega))
          have hr : u3.heap[W.heap.size]? = some (.cells #[.int .i64 o0, .int .i64 a0, .int .i64 b0, .int .i64 c0, .int .i64 m0] 23 (0, 0)) := (hU.block _ (by omega)).trans ((two_blocks W _ _).1.trans (MapKept.heap_alloc W _).1)
          have hr' : u3.heap[W.heap.size + 1]? = some (.cells #[.int .i64 o1, .int .i64 a1, .int .i64 b1, .int .i64 c1, .int .i64 m1] 23 (0, 0)) := (hU.block _ (by omega)).trans ((two_blocks W _ _).2.trans (MapKept.heap_alloc _ _).1)
          have q0 := cell_heap hr 0 _ rfl
          have q1 := cell_heap hr 1 _ rfl
          have q2 := cell_heap hr 2 _ rfl
          have q3 := cell_heap hr 3 _ rfl
          have q4 := cell_heap hr 4 _ rfl
          have p0 := cell_heap hr' 0 _ rfl
          have p1 := cell_heap hr' 1 _ rfl
          have p2 := cell_heap hr' 2 _ rfl
          have p3 := cell_heap hr' 3 _ rfl
          have p4 := cell_heap hr' 4 _ rfl
          clear hr hr' hU hb1 hb2 hb3 hc1 hc2 hc3 hf1 hf2 hf3 hs2 hs3 hz1 hz2 hy1 hy2
          go_region_held3 (fun u' => u'.cell? ⟨W.heap.size, 0, none⟩ = some (.int .i64 o0) ∧ u'.cell? ⟨W.heap.size, 1, none⟩ = some (.int .i64 a0) ∧ u'.cell? ⟨W.heap.size, 2, none⟩ = some (.int .i64 b0) ∧ u'.cell? ⟨W.heap.size, 3, none⟩ = some (.int .i64 c0) ∧ u'.cell? ⟨W.heap.size, 4, none⟩ = some (.int .i64 m0) ∧ u'.cell? ⟨W.heap.size + 1, 0, none⟩ = some (.int .i64 o1) ∧ u'.cell? ⟨W.heap.size + 1, 1, none⟩ = some (.int .i64 a1) ∧ u'.cell? ⟨W.heap.size + 1, 2, none⟩ = some (.int .i64 b1) ∧ u'.cell? ⟨W.heap.size + 1, 3, none⟩ = some (.int .i64 c1) ∧ u'.cell? ⟨W.heap.size + 1, 4, none⟩ = some (.int .i64 m1) ∧ Below u3.heap.size u3 u') (first | assumption | (with_reducible exact keepU hy3 hz3 (by assumption) (by assumption)) | exact ⟨q0, q1, q2, q3, q4, p0, p1, p2, p3, p4, Below.refl _ _⟩ | exact ⟨q0, q1, q2, q3, q4, p0, p1, p2, p3, p4, (Below.refl _ _).drew⟩) (first | (go_at_call 10; refine (show_says _ _ _ _ _ _ (tabU hT hV (by assumption))).mono ?_; rintro e t' ⟨rfl, ht'⟩))
          all_goals go_wp2_with fail
          all_goals go_ret
          all_goals exact ⟨ret_bool (by simp), belowU hV (by assumption)⟩
        · clear hq
          go_enter Tryd.func4, Tryd.ntmps4
          go_upto_region 6 with (first | (go_at_call 5; refine (alive_says _ (hT.later (((Below.refl _ _).alloc (Nat.le_refl _) _).alloc (by simp) _))).mono ?_; rintro e u1 ⟨rfl, hb1⟩; obtain ⟨hc1, hf1⟩ := bcell hb1; have hz1 : W.heap.size + 1 < u1.heap.size := (by have := hb1.size; simp at this; omega); have hy1 : W.heap.size < u1.heap.size := (by omega)) | (go_at_call 12; (with_reducible refine (encode_says _ _ _ _ _ u1).mono ?_); rintro e u2 ⟨rfl, hb2⟩; obtain ⟨hc2, hf2⟩ := bcell hb2; have hs2 : u1.heap.size ≤ u2.heap.size := hb2.size; have hz2 : W.heap.size + 1 < u2.heap.size := (by omega); have hy2 : W.heap.size < u2.heap.size := (by omega)) | (go_at_call 12; (with_reducible refine (encode_says _ _ _ _ _ u2).mono ?_); rintro e u3 ⟨rfl, hb3⟩; obtain ⟨hc3, hf3⟩ := bcell hb3; have hs3 : u2.heap.size ≤ u3.heap.size := hb3.size; have hz3 : W.heap.size + 1 < u3.heap.size := (by omega); have hy3 : W.heap.size < u3.heap.size := (by omega)) | (go_at_call 13; refine (num_says _ _).mono ?_; rintro e w' ⟨rfl, rfl⟩))
          have hU : Below (W.heap.size + 2) ((W.alloc (.cells #[.int .i64 o0, .int .i64 a0, .int .i64 b0, .int .i64 c0, .int .i64 m0] 23)).alloc (.cells #[.int .i64 o0, .int .i64 a1, .int .i64 b1, .int .i64 c1, .int .i64 m1] 23)) u3 := (Below.mono hb1 (by simp)).trans ((hb2.mono (by omega)).trans (hb3.mono (by omega)))
          have hV : Below W.heap.size W u3 := (((Below.refl _ _).alloc (Nat.le_refl _) _).alloc (by simp) _).trans (hU.mono (by omega))
          have hr : u3.heap[W.heap.size]? = some (.cells #[.int .i64 o0, .int .i64 a0, .int .i64 b0, .int .i64 c0, .int .i64 m0] 23 (0, 0)) := (hU.block _ (by omega)).trans ((two_blocks W _ _).1.trans (MapKept.heap_alloc W _).1)
          have hr' : u3.heap[W.heap.size + 1]? = some (.cells #[.int .i64 o0, .int .i64 a1, .int .i64 b1, .int .i64 c1, .int .i64 m1] 23 (0, 0)) := (hU.block _ (by omega)).trans ((two_blocks W _ _).2.trans (MapKept.heap_alloc _ _).1)
          have q0 := cell_heap hr 0 _ rfl
          have q1 := cell_heap hr 1 _ rfl
          have q2 := cell_heap hr 2 _ rfl
          have q3 := cell_heap hr 3 _ rfl
          have q4 := cell_heap hr 4 _ rfl
          have p0 := cell_heap hr' 0 _ rfl
          have p1 := cell_heap hr' 1 _ rfl
          have p2 := cell_heap hr' 2 _ rfl
          have p3 := cell_heap hr' 3 _ rfl
          have p4 := cell_heap hr' 4 _ rfl
          clear hr hr' hU hb1 hb2 hb3 hc1 hc2 hc3 hf1 hf2 hf3 hs2 hs3 hz1 hz2 hy1 hy2
          go_region_held3 (fun u' => u'.cell? ⟨W.heap.size, 0, none⟩ = some (.int .i64 o0) ∧ u'.cell? ⟨W.heap.size, 1, none⟩ = some (.int .i64 a0) ∧ u'.cell? ⟨W.heap.size, 2, none⟩ = some (.int .i64 b0) ∧ u'.cell? ⟨W.heap.size, 3, none⟩ = some (.int .i64 c0) ∧ u'.cell? ⟨W.heap.size, 4, none⟩ = some (.int .i64 m0) ∧ u'.cell? ⟨W.heap.size + 1, 0, none⟩ = some (.int .i64 o0) ∧ u'.cell? ⟨W.heap.size + 1, 1, none⟩ = some (.int .i64 a1) ∧ u'.cell? ⟨W.heap.size + 1, 2, none⟩ = some (.int .i64 b1) ∧ u'.cell? ⟨W.heap.size + 1, 3, none⟩ = some (.int .i64 c1) ∧ u'.cell? ⟨W.heap.size + 1, 4, none⟩ = some (.int .i64 m1) ∧ Below u3.heap.size u3 u') (first | assumption | (with_reducible exact keepU hy3 hz3 (by assumption) (by assumption)) | exact ⟨q0, q1, q2, q3, q4, p0, p1, p2, p3, p4, Below.refl _ _⟩ | exact ⟨q0, q1, q2, q3, q4, p0, p1, p2, p3, p4, (Below.refl _ _).drew⟩) (first | (go_at_call 10; refine (show_says _ _ _ _ _ _ (tabU hT hV (by assumption))).mono ?_; rintro e t' ⟨rfl, ht'⟩))
          all_goals go_wp2_with fail
          all_goals go_ret
          all_goals exact ⟨ret_bool (by simp), belowU hV (by assumption)⟩
        · clear hq
          go_enter Tryd.func4, Tryd.ntmps4
          go_upto_region 6 with (first | (go_at_call 5; refine (alive_says _ (hT.later (((Below.refl _ _).alloc (Nat.le_refl _) _).alloc (by simp) _))).mono ?_; rintro e u1 ⟨rfl, hb1⟩; obtain ⟨hc1, hf1⟩ := bcell hb1; have hz1 : W.heap.size + 1 < u1.heap.size := (by have := hb1.size; simp at this; omega); have hy1 : W.heap.size < u1.heap.size := (by omega)) | (go_at_call 12; (with_reducible refine (encode_says _ _ _ _ _ u1).mono ?_); rintro e u2 ⟨rfl, hb2⟩; obtain ⟨hc2, hf2⟩ := bcell hb2; have hs2 : u1.heap.size ≤ u2.heap.size := hb2.size; have hz2 : W.heap.size + 1 < u2.heap.size := (by omega); have hy2 : W.heap.size < u2.heap.size := (by omega)) | (go_at_call 12; (with_reducible refine (encode_says _ _ _ _ _ u2).mono ?_); rintro e u3 ⟨rfl, hb3⟩; obtain ⟨hc3, hf3⟩ := bcell hb3; have hs3 : u2.heap.size ≤ u3.heap.size := hb3.size; have hz3 : W.heap.size + 1 < u3.heap.size := (by omega); have hy3 : W.heap.size < u3.heap.size := (by omega)) | (go_at_call 13; refine (num_says _ _).mono ?_; rintro e w' ⟨rfl, rfl⟩))
          have hU : Below (W.heap.size + 2) ((W.alloc (.cells #[.int .i64 o0, .int .i64 a0, .int .i64 b0, .int .i64 c0, .int .i64 m0] 23)).alloc (.cells #[.int .i64 o0, .int .i64 a0, .int .i64 b1, .int .i64 c1, .int .i64 m1] 23)) u3 := (Below.mono hb1 (by simp)).trans ((hb2.mono (by omega)).trans (hb3.mono (by omega)))
          have hV : Below W.heap.size W u3 := (((Below.refl _ _).alloc (Nat.le_refl _) _).alloc (by simp) _).trans (hU.mono (by omega))
          have hr : u3.heap[W.heap.size]? = some (.cells #[.int .i64 o0, .int .i64 a0, .int .i64 b0, .int .i64 c0, .int .i64 m0] 23 (0, 0)) := (hU.block _ (by omega)).trans ((two_blocks W _ _).1.trans (MapKept.heap_alloc W _).1)
          have hr' : u3.heap[W.heap.size + 1]? = some (.cells #[.int .i64 o0, .int .i64 a0, .int .i64 b1, .int .i64 c1, .int .i64 m1] 23 (0, 0)) := (hU.block _ (by omega)).trans ((two_blocks W _ _).2.trans (MapKept.heap_alloc _ _).1)
          have q0 := cell_heap hr 0 _ rfl
          have q1 := cell_heap hr 1 _ rfl
          have q2 := cell_heap hr 2 _ rfl
          have q3 := cell_heap hr 3 _ rfl
          have q4 := cell_heap hr 4 _ rfl
          have p0 := cell_heap hr' 0 _ rfl
          have p1 := cell_heap hr' 1 _ rfl
          have p2 := cell_heap hr' 2 _ rfl
          have p3 := cell_heap hr' 3 _ rfl
          have p4 := cell_heap hr' 4 _ rfl
          clear hr hr' hU hb1 hb2 hb3 hc1 hc2 hc3 hf1 hf2 hf3 hs2 hs3 hz1 hz2 hy1 hy2
          go_region_held3 (fun u' => u'.cell? ⟨W.heap.size, 0, none⟩ = some (.int .i64 o0) ∧ u'.cell? ⟨W.heap.size, 1, none⟩ = some (.int .i64 a0) ∧ u'.cell? ⟨W.heap.size, 2, none⟩ = some (.int .i64 b0) ∧ u'.cell? ⟨W.heap.size, 3, none⟩ = some (.int .i64 c0) ∧ u'.cell? ⟨W.heap.size, 4, none⟩ = some (.int .i64 m0) ∧ u'.cell? ⟨W.heap.size + 1, 0, none⟩ = some (.int .i64 o0) ∧ u'.cell? ⟨W.heap.size + 1, 1, none⟩ = some (.int .i64 a0) ∧ u'.cell? ⟨W.heap.size + 1, 2, none⟩ = some (.int .i64 b1) ∧ u'.cell? ⟨W.heap.size + 1, 3, none⟩ = some (.int .i64 c1) ∧ u'.cell? ⟨W.heap.size + 1, 4, none⟩ = some (.int .i64 m1) ∧ Below u3.heap.size u3 u') (first | assumption | (with_reducible exact keepU hy3 hz3 (by assumption) (by assumption)) | exact ⟨q0, q1, q2, q3, q4, p0, p1, p2, p3, p4, Below.refl _ _⟩ | exact ⟨q0, q1, q2, q3, q4, p0, p1, p2, p3, p4, (Below.refl _ _).drew⟩) (first | (go_at_call 10; refine (show_says _ _ _ _ _ _ (tabU hT hV (by assumption))).mono ?_; rintro e t' ⟨rfl, ht'⟩))
          all_goals go_wp2_with fail
          all_goals go_ret
          all_goals exact ⟨ret_bool (by simp), belowU hV (by assumption)⟩
        · clear hq
          go_enter Tryd.func4, Tryd.ntmps4
          go_upto_region 6 with (first | (go_at_call 5; refine (alive_says _ (hT.later (((Below.refl _ _).alloc (Nat.le_refl _) _).alloc (by simp) _))).mono ?_; rintro e u1 ⟨rfl, hb1⟩; obtain ⟨hc1, hf1⟩ := bcell hb1; have hz1 : W.heap.size + 1 < u1.heap.size := (by have := hb1.size; simp at this; omega); have hy1 : W.heap.size < u1.heap.size := (by omega)) | (go_at_call 12; (with_reducible refine (encode_says _ _ _ _ _ u1).mono ?_); rintro e u2 ⟨rfl, hb2⟩; obtain ⟨hc2, hf2⟩ := bcell hb2; have hs2 : u1.heap.size ≤ u2.heap.size := hb2.size; have hz2 : W.heap.size + 1 < u2.heap.size := (by omega); have hy2 : W.heap.size < u2.heap.size := (by omega)) | (go_at_call 12; (with_reducible refine (encode_says _ _ _ _ _ u2).mono ?_); rintro e u3 ⟨rfl, hb3⟩; obtain ⟨hc3, hf3⟩ := bcell hb3; have hs3 : u2.heap.size ≤ u3.heap.size := hb3.size; have hz3 : W.heap.size + 1 < u3.heap.size := (by omega); have hy3 : W.heap.size < u3.heap.size := (by omega)) | (go_at_call 13; refine (num_says _ _).mono ?_; rintro e w' ⟨rfl, rfl⟩))
          have hU : Below (W.heap.size + 2) ((W.alloc (.cells #[.int .i64 o0, .int .i64 a0, .int .i64 b0, .int .i64 c0, .int .i64 m0] 23)).alloc (.cells #[.int .i64 o0, .int .i64 a0, .int .i64 b0, .int .i64 c1, .int .i64 m1] 23)) u3 := (Below.mono hb1 (by simp)).trans ((hb2.mono (by omega)).trans (hb3.mono (by omega)))
          have hV : Below W.heap.size W u3 := (((Below.refl _ _).alloc (Nat.le_refl _) _).alloc (by simp) _).trans (hU.mono (by omega))
          have hr : u3.heap[W.heap.size]? = some (.cells #[.int .i64 o0, .int .i64 a0, .int .i64 b0, .int .i64 c0, .int .i64 m0] 23 (0, 0)) := (hU.block _ (by omega)).trans ((two_blocks W _ _).1.trans (MapKept.heap_alloc W _).1)
          have hr' : u3.heap[W.heap.size + 1]? = some (.cells #[.int .i64 o0, .int .i64 a0, .int .i64 b0, .int .i64 c1, .int .i64 m1] 23 (0, 0)) := (hU.block _ (by omega)).trans ((two_blocks W _ _).2.trans (MapKept.heap_alloc _ _).1)
          have q0 := cell_heap hr 0 _ rfl
          have q1 := cell_heap hr 1 _ rfl
          have q2 := cell_heap hr 2 _ rfl
          have q3 := cell_heap hr 3 _ rfl
          have q4 := cell_heap hr 4 _ rfl
          have p0 := cell_heap hr' 0 _ rfl
          have p1 := cell_heap hr' 1 _ rfl
          have p2 := cell_heap hr' 2 _ rfl
          have p3 := cell_heap hr' 3 _ rfl
          have p4 := cell_heap hr' 4 _ rfl
          clear hr hr' hU hb1 hb2 hb3 hc1 hc2 hc3 hf1 hf2 hf3 hs2 hs3 hz1 hz2 hy1 hy2
          go_region_held3 (fun u' => u'.cell? ⟨W.heap.size, 0, none⟩ = some (.int .i64 o0) ∧ u'.cell? ⟨W.heap.size, 1, none⟩ = some (.int .i64 a0) ∧ u'.cell? ⟨W.heap.size, 2, none⟩ = some (.int .i64 b0) ∧ u'.cell? ⟨W.heap.size, 3, none⟩ = some (.int .i64 c0) ∧ u'.cell? ⟨W.heap.size, 4, none⟩ = some (.int .i64 m0) ∧ u'.cell? ⟨W.heap.size + 1, 0, none⟩ = some (.int .i64 o0) ∧ u'.cell? ⟨W.heap.size + 1, 1, none⟩ = some (.int .i64 a0) ∧ u'.cell? ⟨W.heap.size + 1, 2, none⟩ = some (.int .i64 b0) ∧ u'.cell? ⟨W.heap.size + 1, 3, none⟩ = some (.int .i64 c1) ∧ u'.cell? ⟨W.heap.size + 1, 4, none⟩ = some (.int .i64 m1) ∧ Below u3.heap.size u3 u') (first | assumption | (with_reducible exact keepU hy3 hz3 (by assumption) (by assumption)) | exact ⟨q0, q1, q2, q3, q4, p0, p1, p2, p3, p4, Below.refl _ _⟩ | exact ⟨q0, q1, q2, q3, q4, p0, p1, p2, p3, p4, (Below.refl _ _).drew⟩) (first | (go_at_call 10; refine (show_says _ _ _ _ _ _ (tabU hT hV (by assumption))).mono ?_; rintro e t' ⟨rfl, ht'⟩))
          all_goals go_wp2_with fail
          all_goals go_ret
          all_goals exact ⟨ret_bool (by simp), belowU hV (by assumption)⟩
        · clear hq
          go_enter Tryd.func4, Tryd.ntmps4
          go_upto_region 6 with (first | (go_at_call 5; refine (alive_says _ (hT.later (((Below.refl _ _).alloc (Nat.le_refl _) _).alloc (by simp) _))).mono ?_; rintro e u1 ⟨rfl, hb1⟩; obtain ⟨hc1, hf1⟩ := bcell hb1; have hz1 : W.heap.size + 1 < u1.heap.size := (by have := hb1.size; simp at this; omega); have hy1 : W.heap.size < u1.heap.size := (by omega)) | (go_at_call 12; (with_reducible refine (encode_says _ _ _ _ _ u1).mono ?_); rintro e u2 ⟨rfl, hb2⟩; obtain ⟨hc2, hf2⟩ := bcell hb2; have hs2 : u1.heap.size ≤ u2.heap.size := hb2.size; have hz2 : W.heap.size + 1 < u2.heap.size := (by omega); have hy2 : W.heap.size < u2.heap.size := (by omega)) | (go_at_call 12; (with_reducible refine (encode_says _ _ _ _ _ u2).mono ?_); rintro e u3 ⟨rfl, hb3⟩; obtain ⟨hc3, hf3⟩ := bcell hb3; have hs3 : u2.heap.size ≤ u3.heap.size := hb3.size; have hz3 : W.heap.size + 1 < u3.heap.size := (by omega); have hy3 : W.heap.size < u3.heap.size := (by omega)) | (go_at_call 13; refine (num_says _ _).mono ?_; rintro e w' ⟨rfl, rfl⟩))
          have hU : Below (W.heap.size + 2) ((W.alloc (.cells #[.int .i64 o0, .int .i64 a0, .int .i64 b0, .int .i64 c0, .int .i64 m0] 23)).alloc (.cells #[.int .i64 o0, .int .i64 a0, .int .i64 b0, .int .i64 c0, .int .i64 m1] 23)) u3 := (Below.mono hb1 (by simp)).trans ((hb2.mono (by omega)).trans (hb3.mono (by omega)))
          have hV : Below W.heap.size W u3 := (((Below.refl _ _).alloc (Nat.le_refl _) _).alloc (by simp) _).trans (hU.mono (by omega))
          have hr : u3.heap[W.heap.size]? = some (.cells #[.int .i64 o0, .int .i64 a0, .int .i64 b0, .int .i64 c0, .int .i64 m0] 23 (0, 0)) := (hU.block _ (by omega)).trans ((two_blocks W _ _).1.trans (MapKept.heap_alloc W _).1)
          have hr' : u3.heap[W.heap.size + 1]? = some (.cells #[.int .i64 o0, .int .i64 a0, .int .i64 b0, .int .i64 c0, .int .i64 m1] 23 (0, 0)) := (hU.block _ (by omega)).trans ((two_blocks W _ _).2.trans (MapKept.heap_alloc _ _).1)
          have q0 := cell_heap hr 0 _ rfl
          have q1 := cell_heap hr 1 _ rfl
          have q2 := cell_heap hr 2 _ rfl
          have q3 := cell_heap hr 3 _ rfl
          have q4 := cell_heap hr 4 _ rfl
          have p0 := cell_heap hr' 0 _ rfl
          have p1 := cell_heap hr' 1 _ rfl
          have p2 := cell_heap hr' 2 _ rfl
          have p3 := cell_heap hr' 3 _ rfl
          have p4 := cell_heap hr' 4 _ rfl
          clear hr hr' hU hb1 hb2 hb3 hc1 hc2 hc3 hf1 hf2 hf3 hs2 hs3 hz1 hz2 hy1 hy2
          go_region_held3 (fun u' => u'.cell? ⟨W.heap.size, 0, none⟩ = some (.int .i64 o0) ∧ u'.cell? ⟨W.heap.size, 1, none⟩ = some (.int .i64 a0) ∧ u'.cell? ⟨W.heap.size, 2, none⟩ = some (.int .i64 b0) ∧ u'.cell? ⟨W.heap.size, 3, none⟩ = some (.int .i64 c0) ∧ u'.cell? ⟨W.heap.size, 4, none⟩ = some (.int .i64 m0) ∧ u'.cell? ⟨W.heap.size + 1, 0, none⟩ = some (.int .i64 o0) ∧ u'.cell? ⟨W.heap.size + 1, 1, none⟩ = some (.int .i64 a0) ∧ u'.cell? ⟨W.heap.size + 1, 2, none⟩ = some (.int .i64 b0) ∧ u'.cell? ⟨W.heap.size + 1, 3, none⟩ = some (.int .i64 c0) ∧ u'.cell? ⟨W.heap.size + 1, 4, none⟩ = some (.int .i64 m1) ∧ Below u3.heap.size u3 u') (first | assumption | (with_reducible exact keepU hy3 hz3 (by assumption) (by assumption)) | exact ⟨q0, q1, q2, q3, q4, p0, p1, p2, p3, p4, Below.refl _ _⟩ | exact ⟨q0, q1, q2, q3, q4, p0, p1, p2, p3, p4, (Below.refl _ _).drew⟩) (first | (go_at_call 10; refine (show_says _ _ _ _ _ _ (tabU hT hV (by assumption))).mono ?_; rintro e t' ⟨rfl, ht'⟩))
          all_goals go_wp2_with fail
          all_goals go_ret
          all_goals exact ⟨ret_bool (by simp), belowU hV (by assumption)⟩
    · have e1 : (encE o1 a1 b1 c1 m1 != 0) = true := by simpa using h1
      clear h1
      go_enter Tryd.func4, Tryd.ntmps4
      go_wp2_with (first | (go_at_call 5; refine (alive_says _ (hT.later (((Below.refl _ _).alloc (Nat.le_refl _) _).alloc (by simp) _))).mono ?_; rintro e u1 ⟨rfl, hb1⟩; obtain ⟨hc1, hf1⟩ := bcell hb1; have hz1 : W.heap.size + 1 < u1.heap.size := (by have := hb1.size; simp at this; omega); have hy1 : W.heap.size < u1.heap.size := (by omega)) | (go_at_call 12; (with_reducible refine (encode_says _ _ _ _ _ u1).mono ?_); rintro e u2 ⟨rfl, hb2⟩; obtain ⟨hc2, hf2⟩ := bcell hb2; have hs2 : u1.heap.size ≤ u2.heap.size := hb2.size; have hz2 : W.heap.size + 1 < u2.heap.size := (by omega); have hy2 : W.heap.size < u2.heap.size := (by omega)) | (go_at_call 12; (with_reducible refine (encode_says _ _ _ _ _ u2).mono ?_); rintro e u3 ⟨rfl, hb3⟩; obtain ⟨hc3, hf3⟩ := bcell hb3; have hs3 : u2.heap.size ≤ u3.heap.size := hb3.size; have hz3 : W.heap.size + 1 < u3.heap.size := (by omega); have hy3 : W.heap.size < u3.heap.size := (by omega)) | (go_at_call 13; refine (num_says _ _).mono ?_; rintro e w' ⟨rfl, rfl⟩))
      go_ret
      exact ⟨ret_bool rfl, (((Below.refl _ _).alloc (Nat.le_refl _) _).alloc (by simp) _).trans ((hb1.mono (by simp; omega)).trans ((hb2.mono (by omega)).trans (hb3.mono (by omega))))⟩
  · have e0 : (encE o0 a0 b0 c0 m0 != 0) = true := by simpa using h0
    clear h0
    go_enter Tryd.func4, Tryd.ntmps4
    go_wp2_with (first | (go_at_call 5; refine (alive_says _ (hT.later (((Below.refl _ _).alloc (Nat.le_refl _) _).alloc (by simp) _))).mono ?_; rintro e u1 ⟨rfl, hb1⟩; obtain ⟨hc1, hf1⟩ := bcell hb1; have hz1 : W.heap.size + 1 < u1.heap.size := (by have := hb1.size; simp at this; omega); have hy1 : W.heap.size < u1.heap.size := (by omega)) | (go_at_call 12; (with_reducible refine (encode_says _ _ _ _ _ u1).mono ?_); rintro e u2 ⟨rfl, hb2⟩; obtain ⟨hc2, hf2⟩ := bcell hb2; have hs2 : u1.heap.size ≤ u2.heap.size := hb2.size; have hz2 : W.heap.size + 1 < u2.heap.size := (by omega); have hy2 : W.heap.size < u2.heap.size := (by omega)) | (go_at_call 12; (with_reducible refine (encode_says _ _ _ _ _ u2).mono ?_); rintro e u3 ⟨rfl, hb3⟩; obtain ⟨hc3, hf3⟩ := bcell hb3; have hs3 : u2.heap.size ≤ u3.heap.size := hb3.size; have hz3 : W.heap.size + 1 < u3.heap.size := (by omega); have hy3 : W.heap.size < u3.heap.size := (by omega)) | (go_at_call 13; refine (num_says _ _).mono ?_; rintro e w' ⟨rfl, rfl⟩))
    go_ret
    exact ⟨ret_bool rfl, (((Below.refl _ _).alloc (Nat.le_refl _) _).alloc (by simp) _).trans ((hb1.mono (by simp; omega)).trans ((hb2.mono (by omega)).trans (hb3.mono (by omega))))⟩
set_option maxRecDepth 100000 in
theorem door_met (os : Os) (args : Array Value) : laidMetH Tryd.prog laid3 ((World.doorLaid Tryd.prog 4000 os).forCall (fun _ _ => 0) ⟨#[], args, []⟩).memory := by
  rw [MakeChecks.laidMetH_plain _ _ _ (by kernel_rfl)]
  exact laidMet_of_run' 8 (by kernel_rfl) (by kernel_rfl)
set_option maxRecDepth 100000 in
theorem lifted (os : Os) (started : os.Started) (H : Type) (enc : TypeId × Value → H) :
    ReturnsInHanded {} Tryd.checked os 4 .any (fun w args => (Rows.isaUnlikeSpec.pre enc Tryd.prog Tryd.f4 [] false w args ∧ laidMetH Tryd.prog laid3 w) ∧ sizedMet enc Tryd.prog Tryd.f4 (OpenSpec.ofChange Rows.isaUnlikeSpec) false w args)
      (Rows.isaUnlikeSpec.post enc Tryd.prog Tryd.f4 false true false false) := by
  refine returnsInHanded_of_change_and (C := Tryd.checked) (X := fun w _ => laidMetH Tryd.prog laid3 w) (fun _ _ _ hh h => h.of_heap hh) own started (by kernel_rfl) Tryd.func4
    (ChangeSpec.witness_shaped (enc := enc) (C := Tryd.checked) (os := os) (X := fun w _ => laidMetH Tryd.prog laid3 w) false (World.doorLaid Tryd.prog 4000 os) #[insV 0 0 0 0 0, insV 0 0 0 0 0] 8 rfl (World.shaped_of_RefB (by kernel_rfl) (by kernel_rfl)) (by kernel_rfl) (by kernel_rfl) (by kernel_rfl) (door_met os _)) ?_
  intro W base args ds gs before hval0 hW _ _ hL _
  have hval : ∀ (j : Nat) t v, Tryd.f4.params[j]? = some t → args[j]? = some v → Value.okWide Tryd.prog W .any base t v := hval0
  have hW' := hW
  obtain ⟨p, q, hA0, hV, rfl, hfz, hnd⟩ := hW
  have hA : DataW.TrodAll enc Tryd.prog W 0 (fun _ => true) true Tryd.f4.params.toList args.toList ds p := hA0
  rw [Tryd.params4] at hA hval
  obtain ⟨v0, vs0, d0, ds0, p0, q0, hargs, rfl, rfl, h0, r0⟩ := trodAll_cons hA
  obtain ⟨v1, vs1, d1, ds1, p1, q1, rfl, rfl, rfl, h1, r1⟩ := trodAll_cons r0
  obtain ⟨rfl, rfl, rfl⟩ := trodAll_nil r1
  obtain rfl : args = #[v0, v1] := by cases args; simp_all
  obtain ⟨rfl, rfl⟩ := trodVars_none hV
  obtain ⟨o0, a0, b0, c0, m0, rfl, rfl, rfl, wo0, wa0, wb0, wc0, wm0⟩ := open_ins (hval 0 23 v0 rfl rfl) h0
  obtain ⟨o1, a1, b1, c1, m1, rfl, rfl, rfl, wo1, wa1, wb1, wc1, wm1⟩ := open_ins (hval 1 23 v1 rfl rfl) h1
  have hT := tab_of_laid hL
  clear hA0 hval0
  simp only [List.append_nil] at hW'
  refine (walk o0 a0 b0 c0 m0 wo0 wa0 wb0 wc0 wm0 o1 a1 b1 c1 m1 wo1 wa1 wb1 wc1 wm1 W hT).mono fun e W' ⟨he, hb⟩ => ?_
  subst he
  exact ⟨_, rfl, _, _, _, [], [], [], hW', trodAll_cons_mk (shut_bool Tryd.underlying4 _) trodAll_mk0, (trodAll_cons_mk (shut_ins wo0 wa0 wb0 wc0 wm0) (trodAll_cons_mk (shut_ins wo1 wa1 wb1 wc1 wm1) trodAll_mk0)), rfl, hb.frame _, fun h => by cases h⟩
theorem over : Rows.IsaUnlikeSaid :=
  OpenClaim.holds_of_wide 4 Tryd.f4 rfl rfl rfl rfl rfl rfl rfl ⟨rfl, rfl, rfl, rfl, rfl⟩ rfl rfl rfl rfl rfl (by kernel_rfl) Tryd.func4 (by kernel_rfl)
    (of_decide_eq_true (by kernel_rfl)) (by unfold Func.isWrapper; first | (rw [if_pos (by decide +kernel)]; kernel_rfl) | (rw [if_neg (by decide +kernel)]; exact ⟨rfl, rfl⟩))
    (fun os started H enc _ => lifted os started H enc)
/-- THE STATEMENT: the tied card. -/
theorem proved : Rows.IsaUnlikeCardSaid :=
  Claim7.holds_tied_plain_at .later [] [.data, .data, .data] true (true, "6753cfa9d74ad9fbf2ab071209190af29343bcd78e9a87f831d0e1e71281b9a9") false
    over (fun _ h => by cases h) (by kernel_rfl) (fun _ h => by cases h) isaUnlike_row_tie rfl ⟨rfl, rfl⟩ (by kernel_rfl) rfl
    (fun f fn hf hfn => by
      obtain rfl : f = 4 := Option.some.inj ((show Tryd.prog.funcNamed "trunnion/trunnionlaw2.IsaUnlike" = some 4 by kernel_rfl).symm.trans hf) |>.symm
      obtain rfl : fn = Tryd.f4 := (Option.some.inj (Tryd.func4.symm.trans hfn)).symm
      exact ⟨by kernel_rfl, fun j t ht => by
        rw [Tryd.params4] at ht
        have hm : t ∈ [23, 23] := by simpa using Array.mem_of_getElem? ht
        have hall : ([23, 23].all fun u => !Tryd.prog.wantsStandIn u) = true := by kernel_rfl
        exact (show Tryd.prog.wantsStandIn t = false by simpa using List.all_eq_true.1 hall t hm)⟩)
    (by kernel_rfl)
end Go.Proofs.YtpjonhcbhgalpaaDoor.isaUnlike
