/-
  The contract of the document's own answer Decode. | The contract of the document's own answer Decode: the other forms, and all.
-/
import Derived.Test.YtfcmodllbhpniaaGreatDoorJnREnc
import Derived.Test.YtfcmodllbhpniaaGreatDoorJnIsaDec
set_option linter.unusedVariables false
set_option maxRecDepth 100000
set_option linter.unusedVariables false
namespace Go.Proofs.YtfcmodllbhpniaaGreatDoor
open Go.ChangeShapes Go.WideShapes Go.ChangeAt Go.RowKit
/-- What is found when the fields r1 .. r4 are taken for x. -/
def RFound (x r1 r2 r3 r4 : Int) : Prop :=
  (decV x = .tuple #[insV (x / 16777216) r1 r2 r3 r4, i64 0] ∧ (encE (x / 16777216) r1 r2 r3 r4 != 0) = false ∧ (encW (x / 16777216) r1 r2 r3 r4 != x) = false) ∨
  (decV x = .tuple #[insV 0 0 0 0 0, i64 5] ∧ (encE (x / 16777216) r1 r2 r3 r4 != 0) = true) ∨
  (decV x = .tuple #[insV 0 0 0 0 0, i64 5] ∧ (encE (x / 16777216) r1 r2 r3 r4 != 0) = false ∧ (encW (x / 16777216) r1 r2 r3 r4 != x) = true)
theorem found_same (x r1 r2 r3 r4 : Int) (h1 : r1 = dA x) (h2 : r2 = dB x) (h3 : r3 = dC x) (h4 : r4 = dM x) : RFound x r1 r2 r3 r4 := by
  subst h1 h2 h3 h4
  have e0 : x / 16777216 = dO x := rfl
  unfold RFound
  rw [e0]
  by_cases hd : decOk x
  · exact .inl ⟨decV_yes hd, by simpa using hd.1, by simpa using hd.2⟩
  · by_cases hE : encE (dO x) (dA x) (dB x) (dC x) (dM x) = 0
    · exact .inr (.inr ⟨decV_no hd, by simpa using hE, by simpa using fun h => hd ⟨hE, h⟩⟩)
    · exact .inr (.inl ⟨decV_no hd, by simpa using hE⟩)
theorem found_none (x r1 r2 r3 r4 : Int) (h : dF x = 0) : RFound x r1 r2 r3 r4 := by
  have e := (enc_none (x / 16777216) r1 r2 r3 r4 h).1
  exact .inr (.inl ⟨decV_no (dec_none x h), by rw [e]; rfl⟩)
theorem found_bare (x r1 : Int) (h : dF x = 8) (hr : r1 = x / 1048576 % 16) : RFound x r1 0 0 0 := by
  have hA : dA x = 0 := by unfold dA; rw [h]; rfl
  have hB : dB x = 0 := by unfold dB; rw [h]; rfl
  have hC : dC x = 0 := by unfold dC; rw [h]; rfl
  have hM : dM x = 0 := by unfold dM; rw [h]; exact bt_m1 x
  by_cases h0 : r1 = 0
  · exact found_same x r1 0 0 0 (h0.trans hA.symm) hB.symm hC.symm hM.symm
  · have hq : badQ (fR (dF x)) r1 0 0 := by rw [h]; show badQ 0 r1 0 0; unfold badQ; omega
    have e := (enc_bad (x / 16777216) r1 0 0 0 (by show dF x ≠ 0; omega) hq).1
    have hd : ¬ decOk x := by
      intro hd
      have hw := hd.2
      have he := hd.1
      rw [hA, hB, hC, hM] at hw he
      have hw2 : encW (dO x) 0 0 0 0 = dO x * 16777216 + 0 * 1048576 + 0 * 65536 + 0 * 4096 + 0 % 2 ^ (fB (opF (dO x))).toNat := by unfold encW; rw [if_pos he]
      have e8 : fB (opF (dO x)) = 0 := by show fB (dF x) = 0; rw [h]; rfl
      rw [e8] at hw2
      have hw3 : dO x * 16777216 = x := by rw [hw] at hw2; have e9 : (0 : Int) % 2 ^ (0 : Int).toNat = 0 := rfl; rw [e9] at hw2; omega
      unfold dO at hw3
      omega
    exact .inr (.inl ⟨decV_no hd, by rw [e]; rfl⟩)
theorem low_four (y : Int) : bits .and .i64 y 15 = y % 16 := i64_mask y 4 (by decide)
set_option maxHeartbeats 4000000 in
theorem rdecode_0 (n : Int) (hF : dF (wd n) = 0) (w : World) : Calls Tryz.prog 24 #[i64 n] w fun e w' => e = .returned (decV (wd n)) ∧ Below w.heap.size w w' := by
  have hC : fC (opF (wd n / 16777216)) = 0 := by show fC (dF (wd n)) = 0; rw [hF]; rfl
  have hx0 := wd_lo n
  have hx1 := wd_hi n
  have hfd : RFound (wd n) (bits .and .i64 (wd n / 1048576) 15) 0 0 0 := found_none _ _ _ _ _ hF
  clear hF
  rcases hfd with ⟨hv, hE, hW⟩ | ⟨hv, hE⟩ | ⟨hv, hE, hW⟩
  all_goals
    have hv' := Lib.hid hv
    clear hv
    go_enter Tryz.func24, Tryz.ntmps24
    go_wp2_with (first | (go_at_call 19; refine (w_says _ _).mono ?_; rintro e w' ⟨rfl, rfl⟩) | (go_at_call 37; refine (form_says _ _).mono ?_; rintro e w' ⟨rfl, rfl⟩) | (go_at_call 46; refine (rextend_says _ _ _).mono ?_; rintro e w' ⟨rfl, rfl⟩) | (go_at_call 45; refine (rsigned_says _ _).mono ?_; rintro e w' ⟨rfl, rfl⟩) | (go_at_call 18; (with_reducible refine (rencode_says _ _ _ _ _ _).mono ?_); rintro e v1 ⟨rfl, hv1⟩; obtain ⟨vc1, vf1⟩ := bcell hv1; have vs1 : w.heap.size + 1 < v1.heap.size := (by have := hv1.size; simp at this; omega); have vs0 : w.heap.size < v1.heap.size := (by omega)))
    rw [hv'.out]
    have hB1 : Below w.heap.size w v1 := (((Below.refl _ _).alloc (Nat.le_refl _) _).alloc (by simp) _).trans (hv1.mono (by simp; omega))
    have hr : v1.heap[w.heap.size]? = some (.cells #[.int .i64 0, .int .i64 0, .int .i64 0, .int .i64 0, .int .i64 0] 47 (0, 0)) := (hv1.block _ (by simp only [World.size_alloc]; omega)).trans ((Below.heap_alloc _ _ _ (by simp only [World.size_alloc]; omega)).trans (MapKept.heap_alloc w _).1)
    have q0 := cell_heap hr 0 _ rfl
    have q1 := cell_heap hr 1 _ rfl
    have q2 := cell_heap hr 2 _ rfl
    have q3 := cell_heap hr 3 _ rfl
    have q4 := cell_heap hr 4 _ rfl
    first
    | exact bodyPost_ret (v := .tuple #[insV (wd n / 16777216) (bits .and .i64 (wd n / 1048576) 15) 0 0 0, i64 0]) (by simp [results, Tryz.results24, go_sem, q0, q1, q2, q3, q4]) rfl ⟨rfl, by clear hv1 vc1 vf1; go_grown⟩
    | exact bodyPost_ret (v := .tuple #[insV 0 0 0 0 0, i64 5]) (by simp [results, Tryz.results24, go_sem, q0, q1, q2, q3, q4]) rfl ⟨rfl, by clear hv1 vc1 vf1; go_grown⟩
set_option maxHeartbeats 4000000 in
theorem rdecode_1 (n : Int) (hF : dF (wd n) = 1) (w : World) : Calls Tryz.prog 24 #[i64 n] w fun e w' => e = .returned (decV (wd n)) ∧ Below w.heap.size w w' := by
  have hC : fC (opF (wd n / 16777216)) = 82 := by show fC (dF (wd n)) = 82; rw [hF]; rfl
  have hx0 := wd_lo n
  have hx1 := wd_hi n
  have hfd : RFound (wd n) (bits .and .i64 (wd n / 1048576) 15) (bits .and .i64 (wd n / 65536) 15) (bits .and .i64 (wd n / 4096) 15) 0 := found_same _ _ _ _ _ (by rw [low_four]; unfold dA; rw [hF]; rfl) (by rw [low_four]; unfold dB; rw [hF]; rfl) (by rw [low_four]; unfold dC; rw [hF]; rfl) (by unfold dM; rw [hF]; exact (bt_m1 (wd n)).symm)
  clear hF
  rcases hfd with ⟨hv, hE, hW⟩ | ⟨hv, hE⟩ | ⟨hv, hE, hW⟩
  all_goals
    have hv' := Lib.hid hv
    clear hv
    go_enter Tryz.func24, Tryz.ntmps24
    go_wp2_with (first | (go_at_call 19; refine (w_says _ _).mono ?_; rintro e w' ⟨rfl, rfl⟩) | (go_at_call 37; refine (form_says _ _).mono ?_; rintro e w' ⟨rfl, rfl⟩) | (go_at_call 46; refine (rextend_says _ _ _).mono ?_; rintro e w' ⟨rfl, rfl⟩) | (go_at_call 45; refine (rsigned_says _ _).mono ?_; rintro e w' ⟨rfl, rfl⟩) | (go_at_call 18; (with_reducible refine (rencode_says _ _ _ _ _ _).mono ?_); rintro e v1 ⟨rfl, hv1⟩; obtain ⟨vc1, vf1⟩ := bcell hv1; have vs1 : w.heap.size + 1 < v1.heap.size := (by have := hv1.size; simp at this; omega); have vs0 : w.heap.size < v1.heap.size := (by omega)))
    rw [hv'.out]
    have hB1 : Below w.heap.size w v1 := (((Below.refl _ _).alloc (Nat.le_refl _) _).alloc (by simp) _).trans (hv1.mono (by simp; omega))
    have hr : v1.heap[w.heap.size]? = some (.cells #[.int .i64 0, .int .i64 0, .int .i64 0, .int .i64 0, .int .i64 0] 47 (0, 0)) := (hv1.block _ (by simp only [World.size_alloc]; omega)).trans ((Below.heap_alloc _ _ _ (by simp only [World.size_alloc]; omega)).trans (MapKept.heap_alloc w _).1)
    have q0 := cell_heap hr 0 _ rfl
    have q1 := cell_heap hr 1 _ rfl
    have q2 := cell_heap hr 2 _ rfl
    have q3 := cell_heap hr 3 _ rfl
    have q4 := cell_heap hr 4 _ rfl
    first
    | exact bodyPost_ret (v := .tuple #[insV (wd n / 16777216) (bits .and .i64 (wd n / 1048576) 15) (bits .and .i64 (wd n / 65536) 15) (bits .and .i64 (wd n / 4096) 15) 0, i64 0]) (by simp [results, Tryz.results24, go_sem, q0, q1, q2, q3, q4]) rfl ⟨rfl, by clear hv1 vc1 vf1; go_grown⟩
    | exact bodyPost_ret (v := .tuple #[insV 0 0 0 0 0, i64 5]) (by simp [results, Tryz.results24, go_sem, q0, q1, q2, q3, q4]) rfl ⟨rfl, by clear hv1 vc1 vf1; go_grown⟩
set_option maxHeartbeats 4000000 in
theorem rdecode_2 (n : Int) (hF : dF (wd n) = 2) (w : World) : Calls Tryz.prog 24 #[i64 n] w fun e w' => e = .returned (decV (wd n)) ∧ Below w.heap.size w w' := by
  have hC : fC (opF (wd n / 16777216)) = 73 := by show fC (dF (wd n)) = 73; rw [hF]; rfl
  have hx0 := wd_lo n
  have hx1 := wd_hi n
  have hfd : RFound (wd n) (bits .and .i64 (wd n / 1048576) 15) (bits .and .i64 (wd n / 65536) 15) 0 (sg (ex (wd n) 16)) := found_same _ _ _ _ _ (by rw [low_four]; unfold dA; rw [hF]; rfl) (by rw [low_four]; unfold dB; rw [hF]; rfl) (by unfold dC; rw [hF]; rfl) (by unfold dM; rw [hF]; rfl)
  clear hF
  rcases hfd with ⟨hv, hE, hW⟩ | ⟨hv, hE⟩ | ⟨hv, hE, hW⟩
  all_goals
    have hv' := Lib.hid hv
    clear hv
    go_enter Tryz.func24, Tryz.ntmps24
    go_wp2_with (first | (go_at_call 19; refine (w_says _ _).mono ?_; rintro e w' ⟨rfl, rfl⟩) | (go_at_call 37; refine (form_says _ _).mono ?_; rintro e w' ⟨rfl, rfl⟩) | (go_at_call 46; refine (rextend_says _ _ _).mono ?_; rintro e w' ⟨rfl, rfl⟩) | (go_at_call 45; refine (rsigned_says _ _).mono ?_; rintro e w' ⟨rfl, rfl⟩) | (go_at_call 18; (with_reducible refine (rencode_says _ _ _ _ _ _).mono ?_); rintro e v1 ⟨rfl, hv1⟩; obtain ⟨vc1, vf1⟩ := bcell hv1; have vs1 : w.heap.size + 1 < v1.heap.size := (by have := hv1.size; simp at this; omega); have vs0 : w.heap.size < v1.heap.size := (by omega)))
    rw [hv'.out]
    have hB1 : Below w.heap.size w v1 := (((Below.refl _ _).alloc (Nat.le_refl _) _).alloc (by simp) _).trans (hv1.mono (by simp; omega))
    have hr : v1.heap[w.heap.size]? = some (.cells #[.int .i64 0, .int .i64 0, .int .i64 0, .int .i64 0, .int .i64 0] 47 (0, 0)) := (hv1.block _ (by simp only [World.size_alloc]; omega)).trans ((Below.heap_alloc _ _ _ (by simp only [World.size_alloc]; omega)).trans (MapKept.heap_alloc w _).1)
    have q0 := cell_heap hr 0 _ rfl
    have q1 := cell_heap hr 1 _ rfl
    have q2 := cell_heap hr 2 _ rfl
    have q3 := cell_heap hr 3 _ rfl
    have q4 := cell_heap hr 4 _ rfl
    first
    | exact bodyPost_ret (v := .tuple #[insV (wd n / 16777216) (bits .and .i64 (wd n / 1048576) 15) (bits .and .i64 (wd n / 65536) 15) 0 (sg (ex (wd n) 16)), i64 0]) (by simp [results, Tryz.results24, go_sem, q0, q1, q2, q3, q4]) rfl ⟨rfl, by clear hv1 vc1 vf1; go_grown⟩
    | exact bodyPost_ret (v := .tuple #[insV 0 0 0 0 0, i64 5]) (by simp [results, Tryz.results24, go_sem, q0, q1, q2, q3, q4]) rfl ⟨rfl, by clear hv1 vc1 vf1; go_grown⟩
set_option maxHeartbeats 4000000 in
theorem rdecode_3 (n : Int) (hF : dF (wd n) = 3) (w : World) : Calls Tryz.prog 24 #[i64 n] w fun e w' => e = .returned (decV (wd n)) ∧ Below w.heap.size w w' := by
  have hC : fC (opF (wd n / 16777216)) = 85 := by show fC (dF (wd n)) = 85; rw [hF]; rfl
  have hx0 := wd_lo n
  have hx1 := wd_hi n
  have hfd : RFound (wd n) (bits .and .i64 (wd n / 1048576) 15) (bits .and .i64 (wd n / 65536) 15) 0 (bits .and .i64 (wd n) 65535) := found_same _ _ _ _ _ (by rw [low_four]; unfold dA; rw [hF]; rfl) (by rw [low_four]; unfold dB; rw [hF]; rfl) (by unfold dC; rw [hF]; rfl) (by unfold dM; rw [hF, mask64_16]; exact (bt_16 _ hx0 hx1).symm)
  clear hF
  rcases hfd with ⟨hv, hE, hW⟩ | ⟨hv, hE⟩ | ⟨hv, hE, hW⟩
  all_goals
    have hv' := Lib.hid hv
    clear hv
    go_enter Tryz.func24, Tryz.ntmps24
    go_wp2_with (first | (go_at_call 19; refine (w_says _ _).mono ?_; rintro e w' ⟨rfl, rfl⟩) | (go_at_call 37; refine (form_says _ _).mono ?_; rintro e w' ⟨rfl, rfl⟩) | (go_at_call 46; refine (rextend_says _ _ _).mono ?_; rintro e w' ⟨rfl, rfl⟩) | (go_at_call 45; refine (rsigned_says _ _).mono ?_; rintro e w' ⟨rfl, rfl⟩) | (go_at_call 18; (with_reducible refine (rencode_says _ _ _ _ _ _).mono ?_); rintro e v1 ⟨rfl, hv1⟩; obtain ⟨vc1, vf1⟩ := bcell hv1; have vs1 : w.heap.size + 1 < v1.heap.size := (by have := hv1.size; simp at this; omega); have vs0 : w.heap.size < v1.heap.size := (by omega)))
    rw [hv'.out]
    have hB1 : Below w.heap.size w v1 := (((Below.refl _ _).alloc (Nat.le_refl _) _).alloc (by simp) _).trans (hv1.mono (by simp; omega))
    have hr : v1.heap[w.heap.size]? = some (.cells #[.int .i64 0, .int .i64 0, .int .i64 0, .int .i64 0, .int .i64 0] 47 (0, 0)) := (hv1.block _ (by simp only [World.size_alloc]; omega)).trans ((Below.heap_alloc _ _ _ (by simp only [World.size_alloc]; omega)).trans (MapKept.heap_alloc w _).1)
    have q0 := cell_heap hr 0 _ rfl
    have q1 := cell_heap hr 1 _ rfl
    have q2 := cell_heap hr 2 _ rfl
    have q3 := cell_heap hr 3 _ rfl
    have q4 := cell_heap hr 4 _ rfl
    first
    | exact bodyPost_ret (v := .tuple #[insV (wd n / 16777216) (bits .and .i64 (wd n / 1048576) 15) (bits .and .i64 (wd n / 65536) 15) 0 (bits .and .i64 (wd n) 65535), i64 0]) (by simp [results, Tryz.results24, go_sem, q0, q1, q2, q3, q4]) rfl ⟨rfl, by clear hv1 vc1 vf1; go_grown⟩
    | exact bodyPost_ret (v := .tuple #[insV 0 0 0 0 0, i64 5]) (by simp [results, Tryz.results24, go_sem, q0, q1, q2, q3, q4]) rfl ⟨rfl, by clear hv1 vc1 vf1; go_grown⟩
set_option maxHeartbeats 4000000 in
theorem rdecode_4 (n : Int) (hF : dF (wd n) = 4) (w : World) : Calls Tryz.prog 24 #[i64 n] w fun e w' => e = .returned (decV (wd n)) ∧ Below w.heap.size w w' := by
  have hC : fC (opF (wd n / 16777216)) = 72 := by show fC (dF (wd n)) = 72; rw [hF]; rfl
  have hx0 := wd_lo n
  have hx1 := wd_hi n
  have hfd : RFound (wd n) (bits .and .i64 (wd n / 1048576) 15) (bits .and .i64 (wd n / 65536) 15) 0 (bits .and .i64 (wd n) 65535) := found_same _ _ _ _ _ (by rw [low_four]; unfold dA; rw [hF]; rfl) (by rw [low_four]; unfold dB; rw [hF]; rfl) (by unfold dC; rw [hF]; rfl) (by unfold dM; rw [hF, mask64_16]; exact (bt_16 _ hx0 hx1).symm)
  clear hF
  rcases hfd with ⟨hv, hE, hW⟩ | ⟨hv, hE⟩ | ⟨hv, hE, hW⟩
  all_goals
    have hv' := Lib.hid hv
    clear hv
    go_enter Tryz.func24, Tryz.ntmps24
    go_wp2_with (first | (go_at_call 19; refine (w_says _ _).mono ?_; rintro e w' ⟨rfl, rfl⟩) | (go_at_call 37; refine (form_says _ _).mono ?_; rintro e w' ⟨rfl, rfl⟩) | (go_at_call 46; refine (rextend_says _ _ _).mono ?_; rintro e w' ⟨rfl, rfl⟩) | (go_at_call 45; refine (rsigned_says _ _).mono ?_; rintro e w' ⟨rfl, rfl⟩) | (go_at_call 18; (with_reducible refine (rencode_says _ _ _ _ _ _).mono ?_); rintro e v1 ⟨rfl, hv1⟩; obtain ⟨vc1, vf1⟩ := bcell hv1; have vs1 : w.heap.size + 1 < v1.heap.size := (by have := hv1.size; simp at this; omega); have vs0 : w.heap.size < v1.heap.size := (by omega)))
    rw [hv'.out]
    have hB1 : Below w.heap.size w v1 := (((Below.refl _ _).alloc (Nat.le_refl _) _).alloc (by simp) _).trans (hv1.mono (by simp; omega))
    have hr : v1.heap[w.heap.size]? = some (.cells #[.int .i64 0, .int .i64 0, .int .i64 0, .int .i64 0, .int .i64 0] 47 (0, 0)) := (hv1.block _ (by simp only [World.size_alloc]; omega)).trans ((Below.heap_alloc _ _ _ (by simp only [World.size_alloc]; omega)).trans (MapKept.heap_alloc w _).1)
    have q0 := cell_heap hr 0 _ rfl
    have q1 := cell_heap hr 1 _ rfl
    have q2 := cell_heap hr 2 _ rfl
    have q3 := cell_heap hr 3 _ rfl
    have q4 := cell_heap hr 4 _ rfl
    first
    | exact bodyPost_ret (v := .tuple #[insV (wd n / 16777216) (bits .and .i64 (wd n / 1048576) 15) (bits .and .i64 (wd n / 65536) 15) 0 (bits .and .i64 (wd n) 65535), i64 0]) (by simp [results, Tryz.results24, go_sem, q0, q1, q2, q3, q4]) rfl ⟨rfl, by clear hv1 vc1 vf1; go_grown⟩
    | exact bodyPost_ret (v := .tuple #[insV 0 0 0 0 0, i64 5]) (by simp [results, Tryz.results24, go_sem, q0, q1, q2, q3, q4]) rfl ⟨rfl, by clear hv1 vc1 vf1; go_grown⟩
end Go.Proofs.YtfcmodllbhpniaaGreatDoor
set_option maxRecDepth 100000
set_option linter.unusedVariables false
namespace Go.Proofs.YtfcmodllbhpniaaGreatDoor
open Go.ChangeShapes Go.WideShapes Go.ChangeAt Go.RowKit
set_option maxHeartbeats 4000000 in
theorem rdecode_5 (n : Int) (hF : dF (wd n) = 5) (w : World) : Calls Tryz.prog 24 #[i64 n] w fun e w' => e = .returned (decV (wd n)) ∧ Below w.heap.size w w' := by
  have hC : fC (opF (wd n / 16777216)) = 76 := by show fC (dF (wd n)) = 76; rw [hF]; rfl
  have hx0 := wd_lo n
  have hx1 := wd_hi n
  have hfd : RFound (wd n) (bits .and .i64 (wd n / 1048576) 15) 0 0 (bits .and .i64 (wd n) 65535) := found_same _ _ _ _ _ (by rw [low_four]; unfold dA; rw [hF]; rfl) (by unfold dB; rw [hF]; rfl) (by unfold dC; rw [hF]; rfl) (by unfold dM; rw [hF, mask64_16]; exact (bt_16 _ hx0 hx1).symm)
  clear hF
  rcases hfd with ⟨hv, hE, hW⟩ | ⟨hv, hE⟩ | ⟨hv, hE, hW⟩
  all_goals
    have hv' := Lib.hid hv
    clear hv
    go_enter Tryz.func24, Tryz.ntmps24
    go_wp2_with (first | (go_at_call 19; refine (w_says _ _).mono ?_; rintro e w' ⟨rfl, rfl⟩) | (go_at_call 37; refine (form_says _ _).mono ?_; rintro e w' ⟨rfl, rfl⟩) | (go_at_call 46; refine (rextend_says _ _ _).mono ?_; rintro e w' ⟨rfl, rfl⟩) | (go_at_call 45; refine (rsigned_says _ _).mono ?_; rintro e w' ⟨rfl, rfl⟩) | (go_at_call 18; (with_reducible refine (rencode_says _ _ _ _ _ _).mono ?_); rintro e v1 ⟨rfl, hv1⟩; obtain ⟨vc1, vf1⟩ := bcell hv1; have vs1 : w.heap.size + 1 < v1.heap.size := (by have := hv1.size; simp at this; omega); have vs0 : w.heap.size < v1.heap.size := (by omega)))
    rw [hv'.out]
    have hB1 : Below w.heap.size w v1 := (((Below.refl _ _).alloc (Nat.le_refl _) _).alloc (by simp) _).trans (hv1.mono (by simp; omega))
    have hr : v1.heap[w.heap.size]? = some (.cells #[.int .i64 0, .int .i64 0, .int .i64 0, .int .i64 0, .int .i64 0] 47 (0, 0)) := (hv1.block _ (by simp only [World.size_alloc]; omega)).trans ((Below.heap_alloc _ _ _ (by simp only [World.size_alloc]; omega)).trans (MapKept.heap_alloc w _).1)
    have q0 := cell_heap hr 0 _ rfl
    have q1 := cell_heap hr 1 _ rfl
    have q2 := cell_heap hr 2 _ rfl
    have q3 := cell_heap hr 3 _ rfl
    have q4 := cell_heap hr 4 _ rfl
    first
    | exact bodyPost_ret (v := .tuple #[insV (wd n / 16777216) (bits .and .i64 (wd n / 1048576) 15) 0 0 (bits .and .i64 (wd n) 65535), i64 0]) (by simp [results, Tryz.results24, go_sem, q0, q1, q2, q3, q4]) rfl ⟨rfl, by clear hv1 vc1 vf1; go_grown⟩
    | exact bodyPost_ret (v := .tuple #[insV 0 0 0 0 0, i64 5]) (by simp [results, Tryz.results24, go_sem, q0, q1, q2, q3, q4]) rfl ⟨rfl, by clear hv1 vc1 vf1; go_grown⟩
set_option maxHeartbeats 4000000 in
theorem rdecode_6 (n : Int) (hF : dF (wd n) = 6) (w : World) : Calls Tryz.prog 24 #[i64 n] w fun e w' => e = .returned (decV (wd n)) ∧ Below w.heap.size w w' := by
  have hC : fC (opF (wd n / 16777216)) = 74 := by show fC (dF (wd n)) = 74; rw [hF]; rfl
  have hx0 := wd_lo n
  have hx1 := wd_hi n
  have hfd : RFound (wd n) (bits .and .i64 (wd n / 1048576) 15) 0 0 (sg (ex (wd n) 20)) := found_same _ _ _ _ _ (by rw [low_four]; unfold dA; rw [hF]; rfl) (by unfold dB; rw [hF]; rfl) (by unfold dC; rw [hF]; rfl) (by unfold dM; rw [hF]; rfl)
  clear hF
  rcases hfd with ⟨hv, hE, hW⟩ | ⟨hv, hE⟩ | ⟨hv, hE, hW⟩
  all_goals
    have hv' := Lib.hid hv
    clear hv
    go_enter Tryz.func24, Tryz.ntmps24
    go_wp2_with (first | (go_at_call 19; refine (w_says _ _).mono ?_; rintro e w' ⟨rfl, rfl⟩) | (go_at_call 37; refine (form_says _ _).mono ?_; rintro e w' ⟨rfl, rfl⟩) | (go_at_call 46; refine (rextend_says _ _ _).mono ?_; rintro e w' ⟨rfl, rfl⟩) | (go_at_call 45; refine (rsigned_says _ _).mono ?_; rintro e w' ⟨rfl, rfl⟩) | (go_at_call 18; (with_reducible refine (rencode_says _ _ _ _ _ _).mono ?_); rintro e v1 ⟨rfl, hv1⟩; obtain ⟨vc1, vf1⟩ := bcell hv1; have vs1 : w.heap.size + 1 < v1.heap.size := (by have := hv1.size; simp at this; omega); have vs0 : w.heap.size < v1.heap.size := (by omega)))
    rw [hv'.out]
    have hB1 : Below w.heap.size w v1 := (((Below.refl _ _).alloc (Nat.le_refl _) _).alloc (by simp) _).trans (hv1.mono (by simp; omega))
    have hr : v1.heap[w.heap.size]? = some (.cells #[.int .i64 0, .int .i64 0, .int .i64 0, .int .i64 0, .int .i64 0] 47 (0, 0)) := (hv1.block _ (by simp only [World.size_alloc]; omega)).trans ((Below.heap_alloc _ _ _ (by simp only [World.size_alloc]; omega)).trans (MapKept.heap_alloc w _).1)
    have q0 := cell_heap hr 0 _ rfl
    have q1 := cell_heap hr 1 _ rfl
    have q2 := cell_heap hr 2 _ rfl
    have q3 := cell_heap hr 3 _ rfl
    have q4 := cell_heap hr 4 _ rfl
    first
    | exact bodyPost_ret (v := .tuple #[insV (wd n / 16777216) (bits .and .i64 (wd n / 1048576) 15) 0 0 (sg (ex (wd n) 20)), i64 0]) (by simp [results, Tryz.results24, go_sem, q0, q1, q2, q3, q4]) rfl ⟨rfl, by clear hv1 vc1 vf1; go_grown⟩
    | exact bodyPost_ret (v := .tuple #[insV 0 0 0 0 0, i64 5]) (by simp [results, Tryz.results24, go_sem, q0, q1, q2, q3, q4]) rfl ⟨rfl, by clear hv1 vc1 vf1; go_grown⟩
set_option maxHeartbeats 4000000 in
theorem rdecode_7 (n : Int) (hF : dF (wd n) = 7) (w : World) : Calls Tryz.prog 24 #[i64 n] w fun e w' => e = .returned (decV (wd n)) ∧ Below w.heap.size w w' := by
  have hC : fC (opF (wd n / 16777216)) = 67 := by show fC (dF (wd n)) = 67; rw [hF]; rfl
  have hx0 := wd_lo n
  have hx1 := wd_hi n
  have hfd : RFound (wd n) (bits .and .i64 (wd n / 1048576) 15) 0 0 (bits .and .i64 (wd n) 65535) := found_same _ _ _ _ _ (by rw [low_four]; unfold dA; rw [hF]; rfl) (by unfold dB; rw [hF]; rfl) (by unfold dC; rw [hF]; rfl) (by unfold dM; rw [hF, mask64_16]; exact (bt_16 _ hx0 hx1).symm)
  clear hF
  rcases hfd with ⟨hv, hE, hW⟩ | ⟨hv, hE⟩ | ⟨hv, hE, hW⟩
  all_goals
    have hv' := Lib.hid hv
    clear hv
    go_enter Tryz.func24, Tryz.ntmps24
    go_wp2_with (first | (go_at_call 19; refine (w_says _ _).mono ?_; rintro e w' ⟨rfl, rfl⟩) | (go_at_call 37; refine (form_says _ _).mono ?_; rintro e w' ⟨rfl, rfl⟩) | (go_at_call 46; refine (rextend_says _ _ _).mono ?_; rintro e w' ⟨rfl, rfl⟩) | (go_at_call 45; refine (rsigned_says _ _).mono ?_; rintro e w' ⟨rfl, rfl⟩) | (go_at_call 18; (with_reducible refine (rencode_says _ _ _ _ _ _).mono ?_); rintro e v1 ⟨rfl, hv1⟩; obtain ⟨vc1, vf1⟩ := bcell hv1; have vs1 : w.heap.size + 1 < v1.heap.size := (by have := hv1.size; simp at this; omega); have vs0 : w.heap.size < v1.heap.size := (by omega)))
    rw [hv'.out]
    have hB1 : Below w.heap.size w v1 := (((Below.refl _ _).alloc (Nat.le_refl _) _).alloc (by simp) _).trans (hv1.mono (by simp; omega))
    have hr : v1.heap[w.heap.size]? = some (.cells #[.int .i64 0, .int .i64 0, .int .i64 0, .int .i64 0, .int .i64 0] 47 (0, 0)) := (hv1.block _ (by simp only [World.size_alloc]; omega)).trans ((Below.heap_alloc _ _ _ (by simp only [World.size_alloc]; omega)).trans (MapKept.heap_alloc w _).1)
    have q0 := cell_heap hr 0 _ rfl
    have q1 := cell_heap hr 1 _ rfl
    have q2 := cell_heap hr 2 _ rfl
    have q3 := cell_heap hr 3 _ rfl
    have q4 := cell_heap hr 4 _ rfl
    first
    | exact bodyPost_ret (v := .tuple #[insV (wd n / 16777216) (bits .and .i64 (wd n / 1048576) 15) 0 0 (bits .and .i64 (wd n) 65535), i64 0]) (by simp [results, Tryz.results24, go_sem, q0, q1, q2, q3, q4]) rfl ⟨rfl, by clear hv1 vc1 vf1; go_grown⟩
    | exact bodyPost_ret (v := .tuple #[insV 0 0 0 0 0, i64 5]) (by simp [results, Tryz.results24, go_sem, q0, q1, q2, q3, q4]) rfl ⟨rfl, by clear hv1 vc1 vf1; go_grown⟩
set_option maxHeartbeats 4000000 in
theorem rdecode_8 (n : Int) (hF : dF (wd n) = 8) (w : World) : Calls Tryz.prog 24 #[i64 n] w fun e w' => e = .returned (decV (wd n)) ∧ Below w.heap.size w w' := by
  have hC : fC (opF (wd n / 16777216)) = 78 := by show fC (dF (wd n)) = 78; rw [hF]; rfl
  have hx0 := wd_lo n
  have hx1 := wd_hi n
  have hfd : RFound (wd n) (bits .and .i64 (wd n / 1048576) 15) 0 0 0 := found_bare _ _ hF (low_four _)
  clear hF
  rcases hfd with ⟨hv, hE, hW⟩ | ⟨hv, hE⟩ | ⟨hv, hE, hW⟩
  all_goals
    have hv' := Lib.hid hv
    clear hv
    go_enter Tryz.func24, Tryz.ntmps24
    go_wp2_with (first | (go_at_call 19; refine (w_says _ _).mono ?_; rintro e w' ⟨rfl, rfl⟩) | (go_at_call 37; refine (form_says _ _).mono ?_; rintro e w' ⟨rfl, rfl⟩) | (go_at_call 46; refine (rextend_says _ _ _).mono ?_; rintro e w' ⟨rfl, rfl⟩) | (go_at_call 45; refine (rsigned_says _ _).mono ?_; rintro e w' ⟨rfl, rfl⟩) | (go_at_call 18; (with_reducible refine (rencode_says _ _ _ _ _ _).mono ?_); rintro e v1 ⟨rfl, hv1⟩; obtain ⟨vc1, vf1⟩ := bcell hv1; have vs1 : w.heap.size + 1 < v1.heap.size := (by have := hv1.size; simp at this; omega); have vs0 : w.heap.size < v1.heap.size := (by omega)))
    rw [hv'.out]
    have hB1 : Below w.heap.size w v1 := (((Below.refl _ _).alloc (Nat.le_refl _) _).alloc (by simp) _).trans (hv1.mono (by simp; omega))
    have hr : v1.heap[w.heap.size]? = some (.cells #[.int .i64 0, .int .i64 0, .int .i64 0, .int .i64 0, .int .i64 0] 47 (0, 0)) := (hv1.block _ (by simp only [World.size_alloc]; omega)).trans ((Below.heap_alloc _ _ _ (by simp only [World.size_alloc]; omega)).trans (MapKept.heap_alloc w _).1)
    have q0 := cell_heap hr 0 _ rfl
    have q1 := cell_heap hr 1 _ rfl
    have q2 := cell_heap hr 2 _ rfl
    have q3 := cell_heap hr 3 _ rfl
    have q4 := cell_heap hr 4 _ rfl
    first
    | exact bodyPost_ret (v := .tuple #[insV (wd n / 16777216) (bits .and .i64 (wd n / 1048576) 15) 0 0 0, i64 0]) (by simp [results, Tryz.results24, go_sem, q0, q1, q2, q3, q4]) rfl ⟨rfl, by clear hv1 vc1 vf1; go_grown⟩
    | exact bodyPost_ret (v := .tuple #[insV 0 0 0 0 0, i64 5]) (by simp [results, Tryz.results24, go_sem, q0, q1, q2, q3, q4]) rfl ⟨rfl, by clear hv1 vc1 vf1; go_grown⟩
/-- The document's own Decode of every number: the same. -/
theorem rdecode_says (n : Int) (w : World) : Calls Tryz.prog 24 #[i64 n] w fun e w' => e = .returned (decV (wd n)) ∧ Below w.heap.size w w' := by
  have hf := opF_bd (dO (wd n))
  rcases f_cases (dF (wd n)) hf.1 hf.2 with h | h | h | h | h | h | h | h | h
  · exact rdecode_0 n h w
  · exact rdecode_1 n h w
  · exact rdecode_2 n h w
  · exact rdecode_3 n h w
  · exact rdecode_4 n h w
  · exact rdecode_5 n h w
  · exact rdecode_6 n h w
  · exact rdecode_7 n h w
  · exact rdecode_8 n h w
end Go.Proofs.YtfcmodllbhpniaaGreatDoor
