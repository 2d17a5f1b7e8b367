
/-
  The contract of the document's own answer Decode: the other forms, and all.
-/
import Derived.Test.YtfhfgogiijcmbaaDoorIsaRDecA
namespace Go.Proofs.YtfhfgogiijcmbaaDoor
open Go.ChangeShapes Go.WideShapes Go.ChangeAt Go.RowKit
set_option maxHeartbeats 4000000 in
theorem rdecode_5 (n : Int) (hF : dF (wd n) = 5) (w : World) : Calls Tryd.prog 16 #[i64 n] w fun e w' => e = .returned (decV (wd n)) ∧ Below w.heap.size w w' := by
  have hC : fC (opF (wd n / 16777216)) = 76 := by show fC (dF (wd n)) = 76; rw [hF]; rfl
  have hx0 := wd_lo n
  have hx1 := wd_hi n
  have hfd : Found (wd n) (bits .and .i64 (wd n / 1048576) 15) 0 0 (bits .and .i64 (wd n) 65535) := found_same _ _ _ _ _ (by rw [four]; unfold dA; rw [hF]; rfl) (by unfold dB; rw [hF]; rfl) (by unfold dC; rw [hF]; rfl) (by unfold dM; rw [hF, mask64_16]; exact (bt_16 _ hx0 hx1).symm)
  clear hF
  rcases hfd with ⟨hv, hE, hW⟩ | ⟨hv, hE⟩ | ⟨hv, hE, hW⟩
  all_goals
    have hv' := Lib.hid hv
    clear hv
    go_enter Tryd.func16, Tryd.ntmps16
    go_wp2_with (first | (go_at_call 17; refine (w_says _ _).mono ?_; rintro e w' ⟨rfl, rfl⟩) | (go_at_call 18; refine (form_says _ _).mono ?_; rintro e w' ⟨rfl, rfl⟩) | (go_at_call 31; refine (rextend_says _ _ _).mono ?_; rintro e w' ⟨rfl, rfl⟩) | (go_at_call 30; refine (rsigned_says _ _).mono ?_; rintro e w' ⟨rfl, rfl⟩) | (go_at_call 13; (with_reducible refine (rencode_says _ _ _ _ _ _).mono ?_); rintro e v1 ⟨rfl, hv1⟩; obtain ⟨vc1, vf1⟩ := bcell hv1; have vs1 : w.heap.size + 1 < v1.heap.size := (by have := hv1.size; simp at this; omega); have vs0 : w.heap.size < v1.heap.size := (by omega)))
    rw [hv'.out]
    have hB1 : Below w.heap.size w v1 := (((Below.refl _ _).alloc (Nat.le_refl _) _).alloc (by simp) _).trans (hv1.mono (by simp; omega))
    have hr : v1.heap[w.heap.size]? = some (.cells #[.int .i64 0, .int .i64 0, .int .i64 0, .int .i64 0, .int .i64 0] 23 (0, 0)) := (hv1.block _ (by simp only [World.size_alloc]; omega)).trans ((Below.heap_alloc _ _ _ (by simp only [World.size_alloc]; omega)).trans (MapKept.heap_alloc w _).1)
    have q0 := cell_heap hr 0 _ rfl
    have q1 := cell_heap hr 1 _ rfl
    have q2 := cell_heap hr 2 _ rfl
    have q3 := cell_heap hr 3 _ rfl
    have q4 := cell_heap hr 4 _ rfl
    first
    | exact bodyPost_ret (v := .tuple #[insV (wd n / 16777216) (bits .and .i64 (wd n / 1048576) 15) 0 0 (bits .and .i64 (wd n) 65535), i64 0]) (by simp [results, Tryd.results16, go_sem, q0, q1, q2, q3, q4]) rfl ⟨rfl, by clear hv1 vc1 vf1; go_grown⟩
    | exact bodyPost_ret (v := .tuple #[insV 0 0 0 0 0, i64 5]) (by simp [results, Tryd.results16, go_sem, q0, q1, q2, q3, q4]) rfl ⟨rfl, by clear hv1 vc1 vf1; go_grown⟩
set_option maxHeartbeats 4000000 in
theorem rdecode_6 (n : Int) (hF : dF (wd n) = 6) (w : World) : Calls Tryd.prog 16 #[i64 n] w fun e w' => e = .returned (decV (wd n)) ∧ Below w.heap.size w w' := by
  have hC : fC (opF (wd n / 16777216)) = 74 := by show fC (dF (wd n)) = 74; rw [hF]; rfl
  have hx0 := wd_lo n
  have hx1 := wd_hi n
  have hfd : Found (wd n) (bits .and .i64 (wd n / 1048576) 15) 0 0 (sg (ex (wd n) 20)) := found_same _ _ _ _ _ (by rw [four]; unfold dA; rw [hF]; rfl) (by unfold dB; rw [hF]; rfl) (by unfold dC; rw [hF]; rfl) (by unfold dM; rw [hF]; rfl)
  clear hF
  rcases hfd with ⟨hv, hE, hW⟩ | ⟨hv, hE⟩ | ⟨hv, hE, hW⟩
  all_goals
    have hv' := Lib.hid hv
    clear hv
    go_enter Tryd.func16, Tryd.ntmps16
    go_wp2_with (first | (go_at_call 17; refine (w_says _ _).mono ?_; rintro e w' ⟨rfl, rfl⟩) | (go_at_call 18; refine (form_says _ _).mono ?_; rintro e w' ⟨rfl, rfl⟩) | (go_at_call 31; refine (rextend_says _ _ _).mono ?_; rintro e w' ⟨rfl, rfl⟩) | (go_at_call 30; refine (rsigned_says _ _).mono ?_; rintro e w' ⟨rfl, rfl⟩) | (go_at_call 13; (with_reducible refine (rencode_says _ _ _ _ _ _).mono ?_); rintro e v1 ⟨rfl, hv1⟩; obtain ⟨vc1, vf1⟩ := bcell hv1; have vs1 : w.heap.size + 1 < v1.heap.size := (by have := hv1.size; simp at this; omega); have vs0 : w.heap.size < v1.heap.size := (by omega)))
    rw [hv'.out]
    have hB1 : Below w.heap.size w v1 := (((Below.refl _ _).alloc (Nat.le_refl _) _).alloc (by simp) _).trans (hv1.mono (by simp; omega))
    have hr : v1.heap[w.heap.size]? = some (.cells #[.int .i64 0, .int .i64 0, .int .i64 0, .int .i64 0, .int .i64 0] 23 (0, 0)) := (hv1.block _ (by simp only [World.size_alloc]; omega)).trans ((Below.heap_alloc _ _ _ (by simp only [World.size_alloc]; omega)).trans (MapKept.heap_alloc w _).1)
    have q0 := cell_heap hr 0 _ rfl
    have q1 := cell_heap hr 1 _ rfl
    have q2 := cell_heap hr 2 _ rfl
    have q3 := cell_heap hr 3 _ rfl
    have q4 := cell_heap hr 4 _ rfl
    first
    | exact bodyPost_ret (v := .tuple #[insV (wd n / 16777216) (bits .and .i64 (wd n / 1048576) 15) 0 0 (sg (ex (wd n) 20)), i64 0]) (by simp [results, Tryd.results16, go_sem, q0, q1, q2, q3, q4]) rfl ⟨rfl, by clear hv1 vc1 vf1; go_grown⟩
    | exact bodyPost_ret (v := .tuple #[insV 0 0 0 0 0, i64 5]) (by simp [results, Tryd.results16, go_sem, q0, q1, q2, q3, q4]) rfl ⟨rfl, by clear hv1 vc1 vf1; go_grown⟩
set_option maxHeartbeats 4000000 in
theorem rdecode_7 (n : Int) (hF : dF (wd n) = 7) (w : World) : Calls Tryd.prog 16 #[i64 n] w fun e w' => e = .returned (decV (wd n)) ∧ Below w.heap.size w w' := by
  have hC : fC (opF (wd n / 16777216)) = 67 := by show fC (dF (wd n)) = 67; rw [hF]; rfl
  have hx0 := wd_lo n
  have hx1 := wd_hi n
  have hfd : Found (wd n) (bits .and .i64 (wd n / 1048576) 15) 0 0 (bits .and .i64 (wd n) 65535) := found_same _ _ _ _ _ (by rw [four]; unfold dA; rw [hF]; rfl) (by unfold dB; rw [hF]; rfl) (by unfold dC; rw [hF]; rfl) (by unfold dM; rw [hF, mask64_16]; exact (bt_16 _ hx0 hx1).symm)
  clear hF
  rcases hfd with ⟨hv, hE, hW⟩ | ⟨hv, hE⟩ | ⟨hv, hE, hW⟩
  all_goals
    have hv' := Lib.hid hv
    clear hv
    go_enter Tryd.func16, Tryd.ntmps16
    go_wp2_with (first | (go_at_call 17; refine (w_says _ _).mono ?_; rintro e w' ⟨rfl, rfl⟩) | (go_at_call 18; refine (form_says _ _).mono ?_; rintro e w' ⟨rfl, rfl⟩) | (go_at_call 31; refine (rextend_says _ _ _).mono ?_; rintro e w' ⟨rfl, rfl⟩) | (go_at_call 30; refine (rsigned_says _ _).mono ?_; rintro e w' ⟨rfl, rfl⟩) | (go_at_call 13; (with_reducible refine (rencode_says _ _ _ _ _ _).mono ?_); rintro e v1 ⟨rfl, hv1⟩; obtain ⟨vc1, vf1⟩ := bcell hv1; have vs1 : w.heap.size + 1 < v1.heap.size := (by have := hv1.size; simp at this; omega); have vs0 : w.heap.size < v1.heap.size := (by omega)))
    rw [hv'.out]
    have hB1 : Below w.heap.size w v1 := (((Below.refl _ _).alloc (Nat.le_refl _) _).alloc (by simp) _).trans (hv1.mono (by simp; omega))
    have hr : v1.heap[w.heap.size]? = some (.cells #[.int .i64 0, .int .i64 0, .int .i64 0, .int .i64 0, .int .i64 0] 23 (0, 0)) := (hv1.block _ (by simp only [World.size_alloc]; omega)).trans ((Below.heap_alloc _ _ _ (by simp only [World.size_alloc]; omega)).trans (MapKept.heap_alloc w _).1)
    have q0 := cell_heap hr 0 _ rfl
    have q1 := cell_heap hr 1 _ rfl
    have q2 := cell_heap hr 2 _ rfl
    have q3 := cell_heap hr 3 _ rfl
    have q4 := cell_heap hr 4 _ rfl
    first
    | exact bodyPost_ret (v := .tuple #[insV (wd n / 16777216) (bits .and .i64 (wd n / 1048576) 15) 0 0 (bits .and .i64 (wd n) 65535), i64 0]) (by simp [results, Tryd.results16, go_sem, q0, q1, q2, q3, q4]) rfl ⟨rfl, by clear hv1 vc1 vf1; go_grown⟩
    | exact bodyPost_ret (v := .tuple #[insV 0 0 0 0 0, i64 5]) (by simp [results, Tryd.results16, go_sem, q0, q1, q2, q3, q4]) rfl ⟨rfl, by clear hv1 vc1 vf1; go_grown⟩
set_option maxHeartbeats 4000000 in
theorem rdecode_8 (n : Int) (hF : dF (wd n) = 8) (w : World) : Calls Tryd.prog 16 #[i64 n] w fun e w' => e = .returned (decV (wd n)) ∧ Below w.heap.size w w' := by
  have hC : fC (opF (wd n / 16777216)) = 78 := by show fC (dF (wd n)) = 78; rw [hF]; rfl
  have hx0 := wd_lo n
  have hx1 := wd_hi n
  have hfd : Found (wd n) (bits .and .i64 (wd n / 1048576) 15) 0 0 0 := found_bare _ _ hF (four _)
  clear hF
  rcases hfd with ⟨hv, hE, hW⟩ | ⟨hv, hE⟩ | ⟨hv, hE, hW⟩
  all_goals
    have hv' := Lib.hid hv
    clear hv
    go_enter Tryd.func16, Tryd.ntmps16
    go_wp2_with (first | (go_at_call 17; refine (w_says _ _).mono ?_; rintro e w' ⟨rfl, rfl⟩) | (go_at_call 18; refine (form_says _ _).mono ?_; rintro e w' ⟨rfl, rfl⟩) | (go_at_call 31; refine (rextend_says _ _ _).mono ?_; rintro e w' ⟨rfl, rfl⟩) | (go_at_call 30; refine (rsigned_says _ _).mono ?_; rintro e w' ⟨rfl, rfl⟩) | (go_at_call 13; (with_reducible refine (rencode_says _ _ _ _ _ _).mono ?_); rintro e v1 ⟨rfl, hv1⟩; obtain ⟨vc1, vf1⟩ := bcell hv1; have vs1 : w.heap.size + 1 < v1.heap.size := (by have := hv1.size; simp at this; omega); have vs0 : w.heap.size < v1.heap.size := (by omega)))
    rw [hv'.out]
    have hB1 : Below w.heap.size w v1 := (((Below.refl _ _).alloc (Nat.le_refl _) _).alloc (by simp) _).trans (hv1.mono (by simp; omega))
    have hr : v1.heap[w.heap.size]? = some (.cells #[.int .i64 0, .int .i64 0, .int .i64 0, .int .i64 0, .int .i64 0] 23 (0, 0)) := (hv1.block _ (by simp only [World.size_alloc]; omega)).trans ((Below.heap_alloc _ _ _ (by simp only [World.size_alloc]; omega)).trans (MapKept.heap_alloc w _).1)
    have q0 := cell_heap hr 0 _ rfl
    have q1 := cell_heap hr 1 _ rfl
    have q2 := cell_heap hr 2 _ rfl
    have q3 := cell_heap hr 3 _ rfl
    have q4 := cell_heap hr 4 _ rfl
    first
    | exact bodyPost_ret (v := .tuple #[insV (wd n / 16777216) (bits .and .i64 (wd n / 1048576) 15) 0 0 0, i64 0]) (by simp [results, Tryd.results16, go_sem, q0, q1, q2, q3, q4]) rfl ⟨rfl, by clear hv1 vc1 vf1; go_grown⟩
    | exact bodyPost_ret (v := .tuple #[insV 0 0 0 0 0, i64 5]) (by simp [results, Tryd.results16, go_sem, q0, q1, q2, q3, q4]) rfl ⟨rfl, by clear hv1 vc1 vf1; go_grown⟩
/-- The document's own Decode of every number: the same. -/
theorem rdecode_says (n : Int) (w : World) : Calls Tryd.prog 16 #[i64 n] w fun e w' => e = .returned (decV (wd n)) ∧ Below w.heap.size w w' := by
  have hf := opF_bd (dO (wd n))
  rcases f_cases (dF (wd n)) hf.1 hf.2 with h | h | h | h | h | h | h | h | h
  · exact rdecode_0 n h w
  · exact rdecode_1 n h w
  · exact rdecode_2 n h w
  · exact rdecode_3 n h w
  · exact rdecode_4 n h w
  · exact rdecode_5 n h w
  · exact rdecode_6 n h w
  · exact rdecode_7 n h w
  · exact rdecode_8 n h w
end Go.Proofs.YtfhfgogiijcmbaaDoor
