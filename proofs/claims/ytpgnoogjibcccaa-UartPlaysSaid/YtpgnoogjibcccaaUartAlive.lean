
/-
  A new Uart of either package; trunnionlaw7.alive.
-/
import Derived.Test.YtpgnoogjibcccaaUartRef2
import Derived.Test.YtpgnoogjibcccaaUartOut
import Derived.Deep.Cut
namespace Go.Proofs.Ytpgnoogjibcccaa.Ser
open Go.Proofs.Ytpgnoogjibcccaa
open Go.ChangeShapes Go.WideShapes Go.ChangeAt Go.RowKit
/-- The cells of a new Uart. -/
abbrev uz : Array Value := #[.int .u8 0, .int .u8 0, .int .u8 0, .int .u8 0, .int .u8 0, .int .u8 0, .int .u8 0, .int .u8 0, .int .u8 0, .int .u8 0, .int .u8 0, .int .u8 0, .int .u8 0, .int .u8 0, .int .u8 0, .int .u8 0, .int .i64 0, .int .i64 0, .slice none 0 0]
theorem uz_uc : uz = uc (List.replicate 16 0) 0 0 (.slice none 0 0) := rfl
theorem new_ua (w : World) : ∃ F, (Ua w.heap.size [] []).is (w.alloc (.cells uz 28)) F ∧ ∀ i, F i → w.heap.size ≤ i := by
  refine ⟨_, ⟨List.replicate 16 0, 0, .slice none 0 0, ⟨by rw [uz_uc]; exact heap_alloc_new _ _, by simp, by omega, fun j hj => by simp at hj, by simp, fun b hb => by simp at hb, fun b hb => by simp at hb, own_nil _ _, by simp [Value.ownBlock]⟩, rfl⟩, ?_⟩
  rintro i (rfl | hi)
  · exact Nat.le_refl _
  · simp [Value.ownBlock] at hi
theorem new_ru (w : World) : ∃ F, (Ru w.heap.size [] []).is (w.alloc (.cells #[.slice none 0 0, .slice none 0 0] 31)) F ∧ ∀ i, F i → w.heap.size ≤ i := by
  refine ⟨_, ⟨none, 0, .slice none 0 0, ⟨heap_alloc_new _ _, fun h => by simp at h, fun _ => rfl, by simp, by omega, fun i hi => by simp [blk] at hi, by simp, fun b hb => by simp at hb, fun b hb => by simp at hb, own_nil _ _, by simp [Value.ownBlock], by simp [blk], fun i hi => by simp [blk] at hi⟩, rfl⟩, ?_⟩
  rintro i (rfl | hi | hi)
  · exact Nat.le_refl _
  · simp [Value.ownBlock] at hi
  · simp [blk] at hi
theorem alive_in : uin [] 65 = [65] := rfl
theorem alive_v1 : ulv [65] 4 = 65 := rfl
theorem alive_r1 : ulr [65] 4 = [] := rfl
theorem alive_v2 : ulv [] 4 = 4294967295 := rfl
theorem alive_r2 : ulr [] 4 = [] := rfl
set_option maxRecDepth 100000 in
theorem alive7_says (w : World) : Calls Try.prog 5 #[] w fun e w' => e = .returned (.bool true) ∧ Below w.heap.size w w' := by
  obtain ⟨F, p, n⟩ := new_ua w
  have B0 := Below.refl w.heap.size w
  have S0 := (Sep.begin B0).lay1 ((Below.refl w.heap.size w).alloc (Nat.le_refl _) _) p n
  have H0 := Lib.hid S0
  clear p n S0
  go_enter Try.func5, Try.ntmps5
  go_upto_region 3 with (go_at_call 6; go_loud (refine (H0.out.call1 (in_says _ _ _ _)).mono ?_; rintro e w1 ⟨rfl, S1⟩; rw [alive_in] at S1; clear H0))
  go_upto_region 4 with (go_at_call 9; refine (S1.call1 (load_says _ _ _ 4 (by omega))).mono ?_; rintro e w2 ⟨rfl, S2⟩; rw [alive_r1] at S2; rw [alive_v1]; clear S1)
  go_upto_region 5 with (go_at_call 9; refine (S2.call1 (load_says _ _ _ 4 (by omega))).mono ?_; rintro e w3 ⟨rfl, S3⟩; rw [alive_r2] at S3; rw [alive_v2]; clear S2)
  go_wp2
  go_ret
  exact ⟨rfl, S3.b⟩
end Go.Proofs.Ytpgnoogjibcccaa.Ser
