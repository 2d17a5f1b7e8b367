
/-
  The document's examples hold (alive), and small contracts of the laws' package and of the document's own Number and Show.
-/
import Derived.Test.YtpjonhcbhgalpaaDoorIsaShow
import Derived.Test.YtpjonhcbhgalpaaDoorIsaRDec
namespace Go.Proofs.YtpjonhcbhgalpaaDoor
open Go.ChangeShapes Go.WideShapes Go.ChangeAt Go.RowKit
theorem num_says (x : Int) : Says 13 #[i64 x] (i64 x) := by
  intro w
  go_enter Tryd.func13, Tryd.ntmps13
  go_wp2
  go_ret
  exact ⟨rfl, rfl⟩
theorem ex1 : encE 1 1 2 3 0 = 0 ∧ encW 1 1 2 3 0 = 17969152 := ⟨by kernel_rfl, by kernel_rfl⟩
theorem ex2 : encE 16 1 0 0 (-1) = 0 ∧ encW 16 1 0 0 (-1) = 269549567 := ⟨by kernel_rfl, by kernel_rfl⟩
theorem ex3 : encE 56 15 0 0 2 = 0 ∧ encW 56 15 0 0 2 = 955252738 := ⟨by kernel_rfl, by kernel_rfl⟩
theorem itoa0 : Lib.itoa 0 = [48] := by rw [show (0 : Int) = ((0 : Nat) : Int) from rfl, Lib.itoa_nonneg, Lib.decDigits_one (by decide)]; rfl
theorem itoa1 : Lib.itoa 1 = [49] := by rw [show (1 : Int) = ((1 : Nat) : Int) from rfl, Lib.itoa_nonneg, Lib.decDigits_one (by decide)]; rfl
theorem itoam1 : Lib.itoa (-1) = [45, 49] := by rw [show (-1 : Int) = -((1 : Nat) : Int) from rfl, Lib.itoa_neg 1 (by decide), Lib.decDigits_one (by decide)]; rfl
theorem ex4 : showS 16 1 0 0 (-1) = ⟨#[97, 100, 100, 105, 32, 114, 49, 44, 32, 114, 48, 44, 32, 45, 49]⟩ := by
  refine bytes_ext ?_
  have hR : fR (opF 16) = 2 := by kernel_rfl
  have hB : fB (opF 16) = 16 := by kernel_rfl
  have hN : (opN 16).data.toList = [97, 100, 100, 105] := by kernel_rfl
  unfold showS showL
  rw [if_pos ex2.1, hR, hB, hN]
  unfold tailL
  have hF : flds 2 16 1 0 0 (-1) = [[114, 49], [114, 48], [45, 49]] := by
    unfold flds rS; rw [itoa1, itoa0, itoam1]; rfl
  rw [hF]
  rfl
set_option maxHeartbeats 1000000 in
theorem alive_says (w : World) (hT : Tab w) : Calls Tryd.prog 5 #[] w fun e w' => e = .returned (.bool true) ∧ Below w.heap.size w w' := by
  obtain ⟨e1, f1⟩ := ex1
  obtain ⟨e2, f2⟩ := ex2
  obtain ⟨e3, f3⟩ := ex3
  have s4 := ex4
  go_enter Tryd.func5, Tryd.ntmps5
  go_wp2_with (first | (go_at_call 12; (with_reducible refine (encode_says 1 1 2 3 0 _).mono ?_); rintro e w1 ⟨rfl, hb1⟩) | (go_at_call 12; (with_reducible refine (encode_says 16 1 0 0 (-1) _).mono ?_); rintro e w2 ⟨rfl, hb2⟩) | (go_at_call 12; (with_reducible refine (encode_says 56 15 0 0 2 _).mono ?_); rintro e w3 ⟨rfl, hb3⟩; have hB3 : Below w.heap.size w w3 := (hb1.trans (hb2.mono hb1.size)).trans (hb3.mono (Nat.le_trans hb1.size hb2.size))) | (go_at_call 13; refine (num_says _ _).mono ?_; rintro e w' ⟨rfl, rfl⟩) | (go_at_call 10; (with_reducible refine (show_says 16 1 0 0 (-1) _ (hT.later hB3)).mono ?_); rintro e w4 ⟨rfl, hb4⟩))
  go_ret
  exact ⟨rfl, hB3.trans (hb4.mono hB3.size)⟩
end Go.Proofs.YtpjonhcbhgalpaaDoor
