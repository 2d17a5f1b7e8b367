/-
  An instruction's text begins with its name, and its first register stands behind it (law IsaTexts returns true).
  No condition on the arguments: whatever they are. The card ties the three listed tables of Go's library to the program's text.
-/
import Derived.Test.YtfhfgogiijcmbaaDoorIsaFrame
import Derived.Test.YtfhfgogiijcmbaaDoorCards
import Derived.Test.YtfhfgogiijcmbaaDoorTie
import Derived.SevenTiedAt
import Derived.Test.YtfhfgogiijcmbaaDoorIsaRShow
import Derived.Test.YtfhfgogiijcmbaaDoorIsaOp
import Derived.Lib.PathFns
namespace Go.Proofs.YtfhfgogiijcmbaaDoor.isaTexts
open Go Go.ChangeShapes Go.WideShapes Go.ChangeAt Go.RowKit
set_option linter.unusedVariables false
theorem itoa_ne (n : Int) : Lib.itoa n ≠ [] := by
  unfold Lib.itoa
  split
  · simp
  · unfold Lib.decDigits; split <;> simp
theorem front (t p : ByteArray) (r : List UInt8) (h : t.data.toList = p.data.toList ++ r) : ((t.extract 0 p.size).toList == p.toList) = true := by
  rw [ByteArray.toList_eq, ByteArray.toList_eq, Lib.Pa.extract_upto_list, h, List.take_append_of_le_length (by rw [Array.length_toList]; exact Nat.le_refl _), List.take_of_length_le (by rw [Array.length_toList]; exact Nat.le_refl _)]
  simp
theorem longer (t p : ByteArray) (r : List UInt8) (h : t.data.toList = p.data.toList ++ r) : t.size = p.size + r.length := by
  have := congrArg List.length h
  rw [List.length_append, Array.length_toList, Array.length_toList] at this
  exact this
/-- The text's beginning. -/
theorem head_text (o a b c m : Int) (hE : encE o a b c m = 0) (h8 : opF o ≠ 8) : ∃ r : List UInt8, r ≠ [] ∧ (showS o a b c m).data.toList = (opN o ++ (⟨#[32, 114]⟩ : ByteArray) ++ numS a ++ ⟨#[44, 32]⟩).data.toList ++ r := by
  have hn : opF o ≠ 0 := by intro hf; have := (enc_none o a b c m hf).1; omega
  have hb := opF_bd o
  have e : (showS o a b c m).data.toList = (opN o).data.toList ++ tailL (fR (opF o)) (fB (opF o)) a b c m := by unfold showS showL; rw [if_pos hE]
  rw [e]
  rcases f_cases (opF o) hb.1 hb.2 with f | f | f | f | f | f | f | f | f
  · exact absurd f hn
  · rw [f]; refine ⟨rS b ++ [44, 32] ++ rS c, by simp [rS], ?_⟩; show _ ++ tailL 3 0 a b c m = _; simp [tailL, flds, rS, numS, Lib.join, List.intercalate]
  · rw [f]; refine ⟨rS b ++ [44, 32] ++ Lib.itoa m, by simp [rS], ?_⟩; show _ ++ tailL 2 16 a b c m = _; simp [tailL, flds, rS, numS, Lib.join, List.intercalate]
  · rw [f]; refine ⟨rS b ++ [44, 32] ++ Lib.itoa m, by simp [rS], ?_⟩; show _ ++ tailL 2 16 a b c m = _; simp [tailL, flds, rS, numS, Lib.join, List.intercalate]
  · rw [f]; refine ⟨rS b ++ [44, 32] ++ Lib.itoa m, by simp [rS], ?_⟩; show _ ++ tailL 2 16 a b c m = _; simp [tailL, flds, rS, numS, Lib.join, List.intercalate]
  · rw [f]; refine ⟨Lib.itoa m, itoa_ne m, ?_⟩; show _ ++ tailL 1 16 a b c m = _; simp [tailL, flds, rS, numS, Lib.join, List.intercalate]
  · rw [f]; refine ⟨Lib.itoa m, itoa_ne m, ?_⟩; show _ ++ tailL 1 20 a b c m = _; simp [tailL, flds, rS, numS, Lib.join, List.intercalate]
  · rw [f]; refine ⟨Lib.itoa m, itoa_ne m, ?_⟩; show _ ++ tailL 1 16 a b c m = _; simp [tailL, flds, rS, numS, Lib.join, List.intercalate]
  · exact absurd f h8
theorem bare_text (o a b c m : Int) (hE : encE o a b c m = 0) (h8 : opF o = 8) : showS o a b c m = opN o := by
  refine bytes_ext ?_
  unfold showS showL
  rw [if_pos hE, h8]
  show _ ++ tailL 0 0 a b c m = _
  simp [tailL, flds]
/-- What the call does. -/
def Fine (W : World) (e : Ending) (W' : World) : Prop := e = .returned (.bool true) ∧ Below W.heap.size W W'
set_option maxHeartbeats 8000000 in
theorem walk (o0 a0 b0 c0 m0 : Int) (wo0 : (Lit.int .i64 o0).wf = true) (wa0 : (Lit.int .i64 a0).wf = true) (wb0 : (Lit.int .i64 b0).wf = true) (wc0 : (Lit.int .i64 c0).wf = true) (wm0 : (Lit.int .i64 m0).wf = true) (W : World) (hT : Tab W) :
    Calls Tryd.prog 10 #[insV o0 a0 b0 c0 m0] W (Fine W) := by
  by_cases h : encE o0 a0 b0 c0 m0 = 0
  · have e1 : (encE o0 a0 b0 c0 m0 != 0) = false := by simpa using h
    have hn : opF o0 ≠ 0 := by intro hf; have := (enc_none o0 a0 b0 c0 m0 hf).1; omega
    have hq : ¬ badQ (fR (opF o0)) a0 b0 c0 := by intro hf; have := (enc_bad o0 a0 b0 c0 m0 hn hf).1; omega
    obtain ⟨⟨ra0, ra1⟩, _⟩ := good_regs hq
    have nO := opN_size o0
    have na := numS_size a0 (by omega) (by omega)
    have hb := opF_bd o0
    by_cases h8 : opF o0 = 8
    · have hC : fC (opF o0) = 78 := by rw [h8]; rfl
      have ht := bare_text o0 a0 b0 c0 m0 h h8
      have g1 : (opN o0).size ≤ (showS o0 a0 b0 c0 m0).size := by rw [ht]; exact Nat.le_refl _
      have g2 : (((showS o0 a0 b0 c0 m0).extract 0 (opN o0).size).toList == (opN o0).toList) = true := front _ _ [] (by rw [ht]; simp)
      have g5 : ((showS o0 a0 b0 c0 m0).toList == (opN o0).toList) = true := by rw [ht]; simp
      clear h hn hq hb h8 ht
      go_enter Tryd.func10, Tryd.ntmps10
      go_wp2_with (first | (go_at_call 11; refine (alive_says _ (hT.later ((Below.refl _ _).alloc (Nat.le_refl _) _))).mono ?_; rintro e w1 ⟨rfl, hb1⟩; obtain ⟨hc1, hf1⟩ := bcell hb1; have hz1 : W.heap.size < w1.heap.size := (by have := hb1.size; simp at this; omega)) | (go_at_call 13; refine (rencode_says _ _ _ _ _ _).mono ?_; rintro e w2 ⟨rfl, hb2⟩; obtain ⟨hc2, hf2⟩ := bcell hb2; have hs2 : w1.heap.size ≤ w2.heap.size := hb2.size; have hz2 : W.heap.size < w2.heap.size := (by omega); have hB2 : Below W.heap.size W w2 := (((Below.refl _ _).alloc (Nat.le_refl _) _).trans (hb1.mono (by simp))).trans (hb2.mono (by omega))) | (go_at_call 22; refine (show_says _ _ _ _ _ _ (hT.later hB2)).mono ?_; rintro e w3 ⟨rfl, hb3⟩; obtain ⟨hc3, hf3⟩ := bcell hb3; have hs3 : w2.heap.size ≤ w3.heap.size := hb3.size; have hz3 : W.heap.size < w3.heap.size := (by omega)) | (go_at_call 19; refine (name_says _ _).mono ?_; rintro e w4 ⟨rfl, hb4⟩; obtain ⟨hc4, hf4⟩ := bcell hb4; have hs4 : w3.heap.size ≤ w4.heap.size := hb4.size; have hz4 : W.heap.size < w4.heap.size := (by omega)) | (go_at_call 18; refine (form_says _ _).mono ?_; rintro e w' ⟨rfl, rfl⟩) | (go_at_call 24; refine (number_says _ (by omega) (by omega) _).mono ?_; rintro e w' ⟨rfl, rfl⟩))
      go_ret
      exact ⟨ret_bool rfl, (hB2.trans (hb3.mono (by omega))).trans (hb4.mono (by omega))⟩
    · obtain ⟨r, hr, ht⟩ := head_text o0 a0 b0 c0 m0 h h8
      have hsz := longer _ _ r ht
      have hr1 : 1 ≤ r.length := by cases r with | nil => exact absurd rfl hr | cons x y => simp
      have hH : (opN o0 ++ (⟨#[32, 114]⟩ : ByteArray) ++ numS a0 ++ ⟨#[44, 32]⟩).size = (opN o0).size + 2 + (numS a0).size + 2 := by simp only [ByteArray.size_append]; rfl
      have g1 : (opN o0).size ≤ (showS o0 a0 b0 c0 m0).size := by omega
      have g2 : (((showS o0 a0 b0 c0 m0).extract 0 (opN o0).size).toList == (opN o0).toList) = true := front _ _ (([32, 114] ++ (numS a0).data.toList ++ [44, 32]) ++ r) (by rw [ht]; simp)
      have g3 : ((opN o0).size : Int) + 2 + (numS a0).size + 2 < (showS o0 a0 b0 c0 m0).size := by omega
      have g4 : (((showS o0 a0 b0 c0 m0).extract 0 ((opN o0).size + 2 + (numS a0).size + 2)).toList == (opN o0 ++ (⟨#[32, 114]⟩ : ByteArray) ++ numS a0 ++ ⟨#[44, 32]⟩).toList) = true := by
        have := front _ _ r ht
        rw [hH] at this; exact this
      clear hsz hr1 hH ht hr r
      rcases f_cases (opF o0) hb.1 hb.2 with f | f | f | f | f | f | f | f | f
      · exact absurd f hn
      · have hC : fC (opF o0) = 82 := by rw [f]; rfl
        clear h hn hq hb h8 f
        go_enter Tryd.func10, Tryd.ntmps10
        go_wp2_with (first | (go_at_call 11; refine (alive_says _ (hT.later ((Below.refl _ _).alloc (Nat.le_refl _) _))).mono ?_; rintro e w1 ⟨rfl, hb1⟩; obtain ⟨hc1, hf1⟩ := bcell hb1; have hz1 : W.heap.size < w1.heap.size := (by have := hb1.size; simp at this; omega)) | (go_at_call 13; refine (rencode_says _ _ _ _ _ _).mono ?_; rintro e w2 ⟨rfl, hb2⟩; obtain ⟨hc2, hf2⟩ := bcell hb2; have hs2 : w1.heap.size ≤ w2.heap.size := hb2.size; have hz2 : W.heap.size < w2.heap.size := (by omega); have hB2 : Below W.heap.size W w2 := (((Below.refl _ _).alloc (Nat.le_refl _) _).trans (hb1.mono (by simp))).trans (hb2.mono (by omega))) | (go_at_call 22; refine (show_says _ _ _ _ _ _ (hT.later hB2)).mono ?_; rintro e w3 ⟨rfl, hb3⟩; obtain ⟨hc3, hf3⟩ := bcell hb3; have hs3 : w2.heap.size ≤ w3.heap.size := hb3.size; have hz3 : W.heap.size < w3.heap.size := (by omega)) | (go_at_call 19; refine (name_says _ _).mono ?_; rintro e w4 ⟨rfl, hb4⟩; obtain ⟨hc4, hf4⟩ := bcell hb4; have hs4 : w3.heap.size ≤ w4.heap.size := hb4.size; have hz4 : W.heap.size < w4.heap.size := (by omega)) | (go_at_call 18; refine (form_says _ _).mono ?_; rintro e w' ⟨rfl, rfl⟩) | (go_at_call 24; refine (number_says _ (by omega) (by omega) _).mono ?_; rintro e w' ⟨rfl, rfl⟩))
        go_ret
        exact ⟨ret_bool rfl, (hB2.trans (hb3.mono (by omega))).trans (hb4.mono (by omega))⟩
      · have hC : fC (opF o0) = 73 := by rw [f]; rfl
        clear h hn hq hb h8 f
        go_enter Tryd.func10, Tryd.ntmps10
        go_wp2_with (first | (go_at_call 11; refine (alive_says _ (hT.later ((Below.refl _ _).alloc (Nat.le_refl _) _))).mono ?_; rintro e w1 ⟨rfl, hb1⟩; obtain ⟨hc1, hf1⟩ := bcell hb1; have hz1 : W.heap.size < w1.heap.size := (by have := hb1.size; simp at this; omega)) | (go_at_call 13; refine (rencode_says _ _ _ _ _ _).mono ?_; rintro e w2 ⟨rfl, hb2⟩; obtain ⟨hc2, hf2⟩ := bcell hb2; have hs2 : w1.heap.size ≤ w2.heap.size := hb2.size; have hz2 : W.heap.size < w2.heap.size := (by omega); have hB2 : Below W.heap.size W w2 := (((Below.refl _ _).alloc (Nat.le_refl _) _).trans (hb1.mono (by simp))).trans (hb2.mono (by omega))) | (go_at_call 22; refine (show_says _ _ _ _ _ _ (hT.later hB2)).mono ?_; rintro e w3 ⟨rfl, hb3⟩; obtain ⟨hc3, hf3⟩ := bcell hb3; have hs3 : w2.heap.size ≤ w3.heap.size := hb3.size; have hz3 : W.heap.size < w3.heap.size := (by omega)) | (go_at_call 19; refine (name_says _ _).mono ?_; rintro e w4 ⟨rfl, hb4⟩; obtain ⟨hc4, hf4⟩ := bcell hb4; have hs4 : w3.heap.size ≤ w4.heap.size := hb4.size; have hz4 : W.heap.size < w4.heap.size := (by omega)) | (go_at_call 18; refine (form_says _ _).mono ?_; rintro e w' ⟨rfl, rfl⟩) | (go_at_call 24; refine (number_says _ (by omega) (by omega) _).mono ?_; rintro e w' ⟨rfl, rfl⟩))
        go_ret
        exact ⟨ret_bool rfl, (hB2.trans (hb3.mono (by omega))).trans (hb4.mono (by omega))⟩
      · have hC : fC (opF o0) = 85 := by rw [f]; rfl
        clear h hn hq hb h8 f
        go_enter Tryd.func10, Tryd.ntmps10
        go_wp2_with (first | (go_at_call 11; refine (alive_says _ (hT.later ((Below.refl _ _).alloc (Nat.le_refl _) _))).mono ?_; rintro e w1 ⟨rfl, hb1⟩; obtain ⟨hc1, hf1⟩ := bcell hb1; have hz1 : W.heap.size < w1.heap.size := (by have := hb1.size; simp at this; omega)) | (go_at_call 13; refine (rencode_says _ _ _ _ _ _).mono ?_; rintro e w2 ⟨rfl, hb2⟩; obtain ⟨hc2, hf2⟩ := bcell hb2; have hs2 : w1.heap.size ≤ w2.heap.size := hb2.size; have hz2 : W.heap.size < w2.heap.size := (by omega); have hB2 : Below W.heap.size W w2 := (((Below.refl _ _).alloc (Nat.le_refl _) _).trans (hb1.mono (by simp))).trans (hb2.mono (by omega))) | (go_at_call 22; refine (show_says _ _ _ _ _ _ (hT.later hB2)).mono ?_; rintro e w3 ⟨rfl, hb3⟩; obtain ⟨hc3, hf3⟩ := bcell hb3; have hs3 : w2.heap.size ≤ w3.heap.size := hb3.size; have hz3 : W.heap.size < w3.heap.size := (by omega)) | (go_at_call 19; refine (name_says _ _).mono ?_; rintro e w4 ⟨rfl, hb4⟩; obtain ⟨hc4, hf4⟩ := bcell hb4; have hs4 : w3.heap.size ≤ w4.heap.size := hb4.size; have hz4 : W.heap.size < w4.heap.size := (by omega)) | (go_at_call 18; refine (form_says _ _).mono ?_; rintro e w' ⟨rfl, rfl⟩) | (go_at_call 24; refine (number_says _ (by omega) (by omega) _).mono ?_; rintro e w' ⟨rfl, rfl⟩))
        go_ret
        exact ⟨ret_bool rfl, (hB2.trans (hb3.mono (by omega))).trans (hb4.mono (by omega))⟩
      · have hC : fC (opF o0) = 72 := by rw [f]; rfl
        clear h hn hq hb h8 f
        go_enter Tryd.func10, Tryd.ntmps10
        go_wp2_with (first | (go_at_call 11; refine (alive_says _ (hT.later ((Below.refl _ _).alloc (Nat.le_refl _) _))).mono ?_; rintro e w1 ⟨rfl, hb1⟩; obtain ⟨hc1, hf1⟩ := bcell hb1; have hz1 : W.heap.size < w1.heap.size := (by have := hb1.size; simp at this; omega)) | (go_at_call 13; refine (rencode_says _ _ _ _ _ _).mono ?_; rintro e w2 ⟨rfl, hb2⟩; obtain ⟨hc2, hf2⟩ := bcell hb2; have hs2 : w1.heap.size ≤ w2.heap.size := hb2.size; have hz2 : W.heap.size < w2.heap.size := (by omega); have hB2 : Below W.heap.size W w2 := (((Below.refl _ _).alloc (Nat.le_refl _) _).trans (hb1.mono (by simp))).trans (hb2.mono (by omega))) | (go_at_call 22; refine (show_says _ _ _ _ _ _ (hT.later hB2)).mono ?_; rintro e w3 ⟨rfl, hb3⟩; obtain ⟨hc3, hf3⟩ := bcell hb3; have hs3 : w2.heap.size ≤ w3.heap.size := hb3.size; have hz3 : W.heap.size < w3.heap.size := (by omega)) | (go_at_call 19; refine (name_says _ _).mono ?_; rintro e w4 ⟨rfl, hb4⟩; obtain ⟨hc4, hf4⟩ := bcell hb4; have hs4 : w3.heap.size ≤ w4.heap.size := hb4.size; have hz4 : W.heap.size < w4.heap.size := (by omega)) | (go_at_call 18; refine (form_says _ _).mono ?_; rintro e w' ⟨rfl, rfl⟩) | (go_at_call 24; refine (number_says _ (by omega) (by omega) _).mono ?_; rintro e w' ⟨rfl, rfl⟩))
        go_ret
        exact ⟨ret_bool rfl, (hB2.trans (hb3.mono (by omega))).trans (hb4.mono (by omega))⟩
      · have hC : fC (opF o0) = 76 := by rw [f]; rfl
        clear h hn hq hb h8 f
        go_enter Tryd.func10, Tryd.ntmps10
        go_wp2_with (first | (go_at_call 11; refine (alive_says _ (hT.later ((Below.refl _ _).alloc (Nat.le_refl _) _))).mono ?_; rintro e w1 ⟨rfl, hb1⟩; obtain ⟨hc1, hf1⟩ := bcell hb1; have hz1 : W.heap.size < w1.heap.size := (by have := hb1.size; simp at this; omega)) | (go_at_call 13; refine (rencode_says _ _ _ _ _ _).mono ?_; rintro e w2 ⟨rfl, hb2⟩; obtain ⟨hc2, hf2⟩ := bcell hb2; have hs2 : w1.heap.size ≤ w2.heap.size := hb2.size; have hz2 : W.heap.size < w2.heap.size := (by omega); have hB2 : Below W.heap.size W w2 := (((Below.refl _ _).alloc (Nat.le_refl _) _).trans (hb1.mono (by simp))).trans (hb2.mono (by omega))) | (go_at_call 22; refine (show_says _ _ _ _ _ _ (hT.later hB2)).mono ?_; rintro e w3 ⟨rfl, hb3⟩; obtain ⟨hc3, hf3⟩ := bcell hb3; have hs3 : w2.heap.size ≤ w3.heap.size := hb3.size; have hz3 : W.heap.size < w3.heap.size := (by omega)) | (go_at_call 19; refine (name_says _ _).mono ?_; rintro e w4 ⟨rfl, hb4⟩; obtain ⟨hc4, hf4⟩ := bcell hb4; have hs4 : w3.heap.size ≤ w4.heap.size := hb4.size; have hz4 : W.heap.size < w4.heap.size := (by omega)) | (go_at_call 18; refine (form_says _ _).mono ?_; rintro e w' ⟨rfl, rfl⟩) | (go_at_call 24; refine (number_says _ (by omega) (by omega) _).mono ?_; rintro e w' ⟨rfl, rfl⟩))
        go_ret
        exact ⟨ret_bool rfl, (hB2.trans (hb3.mono (by omega))).trans (hb4.mono (by omega))⟩
      · have hC : fC (opF o0) = 74 := by rw [f]; rfl
        clear h hn hq hb h8 f
        go_enter Tryd.func10, Tryd.ntmps10
        go_wp2_with (first | (go_at_call 11; refine (alive_says _ (hT.later ((Below.refl _ _).alloc (Nat.le_refl _) _))).mono ?_; rintro e w1 ⟨rfl, hb1⟩; obtain ⟨hc1, hf1⟩ := bcell hb1; have hz1 : W.heap.size < w1.heap.size := (by have := hb1.size; simp at this; omega)) | (go_at_call 13; refine (rencode_says _ _ _ _ _ _).mono ?_; rintro e w2 ⟨rfl, hb2⟩; obtain ⟨hc2, hf2⟩ := bcell hb2; have hs2 : w1.heap.size ≤ w2.heap.size := hb2.size; have hz2 : W.heap.size < w2.heap.size := (by omega); have hB2 : Below W.heap.size W w2 := (((Below.refl _ _).alloc (Nat.le_refl _) _).trans (hb1.mono (by simp))).trans (hb2.mono (by omega))) | (go_at_call 22; refine (show_says _ _ _ _ _ _ (hT.later hB2)).mono ?_; rintro e w3 ⟨rfl, hb3⟩; obtain ⟨hc3, hf3⟩ := bcell hb3; have hs3 : w2.heap.size ≤ w3.heap.size := hb3.size; have hz3 : W.heap.size < w3.heap.size := (by omega)) | (go_at_call 19; refine (name_says _ _).mono ?_; rintro e w4 ⟨rfl, hb4⟩; obtain ⟨hc4, hf4⟩ := bcell hb4; have hs4 : w3.heap.size ≤ w4.heap.size := hb4.size; have hz4 : W.heap.size < w4.heap.size := (by omega)) | (go_at_call 18; refine (form_says _ _).mono ?_; rintro e w' ⟨rfl, rfl⟩) | (go_at_call 24; refine (number_says _ (by omega) (by omega) _).mono ?_; rintro e w' ⟨rfl, rfl⟩))
        go_ret
        exact ⟨ret_bool rfl, (hB2.trans (hb3.mono (by omega))).trans (hb4.mono (by omega))⟩
      · have hC : fC (opF o0) = 67 := by rw [f]; rfl
        clear h hn hq hb h8 f
        go_enter Tryd.func10, Tryd.ntmps10
        go_wp2_with (first | (go_at_call 11; refine (alive_says _ (hT.later ((Below.refl _ _).alloc (Nat.le_refl _) _))).mono ?_; rintro e w1 ⟨rfl, hb1⟩; obtain ⟨hc1, hf1⟩ := bcell hb1; have hz1 : W.heap.size < w1.heap.size := (by have := hb1.size; simp at this; omega)) | (go_at_call 13; refine (rencode_says _ _ _ _ _ _).mono ?_; rintro e w2 ⟨rfl, hb2⟩; obtain ⟨hc2, hf2⟩ := bcell hb2; have hs2 : w1.heap.size ≤ w2.heap.size := hb2.size; have hz2 : W.heap.size < w2.heap.size := (by omega); have hB2 : Below W.heap.size W w2 := (((Below.refl _ _).alloc (Nat.le_refl _) _).trans (hb1.mono (by simp))).trans (hb2.mono (by omega))) | (go_at_call 22; refine (show_says _ _ _ _ _ _ (hT.later hB2)).mono ?_; rintro e w3 ⟨rfl, hb3⟩; obtain ⟨hc3, hf3⟩ := bcell hb3; have hs3 : w2.heap.size ≤ w3.heap.size := hb3.size; have hz3 : W.heap.size < w3.heap.size := (by omega)) | (go_at_call 19; refine (name_says _ _).mono ?_; rintro e w4 ⟨rfl, hb4⟩; obtain ⟨hc4, hf4⟩ := bcell hb4; have hs4 : w3.heap.size ≤ w4.heap.size := hb4.size; have hz4 : W.heap.size < w4.heap.size := (by omega)) | (go_at_call 18; refine (form_says _ _).mono ?_; rintro e w' ⟨rfl, rfl⟩) | (go_at_call 24; refine (number_says _ (by omega) (by omega) _).mono ?_; rintro e w' ⟨rfl, rfl⟩))
        go_ret
        exact ⟨ret_bool rfl, (hB2.trans (hb3.mono (by omega))).trans (hb4.mono (by omega))⟩
      · exact absurd f h8
  · have e1 : (encE o0 a0 b0 c0 m0 != 0) = true := by simpa using h
    clear h
    go_enter Tryd.func10, Tryd.ntmps10
    go_wp2_with (first | (go_at_call 11; refine (alive_says _ (hT.later ((Below.refl _ _).alloc (Nat.le_refl _) _))).mono ?_; rintro e w1 ⟨rfl, hb1⟩; obtain ⟨hc1, hf1⟩ := bcell hb1; have hz1 : W.heap.size < w1.heap.size := (by have := hb1.size; simp at this; omega)) | (go_at_call 13; refine (rencode_says _ _ _ _ _ _).mono ?_; rintro e w2 ⟨rfl, hb2⟩; obtain ⟨hc2, hf2⟩ := bcell hb2; have hs2 : w1.heap.size ≤ w2.heap.size := hb2.size; have hz2 : W.heap.size < w2.heap.size := (by omega); have hB2 : Below W.heap.size W w2 := (((Below.refl _ _).alloc (Nat.le_refl _) _).trans (hb1.mono (by simp))).trans (hb2.mono (by omega))) | (go_at_call 22; refine (show_says _ _ _ _ _ _ (hT.later hB2)).mono ?_; rintro e w3 ⟨rfl, hb3⟩; obtain ⟨hc3, hf3⟩ := bcell hb3; have hs3 : w2.heap.size ≤ w3.heap.size := hb3.size; have hz3 : W.heap.size < w3.heap.size := (by omega)) | (go_at_call 19; refine (name_says _ _).mono ?_; rintro e w4 ⟨rfl, hb4⟩; obtain ⟨hc4, hf4⟩ := bcell hb4; have hs4 : w3.heap.size ≤ w4.heap.size := hb4.size; have hz4 : W.heap.size < w4.heap.size := (by omega)) | (go_at_call 18; refine (form_says _ _).mono ?_; rintro e w' ⟨rfl, rfl⟩) | (go_at_call 24; refine (number_says _ (by omega) (by omega) _).mono ?_; rintro e w' ⟨rfl, rfl⟩))
    go_ret
    exact ⟨ret_bool rfl, hB2⟩
set_option maxRecDepth 100000 in
theorem door_met (os : Os) (args : Array Value) : laidMetH Tryd.prog laid3 ((World.doorLaid Tryd.prog 4000 os).forCall (fun _ _ => 0) ⟨#[], args, []⟩).memory := by
  rw [MakeChecks.laidMetH_plain _ _ _ (by kernel_rfl)]
  exact laidMet_of_run' 8 (by kernel_rfl) (by kernel_rfl)
set_option maxRecDepth 100000 in
theorem lifted (os : Os) (started : os.Started) (H : Type) (enc : TypeId × Value → H) :
    ReturnsInHanded {} Tryd.checked os 10 .any (fun w args => (Rows.isaTextsSpec.pre enc Tryd.prog Tryd.f10 [] false w args ∧ laidMetH Tryd.prog laid3 w) ∧ sizedMet enc Tryd.prog Tryd.f10 (OpenSpec.ofChange Rows.isaTextsSpec) false w args)
      (Rows.isaTextsSpec.post enc Tryd.prog Tryd.f10 false true false false) := by
  refine returnsInHanded_of_change_and (C := Tryd.checked) (X := fun w _ => laidMetH Tryd.prog laid3 w) (fun _ _ _ hh h => h.of_heap hh) own started (by kernel_rfl) Tryd.func10
    (ChangeSpec.witness_shaped (enc := enc) (C := Tryd.checked) (os := os) (X := fun w _ => laidMetH Tryd.prog laid3 w) false (World.doorLaid Tryd.prog 4000 os) #[insV 0 0 0 0 0] 8 rfl (World.shaped_of_RefB (by kernel_rfl) (by kernel_rfl)) (by kernel_rfl) (by kernel_rfl) (by kernel_rfl) (door_met os _)) ?_
  intro W base args ds gs before hval0 hW _ _ hL _
  have hval : ∀ (j : Nat) t v, Tryd.f10.params[j]? = some t → args[j]? = some v → Value.okWide Tryd.prog W .any base t v := hval0
  have hW' := hW
  obtain ⟨p, q, hA0, hV, rfl, hfz, hnd⟩ := hW
  have hA : DataW.TrodAll enc Tryd.prog W 0 (fun _ => true) true Tryd.f10.params.toList args.toList ds p := hA0
  rw [Tryd.params10] at hA hval
  obtain ⟨v0, vs0, d0, ds0, p0, q0, hargs, rfl, rfl, h0, r0⟩ := trodAll_cons hA
  obtain ⟨rfl, rfl, rfl⟩ := trodAll_nil r0
  obtain rfl : args = #[v0] := by cases args; simp_all
  obtain ⟨rfl, rfl⟩ := trodVars_none hV
  obtain ⟨o0, a0, b0, c0, m0, rfl, rfl, rfl, wo0, wa0, wb0, wc0, wm0⟩ := open_ins (hval 0 23 v0 rfl rfl) h0
  have hT := tab_of_laid hL
  clear hA0 hval0
  simp only [List.append_nil] at hW'
  refine (walk o0 a0 b0 c0 m0 wo0 wa0 wb0 wc0 wm0 W hT).mono fun e W' ⟨he, hb⟩ => ?_
  subst he
  exact ⟨_, rfl, _, _, _, [], [], [], hW', trodAll_cons_mk (shut_bool Tryd.underlying4 _) trodAll_mk0, (trodAll_cons_mk (shut_ins wo0 wa0 wb0 wc0 wm0) trodAll_mk0), rfl, hb.frame _, fun h => by cases h⟩
theorem over : Rows.IsaTextsSaid :=
  OpenClaim.holds_of_wide 10 Tryd.f10 rfl rfl rfl rfl rfl rfl rfl ⟨rfl, rfl, rfl, rfl, rfl⟩ rfl rfl rfl rfl rfl (by kernel_rfl) Tryd.func10 (by kernel_rfl)
    (of_decide_eq_true (by kernel_rfl)) (by unfold Func.isWrapper; first | (rw [if_pos (by decide +kernel)]; kernel_rfl) | (rw [if_neg (by decide +kernel)]; exact ⟨rfl, rfl⟩))
    (fun os started H enc _ => lifted os started H enc)
/-- THE STATEMENT: the tied card. -/
theorem proved : Rows.IsaTextsCardSaid :=
  Claim7.holds_tied_plain_at .later [] [.data, .data, .data] true (true, "3de8ee70ca5109505f593e43bf0f8c2ff81a56a3e969041cf46611536ffbf7dc") false
    over (fun _ h => by cases h) (by kernel_rfl) (fun _ h => by cases h) isaTexts_row_tie rfl ⟨rfl, rfl⟩ (by kernel_rfl) rfl
    (fun f fn hf hfn => by
      obtain rfl : f = 10 := Option.some.inj ((show Tryd.prog.funcNamed "trunnion/trunnionlaw2.IsaTexts" = some 10 by kernel_rfl).symm.trans hf) |>.symm
      obtain rfl : fn = Tryd.f10 := (Option.some.inj (Tryd.func10.symm.trans hfn)).symm
      exact ⟨by kernel_rfl, fun j t ht => by
        rw [Tryd.params10] at ht
        have hm : t ∈ [23] := by simpa using Array.mem_of_getElem? ht
        have hall : ([23].all fun u => !Tryd.prog.wantsStandIn u) = true := by kernel_rfl
        exact (show Tryd.prog.wantsStandIn t = false by simpa using List.all_eq_true.1 hall t hm)⟩)
    (by kernel_rfl)
end Go.Proofs.YtfhfgogiijcmbaaDoor.isaTexts
