/-
  The contract of package isa's Encode.
-/
import Derived.Test.YtfcmodllbhpniaaGreatDoorJnIsaTab
import Derived.Test.YtfcmodllbhpniaaGreatDoorJnIsaNum
import Derived.Deep.QuietTactic
import Derived.BigQuiet
set_option linter.unusedVariables false
set_option maxRecDepth 100000
namespace Go.Proofs.YtfcmodllbhpniaaGreatDoor
open Go.ChangeShapes Go.WideShapes Go.ChangeAt Go.RowKit
/-- An instruction by value. -/
abbrev insV (op a b c m : Int) : Value := .agg #[i64 op, i64 a, i64 b, i64 c, i64 m]
theorem bcell {W w1 : World} (hb : Below W.heap.size W w1) : (∀ b o, b < W.heap.size → w1.cell? ⟨b, o, none⟩ = W.cell? ⟨b, o, none⟩) ∧ (∀ b o, b < W.heap.size → w1.frozen? ⟨b, o, none⟩ = W.frozen? ⟨b, o, none⟩) :=
  ⟨fun b o h => hb.cell (p := ⟨b, o, none⟩) h, fun b o h => hb.frozen (p := ⟨b, o, none⟩) h⟩
theorem isa_below_drewN (B : Nat) (w : World) (n : Nat) : Below B w (w.drewN n) := ⟨rfl, rfl, rfl, Nat.le_refl _, fun _ _ => rfl⟩
theorem ret_ints {a b a' b' : Int} (h : a = a' ∧ b = b') : Ending.returned (.tuple #[.int .i64 a, .int .i64 b]) = .returned (.tuple #[.int .i64 a', .int .i64 b']) := by rw [h.1, h.2]
set_option maxHeartbeats 1000000 in
theorem encode_none (op a b c m : Int) (h : opF op = 0) (w : World) : Calls Tryz.prog 124 #[insV op a b c m] w fun e w' => e = .returned (.tuple #[i64 (encW op a b c m), i64 (encE op a b c m)]) ∧ Below w.heap.size w w' := by
  have hv := Lib.hid (enc_none op a b c m h)
  go_enter Tryz.func124, Tryz.ntmps124
  go_wp2_with (first | (go_at_call 120; refine (operationOf_says _ _).mono ?_; rintro e w1 ⟨rfl, hb1⟩; obtain ⟨hc1, hf1⟩ := bcell hb1; have hz1 : w.heap.size < w1.heap.size := (by have := hb1.size; simp at this; omega)))
  go_ret2
  exact ⟨ret_ints ⟨hv.out.2.symm, hv.out.1.symm⟩, ((((Below.refl _ _).alloc (Nat.le_refl _) _).trans (hb1.mono (by simp))).alloc (by omega) _)⟩
set_option maxHeartbeats 1000000 in
theorem encode_bad (op a b c m : Int) (h : opF op ≠ 0) (h' : badQ (fR (opF op)) a b c) (w : World) : Calls Tryz.prog 124 #[insV op a b c m] w fun e w' => e = .returned (.tuple #[i64 (encW op a b c m), i64 (encE op a b c m)]) ∧ Below w.heap.size w w' := by
  have hv := Lib.hid (enc_bad op a b c m h h')
  have ht := Lib.hid (tk_no h')
  have hf := opF_bd op
  have hn : (opF op == 0) = false := by simpa using h
  clear h h'
  go_enter Tryz.func124, Tryz.ntmps124
  go_wp2_with (first | (go_at_call 120; refine (operationOf_says _ _).mono ?_; rintro e w1 ⟨rfl, hb1⟩; obtain ⟨hc1, hf1⟩ := bcell hb1; have hz1 : w.heap.size < w1.heap.size := (by have := hb1.size; simp at this; omega)) | (go_at_call 121; refine (formOf_says _ hf.1 hf.2 _).mono ?_; rintro e w2 ⟨rfl, hb2⟩; obtain ⟨hc2, hf2⟩ := bcell hb2; have hz2 : w1.heap.size < w2.heap.size := (by have := hb2.size; simp at this; omega); have hz2' : w.heap.size < w2.heap.size := (by omega)) | (go_at_call 166; refine (ftakes_says _ _ _ _ _ _ _ _).mono ?_; rw [ht.out]; rintro e w3 ⟨rfl, hb3⟩; obtain ⟨hc3, hf3⟩ := bcell hb3; have hz3 : w2.heap.size < w3.heap.size := (by have := hb3.size; simp at this; omega); have hz3' : w1.heap.size < w3.heap.size := (by omega); have hz3'' : w.heap.size < w3.heap.size := (by omega)))
  go_ret2
  exact ⟨ret_ints ⟨hv.out.2.symm, hv.out.1.symm⟩, ((((((Below.refl _ _).alloc (Nat.le_refl _) _).trans (hb1.mono (by simp))).alloc (by omega) _).trans (hb2.mono (by simp; omega))).alloc (by omega) _).trans (hb3.mono (by simp; omega))⟩
set_option maxHeartbeats 1000000 in
theorem encode_range (op a b c m : Int) (h : opF op ≠ 0) (h' : ¬ badQ (fR (opF op)) a b c) (hm : m < fL (opF op) ∨ fH (opF op) < m) (w : World) : Calls Tryz.prog 124 #[insV op a b c m] w fun e w' => e = .returned (.tuple #[i64 (encW op a b c m), i64 (encE op a b c m)]) ∧ Below w.heap.size w w' := by
  have hv := Lib.hid (enc_range op a b c m h h' hm)
  have ht := Lib.hid (tk_yes h')
  have hf := opF_bd op
  have hn : (opF op == 0) = false := by simpa using h
  clear h h'
  by_cases h1 : m < fL (opF op)
  all_goals
    first | (have h2 : fH (opF op) < m := by omega) | skip
    clear hm
    go_enter Tryz.func124, Tryz.ntmps124
    go_wp2_with (first | (go_at_call 120; refine (operationOf_says _ _).mono ?_; rintro e w1 ⟨rfl, hb1⟩; obtain ⟨hc1, hf1⟩ := bcell hb1; have hz1 : w.heap.size < w1.heap.size := (by have := hb1.size; simp at this; omega)) | (go_at_call 121; refine (formOf_says _ hf.1 hf.2 _).mono ?_; rintro e w2 ⟨rfl, hb2⟩; obtain ⟨hc2, hf2⟩ := bcell hb2; have hz2 : w1.heap.size < w2.heap.size := (by have := hb2.size; simp at this; omega); have hz2' : w.heap.size < w2.heap.size := (by omega)) | (go_at_call 166; refine (ftakes_says _ _ _ _ _ _ _ _).mono ?_; rw [ht.out]; rintro e w3 ⟨rfl, hb3⟩; obtain ⟨hc3, hf3⟩ := bcell hb3; have hz3 : w2.heap.size < w3.heap.size := (by have := hb3.size; simp at this; omega); have hz3' : w1.heap.size < w3.heap.size := (by omega); have hz3'' : w.heap.size < w3.heap.size := (by omega)))
    go_ret2
    exact ⟨ret_ints ⟨hv.out.2.symm, hv.out.1.symm⟩, ((((((Below.refl _ _).alloc (Nat.le_refl _) _).trans (hb1.mono (by simp))).alloc (by omega) _).trans (hb2.mono (by simp; omega))).alloc (by omega) _).trans (hb3.mono (by simp; omega))⟩
set_option maxHeartbeats 1000000 in
theorem encode_ok (op a b c m : Int) (h : opF op ≠ 0) (h' : ¬ badQ (fR (opF op)) a b c) (hm : ¬ (m < fL (opF op) ∨ fH (opF op) < m)) (w : World) : Calls Tryz.prog 124 #[insV op a b c m] w fun e w' => e = .returned (.tuple #[i64 (encW op a b c m), i64 (encE op a b c m)]) ∧ Below w.heap.size w w' := by
  have hv := Lib.hid (enc_ok op a b c m h h' hm)
  have ht := Lib.hid (tk_yes h')
  have hf := opF_bd op
  have ho := op_of_form op h
  have hn : (opF op == 0) = false := by simpa using h
  have hg := good_regs h'
  have hm1 : fL (opF op) ≤ m := by omega
  have hm2 : m ≤ fH (opF op) := by omega
  obtain ⟨⟨a0, a1⟩, ⟨b0, b1⟩, ⟨c0, c1⟩, _, hg⟩ := hg
  have hg := Lib.hid hg
  clear h h' hm
  rcases fB_cases (opF op) with hB | hB | hB
  all_goals
    go_enter Tryz.func124, Tryz.ntmps124
    go_wp2_with (first | (go_at_call 120; refine (operationOf_says _ _).mono ?_; rintro e w1 ⟨rfl, hb1⟩; obtain ⟨hc1, hf1⟩ := bcell hb1; have hz1 : w.heap.size < w1.heap.size := (by have := hb1.size; simp at this; omega)) | (go_at_call 121; refine (formOf_says _ hf.1 hf.2 _).mono ?_; rintro e w2 ⟨rfl, hb2⟩; obtain ⟨hc2, hf2⟩ := bcell hb2; have hz2 : w1.heap.size < w2.heap.size := (by have := hb2.size; simp at this; omega); have hz2' : w.heap.size < w2.heap.size := (by omega)) | (go_at_call 166; refine (ftakes_says _ _ _ _ _ _ _ _).mono ?_; rw [ht.out]; rintro e w3 ⟨rfl, hb3⟩; obtain ⟨hc3, hf3⟩ := bcell hb3; have hz3 : w2.heap.size < w3.heap.size := (by have := hb3.size; simp at this; omega); have hz3' : w1.heap.size < w3.heap.size := (by omega); have hz3'' : w.heap.size < w3.heap.size := (by omega)))
    go_quiet (fail)
    go_wp2
    go_ret2
  · exact ⟨ret_ints ⟨by rw [hv.out.2, hB]; show _ = _ + m % 2 ^ 0; rw [mask32_0]; exact chain32 op a b c _ ho.1 ho.2 a0 a1 b0 b1 c0 c1 ⟨by show 0 ≤ m % 1; omega, .inl (by show m % 1 < 4096; omega)⟩, hv.out.1.symm⟩, (((((((Below.refl _ _).alloc (Nat.le_refl _) _).trans (hb1.mono (by simp))).alloc (by omega) _).trans (hb2.mono (by simp; omega))).alloc (by omega) _).trans (hb3.mono (by simp; omega))).trans (isa_below_drewN _ _ _)⟩
  · have hr := fB_16 _ hB
    exact ⟨ret_ints ⟨by rw [hv.out.2, hB]; show _ = _ + m % 2 ^ 16; rw [mask32_16]; exact chain32 op a b c _ ho.1 ho.2 a0 a1 b0 b1 c0 c1 ⟨by show 0 ≤ m % 65536; omega, .inr (.inl ⟨hg.out.2 hr, by show m % 65536 < 65536; omega⟩)⟩, hv.out.1.symm⟩, (((((((Below.refl _ _).alloc (Nat.le_refl _) _).trans (hb1.mono (by simp))).alloc (by omega) _).trans (hb2.mono (by simp; omega))).alloc (by omega) _).trans (hb3.mono (by simp; omega))).trans (isa_below_drewN _ _ _)⟩
  · have hr := fB_20 _ hB
    exact ⟨ret_ints ⟨by rw [hv.out.2, hB]; show _ = _ + m % 2 ^ 20; rw [mask32_20]; exact chain32 op a b c _ ho.1 ho.2 a0 a1 b0 b1 c0 c1 ⟨by show 0 ≤ m % 1048576; omega, .inr (.inr ⟨hg.out.1 hr, hg.out.2 (by omega), by show m % 1048576 < 1048576; omega⟩)⟩, hv.out.1.symm⟩, (((((((Below.refl _ _).alloc (Nat.le_refl _) _).trans (hb1.mono (by simp))).alloc (by omega) _).trans (hb2.mono (by simp; omega))).alloc (by omega) _).trans (hb3.mono (by simp; omega))).trans (isa_below_drewN _ _ _)⟩
/-- Encode of every instruction. -/
theorem encode_says (op a b c m : Int) (w : World) : Calls Tryz.prog 124 #[insV op a b c m] w fun e w' => e = .returned (.tuple #[i64 (encW op a b c m), i64 (encE op a b c m)]) ∧ Below w.heap.size w w' := by
  by_cases h : opF op = 0
  · exact encode_none op a b c m h w
  · by_cases h' : badQ (fR (opF op)) a b c
    · exact encode_bad op a b c m h h' w
    · by_cases hm : m < fL (opF op) ∨ fH (opF op) < m
      · exact encode_range op a b c m h h' hm w
      · exact encode_ok op a b c m h h' hm w
end Go.Proofs.YtfcmodllbhpniaaGreatDoor
