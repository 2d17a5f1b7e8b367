/-
  The contract of the document's own answer Form: form's letter and name of each operation. | The contract of the document's own answer Encode. | The contract of the document's own answer Encode: the other forms, and all.
-/
import Derived.Test.YtfcmodllbhpniaaGreatDoorJnIsaNum
import Derived.Test.YtfcmodllbhpniaaGreatDoorJnWords
import Derived.Test.YtfcmodllbhpniaaGreatDoorJnIsaEnc
set_option linter.unusedVariables false
set_option maxRecDepth 100000
namespace Go.Proofs.YtfcmodllbhpniaaGreatDoor
open Go.ChangeShapes Go.WideShapes Go.ChangeAt Go.RowKit
theorem u8str {a b : Int} {s t : ByteArray} (h : a = b) (h' : s = t) : Ending.returned (.tuple #[.int .u8 a, .string s]) = .returned (.tuple #[.int .u8 b, .string t]) := by rw [h, h']
set_option maxHeartbeats 4000000 in
set_option maxRecDepth 100000 in
theorem form_says (op : Int) : Says 37 #[i64 op] (.tuple #[.int .u8 (fC (opF op)), .string (opN op)]) := by
  intro w
  go_enter Tryz.func37, Tryz.ntmps37
  go_wp2
  all_goals go_ret2
  all_goals refine ⟨?_, rfl⟩
  all_goals first
    | (have e := eq_of_beq ‹(op == _) = true›; rw [e]; rfl)
    | skip
  by_cases h0 : op < 0
  · rw [opF_neg op h0, opN_neg op h0]; rfl
  · by_cases h1 : 70 < op
    · rw [opF_great op h1, opN_great op h1]; rfl
    · rcases op_cases op (by omega) (by omega) with rfl | rfl | rfl | rfl | rfl | rfl | rfl | rfl | rfl | rfl | rfl | rfl | rfl | rfl | rfl | rfl | rfl | rfl | rfl | rfl | rfl | rfl | rfl | rfl | rfl | rfl | rfl | rfl | rfl | rfl | rfl | rfl | rfl | rfl | rfl | rfl | rfl | rfl | rfl | rfl | rfl | rfl | rfl | rfl | rfl | rfl | rfl | rfl | rfl | rfl | rfl | rfl | rfl | rfl | rfl | rfl | rfl | rfl | rfl | rfl | rfl | rfl | rfl | rfl | rfl | rfl | rfl | rfl | rfl | rfl | rfl <;> first | rfl | contradiction
end Go.Proofs.YtfcmodllbhpniaaGreatDoor
set_option maxRecDepth 100000
namespace Go.Proofs.YtfcmodllbhpniaaGreatDoor
open Go.ChangeShapes Go.WideShapes Go.ChangeAt Go.RowKit
theorem enc_bad' (op a b c m f : Int) (hF : opF op = f) (hn : f ≠ 0) (h : badQ (fR f) a b c) : 0 = encW op a b c m ∧ 1 = encE op a b c m := by
  subst hF; have := enc_bad op a b c m hn h; exact ⟨this.2.symm, this.1.symm⟩
theorem enc_range' (op a b c m f : Int) (hF : opF op = f) (hn : f ≠ 0) (h : ¬ badQ (fR f) a b c) (hm : m < fL f ∨ fH f < m) : 0 = encW op a b c m ∧ 6 = encE op a b c m := by
  subst hF; have := enc_range op a b c m hn h hm; exact ⟨this.2.symm, this.1.symm⟩
theorem enc_ok' (op a b c m f x : Int) (hF : opF op = f) (hn : f ≠ 0) (h : ¬ badQ (fR f) a b c) (hm : ¬ (m < fL f ∨ fH f < m)) (hx : x = op * 16777216 + a * 1048576 + b * 65536 + c * 4096 + m % 2 ^ (fB f).toNat) : x = encW op a b c m ∧ 0 = encE op a b c m := by
  subst hF; have := enc_ok op a b c m hn h hm; exact ⟨hx.trans this.2.symm, this.1.symm⟩
set_option maxHeartbeats 1000000 in
theorem rencode_0 (op a b c m : Int) (hF : opF op = 0) (w : World) : Calls Tryz.prog 18 #[insV op a b c m] w fun e w' => e = .returned (.tuple #[i64 (encW op a b c m), i64 (encE op a b c m)]) ∧ Below w.heap.size w w' := by
  have hC : fC (opF op) = 0 := by rw [hF]; rfl
  have hF' := Lib.hid hF
  clear hF
  go_enter Tryz.func18, Tryz.ntmps18
  go_wp2_with (first | (go_at_call 37; refine (form_says _ _).mono ?_; rintro e w' ⟨rfl, rfl⟩))
  go_ret2
  exact ⟨ret_ints (by have := enc_none op a b c m hF'.out; exact ⟨this.2.symm, this.1.symm⟩), (Below.refl _ _).alloc (Nat.le_refl _) _⟩
set_option maxHeartbeats 4000000 in
theorem rencode_1 (op a b c m : Int) (hF : opF op = 1) (w : World) : Calls Tryz.prog 18 #[insV op a b c m] w fun e w' => e = .returned (.tuple #[i64 (encW op a b c m), i64 (encE op a b c m)]) ∧ Below w.heap.size w w' := by
  have hC : fC (opF op) = 82 := by rw [hF]; rfl
  have ho := op_of_form op (by omega)
  have hF' := Lib.hid hF
  clear hF
  go_enter Tryz.func18, Tryz.ntmps18
  go_wp2_with (first | (go_at_call 37; refine (form_says _ _).mono ?_; rintro e w' ⟨rfl, rfl⟩))
  all_goals go_ret2
  all_goals refine ⟨ret_ints ?_, (Below.refl _ _).alloc (Nat.le_refl _) _⟩
  all_goals clear hC
  all_goals (try simp only [bne_iff_ne, ne_eq, bne_eq_false_iff_eq] at *)
  all_goals first
    | exact enc_bad' _ _ _ _ _ 1 hF'.out (by decide) (by show badQ 3 _ _ _; unfold badQ; omega)
    | exact enc_range' _ _ _ _ _ 1 hF'.out (by decide) (by show ¬ badQ 3 _ _ _; unfold badQ; omega) (by show _ < 0 ∨ 0 < _; omega)
    | exact enc_ok' _ _ _ _ _ 1 _ hF'.out (by decide) (by show ¬ badQ 3 _ _ _; unfold badQ; omega) (by show ¬ (_ < 0 ∨ 0 < _); omega) (by rw [mask64_16, chain64v _ _ _ _ _ (by omega) (by omega) (by omega) (by omega) (by unfold fits; omega)]; show _ = _ + _ % 1; omega)
set_option maxHeartbeats 4000000 in
theorem rencode_2 (op a b c m : Int) (hF : opF op = 2) (w : World) : Calls Tryz.prog 18 #[insV op a b c m] w fun e w' => e = .returned (.tuple #[i64 (encW op a b c m), i64 (encE op a b c m)]) ∧ Below w.heap.size w w' := by
  have hC : fC (opF op) = 73 := by rw [hF]; rfl
  have ho := op_of_form op (by omega)
  have hF' := Lib.hid hF
  clear hF
  go_enter Tryz.func18, Tryz.ntmps18
  go_wp2_with (first | (go_at_call 37; refine (form_says _ _).mono ?_; rintro e w' ⟨rfl, rfl⟩))
  all_goals go_ret2
  all_goals refine ⟨ret_ints ?_, (Below.refl _ _).alloc (Nat.le_refl _) _⟩
  all_goals clear hC
  all_goals (try simp only [bne_iff_ne, ne_eq, bne_eq_false_iff_eq] at *)
  all_goals first
    | exact enc_bad' _ _ _ _ _ 2 hF'.out (by decide) (by show badQ 2 _ _ _; unfold badQ; omega)
    | exact enc_range' _ _ _ _ _ 2 hF'.out (by decide) (by show ¬ badQ 2 _ _ _; unfold badQ; omega) (by show _ < -32768 ∨ 32767 < _; omega)
    | exact enc_ok' _ _ _ _ _ 2 _ hF'.out (by decide) (by show ¬ badQ 2 _ _ _; unfold badQ; omega) (by show ¬ (_ < -32768 ∨ 32767 < _); omega) (by rw [mask64_16, chain64v _ _ _ _ _ (by omega) (by omega) (by omega) (by omega) (by unfold fits; omega)]; show _ = _ + _ % 65536; omega)
set_option maxHeartbeats 4000000 in
theorem rencode_3 (op a b c m : Int) (hF : opF op = 3) (w : World) : Calls Tryz.prog 18 #[insV op a b c m] w fun e w' => e = .returned (.tuple #[i64 (encW op a b c m), i64 (encE op a b c m)]) ∧ Below w.heap.size w w' := by
  have hC : fC (opF op) = 85 := by rw [hF]; rfl
  have ho := op_of_form op (by omega)
  have hF' := Lib.hid hF
  clear hF
  go_enter Tryz.func18, Tryz.ntmps18
  go_wp2_with (first | (go_at_call 37; refine (form_says _ _).mono ?_; rintro e w' ⟨rfl, rfl⟩))
  all_goals go_ret2
  all_goals refine ⟨ret_ints ?_, (Below.refl _ _).alloc (Nat.le_refl _) _⟩
  all_goals clear hC
  all_goals (try simp only [bne_iff_ne, ne_eq, bne_eq_false_iff_eq] at *)
  all_goals first
    | exact enc_bad' _ _ _ _ _ 3 hF'.out (by decide) (by show badQ 2 _ _ _; unfold badQ; omega)
    | exact enc_range' _ _ _ _ _ 3 hF'.out (by decide) (by show ¬ badQ 2 _ _ _; unfold badQ; omega) (by show _ < 0 ∨ 65535 < _; omega)
    | exact enc_ok' _ _ _ _ _ 3 _ hF'.out (by decide) (by show ¬ badQ 2 _ _ _; unfold badQ; omega) (by show ¬ (_ < 0 ∨ 65535 < _); omega) (by rw [mask64_16, chain64v _ _ _ _ _ (by omega) (by omega) (by omega) (by omega) (by unfold fits; omega)]; show _ = _ + _ % 65536; omega)
set_option maxHeartbeats 4000000 in
theorem rencode_4 (op a b c m : Int) (hF : opF op = 4) (w : World) : Calls Tryz.prog 18 #[insV op a b c m] w fun e w' => e = .returned (.tuple #[i64 (encW op a b c m), i64 (encE op a b c m)]) ∧ Below w.heap.size w w' := by
  have hC : fC (opF op) = 72 := by rw [hF]; rfl
  have ho := op_of_form op (by omega)
  have hF' := Lib.hid hF
  clear hF
  go_enter Tryz.func18, Tryz.ntmps18
  go_wp2_with (first | (go_at_call 37; refine (form_says _ _).mono ?_; rintro e w' ⟨rfl, rfl⟩))
  all_goals go_ret2
  all_goals refine ⟨ret_ints ?_, (Below.refl _ _).alloc (Nat.le_refl _) _⟩
  all_goals clear hC
  all_goals (try simp only [bne_iff_ne, ne_eq, bne_eq_false_iff_eq] at *)
  all_goals first
    | exact enc_bad' _ _ _ _ _ 4 hF'.out (by decide) (by show badQ 2 _ _ _; unfold badQ; omega)
    | exact enc_range' _ _ _ _ _ 4 hF'.out (by decide) (by show ¬ badQ 2 _ _ _; unfold badQ; omega) (by show _ < 0 ∨ 31 < _; omega)
    | exact enc_ok' _ _ _ _ _ 4 _ hF'.out (by decide) (by show ¬ badQ 2 _ _ _; unfold badQ; omega) (by show ¬ (_ < 0 ∨ 31 < _); omega) (by rw [mask64_16, chain64v _ _ _ _ _ (by omega) (by omega) (by omega) (by omega) (by unfold fits; omega)]; show _ = _ + _ % 65536; omega)
end Go.Proofs.YtfcmodllbhpniaaGreatDoor
set_option maxRecDepth 100000
namespace Go.Proofs.YtfcmodllbhpniaaGreatDoor
open Go.ChangeShapes Go.WideShapes Go.ChangeAt Go.RowKit
set_option maxHeartbeats 4000000 in
theorem rencode_5 (op a b c m : Int) (hF : opF op = 5) (w : World) : Calls Tryz.prog 18 #[insV op a b c m] w fun e w' => e = .returned (.tuple #[i64 (encW op a b c m), i64 (encE op a b c m)]) ∧ Below w.heap.size w w' := by
  have hC : fC (opF op) = 76 := by rw [hF]; rfl
  have ho := op_of_form op (by omega)
  have hF' := Lib.hid hF
  clear hF
  go_enter Tryz.func18, Tryz.ntmps18
  go_wp2_with (first | (go_at_call 37; refine (form_says _ _).mono ?_; rintro e w' ⟨rfl, rfl⟩))
  all_goals go_ret2
  all_goals refine ⟨ret_ints ?_, (Below.refl _ _).alloc (Nat.le_refl _) _⟩
  all_goals clear hC
  all_goals (try simp only [bne_iff_ne, ne_eq, bne_eq_false_iff_eq] at *)
  all_goals first
    | exact enc_bad' _ _ _ _ _ 5 hF'.out (by decide) (by show badQ 1 _ _ _; unfold badQ; omega)
    | exact enc_range' _ _ _ _ _ 5 hF'.out (by decide) (by show ¬ badQ 1 _ _ _; unfold badQ; omega) (by show _ < 0 ∨ 65535 < _; omega)
    | exact enc_ok' _ _ _ _ _ 5 _ hF'.out (by decide) (by show ¬ badQ 1 _ _ _; unfold badQ; omega) (by show ¬ (_ < 0 ∨ 65535 < _); omega) (by rw [mask64_16, chain64v _ _ _ _ _ (by omega) (by omega) (by omega) (by omega) (by unfold fits; omega)]; show _ = _ + _ % 65536; omega)
set_option maxHeartbeats 4000000 in
theorem rencode_6 (op a b c m : Int) (hF : opF op = 6) (w : World) : Calls Tryz.prog 18 #[insV op a b c m] w fun e w' => e = .returned (.tuple #[i64 (encW op a b c m), i64 (encE op a b c m)]) ∧ Below w.heap.size w w' := by
  have hC : fC (opF op) = 74 := by rw [hF]; rfl
  have ho := op_of_form op (by omega)
  have hF' := Lib.hid hF
  clear hF
  go_enter Tryz.func18, Tryz.ntmps18
  go_wp2_with (first | (go_at_call 37; refine (form_says _ _).mono ?_; rintro e w' ⟨rfl, rfl⟩))
  all_goals go_ret2
  all_goals refine ⟨ret_ints ?_, (Below.refl _ _).alloc (Nat.le_refl _) _⟩
  all_goals clear hC
  all_goals (try simp only [bne_iff_ne, ne_eq, bne_eq_false_iff_eq] at *)
  all_goals first
    | exact enc_bad' _ _ _ _ _ 6 hF'.out (by decide) (by show badQ 1 _ _ _; unfold badQ; omega)
    | exact enc_range' _ _ _ _ _ 6 hF'.out (by decide) (by show ¬ badQ 1 _ _ _; unfold badQ; omega) (by show _ < -524288 ∨ 524287 < _; omega)
    | exact enc_ok' _ _ _ _ _ 6 _ hF'.out (by decide) (by show ¬ badQ 1 _ _ _; unfold badQ; omega) (by show ¬ (_ < -524288 ∨ 524287 < _); omega) (by rw [mask64_20, chain64v _ _ _ _ _ (by omega) (by omega) (by omega) (by omega) (by unfold fits; omega)]; show _ = _ + _ % 1048576; omega)
set_option maxHeartbeats 4000000 in
theorem rencode_7 (op a b c m : Int) (hF : opF op = 7) (w : World) : Calls Tryz.prog 18 #[insV op a b c m] w fun e w' => e = .returned (.tuple #[i64 (encW op a b c m), i64 (encE op a b c m)]) ∧ Below w.heap.size w w' := by
  have hC : fC (opF op) = 67 := by rw [hF]; rfl
  have ho := op_of_form op (by omega)
  have hF' := Lib.hid hF
  clear hF
  go_enter Tryz.func18, Tryz.ntmps18
  go_wp2_with (first | (go_at_call 37; refine (form_says _ _).mono ?_; rintro e w' ⟨rfl, rfl⟩))
  all_goals go_ret2
  all_goals refine ⟨ret_ints ?_, (Below.refl _ _).alloc (Nat.le_refl _) _⟩
  all_goals clear hC
  all_goals (try simp only [bne_iff_ne, ne_eq, bne_eq_false_iff_eq] at *)
  all_goals first
    | exact enc_bad' _ _ _ _ _ 7 hF'.out (by decide) (by show badQ 1 _ _ _; unfold badQ; omega)
    | exact enc_range' _ _ _ _ _ 7 hF'.out (by decide) (by show ¬ badQ 1 _ _ _; unfold badQ; omega) (by show _ < 0 ∨ 10 < _; omega)
    | exact enc_ok' _ _ _ _ _ 7 _ hF'.out (by decide) (by show ¬ badQ 1 _ _ _; unfold badQ; omega) (by show ¬ (_ < 0 ∨ 10 < _); omega) (by rw [mask64_16, chain64v _ _ _ _ _ (by omega) (by omega) (by omega) (by omega) (by unfold fits; omega)]; show _ = _ + _ % 65536; omega)
set_option maxHeartbeats 4000000 in
theorem rencode_8 (op a b c m : Int) (hF : opF op = 8) (w : World) : Calls Tryz.prog 18 #[insV op a b c m] w fun e w' => e = .returned (.tuple #[i64 (encW op a b c m), i64 (encE op a b c m)]) ∧ Below w.heap.size w w' := by
  have hC : fC (opF op) = 78 := by rw [hF]; rfl
  have ho := op_of_form op (by omega)
  have hF' := Lib.hid hF
  clear hF
  go_enter Tryz.func18, Tryz.ntmps18
  go_wp2_with (first | (go_at_call 37; refine (form_says _ _).mono ?_; rintro e w' ⟨rfl, rfl⟩))
  all_goals go_ret2
  all_goals refine ⟨ret_ints ?_, (Below.refl _ _).alloc (Nat.le_refl _) _⟩
  all_goals clear hC
  all_goals (try simp only [bne_iff_ne, ne_eq, bne_eq_false_iff_eq] at *)
  all_goals first
    | exact enc_bad' _ _ _ _ _ 8 hF'.out (by decide) (by show badQ 0 _ _ _; unfold badQ; omega)
    | exact enc_range' _ _ _ _ _ 8 hF'.out (by decide) (by show ¬ badQ 0 _ _ _; unfold badQ; omega) (by show _ < 0 ∨ 0 < _; omega)
    | exact enc_ok' _ _ _ _ _ 8 _ hF'.out (by decide) (by show ¬ badQ 0 _ _ _; unfold badQ; omega) (by show ¬ (_ < 0 ∨ 0 < _); omega) (by rw [mask64_16, chain64v _ _ _ _ _ (by omega) (by omega) (by omega) (by omega) (by unfold fits; omega)]; show _ = _ + _ % 1; omega)
/-- The document's own Encode of every instruction: the same. -/
theorem rencode_says (op a b c m : Int) (w : World) : Calls Tryz.prog 18 #[insV op a b c m] w fun e w' => e = .returned (.tuple #[i64 (encW op a b c m), i64 (encE op a b c m)]) ∧ Below w.heap.size w w' := by
  have hf := opF_bd op
  rcases f_cases (opF op) hf.1 hf.2 with h | h | h | h | h | h | h | h | h
  · exact rencode_0 op a b c m h w
  · exact rencode_1 op a b c m h w
  · exact rencode_2 op a b c m h w
  · exact rencode_3 op a b c m h w
  · exact rencode_4 op a b c m h w
  · exact rencode_5 op a b c m h w
  · exact rencode_6 op a b c m h w
  · exact rencode_7 op a b c m h w
  · exact rencode_8 op a b c m h w
end Go.Proofs.YtfcmodllbhpniaaGreatDoor
