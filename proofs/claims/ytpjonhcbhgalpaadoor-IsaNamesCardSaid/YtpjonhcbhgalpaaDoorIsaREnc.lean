
/-
  The contract of the document's own answer Encode: the other forms, and all.
-/
import Derived.Test.YtpjonhcbhgalpaaDoorIsaREncA
namespace Go.Proofs.YtpjonhcbhgalpaaDoor
open Go.ChangeShapes Go.WideShapes Go.ChangeAt Go.RowKit
set_option maxHeartbeats 4000000 in
theorem rencode_5 (op a b c m : Int) (hF : opF op = 5) (w : World) : Calls Tryd.prog 18 #[insV op a b c m] w fun e w' => e = .returned (.tuple #[i64 (encW op a b c m), i64 (encE op a b c m)]) ∧ Below w.heap.size w w' := by
  have hC : fC (opF op) = 76 := by rw [hF]; rfl
  have ho := op_of_form op (by omega)
  have hF' := Lib.hid hF
  clear hF
  go_enter Tryd.func18, Tryd.ntmps18
  go_wp2_with (first | (go_at_call 6; refine (form_says _ _).mono ?_; rintro e w' ⟨rfl, rfl⟩))
  all_goals go_ret2
  all_goals refine ⟨ret_ints ?_, (Below.refl _ _).alloc (Nat.le_refl _) _⟩
  all_goals clear hC
  all_goals (try simp only [bne_iff_ne, ne_eq, bne_eq_false_iff_eq] at *)
  all_goals first
    | exact enc_bad' _ _ _ _ _ 5 hF'.out (by decide) (by show badQ 1 _ _ _; unfold badQ; omega)
    | exact enc_range' _ _ _ _ _ 5 hF'.out (by decide) (by show ¬ badQ 1 _ _ _; unfold badQ; omega) (by show _ < 0 ∨ 65535 < _; omega)
    | exact enc_ok' _ _ _ _ _ 5 _ hF'.out (by decide) (by show ¬ badQ 1 _ _ _; unfold badQ; omega) (by show ¬ (_ < 0 ∨ 65535 < _); omega) (by rw [mask64_16, chain64v _ _ _ _ _ (by omega) (by omega) (by omega) (by omega) (by unfold fits; omega)]; show _ = _ + _ % 65536; omega)
set_option maxHeartbeats 4000000 in
theorem rencode_6 (op a b c m : Int) (hF : opF op = 6) (w : World) : Calls Tryd.prog 18 #[insV op a b c m] w fun e w' => e = .returned (.tuple #[i64 (encW op a b c m), i64 (encE op a b c m)]) ∧ Below w.heap.size w w' := by
  have hC : fC (opF op) = 74 := by rw [hF]; rfl
  have ho := op_of_form op (by omega)
  have hF' := Lib.hid hF
  clear hF
  go_enter Tryd.func18, Tryd.ntmps18
  go_wp2_with (first | (go_at_call 6; refine (form_says _ _).mono ?_; rintro e w' ⟨rfl, rfl⟩))
  all_goals go_ret2
  all_goals refine ⟨ret_ints ?_, (Below.refl _ _).alloc (Nat.le_refl _) _⟩
  all_goals clear hC
  all_goals (try simp only [bne_iff_ne, ne_eq, bne_eq_false_iff_eq] at *)
  all_goals first
    | exact enc_bad' _ _ _ _ _ 6 hF'.out (by decide) (by show badQ 1 _ _ _; unfold badQ; omega)
    | exact enc_range' _ _ _ _ _ 6 hF'.out (by decide) (by show ¬ badQ 1 _ _ _; unfold badQ; omega) (by show _ < -524288 ∨ 524287 < _; omega)
    | exact enc_ok' _ _ _ _ _ 6 _ hF'.out (by decide) (by show ¬ badQ 1 _ _ _; unfold badQ; omega) (by show ¬ (_ < -524288 ∨ 524287 < _); omega) (by rw [mask64_20, chain64v _ _ _ _ _ (by omega) (by omega) (by omega) (by omega) (by unfold fits; omega)]; show _ = _ + _ % 1048576; omega)
set_option maxHeartbeats 4000000 in
theorem rencode_7 (op a b c m : Int) (hF : opF op = 7) (w : World) : Calls Tryd.prog 18 #[insV op a b c m] w fun e w' => e = .returned (.tuple #[i64 (encW op a b c m), i64 (encE op a b c m)]) ∧ Below w.heap.size w w' := by
  have hC : fC (opF op) = 67 := by rw [hF]; rfl
  have ho := op_of_form op (by omega)
  have hF' := Lib.hid hF
  clear hF
  go_enter Tryd.func18, Tryd.ntmps18
  go_wp2_with (first | (go_at_call 6; refine (form_says _ _).mono ?_; rintro e w' ⟨rfl, rfl⟩))
  all_goals go_ret2
  all_goals refine ⟨ret_ints ?_, (Below.refl _ _).alloc (Nat.le_refl _) _⟩
  all_goals clear hC
  all_goals (try simp only [bne_iff_ne, ne_eq, bne_eq_false_iff_eq] at *)
  all_goals first
    | exact enc_bad' _ _ _ _ _ 7 hF'.out (by decide) (by show badQ 1 _ _ _; unfold badQ; omega)
    | exact enc_range' _ _ _ _ _ 7 hF'.out (by decide) (by show ¬ badQ 1 _ _ _; unfold badQ; omega) (by show _ < 0 ∨ 10 < _; omega)
    | exact enc_ok' _ _ _ _ _ 7 _ hF'.out (by decide) (by show ¬ badQ 1 _ _ _; unfold badQ; omega) (by show ¬ (_ < 0 ∨ 10 < _); omega) (by rw [mask64_16, chain64v _ _ _ _ _ (by omega) (by omega) (by omega) (by omega) (by unfold fits; omega)]; show _ = _ + _ % 65536; omega)
set_option maxHeartbeats 4000000 in
theorem rencode_8 (op a b c m : Int) (hF : opF op = 8) (w : World) : Calls Tryd.prog 18 #[insV op a b c m] w fun e w' => e = .returned (.tuple #[i64 (encW op a b c m), i64 (encE op a b c m)]) ∧ Below w.heap.size w w' := by
  have hC : fC (opF op) = 78 := by rw [hF]; rfl
  have ho := op_of_form op (by omega)
  have hF' := Lib.hid hF
  clear hF
  go_enter Tryd.func18, Tryd.ntmps18
  go_wp2_with (first | (go_at_call 6; refine (form_says _ _).mono ?_; rintro e w' ⟨rfl, rfl⟩))
  all_goals go_ret2
  all_goals refine ⟨ret_ints ?_, (Below.refl _ _).alloc (Nat.le_refl _) _⟩
  all_goals clear hC
  all_goals (try simp only [bne_iff_ne, ne_eq, bne_eq_false_iff_eq] at *)
  all_goals first
    | exact enc_bad' _ _ _ _ _ 8 hF'.out (by decide) (by show badQ 0 _ _ _; unfold badQ; omega)
    | exact enc_range' _ _ _ _ _ 8 hF'.out (by decide) (by show ¬ badQ 0 _ _ _; unfold badQ; omega) (by show _ < 0 ∨ 0 < _; omega)
    | exact enc_ok' _ _ _ _ _ 8 _ hF'.out (by decide) (by show ¬ badQ 0 _ _ _; unfold badQ; omega) (by show ¬ (_ < 0 ∨ 0 < _); omega) (by rw [mask64_16, chain64v _ _ _ _ _ (by omega) (by omega) (by omega) (by omega) (by unfold fits; omega)]; show _ = _ + _ % 1; omega)
/-- The document's own Encode of every instruction: the same. -/
theorem rencode_says (op a b c m : Int) (w : World) : Calls Tryd.prog 18 #[insV op a b c m] w fun e w' => e = .returned (.tuple #[i64 (encW op a b c m), i64 (encE op a b c m)]) ∧ Below w.heap.size w w' := by
  have hf := opF_bd op
  rcases f_cases (opF op) hf.1 hf.2 with h | h | h | h | h | h | h | h | h
  · exact rencode_0 op a b c m h w
  · exact rencode_1 op a b c m h w
  · exact rencode_2 op a b c m h w
  · exact rencode_3 op a b c m h w
  · exact rencode_4 op a b c m h w
  · exact rencode_5 op a b c m h w
  · exact rencode_6 op a b c m h w
  · exact rencode_7 op a b c m h w
  · exact rencode_8 op a b c m h w
end Go.Proofs.YtpjonhcbhgalpaaDoor
