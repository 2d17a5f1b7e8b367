/-
  Each field of a word stands where the document says, and a bit that is no field's makes it none (law IsaFields returns true).
  No condition on the arguments: whatever they are. The card ties the three listed tables of Go's library to the program's text.
-/
import Derived.Test.YtfhfgogiijcmbaaDoorIsaFrame
import Derived.Test.YtfhfgogiijcmbaaDoorCards
import Derived.Test.YtfhfgogiijcmbaaDoorTie
import Derived.SevenTiedAt
import Derived.Test.YtfhfgogiijcmbaaDoorIsaFlip
namespace Go.Proofs.YtfhfgogiijcmbaaDoor.isaFields
open Go Go.ChangeShapes Go.WideShapes Go.ChangeAt Go.RowKit
set_option linter.unusedVariables false
theorem pow_in (k : Nat) (h : k ≤ 31) : wrap64 (2 ^ k) = 2 ^ k := by
  have h1 := pow_pos' k
  have h2 : (2 : Int) ^ k ≤ 2147483648 := pow_le' (b := 31) h
  exact IntWalk.wrap64_in _ (by omega)
set_option maxHeartbeats 8000000 in
theorem field_1_0 (o a b c m x : Int) (h : encE o a b c m = 0) (f : opF o = 1) (h0 : 0 ≤ x) (h1 : x ≤ 11) (W : World) (hT : Tab W) : Calls Tryd.prog 7 #[insV o a b c m, i64 x] W fun e W' => e = .returned (.bool true) ∧ Below W.heap.size W W' := by
  have e1 : (encE o a b c m != 0) = false := by simpa using h
  have hC : fC (opF o) = 82 := by rw [f]; rfl
  have hw := pow_in x.toNat (by omega)
  have e5 : (decE (wd (bits .xor .i64 (encW o a b c m) (2 ^ x.toNat))) == 5) = true := by rw [field_err o a b c m x.toNat (by omega) h (.inl ⟨f, by omega⟩)]; rfl
  clear h f
  go_enter Tryd.func7, Tryd.ntmps7
  go_wp2_with (first | (go_at_call 11; refine (alive_says _ (hT.later ((Below.refl _ _).alloc (Nat.le_refl _) _))).mono ?_; rintro e w1 ⟨rfl, hb1⟩; obtain ⟨hc1, hf1⟩ := bcell hb1; have hz1 : W.heap.size < w1.heap.size := (by have := hb1.size; simp at this; omega)) | (go_at_call 13; refine (rencode_says _ _ _ _ _ _).mono ?_; rintro e w2 ⟨rfl, hb2⟩; obtain ⟨hc2, hf2⟩ := bcell hb2; have hs2 : w1.heap.size ≤ w2.heap.size := hb2.size; have hz2 : W.heap.size < w2.heap.size := (by omega)) | (go_at_call 18; refine (form_says _ _).mono ?_; rintro e w' ⟨rfl, rfl⟩) | (go_at_call 14; refine (num_says _ _).mono ?_; rintro e w' ⟨rfl, rfl⟩) | (go_at_call 15; refine (decode_says _ _).mono ?_; rintro e w3 ⟨rfl, hb3⟩; obtain ⟨hc3, hf3⟩ := bcell hb3; have hs3 : w2.heap.size ≤ w3.heap.size := hb3.size; have hz3 : W.heap.size < w3.heap.size := (by omega)) | (go_at_call 16; refine (rdecode_says _ _).mono ?_; rintro e w4 ⟨rfl, hb4⟩; obtain ⟨hc4, hf4⟩ := bcell hb4; have hs4 : w3.heap.size < w4.heap.size := (by have := hb4.size; simp at this; omega); have hz4 : W.heap.size < w4.heap.size := (by omega)))
  go_ret
  exact ⟨ret_bool rfl, (((((((Below.refl _ _).alloc (Nat.le_refl _) _).trans (hb1.mono (by simp))).trans (hb2.mono (by omega))).trans (hb3.mono (by omega))).alloc (by omega) _).trans (hb4.mono (by simp; omega))).alloc (by omega) _⟩
set_option maxHeartbeats 8000000 in
theorem field_1_12 (o a b c m x : Int) (h : encE o a b c m = 0) (f : opF o = 1) (h0 : 12 ≤ x) (h1 : x ≤ 19) (W : World) (hT : Tab W) : Calls Tryd.prog 7 #[insV o a b c m, i64 x] W fun e W' => e = .returned (.bool true) ∧ Below W.heap.size W W' := by
  have e1 : (encE o a b c m != 0) = false := by simpa using h
  have hC : fC (opF o) = 82 := by rw [f]; rfl
  have hw := pow_in x.toNat (by omega)
  clear h f
  go_enter Tryd.func7, Tryd.ntmps7
  go_wp2_with (first | (go_at_call 11; refine (alive_says _ (hT.later ((Below.refl _ _).alloc (Nat.le_refl _) _))).mono ?_; rintro e w1 ⟨rfl, hb1⟩; obtain ⟨hc1, hf1⟩ := bcell hb1; have hz1 : W.heap.size < w1.heap.size := (by have := hb1.size; simp at this; omega)) | (go_at_call 13; refine (rencode_says _ _ _ _ _ _).mono ?_; rintro e w2 ⟨rfl, hb2⟩; obtain ⟨hc2, hf2⟩ := bcell hb2; have hs2 : w1.heap.size ≤ w2.heap.size := hb2.size; have hz2 : W.heap.size < w2.heap.size := (by omega)) | (go_at_call 18; refine (form_says _ _).mono ?_; rintro e w' ⟨rfl, rfl⟩) | (go_at_call 14; refine (num_says _ _).mono ?_; rintro e w' ⟨rfl, rfl⟩) | (go_at_call 15; refine (decode_says _ _).mono ?_; rintro e w3 ⟨rfl, hb3⟩; obtain ⟨hc3, hf3⟩ := bcell hb3; have hs3 : w2.heap.size ≤ w3.heap.size := hb3.size; have hz3 : W.heap.size < w3.heap.size := (by omega)) | (go_at_call 16; refine (rdecode_says _ _).mono ?_; rintro e w4 ⟨rfl, hb4⟩; obtain ⟨hc4, hf4⟩ := bcell hb4; have hs4 : w3.heap.size < w4.heap.size := (by have := hb4.size; simp at this; omega); have hz4 : W.heap.size < w4.heap.size := (by omega)))
  go_ret
  exact ⟨ret_bool rfl, (((((((Below.refl _ _).alloc (Nat.le_refl _) _).trans (hb1.mono (by simp))).trans (hb2.mono (by omega))).trans (hb3.mono (by omega))).alloc (by omega) _).trans (hb4.mono (by simp; omega))).alloc (by omega) _⟩
set_option maxHeartbeats 8000000 in
theorem field_1_20 (o a b c m x : Int) (h : encE o a b c m = 0) (f : opF o = 1) (h0 : 20 ≤ x) (h1 : x ≤ 23) (W : World) (hT : Tab W) : Calls Tryd.prog 7 #[insV o a b c m, i64 x] W fun e W' => e = .returned (.bool true) ∧ Below W.heap.size W W' := by
  have e1 : (encE o a b c m != 0) = false := by simpa using h
  have hC : fC (opF o) = 82 := by rw [f]; rfl
  have hw := pow_in x.toNat (by omega)
  have hw2 := pow_in (x - 20).toNat (by omega)
  have hk : x.toNat - 20 = (x - 20).toNat := by omega
  obtain ⟨d0, d1, d2, d3, d5⟩ := field_a o a b c m x.toNat (by omega) (by omega) h (by omega)
  rw [hk] at d2
  have k0 : (decE (wd (bits .xor .i64 (encW o a b c m) (2 ^ x.toNat))) == 0) = true := by rw [d0]; rfl
  have k1 : (gA (wd (bits .xor .i64 (encW o a b c m) (2 ^ x.toNat))) == bits .xor .i64 a (2 ^ (x - 20).toNat)) = true := by rw [d2]; simp
  have k2 : (gB (wd (bits .xor .i64 (encW o a b c m) (2 ^ x.toNat))) == b) = true := by rw [d3]; simp
  have k3 : (gM (wd (bits .xor .i64 (encW o a b c m) (2 ^ x.toNat))) == m) = true := by rw [d5]; simp
  have k4 : (gO (wd (bits .xor .i64 (encW o a b c m) (2 ^ x.toNat))) == o) = true := by rw [d1]; simp
  clear d0 d1 d2 d3 d5 hk
  clear h f
  go_enter Tryd.func7, Tryd.ntmps7
  go_wp2_with (first | (go_at_call 11; refine (alive_says _ (hT.later ((Below.refl _ _).alloc (Nat.le_refl _) _))).mono ?_; rintro e w1 ⟨rfl, hb1⟩; obtain ⟨hc1, hf1⟩ := bcell hb1; have hz1 : W.heap.size < w1.heap.size := (by have := hb1.size; simp at this; omega)) | (go_at_call 13; refine (rencode_says _ _ _ _ _ _).mono ?_; rintro e w2 ⟨rfl, hb2⟩; obtain ⟨hc2, hf2⟩ := bcell hb2; have hs2 : w1.heap.size ≤ w2.heap.size := hb2.size; have hz2 : W.heap.size < w2.heap.size := (by omega)) | (go_at_call 18; refine (form_says _ _).mono ?_; rintro e w' ⟨rfl, rfl⟩) | (go_at_call 14; refine (num_says _ _).mono ?_; rintro e w' ⟨rfl, rfl⟩) | (go_at_call 15; refine (decode_says _ _).mono ?_; rintro e w3 ⟨rfl, hb3⟩; obtain ⟨hc3, hf3⟩ := bcell hb3; have hs3 : w2.heap.size ≤ w3.heap.size := hb3.size; have hz3 : W.heap.size < w3.heap.size := (by omega)) | (go_at_call 16; refine (rdecode_says _ _).mono ?_; rintro e w4 ⟨rfl, hb4⟩; obtain ⟨hc4, hf4⟩ := bcell hb4; have hs4 : w3.heap.size < w4.heap.size := (by have := hb4.size; simp at this; omega); have hz4 : W.heap.size < w4.heap.size := (by omega)))
  go_ret
  exact ⟨ret_bool rfl, (((((((Below.refl _ _).alloc (Nat.le_refl _) _).trans (hb1.mono (by simp))).trans (hb2.mono (by omega))).trans (hb3.mono (by omega))).alloc (by omega) _).trans (hb4.mono (by simp; omega))).alloc (by omega) _⟩
set_option maxHeartbeats 8000000 in
theorem field_1_24 (o a b c m x : Int) (h : encE o a b c m = 0) (f : opF o = 1) (h0 : 24 ≤ x) (h1 : x ≤ 31) (W : World) (hT : Tab W) : Calls Tryd.prog 7 #[insV o a b c m, i64 x] W fun e W' => e = .returned (.bool true) ∧ Below W.heap.size W W' := by
  have e1 : (encE o a b c m != 0) = false := by simpa using h
  have hC : fC (opF o) = 82 := by rw [f]; rfl
  have hw := pow_in x.toNat (by omega)
  clear h f
  go_enter Tryd.func7, Tryd.ntmps7
  go_wp2_with (first | (go_at_call 11; refine (alive_says _ (hT.later ((Below.refl _ _).alloc (Nat.le_refl _) _))).mono ?_; rintro e w1 ⟨rfl, hb1⟩; obtain ⟨hc1, hf1⟩ := bcell hb1; have hz1 : W.heap.size < w1.heap.size := (by have := hb1.size; simp at this; omega)) | (go_at_call 13; refine (rencode_says _ _ _ _ _ _).mono ?_; rintro e w2 ⟨rfl, hb2⟩; obtain ⟨hc2, hf2⟩ := bcell hb2; have hs2 : w1.heap.size ≤ w2.heap.size := hb2.size; have hz2 : W.heap.size < w2.heap.size := (by omega)) | (go_at_call 18; refine (form_says _ _).mono ?_; rintro e w' ⟨rfl, rfl⟩) | (go_at_call 14; refine (num_says _ _).mono ?_; rintro e w' ⟨rfl, rfl⟩) | (go_at_call 15; refine (decode_says _ _).mono ?_; rintro e w3 ⟨rfl, hb3⟩; obtain ⟨hc3, hf3⟩ := bcell hb3; have hs3 : w2.heap.size ≤ w3.heap.size := hb3.size; have hz3 : W.heap.size < w3.heap.size := (by omega)) | (go_at_call 16; refine (rdecode_says _ _).mono ?_; rintro e w4 ⟨rfl, hb4⟩; obtain ⟨hc4, hf4⟩ := bcell hb4; have hs4 : w3.heap.size < w4.heap.size := (by have := hb4.size; simp at this; omega); have hz4 : W.heap.size < w4.heap.size := (by omega)))
  go_ret
  exact ⟨ret_bool rfl, (((((((Below.refl _ _).alloc (Nat.le_refl _) _).trans (hb1.mono (by simp))).trans (hb2.mono (by omega))).trans (hb3.mono (by omega))).alloc (by omega) _).trans (hb4.mono (by simp; omega))).alloc (by omega) _⟩
set_option maxHeartbeats 8000000 in
theorem field_2_0 (o a b c m x : Int) (h : encE o a b c m = 0) (f : opF o = 2) (h0 : 0 ≤ x) (h1 : x ≤ 19) (W : World) (hT : Tab W) : Calls Tryd.prog 7 #[insV o a b c m, i64 x] W fun e W' => e = .returned (.bool true) ∧ Below W.heap.size W W' := by
  have e1 : (encE o a b c m != 0) = false := by simpa using h
  have hC : fC (opF o) = 73 := by rw [f]; rfl
  have hw := pow_in x.toNat (by omega)
  clear h f
  go_enter Tryd.func7, Tryd.ntmps7
  go_wp2_with (first | (go_at_call 11; refine (alive_says _ (hT.later ((Below.refl _ _).alloc (Nat.le_refl _) _))).mono ?_; rintro e w1 ⟨rfl, hb1⟩; obtain ⟨hc1, hf1⟩ := bcell hb1; have hz1 : W.heap.size < w1.heap.size := (by have := hb1.size; simp at this; omega)) | (go_at_call 13; refine (rencode_says _ _ _ _ _ _).mono ?_; rintro e w2 ⟨rfl, hb2⟩; obtain ⟨hc2, hf2⟩ := bcell hb2; have hs2 : w1.heap.size ≤ w2.heap.size := hb2.size; have hz2 : W.heap.size < w2.heap.size := (by omega)) | (go_at_call 18; refine (form_says _ _).mono ?_; rintro e w' ⟨rfl, rfl⟩) | (go_at_call 14; refine (num_says _ _).mono ?_; rintro e w' ⟨rfl, rfl⟩) | (go_at_call 15; refine (decode_says _ _).mono ?_; rintro e w3 ⟨rfl, hb3⟩; obtain ⟨hc3, hf3⟩ := bcell hb3; have hs3 : w2.heap.size ≤ w3.heap.size := hb3.size; have hz3 : W.heap.size < w3.heap.size := (by omega)) | (go_at_call 16; refine (rdecode_says _ _).mono ?_; rintro e w4 ⟨rfl, hb4⟩; obtain ⟨hc4, hf4⟩ := bcell hb4; have hs4 : w3.heap.size < w4.heap.size := (by have := hb4.size; simp at this; omega); have hz4 : W.heap.size < w4.heap.size := (by omega)))
  go_ret
  exact ⟨ret_bool rfl, (((((((Below.refl _ _).alloc (Nat.le_refl _) _).trans (hb1.mono (by simp))).trans (hb2.mono (by omega))).trans (hb3.mono (by omega))).alloc (by omega) _).trans (hb4.mono (by simp; omega))).alloc (by omega) _⟩
set_option maxHeartbeats 8000000 in
theorem field_2_20 (o a b c m x : Int) (h : encE o a b c m = 0) (f : opF o = 2) (h0 : 20 ≤ x) (h1 : x ≤ 23) (W : World) (hT : Tab W) : Calls Tryd.prog 7 #[insV o a b c m, i64 x] W fun e W' => e = .returned (.bool true) ∧ Below W.heap.size W W' := by
  have e1 : (encE o a b c m != 0) = false := by simpa using h
  have hC : fC (opF o) = 73 := by rw [f]; rfl
  have hw := pow_in x.toNat (by omega)
  have hw2 := pow_in (x - 20).toNat (by omega)
  have hk : x.toNat - 20 = (x - 20).toNat := by omega
  obtain ⟨d0, d1, d2, d3, d5⟩ := field_a o a b c m x.toNat (by omega) (by omega) h (by omega)
  rw [hk] at d2
  have k0 : (decE (wd (bits .xor .i64 (encW o a b c m) (2 ^ x.toNat))) == 0) = true := by rw [d0]; rfl
  have k1 : (gA (wd (bits .xor .i64 (encW o a b c m) (2 ^ x.toNat))) == bits .xor .i64 a (2 ^ (x - 20).toNat)) = true := by rw [d2]; simp
  have k2 : (gB (wd (bits .xor .i64 (encW o a b c m) (2 ^ x.toNat))) == b) = true := by rw [d3]; simp
  have k3 : (gM (wd (bits .xor .i64 (encW o a b c m) (2 ^ x.toNat))) == m) = true := by rw [d5]; simp
  have k4 : (gO (wd (bits .xor .i64 (encW o a b c m) (2 ^ x.toNat))) == o) = true := by rw [d1]; simp
  clear d0 d1 d2 d3 d5 hk
  clear h f
  go_enter Tryd.func7, Tryd.ntmps7
  go_wp2_with (first | (go_at_call 11; refine (alive_says _ (hT.later ((Below.refl _ _).alloc (Nat.le_refl _) _))).mono ?_; rintro e w1 ⟨rfl, hb1⟩; obtain ⟨hc1, hf1⟩ := bcell hb1; have hz1 : W.heap.size < w1.heap.size := (by have := hb1.size; simp at this; omega)) | (go_at_call 13; refine (rencode_says _ _ _ _ _ _).mono ?_; rintro e w2 ⟨rfl, hb2⟩; obtain ⟨hc2, hf2⟩ := bcell hb2; have hs2 : w1.heap.size ≤ w2.heap.size := hb2.size; have hz2 : W.heap.size < w2.heap.size := (by omega)) | (go_at_call 18; refine (form_says _ _).mono ?_; rintro e w' ⟨rfl, rfl⟩) | (go_at_call 14; refine (num_says _ _).mono ?_; rintro e w' ⟨rfl, rfl⟩) | (go_at_call 15; refine (decode_says _ _).mono ?_; rintro e w3 ⟨rfl, hb3⟩; obtain ⟨hc3, hf3⟩ := bcell hb3; have hs3 : w2.heap.size ≤ w3.heap.size := hb3.size; have hz3 : W.heap.size < w3.heap.size := (by omega)) | (go_at_call 16; refine (rdecode_says _ _).mono ?_; rintro e w4 ⟨rfl, hb4⟩; obtain ⟨hc4, hf4⟩ := bcell hb4; have hs4 : w3.heap.size < w4.heap.size := (by have := hb4.size; simp at this; omega); have hz4 : W.heap.size < w4.heap.size := (by omega)))
  go_ret
  exact ⟨ret_bool rfl, (((((((Below.refl _ _).alloc (Nat.le_refl _) _).trans (hb1.mono (by simp))).trans (hb2.mono (by omega))).trans (hb3.mono (by omega))).alloc (by omega) _).trans (hb4.mono (by simp; omega))).alloc (by omega) _⟩
set_option maxHeartbeats 8000000 in
theorem field_2_24 (o a b c m x : Int) (h : encE o a b c m = 0) (f : opF o = 2) (h0 : 24 ≤ x) (h1 : x ≤ 31) (W : World) (hT : Tab W) : Calls Tryd.prog 7 #[insV o a b c m, i64 x] W fun e W' => e = .returned (.bool true) ∧ Below W.heap.size W W' := by
  have e1 : (encE o a b c m != 0) = false := by simpa using h
  have hC : fC (opF o) = 73 := by rw [f]; rfl
  have hw := pow_in x.toNat (by omega)
  clear h f
  go_enter Tryd.func7, Tryd.ntmps7
  go_wp2_with (first | (go_at_call 11; refine (alive_says _ (hT.later ((Below.refl _ _).alloc (Nat.le_refl _) _))).mono ?_; rintro e w1 ⟨rfl, hb1⟩; obtain ⟨hc1, hf1⟩ := bcell hb1; have hz1 : W.heap.size < w1.heap.size := (by have := hb1.size; simp at this; omega)) | (go_at_call 13; refine (rencode_says _ _ _ _ _ _).mono ?_; rintro e w2 ⟨rfl, hb2⟩; obtain ⟨hc2, hf2⟩ := bcell hb2; have hs2 : w1.heap.size ≤ w2.heap.size := hb2.size; have hz2 : W.heap.size < w2.heap.size := (by omega)) | (go_at_call 18; refine (form_says _ _).mono ?_; rintro e w' ⟨rfl, rfl⟩) | (go_at_call 14; refine (num_says _ _).mono ?_; rintro e w' ⟨rfl, rfl⟩) | (go_at_call 15; refine (decode_says _ _).mono ?_; rintro e w3 ⟨rfl, hb3⟩; obtain ⟨hc3, hf3⟩ := bcell hb3; have hs3 : w2.heap.size ≤ w3.heap.size := hb3.size; have hz3 : W.heap.size < w3.heap.size := (by omega)) | (go_at_call 16; refine (rdecode_says _ _).mono ?_; rintro e w4 ⟨rfl, hb4⟩; obtain ⟨hc4, hf4⟩ := bcell hb4; have hs4 : w3.heap.size < w4.heap.size := (by have := hb4.size; simp at this; omega); have hz4 : W.heap.size < w4.heap.size := (by omega)))
  go_ret
  exact ⟨ret_bool rfl, (((((((Below.refl _ _).alloc (Nat.le_refl _) _).trans (hb1.mono (by simp))).trans (hb2.mono (by omega))).trans (hb3.mono (by omega))).alloc (by omega) _).trans (hb4.mono (by simp; omega))).alloc (by omega) _⟩
set_option maxHeartbeats 8000000 in
theorem field_3_0 (o a b c m x : Int) (h : encE o a b c m = 0) (f : opF o = 3) (h0 : 0 ≤ x) (h1 : x ≤ 19) (W : World) (hT : Tab W) : Calls Tryd.prog 7 #[insV o a b c m, i64 x] W fun e W' => e = .returned (.bool true) ∧ Below W.heap.size W W' := by
  have e1 : (encE o a b c m != 0) = false := by simpa using h
  have hC : fC (opF o) = 85 := by rw [f]; rfl
  have hw := pow_in x.toNat (by omega)
  clear h f
  go_enter Tryd.func7, Tryd.ntmps7
  go_wp2_with (first | (go_at_call 11; refine (alive_says _ (hT.later ((Below.refl _ _).alloc (Nat.le_refl _) _))).mono ?_; rintro e w1 ⟨rfl, hb1⟩; obtain ⟨hc1, hf1⟩ := bcell hb1; have hz1 : W.heap.size < w1.heap.size := (by have := hb1.size; simp at this; omega)) | (go_at_call 13; refine (rencode_says _ _ _ _ _ _).mono ?_; rintro e w2 ⟨rfl, hb2⟩; obtain ⟨hc2, hf2⟩ := bcell hb2; have hs2 : w1.heap.size ≤ w2.heap.size := hb2.size; have hz2 : W.heap.size < w2.heap.size := (by omega)) | (go_at_call 18; refine (form_says _ _).mono ?_; rintro e w' ⟨rfl, rfl⟩) | (go_at_call 14; refine (num_says _ _).mono ?_; rintro e w' ⟨rfl, rfl⟩) | (go_at_call 15; refine (decode_says _ _).mono ?_; rintro e w3 ⟨rfl, hb3⟩; obtain ⟨hc3, hf3⟩ := bcell hb3; have hs3 : w2.heap.size ≤ w3.heap.size := hb3.size; have hz3 : W.heap.size < w3.heap.size := (by omega)) | (go_at_call 16; refine (rdecode_says _ _).mono ?_; rintro e w4 ⟨rfl, hb4⟩; obtain ⟨hc4, hf4⟩ := bcell hb4; have hs4 : w3.heap.size < w4.heap.size := (by have := hb4.size; simp at this; omega); have hz4 : W.heap.size < w4.heap.size := (by omega)))
  go_ret
  exact ⟨ret_bool rfl, (((((((Below.refl _ _).alloc (Nat.le_refl _) _).trans (hb1.mono (by simp))).trans (hb2.mono (by omega))).trans (hb3.mono (by omega))).alloc (by omega) _).trans (hb4.mono (by simp; omega))).alloc (by omega) _⟩
set_option maxHeartbeats 8000000 in
theorem field_3_20 (o a b c m x : Int) (h : encE o a b c m = 0) (f : opF o = 3) (h0 : 20 ≤ x) (h1 : x ≤ 23) (W : World) (hT : Tab W) : Calls Tryd.prog 7 #[insV o a b c m, i64 x] W fun e W' => e = .returned (.bool true) ∧ Below W.heap.size W W' := by
  have e1 : (encE o a b c m != 0) = false := by simpa using h
  have hC : fC (opF o) = 85 := by rw [f]; rfl
  have hw := pow_in x.toNat (by omega)
  have hw2 := pow_in (x - 20).toNat (by omega)
  have hk : x.toNat - 20 = (x - 20).toNat := by omega
  obtain ⟨d0, d1, d2, d3, d5⟩ := field_a o a b c m x.toNat (by omega) (by omega) h (by omega)
  rw [hk] at d2
  have k0 : (decE (wd (bits .xor .i64 (encW o a b c m) (2 ^ x.toNat))) == 0) = true := by rw [d0]; rfl
  have k1 : (gA (wd (bits .xor .i64 (encW o a b c m) (2 ^ x.toNat))) == bits .xor .i64 a (2 ^ (x - 20).toNat)) = true := by rw [d2]; simp
  have k2 : (gB (wd (bits .xor .i64 (encW o a b c m) (2 ^ x.toNat))) == b) = true := by rw [d3]; simp
  have k3 : (gM (wd (bits .xor .i64 (encW o a b c m) (2 ^ x.toNat))) == m) = true := by rw [d5]; simp
  have k4 : (gO (wd (bits .xor .i64 (encW o a b c m) (2 ^ x.toNat))) == o) = true := by rw [d1]; simp
  clear d0 d1 d2 d3 d5 hk
  clear h f
  go_enter Tryd.func7, Tryd.ntmps7
  go_wp2_with (first | (go_at_call 11; refine (alive_says _ (hT.later ((Below.refl _ _).alloc (Nat.le_refl _) _))).mono ?_; rintro e w1 ⟨rfl, hb1⟩; obtain ⟨hc1, hf1⟩ := bcell hb1; have hz1 : W.heap.size < w1.heap.size := (by have := hb1.size; simp at this; omega)) | (go_at_call 13; refine (rencode_says _ _ _ _ _ _).mono ?_; rintro e w2 ⟨rfl, hb2⟩; obtain ⟨hc2, hf2⟩ := bcell hb2; have hs2 : w1.heap.size ≤ w2.heap.size := hb2.size; have hz2 : W.heap.size < w2.heap.size := (by omega)) | (go_at_call 18; refine (form_says _ _).mono ?_; rintro e w' ⟨rfl, rfl⟩) | (go_at_call 14; refine (num_says _ _).mono ?_; rintro e w' ⟨rfl, rfl⟩) | (go_at_call 15; refine (decode_says _ _).mono ?_; rintro e w3 ⟨rfl, hb3⟩; obtain ⟨hc3, hf3⟩ := bcell hb3; have hs3 : w2.heap.size ≤ w3.heap.size := hb3.size; have hz3 : W.heap.size < w3.heap.size := (by omega)) | (go_at_call 16; refine (rdecode_says _ _).mono ?_; rintro e w4 ⟨rfl, hb4⟩; obtain ⟨hc4, hf4⟩ := bcell hb4; have hs4 : w3.heap.size < w4.heap.size := (by have := hb4.size; simp at this; omega); have hz4 : W.heap.size < w4.heap.size := (by omega)))
  go_ret
  exact ⟨ret_bool rfl, (((((((Below.refl _ _).alloc (Nat.le_refl _) _).trans (hb1.mono (by simp))).trans (hb2.mono (by omega))).trans (hb3.mono (by omega))).alloc (by omega) _).trans (hb4.mono (by simp; omega))).alloc (by omega) _⟩
set_option maxHeartbeats 8000000 in
theorem field_3_24 (o a b c m x : Int) (h : encE o a b c m = 0) (f : opF o = 3) (h0 : 24 ≤ x) (h1 : x ≤ 31) (W : World) (hT : Tab W) : Calls Tryd.prog 7 #[insV o a b c m, i64 x] W fun e W' => e = .returned (.bool true) ∧ Below W.heap.size W W' := by
  have e1 : (encE o a b c m != 0) = false := by simpa using h
  have hC : fC (opF o) = 85 := by rw [f]; rfl
  have hw := pow_in x.toNat (by omega)
  clear h f
  go_enter Tryd.func7, Tryd.ntmps7
  go_wp2_with (first | (go_at_call 11; refine (alive_says _ (hT.later ((Below.refl _ _).alloc (Nat.le_refl _) _))).mono ?_; rintro e w1 ⟨rfl, hb1⟩; obtain ⟨hc1, hf1⟩ := bcell hb1; have hz1 : W.heap.size < w1.heap.size := (by have := hb1.size; simp at this; omega)) | (go_at_call 13; refine (rencode_says _ _ _ _ _ _).mono ?_; rintro e w2 ⟨rfl, hb2⟩; obtain ⟨hc2, hf2⟩ := bcell hb2; have hs2 : w1.heap.size ≤ w2.heap.size := hb2.size; have hz2 : W.heap.size < w2.heap.size := (by omega)) | (go_at_call 18; refine (form_says _ _).mono ?_; rintro e w' ⟨rfl, rfl⟩) | (go_at_call 14; refine (num_says _ _).mono ?_; rintro e w' ⟨rfl, rfl⟩) | (go_at_call 15; refine (decode_says _ _).mono ?_; rintro e w3 ⟨rfl, hb3⟩; obtain ⟨hc3, hf3⟩ := bcell hb3; have hs3 : w2.heap.size ≤ w3.heap.size := hb3.size; have hz3 : W.heap.size < w3.heap.size := (by omega)) | (go_at_call 16; refine (rdecode_says _ _).mono ?_; rintro e w4 ⟨rfl, hb4⟩; obtain ⟨hc4, hf4⟩ := bcell hb4; have hs4 : w3.heap.size < w4.heap.size := (by have := hb4.size; simp at this; omega); have hz4 : W.heap.size < w4.heap.size := (by omega)))
  go_ret
  exact ⟨ret_bool rfl, (((((((Below.refl _ _).alloc (Nat.le_refl _) _).trans (hb1.mono (by simp))).trans (hb2.mono (by omega))).trans (hb3.mono (by omega))).alloc (by omega) _).trans (hb4.mono (by simp; omega))).alloc (by omega) _⟩
set_option maxHeartbeats 8000000 in
theorem field_4_0 (o a b c m x : Int) (h : encE o a b c m = 0) (f : opF o = 4) (h0 : 0 ≤ x) (h1 : x ≤ 19) (W : World) (hT : Tab W) : Calls Tryd.prog 7 #[insV o a b c m, i64 x] W fun e W' => e = .returned (.bool true) ∧ Below W.heap.size W W' := by
  have e1 : (encE o a b c m != 0) = false := by simpa using h
  have hC : fC (opF o) = 72 := by rw [f]; rfl
  have hw := pow_in x.toNat (by omega)
  clear h f
  go_enter Tryd.func7, Tryd.ntmps7
  go_wp2_with (first | (go_at_call 11; refine (alive_says _ (hT.later ((Below.refl _ _).alloc (Nat.le_refl _) _))).mono ?_; rintro e w1 ⟨rfl, hb1⟩; obtain ⟨hc1, hf1⟩ := bcell hb1; have hz1 : W.heap.size < w1.heap.size := (by have := hb1.size; simp at this; omega)) | (go_at_call 13; refine (rencode_says _ _ _ _ _ _).mono ?_; rintro e w2 ⟨rfl, hb2⟩; obtain ⟨hc2, hf2⟩ := bcell hb2; have hs2 : w1.heap.size ≤ w2.heap.size := hb2.size; have hz2 : W.heap.size < w2.heap.size := (by omega)) | (go_at_call 18; refine (form_says _ _).mono ?_; rintro e w' ⟨rfl, rfl⟩) | (go_at_call 14; refine (num_says _ _).mono ?_; rintro e w' ⟨rfl, rfl⟩) | (go_at_call 15; refine (decode_says _ _).mono ?_; rintro e w3 ⟨rfl, hb3⟩; obtain ⟨hc3, hf3⟩ := bcell hb3; have hs3 : w2.heap.size ≤ w3.heap.size := hb3.size; have hz3 : W.heap.size < w3.heap.size := (by omega)) | (go_at_call 16; refine (rdecode_says _ _).mono ?_; rintro e w4 ⟨rfl, hb4⟩; obtain ⟨hc4, hf4⟩ := bcell hb4; have hs4 : w3.heap.size < w4.heap.size := (by have := hb4.size; simp at this; omega); have hz4 : W.heap.size < w4.heap.size := (by omega)))
  go_ret
  exact ⟨ret_bool rfl, (((((((Below.refl _ _).alloc (Nat.le_refl _) _).trans (hb1.mono (by simp))).trans (hb2.mono (by omega))).trans (hb3.mono (by omega))).alloc (by omega) _).trans (hb4.mono (by simp; omega))).alloc (by omega) _⟩
set_option maxHeartbeats 8000000 in
theorem field_4_20 (o a b c m x : Int) (h : encE o a b c m = 0) (f : opF o = 4) (h0 : 20 ≤ x) (h1 : x ≤ 23) (W : World) (hT : Tab W) : Calls Tryd.prog 7 #[insV o a b c m, i64 x] W fun e W' => e = .returned (.bool true) ∧ Below W.heap.size W W' := by
  have e1 : (encE o a b c m != 0) = false := by simpa using h
  have hC : fC (opF o) = 72 := by rw [f]; rfl
  have hw := pow_in x.toNat (by omega)
  have hw2 := pow_in (x - 20).toNat (by omega)
  have hk : x.toNat - 20 = (x - 20).toNat := by omega
  obtain ⟨d0, d1, d2, d3, d5⟩ := field_a o a b c m x.toNat (by omega) (by omega) h (by omega)
  rw [hk] at d2
  have k0 : (decE (wd (bits .xor .i64 (encW o a b c m) (2 ^ x.toNat))) == 0) = true := by rw [d0]; rfl
  have k1 : (gA (wd (bits .xor .i64 (encW o a b c m) (2 ^ x.toNat))) == bits .xor .i64 a (2 ^ (x - 20).toNat)) = true := by rw [d2]; simp
  have k2 : (gB (wd (bits .xor .i64 (encW o a b c m) (2 ^ x.toNat))) == b) = true := by rw [d3]; simp
  have k3 : (gM (wd (bits .xor .i64 (encW o a b c m) (2 ^ x.toNat))) == m) = true := by rw [d5]; simp
  have k4 : (gO (wd (bits .xor .i64 (encW o a b c m) (2 ^ x.toNat))) == o) = true := by rw [d1]; simp
  clear d0 d1 d2 d3 d5 hk
  clear h f
  go_enter Tryd.func7, Tryd.ntmps7
  go_wp2_with (first | (go_at_call 11; refine (alive_says _ (hT.later ((Below.refl _ _).alloc (Nat.le_refl _) _))).mono ?_; rintro e w1 ⟨rfl, hb1⟩; obtain ⟨hc1, hf1⟩ := bcell hb1; have hz1 : W.heap.size < w1.heap.size := (by have := hb1.size; simp at this; omega)) | (go_at_call 13; refine (rencode_says _ _ _ _ _ _).mono ?_; rintro e w2 ⟨rfl, hb2⟩; obtain ⟨hc2, hf2⟩ := bcell hb2; have hs2 : w1.heap.size ≤ w2.heap.size := hb2.size; have hz2 : W.heap.size < w2.heap.size := (by omega)) | (go_at_call 18; refine (form_says _ _).mono ?_; rintro e w' ⟨rfl, rfl⟩) | (go_at_call 14; refine (num_says _ _).mono ?_; rintro e w' ⟨rfl, rfl⟩) | (go_at_call 15; refine (decode_says _ _).mono ?_; rintro e w3 ⟨rfl, hb3⟩; obtain ⟨hc3, hf3⟩ := bcell hb3; have hs3 : w2.heap.size ≤ w3.heap.size := hb3.size; have hz3 : W.heap.size < w3.heap.size := (by omega)) | (go_at_call 16; refine (rdecode_says _ _).mono ?_; rintro e w4 ⟨rfl, hb4⟩; obtain ⟨hc4, hf4⟩ := bcell hb4; have hs4 : w3.heap.size < w4.heap.size := (by have := hb4.size; simp at this; omega); have hz4 : W.heap.size < w4.heap.size := (by omega)))
  go_ret
  exact ⟨ret_bool rfl, (((((((Below.refl _ _).alloc (Nat.le_refl _) _).trans (hb1.mono (by simp))).trans (hb2.mono (by omega))).trans (hb3.mono (by omega))).alloc (by omega) _).trans (hb4.mono (by simp; omega))).alloc (by omega) _⟩
set_option maxHeartbeats 8000000 in
theorem field_4_24 (o a b c m x : Int) (h : encE o a b c m = 0) (f : opF o = 4) (h0 : 24 ≤ x) (h1 : x ≤ 31) (W : World) (hT : Tab W) : Calls Tryd.prog 7 #[insV o a b c m, i64 x] W fun e W' => e = .returned (.bool true) ∧ Below W.heap.size W W' := by
  have e1 : (encE o a b c m != 0) = false := by simpa using h
  have hC : fC (opF o) = 72 := by rw [f]; rfl
  have hw := pow_in x.toNat (by omega)
  clear h f
  go_enter Tryd.func7, Tryd.ntmps7
  go_wp2_with (first | (go_at_call 11; refine (alive_says _ (hT.later ((Below.refl _ _).alloc (Nat.le_refl _) _))).mono ?_; rintro e w1 ⟨rfl, hb1⟩; obtain ⟨hc1, hf1⟩ := bcell hb1; have hz1 : W.heap.size < w1.heap.size := (by have := hb1.size; simp at this; omega)) | (go_at_call 13; refine (rencode_says _ _ _ _ _ _).mono ?_; rintro e w2 ⟨rfl, hb2⟩; obtain ⟨hc2, hf2⟩ := bcell hb2; have hs2 : w1.heap.size ≤ w2.heap.size := hb2.size; have hz2 : W.heap.size < w2.heap.size := (by omega)) | (go_at_call 18; refine (form_says _ _).mono ?_; rintro e w' ⟨rfl, rfl⟩) | (go_at_call 14; refine (num_says _ _).mono ?_; rintro e w' ⟨rfl, rfl⟩) | (go_at_call 15; refine (decode_says _ _).mono ?_; rintro e w3 ⟨rfl, hb3⟩; obtain ⟨hc3, hf3⟩ := bcell hb3; have hs3 : w2.heap.size ≤ w3.heap.size := hb3.size; have hz3 : W.heap.size < w3.heap.size := (by omega)) | (go_at_call 16; refine (rdecode_says _ _).mono ?_; rintro e w4 ⟨rfl, hb4⟩; obtain ⟨hc4, hf4⟩ := bcell hb4; have hs4 : w3.heap.size < w4.heap.size := (by have := hb4.size; simp at this; omega); have hz4 : W.heap.size < w4.heap.size := (by omega)))
  go_ret
  exact ⟨ret_bool rfl, (((((((Below.refl _ _).alloc (Nat.le_refl _) _).trans (hb1.mono (by simp))).trans (hb2.mono (by omega))).trans (hb3.mono (by omega))).alloc (by omega) _).trans (hb4.mono (by simp; omega))).alloc (by omega) _⟩
set_option maxHeartbeats 8000000 in
theorem field_5_0 (o a b c m x : Int) (h : encE o a b c m = 0) (f : opF o = 5) (h0 : 0 ≤ x) (h1 : x ≤ 15) (W : World) (hT : Tab W) : Calls Tryd.prog 7 #[insV o a b c m, i64 x] W fun e W' => e = .returned (.bool true) ∧ Below W.heap.size W W' := by
  have e1 : (encE o a b c m != 0) = false := by simpa using h
  have hC : fC (opF o) = 76 := by rw [f]; rfl
  have hw := pow_in x.toNat (by omega)
  clear h f
  go_enter Tryd.func7, Tryd.ntmps7
  go_wp2_with (first | (go_at_call 11; refine (alive_says _ (hT.later ((Below.refl _ _).alloc (Nat.le_refl _) _))).mono ?_; rintro e w1 ⟨rfl, hb1⟩; obtain ⟨hc1, hf1⟩ := bcell hb1; have hz1 : W.heap.size < w1.heap.size := (by have := hb1.size; simp at this; omega)) | (go_at_call 13; refine (rencode_says _ _ _ _ _ _).mono ?_; rintro e w2 ⟨rfl, hb2⟩; obtain ⟨hc2, hf2⟩ := bcell hb2; have hs2 : w1.heap.size ≤ w2.heap.size := hb2.size; have hz2 : W.heap.size < w2.heap.size := (by omega)) | (go_at_call 18; refine (form_says _ _).mono ?_; rintro e w' ⟨rfl, rfl⟩) | (go_at_call 14; refine (num_says _ _).mono ?_; rintro e w' ⟨rfl, rfl⟩) | (go_at_call 15; refine (decode_says _ _).mono ?_; rintro e w3 ⟨rfl, hb3⟩; obtain ⟨hc3, hf3⟩ := bcell hb3; have hs3 : w2.heap.size ≤ w3.heap.size := hb3.size; have hz3 : W.heap.size < w3.heap.size := (by omega)) | (go_at_call 16; refine (rdecode_says _ _).mono ?_; rintro e w4 ⟨rfl, hb4⟩; obtain ⟨hc4, hf4⟩ := bcell hb4; have hs4 : w3.heap.size < w4.heap.size := (by have := hb4.size; simp at this; omega); have hz4 : W.heap.size < w4.heap.size := (by omega)))
  go_ret
  exact ⟨ret_bool rfl, (((((((Below.refl _ _).alloc (Nat.le_refl _) _).trans (hb1.mono (by simp))).trans (hb2.mono (by omega))).trans (hb3.mono (by omega))).alloc (by omega) _).trans (hb4.mono (by simp; omega))).alloc (by omega) _⟩
set_option maxHeartbeats 8000000 in
theorem field_5_16 (o a b c m x : Int) (h : encE o a b c m = 0) (f : opF o = 5) (h0 : 16 ≤ x) (h1 : x ≤ 19) (W : World) (hT : Tab W) : Calls Tryd.prog 7 #[insV o a b c m, i64 x] W fun e W' => e = .returned (.bool true) ∧ Below W.heap.size W W' := by
  have e1 : (encE o a b c m != 0) = false := by simpa using h
  have hC : fC (opF o) = 76 := by rw [f]; rfl
  have hw := pow_in x.toNat (by omega)
  have e5 : (decE (wd (bits .xor .i64 (encW o a b c m) (2 ^ x.toNat))) == 5) = true := by rw [field_err o a b c m x.toNat (by omega) h (.inr (.inr ⟨.inl f, by omega, by omega⟩))]; rfl
  clear h f
  go_enter Tryd.func7, Tryd.ntmps7
  go_wp2_with (first | (go_at_call 11; refine (alive_says _ (hT.later ((Below.refl _ _).alloc (Nat.le_refl _) _))).mono ?_; rintro e w1 ⟨rfl, hb1⟩; obtain ⟨hc1, hf1⟩ := bcell hb1; have hz1 : W.heap.size < w1.heap.size := (by have := hb1.size; simp at this; omega)) | (go_at_call 13; refine (rencode_says _ _ _ _ _ _).mono ?_; rintro e w2 ⟨rfl, hb2⟩; obtain ⟨hc2, hf2⟩ := bcell hb2; have hs2 : w1.heap.size ≤ w2.heap.size := hb2.size; have hz2 : W.heap.size < w2.heap.size := (by omega)) | (go_at_call 18; refine (form_says _ _).mono ?_; rintro e w' ⟨rfl, rfl⟩) | (go_at_call 14; refine (num_says _ _).mono ?_; rintro e w' ⟨rfl, rfl⟩) | (go_at_call 15; refine (decode_says _ _).mono ?_; rintro e w3 ⟨rfl, hb3⟩; obtain ⟨hc3, hf3⟩ := bcell hb3; have hs3 : w2.heap.size ≤ w3.heap.size := hb3.size; have hz3 : W.heap.size < w3.heap.size := (by omega)) | (go_at_call 16; refine (rdecode_says _ _).mono ?_; rintro e w4 ⟨rfl, hb4⟩; obtain ⟨hc4, hf4⟩ := bcell hb4; have hs4 : w3.heap.size < w4.heap.size := (by have := hb4.size; simp at this; omega); have hz4 : W.heap.size < w4.heap.size := (by omega)))
  go_ret
  exact ⟨ret_bool rfl, (((((((Below.refl _ _).alloc (Nat.le_refl _) _).trans (hb1.mono (by simp))).trans (hb2.mono (by omega))).trans (hb3.mono (by omega))).alloc (by omega) _).trans (hb4.mono (by simp; omega))).alloc (by omega) _⟩
set_option maxHeartbeats 8000000 in
theorem field_5_20 (o a b c m x : Int) (h : encE o a b c m = 0) (f : opF o = 5) (h0 : 20 ≤ x) (h1 : x ≤ 23) (W : World) (hT : Tab W) : Calls Tryd.prog 7 #[insV o a b c m, i64 x] W fun e W' => e = .returned (.bool true) ∧ Below W.heap.size W W' := by
  have e1 : (encE o a b c m != 0) = false := by simpa using h
  have hC : fC (opF o) = 76 := by rw [f]; rfl
  have hw := pow_in x.toNat (by omega)
  have hw2 := pow_in (x - 20).toNat (by omega)
  have hk : x.toNat - 20 = (x - 20).toNat := by omega
  obtain ⟨d0, d1, d2, d3, d5⟩ := field_a o a b c m x.toNat (by omega) (by omega) h (by omega)
  rw [hk] at d2
  have k0 : (decE (wd (bits .xor .i64 (encW o a b c m) (2 ^ x.toNat))) == 0) = true := by rw [d0]; rfl
  have k1 : (gA (wd (bits .xor .i64 (encW o a b c m) (2 ^ x.toNat))) == bits .xor .i64 a (2 ^ (x - 20).toNat)) = true := by rw [d2]; simp
  have k2 : (gB (wd (bits .xor .i64 (encW o a b c m) (2 ^ x.toNat))) == b) = true := by rw [d3]; simp
  have k3 : (gM (wd (bits .xor .i64 (encW o a b c m) (2 ^ x.toNat))) == m) = true := by rw [d5]; simp
  have k4 : (gO (wd (bits .xor .i64 (encW o a b c m) (2 ^ x.toNat))) == o) = true := by rw [d1]; simp
  clear d0 d1 d2 d3 d5 hk
  clear h f
  go_enter Tryd.func7, Tryd.ntmps7
  go_wp2_with (first | (go_at_call 11; refine (alive_says _ (hT.later ((Below.refl _ _).alloc (Nat.le_refl _) _))).mono ?_; rintro e w1 ⟨rfl, hb1⟩; obtain ⟨hc1, hf1⟩ := bcell hb1; have hz1 : W.heap.size < w1.heap.size := (by have := hb1.size; simp at this; omega)) | (go_at_call 13; refine (rencode_says _ _ _ _ _ _).mono ?_; rintro e w2 ⟨rfl, hb2⟩; obtain ⟨hc2, hf2⟩ := bcell hb2; have hs2 : w1.heap.size ≤ w2.heap.size := hb2.size; have hz2 : W.heap.size < w2.heap.size := (by omega)) | (go_at_call 18; refine (form_says _ _).mono ?_; rintro e w' ⟨rfl, rfl⟩) | (go_at_call 14; refine (num_says _ _).mono ?_; rintro e w' ⟨rfl, rfl⟩) | (go_at_call 15; refine (decode_says _ _).mono ?_; rintro e w3 ⟨rfl, hb3⟩; obtain ⟨hc3, hf3⟩ := bcell hb3; have hs3 : w2.heap.size ≤ w3.heap.size := hb3.size; have hz3 : W.heap.size < w3.heap.size := (by omega)) | (go_at_call 16; refine (rdecode_says _ _).mono ?_; rintro e w4 ⟨rfl, hb4⟩; obtain ⟨hc4, hf4⟩ := bcell hb4; have hs4 : w3.heap.size < w4.heap.size := (by have := hb4.size; simp at this; omega); have hz4 : W.heap.size < w4.heap.size := (by omega)))
  go_ret
  exact ⟨ret_bool rfl, (((((((Below.refl _ _).alloc (Nat.le_refl _) _).trans (hb1.mono (by simp))).trans (hb2.mono (by omega))).trans (hb3.mono (by omega))).alloc (by omega) _).trans (hb4.mono (by simp; omega))).alloc (by omega) _⟩
set_option maxHeartbeats 8000000 in
theorem field_5_24 (o a b c m x : Int) (h : encE o a b c m = 0) (f : opF o = 5) (h0 : 24 ≤ x) (h1 : x ≤ 31) (W : World) (hT : Tab W) : Calls Tryd.prog 7 #[insV o a b c m, i64 x] W fun e W' => e = .returned (.bool true) ∧ Below W.heap.size W W' := by
  have e1 : (encE o a b c m != 0) = false := by simpa using h
  have hC : fC (opF o) = 76 := by rw [f]; rfl
  have hw := pow_in x.toNat (by omega)
  clear h f
  go_enter Tryd.func7, Tryd.ntmps7
  go_wp2_with (first | (go_at_call 11; refine (alive_says _ (hT.later ((Below.refl _ _).alloc (Nat.le_refl _) _))).mono ?_; rintro e w1 ⟨rfl, hb1⟩; obtain ⟨hc1, hf1⟩ := bcell hb1; have hz1 : W.heap.size < w1.heap.size := (by have := hb1.size; simp at this; omega)) | (go_at_call 13; refine (rencode_says _ _ _ _ _ _).mono ?_; rintro e w2 ⟨rfl, hb2⟩; obtain ⟨hc2, hf2⟩ := bcell hb2; have hs2 : w1.heap.size ≤ w2.heap.size := hb2.size; have hz2 : W.heap.size < w2.heap.size := (by omega)) | (go_at_call 18; refine (form_says _ _).mono ?_; rintro e w' ⟨rfl, rfl⟩) | (go_at_call 14; refine (num_says _ _).mono ?_; rintro e w' ⟨rfl, rfl⟩) | (go_at_call 15; refine (decode_says _ _).mono ?_; rintro e w3 ⟨rfl, hb3⟩; obtain ⟨hc3, hf3⟩ := bcell hb3; have hs3 : w2.heap.size ≤ w3.heap.size := hb3.size; have hz3 : W.heap.size < w3.heap.size := (by omega)) | (go_at_call 16; refine (rdecode_says _ _).mono ?_; rintro e w4 ⟨rfl, hb4⟩; obtain ⟨hc4, hf4⟩ := bcell hb4; have hs4 : w3.heap.size < w4.heap.size := (by have := hb4.size; simp at this; omega); have hz4 : W.heap.size < w4.heap.size := (by omega)))
  go_ret
  exact ⟨ret_bool rfl, (((((((Below.refl _ _).alloc (Nat.le_refl _) _).trans (hb1.mono (by simp))).trans (hb2.mono (by omega))).trans (hb3.mono (by omega))).alloc (by omega) _).trans (hb4.mono (by simp; omega))).alloc (by omega) _⟩
set_option maxHeartbeats 8000000 in
theorem field_6_0 (o a b c m x : Int) (h : encE o a b c m = 0) (f : opF o = 6) (h0 : 0 ≤ x) (h1 : x ≤ 19) (W : World) (hT : Tab W) : Calls Tryd.prog 7 #[insV o a b c m, i64 x] W fun e W' => e = .returned (.bool true) ∧ Below W.heap.size W W' := by
  have e1 : (encE o a b c m != 0) = false := by simpa using h
  have hC : fC (opF o) = 74 := by rw [f]; rfl
  have hw := pow_in x.toNat (by omega)
  clear h f
  go_enter Tryd.func7, Tryd.ntmps7
  go_wp2_with (first | (go_at_call 11; refine (alive_says _ (hT.later ((Below.refl _ _).alloc (Nat.le_refl _) _))).mono ?_; rintro e w1 ⟨rfl, hb1⟩; obtain ⟨hc1, hf1⟩ := bcell hb1; have hz1 : W.heap.size < w1.heap.size := (by have := hb1.size; simp at this; omega)) | (go_at_call 13; refine (rencode_says _ _ _ _ _ _).mono ?_; rintro e w2 ⟨rfl, hb2⟩; obtain ⟨hc2, hf2⟩ := bcell hb2; have hs2 : w1.heap.size ≤ w2.heap.size := hb2.size; have hz2 : W.heap.size < w2.heap.size := (by omega)) | (go_at_call 18; refine (form_says _ _).mono ?_; rintro e w' ⟨rfl, rfl⟩) | (go_at_call 14; refine (num_says _ _).mono ?_; rintro e w' ⟨rfl, rfl⟩) | (go_at_call 15; refine (decode_says _ _).mono ?_; rintro e w3 ⟨rfl, hb3⟩; obtain ⟨hc3, hf3⟩ := bcell hb3; have hs3 : w2.heap.size ≤ w3.heap.size := hb3.size; have hz3 : W.heap.size < w3.heap.size := (by omega)) | (go_at_call 16; refine (rdecode_says _ _).mono ?_; rintro e w4 ⟨rfl, hb4⟩; obtain ⟨hc4, hf4⟩ := bcell hb4; have hs4 : w3.heap.size < w4.heap.size := (by have := hb4.size; simp at this; omega); have hz4 : W.heap.size < w4.heap.size := (by omega)))
  go_ret
  exact ⟨ret_bool rfl, (((((((Below.refl _ _).alloc (Nat.le_refl _) _).trans (hb1.mono (by simp))).trans (hb2.mono (by omega))).trans (hb3.mono (by omega))).alloc (by omega) _).trans (hb4.mono (by simp; omega))).alloc (by omega) _⟩
set_option maxHeartbeats 8000000 in
theorem field_6_20 (o a b c m x : Int) (h : encE o a b c m = 0) (f : opF o = 6) (h0 : 20 ≤ x) (h1 : x ≤ 23) (W : World) (hT : Tab W) : Calls Tryd.prog 7 #[insV o a b c m, i64 x] W fun e W' => e = .returned (.bool true) ∧ Below W.heap.size W W' := by
  have e1 : (encE o a b c m != 0) = false := by simpa using h
  have hC : fC (opF o) = 74 := by rw [f]; rfl
  have hw := pow_in x.toNat (by omega)
  have hw2 := pow_in (x - 20).toNat (by omega)
  have hk : x.toNat - 20 = (x - 20).toNat := by omega
  obtain ⟨d0, d1, d2, d3, d5⟩ := field_a o a b c m x.toNat (by omega) (by omega) h (by omega)
  rw [hk] at d2
  have k0 : (decE (wd (bits .xor .i64 (encW o a b c m) (2 ^ x.toNat))) == 0) = true := by rw [d0]; rfl
  have k1 : (gA (wd (bits .xor .i64 (encW o a b c m) (2 ^ x.toNat))) == bits .xor .i64 a (2 ^ (x - 20).toNat)) = true := by rw [d2]; simp
  have k2 : (gB (wd (bits .xor .i64 (encW o a b c m) (2 ^ x.toNat))) == b) = true := by rw [d3]; simp
  have k3 : (gM (wd (bits .xor .i64 (encW o a b c m) (2 ^ x.toNat))) == m) = true := by rw [d5]; simp
  have k4 : (gO (wd (bits .xor .i64 (encW o a b c m) (2 ^ x.toNat))) == o) = true := by rw [d1]; simp
  clear d0 d1 d2 d3 d5 hk
  clear h f
  go_enter Tryd.func7, Tryd.ntmps7
  go_wp2_with (first | (go_at_call 11; refine (alive_says _ (hT.later ((Below.refl _ _).alloc (Nat.le_refl _) _))).mono ?_; rintro e w1 ⟨rfl, hb1⟩; obtain ⟨hc1, hf1⟩ := bcell hb1; have hz1 : W.heap.size < w1.heap.size := (by have := hb1.size; simp at this; omega)) | (go_at_call 13; refine (rencode_says _ _ _ _ _ _).mono ?_; rintro e w2 ⟨rfl, hb2⟩; obtain ⟨hc2, hf2⟩ := bcell hb2; have hs2 : w1.heap.size ≤ w2.heap.size := hb2.size; have hz2 : W.heap.size < w2.heap.size := (by omega)) | (go_at_call 18; refine (form_says _ _).mono ?_; rintro e w' ⟨rfl, rfl⟩) | (go_at_call 14; refine (num_says _ _).mono ?_; rintro e w' ⟨rfl, rfl⟩) | (go_at_call 15; refine (decode_says _ _).mono ?_; rintro e w3 ⟨rfl, hb3⟩; obtain ⟨hc3, hf3⟩ := bcell hb3; have hs3 : w2.heap.size ≤ w3.heap.size := hb3.size; have hz3 : W.heap.size < w3.heap.size := (by omega)) | (go_at_call 16; refine (rdecode_says _ _).mono ?_; rintro e w4 ⟨rfl, hb4⟩; obtain ⟨hc4, hf4⟩ := bcell hb4; have hs4 : w3.heap.size < w4.heap.size := (by have := hb4.size; simp at this; omega); have hz4 : W.heap.size < w4.heap.size := (by omega)))
  go_ret
  exact ⟨ret_bool rfl, (((((((Below.refl _ _).alloc (Nat.le_refl _) _).trans (hb1.mono (by simp))).trans (hb2.mono (by omega))).trans (hb3.mono (by omega))).alloc (by omega) _).trans (hb4.mono (by simp; omega))).alloc (by omega) _⟩
set_option maxHeartbeats 8000000 in
theorem field_6_24 (o a b c m x : Int) (h : encE o a b c m = 0) (f : opF o = 6) (h0 : 24 ≤ x) (h1 : x ≤ 31) (W : World) (hT : Tab W) : Calls Tryd.prog 7 #[insV o a b c m, i64 x] W fun e W' => e = .returned (.bool true) ∧ Below W.heap.size W W' := by
  have e1 : (encE o a b c m != 0) = false := by simpa using h
  have hC : fC (opF o) = 74 := by rw [f]; rfl
  have hw := pow_in x.toNat (by omega)
  clear h f
  go_enter Tryd.func7, Tryd.ntmps7
  go_wp2_with (first | (go_at_call 11; refine (alive_says _ (hT.later ((Below.refl _ _).alloc (Nat.le_refl _) _))).mono ?_; rintro e w1 ⟨rfl, hb1⟩; obtain ⟨hc1, hf1⟩ := bcell hb1; have hz1 : W.heap.size < w1.heap.size := (by have := hb1.size; simp at this; omega)) | (go_at_call 13; refine (rencode_says _ _ _ _ _ _).mono ?_; rintro e w2 ⟨rfl, hb2⟩; obtain ⟨hc2, hf2⟩ := bcell hb2; have hs2 : w1.heap.size ≤ w2.heap.size := hb2.size; have hz2 : W.heap.size < w2.heap.size := (by omega)) | (go_at_call 18; refine (form_says _ _).mono ?_; rintro e w' ⟨rfl, rfl⟩) | (go_at_call 14; refine (num_says _ _).mono ?_; rintro e w' ⟨rfl, rfl⟩) | (go_at_call 15; refine (decode_says _ _).mono ?_; rintro e w3 ⟨rfl, hb3⟩; obtain ⟨hc3, hf3⟩ := bcell hb3; have hs3 : w2.heap.size ≤ w3.heap.size := hb3.size; have hz3 : W.heap.size < w3.heap.size := (by omega)) | (go_at_call 16; refine (rdecode_says _ _).mono ?_; rintro e w4 ⟨rfl, hb4⟩; obtain ⟨hc4, hf4⟩ := bcell hb4; have hs4 : w3.heap.size < w4.heap.size := (by have := hb4.size; simp at this; omega); have hz4 : W.heap.size < w4.heap.size := (by omega)))
  go_ret
  exact ⟨ret_bool rfl, (((((((Below.refl _ _).alloc (Nat.le_refl _) _).trans (hb1.mono (by simp))).trans (hb2.mono (by omega))).trans (hb3.mono (by omega))).alloc (by omega) _).trans (hb4.mono (by simp; omega))).alloc (by omega) _⟩
set_option maxHeartbeats 8000000 in
theorem field_7_0 (o a b c m x : Int) (h : encE o a b c m = 0) (f : opF o = 7) (h0 : 0 ≤ x) (h1 : x ≤ 15) (W : World) (hT : Tab W) : Calls Tryd.prog 7 #[insV o a b c m, i64 x] W fun e W' => e = .returned (.bool true) ∧ Below W.heap.size W W' := by
  have e1 : (encE o a b c m != 0) = false := by simpa using h
  have hC : fC (opF o) = 67 := by rw [f]; rfl
  have hw := pow_in x.toNat (by omega)
  clear h f
  go_enter Tryd.func7, Tryd.ntmps7
  go_wp2_with (first | (go_at_call 11; refine (alive_says _ (hT.later ((Below.refl _ _).alloc (Nat.le_refl _) _))).mono ?_; rintro e w1 ⟨rfl, hb1⟩; obtain ⟨hc1, hf1⟩ := bcell hb1; have hz1 : W.heap.size < w1.heap.size := (by have := hb1.size; simp at this; omega)) | (go_at_call 13; refine (rencode_says _ _ _ _ _ _).mono ?_; rintro e w2 ⟨rfl, hb2⟩; obtain ⟨hc2, hf2⟩ := bcell hb2; have hs2 : w1.heap.size ≤ w2.heap.size := hb2.size; have hz2 : W.heap.size < w2.heap.size := (by omega)) | (go_at_call 18; refine (form_says _ _).mono ?_; rintro e w' ⟨rfl, rfl⟩) | (go_at_call 14; refine (num_says _ _).mono ?_; rintro e w' ⟨rfl, rfl⟩) | (go_at_call 15; refine (decode_says _ _).mono ?_; rintro e w3 ⟨rfl, hb3⟩; obtain ⟨hc3, hf3⟩ := bcell hb3; have hs3 : w2.heap.size ≤ w3.heap.size := hb3.size; have hz3 : W.heap.size < w3.heap.size := (by omega)) | (go_at_call 16; refine (rdecode_says _ _).mono ?_; rintro e w4 ⟨rfl, hb4⟩; obtain ⟨hc4, hf4⟩ := bcell hb4; have hs4 : w3.heap.size < w4.heap.size := (by have := hb4.size; simp at this; omega); have hz4 : W.heap.size < w4.heap.size := (by omega)))
  go_ret
  exact ⟨ret_bool rfl, (((((((Below.refl _ _).alloc (Nat.le_refl _) _).trans (hb1.mono (by simp))).trans (hb2.mono (by omega))).trans (hb3.mono (by omega))).alloc (by omega) _).trans (hb4.mono (by simp; omega))).alloc (by omega) _⟩
set_option maxHeartbeats 8000000 in
theorem field_7_16 (o a b c m x : Int) (h : encE o a b c m = 0) (f : opF o = 7) (h0 : 16 ≤ x) (h1 : x ≤ 19) (W : World) (hT : Tab W) : Calls Tryd.prog 7 #[insV o a b c m, i64 x] W fun e W' => e = .returned (.bool true) ∧ Below W.heap.size W W' := by
  have e1 : (encE o a b c m != 0) = false := by simpa using h
  have hC : fC (opF o) = 67 := by rw [f]; rfl
  have hw := pow_in x.toNat (by omega)
  have e5 : (decE (wd (bits .xor .i64 (encW o a b c m) (2 ^ x.toNat))) == 5) = true := by rw [field_err o a b c m x.toNat (by omega) h (.inr (.inr ⟨.inr f, by omega, by omega⟩))]; rfl
  clear h f
  go_enter Tryd.func7, Tryd.ntmps7
  go_wp2_with (first | (go_at_call 11; refine (alive_says _ (hT.later ((Below.refl _ _).alloc (Nat.le_refl _) _))).mono ?_; rintro e w1 ⟨rfl, hb1⟩; obtain ⟨hc1, hf1⟩ := bcell hb1; have hz1 : W.heap.size < w1.heap.size := (by have := hb1.size; simp at this; omega)) | (go_at_call 13; refine (rencode_says _ _ _ _ _ _).mono ?_; rintro e w2 ⟨rfl, hb2⟩; obtain ⟨hc2, hf2⟩ := bcell hb2; have hs2 : w1.heap.size ≤ w2.heap.size := hb2.size; have hz2 : W.heap.size < w2.heap.size := (by omega)) | (go_at_call 18; refine (form_says _ _).mono ?_; rintro e w' ⟨rfl, rfl⟩) | (go_at_call 14; refine (num_says _ _).mono ?_; rintro e w' ⟨rfl, rfl⟩) | (go_at_call 15; refine (decode_says _ _).mono ?_; rintro e w3 ⟨rfl, hb3⟩; obtain ⟨hc3, hf3⟩ := bcell hb3; have hs3 : w2.heap.size ≤ w3.heap.size := hb3.size; have hz3 : W.heap.size < w3.heap.size := (by omega)) | (go_at_call 16; refine (rdecode_says _ _).mono ?_; rintro e w4 ⟨rfl, hb4⟩; obtain ⟨hc4, hf4⟩ := bcell hb4; have hs4 : w3.heap.size < w4.heap.size := (by have := hb4.size; simp at this; omega); have hz4 : W.heap.size < w4.heap.size := (by omega)))
  go_ret
  exact ⟨ret_bool rfl, (((((((Below.refl _ _).alloc (Nat.le_refl _) _).trans (hb1.mono (by simp))).trans (hb2.mono (by omega))).trans (hb3.mono (by omega))).alloc (by omega) _).trans (hb4.mono (by simp; omega))).alloc (by omega) _⟩
set_option maxHeartbeats 8000000 in
theorem field_7_20 (o a b c m x : Int) (h : encE o a b c m = 0) (f : opF o = 7) (h0 : 20 ≤ x) (h1 : x ≤ 23) (W : World) (hT : Tab W) : Calls Tryd.prog 7 #[insV o a b c m, i64 x] W fun e W' => e = .returned (.bool true) ∧ Below W.heap.size W W' := by
  have e1 : (encE o a b c m != 0) = false := by simpa using h
  have hC : fC (opF o) = 67 := by rw [f]; rfl
  have hw := pow_in x.toNat (by omega)
  have hw2 := pow_in (x - 20).toNat (by omega)
  have hk : x.toNat - 20 = (x - 20).toNat := by omega
  obtain ⟨d0, d1, d2, d3, d5⟩ := field_a o a b c m x.toNat (by omega) (by omega) h (by omega)
  rw [hk] at d2
  have k0 : (decE (wd (bits .xor .i64 (encW o a b c m) (2 ^ x.toNat))) == 0) = true := by rw [d0]; rfl
  have k1 : (gA (wd (bits .xor .i64 (encW o a b c m) (2 ^ x.toNat))) == bits .xor .i64 a (2 ^ (x - 20).toNat)) = true := by rw [d2]; simp
  have k2 : (gB (wd (bits .xor .i64 (encW o a b c m) (2 ^ x.toNat))) == b) = true := by rw [d3]; simp
  have k3 : (gM (wd (bits .xor .i64 (encW o a b c m) (2 ^ x.toNat))) == m) = true := by rw [d5]; simp
  have k4 : (gO (wd (bits .xor .i64 (encW o a b c m) (2 ^ x.toNat))) == o) = true := by rw [d1]; simp
  clear d0 d1 d2 d3 d5 hk
  clear h f
  go_enter Tryd.func7, Tryd.ntmps7
  go_wp2_with (first | (go_at_call 11; refine (alive_says _ (hT.later ((Below.refl _ _).alloc (Nat.le_refl _) _))).mono ?_; rintro e w1 ⟨rfl, hb1⟩; obtain ⟨hc1, hf1⟩ := bcell hb1; have hz1 : W.heap.size < w1.heap.size := (by have := hb1.size; simp at this; omega)) | (go_at_call 13; refine (rencode_says _ _ _ _ _ _).mono ?_; rintro e w2 ⟨rfl, hb2⟩; obtain ⟨hc2, hf2⟩ := bcell hb2; have hs2 : w1.heap.size ≤ w2.heap.size := hb2.size; have hz2 : W.heap.size < w2.heap.size := (by omega)) | (go_at_call 18; refine (form_says _ _).mono ?_; rintro e w' ⟨rfl, rfl⟩) | (go_at_call 14; refine (num_says _ _).mono ?_; rintro e w' ⟨rfl, rfl⟩) | (go_at_call 15; refine (decode_says _ _).mono ?_; rintro e w3 ⟨rfl, hb3⟩; obtain ⟨hc3, hf3⟩ := bcell hb3; have hs3 : w2.heap.size ≤ w3.heap.size := hb3.size; have hz3 : W.heap.size < w3.heap.size := (by omega)) | (go_at_call 16; refine (rdecode_says _ _).mono ?_; rintro e w4 ⟨rfl, hb4⟩; obtain ⟨hc4, hf4⟩ := bcell hb4; have hs4 : w3.heap.size < w4.heap.size := (by have := hb4.size; simp at this; omega); have hz4 : W.heap.size < w4.heap.size := (by omega)))
  go_ret
  exact ⟨ret_bool rfl, (((((((Below.refl _ _).alloc (Nat.le_refl _) _).trans (hb1.mono (by simp))).trans (hb2.mono (by omega))).trans (hb3.mono (by omega))).alloc (by omega) _).trans (hb4.mono (by simp; omega))).alloc (by omega) _⟩
set_option maxHeartbeats 8000000 in
theorem field_7_24 (o a b c m x : Int) (h : encE o a b c m = 0) (f : opF o = 7) (h0 : 24 ≤ x) (h1 : x ≤ 31) (W : World) (hT : Tab W) : Calls Tryd.prog 7 #[insV o a b c m, i64 x] W fun e W' => e = .returned (.bool true) ∧ Below W.heap.size W W' := by
  have e1 : (encE o a b c m != 0) = false := by simpa using h
  have hC : fC (opF o) = 67 := by rw [f]; rfl
  have hw := pow_in x.toNat (by omega)
  clear h f
  go_enter Tryd.func7, Tryd.ntmps7
  go_wp2_with (first | (go_at_call 11; refine (alive_says _ (hT.later ((Below.refl _ _).alloc (Nat.le_refl _) _))).mono ?_; rintro e w1 ⟨rfl, hb1⟩; obtain ⟨hc1, hf1⟩ := bcell hb1; have hz1 : W.heap.size < w1.heap.size := (by have := hb1.size; simp at this; omega)) | (go_at_call 13; refine (rencode_says _ _ _ _ _ _).mono ?_; rintro e w2 ⟨rfl, hb2⟩; obtain ⟨hc2, hf2⟩ := bcell hb2; have hs2 : w1.heap.size ≤ w2.heap.size := hb2.size; have hz2 : W.heap.size < w2.heap.size := (by omega)) | (go_at_call 18; refine (form_says _ _).mono ?_; rintro e w' ⟨rfl, rfl⟩) | (go_at_call 14; refine (num_says _ _).mono ?_; rintro e w' ⟨rfl, rfl⟩) | (go_at_call 15; refine (decode_says _ _).mono ?_; rintro e w3 ⟨rfl, hb3⟩; obtain ⟨hc3, hf3⟩ := bcell hb3; have hs3 : w2.heap.size ≤ w3.heap.size := hb3.size; have hz3 : W.heap.size < w3.heap.size := (by omega)) | (go_at_call 16; refine (rdecode_says _ _).mono ?_; rintro e w4 ⟨rfl, hb4⟩; obtain ⟨hc4, hf4⟩ := bcell hb4; have hs4 : w3.heap.size < w4.heap.size := (by have := hb4.size; simp at this; omega); have hz4 : W.heap.size < w4.heap.size := (by omega)))
  go_ret
  exact ⟨ret_bool rfl, (((((((Below.refl _ _).alloc (Nat.le_refl _) _).trans (hb1.mono (by simp))).trans (hb2.mono (by omega))).trans (hb3.mono (by omega))).alloc (by omega) _).trans (hb4.mono (by simp; omega))).alloc (by omega) _⟩
set_option maxHeartbeats 8000000 in
theorem field_8_0 (o a b c m x : Int) (h : encE o a b c m = 0) (f : opF o = 8) (h0 : 0 ≤ x) (h1 : x ≤ 23) (W : World) (hT : Tab W) : Calls Tryd.prog 7 #[insV o a b c m, i64 x] W fun e W' => e = .returned (.bool true) ∧ Below W.heap.size W W' := by
  have e1 : (encE o a b c m != 0) = false := by simpa using h
  have hC : fC (opF o) = 78 := by rw [f]; rfl
  have hw := pow_in x.toNat (by omega)
  have e5 : (decE (wd (bits .xor .i64 (encW o a b c m) (2 ^ x.toNat))) == 5) = true := by rw [field_err o a b c m x.toNat (by omega) h (.inr (.inl ⟨f, by omega⟩))]; rfl
  clear h f
  go_enter Tryd.func7, Tryd.ntmps7
  go_wp2_with (first | (go_at_call 11; refine (alive_says _ (hT.later ((Below.refl _ _).alloc (Nat.le_refl _) _))).mono ?_; rintro e w1 ⟨rfl, hb1⟩; obtain ⟨hc1, hf1⟩ := bcell hb1; have hz1 : W.heap.size < w1.heap.size := (by have := hb1.size; simp at this; omega)) | (go_at_call 13; refine (rencode_says _ _ _ _ _ _).mono ?_; rintro e w2 ⟨rfl, hb2⟩; obtain ⟨hc2, hf2⟩ := bcell hb2; have hs2 : w1.heap.size ≤ w2.heap.size := hb2.size; have hz2 : W.heap.size < w2.heap.size := (by omega)) | (go_at_call 18; refine (form_says _ _).mono ?_; rintro e w' ⟨rfl, rfl⟩) | (go_at_call 14; refine (num_says _ _).mono ?_; rintro e w' ⟨rfl, rfl⟩) | (go_at_call 15; refine (decode_says _ _).mono ?_; rintro e w3 ⟨rfl, hb3⟩; obtain ⟨hc3, hf3⟩ := bcell hb3; have hs3 : w2.heap.size ≤ w3.heap.size := hb3.size; have hz3 : W.heap.size < w3.heap.size := (by omega)) | (go_at_call 16; refine (rdecode_says _ _).mono ?_; rintro e w4 ⟨rfl, hb4⟩; obtain ⟨hc4, hf4⟩ := bcell hb4; have hs4 : w3.heap.size < w4.heap.size := (by have := hb4.size; simp at this; omega); have hz4 : W.heap.size < w4.heap.size := (by omega)))
  go_ret
  exact ⟨ret_bool rfl, (((((((Below.refl _ _).alloc (Nat.le_refl _) _).trans (hb1.mono (by simp))).trans (hb2.mono (by omega))).trans (hb3.mono (by omega))).alloc (by omega) _).trans (hb4.mono (by simp; omega))).alloc (by omega) _⟩
set_option maxHeartbeats 8000000 in
theorem field_8_24 (o a b c m x : Int) (h : encE o a b c m = 0) (f : opF o = 8) (h0 : 24 ≤ x) (h1 : x ≤ 31) (W : World) (hT : Tab W) : Calls Tryd.prog 7 #[insV o a b c m, i64 x] W fun e W' => e = .returned (.bool true) ∧ Below W.heap.size W W' := by
  have e1 : (encE o a b c m != 0) = false := by simpa using h
  have hC : fC (opF o) = 78 := by rw [f]; rfl
  have hw := pow_in x.toNat (by omega)
  clear h f
  go_enter Tryd.func7, Tryd.ntmps7
  go_wp2_with (first | (go_at_call 11; refine (alive_says _ (hT.later ((Below.refl _ _).alloc (Nat.le_refl _) _))).mono ?_; rintro e w1 ⟨rfl, hb1⟩; obtain ⟨hc1, hf1⟩ := bcell hb1; have hz1 : W.heap.size < w1.heap.size := (by have := hb1.size; simp at this; omega)) | (go_at_call 13; refine (rencode_says _ _ _ _ _ _).mono ?_; rintro e w2 ⟨rfl, hb2⟩; obtain ⟨hc2, hf2⟩ := bcell hb2; have hs2 : w1.heap.size ≤ w2.heap.size := hb2.size; have hz2 : W.heap.size < w2.heap.size := (by omega)) | (go_at_call 18; refine (form_says _ _).mono ?_; rintro e w' ⟨rfl, rfl⟩) | (go_at_call 14; refine (num_says _ _).mono ?_; rintro e w' ⟨rfl, rfl⟩) | (go_at_call 15; refine (decode_says _ _).mono ?_; rintro e w3 ⟨rfl, hb3⟩; obtain ⟨hc3, hf3⟩ := bcell hb3; have hs3 : w2.heap.size ≤ w3.heap.size := hb3.size; have hz3 : W.heap.size < w3.heap.size := (by omega)) | (go_at_call 16; refine (rdecode_says _ _).mono ?_; rintro e w4 ⟨rfl, hb4⟩; obtain ⟨hc4, hf4⟩ := bcell hb4; have hs4 : w3.heap.size < w4.heap.size := (by have := hb4.size; simp at this; omega); have hz4 : W.heap.size < w4.heap.size := (by omega)))
  go_ret
  exact ⟨ret_bool rfl, (((((((Below.refl _ _).alloc (Nat.le_refl _) _).trans (hb1.mono (by simp))).trans (hb2.mono (by omega))).trans (hb3.mono (by omega))).alloc (by omega) _).trans (hb4.mono (by simp; omega))).alloc (by omega) _⟩
/-- What the call does. -/
def Fine (W : World) (e : Ending) (W' : World) : Prop := e = .returned (.bool true) ∧ Below W.heap.size W W'
set_option maxHeartbeats 8000000 in
theorem walk (o0 a0 b0 c0 m0 : Int) (wo0 : (Lit.int .i64 o0).wf = true) (wa0 : (Lit.int .i64 a0).wf = true) (wb0 : (Lit.int .i64 b0).wf = true) (wc0 : (Lit.int .i64 c0).wf = true) (wm0 : (Lit.int .i64 m0).wf = true) (x1 : Int) (w1 : (Lit.int .i64 x1).wf = true) (W : World) (hT : Tab W) :
    Calls Tryd.prog 7 #[insV o0 a0 b0 c0 m0, .int .i64 x1] W (Fine W) := by
  by_cases h : encE o0 a0 b0 c0 m0 = 0
  · by_cases hr : x1 < 0 ∨ 31 < x1
    · have e1 : (encE o0 a0 b0 c0 m0 != 0) = false := by simpa using h
      by_cases h1 : x1 < 0
      all_goals
        first | (have h2 : 31 < x1 := by omega) | skip
        clear hr h
        go_enter Tryd.func7, Tryd.ntmps7
        go_wp2_with (first | (go_at_call 11; refine (alive_says _ (hT.later ((Below.refl _ _).alloc (Nat.le_refl _) _))).mono ?_; rintro e w1 ⟨rfl, hb1⟩; obtain ⟨hc1, hf1⟩ := bcell hb1; have hz1 : W.heap.size < w1.heap.size := (by have := hb1.size; simp at this; omega)) | (go_at_call 13; refine (rencode_says _ _ _ _ _ _).mono ?_; rintro e w2 ⟨rfl, hb2⟩; obtain ⟨hc2, hf2⟩ := bcell hb2; have hs2 : w1.heap.size ≤ w2.heap.size := hb2.size; have hz2 : W.heap.size < w2.heap.size := (by omega)) | (go_at_call 18; refine (form_says _ _).mono ?_; rintro e w' ⟨rfl, rfl⟩) | (go_at_call 14; refine (num_says _ _).mono ?_; rintro e w' ⟨rfl, rfl⟩) | (go_at_call 15; refine (decode_says _ _).mono ?_; rintro e w3 ⟨rfl, hb3⟩; obtain ⟨hc3, hf3⟩ := bcell hb3; have hs3 : w2.heap.size ≤ w3.heap.size := hb3.size; have hz3 : W.heap.size < w3.heap.size := (by omega)) | (go_at_call 16; refine (rdecode_says _ _).mono ?_; rintro e w4 ⟨rfl, hb4⟩; obtain ⟨hc4, hf4⟩ := bcell hb4; have hs4 : w3.heap.size < w4.heap.size := (by have := hb4.size; simp at this; omega); have hz4 : W.heap.size < w4.heap.size := (by omega)))
        go_ret
        exact ⟨ret_bool rfl, (((Below.refl _ _).alloc (Nat.le_refl _) _).trans (hb1.mono (by simp))).trans (hb2.mono (by omega))⟩
    · have hb := opF_bd o0
      rcases f_cases (opF o0) hb.1 hb.2 with f | f | f | f | f | f | f | f | f
      · exact absurd (enc_none o0 a0 b0 c0 m0 f).1 (by omega)
      · by_cases q0 : x1 ≤ 11
        · exact field_1_0 o0 a0 b0 c0 m0 x1 h f (by omega) (by omega) W hT
        by_cases q12 : x1 ≤ 19
        · exact field_1_12 o0 a0 b0 c0 m0 x1 h f (by omega) (by omega) W hT
        by_cases q20 : x1 ≤ 23
        · exact field_1_20 o0 a0 b0 c0 m0 x1 h f (by omega) (by omega) W hT
        exact field_1_24 o0 a0 b0 c0 m0 x1 h f (by omega) (by omega) W hT
      · by_cases q0 : x1 ≤ 19
        · exact field_2_0 o0 a0 b0 c0 m0 x1 h f (by omega) (by omega) W hT
        by_cases q20 : x1 ≤ 23
        · exact field_2_20 o0 a0 b0 c0 m0 x1 h f (by omega) (by omega) W hT
        exact field_2_24 o0 a0 b0 c0 m0 x1 h f (by omega) (by omega) W hT
      · by_cases q0 : x1 ≤ 19
        · exact field_3_0 o0 a0 b0 c0 m0 x1 h f (by omega) (by omega) W hT
        by_cases q20 : x1 ≤ 23
        · exact field_3_20 o0 a0 b0 c0 m0 x1 h f (by omega) (by omega) W hT
        exact field_3_24 o0 a0 b0 c0 m0 x1 h f (by omega) (by omega) W hT
      · by_cases q0 : x1 ≤ 19
        · exact field_4_0 o0 a0 b0 c0 m0 x1 h f (by omega) (by omega) W hT
        by_cases q20 : x1 ≤ 23
        · exact field_4_20 o0 a0 b0 c0 m0 x1 h f (by omega) (by omega) W hT
        exact field_4_24 o0 a0 b0 c0 m0 x1 h f (by omega) (by omega) W hT
      · by_cases q0 : x1 ≤ 15
        · exact field_5_0 o0 a0 b0 c0 m0 x1 h f (by omega) (by omega) W hT
        by_cases q16 : x1 ≤ 19
        · exact field_5_16 o0 a0 b0 c0 m0 x1 h f (by omega) (by omega) W hT
        by_cases q20 : x1 ≤ 23
        · exact field_5_20 o0 a0 b0 c0 m0 x1 h f (by omega) (by omega) W hT
        exact field_5_24 o0 a0 b0 c0 m0 x1 h f (by omega) (by omega) W hT
      · by_cases q0 : x1 ≤ 19
        · exact field_6_0 o0 a0 b0 c0 m0 x1 h f (by omega) (by omega) W hT
        by_cases q20 : x1 ≤ 23
        · exact field_6_20 o0 a0 b0 c0 m0 x1 h f (by omega) (by omega) W hT
        exact field_6_24 o0 a0 b0 c0 m0 x1 h f (by omega) (by omega) W hT
      · by_cases q0 : x1 ≤ 15
        · exact field_7_0 o0 a0 b0 c0 m0 x1 h f (by omega) (by omega) W hT
        by_cases q16 : x1 ≤ 19
        · exact field_7_16 o0 a0 b0 c0 m0 x1 h f (by omega) (by omega) W hT
        by_cases q20 : x1 ≤ 23
        · exact field_7_20 o0 a0 b0 c0 m0 x1 h f (by omega) (by omega) W hT
        exact field_7_24 o0 a0 b0 c0 m0 x1 h f (by omega) (by omega) W hT
      · by_cases q0 : x1 ≤ 23
        · exact field_8_0 o0 a0 b0 c0 m0 x1 h f (by omega) (by omega) W hT
        exact field_8_24 o0 a0 b0 c0 m0 x1 h f (by omega) (by omega) W hT
  · have e1 : (encE o0 a0 b0 c0 m0 != 0) = true := by simpa using h
    clear h
    go_enter Tryd.func7, Tryd.ntmps7
    go_wp2_with (first | (go_at_call 11; refine (alive_says _ (hT.later ((Below.refl _ _).alloc (Nat.le_refl _) _))).mono ?_; rintro e w1 ⟨rfl, hb1⟩; obtain ⟨hc1, hf1⟩ := bcell hb1; have hz1 : W.heap.size < w1.heap.size := (by have := hb1.size; simp at this; omega)) | (go_at_call 13; refine (rencode_says _ _ _ _ _ _).mono ?_; rintro e w2 ⟨rfl, hb2⟩; obtain ⟨hc2, hf2⟩ := bcell hb2; have hs2 : w1.heap.size ≤ w2.heap.size := hb2.size; have hz2 : W.heap.size < w2.heap.size := (by omega)) | (go_at_call 18; refine (form_says _ _).mono ?_; rintro e w' ⟨rfl, rfl⟩) | (go_at_call 14; refine (num_says _ _).mono ?_; rintro e w' ⟨rfl, rfl⟩) | (go_at_call 15; refine (decode_says _ _).mono ?_; rintro e w3 ⟨rfl, hb3⟩; obtain ⟨hc3, hf3⟩ := bcell hb3; have hs3 : w2.heap.size ≤ w3.heap.size := hb3.size; have hz3 : W.heap.size < w3.heap.size := (by omega)) | (go_at_call 16; refine (rdecode_says _ _).mono ?_; rintro e w4 ⟨rfl, hb4⟩; obtain ⟨hc4, hf4⟩ := bcell hb4; have hs4 : w3.heap.size < w4.heap.size := (by have := hb4.size; simp at this; omega); have hz4 : W.heap.size < w4.heap.size := (by omega)))
    go_ret
    exact ⟨ret_bool rfl, (((Below.refl _ _).alloc (Nat.le_refl _) _).trans (hb1.mono (by simp))).trans (hb2.mono (by omega))⟩
set_option maxRecDepth 100000 in
theorem door_met (os : Os) (args : Array Value) : laidMetH Tryd.prog laid3 ((World.doorLaid Tryd.prog 4000 os).forCall (fun _ _ => 0) ⟨#[], args, []⟩).memory := by
  rw [MakeChecks.laidMetH_plain _ _ _ (by kernel_rfl)]
  exact laidMet_of_run' 8 (by kernel_rfl) (by kernel_rfl)
set_option maxRecDepth 100000 in
theorem lifted (os : Os) (started : os.Started) (H : Type) (enc : TypeId × Value → H) :
    ReturnsInHanded {} Tryd.checked os 7 .any (fun w args => (Rows.isaFieldsSpec.pre enc Tryd.prog Tryd.f7 [] false w args ∧ laidMetH Tryd.prog laid3 w) ∧ sizedMet enc Tryd.prog Tryd.f7 (OpenSpec.ofChange Rows.isaFieldsSpec) false w args)
      (Rows.isaFieldsSpec.post enc Tryd.prog Tryd.f7 false true false false) := by
  refine returnsInHanded_of_change_and (C := Tryd.checked) (X := fun w _ => laidMetH Tryd.prog laid3 w) (fun _ _ _ hh h => h.of_heap hh) own started (by kernel_rfl) Tryd.func7
    (ChangeSpec.witness_shaped (enc := enc) (C := Tryd.checked) (os := os) (X := fun w _ => laidMetH Tryd.prog laid3 w) false (World.doorLaid Tryd.prog 4000 os) #[insV 0 0 0 0 0, .int .i64 0] 8 rfl (World.shaped_of_RefB (by kernel_rfl) (by kernel_rfl)) (by kernel_rfl) (by kernel_rfl) (by kernel_rfl) (door_met os _)) ?_
  intro W base args ds gs before hval0 hW _ _ hL _
  have hval : ∀ (j : Nat) t v, Tryd.f7.params[j]? = some t → args[j]? = some v → Value.okWide Tryd.prog W .any base t v := hval0
  have hW' := hW
  obtain ⟨p, q, hA0, hV, rfl, hfz, hnd⟩ := hW
  have hA : DataW.TrodAll enc Tryd.prog W 0 (fun _ => true) true Tryd.f7.params.toList args.toList ds p := hA0
  rw [Tryd.params7] at hA hval
  obtain ⟨v0, vs0, d0, ds0, p0, q0, hargs, rfl, rfl, h0, r0⟩ := trodAll_cons hA
  obtain ⟨v1, vs1, d1, ds1, p1, q1, rfl, rfl, rfl, h1, r1⟩ := trodAll_cons r0
  obtain ⟨rfl, rfl, rfl⟩ := trodAll_nil r1
  obtain rfl : args = #[v0, v1] := by cases args; simp_all
  obtain ⟨rfl, rfl⟩ := trodVars_none hV
  obtain ⟨o0, a0, b0, c0, m0, rfl, rfl, rfl, wo0, wa0, wb0, wc0, wm0⟩ := open_ins (hval 0 23 v0 rfl rfl) h0
  obtain ⟨x1, rfl, rfl, rfl, w1⟩ := open_int Tryd.underlying3 (hval 1 3 v1 rfl rfl) h1
  have hT := tab_of_laid hL
  clear hA0 hval0
  simp only [List.append_nil] at hW'
  refine (walk o0 a0 b0 c0 m0 wo0 wa0 wb0 wc0 wm0 x1 w1 W hT).mono fun e W' ⟨he, hb⟩ => ?_
  subst he
  exact ⟨_, rfl, _, _, _, [], [], [], hW', trodAll_cons_mk (shut_bool Tryd.underlying4 _) trodAll_mk0, (trodAll_cons_mk (shut_ins wo0 wa0 wb0 wc0 wm0) (trodAll_cons_mk (shut_int Tryd.underlying3 w1) trodAll_mk0)), rfl, hb.frame _, fun h => by cases h⟩
theorem over : Rows.IsaFieldsSaid :=
  OpenClaim.holds_of_wide 7 Tryd.f7 rfl rfl rfl rfl rfl rfl rfl ⟨rfl, rfl, rfl, rfl, rfl⟩ rfl rfl rfl rfl rfl (by kernel_rfl) Tryd.func7 (by kernel_rfl)
    (of_decide_eq_true (by kernel_rfl)) (by unfold Func.isWrapper; first | (rw [if_pos (by decide +kernel)]; kernel_rfl) | (rw [if_neg (by decide +kernel)]; exact ⟨rfl, rfl⟩))
    (fun os started H enc _ => lifted os started H enc)
/-- THE STATEMENT: the tied card. -/
theorem proved : Rows.IsaFieldsCardSaid :=
  Claim7.holds_tied_plain_at .later [] [.data, .data, .data] true (true, "3de8ee70ca5109505f593e43bf0f8c2ff81a56a3e969041cf46611536ffbf7dc") false
    over (fun _ h => by cases h) (by kernel_rfl) (fun _ h => by cases h) isaFields_row_tie rfl ⟨rfl, rfl⟩ (by kernel_rfl) rfl
    (fun f fn hf hfn => by
      obtain rfl : f = 7 := Option.some.inj ((show Tryd.prog.funcNamed "trunnion/trunnionlaw2.IsaFields" = some 7 by kernel_rfl).symm.trans hf) |>.symm
      obtain rfl : fn = Tryd.f7 := (Option.some.inj (Tryd.func7.symm.trans hfn)).symm
      exact ⟨by kernel_rfl, fun j t ht => by
        rw [Tryd.params7] at ht
        have hm : t ∈ [23, 3] := by simpa using Array.mem_of_getElem? ht
        have hall : ([23, 3].all fun u => !Tryd.prog.wantsStandIn u) = true := by kernel_rfl
        exact (show Tryd.prog.wantsStandIn t = false by simpa using List.all_eq_true.1 hall t hm)⟩)
    (by kernel_rfl)
end Go.Proofs.YtfhfgogiijcmbaaDoor.isaFields
