
/-
  Contracts of the document's own answers Number and Show.
-/
import Derived.Test.YtpjonhcbhgalpaaDoorIsaShow
import Derived.Test.YtpjonhcbhgalpaaDoorIsaREnc
namespace Go.Proofs.YtpjonhcbhgalpaaDoor
open Go.ChangeShapes Go.WideShapes Go.ChangeAt Go.RowKit
/-- A digit's byte. -/
def dgt (d : Nat) : UInt8 := UInt8.ofNat (48 + d)
theorem digit_at (d : Int) (h0 : 0 ≤ d) (h1 : d ≤ 9) (w : World) : Sem.run Tryd.prog (Instr.slice 9 (.string ⟨#[48, 49, 50, 51, 52, 53, 54, 55, 56, 57]⟩) (some (.int .i64 d)) (some (.int .i64 (d + 1))) none) w = .ok (.string ⟨#[dgt d.toNat]⟩) w := by
  rcases (by omega : d = 0 ∨ d = 1 ∨ d = 2 ∨ d = 3 ∨ d = 4 ∨ d = 5 ∨ d = 6 ∨ d = 7 ∨ d = 8 ∨ d = 9) with rfl | rfl | rfl | rfl | rfl | rfl | rfl | rfl | rfl | rfl <;> kernel_rfl
theorem numS_small (n : Int) (h0 : 0 ≤ n) (h : n ≤ 9) : numS n = ⟨#[dgt (n % 10).toNat]⟩ := by
  obtain ⟨u, rfl⟩ := Int.eq_ofNat_of_zero_le h0
  unfold numS dgt; rw [Lib.itoa_nonneg, Lib.decDigits_one (by omega), show ((u : Int) % 10).toNat = u by omega]
theorem numS_big (n : Int) (h : 9 < n) : numS n = numS (n / 10) ++ ⟨#[dgt (n % 10).toNat]⟩ := by
  obtain ⟨u, rfl⟩ := Int.eq_ofNat_of_zero_le (by omega : 0 ≤ n)
  refine bytes_ext ?_
  unfold numS dgt
  rw [show (u : Int) / 10 = ((u / 10 : Nat) : Int) by omega, Lib.itoa_nonneg, Lib.itoa_nonneg, Lib.decDigits, dif_neg (by omega), show ((u : Int) % 10).toNat = u % 10 by omega]
  simp
theorem numS_neg (n : Int) (h : n < 0) : numS n = ⟨#[45]⟩ ++ numS (-n) := by
  obtain ⟨u, hu⟩ := Int.eq_ofNat_of_zero_le (by omega : 0 ≤ -n)
  obtain rfl : n = -(u : Int) := by omega
  refine bytes_ext ?_
  unfold numS
  rw [show - -(u : Int) = (u : Int) by omega, Lib.itoa_neg u (by omega), Lib.itoa_nonneg]
  simp
set_option maxHeartbeats 1000000 in
theorem number_pos (k : Nat) : ∀ (n : Int) (w : World), 0 ≤ n → n < 10 ^ k → n ≤ 1000000 → Calls Tryd.prog 19 #[i64 n] w fun e w' => e = .returned (.string (numS n)) ∧ w = w' := by
  induction k with
  | zero =>
    intro n w h0 h _
    obtain rfl : n = 0 := by have : (10 : Int) ^ 0 = 1 := rfl; omega
    have hs := Lib.hid (numS_small 0 (by decide) (by decide))
    go_enter Tryd.func19, Tryd.ntmps19
    go_wp2_with fail
    go_ret
    exact ⟨ret_str hs.out.symm, rfl⟩
  | succ k ih =>
    intro n w h0 h hu
    have hsl := fun w => digit_at (n % 10) (by omega) (by omega) w
    by_cases hlt : n ≤ 9
    · have hs := Lib.hid (numS_small n h0 hlt)
      go_enter Tryd.func19, Tryd.ntmps19
      go_wp2_with fail
      go_ret
      exact ⟨ret_str hs.out.symm, rfl⟩
    · have hs := Lib.hid (numS_big n (by omega))
      have hz := numS_size (n / 10) (by omega) (by omega)
      have hi := ih (n / 10) w (by omega) (by have e : (10 : Int) ^ (k + 1) = 10 ^ k * 10 := Int.pow_succ _ _; rw [e] at h; exact Int.ediv_lt_of_lt_mul (by decide) h) (by omega)
      clear ih
      go_enter Tryd.func19, Tryd.ntmps19
      go_wp2_with (first | (go_at_call 19; refine hi.mono ?_; rintro e w' ⟨rfl, rfl⟩))
      go_ret
      exact ⟨ret_str hs.out.symm, rfl⟩
set_option maxHeartbeats 1000000 in
theorem number_says (n : Int) (h0 : -1000000 ≤ n) (h1 : n ≤ 1000000) (w : World) : Calls Tryd.prog 19 #[i64 n] w fun e w' => e = .returned (.string (numS n)) ∧ w = w' := by
  have h7 : (10 : Int) ^ 7 = 10000000 := rfl
  by_cases hn : n < 0
  · have hs := Lib.hid (numS_neg n hn)
    have hz := numS_size (-n) (by omega) (by omega)
    have hi := number_pos 7 (-n) w (by omega) (by omega) (by omega)
    clear h7
    go_enter Tryd.func19, Tryd.ntmps19
    go_wp2_with (first | (go_at_call 19; refine hi.mono ?_; rintro e w' ⟨rfl, rfl⟩))
    go_ret
    exact ⟨ret_str hs.out.symm, rfl⟩
  · exact number_pos 7 n w (by omega) (by omega) h1
/-- What the document's answer puts together, and what Show tells: the same text. -/
theorem text_of (op a b c m : Int) (s : ByteArray) (hE : encE op a b c m = 0) (h : s.data.toList = (opN op).data.toList ++ tailL (fR (opF op)) (fB (opF op)) a b c m) : s = showS op a b c m := by
  refine bytes_ext ?_
  rw [h]
  unfold showS showL
  rw [if_pos hE]
set_option maxHeartbeats 4000000 in
theorem rshow_1 (op a b c m : Int) (hE : encE op a b c m = 0) (f : opF op = 1) (a0 : 0 ≤ a) (a1 : a ≤ 15) (b0 : 0 ≤ b) (b1 : b ≤ 15) (c0 : 0 ≤ c) (c1 : c ≤ 15) (m0 : -524288 ≤ m) (m1 : m ≤ 524287) (w : World) : Calls Tryd.prog 11 #[insV op a b c m] w fun e w' => e = .returned (.string (showS op a b c m)) ∧ Below w.heap.size w w' := by
  have e1 : (encE op a b c m != 0) = false := by simpa using hE
  have hC : fC (opF op) = 82 := by rw [f]; rfl
  have hEh := Lib.hid hE
  have hfh := Lib.hid f
  have na := numS_size a (by omega) (by omega)
  have nb := numS_size b (by omega) (by omega)
  have nc := numS_size c (by omega) (by omega)
  have nm := numS_size m (by omega) (by omega)
  have nO := opN_size op
  clear hE f
  go_enter Tryd.func11, Tryd.ntmps11
  go_wp2_with (first | (go_at_call 18; refine (rencode_says _ _ _ _ _ _).mono ?_; rintro e w1 ⟨rfl, hb1⟩; obtain ⟨hc1, hf1⟩ := bcell hb1; have hz1 : w.heap.size < w1.heap.size := (by have := hb1.size; simp at this; omega)) | (go_at_call 6; refine (form_says _ _).mono ?_; rintro e w' ⟨rfl, rfl⟩) | (go_at_call 19; refine (number_says _ (by omega) (by omega) _).mono ?_; rintro e w' ⟨rfl, rfl⟩))
  go_ret
  refine ⟨ret_str (text_of op a b c m _ hEh.out ?_), ((Below.refl _ _).alloc (Nat.le_refl _) _).trans (hb1.mono (by simp))⟩
  rw [hfh.out]
  show _ = _ ++ tailL 3 0 a b c m
  simp [tailL, flds, rS, numS, Lib.join, List.intercalate]
set_option maxHeartbeats 4000000 in
theorem rshow_2 (op a b c m : Int) (hE : encE op a b c m = 0) (f : opF op = 2) (a0 : 0 ≤ a) (a1 : a ≤ 15) (b0 : 0 ≤ b) (b1 : b ≤ 15) (c0 : 0 ≤ c) (c1 : c ≤ 15) (m0 : -524288 ≤ m) (m1 : m ≤ 524287) (w : World) : Calls Tryd.prog 11 #[insV op a b c m] w fun e w' => e = .returned (.string (showS op a b c m)) ∧ Below w.heap.size w w' := by
  have e1 : (encE op a b c m != 0) = false := by simpa using hE
  have hC : fC (opF op) = 73 := by rw [f]; rfl
  have hEh := Lib.hid hE
  have hfh := Lib.hid f
  have na := numS_size a (by omega) (by omega)
  have nb := numS_size b (by omega) (by omega)
  have nc := numS_size c (by omega) (by omega)
  have nm := numS_size m (by omega) (by omega)
  have nO := opN_size op
  clear hE f
  go_enter Tryd.func11, Tryd.ntmps11
  go_wp2_with (first | (go_at_call 18; refine (rencode_says _ _ _ _ _ _).mono ?_; rintro e w1 ⟨rfl, hb1⟩; obtain ⟨hc1, hf1⟩ := bcell hb1; have hz1 : w.heap.size < w1.heap.size := (by have := hb1.size; simp at this; omega)) | (go_at_call 6; refine (form_says _ _).mono ?_; rintro e w' ⟨rfl, rfl⟩) | (go_at_call 19; refine (number_says _ (by omega) (by omega) _).mono ?_; rintro e w' ⟨rfl, rfl⟩))
  go_ret
  refine ⟨ret_str (text_of op a b c m _ hEh.out ?_), ((Below.refl _ _).alloc (Nat.le_refl _) _).trans (hb1.mono (by simp))⟩
  rw [hfh.out]
  show _ = _ ++ tailL 2 16 a b c m
  simp [tailL, flds, rS, numS, Lib.join, List.intercalate]
set_option maxHeartbeats 4000000 in
theorem rshow_3 (op a b c m : Int) (hE : encE op a b c m = 0) (f : opF op = 3) (a0 : 0 ≤ a) (a1 : a ≤ 15) (b0 : 0 ≤ b) (b1 : b ≤ 15) (c0 : 0 ≤ c) (c1 : c ≤ 15) (m0 : -524288 ≤ m) (m1 : m ≤ 524287) (w : World) : Calls Tryd.prog 11 #[insV op a b c m] w fun e w' => e = .returned (.string (showS op a b c m)) ∧ Below w.heap.size w w' := by
  have e1 : (encE op a b c m != 0) = false := by simpa using hE
  have hC : fC (opF op) = 85 := by rw [f]; rfl
  have hEh := Lib.hid hE
  have hfh := Lib.hid f
  have na := numS_size a (by omega) (by omega)
  have nb := numS_size b (by omega) (by omega)
  have nc := numS_size c (by omega) (by omega)
  have nm := numS_size m (by omega) (by omega)
  have nO := opN_size op
  clear hE f
  go_enter Tryd.func11, Tryd.ntmps11
  go_wp2_with (first | (go_at_call 18; refine (rencode_says _ _ _ _ _ _).mono ?_; rintro e w1 ⟨rfl, hb1⟩; obtain ⟨hc1, hf1⟩ := bcell hb1; have hz1 : w.heap.size < w1.heap.size := (by have := hb1.size; simp at this; omega)) | (go_at_call 6; refine (form_says _ _).mono ?_; rintro e w' ⟨rfl, rfl⟩) | (go_at_call 19; refine (number_says _ (by omega) (by omega) _).mono ?_; rintro e w' ⟨rfl, rfl⟩))
  go_ret
  refine ⟨ret_str (text_of op a b c m _ hEh.out ?_), ((Below.refl _ _).alloc (Nat.le_refl _) _).trans (hb1.mono (by simp))⟩
  rw [hfh.out]
  show _ = _ ++ tailL 2 16 a b c m
  simp [tailL, flds, rS, numS, Lib.join, List.intercalate]
set_option maxHeartbeats 4000000 in
theorem rshow_4 (op a b c m : Int) (hE : encE op a b c m = 0) (f : opF op = 4) (a0 : 0 ≤ a) (a1 : a ≤ 15) (b0 : 0 ≤ b) (b1 : b ≤ 15) (c0 : 0 ≤ c) (c1 : c ≤ 15) (m0 : -524288 ≤ m) (m1 : m ≤ 524287) (w : World) : Calls Tryd.prog 11 #[insV op a b c m] w fun e w' => e = .returned (.string (showS op a b c m)) ∧ Below w.heap.size w w' := by
  have e1 : (encE op a b c m != 0) = false := by simpa using hE
  have hC : fC (opF op) = 72 := by rw [f]; rfl
  have hEh := Lib.hid hE
  have hfh := Lib.hid f
  have na := numS_size a (by omega) (by omega)
  have nb := numS_size b (by omega) (by omega)
  have nc := numS_size c (by omega) (by omega)
  have nm := numS_size m (by omega) (by omega)
  have nO := opN_size op
  clear hE f
  go_enter Tryd.func11, Tryd.ntmps11
  go_wp2_with (first | (go_at_call 18; refine (rencode_says _ _ _ _ _ _).mono ?_; rintro e w1 ⟨rfl, hb1⟩; obtain ⟨hc1, hf1⟩ := bcell hb1; have hz1 : w.heap.size < w1.heap.size := (by have := hb1.size; simp at this; omega)) | (go_at_call 6; refine (form_says _ _).mono ?_; rintro e w' ⟨rfl, rfl⟩) | (go_at_call 19; refine (number_says _ (by omega) (by omega) _).mono ?_; rintro e w' ⟨rfl, rfl⟩))
  go_ret
  refine ⟨ret_str (text_of op a b c m _ hEh.out ?_), ((Below.refl _ _).alloc (Nat.le_refl _) _).trans (hb1.mono (by simp))⟩
  rw [hfh.out]
  show _ = _ ++ tailL 2 16 a b c m
  simp [tailL, flds, rS, numS, Lib.join, List.intercalate]
set_option maxHeartbeats 4000000 in
theorem rshow_5 (op a b c m : Int) (hE : encE op a b c m = 0) (f : opF op = 5) (a0 : 0 ≤ a) (a1 : a ≤ 15) (b0 : 0 ≤ b) (b1 : b ≤ 15) (c0 : 0 ≤ c) (c1 : c ≤ 15) (m0 : -524288 ≤ m) (m1 : m ≤ 524287) (w : World) : Calls Tryd.prog 11 #[insV op a b c m] w fun e w' => e = .returned (.string (showS op a b c m)) ∧ Below w.heap.size w w' := by
  have e1 : (encE op a b c m != 0) = false := by simpa using hE
  have hC : fC (opF op) = 76 := by rw [f]; rfl
  have hEh := Lib.hid hE
  have hfh := Lib.hid f
  have na := numS_size a (by omega) (by omega)
  have nb := numS_size b (by omega) (by omega)
  have nc := numS_size c (by omega) (by omega)
  have nm := numS_size m (by omega) (by omega)
  have nO := opN_size op
  clear hE f
  go_enter Tryd.func11, Tryd.ntmps11
  go_wp2_with (first | (go_at_call 18; refine (rencode_says _ _ _ _ _ _).mono ?_; rintro e w1 ⟨rfl, hb1⟩; obtain ⟨hc1, hf1⟩ := bcell hb1; have hz1 : w.heap.size < w1.heap.size := (by have := hb1.size; simp at this; omega)) | (go_at_call 6; refine (form_says _ _).mono ?_; rintro e w' ⟨rfl, rfl⟩) | (go_at_call 19; refine (number_says _ (by omega) (by omega) _).mono ?_; rintro e w' ⟨rfl, rfl⟩))
  go_ret
  refine ⟨ret_str (text_of op a b c m _ hEh.out ?_), ((Below.refl _ _).alloc (Nat.le_refl _) _).trans (hb1.mono (by simp))⟩
  rw [hfh.out]
  show _ = _ ++ tailL 1 16 a b c m
  simp [tailL, flds, rS, numS, Lib.join, List.intercalate]
set_option maxHeartbeats 4000000 in
theorem rshow_6 (op a b c m : Int) (hE : encE op a b c m = 0) (f : opF op = 6) (a0 : 0 ≤ a) (a1 : a ≤ 15) (b0 : 0 ≤ b) (b1 : b ≤ 15) (c0 : 0 ≤ c) (c1 : c ≤ 15) (m0 : -524288 ≤ m) (m1 : m ≤ 524287) (w : World) : Calls Tryd.prog 11 #[insV op a b c m] w fun e w' => e = .returned (.string (showS op a b c m)) ∧ Below w.heap.size w w' := by
  have e1 : (encE op a b c m != 0) = false := by simpa using hE
  have hC : fC (opF op) = 74 := by rw [f]; rfl
  have hEh := Lib.hid hE
  have hfh := Lib.hid f
  have na := numS_size a (by omega) (by omega)
  have nb := numS_size b (by omega) (by omega)
  have nc := numS_size c (by omega) (by omega)
  have nm := numS_size m (by omega) (by omega)
  have nO := opN_size op
  clear hE f
  go_enter Tryd.func11, Tryd.ntmps11
  go_wp2_with (first | (go_at_call 18; refine (rencode_says _ _ _ _ _ _).mono ?_; rintro e w1 ⟨rfl, hb1⟩; obtain ⟨hc1, hf1⟩ := bcell hb1; have hz1 : w.heap.size < w1.heap.size := (by have := hb1.size; simp at this; omega)) | (go_at_call 6; refine (form_says _ _).mono ?_; rintro e w' ⟨rfl, rfl⟩) | (go_at_call 19; refine (number_says _ (by omega) (by omega) _).mono ?_; rintro e w' ⟨rfl, rfl⟩))
  go_ret
  refine ⟨ret_str (text_of op a b c m _ hEh.out ?_), ((Below.refl _ _).alloc (Nat.le_refl _) _).trans (hb1.mono (by simp))⟩
  rw [hfh.out]
  show _ = _ ++ tailL 1 20 a b c m
  simp [tailL, flds, rS, numS, Lib.join, List.intercalate]
set_option maxHeartbeats 4000000 in
theorem rshow_7 (op a b c m : Int) (hE : encE op a b c m = 0) (f : opF op = 7) (a0 : 0 ≤ a) (a1 : a ≤ 15) (b0 : 0 ≤ b) (b1 : b ≤ 15) (c0 : 0 ≤ c) (c1 : c ≤ 15) (m0 : -524288 ≤ m) (m1 : m ≤ 524287) (w : World) : Calls Tryd.prog 11 #[insV op a b c m] w fun e w' => e = .returned (.string (showS op a b c m)) ∧ Below w.heap.size w w' := by
  have e1 : (encE op a b c m != 0) = false := by simpa using hE
  have hC : fC (opF op) = 67 := by rw [f]; rfl
  have hEh := Lib.hid hE
  have hfh := Lib.hid f
  have na := numS_size a (by omega) (by omega)
  have nb := numS_size b (by omega) (by omega)
  have nc := numS_size c (by omega) (by omega)
  have nm := numS_size m (by omega) (by omega)
  have nO := opN_size op
  clear hE f
  go_enter Tryd.func11, Tryd.ntmps11
  go_wp2_with (first | (go_at_call 18; refine (rencode_says _ _ _ _ _ _).mono ?_; rintro e w1 ⟨rfl, hb1⟩; obtain ⟨hc1, hf1⟩ := bcell hb1; have hz1 : w.heap.size < w1.heap.size := (by have := hb1.size; simp at this; omega)) | (go_at_call 6; refine (form_says _ _).mono ?_; rintro e w' ⟨rfl, rfl⟩) | (go_at_call 19; refine (number_says _ (by omega) (by omega) _).mono ?_; rintro e w' ⟨rfl, rfl⟩))
  go_ret
  refine ⟨ret_str (text_of op a b c m _ hEh.out ?_), ((Below.refl _ _).alloc (Nat.le_refl _) _).trans (hb1.mono (by simp))⟩
  rw [hfh.out]
  show _ = _ ++ tailL 1 16 a b c m
  simp [tailL, flds, rS, numS, Lib.join, List.intercalate]
set_option maxHeartbeats 4000000 in
theorem rshow_8 (op a b c m : Int) (hE : encE op a b c m = 0) (f : opF op = 8) (a0 : 0 ≤ a) (a1 : a ≤ 15) (b0 : 0 ≤ b) (b1 : b ≤ 15) (c0 : 0 ≤ c) (c1 : c ≤ 15) (m0 : -524288 ≤ m) (m1 : m ≤ 524287) (w : World) : Calls Tryd.prog 11 #[insV op a b c m] w fun e w' => e = .returned (.string (showS op a b c m)) ∧ Below w.heap.size w w' := by
  have e1 : (encE op a b c m != 0) = false := by simpa using hE
  have hC : fC (opF op) = 78 := by rw [f]; rfl
  have hEh := Lib.hid hE
  have hfh := Lib.hid f
  have na := numS_size a (by omega) (by omega)
  have nb := numS_size b (by omega) (by omega)
  have nc := numS_size c (by omega) (by omega)
  have nm := numS_size m (by omega) (by omega)
  have nO := opN_size op
  clear hE f
  go_enter Tryd.func11, Tryd.ntmps11
  go_wp2_with (first | (go_at_call 18; refine (rencode_says _ _ _ _ _ _).mono ?_; rintro e w1 ⟨rfl, hb1⟩; obtain ⟨hc1, hf1⟩ := bcell hb1; have hz1 : w.heap.size < w1.heap.size := (by have := hb1.size; simp at this; omega)) | (go_at_call 6; refine (form_says _ _).mono ?_; rintro e w' ⟨rfl, rfl⟩) | (go_at_call 19; refine (number_says _ (by omega) (by omega) _).mono ?_; rintro e w' ⟨rfl, rfl⟩))
  go_ret
  refine ⟨ret_str (text_of op a b c m _ hEh.out ?_), ((Below.refl _ _).alloc (Nat.le_refl _) _).trans (hb1.mono (by simp))⟩
  rw [hfh.out]
  show _ = _ ++ tailL 0 0 a b c m
  simp [tailL, flds, rS]
set_option maxHeartbeats 1000000 in
theorem rshow_err (op a b c m : Int) (hE : encE op a b c m ≠ 0) (w : World) : Calls Tryd.prog 11 #[insV op a b c m] w fun e w' => e = .returned (.string (showS op a b c m)) ∧ Below w.heap.size w w' := by
  have e1 : (encE op a b c m != 0) = true := by simpa using hE
  have hS := Lib.hid (show showS op a b c m = ⟨#[]⟩ from bytes_ext (by unfold showS showL; rw [if_neg hE]))
  clear hE
  go_enter Tryd.func11, Tryd.ntmps11
  go_wp2_with (first | (go_at_call 18; refine (rencode_says _ _ _ _ _ _).mono ?_; rintro e w1 ⟨rfl, hb1⟩))
  go_ret
  exact ⟨ret_str hS.out.symm, ((Below.refl _ _).alloc (Nat.le_refl _) _).trans (hb1.mono (by simp))⟩
/-- The document's own Show of every instruction: the same. -/
theorem rshow_says (op a b c m : Int) (w : World) : Calls Tryd.prog 11 #[insV op a b c m] w fun e w' => e = .returned (.string (showS op a b c m)) ∧ Below w.heap.size w w' := by
  by_cases hE : encE op a b c m = 0
  · have hn : opF op ≠ 0 := by intro hf; have := (enc_none op a b c m hf).1; omega
    have hq : ¬ badQ (fR (opF op)) a b c := by intro hf; have := (enc_bad op a b c m hn hf).1; omega
    have hm : ¬ (m < fL (opF op) ∨ fH (opF op) < m) := by intro hf; have := (enc_range op a b c m hn hq hf).1; omega
    obtain ⟨⟨a0, a1⟩, ⟨b0, b1⟩, ⟨c0, c1⟩, _⟩ := good_regs hq
    obtain ⟨m0, m1⟩ := imm_bd _ _ hm
    have hb := opF_bd op
    rcases f_cases (opF op) hb.1 hb.2 with f | f | f | f | f | f | f | f | f
    · exact absurd f hn
    · exact rshow_1 op a b c m hE f a0 a1 b0 b1 c0 c1 m0 m1 w
    · exact rshow_2 op a b c m hE f a0 a1 b0 b1 c0 c1 m0 m1 w
    · exact rshow_3 op a b c m hE f a0 a1 b0 b1 c0 c1 m0 m1 w
    · exact rshow_4 op a b c m hE f a0 a1 b0 b1 c0 c1 m0 m1 w
    · exact rshow_5 op a b c m hE f a0 a1 b0 b1 c0 c1 m0 m1 w
    · exact rshow_6 op a b c m hE f a0 a1 b0 b1 c0 c1 m0 m1 w
    · exact rshow_7 op a b c m hE f a0 a1 b0 b1 c0 c1 m0 m1 w
    · exact rshow_8 op a b c m hE f a0 a1 b0 b1 c0 c1 m0 m1 w
  · exact rshow_err op a b c m hE w
end Go.Proofs.YtpjonhcbhgalpaaDoor
