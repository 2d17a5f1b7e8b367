
/-
  Plain: one bit of an instruction's word turned over (no program in sight).
-/
import Derived.Test.YtfhfgogiijcmbaaDoorIsaMath3
namespace Go.Proofs.YtfhfgogiijcmbaaDoor
open Go.RowKit
theorem nat_even (t : Nat) : (2 * t) ^^^ 1 = 2 * t + 1 := by
  apply Nat.eq_of_testBit_eq
  intro i
  rw [Nat.testBit_xor]
  cases i with
  | zero => rw [Nat.testBit_zero, Nat.testBit_zero, Nat.testBit_zero, show 2 * t % 2 = 0 by omega, show (2 * t + 1) % 2 = 1 by omega]; rfl
  | succ i => rw [Nat.testBit_succ, Nat.testBit_succ, Nat.testBit_succ, show 2 * t / 2 = t by omega, show (2 * t + 1) / 2 = t by omega]; simp
theorem nat_odd (t : Nat) : (2 * t + 1) ^^^ 1 = 2 * t := by
  rw [← nat_even, Nat.xor_assoc, Nat.xor_self, Nat.xor_zero]
theorem nat_flip_one (q : Nat) : (q % 2 = 0 ∧ q ^^^ 1 = q + 1) ∨ (q % 2 = 1 ∧ (q ^^^ 1) + 1 = q) := by
  have h01 : q % 2 = 0 ∨ q % 2 = 1 := by omega
  rcases h01 with h | h
  · have e := nat_even (q / 2)
    rw [show 2 * (q / 2) = q by omega] at e
    exact .inl ⟨h, e⟩
  · have e := nat_odd (q / 2)
    rw [show 2 * (q / 2) + 1 = q by omega] at e
    exact .inr ⟨h, by omega⟩
theorem nat_flip (X k : Nat) : (X / 2 ^ k % 2 = 0 ∧ X ^^^ 2 ^ k = X + 2 ^ k) ∨ (X / 2 ^ k % 2 = 1 ∧ (X ^^^ 2 ^ k) + 2 ^ k = X) := by
  have hp : 0 < 2 ^ k := Nat.two_pow_pos k
  have e : X = 2 ^ k * (X / 2 ^ k) + X % 2 ^ k := (Nat.div_add_mod X (2 ^ k)).symm
  have hx : X ^^^ 2 ^ k = 2 ^ k * ((X / 2 ^ k) ^^^ 1) + X % 2 ^ k := by
    apply Nat.eq_of_testBit_eq
    intro i
    rw [Nat.testBit_xor, Nat.testBit_two_pow]
    have hm : X % 2 ^ k < 2 ^ k := Nat.mod_lt _ hp
    rw [Nat.testBit_two_pow_mul_add _ hm]
    by_cases hi : i < k
    · rw [if_pos hi, Nat.testBit_mod_two_pow]
      have : ¬ k = i := by omega
      simp [hi, this]
    · rw [if_neg hi, Nat.testBit_xor, Nat.testBit_div_two_pow]
      rw [show i - k + k = i by omega]
      by_cases hk : k = i
      · subst hk; simp
      · have : ¬ (i - k = 0) := by omega
        have h2 : Nat.testBit 1 (i - k) = false := by
          rw [show (1 : Nat) = 2 ^ 0 from rfl, Nat.testBit_two_pow]; simp; omega
        simp [hk, h2]
  rcases nat_flip_one (X / 2 ^ k) with ⟨h, h'⟩ | ⟨h, h'⟩
  · refine .inl ⟨h, ?_⟩
    rw [hx, h', Nat.mul_add, Nat.mul_one]
    omega
  · refine .inr ⟨h, ?_⟩
    have h2 : 2 ^ k * (X / 2 ^ k) = 2 ^ k * ((X / 2 ^ k ^^^ 1) + 1) := by rw [h']
    rw [Nat.mul_add, Nat.mul_one] at h2
    rw [hx]
    omega
theorem nat_hi (X k j : Nat) (h : k < j) : (X ^^^ 2 ^ k) / 2 ^ j = X / 2 ^ j := by
  rw [← Nat.shiftRight_eq_div_pow, Nat.shiftRight_xor_distrib, Nat.shiftRight_eq_div_pow, Nat.shiftRight_eq_div_pow, Nat.div_eq_of_lt (Nat.pow_lt_pow_right (by decide) h), Nat.xor_zero]
theorem nat_lo (X k j : Nat) (h : j ≤ k) : (X ^^^ 2 ^ k) % 2 ^ j = X % 2 ^ j := by
  rw [Nat.xor_mod_two_pow, Nat.mod_eq_zero_of_dvd (Nat.pow_dvd_pow 2 h), Nat.xor_zero]
/-- A word with one bit turned over. -/
theorem flip (x : Int) (k : Nat) (h0 : 0 ≤ x) (h1 : x ≤ 4294967295) (hk : k ≤ 31) :
    ((x / 2 ^ k % 2 = 0 ∧ bits .xor .i64 x (2 ^ k) = x + 2 ^ k) ∨ (x / 2 ^ k % 2 = 1 ∧ bits .xor .i64 x (2 ^ k) = x - 2 ^ k)) ∧
    0 ≤ bits .xor .i64 x (2 ^ k) ∧ bits .xor .i64 x (2 ^ k) ≤ 4294967295 ∧
    (∀ j : Nat, k < j → bits .xor .i64 x (2 ^ k) / 2 ^ j = x / 2 ^ j) ∧ (∀ j : Nat, j ≤ k → bits .xor .i64 x (2 ^ k) % 2 ^ j = x % 2 ^ j) := by
  obtain ⟨X, rfl⟩ := Int.eq_ofNat_of_zero_le h0
  have hp : (2 : Nat) ^ k ≤ 2 ^ 31 := Nat.pow_le_pow_right (by decide) hk
  have hX : X < 2 ^ 32 := by omega
  have hx32 : X ^^^ 2 ^ k < 2 ^ 32 := Nat.xor_lt_two_pow hX (by omega)
  have e : bits .xor .i64 (X : Int) (2 ^ k) = ((X ^^^ 2 ^ k : Nat) : Int) := by
    show IntKind.i64.wrap ((BitVec.ofInt 64 (X : Int) ^^^ BitVec.ofInt 64 ((2 : Int) ^ k)).toNat : Int) = _
    have c : ((2 : Int) ^ k) = ((2 ^ k : Nat) : Int) := by simp
    rw [c, BitVec.ofInt_natCast, BitVec.ofInt_natCast, BitVec.toNat_xor, BitVec.toNat_ofNat, BitVec.toNat_ofNat, Nat.mod_eq_of_lt (by omega), Nat.mod_eq_of_lt (by omega)]
    exact IntWalk.i64_in _ (by omega)
  rw [e]
  have c2 : (X : Int) / 2 ^ k % 2 = ((X / 2 ^ k % 2 : Nat) : Int) := by simp
  have c3 : ((2 : Int) ^ k) = ((2 ^ k : Nat) : Int) := by simp
  refine ⟨?_, by omega, by omega, fun j hj => ?_, fun j hj => ?_⟩
  · rw [c2, c3]
    rcases nat_flip X k with ⟨h, h'⟩ | ⟨h, h'⟩
    · left; constructor <;> omega
    · right; constructor <;> omega
  · have := nat_hi X k j hj
    exact_mod_cast congrArg (Nat.cast (R := Int)) this
  · have := nat_lo X k j hj
    exact_mod_cast congrArg (Nat.cast (R := Int)) this
/-- Where no field has been turned, but the word has: it is none. -/
theorem none_of (op a b c m y : Int) (h1 : dO y = op) (h2 : dA y = a) (h3 : dB y = b) (h4 : dC y = c) (h5 : dM y = m) (hy : y ≠ encW op a b c m) : decE y = 5 := by
  refine (dec_no y ?_).1
  intro hd
  have := hd.2
  rw [h1, h2, h3, h4, h5] at this
  exact hy this.symm
theorem field_err (op a b c m : Int) (k : Nat) (hk : k ≤ 31) (h : encE op a b c m = 0) (hr : (opF op = 1 ∧ k < 12) ∨ (opF op = 8 ∧ k < 24) ∨ ((opF op = 5 ∨ opF op = 7) ∧ 16 ≤ k ∧ k < 20)) :
    decE (wd (bits .xor .i64 (encW op a b c m) (2 ^ k))) = 5 := by
  obtain ⟨e1, e2, e3, e4, e5, x0, x1⟩ := fields_of op a b c m h
  obtain ⟨hf, y0, y1, hhi, hlo⟩ := flip (encW op a b c m) k x0 x1 hk
  generalize hX : encW op a b c m = X at *
  generalize hY : bits .xor .i64 X (2 ^ k) = y at *
  have hp := pow_pos' k
  have hne : y ≠ X := by omega
  rw [wd_eq y y0 y1]
  rcases hr with ⟨f, hk2⟩ | ⟨f, hk2⟩ | ⟨f, hk2, hk3⟩
  · have q : y / 4096 = X / 4096 := hhi 12 hk2
    have hO : dO y = op := by unfold dO at *; omega
    have hFy : dF y = 1 := by unfold dF; rw [hO]; exact f
    have hFX : dF X = 1 := by unfold dF; rw [e1]; exact f
    refine none_of op a b c m y hO ?_ ?_ ?_ ?_ (by rw [hX]; exact hne)
    · rw [← e2]; unfold dA; rw [hFy, hFX]; show y / 1048576 % 16 = X / 1048576 % 16; omega
    · rw [← e3]; unfold dB; rw [hFy, hFX]; show y / 65536 % 16 = X / 65536 % 16; omega
    · rw [← e4]; unfold dC; rw [hFy, hFX]; show y / 4096 % 16 = X / 4096 % 16; omega
    · rw [← e5]; unfold dM; rw [hFy, hFX]; exact (bt_m1 y).trans (bt_m1 X).symm
  · have q : y / 16777216 = X / 16777216 := hhi 24 hk2
    have hO : dO y = op := by unfold dO at *; omega
    have hFy : dF y = 8 := by unfold dF; rw [hO]; exact f
    have hFX : dF X = 8 := by unfold dF; rw [e1]; exact f
    refine none_of op a b c m y hO ?_ ?_ ?_ ?_ (by rw [hX]; exact hne)
    · rw [← e2]; unfold dA; rw [hFy, hFX]; rfl
    · rw [← e3]; unfold dB; rw [hFy, hFX]; rfl
    · rw [← e4]; unfold dC; rw [hFy, hFX]; rfl
    · rw [← e5]; unfold dM; rw [hFy, hFX]; exact (bt_m1 y).trans (bt_m1 X).symm
  · have q : y / 1048576 = X / 1048576 := hhi 20 hk3
    have q2 : y % 65536 = X % 65536 := hlo 16 hk2
    have hO : dO y = op := by unfold dO at *; omega
    rcases f with f | f
    all_goals
      have hFy : dF y = opF op := by unfold dF; rw [hO]
      have hFX : dF X = opF op := by unfold dF; rw [e1]
      rw [f] at hFy hFX
      refine none_of op a b c m y hO ?_ ?_ ?_ ?_ (by rw [hX]; exact hne)
      · rw [← e2]; unfold dA; rw [hFy, hFX]; show y / 1048576 % 16 = X / 1048576 % 16; omega
      · rw [← e3]; unfold dB; rw [hFy, hFX]; rfl
      · rw [← e4]; unfold dC; rw [hFy, hFX]; rfl
      · rw [← e5]; unfold dM; rw [hFy, hFX]; show bt y 15 0 = bt X 15 0; rw [bt_16 y y0 y1, bt_16 X x0 x1]; exact q2
theorem field_a (op a b c m : Int) (k : Nat) (hk0 : 20 ≤ k) (hk : k < 24) (h : encE op a b c m = 0) (h8 : opF op ≠ 8) :
    decE (wd (bits .xor .i64 (encW op a b c m) (2 ^ k))) = 0 ∧ gO (wd (bits .xor .i64 (encW op a b c m) (2 ^ k))) = op ∧ gA (wd (bits .xor .i64 (encW op a b c m) (2 ^ k))) = bits .xor .i64 a (2 ^ (k - 20)) ∧
      gB (wd (bits .xor .i64 (encW op a b c m) (2 ^ k))) = b ∧ gM (wd (bits .xor .i64 (encW op a b c m) (2 ^ k))) = m := by
  have hn : opF op ≠ 0 := by intro hf; have := (enc_none op a b c m hf).1; omega
  have hq : ¬ badQ (fR (opF op)) a b c := by intro hf; have := (enc_bad op a b c m hn hf).1; omega
  have hm : ¬ (m < fL (opF op) ∨ fH (opF op) < m) := by intro hf; have := (enc_range op a b c m hn hq hf).1; omega
  have hb := opF_bd op
  have hr1 : 1 ≤ fR (opF op) := by
    rcases f_cases (opF op) hb.1 hb.2 with f | f | f | f | f | f | f | f | f
    · exact absurd f hn
    all_goals first | exact absurd f h8 | (rw [f]; decide)
  obtain ⟨⟨a0, a1⟩, ⟨b0, b1⟩, ⟨c0, c1⟩, _, hB, hC⟩ := good_regs hq
  have ew := (enc_ok op a b c m hn hq hm).2
  obtain ⟨e1, e2, e3, e4, e5, x0, x1⟩ := fields_of op a b c m h
  obtain ⟨hf, y0, y1, _, _⟩ := flip (encW op a b c m) k x0 x1 (by omega)
  obtain ⟨hg, z0, z1, _, _⟩ := flip a (k - 20) a0 (by omega) (by omega)
  have hA : encW op a b c m / 1048576 % 16 = a := by
    have hx := e2
    unfold dA at hx
    have hFX : dF (encW op a b c m) = opF op := by unfold dF; rw [e1]
    rw [hFX, if_neg (by omega)] at hx
    exact hx
  generalize hz : bits .xor .i64 a (2 ^ (k - 20)) = z at *
  have hz15 : 0 ≤ z ∧ z ≤ 15 ∧ bits .xor .i64 (encW op a b c m) (2 ^ k) = encW op a b c m + (z - a) * 1048576 := by
    generalize bits .xor .i64 (encW op a b c m) (2 ^ k) = y at *
    generalize encW op a b c m = X at *
    have hk4 : k = 20 ∨ k = 21 ∨ k = 22 ∨ k = 23 := by omega
    rcases hk4 with rfl | rfl | rfl | rfl
    · have f' : (X / 1048576 % 2 = 0 ∧ y = X + 1048576) ∨ (X / 1048576 % 2 = 1 ∧ y = X - 1048576) := hf
      have g' : (a / 1 % 2 = 0 ∧ z = a + 1) ∨ (a / 1 % 2 = 1 ∧ z = a - 1) := hg
      omega
    · have f' : (X / 2097152 % 2 = 0 ∧ y = X + 2097152) ∨ (X / 2097152 % 2 = 1 ∧ y = X - 2097152) := hf
      have g' : (a / 2 % 2 = 0 ∧ z = a + 2) ∨ (a / 2 % 2 = 1 ∧ z = a - 2) := hg
      omega
    · have f' : (X / 4194304 % 2 = 0 ∧ y = X + 4194304) ∨ (X / 4194304 % 2 = 1 ∧ y = X - 4194304) := hf
      have g' : (a / 4 % 2 = 0 ∧ z = a + 4) ∨ (a / 4 % 2 = 1 ∧ z = a - 4) := hg
      omega
    · have f' : (X / 8388608 % 2 = 0 ∧ y = X + 8388608) ∨ (X / 8388608 % 2 = 1 ∧ y = X - 8388608) := hf
      have g' : (a / 8 % 2 = 0 ∧ z = a + 8) ∨ (a / 8 % 2 = 1 ∧ z = a - 8) := hg
      omega
  obtain ⟨z2, z3, hy⟩ := hz15
  have hq' : ¬ badQ (fR (opF op)) z b c := by unfold badQ; omega
  have h' := (enc_ok op z b c m hn hq' hm)
  have hyw : bits .xor .i64 (encW op a b c m) (2 ^ k) = encW op z b c m := by rw [hy, h'.2, ew]; omega
  rw [wd_eq _ y0 y1, hyw]
  obtain ⟨d0, d1, d2, d3, _, d5⟩ := decode_encode op z b c m h'.1
  exact ⟨d0, d1, d2, d3, d5⟩
end Go.Proofs.YtfhfgogiijcmbaaDoor
