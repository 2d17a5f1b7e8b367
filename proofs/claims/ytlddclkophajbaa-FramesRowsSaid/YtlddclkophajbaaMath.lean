
/-
  Plain arithmetic of words of 32 bits (no program in sight): the functions that the walks of XWord speak of, and their laws.
-/
import Derived.WalkKit
set_option maxRecDepth 100000
set_option linter.unusedVariables false
namespace Go.Proofs.Ytlddclkophajbaa
open Go.RowKit

/-- The lowest 32 bits. -/
def wd (n : Int) : Int := n % 4294967296
/-- These with their sign. -/
def sg (n : Int) : Int := (n + 2147483648) % 4294967296 - 2147483648
/-- The lowest five bits. -/
def pl (n : Int) : Nat := (n % 32).toNat
/-- The quotient. -/
def dv (a b : Int) : Int := if wd b = 0 then 4294967295 else wd a / wd b
/-- The rest. -/
def rm (a b : Int) : Int := if wd b = 0 then wd a else wd a % wd b
def lf (a n : Int) : Int := wd (wd a * 2 ^ pl n)
def rt (a n : Int) : Int := wd a / 2 ^ pl n
def ar (a n : Int) : Int := wd (sg a / 2 ^ pl n)
def bt (w h l : Int) : Int := if l < 0 ∨ h < l ∨ 31 < h then 0 else wd w / 2 ^ l.toNat % 2 ^ (h - l + 1).toNat
/-- n bits of w with their sign, n from 1 to 32. -/
def ext (w : Int) (n : Nat) : Int := (w + 2 ^ (n - 1)) % 2 ^ n - 2 ^ (n - 1)
def ex (w n : Int) : Int := if n < 1 then 0 else wd (ext w (min n 32).toNat)

theorem wd_lo (n : Int) : 0 ≤ wd n := by unfold wd; omega
theorem wd_hi (n : Int) : wd n ≤ 4294967295 := by unfold wd; omega
theorem sg_lo (n : Int) : -2147483648 ≤ sg n := by unfold sg; omega
theorem sg_hi (n : Int) : sg n ≤ 2147483647 := by unfold sg; omega
theorem wd_wd (n : Int) : wd (wd n) = wd n := by unfold wd; omega
theorem wd_sg (n : Int) : wd (sg n) = wd n := by unfold wd sg; omega
theorem sg_wd (n : Int) : sg (wd n) = sg n := by unfold wd sg; omega
theorem wd_eq (n : Int) (h : 0 ≤ n) (h' : n ≤ 4294967295) : wd n = n := by unfold wd; omega
theorem sg_of (n : Int) : sg n = if 2147483647 < wd n then wd n - 4294967296 else wd n := by unfold wd sg; split <;> omega
theorem wd_wrap (n : Int) : wd (wrap64 n) = wd n := by unfold wd wrap64; omega
theorem w32 (n : Int) : wrap32 (n % 4294967296) = sg n := by unfold wrap32 sg; omega
theorem pl_lt (n : Int) : pl n < 32 := by unfold pl; omega
theorem pl_cast (n : Int) : ((pl n : Nat) : Int) = n % 32 := by unfold pl; omega
theorem wd_mul (a b : Int) : wd (wd a * wd b) = wd (a * b) := by unfold wd; exact (Int.mul_emod a b _).symm
theorem wd_add (a b : Int) : wd (wd a + wd b) = wd (a + b) := by unfold wd; omega
theorem pow_pos' (n : Nat) : (0 : Int) < 2 ^ n := Int.pow_pos (by decide)
theorem pow_le' {a b : Nat} (h : a ≤ b) : (2 : Int) ^ a ≤ 2 ^ b := by exact_mod_cast Nat.pow_le_pow_right (by decide) h

/-! ### Bits and masks -/
theorem ofInt_toNat (B : Nat) (x : Int) : (BitVec.ofInt B x).toNat = (x % (2 ^ B : Nat)).toNat := by
  rw [BitVec.toNat_ofInt]
theorem i64_mask (x : Int) (i : Nat) (hi : i ≤ 62) : bits .and .i64 x (2 ^ i - 1) = x % 2 ^ i := by
  have hp : (0 : Int) < 2 ^ i := pow_pos' i
  have hle : (2 : Int) ^ i ≤ 2 ^ 62 := pow_le' hi
  have hb : (2 : Int) ^ 62 = 4611686018427387904 := by decide
  have e2 : (BitVec.ofInt 64 ((2 : Int) ^ i - 1)).toNat = 2 ^ i - 1 := by
    rw [ofInt_toNat, Int.emod_eq_of_lt (by omega) (by rw [show ((2 ^ 64 : Nat) : Int) = 18446744073709551616 from by decide]; omega)]
    have hc : ((2 : Int) ^ i - 1) = ((2 ^ i - 1 : Nat) : Int) := by
      rw [Int.natCast_sub (Nat.two_pow_pos i)]; simp
    rw [hc, Int.toNat_natCast]
  show IntKind.i64.wrap ((BitVec.ofInt 64 x &&& BitVec.ofInt 64 ((2 : Int) ^ i - 1)).toNat : Int) = _
  rw [BitVec.toNat_and, e2, Nat.and_two_pow_sub_one_eq_mod, ofInt_toNat]
  have hm : (0 : Int) ≤ x % (2 ^ 64 : Nat) := Int.emod_nonneg _ (by decide)
  have e3 : (((x % ((2 ^ 64 : Nat) : Int)).toNat % 2 ^ i : Nat) : Int) = x % 2 ^ i := by
    rw [Int.natCast_emod, Int.toNat_of_nonneg hm]
    simp only [Int.natCast_pow, Int.cast_ofNat_Int]
    exact Int.emod_emod_of_dvd x ⟨2 ^ (64 - i), by rw [← Int.pow_add]; congr 1; omega⟩
  rw [e3]
  have h1 := Int.emod_nonneg x (by omega : (2 : Int) ^ i ≠ 0)
  have h2 := Int.emod_lt_of_pos x hp
  exact IntWalk.i64_in _ (by omega)
theorem i64_word (x : Int) : bits .and .i64 x 4294967295 = wd x := i64_mask x 32 (by decide)
theorem i64_five (x : Int) : bits .and .i64 x 31 = x % 32 := i64_mask x 5 (by decide)
theorem u32_five (x : Int) : bits .and .u32 (x % 4294967296) 31 = x % 32 := by
  rw [show (31 : Int) = 2 ^ 5 - 1 from by decide, bits_mask .u32 32 (by decide) (fun n h1 h2 => IntWalk.u32_in n (by omega)) 5 (by decide) _ (by omega) (by omega)]
  show x % 4294967296 % 32 = x % 32
  omega
theorem pl_min (n : Int) (k : Nat) (h : 32 ≤ k) : min (n % 32).toNat k = pl n := by unfold pl; omega
theorem pl_min' (n : Int) (k : Nat) (h : 32 ≤ k) : min (pl n) k = pl n := by have := pl_lt n; omega
theorem sh64 (n : Int) : min (IntKind.u64.wrap (bits .and .i64 n 31)).toNat 64 = pl n := by
  rw [i64_five, IntWalk.u64_in _ (by omega)]; unfold pl; omega
theorem lf_raw (a n : Int) : wd (wrap64 (wd a * 2 ^ pl n)) = lf a n := wd_wrap _
theorem div_pow_le (x : Int) (k : Nat) (h : 0 ≤ x) : 0 ≤ x / 2 ^ k ∧ x / 2 ^ k ≤ x :=
  ⟨Int.ediv_nonneg h (Int.le_of_lt (pow_pos' k)), Int.ediv_le_self _ h⟩
theorem rt_lo (a n : Int) : 0 ≤ rt a n := (div_pow_le _ _ (wd_lo a)).1
theorem rt_hi (a n : Int) : rt a n ≤ 4294967295 := Int.le_trans (div_pow_le _ _ (wd_lo a)).2 (wd_hi a)
theorem rt_raw (a n : Int) : wrap64 (wd a / 2 ^ pl n) = rt a n := by
  have h1 := rt_lo a n
  have h2 := rt_hi a n
  unfold rt at *
  exact IntWalk.wrap64_in _ (by omega)
/-- Shifted up and down again: the bits between. -/
theorem nat_between (X k l M : Nat) (hM : M = 2 ^ 32) (hk : k + l ≤ 31) : X * 2 ^ k % M / 2 ^ (k + l) = X / 2 ^ l % 2 ^ (32 - k - l) := by
  have e : M = 2 ^ (32 - k) * 2 ^ k := by
    rw [hM, ← Nat.pow_add]
    congr 1
    omega
  rw [e, Nat.mul_mod_mul_right, Nat.pow_add, ← Nat.div_div_eq_div_mul, Nat.mul_div_cancel _ (Nat.two_pow_pos k)]
  have e2 : 2 ^ (32 - k) = 2 ^ l * 2 ^ (32 - k - l) := by rw [← Nat.pow_add]; congr 1; omega
  rw [e2, Nat.mod_mul_right_div_self]
theorem int_between (x : Int) (k l M : Nat) (hx : 0 ≤ x) (hM : M = 2 ^ 32) (hk : k + l ≤ 31) : x * 2 ^ k % (M : Int) / 2 ^ (k + l) = x / 2 ^ l % 2 ^ (32 - k - l) := by
  obtain ⟨X, rfl⟩ := Int.eq_ofNat_of_zero_le hx
  exact_mod_cast nat_between X k l M hM hk
theorem bits_between (x : Int) (k l : Nat) (hx : 0 ≤ x) (hk : k + l ≤ 31) :
    x * 2 ^ k % 4294967296 / 2 ^ (k + l) = x / 2 ^ l % 2 ^ (32 - k - l) :=
  int_between x k l 4294967296 hx rfl hk
theorem bt_raw (w h l : Int) (h0 : 0 ≤ l) (h1 : l ≤ h) (h2 : h ≤ 31) : wd w * 2 ^ (31 - h).toNat % 4294967296 / 2 ^ ((31 - h).toNat + l.toNat) = bt w h l := by
  rw [bits_between _ _ _ (wd_lo w) (by omega)]
  unfold bt
  rw [if_neg (by omega)]
  congr 2
  omega
theorem bt_mask (w h l : Int) (h0 : 0 ≤ l) (h1 : l ≤ h) (h2 : h ≤ 31) : bits .and .i64 (wd w / 2 ^ l.toNat) (2 ^ (h - l + 1).toNat - 1) = bt w h l := by
  rw [i64_mask _ _ (by omega)]
  unfold bt
  rw [if_neg (by omega)]
theorem bt_no (w h l : Int) (hn : l < 0 ∨ h < l ∨ 31 < h) : bt w h l = 0 := by unfold bt; rw [if_pos hn]
theorem ext_cases (w : Int) (n : Nat) (h : 1 ≤ n) : ext w n = if 2 ^ (n - 1) ≤ w % 2 ^ n then w % 2 ^ n - 2 ^ n else w % 2 ^ n := by
  unfold ext
  have e : (2 : Int) ^ n = 2 * 2 ^ (n - 1) := by
    obtain ⟨m, rfl⟩ : ∃ m, n = m + 1 := ⟨n - 1, by omega⟩
    rw [Nat.add_sub_cancel, Int.pow_succ, Int.mul_comm]
  rw [e]
  generalize hP : (2 : Int) ^ (n - 1) = P
  have hp : 0 < P := by rw [← hP]; exact pow_pos' _
  have hd := Int.mul_ediv_add_emod w (2 * P)
  have r0 := Int.emod_nonneg w (by omega : 2 * P ≠ 0)
  have r1 := Int.emod_lt_of_pos w (by omega : 0 < 2 * P)
  generalize hr : w % (2 * P) = r at *
  have e3 : w + P = (r + P) + 2 * P * (w / (2 * P)) := by omega
  rw [e3, Int.add_mul_emod_self_left]
  split
  · have e4 : (r + P) = (r - P) + 2 * P * 1 := by omega
    rw [e4, Int.add_mul_emod_self_left, Int.emod_eq_of_lt (by omega) (by omega)]
    omega
  · rw [Int.emod_eq_of_lt (by omega) (by omega)]
    omega
theorem half_one (x : Int) (P : Int) (hP : 0 < P) (h0 : 0 ≤ x) (h1 : x < 2 * P) : (x / P == 1) = decide (P ≤ x) := by
  by_cases h : P ≤ x
  · have : x / P = 1 := by
      have e : x = (x - P) + P * 1 := by omega
      rw [e, Int.add_mul_ediv_left _ _ (by omega), Int.ediv_eq_zero_of_lt (by omega) (by omega)]
      rfl
    simp [this, h]
  · have : x / P = 0 := Int.ediv_eq_zero_of_lt (by omega) (by omega)
    simp [this, h]
/-- Shifted up as far as it goes and down again with the sign. -/
theorem ext_shift (w : Int) (n : Nat) (h1 : 1 ≤ n) (h2 : n ≤ 32) : sg (w * 2 ^ (32 - n)) / 2 ^ (32 - n) = ext w n := by
  unfold sg ext
  have e1 : (2147483648 : Int) = 2 ^ (n - 1) * 2 ^ (32 - n) := by
    rw [← Int.pow_add]; have : n - 1 + (32 - n) = 31 := by omega
    rw [this]; rfl
  have e2 : (4294967296 : Int) = 2 ^ n * 2 ^ (32 - n) := by
    rw [← Int.pow_add]; have : n + (32 - n) = 32 := by omega
    rw [this]; rfl
  rw [e1, e2, ← Int.add_mul, Int.mul_comm (_ + _) (2 ^ (32 - n)), Int.mul_comm (2 ^ n) (2 ^ (32 - n)), Int.mul_emod_mul_of_pos _ _ (pow_pos' _), Int.mul_comm _ (_ % _), ← Int.sub_mul, Int.mul_ediv_cancel _ (Int.ne_of_gt (pow_pos' _))]
theorem bt_bd (w h l : Int) : 0 ≤ bt w h l ∧ bt w h l ≤ 4294967295 := by
  unfold bt
  split
  · omega
  · rename_i hn
    have h1 := div_pow_le (wd w) l.toNat (wd_lo w)
    have h2 := wd_hi w
    have h3 := Int.emod_nonneg (wd w / 2 ^ l.toNat) (Int.ne_of_gt (pow_pos' (h - l + 1).toNat))
    have h4 := Int.emod_lt_of_pos (wd w / 2 ^ l.toNat) (pow_pos' (h - l + 1).toNat)
    have h5 : (2 : Int) ^ (h - l + 1).toNat ≤ 4294967296 := pow_le' (b := 32) (by omega)
    omega
theorem bt_raw' (w h l : Int) (h0 : 0 ≤ l) (h1 : l ≤ h) (h2 : h ≤ 31) : wrap64 (w % 4294967296 * 2 ^ (31 - h).toNat % 4294967296 / 2 ^ (31 - h + l).toNat) = bt w h l := by
  rw [show (31 - h + l).toNat = (31 - h).toNat + l.toNat from by omega]
  have e := bt_raw w h l h0 h1 h2
  unfold wd at e
  rw [e]
  have hb := bt_bd w h l
  exact IntWalk.wrap64_in _ (by omega)
theorem ex_no (w n : Int) (h : n < 1) : ex w n = 0 := by unfold ex; rw [if_pos h]
theorem ex_all (w n : Int) (h : 32 ≤ n) : ex w n = wd w := by
  unfold ex
  rw [if_neg (by omega), show (min n 32).toNat = 32 from by omega]
  show wd ((w + 2147483648) % 4294967296 - 2147483648) = wd w
  unfold wd; omega
theorem ex_in (w n : Int) (h : 1 ≤ n) (h' : n ≤ 32) : ex w n = wd (ext w n.toNat) := by
  unfold ex
  rw [if_neg (by omega), show (min n 32) = n from by omega]
theorem sg_mod (x : Int) : sg (x % 4294967296) = sg x := by unfold sg; omega
/-- As the code has it: shifted up as far as it goes, and down again. -/
theorem ex_raw (w n : Int) (h : 1 ≤ n) (h' : n ≤ 32) : wrap32 (w % 4294967296 * 2 ^ (32 - n).toNat % 4294967296) / 2 ^ (32 - n).toNat % 4294967296 = ex w n := by
  rw [w32, ex_in w n h h', ← ext_shift w n.toNat (by omega) (by omega), show (32 - n).toNat = 32 - n.toNat from by omega]
  have e : sg (w % 4294967296 * 2 ^ (32 - n.toNat)) = sg (w * 2 ^ (32 - n.toNat)) := by
    have d := Int.mul_ediv_add_emod w 4294967296
    have e2 : w * 2 ^ (32 - n.toNat) = w % 4294967296 * 2 ^ (32 - n.toNat) + 4294967296 * (w / 4294967296 * 2 ^ (32 - n.toNat)) := by
      rw [← Int.mul_assoc, ← Int.add_mul]
      congr 1
      omega
    rw [e2, ← sg_mod (_ + _), Int.add_mul_emod_self_left, sg_mod]
  rw [e]
  rfl
/-- As the document's answer has it. -/
theorem ex_two (w n : Int) (h : 1 ≤ n) (h' : n ≤ 32) : ex w n = wd (if 2 ^ (n.toNat - 1) ≤ w % 2 ^ n.toNat then w % 2 ^ n.toNat - 2 ^ n.toNat else w % 2 ^ n.toNat) := by
  rw [ex_in w n h h', ext_cases w _ (by omega)]

/-! ### Laws -/
theorem dv_rm (a b : Int) (h : ¬ wd b = 0) : wd (wd (dv a b * b) + rm a b) = wd a := by
  unfold dv rm
  rw [if_neg h, if_neg h]
  have d := Int.mul_ediv_add_emod (wd a) (wd b)
  have e : wd (wd a / wd b) = wd a / wd b := by
    have h1 := wd_lo a
    have h2 := wd_hi a
    have h3 := wd_lo b
    have hq := IntWalk.tdiv_le (wd a) (wd b) h1 (by omega)
    exact wd_eq _ hq.1 (by omega)
  rw [← wd_mul, e, Int.mul_comm (wd a / wd b)]
  have d2 : wd (wd (wd b * (wd a / wd b)) + wd a % wd b) = wd (wd b * (wd a / wd b) + wd a % wd b) := by
    generalize wd b * (wd a / wd b) = x
    generalize wd a % wd b = y
    unfold wd; omega
  rw [d2, d, wd_wd]
theorem rm_lt (a b : Int) (h : ¬ wd b = 0) : rm a b < wd b := by
  unfold rm
  rw [if_neg h]
  have := wd_lo b
  exact Int.emod_lt_of_pos _ (by omega)
theorem wd_addk (a k : Int) : wd (a + k * 4294967296) = wd a := by unfold wd; omega
theorem wd_congr_mul (a b c : Int) (h : wd a = wd c) : wd (a * b) = wd (c * b) := by rw [← wd_mul a b, h, wd_mul]
theorem wd_congr_add (a b c : Int) (h : wd a = wd c) : wd (a + b) = wd (c + b) := by unfold wd at *; omega
theorem sub_add (a b : Int) : wd (wd (a + b) - b) = wd a := by unfold wd; omega

/-! ### Shifts as products and quotients -/
theorem pl_in (n : Int) (h0 : 0 ≤ n) (h1 : n ≤ 31) : pl n = n.toNat := by unfold pl; omega
theorem pl_32 (n : Int) : pl (n + 32) = pl n := by unfold pl; omega
theorem lf_32 (a n : Int) : lf a (n + 32) = lf a n := by unfold lf; rw [pl_32]
theorem p31 (n : Int) (h1 : n ≤ 31) : (2 : Int) ^ n.toNat ≤ 2147483648 := pow_le' (b := 31) (by omega)
theorem lf_mul (a n : Int) (h0 : 0 ≤ n) (h1 : n ≤ 31) : wd (a * 2 ^ n.toNat) = lf a n := by
  unfold lf
  rw [pl_in n h0 h1]
  exact wd_congr_mul _ _ _ (wd_wd a).symm
theorem rt_div (a n : Int) (h0 : 0 ≤ n) (h1 : n ≤ 31) : dv a (2 ^ n.toNat) = rt a n := by
  have hp := p31 n h1
  have hp' := pow_pos' n.toNat
  unfold dv rt
  rw [pl_in n h0 h1, wd_eq (2 ^ n.toNat) (by omega) (by omega), if_neg (by omega)]
theorem div_pow_neg (x : Int) (k : Nat) (h : -2147483648 ≤ x) (h' : x ≤ 2147483647) : -2147483648 ≤ x / 2 ^ k ∧ x / 2 ^ k ≤ 2147483647 := by
  have hp := pow_pos' k
  constructor
  · rw [Int.le_ediv_iff_mul_le hp]
    have : (-2147483648 : Int) * 2 ^ k ≤ -2147483648 * 1 := Int.mul_le_mul_of_nonpos_left (by decide) (by omega)
    omega
  · have h2 : x / 2 ^ k < 2147483648 := by
      rw [Int.ediv_lt_iff_lt_mul hp]
      have : (2147483648 : Int) * 1 ≤ 2147483648 * 2 ^ k := Int.mul_le_mul_of_nonneg_left (by omega) (by decide)
      omega
    omega
theorem sg_in (x : Int) (h : -2147483648 ≤ x) (h' : x ≤ 2147483647) : sg x = x := by unfold sg; omega
theorem sg_ar (a n : Int) (h0 : 0 ≤ n) (h1 : n ≤ 31) : sg (ar a n) = sg a / 2 ^ n.toNat := by
  unfold ar
  rw [sg_wd, pl_in n h0 h1]
  have h := div_pow_neg (sg a) n.toNat (sg_lo a) (sg_hi a)
  exact sg_in _ h.1 h.2
theorem floor_neg (x p : Int) (hp : 0 < p) (h : x.tmod p < 0) : x.tdiv p - 1 = x / p := by
  rw [Int.tmod_eq_emod] at h
  have hm := Int.emod_nonneg x (by omega : p ≠ 0)
  rw [Int.tdiv_eq_ediv]
  by_cases c : 0 ≤ x ∨ p ∣ x
  · rw [if_pos c] at h; omega
  · rw [if_neg c, Int.sign_eq_one_of_pos hp]; omega
theorem floor_pos (x p : Int) (hp : 0 < p) (h : ¬ x.tmod p < 0) : x.tdiv p = x / p := by
  rw [Int.tmod_eq_emod] at h
  have hm := Int.emod_lt_of_pos x hp
  rw [Int.tdiv_eq_ediv]
  by_cases c : 0 ≤ x ∨ p ∣ x
  · rw [if_pos c]; omega
  · rw [if_neg c] at h; omega

/-! ### A word and its parts -/
theorem bt_high (a n : Int) (h0 : 1 ≤ n) (h1 : n ≤ 31) : bt a 31 n = wd a / 2 ^ n.toNat := by
  unfold bt
  rw [if_neg (by omega)]
  refine Int.emod_eq_of_lt (div_pow_le _ _ (wd_lo a)).1 ?_
  rw [Int.ediv_lt_iff_lt_mul (pow_pos' _), ← Int.pow_add, show (31 - n + 1).toNat + n.toNat = 32 from by omega]
  have := wd_hi a
  show wd a < 4294967296
  omega
theorem bt_low (a n : Int) (h0 : 1 ≤ n) (h1 : n ≤ 31) : bt a (n - 1) 0 = wd a % 2 ^ n.toNat := by
  unfold bt
  rw [if_neg (by omega)]
  show wd a / 1 % 2 ^ (n - 1 - 0 + 1).toNat = _
  rw [Int.ediv_one, show (n - 1 - 0 + 1) = n from by omega]
theorem wd_low (a : Int) (k : Nat) (h : k ≤ 32) : wd a % 2 ^ k = a % 2 ^ k := by
  unfold wd
  exact Int.emod_emod_of_dvd a ⟨2 ^ (32 - k), by rw [← Int.pow_add, show k + (32 - k) = 32 from by omega]; rfl⟩
theorem join_parts (a n : Int) (_ : 1 ≤ n) (h1 : n ≤ 31) : bits .or .i64 (wd a / 2 ^ n.toNat * 2 ^ n.toNat) (wd a % 2 ^ n.toNat) = wd a := by
  have d := Int.mul_ediv_add_emod (wd a) (2 ^ n.toNat)
  have hp := pow_pos' n.toNat
  have hm := Int.emod_nonneg (wd a) (Int.ne_of_gt hp)
  have hl := Int.emod_lt_of_pos (wd a) hp
  have hb := p31 n h1
  have w1 := wd_lo a
  have w2 := wd_hi a
  have hq := div_pow_le (wd a) n.toNat w1
  have hx : 0 ≤ wd a / 2 ^ n.toNat * 2 ^ n.toNat := Int.mul_nonneg hq.1 (Int.le_of_lt hp)
  rw [Int.mul_comm (2 ^ n.toNat)] at d
  rw [bits_join .i64 62 (by decide) (fun m m1 m2 => IntWalk.i64_in m (by omega)) n.toNat _ _ hx (Int.mul_emod_left _ _) (by omega) hm hl (by omega)]
  exact d
theorem ext_bd (a : Int) (k : Nat) (h : 1 ≤ k) : -(2 ^ (k - 1)) ≤ ext a k ∧ ext a k < 2 ^ (k - 1) := by
  have e : (2 : Int) ^ k = 2 * 2 ^ (k - 1) := by
    rw [show k = k - 1 + 1 from by omega, Nat.add_sub_cancel, Int.pow_succ, Int.mul_comm]
  unfold ext
  have h1 := Int.emod_nonneg (a + 2 ^ (k - 1)) (Int.ne_of_gt (pow_pos' k))
  have h2 := Int.emod_lt_of_pos (a + 2 ^ (k - 1)) (pow_pos' k)
  omega
theorem sg_ex (a n : Int) (h0 : 1 ≤ n) (h1 : n ≤ 31) : sg (ex a n) = ext a n.toNat := by
  rw [ex_in a n h0 (by omega), sg_wd]
  have h := ext_bd a n.toNat (by omega)
  have hp : (2 : Int) ^ (n.toNat - 1) ≤ 2147483648 := pow_le' (b := 31) (by omega)
  exact sg_in _ (by omega) (by omega)
theorem ext_mod (a n : Int) (h0 : 1 ≤ n) (h1 : n ≤ 31) : (ext a n.toNat - wd a % 2 ^ n.toNat).tmod (2 * 2 ^ (n - 1).toNat) = 0 := by
  have e : (2 : Int) * 2 ^ (n - 1).toNat = 2 ^ n.toNat := by
    rw [show n.toNat = (n - 1).toNat + 1 from by omega, Int.pow_succ, Int.mul_comm]
  rw [e, wd_low a _ (by omega), ext_cases a _ (by omega)]
  split
  · have : a % 2 ^ n.toNat - 2 ^ n.toNat - a % 2 ^ n.toNat = -(2 ^ n.toNat) := by omega
    rw [this, Int.neg_tmod, Int.tmod_self]
    rfl
  · rw [Int.sub_self, Int.zero_tmod]

/-! ### Orders -/
theorem xor_top (q r : Nat) (hq : q < 2) (hr : r < 2 ^ 31) : (2 ^ 31 * q + r) ^^^ 2 ^ 31 = 2 ^ 31 * (1 - q) + r := by
  apply Nat.eq_of_testBit_eq
  intro j
  rw [Nat.testBit_xor, Nat.testBit_two_pow_mul_add _ hr, Nat.testBit_two_pow_mul_add _ hr, Nat.testBit_two_pow]
  by_cases hj : j < 31
  · have hne : ¬ 31 = j := by omega
    simp [hj, hne]
  · simp only [hj, if_false]
    obtain ⟨k, rfl⟩ : ∃ k, j = 31 + k := ⟨j - 31, by omega⟩
    rw [Nat.add_sub_cancel_left]
    have hq2 : q = 0 ∨ q = 1 := by omega
    rcases hq2 with rfl | rfl
    · cases k <;> simp [Nat.testBit_succ]
    · cases k <;> simp [Nat.testBit_succ]
theorem wd_top (a : Int) : wd (bits .xor .i64 a 2147483648) = sg a + 2147483648 := by
  have e : bits .xor .i64 a 2147483648 = IntKind.i64.wrap (((a % ((2 ^ 64 : Nat) : Int)).toNat ^^^ 2 ^ 31 : Nat) : Int) := by
    show IntKind.i64.wrap ((BitVec.ofInt 64 a ^^^ BitVec.ofInt 64 2147483648).toNat : Int) = _
    rw [BitVec.toNat_xor, ofInt_toNat]
    rfl
  rw [e, IntWalk.i64_left, wd_wrap]
  generalize hX : (a % ((2 ^ 64 : Nat) : Int)).toNat = X
  have hXa : (X : Int) = a % 18446744073709551616 := by rw [← hX]; show ((a % 18446744073709551616).toNat : Int) = _; omega
  have m : (X ^^^ 2 ^ 31) % 2 ^ 32 = (X % 2 ^ 32) ^^^ 2 ^ 31 := by rw [Nat.xor_mod_two_pow]
  have x0 := xor_top (X % 2 ^ 32 / 2 ^ 31) (X % 2 ^ 32 % 2 ^ 31) (by omega) (by omega)
  rw [Nat.div_add_mod] at x0
  rw [x0] at m
  unfold wd
  have c : (((X ^^^ 2 ^ 31 : Nat) : Int)) % 4294967296 = (((X ^^^ 2 ^ 31) % 2 ^ 32 : Nat) : Int) := by omega
  rw [c, m]
  unfold sg
  omega
theorem sg_top (a : Int) : sg a + 2147483648 = if 2147483648 ≤ wd a then wd a - 2147483648 else wd a + 2147483648 := by
  unfold sg wd; split <;> omega
theorem sg_wd_eq (a b : Int) : sg a = sg b ↔ wd a = wd b := by unfold sg wd; omega

/-! ### The ring of words -/
theorem add_assoc' (a b c : Int) : wd (wd (a + b) + c) = wd (a + wd (b + c)) := by unfold wd; omega
theorem mul_assoc' (a b c : Int) : wd (wd (a * b) * c) = wd (a * wd (b * c)) := by
  rw [wd_congr_mul _ c _ (wd_wd (a * b)), Int.mul_comm a (wd _), wd_congr_mul _ a _ (wd_wd (b * c)), Int.mul_assoc, Int.mul_comm a]
theorem mul_over (a b c : Int) : wd (a * wd (b + c)) = wd (wd (a * b) + wd (a * c)) := by
  rw [wd_add, Int.mul_comm a (wd _), wd_congr_mul _ a _ (wd_wd (b + c)), Int.mul_comm _ a, Int.mul_add]
theorem sub_as (a b : Int) : wd (a - b) = wd (a + wd (-b)) := by unfold wd; omega
theorem parts_bd (a : Int) (k : Nat) : 0 ≤ wd a / 2 ^ k * 2 ^ k ∧ wd a / 2 ^ k * 2 ^ k ≤ 4294967295 := by
  have hp := pow_pos' k
  have hq := div_pow_le (wd a) k (wd_lo a)
  have w2 := wd_hi a
  have d := Int.mul_ediv_add_emod (wd a) (2 ^ k)
  have hm := Int.emod_nonneg (wd a) (Int.ne_of_gt hp)
  rw [Int.mul_comm (2 ^ k)] at d
  exact ⟨Int.mul_nonneg hq.1 (Int.le_of_lt hp), by omega⟩
end Go.Proofs.Ytlddclkophajbaa
