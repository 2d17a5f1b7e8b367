
/-
  Plain arithmetic of chapter 3: masks, what a write makes of a register, what a trap and the way back make of the status.
-/
import Derived.Test.YthiaibpalnlbiaaRows
import Derived.WalkKit
import Derived.ProofKit
import Derived.Test.YthiaibpalnlbiaaMath
set_option maxRecDepth 100000
namespace Go.Proofs.Ythiaibpalnlbiaa
open Go.ChangeShapes Go.WideShapes Go.ChangeAt Go.RowKit

/-- The bits of the n-th register that a write changes. -/
def mk (n : Int) : Int := if n = 0 then 11 else if n = 1 ∨ n = 2 then 4294967292 else if n = 3 ∨ n = 4 ∨ n = 5 ∨ n = 8 then 4294967295 else if n = 6 then 2148532223 else if n = 10 then 7 else 0
/-- What a write under the mask m makes of old. -/
def wr (m old v : Int) : Int := wd (bits .or .i64 (bits .andNot .i64 old m) (bits .and .i64 v m))
def en (s : Int) : Int := s % 2 * 2 + s / 4 % 2 * 8 + 4
def le (s : Int) : Int := s / 2 % 2 + s / 8 % 2 * 4 + 2
theorem mk_lo (n : Int) : 0 ≤ mk n := by unfold mk; (repeat' split) <;> omega
theorem mk_hi (n : Int) : mk n ≤ 4294967295 := by unfold mk; (repeat' split) <;> omega
theorem mk_wd (n : Int) : wd (mk n) = mk n := wd_eq _ (mk_lo n) (mk_hi n)

/-! ### Words as rows of bits -/
abbrev bv (x : Int) : BitVec 64 := BitVec.ofInt 64 x
theorem wrap_toNat (r : BitVec 64) : IntKind.i64.wrap (r.toNat : Int) = r.toInt := by
  have h := r.isLt
  rw [BitVec.toInt_eq_toNat_cond]
  rw [IntWalk.i64_left]
  unfold wrap64
  split <;> omega
theorem bits_and (x y : Int) : bits .and .i64 x y = (bv x &&& bv y).toInt := by
  show IntKind.i64.wrap ((bv x &&& bv y).toNat : Int) = _
  exact wrap_toNat _
theorem bits_or (x y : Int) : bits .or .i64 x y = (bv x ||| bv y).toInt := by
  show IntKind.i64.wrap ((bv x ||| bv y).toNat : Int) = _
  exact wrap_toNat _
theorem bits_no (x y : Int) : bits .andNot .i64 x y = (bv x &&& ~~~ bv y).toInt := by
  show IntKind.i64.wrap ((bv x &&& ~~~ bv y).toNat : Int) = _
  exact wrap_toNat _
theorem bv_toInt (r : BitVec 64) : bv r.toInt = r := BitVec.ofInt_toInt
abbrev C32 : BitVec 64 := bv 4294967295
theorem wd_bv (x : Int) : wd x = (bv x &&& C32).toInt := by rw [← i64_word, bits_and]
theorem bv_word (m : Int) (h : wd m = m) : bv m &&& C32 = bv m := by
  have e := wd_bv m
  rw [h] at e
  rw [← bv_toInt (bv m &&& C32), ← e]
theorem bit_word (m : Int) (h : wd m = m) (i : Nat) : (bv m).getLsbD i = true → C32.getLsbD i = true := by
  intro hm
  have e := bv_word m h
  have e2 : (bv m &&& C32).getLsbD i = (bv m).getLsbD i := by rw [e]
  rw [BitVec.getLsbD_and, hm] at e2
  simpa using e2
theorem wr_bv (m old v : Int) : wr m old v = (((bv old &&& ~~~ bv m) ||| (bv v &&& bv m)) &&& C32).toInt := by
  unfold wr
  rw [bits_no, bits_and, bits_or, bv_toInt, bv_toInt, wd_bv, bv_toInt]
/-- The same write, the other way round. -/
theorem wr_ref (m old v : Int) (h : wd m = m) : bits .or .i64 (bits .andNot .i64 (wd old) m) (bits .and .i64 v m) = wr m old v := by
  rw [wr_bv, bits_no, bits_and, bits_or, bv_toInt, bv_toInt, wd_bv, bv_toInt]
  congr 1
  apply BitVec.eq_of_getLsbD_eq
  intro i hi
  have b := bit_word m h i
  simp only [BitVec.getLsbD_and, BitVec.getLsbD_or, BitVec.getLsbD_not, hi, decide_true, Bool.true_and]
  cases hm : (bv m).getLsbD i <;> cases ho : (bv old).getLsbD i <;> cases hv : (bv v).getLsbD i <;> cases hc : C32.getLsbD i <;> simp_all
theorem wr_keep (m old v : Int) : bits .andNot .i64 (wr m old v) m = bits .andNot .i64 (wd old) m := by
  rw [wr_bv, bits_no, bits_no, bv_toInt, wd_bv, bv_toInt]
  congr 1
  apply BitVec.eq_of_getLsbD_eq
  intro i hi
  simp only [BitVec.getLsbD_and, BitVec.getLsbD_or, BitVec.getLsbD_not, hi, decide_true, Bool.true_and]
  cases hm : (bv m).getLsbD i <;> cases ho : (bv old).getLsbD i <;> cases hv : (bv v).getLsbD i <;> cases hc : C32.getLsbD i <;> simp_all
theorem wr_take (m old v : Int) (h : wd m = m) : bits .and .i64 (wr m old v) m = bits .and .i64 v m := by
  rw [wr_bv, bits_and, bits_and, bv_toInt]
  congr 1
  apply BitVec.eq_of_getLsbD_eq
  intro i hi
  have b := bit_word m h i
  simp only [BitVec.getLsbD_and, BitVec.getLsbD_or, BitVec.getLsbD_not, hi, decide_true, Bool.true_and]
  cases hm : (bv m).getLsbD i <;> cases ho : (bv old).getLsbD i <;> cases hv : (bv v).getLsbD i <;> cases hc : C32.getLsbD i <;> simp_all
theorem wr_twice (m old v : Int) : wr m (wr m old v) v = wr m old v := by
  rw [wr_bv m (wr m old v) v, wr_bv, bv_toInt]
  congr 1
  apply BitVec.eq_of_getLsbD_eq
  intro i hi
  simp only [BitVec.getLsbD_and, BitVec.getLsbD_or, BitVec.getLsbD_not, hi, decide_true, Bool.true_and]
  cases hm : (bv m).getLsbD i <;> cases ho : (bv old).getLsbD i <;> cases hv : (bv v).getLsbD i <;> cases hc : C32.getLsbD i <;> simp_all
theorem wr_lo (m old v : Int) : 0 ≤ wr m old v := wd_lo _
theorem wr_hi (m old v : Int) : wr m old v ≤ 4294967295 := wd_hi _
theorem wr_none (old v : Int) : wr 0 old v = wd old := by
  rw [wr_bv, wd_bv]
  congr 1
  apply BitVec.eq_of_getLsbD_eq
  intro i hi
  have z : (bv 0).getLsbD i = false := by show (0#64).getLsbD i = false; simp
  simp only [BitVec.getLsbD_and, BitVec.getLsbD_or, BitVec.getLsbD_not, hi, decide_true, Bool.true_and, z]
  simp
theorem wr_zero (m v : Int) (h : wd m = m) : wr m 0 v = bits .and .i64 v m := by
  rw [wr_bv, bits_and]
  congr 1
  apply BitVec.eq_of_getLsbD_eq
  intro i hi
  have b := bit_word m h i
  have z : (bv 0).getLsbD i = false := by show (0#64).getLsbD i = false; simp
  simp only [BitVec.getLsbD_and, BitVec.getLsbD_or, BitVec.getLsbD_not, hi, decide_true, Bool.true_and, z]
  cases hm : (bv m).getLsbD i <;> cases hv : (bv v).getLsbD i <;> cases hc : C32.getLsbD i <;> simp_all
/-- A row that no write of the mask touches. -/
theorem wr_apart (m k old v : Int) (h : bv k &&& bv m = 0#64) (hk : wd k = k) : bits .and .i64 (wr m old v) k = bits .and .i64 old k := by
  rw [wr_bv, bits_and, bits_and, bv_toInt]
  congr 1
  apply BitVec.eq_of_getLsbD_eq
  intro i hi
  have b := bit_word k hk i
  have a : (bv k &&& bv m).getLsbD i = (0#64).getLsbD i := by rw [h]
  simp only [BitVec.getLsbD_and, BitVec.getLsbD_zero] at a
  simp only [BitVec.getLsbD_and, BitVec.getLsbD_or, BitVec.getLsbD_not, hi, decide_true, Bool.true_and]
  cases hm : (bv m).getLsbD i <;> cases ho : (bv old).getLsbD i <;> cases hv : (bv v).getLsbD i <;> cases hc : C32.getLsbD i <;> cases hk : (bv k).getLsbD i <;> simp_all

theorem four_of (v : Int) : (bits .and .i64 v 4294967292).tmod 4 = 0 := by
  have h0 : bits .and .i64 v 4294967292 = wr 4294967292 0 v := (wr_zero 4294967292 v (by decide)).symm
  have l := wr_lo 4294967292 0 v
  rw [← h0] at l
  have m := i64_mask (bits .and .i64 v 4294967292) 2 (by decide)
  have z : bits .and .i64 (bits .and .i64 v 4294967292) (2 ^ 2 - 1) = 0 := by
    rw [bits_and v, bits_and, bv_toInt, BitVec.and_assoc, show bv 4294967292 &&& bv (2 ^ 2 - 1) = 0#64 from by decide +kernel, BitVec.and_zero]
    rfl
  rw [z] at m
  rw [Int.tmod_eq_emod_of_nonneg l]
  exact m.symm

/-! ### Single bits -/
theorem and_low (s k : Int) (h0 : 0 ≤ k) (h1 : k ≤ 15) : bits .and .i64 s k = bits .and .i64 (s % 16) k := by
  have e := i64_mask s 4 (by decide)
  rw [show (s % 16 : Int) = s % 2 ^ 4 from rfl, ← e, bits_and, bits_and, bits_and, bv_toInt]
  congr 1
  have hk := i64_mask k 4 (by decide)
  rw [show (k : Int) % 2 ^ 4 = k from by show k % 16 = k; omega, bits_and] at hk
  have hk' : bv k &&& bv (2 ^ 4 - 1) = bv k := by rw [← bv_toInt (bv k &&& _), hk]
  rw [BitVec.and_assoc, BitVec.and_comm (bv (2 ^ 4 - 1)), hk']
theorem low_cases (s : Int) (P : Int → Prop) (h : ∀ r : Fin 16, P (r.val : Int)) : P (s % 16) := by
  have h0 := Int.emod_nonneg s (by decide : (16 : Int) ≠ 0)
  have h1 := Int.emod_lt_of_pos s (by decide : (0 : Int) < 16)
  have e := h ⟨(s % 16).toNat, by omega⟩
  simp only at e
  rwa [Int.toNat_of_nonneg h0] at e
theorem and5 (s : Int) : bits .and .i64 s 5 = s % 2 + s / 4 % 2 * 4 := by
  rw [and_low s 5 (by decide) (by decide), show s % 2 = s % 16 % 2 from by omega, show s / 4 % 2 = s % 16 / 4 % 2 from by omega]
  exact low_cases s (fun t => bits .and .i64 t 5 = t % 2 + t / 4 % 2 * 4) (by decide +kernel)
theorem and10 (s : Int) : bits .and .i64 s 10 = s / 2 % 2 * 2 + s / 8 % 2 * 8 := by
  rw [and_low s 10 (by decide) (by decide), show s / 2 % 2 = s % 16 / 2 % 2 from by omega, show s / 8 % 2 = s % 16 / 8 % 2 from by omega]
  exact low_cases s (fun t => bits .and .i64 t 10 = t / 2 % 2 * 2 + t / 8 % 2 * 8) (by decide +kernel)
theorem and1 (s : Int) : bits .and .i64 s 1 = s % 2 := by
  rw [and_low s 1 (by decide) (by decide), show s % 2 = s % 16 % 2 from by omega]
  exact low_cases s (fun t => bits .and .i64 t 1 = t % 2) (by decide +kernel)
theorem and2 (s : Int) : bits .and .i64 s 2 = s / 2 % 2 * 2 := by
  rw [and_low s 2 (by decide) (by decide), show s / 2 % 2 = s % 16 / 2 % 2 from by omega]
  exact low_cases s (fun t => bits .and .i64 t 2 = t / 2 % 2 * 2) (by decide +kernel)
theorem and4 (s : Int) : bits .and .i64 s 4 = s / 4 % 2 * 4 := by
  rw [and_low s 4 (by decide) (by decide), show s / 4 % 2 = s % 16 / 4 % 2 from by omega]
  exact low_cases s (fun t => bits .and .i64 t 4 = t / 4 % 2 * 4) (by decide +kernel)
theorem and8 (s : Int) : bits .and .i64 s 8 = s / 8 % 2 * 8 := by
  rw [and_low s 8 (by decide) (by decide), show s / 8 % 2 = s % 16 / 8 % 2 from by omega]
  exact low_cases s (fun t => bits .and .i64 t 8 = t / 8 % 2 * 8) (by decide +kernel)
theorem or_en (a b : Int) (ha : a = 0 ∨ a = 1) (hb : b = 0 ∨ b = 1) : bits .or .i64 ((a + b * 4) * 2) 4 = a * 2 + b * 8 + 4 := by
  rcases ha with rfl | rfl <;> rcases hb with rfl | rfl <;> decide +kernel
theorem or_le (a b : Int) (ha : a = 0 ∨ a = 1) (hb : b = 0 ∨ b = 1) : bits .or .i64 ((a * 2 + b * 8) / 2) 2 = a + b * 4 + 2 := by
  rcases ha with rfl | rfl <;> rcases hb with rfl | rfl <;> decide +kernel
theorem two_of (x : Int) : x % 2 = 0 ∨ x % 2 = 1 := by omega
theorem en_bd (s : Int) : 4 ≤ en s ∧ en s ≤ 14 := by unfold en; omega
theorem le_bd (s : Int) : 2 ≤ le s ∧ le s ≤ 7 := by unfold le; omega
theorem en_one (s : Int) : en s % 2 = 0 := by unfold en; omega
theorem en_s (s : Int) : en s / 4 % 2 = 1 := by unfold en; omega
theorem back_one (s : Int) : le (en s) % 2 = s % 2 := by unfold le en; omega
theorem back_s (s : Int) : le (en s) / 4 % 2 = s / 4 % 2 := by unfold le en; omega
end Go.Proofs.Ythiaibpalnlbiaa
