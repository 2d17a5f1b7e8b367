
/-
  Plain: the bits of an entry and of the table's register (no program in sight).
-/
import Derived.Test.YtfodhmgbifeodaaCsrMath
import Derived.Test.YtfodhmgbifeodaaWalkMath
namespace Go.Proofs.Ytfodhmgbifeodaa
open Go.RowKit
theorem and_low5 (s k : Int) (h0 : 0 ≤ k) (h1 : k ≤ 31) : bits .and .i64 s k = bits .and .i64 (s % 32) k := by
  have e := i64_mask s 5 (by decide)
  rw [show (s % 32 : Int) = s % 2 ^ 5 from rfl, ← e, bits_and, bits_and, bits_and, bv_toInt]
  congr 1
  have hk := i64_mask k 5 (by decide)
  rw [show (k : Int) % 2 ^ 5 = k from by show k % 32 = k; omega, bits_and] at hk
  have hk' : bv k &&& bv (2 ^ 5 - 1) = bv k := by rw [← bv_toInt (bv k &&& _), hk]
  rw [BitVec.and_assoc, BitVec.and_comm (bv (2 ^ 5 - 1)), hk']
theorem low_cases5 (s : Int) (P : Int → Prop) (h : ∀ r : Fin 32, P (r.val : Int)) : P (s % 32) := by
  have h0 := Int.emod_nonneg s (by decide : (32 : Int) ≠ 0)
  have h1 := Int.emod_lt_of_pos s (by decide : (0 : Int) < 32)
  have e := h ⟨(s % 32).toNat, by omega⟩
  simp only at e
  rwa [Int.toNat_of_nonneg h0] at e
theorem and16 (s : Int) : bits .and .i64 s 16 = s / 16 % 2 * 16 := by
  rw [and_low5 s 16 (by decide) (by decide), show s / 16 % 2 = s % 32 / 16 % 2 from by omega]
  exact low_cases5 s (fun t => bits .and .i64 t 16 = t / 16 % 2 * 16) (by decide +kernel)
theorem and30 (s : Int) : bits .and .i64 s 30 = s / 2 % 16 * 2 := by
  rw [and_low5 s 30 (by decide) (by decide), show s / 2 % 16 = s % 32 / 2 % 16 from by omega]
  exact low_cases5 s (fun t => bits .and .i64 t 30 = t / 2 % 16 * 2) (by decide +kernel)
theorem and31 (s : Int) : bits .and .i64 s 31 = s % 32 := i64_mask s 5 (by decide)
theorem and_two (n i : Nat) : n &&& 2 ^ i = if n.testBit i then 2 ^ i else 0 := by
  apply Nat.eq_of_testBit_eq
  intro j
  rw [Nat.testBit_and, Nat.testBit_two_pow]
  by_cases h : i = j
  · subst h
    cases hb : n.testBit i <;> simp
  · cases hb : n.testBit i <;> simp [h]
theorem and_top (x : Int) : bits .and .i64 x 2147483648 = x / 2147483648 % 2 * 2147483648 := by
  have e : (BitVec.ofInt 64 (2147483648 : Int)).toNat = 2 ^ 31 := by decide
  show IntKind.i64.wrap ((BitVec.ofInt 64 x &&& BitVec.ofInt 64 (2147483648 : Int)).toNat : Int) = _
  rw [BitVec.toNat_and, e, and_two, ofInt_toNat]
  have hm : (0 : Int) ≤ x % (2 ^ 64 : Nat) := Int.emod_nonneg _ (by decide)
  obtain ⟨n, hn⟩ : ∃ n : Nat, x % (2 ^ 64 : Nat) = n := ⟨(x % (2 ^ 64 : Nat)).toNat, (Int.toNat_of_nonneg hm).symm⟩
  rw [hn, Int.toNat_natCast]
  have h2 : x / 2147483648 % 2 = ((n / 2147483648 % 2 : Nat) : Int) := by
    have h64 : ((2 ^ 64 : Nat) : Int) = 18446744073709551616 := by decide
    rw [h64] at hn
    omega
  rw [h2, Nat.testBit_eq_decide_div_mod_eq, show (2 : Nat) ^ 31 = 2147483648 from rfl]
  by_cases hb : n / 2147483648 % 2 = 1
  · rw [hb]; decide +kernel
  · have h0 : n / 2147483648 % 2 = 0 := by omega
    rw [h0]; decide +kernel
theorem join12 (x y : Int) (x0 : 0 ≤ x) (x1 : x ≤ 1048575) (y0 : 0 ≤ y) (y1 : y ≤ 4095) : bits .or .i64 (x * 4096) y = x * 4096 + y :=
  bits_join .i64 32 (by decide) (fun n h1 h2 => IntWalk.i64_in n (by omega)) 12 (x * 4096) y (by omega) (by omega) (by omega) y0 (by omega) (by omega)
theorem join31 (y : Int) (y0 : 0 ≤ y) (y1 : y ≤ 2147483647) : bits .or .i64 2147483648 y = 2147483648 + y :=
  bits_join .i64 32 (by decide) (fun n h1 h2 => IntWalk.i64_in n (by omega)) 31 2147483648 y (by omega) (by omega) (by omega) y0 (by omega) (by omega)
theorem and20 (x : Int) : bits .and .i64 x 1048575 = x % 1048576 := i64_mask x 20 (by decide)
theorem and10b (x : Int) : bits .and .i64 x 1023 = x % 1024 := i64_mask x 10 (by decide)
theorem and12 (x : Int) : bits .and .i64 x 4095 = x % 4096 := i64_mask x 12 (by decide)
theorem and3 (x : Int) : bits .and .i64 x 3 = x % 4 := i64_mask x 2 (by decide)
/-- The tests of an entry, as the code may ask them. -/
theorem bad1_iff (p : Int) : bad1 p ↔ (bits .and .i64 p 1 = 0 ∨ ¬ bits .and .i64 p 30 = 0) := by
  rw [and1, and30]; unfold bad1; omega
theorem bad1_iff' (p : Int) : bad1 p ↔ ¬ bits .and .i64 p 31 = 1 := by
  rw [and31]; unfold bad1; omega
theorem kb_and (e kind : Int) : bits .and .i64 e (kb kind) = 0 ↔ e / kb kind % 2 = 0 := by
  unfold kb
  split
  · rw [and8]; omega
  · split
    · rw [and2]; omega
    · rw [and4]; omega
end Go.Proofs.Ytfodhmgbifeodaa
