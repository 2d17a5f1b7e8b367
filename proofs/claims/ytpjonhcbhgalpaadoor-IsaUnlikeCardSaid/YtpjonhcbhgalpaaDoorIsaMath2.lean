
/-
  Plain: words of instructions put together by their bits (no program in sight).
-/
import Derived.Test.YtpjonhcbhgalpaaDoorIsaMath
namespace Go.Proofs.YtpjonhcbhgalpaaDoor
open Go.RowKit
theorem join32 (i : Nat) (x y : Int) (hx₀ : 0 ≤ x) (hx : x % 2 ^ i = 0) (hx₁ : x < 4294967296) (hy₀ : 0 ≤ y) (hy : y < 2 ^ i) (hy₁ : y < 4294967296) : bits .or .u32 x y = x + y :=
  bits_join .u32 32 (by decide) (fun n h1 h2 => IntWalk.u32_in n (by omega)) i x y hx₀ hx hx₁ hy₀ hy hy₁
theorem join64 (i : Nat) (x y : Int) (hx₀ : 0 ≤ x) (hx : x % 2 ^ i = 0) (hx₁ : x < 4294967296) (hy₀ : 0 ≤ y) (hy : y < 2 ^ i) (hy₁ : y < 4294967296) : bits .or .i64 x y = x + y :=
  bits_join .i64 32 (by decide) (fun n h1 h2 => IntWalk.i64_in n (by omega)) i x y hx₀ hx hx₁ hy₀ hy hy₁
/-- Where the number may lie below the registers. -/
def fits (b c y : Int) : Prop := 0 ≤ y ∧ (y < 4096 ∨ (c = 0 ∧ y < 65536) ∨ (b = 0 ∧ c = 0 ∧ y < 1048576))
theorem chain32 (op a b c y : Int) (o0 : 0 ≤ op) (o1 : op ≤ 70) (a0 : 0 ≤ a) (a1 : a ≤ 15) (b0 : 0 ≤ b) (b1 : b ≤ 15) (c0 : 0 ≤ c) (c1 : c ≤ 15) (h : fits b c y) :
    wrap64 (bits .or .u32 (bits .or .u32 (bits .or .u32 (bits .or .u32 (op * 16777216) (a * 1048576)) (b * 65536)) (c * 4096)) y) = op * 16777216 + a * 1048576 + b * 65536 + c * 4096 + y := by
  obtain ⟨y0, h⟩ := h
  rw [join32 24 (op * 16777216) (a * 1048576) (by omega) (by show _ % (16777216 : Int) = 0; omega) (by omega) (by omega) (by show _ < (16777216 : Int); omega) (by omega)]
  rw [join32 20 (op * 16777216 + a * 1048576) (b * 65536) (by omega) (by show _ % (1048576 : Int) = 0; omega) (by omega) (by omega) (by show _ < (1048576 : Int); omega) (by omega)]
  rw [join32 16 (op * 16777216 + a * 1048576 + b * 65536) (c * 4096) (by omega) (by show _ % (65536 : Int) = 0; omega) (by omega) (by omega) (by show _ < (65536 : Int); omega) (by omega)]
  have e : bits .or .u32 (op * 16777216 + a * 1048576 + b * 65536 + c * 4096) y = op * 16777216 + a * 1048576 + b * 65536 + c * 4096 + y := by
    rcases h with h | h | h
    · exact join32 12 _ y (by omega) (by show _ % (4096 : Int) = 0; omega) (by omega) y0 (by show _ < (4096 : Int); omega) (by omega)
    · exact join32 16 _ y (by omega) (by show _ % (65536 : Int) = 0; omega) (by omega) y0 (by show _ < (65536 : Int); omega) (by omega)
    · exact join32 20 _ y (by omega) (by show _ % (1048576 : Int) = 0; omega) (by omega) y0 (by show _ < (1048576 : Int); omega) (by omega)
  rw [e]
  unfold wrap64; omega
theorem chain64 (op a b c y : Int) (o0 : 0 ≤ op) (o1 : op ≤ 70) (a0 : 0 ≤ a) (a1 : a ≤ 15) (b0 : 0 ≤ b) (b1 : b ≤ 15) (c0 : 0 ≤ c) (c1 : c ≤ 15) (h : fits b c y) :
    bits .or .i64 (bits .or .i64 (bits .or .i64 (bits .or .i64 (op * 16777216) (a * 1048576)) (b * 65536)) (c * 4096)) y = op * 16777216 + a * 1048576 + b * 65536 + c * 4096 + y := by
  obtain ⟨y0, h⟩ := h
  rw [join64 24 (op * 16777216) (a * 1048576) (by omega) (by show _ % (16777216 : Int) = 0; omega) (by omega) (by omega) (by show _ < (16777216 : Int); omega) (by omega)]
  rw [join64 20 (op * 16777216 + a * 1048576) (b * 65536) (by omega) (by show _ % (1048576 : Int) = 0; omega) (by omega) (by omega) (by show _ < (1048576 : Int); omega) (by omega)]
  rw [join64 16 (op * 16777216 + a * 1048576 + b * 65536) (c * 4096) (by omega) (by show _ % (65536 : Int) = 0; omega) (by omega) (by omega) (by show _ < (65536 : Int); omega) (by omega)]
  rcases h with h | h | h
  · exact join64 12 _ y (by omega) (by show _ % (4096 : Int) = 0; omega) (by omega) y0 (by show _ < (4096 : Int); omega) (by omega)
  · exact join64 16 _ y (by omega) (by show _ % (65536 : Int) = 0; omega) (by omega) y0 (by show _ < (65536 : Int); omega) (by omega)
  · exact join64 20 _ y (by omega) (by show _ % (1048576 : Int) = 0; omega) (by omega) y0 (by show _ < (1048576 : Int); omega) (by omega)
theorem chain64v (A B C D y : Int) (hA : 0 ≤ A ∧ A % 16777216 = 0 ∧ A ≤ 1174405120) (hB : 0 ≤ B ∧ B % 1048576 = 0 ∧ B ≤ 15728640) (hC : 0 ≤ C ∧ C % 65536 = 0 ∧ C ≤ 983040) (hD : 0 ≤ D ∧ D % 4096 = 0 ∧ D ≤ 61440) (h : fits C D y) :
    bits .or .i64 (bits .or .i64 (bits .or .i64 (bits .or .i64 A B) C) D) y = A + B + C + D + y := by
  obtain ⟨y0, h⟩ := h
  rw [join64 24 A B (by omega) (by show _ % (16777216 : Int) = 0; omega) (by omega) (by omega) (by show _ < (16777216 : Int); omega) (by omega)]
  rw [join64 20 (A + B) C (by omega) (by show _ % (1048576 : Int) = 0; omega) (by omega) (by omega) (by show _ < (1048576 : Int); omega) (by omega)]
  rw [join64 16 (A + B + C) D (by omega) (by show _ % (65536 : Int) = 0; omega) (by omega) (by omega) (by show _ < (65536 : Int); omega) (by omega)]
  rcases h with h | h | h
  · exact join64 12 _ y (by omega) (by show _ % (4096 : Int) = 0; omega) (by omega) y0 (by show _ < (4096 : Int); omega) (by omega)
  · exact join64 16 _ y (by omega) (by show _ % (65536 : Int) = 0; omega) (by omega) y0 (by show _ < (65536 : Int); omega) (by omega)
  · exact join64 20 _ y (by omega) (by show _ % (1048576 : Int) = 0; omega) (by omega) y0 (by show _ < (1048576 : Int); omega) (by omega)
theorem mask32 (i : Nat) (hi : i ≤ 32) (m : Int) : bits .and .u32 (m % 4294967296) (2 ^ i - 1) = m % 2 ^ i := by
  rw [bits_mask .u32 32 (by decide) (fun n h1 h2 => IntWalk.u32_in n (by omega)) i hi _ (by omega) (by omega)]
  have e : (4294967296 : Int) = 2 ^ i * 2 ^ (32 - i) := by rw [← Int.pow_add, show i + (32 - i) = 32 from by omega]; rfl
  rw [e]
  exact Int.emod_emod_of_dvd m ⟨2 ^ (32 - i), rfl⟩
theorem mask32_0 (m : Int) : bits .and .u32 (m % 4294967296) 0 = m % 2 ^ 0 := mask32 0 (by decide) m
theorem mask32_16 (m : Int) : bits .and .u32 (m % 4294967296) 65535 = m % 2 ^ 16 := mask32 16 (by decide) m
theorem mask32_20 (m : Int) : bits .and .u32 (m % 4294967296) 1048575 = m % 2 ^ 20 := mask32 20 (by decide) m
theorem mask64_16 (m : Int) : bits .and .i64 m 65535 = m % 65536 := i64_mask m 16 (by decide)
theorem mask64_20 (m : Int) : bits .and .i64 m 1048575 = m % 1048576 := i64_mask m 20 (by decide)
theorem fB_16 (f : Int) (h : fB f = 16) : fR f ≤ 2 := by unfold fB at h; unfold fR; (repeat' split at h) <;> (repeat' split) <;> omega
theorem fB_20 (f : Int) (h : fB f = 20) : fR f ≤ 1 := by unfold fB at h; unfold fR; (repeat' split at h) <;> (repeat' split) <;> omega
theorem fB_bd (f : Int) : 0 ≤ fB f ∧ fB f ≤ 20 := by have := fB_cases f; omega
end Go.Proofs.YtpjonhcbhgalpaaDoor
