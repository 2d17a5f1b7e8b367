/-
  Plain: the table of operations, forms, words of instructions and their texts (no program in sight). | Plain: words of instructions put together by their bits (no program in sight). | Plain: what Decode tells (no program in sight).
-/
import Derived.Test.YtfcmodllbhpniaaGreatDoorJnNum
import Derived.WalkKit
set_option linter.unusedVariables false
set_option maxRecDepth 100000
namespace Go.Proofs.YtfcmodllbhpniaaGreatDoor
open Go.RowKit

/-- The table: name and form of each operation from 0 to 70. Forms: 1 R, 2 I, 3 U, 4 H, 5 L, 6 J, 7 C, 8 N; 0 none. -/
def opTab : List (ByteArray × Int) :=
 [(⟨#[]⟩, 0),
  (⟨#[97, 100, 100]⟩, 1),
  (⟨#[115, 117, 98]⟩, 1),
  (⟨#[97, 110, 100]⟩, 1),
  (⟨#[111, 114]⟩, 1),
  (⟨#[120, 111, 114]⟩, 1),
  (⟨#[115, 108, 108]⟩, 1),
  (⟨#[115, 114, 108]⟩, 1),
  (⟨#[115, 114, 97]⟩, 1),
  (⟨#[109, 117, 108]⟩, 1),
  (⟨#[115, 108, 116]⟩, 1),
  (⟨#[115, 108, 116, 117]⟩, 1),
  (⟨#[100, 105, 118, 117]⟩, 1),
  (⟨#[114, 101, 109, 117]⟩, 1),
  (⟨#[]⟩, 0),
  (⟨#[]⟩, 0),
  (⟨#[97, 100, 100, 105]⟩, 2),
  (⟨#[97, 110, 100, 105]⟩, 3),
  (⟨#[111, 114, 105]⟩, 3),
  (⟨#[120, 111, 114, 105]⟩, 3),
  (⟨#[115, 108, 108, 105]⟩, 4),
  (⟨#[115, 114, 108, 105]⟩, 4),
  (⟨#[115, 114, 97, 105]⟩, 4),
  (⟨#[108, 117, 105]⟩, 5),
  (⟨#[115, 108, 116, 105]⟩, 2),
  (⟨#[]⟩, 0),
  (⟨#[]⟩, 0),
  (⟨#[]⟩, 0),
  (⟨#[]⟩, 0),
  (⟨#[]⟩, 0),
  (⟨#[]⟩, 0),
  (⟨#[]⟩, 0),
  (⟨#[108, 119]⟩, 2),
  (⟨#[108, 104]⟩, 2),
  (⟨#[108, 104, 117]⟩, 2),
  (⟨#[108, 98]⟩, 2),
  (⟨#[108, 98, 117]⟩, 2),
  (⟨#[]⟩, 0),
  (⟨#[]⟩, 0),
  (⟨#[]⟩, 0),
  (⟨#[115, 119]⟩, 2),
  (⟨#[115, 104]⟩, 2),
  (⟨#[115, 98]⟩, 2),
  (⟨#[]⟩, 0),
  (⟨#[]⟩, 0),
  (⟨#[]⟩, 0),
  (⟨#[]⟩, 0),
  (⟨#[]⟩, 0),
  (⟨#[98, 101, 113]⟩, 2),
  (⟨#[98, 110, 101]⟩, 2),
  (⟨#[98, 108, 116]⟩, 2),
  (⟨#[98, 103, 101]⟩, 2),
  (⟨#[98, 108, 116, 117]⟩, 2),
  (⟨#[98, 103, 101, 117]⟩, 2),
  (⟨#[]⟩, 0),
  (⟨#[]⟩, 0),
  (⟨#[106, 97, 108]⟩, 6),
  (⟨#[106, 97, 108, 114]⟩, 2),
  (⟨#[]⟩, 0),
  (⟨#[]⟩, 0),
  (⟨#[]⟩, 0),
  (⟨#[]⟩, 0),
  (⟨#[]⟩, 0),
  (⟨#[]⟩, 0),
  (⟨#[101, 99, 97, 108, 108]⟩, 8),
  (⟨#[115, 114, 101, 116]⟩, 8),
  (⟨#[119, 102, 105]⟩, 8),
  (⟨#[]⟩, 0),
  (⟨#[99, 115, 114, 114]⟩, 7),
  (⟨#[99, 115, 114, 119]⟩, 7),
  (⟨#[98, 114, 107]⟩, 8)]
def opN (op : Int) : ByteArray := if op < 0 then ⟨#[]⟩ else (opTab.getD op.toNat (⟨#[]⟩, 0)).1
def opF (op : Int) : Int := if op < 0 then 0 else (opTab.getD op.toNat (⟨#[]⟩, 0)).2
/-- How many registers a form has. -/
def fR (f : Int) : Int := if f = 1 then 3 else if f = 2 then 2 else if f = 3 then 2 else if f = 4 then 2 else if f = 5 then 1 else if f = 6 then 1 else if f = 7 then 1 else 0
/-- How many bits its number has. -/
def fB (f : Int) : Int := if f = 2 then 16 else if f = 3 then 16 else if f = 4 then 16 else if f = 5 then 16 else if f = 6 then 20 else if f = 7 then 16 else 0
def fL (f : Int) : Int := if f = 2 then -32768 else if f = 6 then -524288 else 0
def fH (f : Int) : Int := if f = 2 then 32767 else if f = 3 then 65535 else if f = 4 then 31 else if f = 5 then 65535 else if f = 6 then 524287 else if f = 7 then 10 else 0

/-- The form's letter. -/
def fC (f : Int) : Int := if f = 1 then 82 else if f = 2 then 73 else if f = 3 then 85 else if f = 4 then 72 else if f = 5 then 76 else if f = 6 then 74 else if f = 7 then 67 else if f = 8 then 78 else 0
/-- Is a register none, or not 0 where the form has none? -/
def badQ (r a b c : Int) : Prop := a < 0 ∨ 15 < a ∨ b < 0 ∨ 15 < b ∨ c < 0 ∨ 15 < c ∨ (r ≤ 0 ∧ a ≠ 0) ∨ (r ≤ 1 ∧ b ≠ 0) ∨ (r ≤ 2 ∧ c ≠ 0)
instance (r a b c : Int) : Decidable (badQ r a b c) := by unfold badQ; infer_instance
/-- All registers are as the form has them. -/
def tkB (r a b c : Int) : Bool := !decide (badQ r a b c)
/-- Which error Encode tells. -/
def encE (op a b c m : Int) : Int := if opF op = 0 then 5 else if badQ (fR (opF op)) a b c then 1 else if m < fL (opF op) ∨ fH (opF op) < m then 6 else 0
/-- The word. -/
def encW (op a b c m : Int) : Int := if encE op a b c m = 0 then op * 16777216 + a * 1048576 + b * 65536 + c * 4096 + m % 2 ^ (fB (opF op)).toNat else 0
theorem op_cases (op : Int) (h0 : 0 ≤ op) (h1 : op ≤ 70) : op = 0 ∨ op = 1 ∨ op = 2 ∨ op = 3 ∨ op = 4 ∨ op = 5 ∨ op = 6 ∨ op = 7 ∨ op = 8 ∨ op = 9 ∨ op = 10 ∨ op = 11 ∨ op = 12 ∨ op = 13 ∨ op = 14 ∨ op = 15 ∨ op = 16 ∨ op = 17 ∨ op = 18 ∨ op = 19 ∨ op = 20 ∨ op = 21 ∨ op = 22 ∨ op = 23 ∨ op = 24 ∨ op = 25 ∨ op = 26 ∨ op = 27 ∨ op = 28 ∨ op = 29 ∨ op = 30 ∨ op = 31 ∨ op = 32 ∨ op = 33 ∨ op = 34 ∨ op = 35 ∨ op = 36 ∨ op = 37 ∨ op = 38 ∨ op = 39 ∨ op = 40 ∨ op = 41 ∨ op = 42 ∨ op = 43 ∨ op = 44 ∨ op = 45 ∨ op = 46 ∨ op = 47 ∨ op = 48 ∨ op = 49 ∨ op = 50 ∨ op = 51 ∨ op = 52 ∨ op = 53 ∨ op = 54 ∨ op = 55 ∨ op = 56 ∨ op = 57 ∨ op = 58 ∨ op = 59 ∨ op = 60 ∨ op = 61 ∨ op = 62 ∨ op = 63 ∨ op = 64 ∨ op = 65 ∨ op = 66 ∨ op = 67 ∨ op = 68 ∨ op = 69 ∨ op = 70 := by omega
theorem opN_neg (op : Int) (h : op < 0) : opN op = ⟨#[]⟩ := by unfold opN; rw [if_pos h]
theorem opF_neg (op : Int) (h : op < 0) : opF op = 0 := by unfold opF; rw [if_pos h]
theorem opN_great (op : Int) (h : 70 < op) : opN op = ⟨#[]⟩ := by
  unfold opN; rw [if_neg (by omega), List.getD_eq_getElem?_getD, List.getElem?_eq_none (by show (71 : Nat) ≤ _; omega)]; rfl
theorem opF_great (op : Int) (h : 70 < op) : opF op = 0 := by
  unfold opF; rw [if_neg (by omega), List.getD_eq_getElem?_getD, List.getElem?_eq_none (by show (71 : Nat) ≤ _; omega)]; rfl
theorem opF_bd (op : Int) : 0 ≤ opF op ∧ opF op ≤ 8 := by
  by_cases h0 : op < 0
  · rw [opF_neg op h0]; omega
  · by_cases h1 : 70 < op
    · rw [opF_great op h1]; omega
    · have := op_cases op (by omega) (by omega)
      rcases this with rfl | rfl | rfl | rfl | rfl | rfl | rfl | rfl | rfl | rfl | rfl | rfl | rfl | rfl | rfl | rfl | rfl | rfl | rfl | rfl | rfl | rfl | rfl | rfl | rfl | rfl | rfl | rfl | rfl | rfl | rfl | rfl | rfl | rfl | rfl | rfl | rfl | rfl | rfl | rfl | rfl | rfl | rfl | rfl | rfl | rfl | rfl | rfl | rfl | rfl | rfl | rfl | rfl | rfl | rfl | rfl | rfl | rfl | rfl | rfl | rfl | rfl | rfl | rfl | rfl | rfl | rfl | rfl | rfl | rfl | rfl <;> decide
theorem op_of_form (op : Int) (h : opF op ≠ 0) : 0 ≤ op ∧ op ≤ 70 := by
  by_cases h0 : op < 0
  · exact absurd (opF_neg op h0) h
  · by_cases h1 : 70 < op
    · exact absurd (opF_great op h1) h
    · omega
theorem enc_none (op a b c m : Int) (h : opF op = 0) : encE op a b c m = 5 ∧ encW op a b c m = 0 := by
  have e : encE op a b c m = 5 := by unfold encE; rw [if_pos h]
  exact ⟨e, by unfold encW; rw [e]; rfl⟩
theorem enc_bad (op a b c m : Int) (h : opF op ≠ 0) (h' : badQ (fR (opF op)) a b c) : encE op a b c m = 1 ∧ encW op a b c m = 0 := by
  have e : encE op a b c m = 1 := by unfold encE; rw [if_neg h, if_pos h']
  exact ⟨e, by unfold encW; rw [e]; rfl⟩
theorem enc_range (op a b c m : Int) (h : opF op ≠ 0) (h' : ¬ badQ (fR (opF op)) a b c) (hm : m < fL (opF op) ∨ fH (opF op) < m) : encE op a b c m = 6 ∧ encW op a b c m = 0 := by
  have e : encE op a b c m = 6 := by unfold encE; rw [if_neg h, if_neg h', if_pos hm]
  exact ⟨e, by unfold encW; rw [e]; rfl⟩
theorem enc_ok (op a b c m : Int) (h : opF op ≠ 0) (h' : ¬ badQ (fR (opF op)) a b c) (hm : ¬ (m < fL (opF op) ∨ fH (opF op) < m)) : encE op a b c m = 0 ∧ encW op a b c m = op * 16777216 + a * 1048576 + b * 65536 + c * 4096 + m % 2 ^ (fB (opF op)).toNat := by
  have e : encE op a b c m = 0 := by unfold encE; rw [if_neg h, if_neg h', if_neg hm]
  exact ⟨e, by unfold encW; rw [e]; rfl⟩
theorem good_regs {r a b c : Int} (h : ¬ badQ r a b c) : (0 ≤ a ∧ a ≤ 15) ∧ (0 ≤ b ∧ b ≤ 15) ∧ (0 ≤ c ∧ c ≤ 15) ∧ (r ≤ 0 → a = 0) ∧ (r ≤ 1 → b = 0) ∧ (r ≤ 2 → c = 0) := by
  unfold badQ at h; omega
theorem fR_bd (f : Int) : 0 ≤ fR f ∧ fR f ≤ 3 := by unfold fR; (repeat' split) <;> omega
theorem fB_cases (f : Int) : fB f = 0 ∨ fB f = 16 ∨ fB f = 20 := by unfold fB; (repeat' split) <;> omega
theorem f_cases (f : Int) (h0 : 0 ≤ f) (h1 : f ≤ 8) : f = 0 ∨ f = 1 ∨ f = 2 ∨ f = 3 ∨ f = 4 ∨ f = 5 ∨ f = 6 ∨ f = 7 ∨ f = 8 := by omega
end Go.Proofs.YtfcmodllbhpniaaGreatDoor
set_option maxRecDepth 100000
namespace Go.Proofs.YtfcmodllbhpniaaGreatDoor
open Go.RowKit
theorem join32 (i : Nat) (x y : Int) (hx₀ : 0 ≤ x) (hx : x % 2 ^ i = 0) (hx₁ : x < 4294967296) (hy₀ : 0 ≤ y) (hy : y < 2 ^ i) (hy₁ : y < 4294967296) : bits .or .u32 x y = x + y :=
  bits_join .u32 32 (by decide) (fun n h1 h2 => IntWalk.u32_in n (by omega)) i x y hx₀ hx hx₁ hy₀ hy hy₁
theorem join64 (i : Nat) (x y : Int) (hx₀ : 0 ≤ x) (hx : x % 2 ^ i = 0) (hx₁ : x < 4294967296) (hy₀ : 0 ≤ y) (hy : y < 2 ^ i) (hy₁ : y < 4294967296) : bits .or .i64 x y = x + y :=
  bits_join .i64 32 (by decide) (fun n h1 h2 => IntWalk.i64_in n (by omega)) i x y hx₀ hx hx₁ hy₀ hy hy₁
/-- Where the number may lie below the registers. -/
def fits (b c y : Int) : Prop := 0 ≤ y ∧ (y < 4096 ∨ (c = 0 ∧ y < 65536) ∨ (b = 0 ∧ c = 0 ∧ y < 1048576))
theorem chain32 (op a b c y : Int) (o0 : 0 ≤ op) (o1 : op ≤ 70) (a0 : 0 ≤ a) (a1 : a ≤ 15) (b0 : 0 ≤ b) (b1 : b ≤ 15) (c0 : 0 ≤ c) (c1 : c ≤ 15) (h : fits b c y) :
    wrap64 (bits .or .u32 (bits .or .u32 (bits .or .u32 (bits .or .u32 (op * 16777216) (a * 1048576)) (b * 65536)) (c * 4096)) y) = op * 16777216 + a * 1048576 + b * 65536 + c * 4096 + y := by
  obtain ⟨y0, h⟩ := h
  rw [join32 24 (op * 16777216) (a * 1048576) (by omega) (by show _ % (16777216 : Int) = 0; omega) (by omega) (by omega) (by show _ < (16777216 : Int); omega) (by omega)]
  rw [join32 20 (op * 16777216 + a * 1048576) (b * 65536) (by omega) (by show _ % (1048576 : Int) = 0; omega) (by omega) (by omega) (by show _ < (1048576 : Int); omega) (by omega)]
  rw [join32 16 (op * 16777216 + a * 1048576 + b * 65536) (c * 4096) (by omega) (by show _ % (65536 : Int) = 0; omega) (by omega) (by omega) (by show _ < (65536 : Int); omega) (by omega)]
  have e : bits .or .u32 (op * 16777216 + a * 1048576 + b * 65536 + c * 4096) y = op * 16777216 + a * 1048576 + b * 65536 + c * 4096 + y := by
    rcases h with h | h | h
    · exact join32 12 _ y (by omega) (by show _ % (4096 : Int) = 0; omega) (by omega) y0 (by show _ < (4096 : Int); omega) (by omega)
    · exact join32 16 _ y (by omega) (by show _ % (65536 : Int) = 0; omega) (by omega) y0 (by show _ < (65536 : Int); omega) (by omega)
    · exact join32 20 _ y (by omega) (by show _ % (1048576 : Int) = 0; omega) (by omega) y0 (by show _ < (1048576 : Int); omega) (by omega)
  rw [e]
  unfold wrap64; omega
theorem chain64 (op a b c y : Int) (o0 : 0 ≤ op) (o1 : op ≤ 70) (a0 : 0 ≤ a) (a1 : a ≤ 15) (b0 : 0 ≤ b) (b1 : b ≤ 15) (c0 : 0 ≤ c) (c1 : c ≤ 15) (h : fits b c y) :
    bits .or .i64 (bits .or .i64 (bits .or .i64 (bits .or .i64 (op * 16777216) (a * 1048576)) (b * 65536)) (c * 4096)) y = op * 16777216 + a * 1048576 + b * 65536 + c * 4096 + y := by
  obtain ⟨y0, h⟩ := h
  rw [join64 24 (op * 16777216) (a * 1048576) (by omega) (by show _ % (16777216 : Int) = 0; omega) (by omega) (by omega) (by show _ < (16777216 : Int); omega) (by omega)]
  rw [join64 20 (op * 16777216 + a * 1048576) (b * 65536) (by omega) (by show _ % (1048576 : Int) = 0; omega) (by omega) (by omega) (by show _ < (1048576 : Int); omega) (by omega)]
  rw [join64 16 (op * 16777216 + a * 1048576 + b * 65536) (c * 4096) (by omega) (by show _ % (65536 : Int) = 0; omega) (by omega) (by omega) (by show _ < (65536 : Int); omega) (by omega)]
  rcases h with h | h | h
  · exact join64 12 _ y (by omega) (by show _ % (4096 : Int) = 0; omega) (by omega) y0 (by show _ < (4096 : Int); omega) (by omega)
  · exact join64 16 _ y (by omega) (by show _ % (65536 : Int) = 0; omega) (by omega) y0 (by show _ < (65536 : Int); omega) (by omega)
  · exact join64 20 _ y (by omega) (by show _ % (1048576 : Int) = 0; omega) (by omega) y0 (by show _ < (1048576 : Int); omega) (by omega)
theorem chain64v (A B C D y : Int) (hA : 0 ≤ A ∧ A % 16777216 = 0 ∧ A ≤ 1174405120) (hB : 0 ≤ B ∧ B % 1048576 = 0 ∧ B ≤ 15728640) (hC : 0 ≤ C ∧ C % 65536 = 0 ∧ C ≤ 983040) (hD : 0 ≤ D ∧ D % 4096 = 0 ∧ D ≤ 61440) (h : fits C D y) :
    bits .or .i64 (bits .or .i64 (bits .or .i64 (bits .or .i64 A B) C) D) y = A + B + C + D + y := by
  obtain ⟨y0, h⟩ := h
  rw [join64 24 A B (by omega) (by show _ % (16777216 : Int) = 0; omega) (by omega) (by omega) (by show _ < (16777216 : Int); omega) (by omega)]
  rw [join64 20 (A + B) C (by omega) (by show _ % (1048576 : Int) = 0; omega) (by omega) (by omega) (by show _ < (1048576 : Int); omega) (by omega)]
  rw [join64 16 (A + B + C) D (by omega) (by show _ % (65536 : Int) = 0; omega) (by omega) (by omega) (by show _ < (65536 : Int); omega) (by omega)]
  rcases h with h | h | h
  · exact join64 12 _ y (by omega) (by show _ % (4096 : Int) = 0; omega) (by omega) y0 (by show _ < (4096 : Int); omega) (by omega)
  · exact join64 16 _ y (by omega) (by show _ % (65536 : Int) = 0; omega) (by omega) y0 (by show _ < (65536 : Int); omega) (by omega)
  · exact join64 20 _ y (by omega) (by show _ % (1048576 : Int) = 0; omega) (by omega) y0 (by show _ < (1048576 : Int); omega) (by omega)
theorem mask32 (i : Nat) (hi : i ≤ 32) (m : Int) : bits .and .u32 (m % 4294967296) (2 ^ i - 1) = m % 2 ^ i := by
  rw [bits_mask .u32 32 (by decide) (fun n h1 h2 => IntWalk.u32_in n (by omega)) i hi _ (by omega) (by omega)]
  have e : (4294967296 : Int) = 2 ^ i * 2 ^ (32 - i) := by rw [← Int.pow_add, show i + (32 - i) = 32 from by omega]; rfl
  rw [e]
  exact Int.emod_emod_of_dvd m ⟨2 ^ (32 - i), rfl⟩
theorem mask32_0 (m : Int) : bits .and .u32 (m % 4294967296) 0 = m % 2 ^ 0 := mask32 0 (by decide) m
theorem mask32_16 (m : Int) : bits .and .u32 (m % 4294967296) 65535 = m % 2 ^ 16 := mask32 16 (by decide) m
theorem mask32_20 (m : Int) : bits .and .u32 (m % 4294967296) 1048575 = m % 2 ^ 20 := mask32 20 (by decide) m
theorem mask64_16 (m : Int) : bits .and .i64 m 65535 = m % 65536 := i64_mask m 16 (by decide)
theorem mask64_20 (m : Int) : bits .and .i64 m 1048575 = m % 1048576 := i64_mask m 20 (by decide)
theorem fB_16 (f : Int) (h : fB f = 16) : fR f ≤ 2 := by unfold fB at h; unfold fR; (repeat' split at h) <;> (repeat' split) <;> omega
theorem fB_20 (f : Int) (h : fB f = 20) : fR f ≤ 1 := by unfold fB at h; unfold fR; (repeat' split at h) <;> (repeat' split) <;> omega
theorem fB_bd (f : Int) : 0 ≤ fB f ∧ fB f ≤ 20 := by have := fB_cases f; omega
end Go.Proofs.YtfcmodllbhpniaaGreatDoor
set_option maxRecDepth 100000
namespace Go.Proofs.YtfcmodllbhpniaaGreatDoor
open Go.RowKit
/-- What a word has in its fields, by its operation's form (x: a word). -/
def dO (x : Int) : Int := x / 16777216
def dF (x : Int) : Int := opF (dO x)
def dA (x : Int) : Int := if fR (dF x) ≤ 0 then 0 else x / 1048576 % 16
def dB (x : Int) : Int := if fR (dF x) ≤ 1 then 0 else x / 65536 % 16
def dC (x : Int) : Int := if fR (dF x) ≤ 2 then 0 else x / 4096 % 16
def dM (x : Int) : Int := if fL (dF x) < 0 then sg (ex x (fB (dF x))) else bt x (fB (dF x) - 1) 0
/-- Is there an instruction? -/
def decOk (x : Int) : Prop := encE (dO x) (dA x) (dB x) (dC x) (dM x) = 0 ∧ encW (dO x) (dA x) (dB x) (dC x) (dM x) = x
instance (x : Int) : Decidable (decOk x) := by unfold decOk; infer_instance
def decE (x : Int) : Int := if decOk x then 0 else 5
def gO (x : Int) : Int := if decOk x then dO x else 0
def gA (x : Int) : Int := if decOk x then dA x else 0
def gB (x : Int) : Int := if decOk x then dB x else 0
def gC (x : Int) : Int := if decOk x then dC x else 0
def gM (x : Int) : Int := if decOk x then dM x else 0
theorem dec_no (x : Int) (h : ¬ decOk x) : decE x = 5 ∧ gO x = 0 ∧ gA x = 0 ∧ gB x = 0 ∧ gC x = 0 ∧ gM x = 0 := by
  unfold decE gO gA gB gC gM; simp [h]
theorem dec_yes (x : Int) (h : decOk x) : decE x = 0 ∧ gO x = dO x ∧ gA x = dA x ∧ gB x = dB x ∧ gC x = dC x ∧ gM x = dM x := by
  unfold decE gO gA gB gC gM; simp [h]
theorem dec_none (x : Int) (h : dF x = 0) : ¬ decOk x := by
  intro hd
  have := enc_none (dO x) (dA x) (dB x) (dC x) (dM x) h
  have := hd.1
  omega
theorem decode_law (x : Int) : (decE x = 0 ∧ encE (gO x) (gA x) (gB x) (gC x) (gM x) = 0 ∧ encW (gO x) (gA x) (gB x) (gC x) (gM x) = x) ∨ decE x = 5 := by
  by_cases h : decOk x
  · obtain ⟨e0, e1, e2, e3, e4, e5⟩ := dec_yes x h
    rw [e1, e2, e3, e4, e5]
    exact .inl ⟨e0, h.1, h.2⟩
  · exact .inr (dec_no x h).1
theorem sgx (x n : Int) (h : 1 ≤ n) (h' : n ≤ 32) : sg (ex x n) = ext x n.toNat := by
  rw [ex_in x n h h', sg_wd]
  unfold ext
  have hp := pow_pos' (n.toNat - 1)
  have e : (2 : Int) ^ n.toNat = 2 * 2 ^ (n.toNat - 1) := by
    obtain ⟨m, hm⟩ : ∃ m, n.toNat = m + 1 := ⟨n.toNat - 1, by omega⟩
    rw [hm, Nat.add_sub_cancel, Int.pow_succ, Int.mul_comm]
  have hle : (2 : Int) ^ (n.toNat - 1) ≤ 2147483648 := pow_le' (b := 31) (by omega)
  have h1 := Int.emod_nonneg (x + 2 ^ (n.toNat - 1)) (Int.ne_of_gt (pow_pos' n.toNat))
  have h2 := Int.emod_lt_of_pos (x + 2 ^ (n.toNat - 1)) (pow_pos' n.toNat)
  exact sg_in _ (by omega) (by omega)
theorem sg_ex16 (x : Int) : sg (ex x 16) = (x + 32768) % 65536 - 32768 := by rw [sgx x 16 (by decide) (by decide)]; rfl
theorem sg_ex20 (x : Int) : sg (ex x 20) = (x + 524288) % 1048576 - 524288 := by rw [sgx x 20 (by decide) (by decide)]; rfl
theorem bt_16 (x : Int) (h0 : 0 ≤ x) (h1 : x ≤ 4294967295) : bt x 15 0 = x % 65536 := by
  unfold bt
  rw [if_neg (by omega), wd_eq x h0 h1]
  show x / 1 % 65536 = x % 65536
  omega
theorem bt_m1 (x : Int) : bt x (-1) 0 = 0 := by unfold bt; rw [if_pos (by omega)]
/-- THE OTHER WAY ROUND: the fields of an instruction's word are the instruction's. -/
theorem fields_of (op a b c m : Int) (h : encE op a b c m = 0) : dO (encW op a b c m) = op ∧ dA (encW op a b c m) = a ∧ dB (encW op a b c m) = b ∧ dC (encW op a b c m) = c ∧ dM (encW op a b c m) = m ∧ 0 ≤ encW op a b c m ∧ encW op a b c m ≤ 4294967295 := by
  have hn : opF op ≠ 0 := by
    intro hf; have := (enc_none op a b c m hf).1; omega
  have hq : ¬ badQ (fR (opF op)) a b c := by
    intro hf; have := (enc_bad op a b c m hn hf).1; omega
  have hm : ¬ (m < fL (opF op) ∨ fH (opF op) < m) := by
    intro hf; have := (enc_range op a b c m hn hq hf).1; omega
  have hw := (enc_ok op a b c m hn hq hm).2
  have ho := op_of_form op hn
  have hg := good_regs hq
  have hb := opF_bd op
  obtain ⟨⟨a0, a1⟩, ⟨b0, b1⟩, ⟨c0, c1⟩, ha, hbb, hcc⟩ := hg
  rw [hw]
  have key : ∀ y : Int, y = m % 2 ^ (fB (opF op)).toNat → fits b c y → (∀ x : Int, x = op * 16777216 + a * 1048576 + b * 65536 + c * 4096 + y → x / 16777216 = op → x / 1048576 % 16 = a → (1 ≤ fR (opF op) ∨ a = 0) → (2 ≤ fR (opF op) → x / 65536 % 16 = b) → (3 ≤ fR (opF op) → x / 4096 % 16 = c) → (if fL (opF op) < 0 then sg (ex x (fB (opF op))) else bt x (fB (opF op) - 1) 0) = m → dO x = op ∧ dA x = a ∧ dB x = b ∧ dC x = c ∧ dM x = m) := by
    intro y _ _ x hx h1 h2 h2' h3 h4 h5
    have hO : dO x = op := h1
    have hFF : dF x = opF op := by unfold dF; rw [hO]
    refine ⟨hO, ?_, ?_, ?_, ?_⟩
    · unfold dA; rw [hFF]; split
      · exact (ha ‹_›).symm
      · exact h2
    · unfold dB; rw [hFF]; split
      · exact (hbb ‹_›).symm
      · exact h3 (by omega)
    · unfold dC; rw [hFF]; split
      · exact (hcc ‹_›).symm
      · exact h4 (by omega)
    · unfold dM; rw [hFF]; exact h5
  have fin : ∀ f, opF op = f → (∀ y : Int, y = m % 2 ^ (fB f).toNat → fits b c y ∧ (fR f ≤ 2 → c = 0) ∧ (fR f ≤ 1 → b = 0) ∧ ∀ x : Int, x = op * 16777216 + a * 1048576 + b * 65536 + c * 4096 + y → (2 ≤ fR f → y < 65536) ∧ (3 ≤ fR f → y = 0) ∧ 0 ≤ y ∧ y < 1048576 ∧ (if fL f < 0 then sg (ex x (fB f)) else bt x (fB f - 1) 0) = m) →
      dO (op * 16777216 + a * 1048576 + b * 65536 + c * 4096 + m % 2 ^ (fB (opF op)).toNat) = op ∧ dA (op * 16777216 + a * 1048576 + b * 65536 + c * 4096 + m % 2 ^ (fB (opF op)).toNat) = a ∧ dB (op * 16777216 + a * 1048576 + b * 65536 + c * 4096 + m % 2 ^ (fB (opF op)).toNat) = b ∧ dC (op * 16777216 + a * 1048576 + b * 65536 + c * 4096 + m % 2 ^ (fB (opF op)).toNat) = c ∧ dM (op * 16777216 + a * 1048576 + b * 65536 + c * 4096 + m % 2 ^ (fB (opF op)).toNat) = m ∧ 0 ≤ op * 16777216 + a * 1048576 + b * 65536 + c * 4096 + m % 2 ^ (fB (opF op)).toNat ∧ op * 16777216 + a * 1048576 + b * 65536 + c * 4096 + m % 2 ^ (fB (opF op)).toNat ≤ 4294967295 := by
    intro f hf H
    subst hf
    obtain ⟨hfit, hc2, hb2, H2⟩ := H _ rfl
    obtain ⟨y2, y3, y0, y1, hmm⟩ := H2 _ rfl
    generalize hy : m % 2 ^ (fB (opF op)).toNat = y at *
    have K := key y rfl hfit _ rfl
    obtain ⟨k1, k2, k3, k4, k5⟩ := K (by unfold fits at hfit; omega) (by unfold fits at hfit; omega) (by by_cases h : 1 ≤ fR (opF op); exact .inl h; exact .inr (ha (by omega))) (fun h => by have := y2 h; unfold fits at hfit; omega) (fun h => by have := y3 h; omega) hmm
    exact ⟨k1, k2, k3, k4, k5, by omega, by omega⟩
  rcases f_cases (opF op) hb.1 hb.2 with f | f | f | f | f | f | f | f | f
  · exact absurd f hn
  · refine fin 1 f fun y hy => ?_
    rw [f] at hm
    have hm' : ¬ (m < 0 ∨ 0 < m) := hm
    have hy' : y = m % 1 := hy
    have hy0 : y = 0 := by omega
    refine ⟨⟨by omega, .inl (by omega)⟩, fun h => absurd h (by decide), fun h => absurd h (by decide), fun x hx => ⟨fun _ => by omega, fun _ => by omega, by omega, by omega, ?_⟩⟩
    show bt x (-1) 0 = m
    rw [bt_m1]; omega
  · refine fin 2 f fun y hy => ?_
    rw [f] at hm hcc
    have hm' : ¬ (m < -32768 ∨ 32767 < m) := hm
    have hy' : y = m % 65536 := hy
    have hc0 : c = 0 := hcc (by decide)
    refine ⟨⟨by omega, .inr (.inl ⟨hc0, by omega⟩)⟩, fun _ => hc0, fun h => absurd h (by decide), fun x hx => ⟨fun _ => by omega, fun h => absurd h (by decide), by omega, by omega, ?_⟩⟩
    show sg (ex x 16) = m
    rw [sg_ex16]; omega
  · refine fin 3 f fun y hy => ?_
    rw [f] at hm hcc
    have hm' : ¬ (m < 0 ∨ 65535 < m) := hm
    have hy' : y = m % 65536 := hy
    have hc0 : c = 0 := hcc (by decide)
    refine ⟨⟨by omega, .inr (.inl ⟨hc0, by omega⟩)⟩, fun _ => hc0, fun h => absurd h (by decide), fun x hx => ⟨fun _ => by omega, fun h => absurd h (by decide), by omega, by omega, ?_⟩⟩
    show bt x 15 0 = m
    rw [bt_16 x (by omega) (by omega)]; omega
  · refine fin 4 f fun y hy => ?_
    rw [f] at hm hcc
    have hm' : ¬ (m < 0 ∨ 31 < m) := hm
    have hy' : y = m % 65536 := hy
    have hc0 : c = 0 := hcc (by decide)
    refine ⟨⟨by omega, .inr (.inl ⟨hc0, by omega⟩)⟩, fun _ => hc0, fun h => absurd h (by decide), fun x hx => ⟨fun _ => by omega, fun h => absurd h (by decide), by omega, by omega, ?_⟩⟩
    show bt x 15 0 = m
    rw [bt_16 x (by omega) (by omega)]; omega
  · refine fin 5 f fun y hy => ?_
    rw [f] at hm hcc hbb
    have hm' : ¬ (m < 0 ∨ 65535 < m) := hm
    have hy' : y = m % 65536 := hy
    have hc0 : c = 0 := hcc (by decide)
    have hb0 : b = 0 := hbb (by decide)
    refine ⟨⟨by omega, .inr (.inl ⟨hc0, by omega⟩)⟩, fun _ => hc0, fun _ => hb0, fun x hx => ⟨fun h => absurd h (by decide), fun h => absurd h (by decide), by omega, by omega, ?_⟩⟩
    show bt x 15 0 = m
    rw [bt_16 x (by omega) (by omega)]; omega
  · refine fin 6 f fun y hy => ?_
    rw [f] at hm hcc hbb
    have hm' : ¬ (m < -524288 ∨ 524287 < m) := hm
    have hy' : y = m % 1048576 := hy
    have hc0 : c = 0 := hcc (by decide)
    have hb0 : b = 0 := hbb (by decide)
    refine ⟨⟨by omega, .inr (.inr ⟨hb0, hc0, by omega⟩)⟩, fun _ => hc0, fun _ => hb0, fun x hx => ⟨fun h => absurd h (by decide), fun h => absurd h (by decide), by omega, by omega, ?_⟩⟩
    show sg (ex x 20) = m
    rw [sg_ex20]; omega
  · refine fin 7 f fun y hy => ?_
    rw [f] at hm hcc hbb
    have hm' : ¬ (m < 0 ∨ 10 < m) := hm
    have hy' : y = m % 65536 := hy
    have hc0 : c = 0 := hcc (by decide)
    have hb0 : b = 0 := hbb (by decide)
    refine ⟨⟨by omega, .inr (.inl ⟨hc0, by omega⟩)⟩, fun _ => hc0, fun _ => hb0, fun x hx => ⟨fun h => absurd h (by decide), fun h => absurd h (by decide), by omega, by omega, ?_⟩⟩
    show bt x 15 0 = m
    rw [bt_16 x (by omega) (by omega)]; omega
  · refine fin 8 f fun y hy => ?_
    rw [f] at hm hcc hbb
    have hm' : ¬ (m < 0 ∨ 0 < m) := hm
    have hy' : y = m % 1 := hy
    have hy0 : y = 0 := by omega
    have hc0 : c = 0 := hcc (by decide)
    have hb0 : b = 0 := hbb (by decide)
    refine ⟨⟨by omega, .inl (by omega)⟩, fun _ => hc0, fun _ => hb0, fun x hx => ⟨fun h => absurd h (by decide), fun h => absurd h (by decide), by omega, by omega, ?_⟩⟩
    show bt x (-1) 0 = m
    rw [bt_m1]; omega
/-- Decode of an instruction's word is the instruction. -/
theorem decode_encode (op a b c m : Int) (h : encE op a b c m = 0) : decE (encW op a b c m) = 0 ∧ gO (encW op a b c m) = op ∧ gA (encW op a b c m) = a ∧ gB (encW op a b c m) = b ∧ gC (encW op a b c m) = c ∧ gM (encW op a b c m) = m := by
  obtain ⟨h1, h2, h3, h4, h5, _, _⟩ := fields_of op a b c m h
  have hd : decOk (encW op a b c m) := by
    unfold decOk; rw [h1, h2, h3, h4, h5]; exact ⟨h, rfl⟩
  obtain ⟨e0, e1, e2, e3, e4, e5⟩ := dec_yes _ hd
  exact ⟨e0, e1.trans h1, e2.trans h2, e3.trans h3, e4.trans h4, e5.trans h5⟩
end Go.Proofs.YtfcmodllbhpniaaGreatDoor
