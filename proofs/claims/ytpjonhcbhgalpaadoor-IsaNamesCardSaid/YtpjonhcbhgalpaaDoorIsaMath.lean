
/-
  Plain: the table of operations, forms, words of instructions and their texts (no program in sight).
-/
import Derived.WalkKit
import Derived.Test.YtpjonhcbhgalpaaDoorMath
namespace Go.Proofs.YtpjonhcbhgalpaaDoor
open Go.RowKit

/-- The table: name and form of each operation from 0 to 70. Forms: 1 R, 2 I, 3 U, 4 H, 5 L, 6 J, 7 C, 8 N; 0 none. -/
def opTab : List (ByteArray × Int) :=
 [(⟨#[]⟩, 0),
  (⟨#[97, 100, 100]⟩, 1),
  (⟨#[115, 117, 98]⟩, 1),
  (⟨#[97, 110, 100]⟩, 1),
  (⟨#[111, 114]⟩, 1),
  (⟨#[120, 111, 114]⟩, 1),
  (⟨#[115, 108, 108]⟩, 1),
  (⟨#[115, 114, 108]⟩, 1),
  (⟨#[115, 114, 97]⟩, 1),
  (⟨#[109, 117, 108]⟩, 1),
  (⟨#[115, 108, 116]⟩, 1),
  (⟨#[115, 108, 116, 117]⟩, 1),
  (⟨#[100, 105, 118, 117]⟩, 1),
  (⟨#[114, 101, 109, 117]⟩, 1),
  (⟨#[]⟩, 0),
  (⟨#[]⟩, 0),
  (⟨#[97, 100, 100, 105]⟩, 2),
  (⟨#[97, 110, 100, 105]⟩, 3),
  (⟨#[111, 114, 105]⟩, 3),
  (⟨#[120, 111, 114, 105]⟩, 3),
  (⟨#[115, 108, 108, 105]⟩, 4),
  (⟨#[115, 114, 108, 105]⟩, 4),
  (⟨#[115, 114, 97, 105]⟩, 4),
  (⟨#[108, 117, 105]⟩, 5),
  (⟨#[115, 108, 116, 105]⟩, 2),
  (⟨#[]⟩, 0),
  (⟨#[]⟩, 0),
  (⟨#[]⟩, 0),
  (⟨#[]⟩, 0),
  (⟨#[]⟩, 0),
  (⟨#[]⟩, 0),
  (⟨#[]⟩, 0),
  (⟨#[108, 119]⟩, 2),
  (⟨#[108, 104]⟩, 2),
  (⟨#[108, 104, 117]⟩, 2),
  (⟨#[108, 98]⟩, 2),
  (⟨#[108, 98, 117]⟩, 2),
  (⟨#[]⟩, 0),
  (⟨#[]⟩, 0),
  (⟨#[]⟩, 0),
  (⟨#[115, 119]⟩, 2),
  (⟨#[115, 104]⟩, 2),
  (⟨#[115, 98]⟩, 2),
  (⟨#[]⟩, 0),
  (⟨#[]⟩, 0),
  (⟨#[]⟩, 0),
  (⟨#[]⟩, 0),
  (⟨#[]⟩, 0),
  (⟨#[98, 101, 113]⟩, 2),
  (⟨#[98, 110, 101]⟩, 2),
  (⟨#[98, 108, 116]⟩, 2),
  (⟨#[98, 103, 101]⟩, 2),
  (⟨#[98, 108, 116, 117]⟩, 2),
  (⟨#[98, 103, 101, 117]⟩, 2),
  (⟨#[]⟩, 0),
  (⟨#[]⟩, 0),
  (⟨#[106, 97, 108]⟩, 6),
  (⟨#[106, 97, 108, 114]⟩, 2),
  (⟨#[]⟩, 0),
  (⟨#[]⟩, 0),
  (⟨#[]⟩, 0),
  (⟨#[]⟩, 0),
  (⟨#[]⟩, 0),
  (⟨#[]⟩, 0),
  (⟨#[101, 99, 97, 108, 108]⟩, 8),
  (⟨#[115, 114, 101, 116]⟩, 8),
  (⟨#[119, 102, 105]⟩, 8),
  (⟨#[]⟩, 0),
  (⟨#[99, 115, 114, 114]⟩, 7),
  (⟨#[99, 115, 114, 119]⟩, 7),
  (⟨#[98, 114, 107]⟩, 8)]
def opN (op : Int) : ByteArray := if op < 0 then ⟨#[]⟩ else (opTab.getD op.toNat (⟨#[]⟩, 0)).1
def opF (op : Int) : Int := if op < 0 then 0 else (opTab.getD op.toNat (⟨#[]⟩, 0)).2
/-- How many registers a form has. -/
def fR (f : Int) : Int := if f = 1 then 3 else if f = 2 then 2 else if f = 3 then 2 else if f = 4 then 2 else if f = 5 then 1 else if f = 6 then 1 else if f = 7 then 1 else 0
/-- How many bits its number has. -/
def fB (f : Int) : Int := if f = 2 then 16 else if f = 3 then 16 else if f = 4 then 16 else if f = 5 then 16 else if f = 6 then 20 else if f = 7 then 16 else 0
def fL (f : Int) : Int := if f = 2 then -32768 else if f = 6 then -524288 else 0
def fH (f : Int) : Int := if f = 2 then 32767 else if f = 3 then 65535 else if f = 4 then 31 else if f = 5 then 65535 else if f = 6 then 524287 else if f = 7 then 10 else 0

/-- The form's letter. -/
def fC (f : Int) : Int := if f = 1 then 82 else if f = 2 then 73 else if f = 3 then 85 else if f = 4 then 72 else if f = 5 then 76 else if f = 6 then 74 else if f = 7 then 67 else if f = 8 then 78 else 0
/-- Is a register none, or not 0 where the form has none? -/
def badQ (r a b c : Int) : Prop := a < 0 ∨ 15 < a ∨ b < 0 ∨ 15 < b ∨ c < 0 ∨ 15 < c ∨ (r ≤ 0 ∧ a ≠ 0) ∨ (r ≤ 1 ∧ b ≠ 0) ∨ (r ≤ 2 ∧ c ≠ 0)
instance (r a b c : Int) : Decidable (badQ r a b c) := by unfold badQ; infer_instance
/-- All registers are as the form has them. -/
def tkB (r a b c : Int) : Bool := !decide (badQ r a b c)
/-- Which error Encode tells. -/
def encE (op a b c m : Int) : Int := if opF op = 0 then 5 else if badQ (fR (opF op)) a b c then 1 else if m < fL (opF op) ∨ fH (opF op) < m then 6 else 0
/-- The word. -/
def encW (op a b c m : Int) : Int := if encE op a b c m = 0 then op * 16777216 + a * 1048576 + b * 65536 + c * 4096 + m % 2 ^ (fB (opF op)).toNat else 0
theorem op_cases (op : Int) (h0 : 0 ≤ op) (h1 : op ≤ 70) : op = 0 ∨ op = 1 ∨ op = 2 ∨ op = 3 ∨ op = 4 ∨ op = 5 ∨ op = 6 ∨ op = 7 ∨ op = 8 ∨ op = 9 ∨ op = 10 ∨ op = 11 ∨ op = 12 ∨ op = 13 ∨ op = 14 ∨ op = 15 ∨ op = 16 ∨ op = 17 ∨ op = 18 ∨ op = 19 ∨ op = 20 ∨ op = 21 ∨ op = 22 ∨ op = 23 ∨ op = 24 ∨ op = 25 ∨ op = 26 ∨ op = 27 ∨ op = 28 ∨ op = 29 ∨ op = 30 ∨ op = 31 ∨ op = 32 ∨ op = 33 ∨ op = 34 ∨ op = 35 ∨ op = 36 ∨ op = 37 ∨ op = 38 ∨ op = 39 ∨ op = 40 ∨ op = 41 ∨ op = 42 ∨ op = 43 ∨ op = 44 ∨ op = 45 ∨ op = 46 ∨ op = 47 ∨ op = 48 ∨ op = 49 ∨ op = 50 ∨ op = 51 ∨ op = 52 ∨ op = 53 ∨ op = 54 ∨ op = 55 ∨ op = 56 ∨ op = 57 ∨ op = 58 ∨ op = 59 ∨ op = 60 ∨ op = 61 ∨ op = 62 ∨ op = 63 ∨ op = 64 ∨ op = 65 ∨ op = 66 ∨ op = 67 ∨ op = 68 ∨ op = 69 ∨ op = 70 := by omega
theorem opN_neg (op : Int) (h : op < 0) : opN op = ⟨#[]⟩ := by unfold opN; rw [if_pos h]
theorem opF_neg (op : Int) (h : op < 0) : opF op = 0 := by unfold opF; rw [if_pos h]
theorem opN_great (op : Int) (h : 70 < op) : opN op = ⟨#[]⟩ := by
  unfold opN; rw [if_neg (by omega), List.getD_eq_getElem?_getD, List.getElem?_eq_none (by show (71 : Nat) ≤ _; omega)]; rfl
theorem opF_great (op : Int) (h : 70 < op) : opF op = 0 := by
  unfold opF; rw [if_neg (by omega), List.getD_eq_getElem?_getD, List.getElem?_eq_none (by show (71 : Nat) ≤ _; omega)]; rfl
theorem opF_bd (op : Int) : 0 ≤ opF op ∧ opF op ≤ 8 := by
  by_cases h0 : op < 0
  · rw [opF_neg op h0]; omega
  · by_cases h1 : 70 < op
    · rw [opF_great op h1]; omega
    · have := op_cases op (by omega) (by omega)
      rcases this with rfl | rfl | rfl | rfl | rfl | rfl | rfl | rfl | rfl | rfl | rfl | rfl | rfl | rfl | rfl | rfl | rfl | rfl | rfl | rfl | rfl | rfl | rfl | rfl | rfl | rfl | rfl | rfl | rfl | rfl | rfl | rfl | rfl | rfl | rfl | rfl | rfl | rfl | rfl | rfl | rfl | rfl | rfl | rfl | rfl | rfl | rfl | rfl | rfl | rfl | rfl | rfl | rfl | rfl | rfl | rfl | rfl | rfl | rfl | rfl | rfl | rfl | rfl | rfl | rfl | rfl | rfl | rfl | rfl | rfl | rfl <;> decide
theorem op_of_form (op : Int) (h : opF op ≠ 0) : 0 ≤ op ∧ op ≤ 70 := by
  by_cases h0 : op < 0
  · exact absurd (opF_neg op h0) h
  · by_cases h1 : 70 < op
    · exact absurd (opF_great op h1) h
    · omega
theorem enc_none (op a b c m : Int) (h : opF op = 0) : encE op a b c m = 5 ∧ encW op a b c m = 0 := by
  have e : encE op a b c m = 5 := by unfold encE; rw [if_pos h]
  exact ⟨e, by unfold encW; rw [e]; rfl⟩
theorem enc_bad (op a b c m : Int) (h : opF op ≠ 0) (h' : badQ (fR (opF op)) a b c) : encE op a b c m = 1 ∧ encW op a b c m = 0 := by
  have e : encE op a b c m = 1 := by unfold encE; rw [if_neg h, if_pos h']
  exact ⟨e, by unfold encW; rw [e]; rfl⟩
theorem enc_range (op a b c m : Int) (h : opF op ≠ 0) (h' : ¬ badQ (fR (opF op)) a b c) (hm : m < fL (opF op) ∨ fH (opF op) < m) : encE op a b c m = 6 ∧ encW op a b c m = 0 := by
  have e : encE op a b c m = 6 := by unfold encE; rw [if_neg h, if_neg h', if_pos hm]
  exact ⟨e, by unfold encW; rw [e]; rfl⟩
theorem enc_ok (op a b c m : Int) (h : opF op ≠ 0) (h' : ¬ badQ (fR (opF op)) a b c) (hm : ¬ (m < fL (opF op) ∨ fH (opF op) < m)) : encE op a b c m = 0 ∧ encW op a b c m = op * 16777216 + a * 1048576 + b * 65536 + c * 4096 + m % 2 ^ (fB (opF op)).toNat := by
  have e : encE op a b c m = 0 := by unfold encE; rw [if_neg h, if_neg h', if_neg hm]
  exact ⟨e, by unfold encW; rw [e]; rfl⟩
theorem good_regs {r a b c : Int} (h : ¬ badQ r a b c) : (0 ≤ a ∧ a ≤ 15) ∧ (0 ≤ b ∧ b ≤ 15) ∧ (0 ≤ c ∧ c ≤ 15) ∧ (r ≤ 0 → a = 0) ∧ (r ≤ 1 → b = 0) ∧ (r ≤ 2 → c = 0) := by
  unfold badQ at h; omega
theorem fR_bd (f : Int) : 0 ≤ fR f ∧ fR f ≤ 3 := by unfold fR; (repeat' split) <;> omega
theorem fB_cases (f : Int) : fB f = 0 ∨ fB f = 16 ∨ fB f = 20 := by unfold fB; (repeat' split) <;> omega
theorem f_cases (f : Int) (h0 : 0 ≤ f) (h1 : f ≤ 8) : f = 0 ∨ f = 1 ∨ f = 2 ∨ f = 3 ∨ f = 4 ∨ f = 5 ∨ f = 6 ∨ f = 7 ∨ f = 8 := by omega
end Go.Proofs.YtpjonhcbhgalpaaDoor
