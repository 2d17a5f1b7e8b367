
/-
  The document's own lexer: Rune (written by wip/bin/mkrune.py).
-/
import Derived.Test.YtgikcciakbnehaaDoorLexMath
import Derived.Test.YtgikcciakbnehaaDoorBytes
set_option maxRecDepth 100000
namespace Go.Proofs.YtgikcciakbnehaaDoor.Lex
open Go.Proofs.YtgikcciakbnehaaDoor Go.Proofs.YtgikcciakbnehaaDoor.Ser
open Go.ChangeShapes Go.WideShapes Go.ChangeAt Go.RowKit
set_option linter.unusedVariables false
/-- A rune and how many bytes it has; 0: there is none. -/
def runeP (l : List UInt8) : Int × Nat := if (Lib.decodeL l).1 = 65533 ∧ (Lib.decodeL l).2 = 1 then (0, 0) else ((Lib.decodeL l).1, (Lib.decodeL l).2)
/-- The same of bytes as numbers. -/
def runeN (n b0 b1 b2 b3 : Nat) : Int × Nat := if (Lib.decodeN n b0 b1 b2 b3).1 = 65533 ∧ (Lib.decodeN n b0 b1 b2 b3).2 = 1 then (0, 0) else ((Lib.decodeN n b0 b1 b2 b3).1, (Lib.decodeN n b0 b1 b2 b3).2)
theorem runeP_N (s : ByteArray) (i : Nat) : runeP (s.data.toList.drop i) = runeN (s.size - i) (s.data.toList.getD i 0).toNat (s.data.toList.getD (i + 1) 0).toNat (s.data.toList.getD (i + 2) 0).toNat (s.data.toList.getD (i + 3) 0).toNat := by
  unfold runeP runeN
  rw [Lib.decodeL_drop, Lib.decode_N]
  rw [Array.length_toList]
  rfl
theorem at_D (s : ByteArray) (i : Nat) (hi : i < s.size) : s[i].toNat = (s.data.toList.getD i 0).toNat := by
  have : i < s.data.toList.length := by rw [Array.length_toList]; exact hi
  rw [List.getD_eq_getElem?_getD, List.getElem?_eq_getElem this]
  rfl
theorem runeN_1 {n b0 b1 b2 b3 : Nat} (h : b0 < 128) : runeN n b0 b1 b2 b3 = ((b0 : Int), 1) := by
  have e : Lib.decodeN n b0 b1 b2 b3 = (b0, 1) := by unfold Lib.decodeN; rw [if_pos h]
  unfold runeN
  rw [e, if_neg (by intro h'; have := h'.1; simp only at this; omega)]
theorem runeN_bad {n b0 b1 b2 b3 : Nat} (h : Lib.decodeN n b0 b1 b2 b3 = (65533, 1)) : runeN n b0 b1 b2 b3 = (0, 0) := by
  unfold runeN; rw [h]; rfl
theorem runeN_ok {n b0 b1 b2 b3 r k : Nat} (h : Lib.decodeN n b0 b1 b2 b3 = (r, k)) (hk : 2 ≤ k) : runeN n b0 b1 b2 b3 = ((r : Int), k) := by
  unfold runeN; rw [h, if_neg (by intro h'; have := h'.2; simp only at this; omega)]

set_option maxHeartbeats 4000000 in
theorem dn_other {n b0 b1 b2 b3 : Nat} (h1 : b1 < 256) (h2 : b2 < 256) (h3 : b3 < 256) (h : (128 ≤ b0 ∧ b0 < 192) ∨ 248 ≤ b0) (h0 : b0 < 256) : Lib.decodeN n b0 b1 b2 b3 = (65533, 1) := by
  unfold Lib.decodeN
  repeat' split
  all_goals first | rfl | (exfalso; omega) | (apply Prod.ext <;> simp only <;> omega)

set_option maxHeartbeats 4000000 in
theorem dn2_short {n b0 b1 b2 b3 : Nat} (h1 : b1 < 256) (h2 : b2 < 256) (h3 : b3 < 256) (c0 : 192 ≤ b0) (c1 : b0 < 224) (h : n < 2) : Lib.decodeN n b0 b1 b2 b3 = (65533, 1) := by
  unfold Lib.decodeN
  repeat' split
  all_goals first | rfl | (exfalso; omega) | (apply Prod.ext <;> simp only <;> omega)

set_option maxHeartbeats 4000000 in
theorem dn2_c1 {n b0 b1 b2 b3 : Nat} (h1 : b1 < 256) (h2 : b2 < 256) (h3 : b3 < 256) (c0 : 192 ≤ b0) (c1 : b0 < 224) (h : b1 < 128 ∨ 192 ≤ b1) : Lib.decodeN n b0 b1 b2 b3 = (65533, 1) := by
  unfold Lib.decodeN
  repeat' split
  all_goals first | rfl | (exfalso; omega) | (apply Prod.ext <;> simp only <;> omega)

set_option maxHeartbeats 4000000 in
theorem dn2_v {n b0 b1 b2 b3 : Nat} (h1 : b1 < 256) (h2 : b2 < 256) (h3 : b3 < 256) (c0 : 192 ≤ b0) (c1 : b0 < 224) (hn : 2 ≤ n) (d1 : 128 ≤ b1 ∧ b1 < 192) (h : 64 * (b0 - 192) + b1 - 128 < 128 ∨ (55296 ≤ 64 * (b0 - 192) + b1 - 128 ∧ 64 * (b0 - 192) + b1 - 128 < 57344) ∨ 1114111 < 64 * (b0 - 192) + b1 - 128) : Lib.decodeN n b0 b1 b2 b3 = (65533, 1) := by
  unfold Lib.decodeN
  repeat' split
  all_goals first | rfl | (exfalso; omega) | (apply Prod.ext <;> simp only <;> omega)

set_option maxHeartbeats 4000000 in
theorem dn2_ok {n b0 b1 b2 b3 : Nat} (h1 : b1 < 256) (h2 : b2 < 256) (h3 : b3 < 256) (c0 : 192 ≤ b0) (c1 : b0 < 224) (hn : 2 ≤ n) (d1 : 128 ≤ b1 ∧ b1 < 192) (h : ¬ (64 * (b0 - 192) + b1 - 128 < 128 ∨ (55296 ≤ 64 * (b0 - 192) + b1 - 128 ∧ 64 * (b0 - 192) + b1 - 128 < 57344) ∨ 1114111 < 64 * (b0 - 192) + b1 - 128)) : Lib.decodeN n b0 b1 b2 b3 = (64 * (b0 - 192) + b1 - 128, 2) := by
  unfold Lib.decodeN
  repeat' split
  all_goals first | rfl | (exfalso; omega) | (apply Prod.ext <;> simp only <;> omega)

set_option maxHeartbeats 4000000 in
theorem dn3_short {n b0 b1 b2 b3 : Nat} (h1 : b1 < 256) (h2 : b2 < 256) (h3 : b3 < 256) (c0 : 224 ≤ b0) (c1 : b0 < 240) (h : n < 3) : Lib.decodeN n b0 b1 b2 b3 = (65533, 1) := by
  unfold Lib.decodeN
  repeat' split
  all_goals first | rfl | (exfalso; omega) | (apply Prod.ext <;> simp only <;> omega)

set_option maxHeartbeats 4000000 in
theorem dn3_c1 {n b0 b1 b2 b3 : Nat} (h1 : b1 < 256) (h2 : b2 < 256) (h3 : b3 < 256) (c0 : 224 ≤ b0) (c1 : b0 < 240) (h : b1 < 128 ∨ 192 ≤ b1) : Lib.decodeN n b0 b1 b2 b3 = (65533, 1) := by
  unfold Lib.decodeN
  repeat' split
  all_goals first | rfl | (exfalso; omega) | (apply Prod.ext <;> simp only <;> omega)

set_option maxHeartbeats 4000000 in
theorem dn3_c2 {n b0 b1 b2 b3 : Nat} (h1 : b1 < 256) (h2 : b2 < 256) (h3 : b3 < 256) (c0 : 224 ≤ b0) (c1 : b0 < 240) (h : b2 < 128 ∨ 192 ≤ b2) : Lib.decodeN n b0 b1 b2 b3 = (65533, 1) := by
  unfold Lib.decodeN
  repeat' split
  all_goals first | rfl | (exfalso; omega) | (apply Prod.ext <;> simp only <;> omega)

set_option maxHeartbeats 4000000 in
theorem dn3_v {n b0 b1 b2 b3 : Nat} (h1 : b1 < 256) (h2 : b2 < 256) (h3 : b3 < 256) (c0 : 224 ≤ b0) (c1 : b0 < 240) (hn : 3 ≤ n) (d1 : 128 ≤ b1 ∧ b1 < 192) (d2 : 128 ≤ b2 ∧ b2 < 192) (h : 64 * (64 * (b0 - 224) + b1 - 128) + b2 - 128 < 2048 ∨ (55296 ≤ 64 * (64 * (b0 - 224) + b1 - 128) + b2 - 128 ∧ 64 * (64 * (b0 - 224) + b1 - 128) + b2 - 128 < 57344) ∨ 1114111 < 64 * (64 * (b0 - 224) + b1 - 128) + b2 - 128) : Lib.decodeN n b0 b1 b2 b3 = (65533, 1) := by
  unfold Lib.decodeN
  repeat' split
  all_goals first | rfl | (exfalso; omega) | (apply Prod.ext <;> simp only <;> omega)

set_option maxHeartbeats 4000000 in
theorem dn3_ok {n b0 b1 b2 b3 : Nat} (h1 : b1 < 256) (h2 : b2 < 256) (h3 : b3 < 256) (c0 : 224 ≤ b0) (c1 : b0 < 240) (hn : 3 ≤ n) (d1 : 128 ≤ b1 ∧ b1 < 192) (d2 : 128 ≤ b2 ∧ b2 < 192) (h : ¬ (64 * (64 * (b0 - 224) + b1 - 128) + b2 - 128 < 2048 ∨ (55296 ≤ 64 * (64 * (b0 - 224) + b1 - 128) + b2 - 128 ∧ 64 * (64 * (b0 - 224) + b1 - 128) + b2 - 128 < 57344) ∨ 1114111 < 64 * (64 * (b0 - 224) + b1 - 128) + b2 - 128)) : Lib.decodeN n b0 b1 b2 b3 = (64 * (64 * (b0 - 224) + b1 - 128) + b2 - 128, 3) := by
  unfold Lib.decodeN
  repeat' split
  all_goals first | rfl | (exfalso; omega) | (apply Prod.ext <;> simp only <;> omega)

set_option maxHeartbeats 4000000 in
theorem dn4_short {n b0 b1 b2 b3 : Nat} (h1 : b1 < 256) (h2 : b2 < 256) (h3 : b3 < 256) (c0 : 240 ≤ b0) (c1 : b0 < 248) (h : n < 4) : Lib.decodeN n b0 b1 b2 b3 = (65533, 1) := by
  unfold Lib.decodeN
  repeat' split
  all_goals first | rfl | (exfalso; omega) | (apply Prod.ext <;> simp only <;> omega)

set_option maxHeartbeats 4000000 in
theorem dn4_c1 {n b0 b1 b2 b3 : Nat} (h1 : b1 < 256) (h2 : b2 < 256) (h3 : b3 < 256) (c0 : 240 ≤ b0) (c1 : b0 < 248) (h : b1 < 128 ∨ 192 ≤ b1) : Lib.decodeN n b0 b1 b2 b3 = (65533, 1) := by
  unfold Lib.decodeN
  repeat' split
  all_goals first | rfl | (exfalso; omega) | (apply Prod.ext <;> simp only <;> omega)

set_option maxHeartbeats 4000000 in
theorem dn4_c2 {n b0 b1 b2 b3 : Nat} (h1 : b1 < 256) (h2 : b2 < 256) (h3 : b3 < 256) (c0 : 240 ≤ b0) (c1 : b0 < 248) (h : b2 < 128 ∨ 192 ≤ b2) : Lib.decodeN n b0 b1 b2 b3 = (65533, 1) := by
  unfold Lib.decodeN
  repeat' split
  all_goals first | rfl | (exfalso; omega) | (apply Prod.ext <;> simp only <;> omega)

set_option maxHeartbeats 4000000 in
theorem dn4_c3 {n b0 b1 b2 b3 : Nat} (h1 : b1 < 256) (h2 : b2 < 256) (h3 : b3 < 256) (c0 : 240 ≤ b0) (c1 : b0 < 248) (h : b3 < 128 ∨ 192 ≤ b3) : Lib.decodeN n b0 b1 b2 b3 = (65533, 1) := by
  unfold Lib.decodeN
  repeat' split
  all_goals first | rfl | (exfalso; omega) | (apply Prod.ext <;> simp only <;> omega)

set_option maxHeartbeats 4000000 in
theorem dn4_v {n b0 b1 b2 b3 : Nat} (h1 : b1 < 256) (h2 : b2 < 256) (h3 : b3 < 256) (c0 : 240 ≤ b0) (c1 : b0 < 248) (hn : 4 ≤ n) (d1 : 128 ≤ b1 ∧ b1 < 192) (d2 : 128 ≤ b2 ∧ b2 < 192) (d3 : 128 ≤ b3 ∧ b3 < 192) (h : 64 * (64 * (64 * (b0 - 240) + b1 - 128) + b2 - 128) + b3 - 128 < 65536 ∨ (55296 ≤ 64 * (64 * (64 * (b0 - 240) + b1 - 128) + b2 - 128) + b3 - 128 ∧ 64 * (64 * (64 * (b0 - 240) + b1 - 128) + b2 - 128) + b3 - 128 < 57344) ∨ 1114111 < 64 * (64 * (64 * (b0 - 240) + b1 - 128) + b2 - 128) + b3 - 128) : Lib.decodeN n b0 b1 b2 b3 = (65533, 1) := by
  unfold Lib.decodeN
  repeat' split
  all_goals first | rfl | (exfalso; omega) | (apply Prod.ext <;> simp only <;> omega)

set_option maxHeartbeats 4000000 in
theorem dn4_ok {n b0 b1 b2 b3 : Nat} (h1 : b1 < 256) (h2 : b2 < 256) (h3 : b3 < 256) (c0 : 240 ≤ b0) (c1 : b0 < 248) (hn : 4 ≤ n) (d1 : 128 ≤ b1 ∧ b1 < 192) (d2 : 128 ≤ b2 ∧ b2 < 192) (d3 : 128 ≤ b3 ∧ b3 < 192) (h : ¬ (64 * (64 * (64 * (b0 - 240) + b1 - 128) + b2 - 128) + b3 - 128 < 65536 ∨ (55296 ≤ 64 * (64 * (64 * (b0 - 240) + b1 - 128) + b2 - 128) + b3 - 128 ∧ 64 * (64 * (64 * (b0 - 240) + b1 - 128) + b2 - 128) + b3 - 128 < 57344) ∨ 1114111 < 64 * (64 * (64 * (b0 - 240) + b1 - 128) + b2 - 128) + b3 - 128)) : Lib.decodeN n b0 b1 b2 b3 = (64 * (64 * (64 * (b0 - 240) + b1 - 128) + b2 - 128) + b3 - 128, 4) := by
  unfold Lib.decodeN
  repeat' split
  all_goals first | rfl | (exfalso; omega) | (apply Prod.ext <;> simp only <;> omega)

/-- The bytes behind the first. -/
def dn (b1 b2 b3 : Nat) : Nat → Nat
  | 1 => b1
  | 2 => b2
  | 3 => b3
  | _ => 0
/-- The number, so many bytes on. -/
def cvF (a : Int) (d : Nat → Nat) : Nat → Int
  | 0 => a
  | k + 1 => 64 * cvF a d k + d (k + 1) - 128
theorem cvF_succ (a : Int) (d : Nat → Nat) (k : Nat) : cvF a d (k + 1) = 64 * cvF a d k + d (k + 1) - 128 := rfl
theorem cv_bd {a : Int} {d : Nat → Nat} (h0 : 0 ≤ a) (h1 : a < 32) (j : Nat) (hj : j ≤ 3) (hc : ∀ jj, 1 ≤ jj → jj ≤ j → 128 ≤ d jj ∧ d jj < 192) : 0 ≤ cvF a d j ∧ cvF a d j < 8388608 := by
  have e1 : 1 ≤ j → 0 ≤ cvF a d 1 ∧ cvF a d 1 < 2048 := fun h => by have := hc 1 (by decide) h; have e : cvF a d 1 = 64 * a + d 1 - 128 := rfl; omega
  have e2 : 2 ≤ j → 0 ≤ cvF a d 2 ∧ cvF a d 2 < 131072 := fun h => by have := hc 2 (by decide) h; have := e1 (by omega); have e : cvF a d 2 = 64 * cvF a d 1 + d 2 - 128 := rfl; omega
  have e3 : 3 ≤ j → 0 ≤ cvF a d 3 ∧ cvF a d 3 < 8388608 := fun h => by have := hc 3 (by decide) h; have := e2 (by omega); have e : cvF a d 3 = 64 * cvF a d 2 + d 3 - 128 := rfl; omega
  rcases (show j = 0 ∨ j = 1 ∨ j = 2 ∨ j = 3 by omega) with rfl | rfl | rfl | rfl
  · simp only [cvF]; omega
  · have := e1 (by decide); omega
  · have := e2 (by decide); omega
  · exact e3 (by decide)
theorem cont_succ {d : Nat → Nat} {j : Nat} (hc : ∀ jj, 1 ≤ jj → jj ≤ j → 128 ≤ d jj ∧ d jj < 192) (h : 128 ≤ d (j + 1) ∧ d (j + 1) < 192) : ∀ jj, 1 ≤ jj → jj ≤ j + 1 → 128 ≤ d jj ∧ d jj < 192 := by
  intro jj h1 h2
  by_cases e : jj = j + 1
  · rw [e]; exact h
  · exact hc jj h1 (by omega)

end Go.Proofs.YtgikcciakbnehaaDoor.Lex
