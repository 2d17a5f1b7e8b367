
/-
  Names, plain: what the lexer makes of a name of n runes; settled by the kernel for every n up to sixty.
-/
import Derived.Test.YtkgapellgfbdnaaDoorLexNo
set_option maxRecDepth 100000
namespace Go.Proofs.YtkgapellgfbdnaaDoor.Lex
open Go
/-- A name of n runes. -/
def nm (b : Bool) : Nat → ByteArray
  | 0 => ⟨#[]⟩
  | n + 1 => nm b n ++ (if b then ⟨#[228, 184, 173]⟩ else ⟨#[95]⟩)
/-- The number's text, with a letter ahead and a sign behind, and with a letter behind. -/
def nb (n : Nat) : ByteArray := ⟨(dcl 1 n).toArray⟩
def s2 (n : Nat) : ByteArray := ⟨#[97]⟩ ++ nb n ++ ⟨#[32, 44]⟩
def s3 (n : Nat) : ByteArray := nb n ++ ⟨#[97]⟩
def same (a b : ByteArray) : Bool := a.data.toList == b.data.toList
theorem same_eq {a b : ByteArray} (h : same a b = true) : a = b := by
  unfold same at h
  have h := eq_of_beq h
  cases a; cases b
  congr 1
  exact Array.toList_inj.1 h
def chkA (b : Bool) (n : Nat) : Bool :=
  match lexS (nm b n) with
  | (T, _, _, e) => if 40 < n then e == 2 else (e == 0 && match T with | [t, u] => same t.text (nm b n) && u.col == (n : Int) + 1 | _ => false)
def chkB (n : Nat) : Bool :=
  match lexS (s2 n) with
  | (T, _, _, e) => e == 0 && match T with | [t, _, _] => t.kind == 1 | _ => false
def chkC (n : Nat) : Bool :=
  match lexS (s3 n) with
  | (_, _, c, e) => e == 3 && c == ((nb n).size : Int) + 1
theorem all_chk : ((List.range 61).all fun n => n == 0 || (chkA true n && chkA false n && chkB n && chkC n)) = true := by kernel_rfl
theorem chk_at {n : Nat} (h1 : 1 ≤ n) (h2 : n ≤ 60) (b : Bool) : chkA b n = true ∧ chkB n = true ∧ chkC n = true := by
  have := List.all_eq_true.1 all_chk n (List.mem_range.2 (by omega))
  have h0 : (n == 0) = false := by simp; omega
  rw [h0, Bool.false_or] at this
  simp only [Bool.and_eq_true] at this
  obtain ⟨⟨⟨h3, h4⟩, h5⟩, h6⟩ := this
  exact ⟨by cases b; exact h4; exact h3, h5, h6⟩
theorem chkA_says {b : Bool} {n : Nat} (h : chkA b n = true) : ∃ T l c e, lexS (nm b n) = (T, l, c, e) ∧ (40 < n → e = 2) ∧ (¬ 40 < n → e = 0 ∧ ∃ t u, T = [t, u] ∧ t.text = nm b n ∧ u.col = (n : Int) + 1) := by
  unfold chkA at h
  obtain ⟨⟨T, l, c, e⟩, hz⟩ : ∃ z, lexS (nm b n) = z := ⟨_, rfl⟩
  rw [hz] at h
  simp only at h
  refine ⟨T, l, c, e, hz, fun h40 => ?_, fun h40 => ?_⟩
  · rw [if_pos h40] at h; exact eq_of_beq h
  · rw [if_neg h40, Bool.and_eq_true] at h
    obtain ⟨h1, h2⟩ := h
    refine ⟨eq_of_beq h1, ?_⟩
    match T, h2 with
    | [t, u], h2 =>
      rw [Bool.and_eq_true] at h2
      exact ⟨t, u, rfl, same_eq h2.1, eq_of_beq h2.2⟩
theorem chkB_says {n : Nat} (h : chkB n = true) : ∃ l c t u v, lexS (s2 n) = ([t, u, v], l, c, 0) ∧ t.kind = 1 := by
  unfold chkB at h
  obtain ⟨⟨T, l, c, e⟩, hz⟩ : ∃ z, lexS (s2 n) = z := ⟨_, rfl⟩
  rw [hz] at h
  simp only [Bool.and_eq_true] at h
  obtain ⟨h1, h2⟩ := h
  obtain rfl := eq_of_beq h1
  match T, h2 with
  | [t, u, v], h2 => exact ⟨l, c, t, u, v, hz, eq_of_beq h2⟩
theorem chkC_says {n : Nat} (h : chkC n = true) : ∃ T l, lexS (s3 n) = (T, l, ((nb n).size : Int) + 1, 3) := by
  unfold chkC at h
  obtain ⟨⟨T, l, c, e⟩, hz⟩ : ∃ z, lexS (s3 n) = z := ⟨_, rfl⟩
  rw [hz] at h
  simp only [Bool.and_eq_true] at h
  obtain ⟨h1, h2⟩ := h
  obtain rfl := eq_of_beq h1
  obtain rfl := eq_of_beq h2
  exact ⟨T, l, hz⟩
theorem nm_size (b : Bool) : ∀ n, (nm b n).size ≤ 3 * n
  | 0 => Nat.le_refl _
  | n + 1 => by
    have := nm_size b n
    show (nm b n ++ _).size ≤ _
    rw [ByteArray.size_append]
    have h3 : (if b then (⟨#[228, 184, 173]⟩ : ByteArray) else ⟨#[95]⟩).size ≤ 3 := by cases b <;> decide
    omega
theorem nb_size (n : Nat) : (nb n).size ≤ 2 := by
  have := dcl_len 1 n
  show (dcl 1 n).toArray.size ≤ 2
  rw [List.size_toArray]; exact this
end Go.Proofs.YtkgapellgfbdnaaDoor.Lex
