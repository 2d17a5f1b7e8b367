
/-
  Whose a frame is, plainly.
-/
import Derived.Test.YtlddclkophajbaaCfgMath
set_option maxRecDepth 100000
set_option linter.unusedVariables false
namespace Go.Proofs.Ytlddclkophajbaa.Cfg
open Go.Proofs.Ytlddclkophajbaa
/-- What a configuration that can be has, of its host. -/
structure Hd (c : Cf) : Prop where
  pg : 5 ≤ c.pages ∧ c.pages ≤ 256
  ln : 1 ≤ c.parts.length ∧ c.parts.length ≤ 8
  mem : memOk c.pages c.parts
theorem hd_of {c : Cf} (h : chk c = 0) : Hd c := by
  have h' : chkB (@decide (hostOk c) (Classical.propDecidable _)) (@decide (partsOk c.parts) (Classical.propDecidable _)) (@decide (memOk c.pages c.parts) (Classical.propDecidable _)) (@decide (chansOk c.parts.length c.chans) (Classical.propDecidable _)) (@decide (planOk c) (Classical.propDecidable _)) = 0 := h
  have h1 : hostOk c := by
    apply Classical.byContradiction
    intro hn
    simp only [chkB, hn, decide_false, if_true] at h'
    omega
  have h2 : partsOk c.parts := by
    apply Classical.byContradiction
    intro hn
    simp only [chkB, hn, decide_false, if_true] at h'
    split at h' <;> omega
  have h3 : memOk c.pages c.parts := by
    apply Classical.byContradiction
    intro hn
    simp only [chkB, hn, decide_false, if_true] at h'
    split at h' <;> first | omega | (split at h' <;> omega)
  exact ⟨h1, h2.1, h3⟩
theorem Hd.at {c : Cf} (h : Hd c) {k : Nat} {x : Pt} (hx : c.parts[k]? = some x) : 1 ≤ x.pages ∧ x.pages ≤ 64 := h.mem.1 k x hx
theorem Hd.sum {c : Cf} (h : Hd c) {k : Nat} (hk : k ≤ c.parts.length) : 0 ≤ sumTo c.parts k ∧ sumTo c.parts k ≤ 512 := by
  have := sumTo_le c.parts k (fun j p _ hp => h.mem.1 j p hp) hk
  have := h.ln
  omega
theorem sumTo_cons (x : Pt) (l : List Pt) (k : Nat) : sumTo (x :: l) (k + 1) = x.pages + sumTo l k := by simp [sumTo]
theorem sumTo_zero (l : List Pt) : sumTo l 0 = 0 := by simp [sumTo]
theorem sumTo_mono {l : List Pt} (h : ∀ (k : Nat) (p : Pt), l[k]? = some p → 1 ≤ p.pages ∧ p.pages ≤ 64) (k : Nat) : ∀ (m : Nat), k + m ≤ l.length → sumTo l k ≤ sumTo l (k + m)
  | 0, _ => Int.le_refl _
  | m + 1, hm => by
    have h1 := sumTo_mono h k m (by omega)
    have h2 := List.getElem?_eq_getElem (show k + m < l.length by omega)
    have h3 := h _ _ h2
    rw [← Nat.add_assoc, sumTo_succ l (k + m) _ h2]
    omega
/-- Whose the frame n of a row of partitions is. -/
def gsL : List Pt → Int → Int → Int × Int
  | [], _, _ => (-2, -1)
  | x :: l, i, n => if n < x.pages then (i, n) else gsL l (i + 1) (n - x.pages)
theorem gsL_drop {l : List Pt} {j : Nat} {x : Pt} (hx : l[j]? = some x) (i n : Int) : gsL (l.drop j) i n = if n < x.pages then (i, n) else gsL (l.drop (j + 1)) (i + 1) (n - x.pages) := by
  obtain ⟨hj, rfl⟩ := List.getElem?_eq_some_iff.1 hx
  rw [List.drop_eq_getElem_cons hj]
  rfl
theorem gsL_at : ∀ {l : List Pt} (i : Int) (k : Nat) (x : Pt) (j : Int), (∀ (k : Nat) (p : Pt), l[k]? = some p → 1 ≤ p.pages ∧ p.pages ≤ 64) → l[k]? = some x → 0 ≤ j → j < x.pages → gsL l i (sumTo l k + j) = (i + k, j)
  | [], _, k, x, _, _, hx, _, _ => by simp at hx
  | y :: l, i, 0, x, j, h, hx, h0, h1 => by
    simp only [List.getElem?_cons_zero, Option.some.injEq] at hx
    subst hx
    simp only [gsL, sumTo_zero, Int.zero_add, h1, if_true]
    simp
  | y :: l, i, k + 1, x, j, h, hx, h0, h1 => by
    have hx' : l[k]? = some x := by simpa using hx
    have hl : ∀ (k : Nat) (p : Pt), l[k]? = some p → 1 ≤ p.pages ∧ p.pages ≤ 64 := fun k p hp => h (k + 1) p (by simpa using hp)
    have hs := sumTo_le l k (fun j p _ hp => hl j p hp) (by have := (List.getElem?_eq_some_iff.1 hx').1; omega)
    have ih := gsL_at (i + 1) k x j hl hx' h0 h1
    simp only [gsL, sumTo_cons]
    rw [if_neg (by omega), (by omega : y.pages + sumTo l k + j - y.pages = sumTo l k + j), ih]
    ext
    · show i + 1 + (k : Int) = i + ((k + 1 : Nat) : Int)
      omega
    · rfl
theorem gsL_none : ∀ {l : List Pt} (i n : Int), (∀ (k : Nat) (p : Pt), l[k]? = some p → 1 ≤ p.pages ∧ p.pages ≤ 64) → sumTo l l.length ≤ n → gsL l i n = (-2, -1)
  | [], _, _, _, _ => rfl
  | y :: l, i, n, h, hn => by
    have hl : ∀ (k : Nat) (p : Pt), l[k]? = some p → 1 ≤ p.pages ∧ p.pages ≤ 64 := fun k p hp => h (k + 1) p (by simpa using hp)
    have hs := sumTo_le l l.length (fun j p _ hp => hl j p hp) (Nat.le_refl _)
    rw [List.length_cons, sumTo_cons] at hn
    simp only [gsL]
    rw [if_neg (by omega)]
    exact gsL_none (i + 1) (n - y.pages) hl (by omega)
theorem gsL_bd : ∀ {l : List Pt} (i n : Int), 0 ≤ i → 0 ≤ n → sumTo l l.length ≤ n ∨ 0 ≤ (gsL l i n).1
  | [], _, _, _, hn => Or.inl (by simpa [sumTo] using hn)
  | y :: l, i, n, hi, hn => by
    simp only [gsL]
    split
    · exact Or.inr hi
    · rw [List.length_cons, sumTo_cons]
      rcases gsL_bd (l := l) (i + 1) (n - y.pages) (by omega) (by omega) with g | g
      · exact Or.inl (by omega)
      · exact Or.inr g
def okA (c : Cf) (part : Int) : Prop := chk c = 0 ∧ 0 ≤ part ∧ part < c.parts.length
def pgOf (l : List Pt) (part : Int) : Int := match l[part.toNat]? with | some x => x.pages | none => 0
open Classical in
noncomputable def firstV (c : Cf) (part : Int) : Int := if okA c part then 4 + sumTo c.parts part.toNat else -1
open Classical in
noncomputable def hostV (c : Cf) (part frame : Int) : Int × Bool := if okA c part ∧ 0 ≤ frame ∧ frame < pgOf c.parts part then (4 + sumTo c.parts part.toNat + frame, true) else (0, false)
open Classical in
noncomputable def guestV (c : Cf) (host : Int) : Int × Int := if chk c = 0 ∧ 0 ≤ host ∧ host < c.pages then (if host < 4 then (-1, -1) else gsL c.parts 0 (host - 4)) else (-3, -1)
end Go.Proofs.Ytlddclkophajbaa.Cfg
