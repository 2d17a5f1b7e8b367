
/-
  append of a part of a row of calls.
-/
import Derived.Test.YtkcjhhppfolajaaTlbPM
namespace Go.Proofs.Ytkcjhhppfolajaa
open Go.ChangeShapes Go.WideShapes Go.ChangeAt Go.RowKit
theorem wpList_part {w : World} {ops : Array Oper} {rest : List Oper} {o : Oper} {a : Act} {Q : Exit → Act → World → Prop} (hgd : o.guard = none) (s x : Operand)
    (ho : o.op = .call { callee := .builtin .append, args := #[s, x], argTypes := #[22, 22] }) {B : Nat} (hB : B ≤ w.heap.size) {v1 : Value} {R1 : List A4} (hs : a.eval s = v1) (hown : w.ownsRow B 27 4 v1 R1.length (rc R1))
    {p : Option Addr} {m c : Nat} (R2 : List A4) (hx : a.eval x = .slice p m c) (hm : R2.length = m) (hnil : p = none → m = 0 ∧ c = 0) (hsrc : ∀ ad, p = some ad → ∀ j u, (rc R2)[j]? = some u → w.cell? (ad.add j) = some u) (hsz : R1.length + m ≤ 1000000)
    (h : ∀ v' w', w'.ownsRow B 27 4 v' (R1 ++ R2).length (rc (R1 ++ R2)) → w.grownBy w' v1.ownBlock → wpList Try.prog ops Q rest (a.put o.dst v') w') : wpList Try.prog ops Q (o :: rest) a w := by
  obtain ⟨i, hi, hz0, hz1, hz2⟩ := info_parts info_act
  cases p with
  | none =>
    obtain ⟨rfl, rfl⟩ := hnil rfl
    obtain rfl := List.eq_nil_of_length_eq_zero hm
    refine wpList_append_own_none hgd s x 22 ho B 27 i 4 Try.underlying22 hi v1 R1.length (rc R1) hs hown hx (h v1 w ?_ ⟨rfl, rfl, rfl, Nat.le_refl _, fun _ _ _ => rfl⟩)
    rw [List.append_nil]; exact hown
  | some ad =>
    refine wpList_append_own w hgd s x 22 ho B 27 i _ 4 32 Try.underlying22 hi hz0 hz1 hz2 rfl (by decide) v1 R1.length (rc R1) hs hown ad m c (rc R2) hx (by rw [rc_length, hm]) (hsrc ad rfl) (rc_one _) (by unfold maxLen; omega) (by omega) hB ?_
    intro v' w1 h1 h2 _
    refine h v' w1 ?_ h2
    rw [List.length_append, hm, rc_append]; exact h1
/-- The part of a row behind place k: where it begins, what lies there. -/
theorem part_src {w : World} {B g cap : Nat} {R : List A4} (h : w.ownsRow B 27 4 (.slice (some ⟨g, 0, none⟩) R.length cap) R.length (rc R)) (k : Nat) (hk : k ≤ R.length) :
    ∃ A : Addr, (if cap = k then some (⟨g, 0, none⟩ : Addr) else some ⟨g, k * 4, none⟩) = some A ∧ ∀ j u, (rc (R.drop k))[j]? = some u → w.cell? (A.add j) = some u := by
  by_cases hck : cap = k
  · refine ⟨⟨g, 0, none⟩, by simp [hck], fun j u hu => ?_⟩
    obtain ⟨p, c, e, -, h1, -⟩ := own_form h
    injection e with e1 e2 e3
    have : (R.drop k).length = 0 := by rw [List.length_drop]; omega
    rw [List.eq_nil_of_length_eq_zero this] at hu
    simp [rc] at hu
  · refine ⟨⟨g, k * 4, none⟩, by simp [hck], fun j u hu => ?_⟩
    rw [Addr.add_lit]
    rw [← rc_drop, List.getElem?_drop] at hu
    by_cases hR : 0 < R.length
    · obtain ⟨g', cap', e, -, -, -, hc, -⟩ := own_cells h hR
      injection e with e1 e2 e3
      injection e1 with e1
      injection e1 with e1
      subst e1
      exact hc _ _ hu
    · have : R = [] := List.eq_nil_of_length_eq_zero (by omega)
      subst this
      simp [rc] at hu
/-- The part ahead of it. -/
theorem head_src {w : World} {B g cap : Nat} {R : List A4} (h : w.ownsRow B 27 4 (.slice (some ⟨g, 0, none⟩) R.length cap) R.length (rc R)) (k : Nat) :
    ∀ j u, (rc (R.take k))[j]? = some u → w.cell? ((⟨g, 0, none⟩ : Addr).add j) = some u := by
  intro j u hu
  rw [Addr.add_lit, Nat.zero_add]
  rw [← rc_take] at hu
  have hj : j < k * 4 := by
    have := (List.getElem?_eq_some_iff.1 hu).1
    rw [List.length_take] at this; omega
  rw [List.getElem?_take_of_lt hj] at hu
  have hR : 0 < R.length := by
    have := (List.getElem?_eq_some_iff.1 hu).1
    rw [rc_length] at this; omega
  obtain ⟨g', cap', e, -, -, -, hc, -⟩ := own_cells h hR
  injection e with e1 e2 e3
  injection e1 with e1
  injection e1 with e1
  subst e1
  exact hc _ _ hu
/-- What a row that is known holds, as a source. -/
theorem own_src {w : World} {B : Nat} {p : Option Addr} {n c : Nat} {R : List A4} (h : w.ownsRow B 27 4 (.slice p n c) R.length (rc R)) : ∀ ad, p = some ad → ∀ j u, (rc R)[j]? = some u → w.cell? (ad.add j) = some u := by
  rintro ad rfl j u hu
  have hR : 0 < R.length := by
    have := (List.getElem?_eq_some_iff.1 hu).1
    rw [rc_length] at this; omega
  obtain ⟨g', cap', e, -, -, -, hc, -⟩ := own_cells h hR
  injection e with e1 e2 e3
  injection e1 with e1
  subst e1
  rw [Addr.add_lit, Nat.zero_add]
  exact hc _ _ hu
theorem below_grown {w w' : World} {v : Value} {B : Nat} (h : w.grownBy w' v.ownBlock) (hB : B ≤ w.heap.size) (hv : ∀ g, v.ownBlock = some g → B ≤ g) : Below B w w' :=
  ⟨h.os, h.tape, h.output, h.size, fun k hk => h.block k (by omega) (fun e => by have := hv k e.symm; omega)⟩
end Go.Proofs.Ytkcjhhppfolajaa
