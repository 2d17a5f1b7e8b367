
/-
  Traps within traps; the way back (laws CpuNest, CpuBack).
-/
import Derived.Test.YtnccfdkkedomcaaCpuEnter
import Derived.Test.YtnccfdkkedomcaaCpuAlive
namespace Go.Proofs.Ytnccfdkkedomcaa.Ser
open Go.Proofs.Ytnccfdkkedomcaa
open Go.ChangeShapes Go.WideShapes Go.ChangeAt Go.RowKit
/-! ### Plain: what Enter and Leave make of a state that has all control registers -/
theorem pad_full {C : List Int} (h : 11 ≤ C.length) : pad C = C := by
  unfold pad; rw [show 11 - C.length = 0 by omega]; simp
theorem enC_length (s : St) (a t : Int) : (enC s a t).length = max s.C.length 11 := by unfold enC; simp [pad_length]
theorem enS_length (s : St) (a t : Int) : (enS s a t).C.length = max s.C.length 11 := by unfold enS; simp [enC_length]
theorem leS_length (s : St) : (leS s).C.length = max s.C.length 11 := by unfold leS leC; simp [pad_length]
theorem getD_set (l : List Int) (i j : Nat) (x : Int) (h : i < l.length) : (l.set i x).getD j 0 = if i = j then x else l.getD j 0 := by
  simp only [List.getD_eq_getElem?_getD, List.getElem?_set]
  by_cases e : i = j
  · subst e; simp [h]
  · simp [e]
section
variable {s : St} (h : 11 ≤ s.C.length) (a t : Int)
include h
theorem enS_at (j : Nat) : (enS s a t).C.getD j 0 = if j = 0 then en (s.C.getD 0 0) else if j = 2 then wd s.pc else if j = 3 then wd a else if j = 4 then wd t else s.C.getD j 0 := by
  have l := enC_length s a t
  have l0 : (pad s.C).length = s.C.length := by rw [pad_full h]
  have e : ∀ j, (enC s a t).getD j 0 = if j = 4 then wd t else if j = 3 then wd a else if j = 2 then wd s.pc else s.C.getD j 0 := by
    intro j
    unfold enC
    rw [getD_set _ _ _ _ (by simp; omega), getD_set _ _ _ _ (by simp; omega), getD_set _ _ _ _ (by omega), pad_full h]
    by_cases h4 : j = 4
    · subst h4; simp
    by_cases h3 : j = 3
    · subst h3; simp
    by_cases h2 : j = 2
    · subst h2; simp
    rw [if_neg (by omega), if_neg (by omega), if_neg (by omega), if_neg h4, if_neg h3, if_neg h2]
  show ((enC s a t).set 0 (en ((enC s a t).getD 0 0))).getD j 0 = _
  rw [getD_set _ _ _ _ (by omega), e j, e 0]
  by_cases h0 : j = 0
  · subst h0; simp
  rw [if_neg (by omega), if_neg h0]
  by_cases h2 : j = 2
  · subst h2; simp
  by_cases h3 : j = 3
  · subst h3; simp
  by_cases h4 : j = 4
  · subst h4; simp
  rw [if_neg h4, if_neg h3, if_neg h2, if_neg h2, if_neg h3, if_neg h4]
theorem enS_pc : (enS s a t).pc = wd (s.C.getD 1 0) := by
  have e := enS_at h a t 1
  show wd (((enC s a t).set 0 (en ((enC s a t).getD 0 0))).getD 1 0) = _
  have e2 : ((enC s a t).set 0 (en ((enC s a t).getD 0 0))).getD 1 0 = (enS s a t).C.getD 1 0 := rfl
  rw [e2, e]; simp
theorem leS_at (j : Nat) : (leS s).C.getD j 0 = if j = 0 then le (s.C.getD 0 0) else s.C.getD j 0 := by
  show ((pad s.C).set 0 (le ((pad s.C).getD 0 0))).getD j 0 = _
  rw [pad_full h, getD_set _ _ _ _ (by omega)]
  by_cases h0 : j = 0
  · subst h0; simp
  · rw [if_neg (by omega), if_neg h0]
theorem leS_pc : (leS s).pc = wd (s.C.getD 2 0) := by
  have e := leS_at h 2
  show wd ((leS s).C.getD 2 0) = _
  rw [e]; simp
end
theorem nest_facts {s : St} (h : 11 ≤ s.C.length) (a b : Int) : (enS (enS s a 1) b 2).C.getD 2 0 = wd (s.C.getD 1 0) ∧ (enS (enS s a 1) b 2).C.getD 3 0 = wd b ∧ (enS (enS s a 1) b 2).C.getD 4 0 = 2 ∧ (enS (enS s a 1) b 2).C.getD 0 0 = 12 ∧ (leS (enS (enS s a 1) b 2)).C.getD 0 0 = 6 := by
  have h1 : 11 ≤ (enS s a 1).C.length := by rw [enS_length]; omega
  have h2 : 11 ≤ (enS (enS s a 1) b 2).C.length := by rw [enS_length]; omega
  have h0 : (enS (enS s a 1) b 2).C.getD 0 0 = 12 := by
    rw [enS_at h1]; simp only [if_true]
    rw [enS_at h]; simp only [if_true]
    have := en_one (s.C.getD 0 0); have := en_s (s.C.getD 0 0)
    unfold en at *; omega
  refine ⟨?_, ?_, ?_, h0, ?_⟩
  · rw [enS_at h1]; simp [enS_pc h, wd_wd]
  · rw [enS_at h1]; simp
  · rw [enS_at h1]; simp; decide
  · rw [leS_at h2]; simp only [if_true]; rw [h0]; decide
theorem back_facts {s : St} (h : 11 ≤ s.C.length) (a t : Int) : (leS (enS s a t)).pc = wd s.pc ∧ bits .and .i64 ((leS (enS s a t)).C.getD 0 0) 5 = bits .and .i64 (s.C.getD 0 0) 5 ∧ (leS (enS s a t)).R = s.R := by
  have h1 : 11 ≤ (enS s a t).C.length := by rw [enS_length]; omega
  refine ⟨?_, ?_, rfl⟩
  · rw [leS_pc h1, enS_at h]; simp [wd_wd]
  · rw [leS_at h1]; simp only [if_true]
    rw [enS_at h]; simp only [if_true]
    rw [and5, and5, back_one, back_s]
end Go.Proofs.Ytnccfdkkedomcaa.Ser
