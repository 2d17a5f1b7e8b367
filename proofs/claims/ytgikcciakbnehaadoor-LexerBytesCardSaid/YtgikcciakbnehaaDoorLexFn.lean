
/-
  Package lexer: the small functions on a rune.
-/
import Derived.Test.YtgikcciakbnehaaDoorLexMath
import Derived.Test.YtgikcciakbnehaaDoorBytes
set_option maxRecDepth 100000
namespace Go.Proofs.YtgikcciakbnehaaDoor.Lex
open Go.Proofs.YtgikcciakbnehaaDoor Go.Proofs.YtgikcciakbnehaaDoor.Ser
open Go.ChangeShapes Go.WideShapes Go.ChangeAt Go.RowKit
abbrev i32 (x : Int) : Value := .int .i32 x
theorem ret_b {a b : Bool} (h : a = b) : Ending.returned (.bool a) = .returned (.bool b) := by rw [h]
theorem isBlank_says (r : Int) (w : World) : Calls Tryd.prog 23 #[i32 r] w fun e w' => e = .returned (.bool (blank r)) ∧ w = w' := by
  obtain ⟨p, hp⟩ : ∃ p : Ending → World → Prop, p = fun e w' => e = .returned (.bool (blank r)) ∧ w = w' := ⟨_, rfl⟩
  rw [← hp]
  have h1 : p (.returned (.bool (blank r))) w := by rw [hp]; exact ⟨rfl, rfl⟩
  clear hp
  unfold blank at h1
  go_enter Tryd.func23, Tryd.ntmps23
  cases h32 : (r == 32) <;> cases h9 : (r == 9) <;> cases h13 : (r == 13) <;> (rw [h32, h9, h13] at h1; go_wp2; exact h1)
theorem isDigit_says (r : Int) (w : World) : Calls Tryd.prog 29 #[i32 r] w fun e w' => e = .returned (.bool (dig r)) ∧ w = w' := by
  obtain ⟨p, hp⟩ : ∃ p : Ending → World → Prop, p = fun e w' => e = .returned (.bool (dig r)) ∧ w = w' := ⟨_, rfl⟩
  rw [← hp]
  have h1 : p (.returned (.bool (dig r))) w := by rw [hp]; exact ⟨rfl, rfl⟩
  clear hp
  unfold dig at h1
  go_enter Tryd.func29, Tryd.ntmps29
  by_cases ha : 48 ≤ r <;> by_cases hb : r ≤ 57 <;> (simp only [ha, hb, decide_true, decide_false, Bool.true_and, Bool.false_and] at h1; go_wp2; exact h1)
theorem isSign_says (r : Int) (w : World) : Calls Tryd.prog 33 #[i32 r] w fun e w' => e = .returned (.bool (sgn r)) ∧ w = w' := by
  obtain ⟨p, hp⟩ : ∃ p : Ending → World → Prop, p = fun e w' => e = .returned (.bool (sgn r)) ∧ w = w' := ⟨_, rfl⟩
  rw [← hp]
  have h1 : p (.returned (.bool (sgn r))) w := by rw [hp]; exact ⟨rfl, rfl⟩
  clear hp
  go_enter Tryd.func33, Tryd.ntmps33
  by_cases e1 : r = 44
  · subst e1; go_wp2; exact h1
  by_cases e2 : r = 58
  · subst e2; go_wp2; exact h1
  by_cases e3 : r = 45
  · subst e3; go_wp2; exact h1
  by_cases e4 : r = 43
  · subst e4; go_wp2; exact h1
  by_cases e5 : r = 40
  · subst e5; go_wp2; exact h1
  by_cases e6 : r = 41
  · subst e6; go_wp2; exact h1
  by_cases e7 : r = 61
  · subst e7; go_wp2; exact h1
  have h0 : sgn r = false := by simp [sgn, e1, e2, e3, e4, e5, e6, e7]
  rw [h0] at h1
  have f1 := beq_false_of_ne e1; have f2 := beq_false_of_ne e2; have f3 := beq_false_of_ne e3; have f4 := beq_false_of_ne e4
  have f5 := beq_false_of_ne e5; have f6 := beq_false_of_ne e6; have f7 := beq_false_of_ne e7
  clear e1 e2 e3 e4 e5 e6 e7 h0
  go_wp2
  exact h1
theorem isLetter_says (r : Int) (w : World) : Calls Tryd.prog 27 #[i32 r] w fun e w' => e = .returned (.bool (letter r)) ∧ w = w' := by
  obtain ⟨p, hp⟩ : ∃ p : Ending → World → Prop, p = fun e w' => e = .returned (.bool (letter r)) ∧ w = w' := ⟨_, rfl⟩
  rw [← hp]
  have h1 : p (.returned (.bool (letter r))) w := by rw [hp]; exact ⟨rfl, rfl⟩
  clear hp
  unfold letter at h1
  go_enter Tryd.func27, Tryd.ntmps27
  by_cases ha : 97 ≤ r
  · by_cases hb : r ≤ 122
    · simp only [ha, hb, decide_true, Bool.true_and, Bool.true_or] at h1
      go_wp2; exact h1
    · by_cases hc : 128 ≤ r
      · have a1 : ¬ r ≤ 90 := by omega
        have a2 : (r == 95) = false := by simp; omega
        have a3 : (r == 46) = false := by simp; omega
        have a4 : 65 ≤ r := by omega
        simp only [ha, hb, hc, a1, a2, a3, a4, decide_true, decide_false, Bool.or_true, Bool.and_false, Bool.or_false] at h1
        go_wp2; exact h1
      · have a1 : ¬ r ≤ 90 := by omega
        have a2 : (r == 95) = false := by simp; omega
        have a3 : (r == 46) = false := by simp; omega
        have a4 : 65 ≤ r := by omega
        simp only [ha, hb, hc, a1, a2, a3, a4, decide_true, decide_false, Bool.and_false, Bool.or_false] at h1
        go_wp2; exact h1
  · have hc : ¬ 128 ≤ r := by omega
    by_cases a4 : 65 ≤ r
    · have a3 : (r == 46) = false := by simp; omega
      by_cases a1 : r ≤ 90
      · simp only [ha, a1, a4, decide_true, decide_false, Bool.true_and, Bool.false_and, Bool.false_or, Bool.true_or] at h1
        go_wp2; exact h1
      · by_cases h95 : r = 95
        · subst h95; go_wp2; exact h1
        · have a2 : (r == 95) = false := by simp; omega
          simp only [ha, hc, a1, a2, a3, a4, decide_true, decide_false, Bool.false_and, Bool.and_false, Bool.false_or] at h1
          go_wp2; exact h1
    · have a2 : (r == 95) = false := by simp; omega
      by_cases h46 : r = 46
      · subst h46; go_wp2; exact h1
      · have a3 : (r == 46) = false := by simp; omega
        simp only [ha, hc, a2, a3, a4, decide_false, Bool.false_and, Bool.false_or] at h1
        go_wp2; exact h1
/-- What digit answers: the value; whether it is one. -/
def digA (b r : Int) : Ending := if isd b r then .returned (.tuple #[i64 (hexv r), .bool true]) else .returned (.tuple #[i64 0, .bool false])
theorem isd_of {b r x : Int} (h : hexv r = x) (h0 : 0 ≤ x) : isd b r = decide (x < b) := by unfold isd; rw [h]; simp [h0]
theorem digit_says (b r : Int) (hb : b = 10 ∨ b = 16) (hr : -2 ≤ r ∧ r ≤ 1114111) (w : World) : Calls Tryd.prog 40 #[i32 r, i64 b] w fun e w' => e = digA b r ∧ w = w' := by
  obtain ⟨p, hp⟩ : ∃ p : Ending → World → Prop, p = fun e w' => e = digA b r ∧ w = w' := ⟨_, rfl⟩
  rw [← hp]
  have h1 : isd b r = true → p (.returned (.tuple #[i64 (hexv r), .bool true])) w := by intro h; rw [hp]; refine ⟨?_, rfl⟩; unfold digA; rw [if_pos h]
  have h2 : isd b r = false → p (.returned (.tuple #[i64 0, .bool false])) w := by intro h; rw [hp]; refine ⟨?_, rfl⟩; unfold digA; rw [if_neg (by simp [h])]
  clear hp
  go_enter Tryd.func40, Tryd.ntmps40
  by_cases hd : dig r = true
  · have hx : hexv r = r - 48 := by unfold hexv; rw [if_pos hd]
    rw [isd_of hx (by unfold dig at hd; simp at hd; omega), hx] at h1
    rw [isd_of hx (by unfold dig at hd; simp at hd; omega)] at h2
    have hd2 : 48 ≤ r ∧ r ≤ 57 := by unfold dig at hd; simpa using hd
    by_cases hc : r - 48 < b
    · replace h1 := h1 (decide_eq_true hc); clear h2 hx
      go_wp2_with (go_at_call 29; refine (isDigit_says r _).mono ?_; rintro e w1 ⟨rfl, rfl⟩; rw [hd])
      exact h1
    · exfalso; rcases hb with rfl | rfl <;> omega
  · have hd' : dig r = false := by simpa using hd
    have hn : ¬ (48 ≤ r ∧ r ≤ 57) := by intro h; apply hd; unfold dig; simp [h]
    by_cases ha : 97 ≤ r ∧ r ≤ 102
    · have hx : hexv r = r - 87 := by unfold hexv; rw [if_neg hd, if_pos ha]
      rw [isd_of hx (by omega), hx] at h1
      rw [isd_of hx (by omega)] at h2
      obtain ⟨ha1, ha2⟩ := ha
      rcases hb with rfl | rfl
      · replace h2 := h2 (decide_eq_false (by omega)); clear h1 hx
        go_wp2_with (go_at_call 29; refine (isDigit_says r _).mono ?_; rintro e w1 ⟨rfl, rfl⟩; rw [hd'])
        exact h2
      · replace h1 := h1 (decide_eq_true (by omega)); clear h2 hx
        have e : r - 97 + 10 = r - 87 := by omega
        go_wp2_with (go_at_call 29; refine (isDigit_says r _).mono ?_; rintro e w1 ⟨rfl, rfl⟩; rw [hd'])
        exact h1
    · by_cases hA : 65 ≤ r ∧ r ≤ 70
      · have hx : hexv r = r - 55 := by unfold hexv; rw [if_neg hd, if_neg ha, if_pos hA]
        rw [isd_of hx (by omega), hx] at h1
        rw [isd_of hx (by omega)] at h2
        obtain ⟨ha1, ha2⟩ := hA
        rcases hb with rfl | rfl
        · replace h2 := h2 (decide_eq_false (by omega)); clear h1 hx
          go_wp2_with (go_at_call 29; refine (isDigit_says r _).mono ?_; rintro e w1 ⟨rfl, rfl⟩; rw [hd'])
          exact h2
        · replace h1 := h1 (decide_eq_true (by omega)); clear h2 hx
          have e : r - 65 + 10 = r - 55 := by omega
          go_wp2_with (go_at_call 29; refine (isDigit_says r _).mono ?_; rintro e w1 ⟨rfl, rfl⟩; rw [hd'])
          exact h1
      · have hx : hexv r = -1 := by unfold hexv; rw [if_neg hd, if_neg ha, if_neg hA]
        have h0 : isd b r = false := by unfold isd; rw [hx]; simp
        replace h2 := h2 h0; clear h1 hx h0
        have h3 : r < 65 ∨ (70 < r ∧ r < 97) ∨ 102 < r := by omega
        clear hd hn ha hA
        rcases hb with rfl | rfl <;> rcases h3 with h3 | ⟨h3, h4⟩ | h3 <;> (go_wp2_with (go_at_call 29; refine (isDigit_says r _).mono ?_; rintro e w1 ⟨rfl, rfl⟩; rw [hd']); exact h2)
end Go.Proofs.YtgikcciakbnehaaDoor.Lex
