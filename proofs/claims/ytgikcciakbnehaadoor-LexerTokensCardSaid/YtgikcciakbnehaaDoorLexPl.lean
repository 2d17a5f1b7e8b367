
/-
  The document's own lexer: letter, digit, hex, escape.
-/
import Derived.Test.YtgikcciakbnehaaDoorLexFn
set_option maxRecDepth 100000
namespace Go.Proofs.YtgikcciakbnehaaDoor.Lex
open Go.Proofs.YtgikcciakbnehaaDoor Go.Proofs.YtgikcciakbnehaaDoor.Ser
open Go.ChangeShapes Go.WideShapes Go.ChangeAt Go.RowKit
theorem rdigit_says (r : Int) (w : World) : Calls Tryd.prog 18 #[i64 r] w fun e w' => e = .returned (.bool (dig r)) ∧ w = w' := by
  obtain ⟨p, hp⟩ : ∃ p : Ending → World → Prop, p = fun e w' => e = .returned (.bool (dig r)) ∧ w = w' := ⟨_, rfl⟩
  rw [← hp]
  have h1 : p (.returned (.bool (dig r))) w := by rw [hp]; exact ⟨rfl, rfl⟩
  clear hp
  unfold dig at h1
  go_enter Tryd.func18, Tryd.ntmps18
  by_cases ha : 48 ≤ r <;> by_cases hb : r ≤ 57 <;> (simp only [ha, hb, decide_true, decide_false, Bool.true_and, Bool.false_and] at h1; go_wp2; exact h1)
theorem rletter_says (r : Int) (w : World) : Calls Tryd.prog 17 #[i64 r] w fun e w' => e = .returned (.bool (letter r)) ∧ w = w' := by
  obtain ⟨p, hp⟩ : ∃ p : Ending → World → Prop, p = fun e w' => e = .returned (.bool (letter r)) ∧ w = w' := ⟨_, rfl⟩
  rw [← hp]
  have h1 : p (.returned (.bool (letter r))) w := by rw [hp]; exact ⟨rfl, rfl⟩
  clear hp
  unfold letter at h1
  go_enter Tryd.func17, Tryd.ntmps17
  by_cases ha : 97 ≤ r
  · by_cases hb : r ≤ 122
    · simp only [ha, hb, decide_true, Bool.true_and, Bool.true_or] at h1
      go_wp2; exact h1
    · by_cases hc : 128 ≤ r
      · have a1 : ¬ r ≤ 90 := by omega
        have a2 : (r == 95) = false := by simp; omega
        have a3 : (r == 46) = false := by simp; omega
        have a4 : 65 ≤ r := by omega
        simp only [ha, hb, hc, a1, a2, a3, a4, decide_true, decide_false, Bool.or_true, Bool.and_false, Bool.or_false] at h1
        go_wp2; exact h1
      · have a1 : ¬ r ≤ 90 := by omega
        have a2 : (r == 95) = false := by simp; omega
        have a3 : (r == 46) = false := by simp; omega
        have a4 : 65 ≤ r := by omega
        simp only [ha, hb, hc, a1, a2, a3, a4, decide_true, decide_false, Bool.and_false, Bool.or_false] at h1
        go_wp2; exact h1
  · have hc : ¬ 128 ≤ r := by omega
    by_cases a4 : 65 ≤ r
    · have a3 : (r == 46) = false := by simp; omega
      by_cases a1 : r ≤ 90
      · simp only [ha, a1, a4, decide_true, decide_false, Bool.true_and, Bool.false_and, Bool.false_or, Bool.true_or] at h1
        go_wp2; exact h1
      · by_cases h95 : r = 95
        · subst h95; go_wp2; exact h1
        · have a2 : (r == 95) = false := by simp; omega
          simp only [ha, hc, a1, a2, a3, a4, decide_true, decide_false, Bool.false_and, Bool.and_false, Bool.false_or] at h1
          go_wp2; exact h1
    · have a2 : (r == 95) = false := by simp; omega
      by_cases h46 : r = 46
      · subst h46; go_wp2; exact h1
      · have a3 : (r == 46) = false := by simp; omega
        simp only [ha, hc, a2, a3, a4, decide_false, Bool.false_and, Bool.false_or] at h1
        go_wp2; exact h1
theorem rhex_says (r : Int) (hr : -2 ≤ r ∧ r ≤ 1114111) (w : World) : Calls Tryd.prog 36 #[i64 r] w fun e w' => e = .returned (i64 (hexv r)) ∧ w = w' := by
  obtain ⟨p, hp⟩ : ∃ p : Ending → World → Prop, p = fun e w' => e = .returned (i64 (hexv r)) ∧ w = w' := ⟨_, rfl⟩
  rw [← hp]
  have h1 : p (.returned (i64 (hexv r))) w := by rw [hp]; exact ⟨rfl, rfl⟩
  clear hp
  obtain ⟨r0, r1⟩ := hr
  by_cases hd : dig r = true
  · have hx : hexv r = r - 48 := by unfold hexv; rw [if_pos hd]
    have hd2 : 48 ≤ r ∧ r ≤ 57 := by unfold dig at hd; simpa using hd
    obtain ⟨d0, d1⟩ := hd2
    rw [hx] at h1
    clear hx
    go_enter Tryd.func36, Tryd.ntmps36
    go_wp2_with (go_at_call 18; refine (rdigit_says r _).mono ?_; rintro e w1 ⟨rfl, rfl⟩; rw [hd])
    exact h1
  · have hd' : dig r = false := by simpa using hd
    by_cases ha : 97 ≤ r ∧ r ≤ 102
    · have hx : hexv r = r - 97 + 10 := by unfold hexv; rw [if_neg hd, if_pos ha]; omega
      obtain ⟨a0, a1⟩ := ha
      rw [hx] at h1
      clear hx hd
      go_enter Tryd.func36, Tryd.ntmps36
      go_wp2_with (go_at_call 18; refine (rdigit_says r _).mono ?_; rintro e w1 ⟨rfl, rfl⟩; rw [hd'])
      exact h1
    · by_cases hb : 65 ≤ r ∧ r ≤ 70
      · have hx : hexv r = r - 65 + 10 := by unfold hexv; rw [if_neg hd, if_neg ha, if_pos hb]; omega
        obtain ⟨b0, b1⟩ := hb
        have c0 : ¬ 97 ≤ r := by omega
        rw [hx] at h1
        clear hx hd ha
        go_enter Tryd.func36, Tryd.ntmps36
        go_wp2_with (go_at_call 18; refine (rdigit_says r _).mono ?_; rintro e w1 ⟨rfl, rfl⟩; rw [hd'])
        exact h1
      · have hx : hexv r = -1 := by unfold hexv; rw [if_neg hd, if_neg ha, if_neg hb]
        rw [hx] at h1
        rcases (show (¬ 97 ≤ r ∧ ¬ 65 ≤ r) ∨ (¬ 97 ≤ r ∧ 65 ≤ r ∧ ¬ r ≤ 70) ∨ (97 ≤ r ∧ ¬ r ≤ 102 ∧ 65 ≤ r ∧ ¬ r ≤ 70) by omega) with ⟨c0, c1⟩ | ⟨c0, c1, c2⟩ | ⟨c0, c1, c2, c3⟩ <;> (
          clear hx hd ha hb
          go_enter Tryd.func36, Tryd.ntmps36
          go_wp2_with (go_at_call 18; refine (rdigit_says r _).mono ?_; rintro e w1 ⟨rfl, rfl⟩; rw [hd'])
          exact h1)
/-- What stands behind a backslash. -/
def escV (r q : Int) : Int := if r = 110 then 10 else if r = 92 ∨ r = q then r else -1
theorem escape_says (r q : Int) (w : World) : Calls Tryd.prog 37 #[i64 r, i64 q] w fun e w' => e = .returned (i64 (escV r q)) ∧ w = w' := by
  obtain ⟨p, hp⟩ : ∃ p : Ending → World → Prop, p = fun e w' => e = .returned (i64 (escV r q)) ∧ w = w' := ⟨_, rfl⟩
  rw [← hp]
  have h1 : p (.returned (i64 (escV r q))) w := by rw [hp]; exact ⟨rfl, rfl⟩
  clear hp
  by_cases e1 : r = 110
  · subst e1
    have : escV 110 q = 10 := rfl
    rw [this] at h1
    go_enter Tryd.func37, Tryd.ntmps37
    go_wp2
    exact h1
  · have f1 : (r == 110) = false := by rw [beq_eq_false_iff_ne]; exact e1
    by_cases e2 : r = 92
    · subst e2
      have : escV 92 q = 92 := by unfold escV; simp
      rw [this] at h1
      go_enter Tryd.func37, Tryd.ntmps37
      go_wp2
      exact h1
    · have f2 : (r == 92) = false := by rw [beq_eq_false_iff_ne]; exact e2
      by_cases e3 : r = q
      · subst e3
        have : escV r r = r := by unfold escV; simp [e1]
        have f3 : (r == r) = true := beq_self_eq_true r
        rw [this] at h1
        clear e1 e2
        go_enter Tryd.func37, Tryd.ntmps37
        go_wp2
        exact h1
      · have f3 : (r == q) = false := by rw [beq_eq_false_iff_ne]; exact e3
        have : escV r q = -1 := by unfold escV; rw [if_neg e1, if_neg (by omega)]
        rw [this] at h1
        clear e1 e2 e3
        go_enter Tryd.func37, Tryd.ntmps37
        go_wp2
        exact h1
end Go.Proofs.YtgikcciakbnehaaDoor.Lex
