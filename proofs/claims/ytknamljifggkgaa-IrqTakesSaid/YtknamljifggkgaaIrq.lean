
/-
  Contracts of package irq's calls Pick and Takes and of the like answers of trunnionref1: each answers the same plain function, and changes nothing.
-/
import Derived.Test.YtknamljifggkgaaWord
import Derived.Test.YtknamljifggkgaaCsrMath
import Derived.Test.YtknamljifggkgaaCsr
namespace Go.Proofs.Ytknamljifggkgaa
open Go.ChangeShapes Go.WideShapes Go.ChangeAt Go.RowKit
/-- The least of the three lowest bits, and whether there is one. -/
def pkn (b : Int) : Int := if b % 2 = 1 then 0 else if b / 2 % 2 = 1 then 1 else if b / 4 % 2 = 1 then 2 else 0
def pkb (b : Int) : Bool := if b % 2 = 1 then true else if b / 2 % 2 = 1 then true else if b / 4 % 2 = 1 then true else false
/-- What a machine of the status s takes. -/
def tkn (s b : Int) : Int := if s / 4 % 2 = 1 ∧ s % 2 = 0 ∨ pkb b = false then 0 else 2147483648 + pkn b
def tkb (s b : Int) : Bool := if s / 4 % 2 = 1 ∧ s % 2 = 0 ∨ pkb b = false then false else true
theorem pkn_bd (b : Int) : 0 ≤ pkn b ∧ pkn b ≤ 2 := by unfold pkn; (repeat' split) <;> omega
theorem pick_says (p e : Int) : Says 9 #[i64 p, i64 e] (.tuple #[i64 (pkn (bits .and .i64 p e)), .bool (pkb (bits .and .i64 p e))]) := by
  intro w
  have a0 := and1 (bits .and .i64 p e)
  have a1 := and1 (bits .and .i64 p e / 2)
  have a2 := and1 (bits .and .i64 p e / 4)
  rcases two_of (bits .and .i64 p e) with h0 | h0
  · rcases two_of (bits .and .i64 p e / 2) with h1 | h1
    · rcases two_of (bits .and .i64 p e / 4) with h2 | h2
      · go_enter Try.func9, Try.ntmps9
        go_wp2
        refine wp_loop_rounds 4 ?_
        rw [rounds_succ]
        go_wp2
        rw [rounds_succ]
        go_wp2
        rw [rounds_succ]
        go_wp2
        rw [rounds_succ]
        go_wp2
        go_ret2
        exact ⟨by simp [pkn, pkb, h0, h1, h2], rfl⟩
      · go_enter Try.func9, Try.ntmps9
        go_wp2
        refine wp_loop_rounds 4 ?_
        rw [rounds_succ]
        go_wp2
        rw [rounds_succ]
        go_wp2
        rw [rounds_succ]
        go_wp2
        go_ret2
        exact ⟨by simp [pkn, pkb, h0, h1, h2], rfl⟩
    · go_enter Try.func9, Try.ntmps9
      go_wp2
      refine wp_loop_rounds 4 ?_
      rw [rounds_succ]
      go_wp2
      rw [rounds_succ]
      go_wp2
      go_ret2
      exact ⟨by simp [pkn, pkb, h0, h1], rfl⟩
  · go_enter Try.func9, Try.ntmps9
    go_wp2
    refine wp_loop_rounds 4 ?_
    rw [rounds_succ]
    go_wp2
    go_ret2
    exact ⟨by simp [pkn, pkb, h0], rfl⟩
theorem rpick_says (p e : Int) : Says 10 #[i64 p, i64 e] (.tuple #[i64 (pkn (bits .and .i64 p e)), .bool (pkb (bits .and .i64 p e))]) := by
  intro w
  have a0 := and1 (bits .and .i64 p e)
  have a1 := and1 (bits .and .i64 p e / 2)
  have a2 := and1 (bits .and .i64 p e / 4)
  rcases two_of (bits .and .i64 p e) with h0 | h0
  · rcases two_of (bits .and .i64 p e / 2) with h1 | h1
    · rcases two_of (bits .and .i64 p e / 4) with h2 | h2
      · go_enter Try.func10, Try.ntmps10
        go_wp2
        refine wp_loop_rounds 4 ?_
        rw [rounds_succ]
        go_wp2
        rw [rounds_succ]
        go_wp2
        rw [rounds_succ]
        go_wp2
        rw [rounds_succ]
        go_wp2
        go_ret2
        exact ⟨by simp [pkn, pkb, h0, h1, h2], rfl⟩
      · go_enter Try.func10, Try.ntmps10
        go_wp2
        refine wp_loop_rounds 4 ?_
        rw [rounds_succ]
        go_wp2
        rw [rounds_succ]
        go_wp2
        rw [rounds_succ]
        go_wp2
        go_ret2
        exact ⟨by simp [pkn, pkb, h0, h1, h2], rfl⟩
    · go_enter Try.func10, Try.ntmps10
      go_wp2
      refine wp_loop_rounds 4 ?_
      rw [rounds_succ]
      go_wp2
      rw [rounds_succ]
      go_wp2
      go_ret2
      exact ⟨by simp [pkn, pkb, h0, h1], rfl⟩
  · go_enter Try.func10, Try.ntmps10
    go_wp2
    refine wp_loop_rounds 4 ?_
    rw [rounds_succ]
    go_wp2
    go_ret2
    exact ⟨by simp [pkn, pkb, h0], rfl⟩
theorem takes_says (s p e : Int) : Says 11 #[i64 s, i64 p, i64 e] (.tuple #[i64 (tkn s (bits .and .i64 p e)), .bool (tkb s (bits .and .i64 p e))]) := by
  intro w
  have a1 := and1 s
  have hp := pick_says p e
  have bd := pkn_bd (bits .and .i64 p e)
  have us := user_says s
  have hn : tkn s (bits .and .i64 p e) = if s / 4 % 2 = 1 ∧ s % 2 = 0 ∨ pkb (bits .and .i64 p e) = false then 0 else 2147483648 + pkn (bits .and .i64 p e) := rfl
  have hb : tkb s (bits .and .i64 p e) = if s / 4 % 2 = 1 ∧ s % 2 = 0 ∨ pkb (bits .and .i64 p e) = false then false else true := rfl
  generalize tkn s (bits .and .i64 p e) = tn at *
  generalize tkb s (bits .and .i64 p e) = tb at *
  generalize pkn (bits .and .i64 p e) = n at *
  generalize pkb (bits .and .i64 p e) = b at *
  rcases two_of (s / 4) with h4 | h4 <;> rcases two_of s with h1 | h1 <;> cases b
  all_goals
    simp [h4, h1] at hn hb us
    subst hn hb
    go_enter Try.func11, Try.ntmps11
    go_wp2_with (first | (go_at_call 9; refine (hp _).mono ?_; rintro e w' ⟨rfl, rfl⟩) | (go_at_call 16; refine (us _).mono ?_; rintro e w' ⟨rfl, rfl⟩))
    go_ret2
    exact ⟨rfl, rfl⟩
theorem rtakes_says (s p e : Int) : Says 12 #[i64 s, i64 p, i64 e] (.tuple #[i64 (tkn s (bits .and .i64 p e)), .bool (tkb s (bits .and .i64 p e))]) := by
  intro w
  have a1 := and5 s
  have hp := rpick_says p e
  have bd := pkn_bd (bits .and .i64 p e)
  have hn : tkn s (bits .and .i64 p e) = if s / 4 % 2 = 1 ∧ s % 2 = 0 ∨ pkb (bits .and .i64 p e) = false then 0 else 2147483648 + pkn (bits .and .i64 p e) := rfl
  have hb : tkb s (bits .and .i64 p e) = if s / 4 % 2 = 1 ∧ s % 2 = 0 ∨ pkb (bits .and .i64 p e) = false then false else true := rfl
  generalize tkn s (bits .and .i64 p e) = tn at *
  generalize tkb s (bits .and .i64 p e) = tb at *
  generalize pkn (bits .and .i64 p e) = n at *
  generalize pkb (bits .and .i64 p e) = b at *
  rcases two_of (s / 4) with h4 | h4 <;> rcases two_of s with h1 | h1 <;> cases b
  all_goals
    simp [h4, h1] at hn hb
    subst hn hb
    rw [h4, h1] at a1
    go_enter Try.func12, Try.ntmps12
    go_wp2_with (first | (go_at_call 10; refine (hp _).mono ?_; rintro e w' ⟨rfl, rfl⟩))
    go_ret2
    exact ⟨rfl, rfl⟩
/-- What waits: the timer's line where cmp is a time that has come, that of the bytes, that of the messages. -/
def pnd (t c u m : Int) : Int := (if wd c ≠ 0 ∧ wd c ≤ wd t then 1 else 0) + (if 0 < u then 2 else 0) + (if 0 < m then 4 else 0)
theorem pending_says (t c u m : Int) : Says 7 #[i64 t, i64 c, i64 u, i64 m] (i64 (pnd t c u m)) := by
  intro w
  obtain ⟨p, hp⟩ : ∃ p, p = pnd t c u m := ⟨_, rfl⟩
  rw [← hp]
  have o := of_says c
  have b := below_says t (wd c)
  rw [wd_wd] at b
  have lc := wd_lo c
  have l1 := wd_hi c
  unfold pnd at hp
  generalize wd c = x at *
  generalize wd t = y at *
  by_cases h0 : x = 0
  · subst h0
    by_cases hu : 0 < u <;> by_cases hm : 0 < m
    all_goals
      simp [hu, hm] at hp
      subst hp
      go_enter Try.func7, Try.ntmps7
      go_wp2_with (first | (go_at_call 13; refine (o _).mono ?_; rintro e w' ⟨rfl, rfl⟩))
      go_ret
      exact ⟨by rfl, rfl⟩
  · by_cases hb : y < x <;> by_cases hu : 0 < u <;> by_cases hm : 0 < m
    all_goals
      have hb' : decide (y < x) = decide (y < x) := rfl
      simp [h0, hu, hm] at hp
      simp only [hb, decide_true, decide_false] at b
      first | rw [if_neg (by omega)] at hp | rw [if_pos (by omega)] at hp
      subst hp
      go_enter Try.func7, Try.ntmps7
      go_wp2_with (first | (go_at_call 14; refine (b _).mono ?_; rintro e w' ⟨rfl, rfl⟩) | (go_at_call 13; refine (o _).mono ?_; rintro e w' ⟨rfl, rfl⟩))
      go_ret
      exact ⟨by rfl, rfl⟩
theorem rpending_says (t c u m : Int) : Says 8 #[i64 t, i64 c, i64 u, i64 m] (i64 (pnd t c u m)) := by
  intro w
  obtain ⟨p, hp⟩ : ∃ p, p = pnd t c u m := ⟨_, rfl⟩
  rw [← hp]
  have o := w_says c
  have b := w_says t
  have lc := wd_lo c
  have l1 := wd_hi c
  have lt := wd_lo t
  have l2 := wd_hi t
  unfold pnd at hp
  generalize wd c = x at *
  generalize wd t = y at *
  by_cases h0 : x = 0
  · subst h0
    by_cases hu : 0 < u <;> by_cases hm : 0 < m
    all_goals
      simp [hu, hm] at hp
      subst hp
      go_enter Try.func8, Try.ntmps8
      go_wp2_with (first | (go_at_call 15; refine (o _).mono ?_; rintro e w' ⟨rfl, rfl⟩))
      go_ret
      exact ⟨by rfl, rfl⟩
  · by_cases hb : y < x <;> by_cases hu : 0 < u <;> by_cases hm : 0 < m
    all_goals
      simp [h0, hu, hm] at hp
      first | rw [if_neg (by omega)] at hp | rw [if_pos (by omega)] at hp
      have hb2 : (x ≤ y) = ¬ (y < x) := by simp
      subst hp
      go_enter Try.func8, Try.ntmps8
      go_wp2_with (first | (go_at_call 15; first | ((with_reducible refine (o _).mono ?_); rintro e w' ⟨rfl, rfl⟩) | ((with_reducible refine (b _).mono ?_); rintro e w' ⟨rfl, rfl⟩)))
      go_ret
      exact ⟨by rfl, rfl⟩
theorem pending5_says : Says 7 #[i64 5, i64 5, i64 0, i64 0] (i64 1) := pending_says 5 5 0 0
theorem alive8_says : Says 6 #[] (.bool true) := by
  intro w
  go_enter Try.func6, Try.ntmps6
  go_wp2_with (first | (go_at_call 11; refine (takes_says _ _ _ _).mono ?_; rintro e w' ⟨rfl, rfl⟩) | (go_at_call 7; refine (pending5_says _).mono ?_; rintro e w' ⟨rfl, rfl⟩))
  go_ret
  exact ⟨ret_bool (by decide +kernel), rfl⟩
end Go.Proofs.Ytknamljifggkgaa
