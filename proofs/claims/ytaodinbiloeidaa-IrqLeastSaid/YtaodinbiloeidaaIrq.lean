
/-
  Contracts of package irq's calls Pick and Takes and of the like answers of trunnionref1: each answers the same plain function, and changes nothing.
-/
import Derived.Test.YtaodinbiloeidaaWord
import Derived.Test.YtaodinbiloeidaaCsrMath
import Derived.Test.YtaodinbiloeidaaCsr
namespace Go.Proofs.Ytaodinbiloeidaa
open Go.ChangeShapes Go.WideShapes Go.ChangeAt Go.RowKit
/-- The least of the three lowest bits, and whether there is one. -/
def pkn (b : Int) : Int := if b % 2 = 1 then 0 else if b / 2 % 2 = 1 then 1 else if b / 4 % 2 = 1 then 2 else 0
def pkb (b : Int) : Bool := if b % 2 = 1 then true else if b / 2 % 2 = 1 then true else if b / 4 % 2 = 1 then true else false
/-- What a machine of the status s takes. -/
def tkn (s b : Int) : Int := if s / 4 % 2 = 1 ∧ s % 2 = 0 ∨ pkb b = false then 0 else 2147483648 + pkn b
def tkb (s b : Int) : Bool := if s / 4 % 2 = 1 ∧ s % 2 = 0 ∨ pkb b = false then false else true
theorem pkn_bd (b : Int) : 0 ≤ pkn b ∧ pkn b ≤ 2 := by unfold pkn; (repeat' split) <;> omega
theorem pick_says (p e : Int) : Says 6 #[i64 p, i64 e] (.tuple #[i64 (pkn (bits .and .i64 p e)), .bool (pkb (bits .and .i64 p e))]) := by
  intro w
  have a0 := and1 (bits .and .i64 p e)
  have a1 := and1 (bits .and .i64 p e / 2)
  have a2 := and1 (bits .and .i64 p e / 4)
  rcases two_of (bits .and .i64 p e) with h0 | h0
  · rcases two_of (bits .and .i64 p e / 2) with h1 | h1
    · rcases two_of (bits .and .i64 p e / 4) with h2 | h2
      · go_enter Try.func6, Try.ntmps6
        go_wp2
        refine wp_loop_rounds 4 ?_
        rw [rounds_succ]
        go_wp2
        rw [rounds_succ]
        go_wp2
        rw [rounds_succ]
        go_wp2
        rw [rounds_succ]
        go_wp2
        go_ret2
        exact ⟨by simp [pkn, pkb, h0, h1, h2], rfl⟩
      · go_enter Try.func6, Try.ntmps6
        go_wp2
        refine wp_loop_rounds 4 ?_
        rw [rounds_succ]
        go_wp2
        rw [rounds_succ]
        go_wp2
        rw [rounds_succ]
        go_wp2
        go_ret2
        exact ⟨by simp [pkn, pkb, h0, h1, h2], rfl⟩
    · go_enter Try.func6, Try.ntmps6
      go_wp2
      refine wp_loop_rounds 4 ?_
      rw [rounds_succ]
      go_wp2
      rw [rounds_succ]
      go_wp2
      go_ret2
      exact ⟨by simp [pkn, pkb, h0, h1], rfl⟩
  · go_enter Try.func6, Try.ntmps6
    go_wp2
    refine wp_loop_rounds 4 ?_
    rw [rounds_succ]
    go_wp2
    go_ret2
    exact ⟨by simp [pkn, pkb, h0], rfl⟩
theorem rpick_says (p e : Int) : Says 7 #[i64 p, i64 e] (.tuple #[i64 (pkn (bits .and .i64 p e)), .bool (pkb (bits .and .i64 p e))]) := by
  intro w
  have a0 := and1 (bits .and .i64 p e)
  have a1 := and1 (bits .and .i64 p e / 2)
  have a2 := and1 (bits .and .i64 p e / 4)
  rcases two_of (bits .and .i64 p e) with h0 | h0
  · rcases two_of (bits .and .i64 p e / 2) with h1 | h1
    · rcases two_of (bits .and .i64 p e / 4) with h2 | h2
      · go_enter Try.func7, Try.ntmps7
        go_wp2
        refine wp_loop_rounds 4 ?_
        rw [rounds_succ]
        go_wp2
        rw [rounds_succ]
        go_wp2
        rw [rounds_succ]
        go_wp2
        rw [rounds_succ]
        go_wp2
        go_ret2
        exact ⟨by simp [pkn, pkb, h0, h1, h2], rfl⟩
      · go_enter Try.func7, Try.ntmps7
        go_wp2
        refine wp_loop_rounds 4 ?_
        rw [rounds_succ]
        go_wp2
        rw [rounds_succ]
        go_wp2
        rw [rounds_succ]
        go_wp2
        go_ret2
        exact ⟨by simp [pkn, pkb, h0, h1, h2], rfl⟩
    · go_enter Try.func7, Try.ntmps7
      go_wp2
      refine wp_loop_rounds 4 ?_
      rw [rounds_succ]
      go_wp2
      rw [rounds_succ]
      go_wp2
      go_ret2
      exact ⟨by simp [pkn, pkb, h0, h1], rfl⟩
  · go_enter Try.func7, Try.ntmps7
    go_wp2
    refine wp_loop_rounds 4 ?_
    rw [rounds_succ]
    go_wp2
    go_ret2
    exact ⟨by simp [pkn, pkb, h0], rfl⟩
theorem takes_says (s p e : Int) : Says 8 #[i64 s, i64 p, i64 e] (.tuple #[i64 (tkn s (bits .and .i64 p e)), .bool (tkb s (bits .and .i64 p e))]) := by
  intro w
  have a1 := and1 s
  have hp := pick_says p e
  have bd := pkn_bd (bits .and .i64 p e)
  have us := user_says s
  have hn : tkn s (bits .and .i64 p e) = if s / 4 % 2 = 1 ∧ s % 2 = 0 ∨ pkb (bits .and .i64 p e) = false then 0 else 2147483648 + pkn (bits .and .i64 p e) := rfl
  have hb : tkb s (bits .and .i64 p e) = if s / 4 % 2 = 1 ∧ s % 2 = 0 ∨ pkb (bits .and .i64 p e) = false then false else true := rfl
  generalize tkn s (bits .and .i64 p e) = tn at *
  generalize tkb s (bits .and .i64 p e) = tb at *
  generalize pkn (bits .and .i64 p e) = n at *
  generalize pkb (bits .and .i64 p e) = b at *
  rcases two_of (s / 4) with h4 | h4 <;> rcases two_of s with h1 | h1 <;> cases b
  all_goals
    simp [h4, h1] at hn hb us
    subst hn hb
    go_enter Try.func8, Try.ntmps8
    go_wp2_with (first | (go_at_call 6; refine (hp _).mono ?_; rintro e w' ⟨rfl, rfl⟩) | (go_at_call 11; refine (us _).mono ?_; rintro e w' ⟨rfl, rfl⟩))
    go_ret2
    exact ⟨rfl, rfl⟩
theorem rtakes_says (s p e : Int) : Says 9 #[i64 s, i64 p, i64 e] (.tuple #[i64 (tkn s (bits .and .i64 p e)), .bool (tkb s (bits .and .i64 p e))]) := by
  intro w
  have a1 := and5 s
  have hp := rpick_says p e
  have bd := pkn_bd (bits .and .i64 p e)
  have hn : tkn s (bits .and .i64 p e) = if s / 4 % 2 = 1 ∧ s % 2 = 0 ∨ pkb (bits .and .i64 p e) = false then 0 else 2147483648 + pkn (bits .and .i64 p e) := rfl
  have hb : tkb s (bits .and .i64 p e) = if s / 4 % 2 = 1 ∧ s % 2 = 0 ∨ pkb (bits .and .i64 p e) = false then false else true := rfl
  generalize tkn s (bits .and .i64 p e) = tn at *
  generalize tkb s (bits .and .i64 p e) = tb at *
  generalize pkn (bits .and .i64 p e) = n at *
  generalize pkb (bits .and .i64 p e) = b at *
  rcases two_of (s / 4) with h4 | h4 <;> rcases two_of s with h1 | h1 <;> cases b
  all_goals
    simp [h4, h1] at hn hb
    subst hn hb
    rw [h4, h1] at a1
    go_enter Try.func9, Try.ntmps9
    go_wp2_with (first | (go_at_call 7; refine (hp _).mono ?_; rintro e w' ⟨rfl, rfl⟩))
    go_ret2
    exact ⟨rfl, rfl⟩
theorem pending5_says : Says 10 #[i64 5, i64 5, i64 0, i64 0] (i64 1) := by
  intro w
  go_enter Try.func10, Try.ntmps10
  go_wp2_with (first | (go_at_call 12; refine (below_says _ _ _).mono ?_; rintro e w' ⟨rfl, rfl⟩))
  go_ret
  exact ⟨rfl, rfl⟩
theorem alive8_says : Says 5 #[] (.bool true) := by
  intro w
  go_enter Try.func5, Try.ntmps5
  go_wp2_with (first | (go_at_call 8; refine (takes_says _ _ _ _).mono ?_; rintro e w' ⟨rfl, rfl⟩) | (go_at_call 10; refine (pending5_says _).mono ?_; rintro e w' ⟨rfl, rfl⟩))
  go_ret
  exact ⟨ret_bool (by decide +kernel), rfl⟩
end Go.Proofs.Ytaodinbiloeidaa
