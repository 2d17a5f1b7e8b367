
/-
  Contracts of package word's calls and of the like answers of trunnionref1: each answers the same plain function, and changes nothing.
-/
import Derived.Test.YtfodhmgbifeodaaRows
import Derived.WalkKit
import Derived.ProofKit
import Derived.OpenShut
import Derived.Lib.Hide
import Derived.Test.YtfodhmgbifeodaaMath
namespace Go.Proofs.Ytfodhmgbifeodaa
open Go.ChangeShapes Go.WideShapes Go.ChangeAt Go.RowKit
theorem ret_int {k : IntKind} {a b : Int} (h : a = b) : Ending.returned (.int k a) = .returned (.int k b) := by rw [h]
theorem ret_bool {a b : Bool} (h : a = b) : Ending.returned (.bool a) = .returned (.bool b) := by rw [h]

/-- A call that answers v and changes nothing. -/
abbrev Says (f : Nat) (args : Array Value) (v : Value) : Prop := ∀ w : World, Calls Try.prog f args w fun e w' => e = .returned v ∧ w = w'
abbrev i64 (n : Int) : Value := .int .i64 n

theorem of_says (a : Int) : Says 23 #[i64 a] (i64 (wd a)) := by
  intro w
  go_enter Try.func23, Try.ntmps23
  go_wp2
  go_ret
  exact ⟨rfl, rfl⟩
theorem w_says (a : Int) : Says 14 #[i64 a] (i64 (wd a)) := by
  intro w
  go_enter Try.func14, Try.ntmps14
  go_wp2
  go_ret
  exact ⟨ret_int (i64_word a), rfl⟩
theorem bits_says (a h l : Int) : Says 25 #[i64 a, i64 h, i64 l] (i64 (bt a h l)) := by
  intro w
  by_cases hn : l < 0 ∨ h < l ∨ 31 < h
  · have hd := Lib.hid (bt_no a h l hn)
    rcases hn with hn | hn | hn
    · go_enter Try.func25, Try.ntmps25
      go_wp2
      go_ret
      exact ⟨ret_int hd.out.symm, rfl⟩
    · by_cases h0 : l < 0
      all_goals
        go_enter Try.func25, Try.ntmps25
        go_wp2
        go_ret
        exact ⟨ret_int hd.out.symm, rfl⟩
    · by_cases h0 : l < 0
      all_goals by_cases h1 : h < l
      all_goals
        go_enter Try.func25, Try.ntmps25
        go_wp2
        go_ret
        exact ⟨ret_int hd.out.symm, rfl⟩
  · have h0 : 0 ≤ l := by omega
    have h1 : l ≤ h := by omega
    have h2 : h ≤ 31 := by omega
    have hd := Lib.hid (bt_raw' a h l h0 h1 h2)
    clear hn
    go_enter Try.func25, Try.ntmps25
    go_wp2
    go_ret
    exact ⟨ret_int hd.out, rfl⟩
end Go.Proofs.Ytfodhmgbifeodaa
