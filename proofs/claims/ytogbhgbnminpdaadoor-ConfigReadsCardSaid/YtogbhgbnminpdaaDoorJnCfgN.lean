/-
  The reference's name.
-/
import Derived.Test.YtogbhgbnminpdaaDoorJnCfgAbc
set_option linter.unusedVariables false
set_option maxRecDepth 100000
set_option linter.unusedVariables false
namespace Go.Proofs.YtogbhgbnminpdaaDoor.Cfg
open Go.Proofs.YtogbhgbnminpdaaDoor
open Go.ChangeShapes Go.WideShapes Go.ChangeAt Go.RowKit
theorem name_empty (s : ByteArray) : s.toList.isEmpty = decide (¬ 1 ≤ s.size) := by
  rw [ByteArray.toList_eq]
  by_cases h : 1 ≤ s.size
  · rw [decide_eq_false (fun e => e h)]
    have : s.data.toList ≠ [] := fun e => by
      have h2 := congrArg List.length e
      simp at h2
      have h3 : s.size = s.data.size := rfl
      rw [h3, h2] at h; simp at h
    simpa using this
  · rw [decide_eq_true h]
    have h3 : s.data.toList.length = 0 := by
      have h4 : s.size = s.data.size := rfl
      rw [h4] at h
      rw [Array.length_toList]; omega
    rw [List.eq_nil_of_length_eq_zero h3]; rfl
set_option maxHeartbeats 4000000 in
theorem rname_says (s : ByteArray) (b : Bool) (hb : b = true ↔ okN s) (w : World) (hs : s.size ≤ 9223372036854775807) : Calls Tryd.prog 28 #[.string s] w fun e w' => e = .returned (.bool b) ∧ w = w' := by
  obtain ⟨p, hp⟩ : ∃ p : Ending → World → Prop, p = fun e w' => e = .returned (.bool b) ∧ w = w' := ⟨_, rfl⟩
  rw [← hp]
  have h1 := Lib.hid (fun h : okN s => (by rw [hp, hb.2 h]; exact ⟨rfl, rfl⟩ : p (.returned (.bool true)) w))
  have h0 := Lib.hid (fun h : ¬ okN s => (by rw [hp, (by cases b with | true => exact absurd (hb.1 rfl) h | false => rfl : b = false)]; exact ⟨rfl, rfl⟩ : p (.returned (.bool false)) w))
  clear hp hb
  go_enter Tryd.func28, Tryd.ntmps28
  go_wp2
  go_loopw [3] (fun i wr => wr = w ∧ ∃ j : Nat, j ≤ s.size ∧ i = .int .i64 j ∧ okTo s j) (fun i _ => s.size - (intOf i).toNat)
  case atStart => exact ⟨rfl, 0, Nat.zero_le _, rfl, fun j h hj => absurd hj (Nat.not_lt_zero _)⟩
  case round =>
    obtain ⟨rfl, j, hj, rfl, hk⟩ := hrel
    by_cases hjl : j < s.size
    · have hjI : (j : Int) < (s.size : Int) := by omega
      have hn : ¬ okB (s[j].toNat) → ¬ okN s := fun h1 h => h1 (h.2.2 j hjl)
      have hy : okB (s[j].toNat) → okTo s (j + 1) := fun h1 k h hkj => by
        by_cases e : k = j
        · subst e; exact h1
        · exact hk k h (by omega)
      have h0' := Lib.hid (fun h => h0.out (hn h))
      replace hy := Lib.hid hy
      clear hn h1 h0 hk
      by_cases a1 : 97 ≤ ((s[j].toNat : Nat) : Int)
      · by_cases a2 : ((s[j].toNat : Nat) : Int) ≤ 122
        · replace hy := Lib.hid (hy.out (.inl ⟨a1, a2⟩))
          clear h0'
          go_wp2
          go_roundw
          case rel => exact ⟨trivial, j + 1, hjl, by go_num, hy.out⟩
          case measure => simp [intOf]; omega
        · have h0'' := h0'.out (fun h => by unfold okB at h; omega)
          have a3 : ¬ ((s[j].toNat : Nat) : Int) ≤ 57 := by omega
          have a4 : 48 ≤ ((s[j].toNat : Nat) : Int) := by omega
          clear h0' hy
          go_wp2
          exact h0''
      · by_cases a3 : 48 ≤ ((s[j].toNat : Nat) : Int)
        · by_cases a4 : ((s[j].toNat : Nat) : Int) ≤ 57
          · replace hy := Lib.hid (hy.out (.inr ⟨a3, a4⟩))
            clear h0'
            go_wp2
            go_roundw
            case rel => exact ⟨trivial, j + 1, hjl, by go_num, hy.out⟩
            case measure => simp [intOf]; omega
          · have h0'' := h0'.out (fun h => by unfold okB at h; omega)
            clear h0' hy
            go_wp2
            exact h0''
        · have h0'' := h0'.out (fun h => by unfold okB at h; omega)
          clear h0' hy
          go_wp2
          exact h0''
    · have hjs : j = s.size := by omega
      have hjI : ¬ (j : Int) < (s.size : Int) := by omega
      have hne := name_empty s
      by_cases g1 : 1 ≤ s.size
      · rw [decide_eq_false (fun e => e g1)] at hne
        by_cases g2 : (s.size : Int) ≤ 20
        · have h1' := Lib.hid (h1.out ⟨g1, by omega, fun k h => hk k h (by omega)⟩)
          clear h1 h0
          go_wp2
          exact h1'.out
        · have h0' := Lib.hid (h0.out (fun h => g2 (by have := h.2.1; omega)))
          clear h1 h0
          go_wp2
          exact h0'.out
      · rw [decide_eq_true g1] at hne
        have h0' := Lib.hid (h0.out (fun h => g1 h.1))
        clear h1 h0
        go_wp2
        exact h0'.out
end Go.Proofs.YtogbhgbnminpdaaDoor.Cfg
