/-
  Contracts of cpu.Access and cpu.Loaded (laid by mkbareac.py). | Contracts of cpu.Access and cpu.Loaded (laid by mkbareac.py).
-/
import Derived.Test.YtfcmodllbhpniaaGreatDoorJnCpuR
import Derived.Test.YtfcmodllbhpniaaGreatDoorJnMind
import Derived.Deep.QuietTactic
import Derived.BigQuiet
set_option linter.unusedVariables false
set_option maxRecDepth 100000
namespace Go.Proofs.YtfcmodllbhpniaaGreatDoor
open Go.ChangeShapes Go.WideShapes Go.ChangeAt Go.RowKit
/-- Does a load bring a number with a sign. -/
def acN (op : Int) : Bool := decide (op = 33 ∨ op = 35)
theorem acc_32 : Tells 136 #[i64 32] (.agg #[i64 4, i64 1, .bool false]) := by
  intro w
  obtain ⟨cs, hcs⟩ : ∃ cs : Array Value, cs = accT := ⟨_, rfl⟩
  have hix : ∀ w, (Instr.index 211 (.agg cs) (i64 32)).run Tryz.prog w = .ok (.agg #[i64 4, i64 1, .bool false]) w := by intro w; rw [hcs]; kernel_rfl
  have hcs' := Lib.hid hcs
  clear hcs
  go_enter Tryz.func136, Tryz.ntmps136
  go_wp2_with (refine wpList_buildTo rfl 211 _ rfl cs (by rw [hcs'.out]; kernel_rfl) ?_)
  exact bodyPost_ret (v := .agg #[i64 4, i64 1, .bool false]) (by simp [results, Tryz.results136, go_sem]) rfl ⟨rfl, (Below.refl _ w).alloc (Nat.le_refl _) _⟩
theorem acc_33 : Tells 136 #[i64 33] (.agg #[i64 2, i64 1, .bool true]) := by
  intro w
  obtain ⟨cs, hcs⟩ : ∃ cs : Array Value, cs = accT := ⟨_, rfl⟩
  have hix : ∀ w, (Instr.index 211 (.agg cs) (i64 33)).run Tryz.prog w = .ok (.agg #[i64 2, i64 1, .bool true]) w := by intro w; rw [hcs]; kernel_rfl
  have hcs' := Lib.hid hcs
  clear hcs
  go_enter Tryz.func136, Tryz.ntmps136
  go_wp2_with (refine wpList_buildTo rfl 211 _ rfl cs (by rw [hcs'.out]; kernel_rfl) ?_)
  exact bodyPost_ret (v := .agg #[i64 2, i64 1, .bool true]) (by simp [results, Tryz.results136, go_sem]) rfl ⟨rfl, (Below.refl _ w).alloc (Nat.le_refl _) _⟩
theorem acc_34 : Tells 136 #[i64 34] (.agg #[i64 2, i64 1, .bool false]) := by
  intro w
  obtain ⟨cs, hcs⟩ : ∃ cs : Array Value, cs = accT := ⟨_, rfl⟩
  have hix : ∀ w, (Instr.index 211 (.agg cs) (i64 34)).run Tryz.prog w = .ok (.agg #[i64 2, i64 1, .bool false]) w := by intro w; rw [hcs]; kernel_rfl
  have hcs' := Lib.hid hcs
  clear hcs
  go_enter Tryz.func136, Tryz.ntmps136
  go_wp2_with (refine wpList_buildTo rfl 211 _ rfl cs (by rw [hcs'.out]; kernel_rfl) ?_)
  exact bodyPost_ret (v := .agg #[i64 2, i64 1, .bool false]) (by simp [results, Tryz.results136, go_sem]) rfl ⟨rfl, (Below.refl _ w).alloc (Nat.le_refl _) _⟩
theorem acc_35 : Tells 136 #[i64 35] (.agg #[i64 1, i64 1, .bool true]) := by
  intro w
  obtain ⟨cs, hcs⟩ : ∃ cs : Array Value, cs = accT := ⟨_, rfl⟩
  have hix : ∀ w, (Instr.index 211 (.agg cs) (i64 35)).run Tryz.prog w = .ok (.agg #[i64 1, i64 1, .bool true]) w := by intro w; rw [hcs]; kernel_rfl
  have hcs' := Lib.hid hcs
  clear hcs
  go_enter Tryz.func136, Tryz.ntmps136
  go_wp2_with (refine wpList_buildTo rfl 211 _ rfl cs (by rw [hcs'.out]; kernel_rfl) ?_)
  exact bodyPost_ret (v := .agg #[i64 1, i64 1, .bool true]) (by simp [results, Tryz.results136, go_sem]) rfl ⟨rfl, (Below.refl _ w).alloc (Nat.le_refl _) _⟩
theorem acc_36 : Tells 136 #[i64 36] (.agg #[i64 1, i64 1, .bool false]) := by
  intro w
  obtain ⟨cs, hcs⟩ : ∃ cs : Array Value, cs = accT := ⟨_, rfl⟩
  have hix : ∀ w, (Instr.index 211 (.agg cs) (i64 36)).run Tryz.prog w = .ok (.agg #[i64 1, i64 1, .bool false]) w := by intro w; rw [hcs]; kernel_rfl
  have hcs' := Lib.hid hcs
  clear hcs
  go_enter Tryz.func136, Tryz.ntmps136
  go_wp2_with (refine wpList_buildTo rfl 211 _ rfl cs (by rw [hcs'.out]; kernel_rfl) ?_)
  exact bodyPost_ret (v := .agg #[i64 1, i64 1, .bool false]) (by simp [results, Tryz.results136, go_sem]) rfl ⟨rfl, (Below.refl _ w).alloc (Nat.le_refl _) _⟩
theorem acc_37 : Tells 136 #[i64 37] (.agg #[i64 0, i64 0, .bool false]) := by
  intro w
  obtain ⟨cs, hcs⟩ : ∃ cs : Array Value, cs = accT := ⟨_, rfl⟩
  have hix : ∀ w, (Instr.index 211 (.agg cs) (i64 37)).run Tryz.prog w = .ok (.agg #[i64 0, i64 0, .bool false]) w := by intro w; rw [hcs]; kernel_rfl
  have hcs' := Lib.hid hcs
  clear hcs
  go_enter Tryz.func136, Tryz.ntmps136
  go_wp2_with (refine wpList_buildTo rfl 211 _ rfl cs (by rw [hcs'.out]; kernel_rfl) ?_)
  exact bodyPost_ret (v := .agg #[i64 0, i64 0, .bool false]) (by simp [results, Tryz.results136, go_sem]) rfl ⟨rfl, (Below.refl _ w).alloc (Nat.le_refl _) _⟩
theorem acc_38 : Tells 136 #[i64 38] (.agg #[i64 0, i64 0, .bool false]) := by
  intro w
  obtain ⟨cs, hcs⟩ : ∃ cs : Array Value, cs = accT := ⟨_, rfl⟩
  have hix : ∀ w, (Instr.index 211 (.agg cs) (i64 38)).run Tryz.prog w = .ok (.agg #[i64 0, i64 0, .bool false]) w := by intro w; rw [hcs]; kernel_rfl
  have hcs' := Lib.hid hcs
  clear hcs
  go_enter Tryz.func136, Tryz.ntmps136
  go_wp2_with (refine wpList_buildTo rfl 211 _ rfl cs (by rw [hcs'.out]; kernel_rfl) ?_)
  exact bodyPost_ret (v := .agg #[i64 0, i64 0, .bool false]) (by simp [results, Tryz.results136, go_sem]) rfl ⟨rfl, (Below.refl _ w).alloc (Nat.le_refl _) _⟩
theorem acc_39 : Tells 136 #[i64 39] (.agg #[i64 0, i64 0, .bool false]) := by
  intro w
  obtain ⟨cs, hcs⟩ : ∃ cs : Array Value, cs = accT := ⟨_, rfl⟩
  have hix : ∀ w, (Instr.index 211 (.agg cs) (i64 39)).run Tryz.prog w = .ok (.agg #[i64 0, i64 0, .bool false]) w := by intro w; rw [hcs]; kernel_rfl
  have hcs' := Lib.hid hcs
  clear hcs
  go_enter Tryz.func136, Tryz.ntmps136
  go_wp2_with (refine wpList_buildTo rfl 211 _ rfl cs (by rw [hcs'.out]; kernel_rfl) ?_)
  exact bodyPost_ret (v := .agg #[i64 0, i64 0, .bool false]) (by simp [results, Tryz.results136, go_sem]) rfl ⟨rfl, (Below.refl _ w).alloc (Nat.le_refl _) _⟩
theorem acc_40 : Tells 136 #[i64 40] (.agg #[i64 4, i64 2, .bool false]) := by
  intro w
  obtain ⟨cs, hcs⟩ : ∃ cs : Array Value, cs = accT := ⟨_, rfl⟩
  have hix : ∀ w, (Instr.index 211 (.agg cs) (i64 40)).run Tryz.prog w = .ok (.agg #[i64 4, i64 2, .bool false]) w := by intro w; rw [hcs]; kernel_rfl
  have hcs' := Lib.hid hcs
  clear hcs
  go_enter Tryz.func136, Tryz.ntmps136
  go_wp2_with (refine wpList_buildTo rfl 211 _ rfl cs (by rw [hcs'.out]; kernel_rfl) ?_)
  exact bodyPost_ret (v := .agg #[i64 4, i64 2, .bool false]) (by simp [results, Tryz.results136, go_sem]) rfl ⟨rfl, (Below.refl _ w).alloc (Nat.le_refl _) _⟩
theorem acc_41 : Tells 136 #[i64 41] (.agg #[i64 2, i64 2, .bool false]) := by
  intro w
  obtain ⟨cs, hcs⟩ : ∃ cs : Array Value, cs = accT := ⟨_, rfl⟩
  have hix : ∀ w, (Instr.index 211 (.agg cs) (i64 41)).run Tryz.prog w = .ok (.agg #[i64 2, i64 2, .bool false]) w := by intro w; rw [hcs]; kernel_rfl
  have hcs' := Lib.hid hcs
  clear hcs
  go_enter Tryz.func136, Tryz.ntmps136
  go_wp2_with (refine wpList_buildTo rfl 211 _ rfl cs (by rw [hcs'.out]; kernel_rfl) ?_)
  exact bodyPost_ret (v := .agg #[i64 2, i64 2, .bool false]) (by simp [results, Tryz.results136, go_sem]) rfl ⟨rfl, (Below.refl _ w).alloc (Nat.le_refl _) _⟩
theorem acc_42 : Tells 136 #[i64 42] (.agg #[i64 1, i64 2, .bool false]) := by
  intro w
  obtain ⟨cs, hcs⟩ : ∃ cs : Array Value, cs = accT := ⟨_, rfl⟩
  have hix : ∀ w, (Instr.index 211 (.agg cs) (i64 42)).run Tryz.prog w = .ok (.agg #[i64 1, i64 2, .bool false]) w := by intro w; rw [hcs]; kernel_rfl
  have hcs' := Lib.hid hcs
  clear hcs
  go_enter Tryz.func136, Tryz.ntmps136
  go_wp2_with (refine wpList_buildTo rfl 211 _ rfl cs (by rw [hcs'.out]; kernel_rfl) ?_)
  exact bodyPost_ret (v := .agg #[i64 1, i64 2, .bool false]) (by simp [results, Tryz.results136, go_sem]) rfl ⟨rfl, (Below.refl _ w).alloc (Nat.le_refl _) _⟩
theorem acc_out (op : Int) (h : op < 32 ∨ 42 < op) : Tells 136 #[i64 op] (.agg #[i64 0, i64 0, .bool false]) := by
  intro w
  go_enter Tryz.func136, Tryz.ntmps136
  go_wp2
  all_goals first
    | exact bodyPost_ret (v := .agg #[i64 0, i64 0, .bool false]) (by simp [results, Tryz.results136, go_sem]) rfl ⟨rfl, Below.refl _ w⟩
    | exact bodyPost_ret (v := .agg #[i64 0, i64 0, .bool false]) (by simp [results, Tryz.results136, go_sem]) rfl ⟨rfl, (Below.refl _ w).alloc (Nat.le_refl _) _⟩
    | (exfalso; omega)
theorem acc_says (op : Int) : Tells 136 #[i64 op] (.agg #[i64 (acS op), i64 (acK op), .bool (acN op)]) := by
  by_cases h : op < 32 ∨ 42 < op
  · have e1 : acS op = 0 := by unfold acS; rw [if_neg (by omega), if_neg (by omega), if_neg (by omega)]
    have e2 : acK op = 0 := by unfold acK; rw [if_neg (by omega), if_neg (by omega)]
    have e3 : acN op = false := decide_eq_false (by omega)
    rw [e1, e2, e3]; exact acc_out op h
  · have h : op = 32 ∨ op = 33 ∨ op = 34 ∨ op = 35 ∨ op = 36 ∨ op = 37 ∨ op = 38 ∨ op = 39 ∨ op = 40 ∨ op = 41 ∨ op = 42 := by omega
    rcases h with rfl | rfl | rfl | rfl | rfl | rfl | rfl | rfl | rfl | rfl | rfl
    · exact acc_32
    · exact acc_33
    · exact acc_34
    · exact acc_35
    · exact acc_36
    · exact acc_37
    · exact acc_38
    · exact acc_39
    · exact acc_40
    · exact acc_41
    · exact acc_42
end Go.Proofs.YtfcmodllbhpniaaGreatDoor
set_option maxRecDepth 100000
namespace Go.Proofs.YtfcmodllbhpniaaGreatDoor
open Go.ChangeShapes Go.WideShapes Go.ChangeAt Go.RowKit
theorem below_drewN {w w1 : World} {B : Nat} (h : Below B w w1) (n : Nat) : Below B w (w1.drewN n) := ⟨h.os, h.tape, h.output, h.size, h.block⟩
theorem access_says (op : Int) : Tells 114 #[i64 op] (.tuple #[i64 (acS op), i64 (acK op), .bool (acN op), .bool (acK op != 0)]) := by
  intro w
  have ha := acc_says op
  generalize acS op = s at *
  generalize acK op = k at *
  generalize acN op = n at *
  go_enter Tryz.func114, Tryz.ntmps114
  go_wp2_with (go_at_call 136; refine (ha _).mono ?_; rintro e w1 ⟨rfl, hb⟩)
  go_quiet (fail)
  go_wp2
  exact bodyPost_ret (v := .tuple #[i64 s, i64 k, .bool n, .bool (k != 0)]) (by simp [results, Tryz.results114, go_sem]) rfl ⟨rfl, below_drewN (hb.alloc hb.size _) _⟩
theorem loaded_says (op v : Int) : Tells 137 #[i64 op, i64 v] (i64 (lod op v)) := by
  intro w
  have ha := acc_says op
  have hx := fun n => extend_says v n
  have hl : lod op v = if acK op = 1 then (if acN op = true then ex v (8 * acS op) else v) else 0 := by
    by_cases h33 : op = 33
    · subst h33; rfl
    by_cases h35 : op = 35
    · subst h35; rfl
    unfold lod
    rw [if_neg h33, if_neg h35]
    have e3 : acN op = false := decide_eq_false (by omega)
    rw [e3]
    unfold acK
    by_cases h : op = 32 ∨ op = 34 ∨ op = 36
    · rw [if_pos h, if_pos (by omega)]; rfl
    · rw [if_neg h, if_neg (by omega)]
  have hs : acS op = 0 ∨ acS op = 1 ∨ acS op = 2 ∨ acS op = 4 := by unfold acS; (repeat' split) <;> omega
  rw [hl]
  clear hl
  generalize acS op = s at *
  generalize acK op = k at *
  generalize acN op = n at *
  by_cases hk : k = 1
  · subst hk
    rw [if_pos rfl]
    cases n with
    | true =>
      rw [if_pos rfl]
      rcases hs with rfl | rfl | rfl | rfl
      all_goals
        go_enter Tryz.func137, Tryz.ntmps137
        go_wp2_with (first
          | (go_at_call 136; refine (ha _).mono ?_; rintro e w1 ⟨rfl, hb⟩)
          | (go_at_call 165; refine (hx _ _).mono ?_; rintro e w2 ⟨rfl, rfl⟩))
        go_ret
        exact ⟨rfl, hb.alloc hb.size _⟩
    | false =>
      rw [if_neg (by decide)]
      go_enter Tryz.func137, Tryz.ntmps137
      go_wp2_with (go_at_call 136; refine (ha _).mono ?_; rintro e w1 ⟨rfl, hb⟩)
      go_ret
      exact ⟨rfl, hb.alloc hb.size _⟩
  · rw [if_neg hk]
    have hk' : (k == 1) = false := by simpa using hk
    have hk2 : (k != 1) = true := by simpa using hk
    go_enter Tryz.func137, Tryz.ntmps137
    go_wp2_with (go_at_call 136; refine (ha _).mono ?_; rintro e w1 ⟨rfl, hb⟩)
    go_ret
    exact ⟨rfl, hb.alloc hb.size _⟩
end Go.Proofs.YtfcmodllbhpniaaGreatDoor
