/-
  Contracts of package cpu's operations, of Alu, of Taken, and of the like of trunnionref1 (laid by mkcpu.py).
-/
import Derived.Test.YtfcmodllbhpniaaGreatDoorJnWords
import Derived.Test.YtfcmodllbhpniaaGreatDoorJnNum
import Derived.Laws.EntriesVeiled
import Derived.Deep.RegionHeld3
import Derived.Deep.Cut
set_option linter.unusedVariables false
set_option maxRecDepth 100000
namespace Go.Proofs.YtfcmodllbhpniaaGreatDoor
open Go.ChangeShapes Go.WideShapes Go.ChangeAt Go.RowKit
/-- A call that answers v; what lay ahead of it lies as it did. -/
abbrev Tells (f : Nat) (args : Array Value) (v : Value) : Prop := ∀ w : World, Calls Tryz.prog f args w fun e w' => e = .returned v ∧ Below w.heap.size w w'
theorem Says.tells {f : Nat} {args : Array Value} {v : Value} (h : Says f args v) : Tells f args v := fun w => (h w).mono fun _ _ ⟨a, b⟩ => ⟨a, b ▸ Below.refl _ _⟩
/-- Two operands. -/
abbrev opnd (x y : Int) : Value := .agg #[i64 x, i64 y]
theorem below_1 {w w1 : World} (o : Obj) (h : Below (w.alloc o).heap.size (w.alloc o) w1) : Below w.heap.size w w1 := by
  have hs : (w.alloc o).heap.size = w.heap.size + 1 := by simp
  exact ((Below.refl _ w).alloc (Nat.le_refl _) o).trans (h.mono (by omega))

theorem o_add (x y : Int) : Tells 144 #[opnd x y] (i64 (wd (x + y))) := by
  intro w
  have hc := add_says x y
  generalize wd (x + y) = r at *
  go_enter Tryz.func144, Tryz.ntmps144
  go_wp2_with (go_at_call 40; refine (hc _).mono ?_; rintro e w' ⟨rfl, rfl⟩)
  go_ret
  exact ⟨rfl, (Below.refl _ _).alloc (Nat.le_refl _) _⟩
theorem o_sub (x y : Int) : Tells 145 #[opnd x y] (i64 (wd (x - y))) := by
  intro w
  have hc := sub_says x y
  generalize wd (x - y) = r at *
  go_enter Tryz.func145, Tryz.ntmps145
  go_wp2_with (go_at_call 169; refine (hc _).mono ?_; rintro e w' ⟨rfl, rfl⟩)
  go_ret
  exact ⟨rfl, (Below.refl _ _).alloc (Nat.le_refl _) _⟩
theorem o_sll (x y : Int) : Tells 149 #[opnd x y] (i64 (lf x y)) := by
  intro w
  have hc := left_says x y
  generalize lf x y = r at *
  go_enter Tryz.func149, Tryz.ntmps149
  go_wp2_with (go_at_call 170; refine (hc _).mono ?_; rintro e w' ⟨rfl, rfl⟩)
  go_ret
  exact ⟨rfl, (Below.refl _ _).alloc (Nat.le_refl _) _⟩
theorem o_srl (x y : Int) : Tells 150 #[opnd x y] (i64 (rt x y)) := by
  intro w
  have hc := right_says x y
  generalize rt x y = r at *
  go_enter Tryz.func150, Tryz.ntmps150
  go_wp2_with (go_at_call 171; refine (hc _).mono ?_; rintro e w' ⟨rfl, rfl⟩)
  go_ret
  exact ⟨rfl, (Below.refl _ _).alloc (Nat.le_refl _) _⟩
theorem o_sra (x y : Int) : Tells 151 #[opnd x y] (i64 (ar x y)) := by
  intro w
  have hc := arith_says x y
  generalize ar x y = r at *
  go_enter Tryz.func151, Tryz.ntmps151
  go_wp2_with (go_at_call 172; refine (hc _).mono ?_; rintro e w' ⟨rfl, rfl⟩)
  go_ret
  exact ⟨rfl, (Below.refl _ _).alloc (Nat.le_refl _) _⟩
theorem o_mul (x y : Int) : Tells 152 #[opnd x y] (i64 (wd (x * y))) := by
  intro w
  have hc := mul_says x y
  generalize wd (x * y) = r at *
  go_enter Tryz.func152, Tryz.ntmps152
  go_wp2_with (go_at_call 173; refine (hc _).mono ?_; rintro e w' ⟨rfl, rfl⟩)
  go_ret
  exact ⟨rfl, (Below.refl _ _).alloc (Nat.le_refl _) _⟩
theorem o_divu (x y : Int) : Tells 155 #[opnd x y] (i64 (dv x y)) := by
  intro w
  have hc := div_says x y
  generalize dv x y = r at *
  go_enter Tryz.func155, Tryz.ntmps155
  go_wp2_with (go_at_call 175; refine (hc _).mono ?_; rintro e w' ⟨rfl, rfl⟩)
  go_ret
  exact ⟨rfl, (Below.refl _ _).alloc (Nat.le_refl _) _⟩
theorem o_remu (x y : Int) : Tells 156 #[opnd x y] (i64 (rm x y)) := by
  intro w
  have hc := rem_says x y
  generalize rm x y = r at *
  go_enter Tryz.func156, Tryz.ntmps156
  go_wp2_with (go_at_call 176; refine (hc _).mono ?_; rintro e w' ⟨rfl, rfl⟩)
  go_ret
  exact ⟨rfl, (Below.refl _ _).alloc (Nat.le_refl _) _⟩
theorem o_lui (x y : Int) : Tells 157 #[opnd x y] (i64 (lf y 16)) := by
  intro w
  have hc := left_says y 16
  generalize lf y 16 = r at *
  go_enter Tryz.func157, Tryz.ntmps157
  go_wp2_with (go_at_call 170; refine (hc _).mono ?_; rintro e w' ⟨rfl, rfl⟩)
  go_ret
  exact ⟨rfl, (Below.refl _ _).alloc (Nat.le_refl _) _⟩
theorem o_and (x y : Int) : Tells 146 #[opnd x y] (i64 (wd (bits .and .i64 x y))) := by
  intro w
  have hc := of_says (bits .and .i64 x y)
  generalize wd (bits .and .i64 x y) = r at *
  go_enter Tryz.func146, Tryz.ntmps146
  go_wp2_with (go_at_call 27; refine (hc _).mono ?_; rintro e w' ⟨rfl, rfl⟩)
  go_ret
  exact ⟨rfl, (Below.refl _ _).alloc (Nat.le_refl _) _⟩
theorem o_or (x y : Int) : Tells 147 #[opnd x y] (i64 (wd (bits .or .i64 x y))) := by
  intro w
  have hc := of_says (bits .or .i64 x y)
  generalize wd (bits .or .i64 x y) = r at *
  go_enter Tryz.func147, Tryz.ntmps147
  go_wp2_with (go_at_call 27; refine (hc _).mono ?_; rintro e w' ⟨rfl, rfl⟩)
  go_ret
  exact ⟨rfl, (Below.refl _ _).alloc (Nat.le_refl _) _⟩
theorem o_xor (x y : Int) : Tells 148 #[opnd x y] (i64 (wd (bits .xor .i64 x y))) := by
  intro w
  have hc := of_says (bits .xor .i64 x y)
  generalize wd (bits .xor .i64 x y) = r at *
  go_enter Tryz.func148, Tryz.ntmps148
  go_wp2_with (go_at_call 27; refine (hc _).mono ?_; rintro e w' ⟨rfl, rfl⟩)
  go_ret
  exact ⟨rfl, (Below.refl _ _).alloc (Nat.le_refl _) _⟩
theorem o_blt (x y : Int) : Tells 140 #[opnd x y] (.bool (decide (sg x < sg y))) := by
  intro w
  have hc := less_says x y
  generalize decide (sg x < sg y) = r at *
  go_enter Tryz.func140, Tryz.ntmps140
  go_wp2_with (go_at_call 168; refine (hc _).mono ?_; rintro e w' ⟨rfl, rfl⟩)
  go_ret
  exact ⟨rfl, (Below.refl _ _).alloc (Nat.le_refl _) _⟩
theorem o_bltu (x y : Int) : Tells 142 #[opnd x y] (.bool (decide (wd x < wd y))) := by
  intro w
  have hc := below_says x y
  generalize decide (wd x < wd y) = r at *
  go_enter Tryz.func142, Tryz.ntmps142
  go_wp2_with (go_at_call 73; refine (hc _).mono ?_; rintro e w' ⟨rfl, rfl⟩)
  go_ret
  exact ⟨rfl, (Below.refl _ _).alloc (Nat.le_refl _) _⟩
theorem o_beq (x y : Int) : Tells 138 #[opnd x y] (.bool (decide (wd x = wd y))) := by
  intro w
  have hx := of_says x
  have hy := of_says y
  have hd : (wd x == wd y) = decide (wd x = wd y) := by rw [Bool.eq_iff_iff]; simp
  generalize decide (wd x = wd y) = r at *
  generalize wd x = a at *
  generalize wd y = b at *
  go_enter Tryz.func138, Tryz.ntmps138
  go_upto_region 1 with fail
  go_region_with (go_at_call 27; first | ((with_reducible refine (hx _).mono ?_); rintro e w' ⟨rfl, rfl⟩) | ((with_reducible refine (hy _).mono ?_); rintro e w' ⟨rfl, rfl⟩))
  all_goals
    go_wp2_with fail
    go_ret
    exact ⟨rfl, ((Below.refl _ _).alloc (Nat.le_refl _) _).drew⟩
theorem o_bne (x y : Int) : Tells 139 #[opnd x y] (.bool (!decide (wd x = wd y))) := by
  intro w
  have hc := o_beq x y
  generalize decide (wd x = wd y) = r at *
  go_enter Tryz.func139, Tryz.ntmps139
  go_wp2_with (go_at_call 138; refine (hc _).mono ?_; rintro e w' ⟨rfl, hb⟩)
  go_ret
  exact ⟨rfl, below_1 _ hb⟩
theorem o_bge (x y : Int) : Tells 141 #[opnd x y] (.bool (!decide (sg x < sg y))) := by
  intro w
  have hc := o_blt x y
  generalize decide (sg x < sg y) = r at *
  go_enter Tryz.func141, Tryz.ntmps141
  go_wp2_with (go_at_call 140; refine (hc _).mono ?_; rintro e w' ⟨rfl, hb⟩)
  go_ret
  exact ⟨rfl, below_1 _ hb⟩
theorem o_bgeu (x y : Int) : Tells 143 #[opnd x y] (.bool (!decide (wd x < wd y))) := by
  intro w
  have hc := o_bltu x y
  generalize decide (wd x < wd y) = r at *
  go_enter Tryz.func143, Tryz.ntmps143
  go_wp2_with (go_at_call 142; refine (hc _).mono ?_; rintro e w' ⟨rfl, hb⟩)
  go_ret
  exact ⟨rfl, below_1 _ hb⟩
theorem oneif_says (b : Bool) : Says 174 #[.bool b] (i64 (if b then 1 else 0)) := by
  intro w
  cases b
  all_goals
    go_enter Tryz.func174, Tryz.ntmps174
    go_wp2
    go_ret
    exact ⟨rfl, rfl⟩
theorem o_slt (x y : Int) : Tells 153 #[opnd x y] (i64 (if sg x < sg y then 1 else 0)) := by
  intro w
  have hc := o_blt x y
  obtain ⟨r, hr⟩ : ∃ r, r = decide (sg x < sg y) := ⟨_, rfl⟩
  have hv : (if r then (1 : Int) else 0) = if sg x < sg y then 1 else 0 := by rw [hr]; by_cases h : sg x < sg y <;> simp [h]
  have ho := oneif_says r
  rw [← hr] at hc
  rw [← hv]
  clear hv hr
  generalize (if r then (1 : Int) else 0) = v at *
  go_enter Tryz.func153, Tryz.ntmps153
  go_wp2_with (first | (go_at_call 140; refine (hc _).mono ?_; rintro e w' ⟨rfl, hb⟩) | (go_at_call 174; refine (ho _).mono ?_; rintro e w' ⟨rfl, rfl⟩))
  go_ret
  exact ⟨rfl, below_1 _ hb⟩
theorem o_sltu (x y : Int) : Tells 154 #[opnd x y] (i64 (if wd x < wd y then 1 else 0)) := by
  intro w
  have hc := o_bltu x y
  obtain ⟨r, hr⟩ : ∃ r, r = decide (wd x < wd y) := ⟨_, rfl⟩
  have hv : (if r then (1 : Int) else 0) = if wd x < wd y then 1 else 0 := by rw [hr]; by_cases h : wd x < wd y <;> simp [h]
  have ho := oneif_says r
  rw [← hr] at hc
  rw [← hv]
  clear hv hr
  generalize (if r then (1 : Int) else 0) = v at *
  go_enter Tryz.func154, Tryz.ntmps154
  go_wp2_with (first | (go_at_call 142; refine (hc _).mono ?_; rintro e w' ⟨rfl, hb⟩) | (go_at_call 174; refine (ho _).mono ?_; rintro e w' ⟨rfl, rfl⟩))
  go_ret
  exact ⟨rfl, below_1 _ hb⟩
end Go.Proofs.YtfcmodllbhpniaaGreatDoor
