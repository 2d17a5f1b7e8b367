
/-
  Contracts of package isa: forms, registers, numbers.
-/
import Derived.Test.YtpjonhcbhgalpaaDoorIsaTab
import Derived.Handy
namespace Go.Proofs.YtpjonhcbhgalpaaDoor
open Go.ChangeShapes Go.WideShapes Go.ChangeAt Go.RowKit
/-- A form by value. -/
abbrev formV (r b l h : Int) : Value := .agg #[i64 r, i64 b, i64 l, i64 h]
/-- The table of forms as it lies in memory: four cells a row. -/
def formCells : Array Value := #[.int .i64 0, .int .i64 0, .int .i64 0, .int .i64 0, .int .i64 3, .int .i64 0, .int .i64 0, .int .i64 0, .int .i64 2, .int .i64 16, .int .i64 (-32768), .int .i64 32767, .int .i64 2, .int .i64 16, .int .i64 0, .int .i64 65535, .int .i64 2, .int .i64 16, .int .i64 0, .int .i64 31, .int .i64 1, .int .i64 16, .int .i64 0, .int .i64 65535, .int .i64 1, .int .i64 20, .int .i64 (-524288), .int .i64 524287, .int .i64 1, .int .i64 16, .int .i64 0, .int .i64 10, .int .i64 0, .int .i64 0, .int .i64 0, .int .i64 0]
set_option maxRecDepth 100000 in
theorem ftab_at (f : Int) (h0 : 0 ≤ f) (h1 : f ≤ 8) (w : World) : Sem.run Tryd.prog (Instr.index 52 (Value.agg formCells) (Value.int .i64 f)) w = .ok (formV (fR f) (fB f) (fL f) (fH f)) w := by
  rcases f_cases f h0 h1 with rfl | rfl | rfl | rfl | rfl | rfl | rfl | rfl | rfl <;> kernel_rfl
theorem ftab_any (cells : Array Value) (f : Int) (h0 : 0 ≤ f) (h1 : f ≤ 8) (w : World) (hc : cells = formCells) : Sem.run Tryd.prog (Instr.index 52 (Value.agg cells) (Value.int .i64 f)) w = .ok (formV (fR f) (fB f) (fL f) (fH f)) w := by
  subst hc; exact ftab_at f h0 h1 w
set_option maxHeartbeats 1000000 in
set_option maxRecDepth 100000 in
theorem formOf_says (f : Int) (h0 : 0 ≤ f) (h1 : f ≤ 8) (w : World) : Calls Tryd.prog 15 #[i64 f] w fun e w' => e = .returned (formV (fR f) (fB f) (fL f) (fH f)) ∧ Below w.heap.size w w' := by
  go_enter Tryd.func15, Tryd.ntmps15
  go_wp2
  rw [ftab_any _ f h0 h1]
  rotate_left
  · kernel_rfl
  go_wp2
  exact bodyPost_ret (v := formV (fR f) (fB f) (fL f) (fH f)) (by simp [results, Tryd.results15, go_sem]) rfl ⟨rfl, (Below.refl _ _).alloc (Nat.le_refl _) _⟩
theorem and15 (y : Int) (h0 : 0 ≤ y) (h1 : y ≤ 4294967295) : wrap64 (bits .and .u32 y 15) = y % 16 := by
  rw [show (15 : Int) = 2 ^ 4 - 1 from by decide, bits_mask .u32 32 (by decide) (fun n h1 h2 => IntWalk.u32_in n (by omega)) 4 (by decide) y h0 (by omega)]
  show wrap64 (y % 16) = y % 16
  unfold wrap64; omega
theorem tk_no {r a b c : Int} (h : badQ r a b c) : tkB r a b c = false := by unfold tkB; simp [h]
theorem tk_yes {r a b c : Int} (h : ¬ badQ r a b c) : tkB r a b c = true := by unfold tkB; simp [h]
set_option maxHeartbeats 1000000 in
theorem takes_says (r q l h a b c : Int) (w : World) : Calls Tryd.prog 20 #[formV r q l h, .agg #[i64 a, i64 b, i64 c]] w fun e w' => e = .returned (.bool (tkB r a b c)) ∧ Below w.heap.size w w' := by
  have i0 : ∀ w, (Instr.index 49 (.agg #[i64 a, i64 b, i64 c]) (.int .i64 0)).run Tryd.prog w = .ok (i64 a) w := fun _ => by kernel_rfl
  have i1 : ∀ w, (Instr.index 49 (.agg #[i64 a, i64 b, i64 c]) (.int .i64 1)).run Tryd.prog w = .ok (i64 b) w := fun _ => by kernel_rfl
  have i2 : ∀ w, (Instr.index 49 (.agg #[i64 a, i64 b, i64 c]) (.int .i64 2)).run Tryd.prog w = .ok (i64 c) w := fun _ => by kernel_rfl
  go_enter Tryd.func20, Tryd.ntmps20
  go_wp2
  go_rounds 4
  all_goals clear i0 i1 i2
  all_goals go_ret
  all_goals refine ⟨ret_bool ?_, ((Below.refl _ _).alloc (Nat.le_refl _) _).alloc (by simp) _⟩
  all_goals (try simp only [bne_iff_ne, ne_eq, bne_eq_false_iff_eq] at *)
  all_goals first
    | exact (tk_no (by unfold badQ; omega)).symm
    | exact (tk_yes (by unfold badQ; omega)).symm
end Go.Proofs.YtpjonhcbhgalpaaDoor
