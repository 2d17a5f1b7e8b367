/-
  The contract of package isa's table of operations. | Contracts of package isa: forms, registers, numbers.
-/
import Derived.Test.YtfcmodllbhpniaaGreatDoorJnIsaNum
import Derived.Test.YtfcmodllbhpniaaGreatDoorJnWords
import Derived.Below
import Derived.Handy
set_option linter.unusedVariables false
set_option maxRecDepth 100000
namespace Go.Proofs.YtfcmodllbhpniaaGreatDoor
open Go.ChangeShapes Go.WideShapes Go.ChangeAt Go.RowKit
/-- The table as it lies in memory: two cells a row. -/
def tabCells : Array Value := #[.string ⟨#[]⟩, .int .i64 0, .string ⟨#[97, 100, 100]⟩, .int .i64 1, .string ⟨#[115, 117, 98]⟩, .int .i64 1, .string ⟨#[97, 110, 100]⟩, .int .i64 1, .string ⟨#[111, 114]⟩, .int .i64 1, .string ⟨#[120, 111, 114]⟩, .int .i64 1, .string ⟨#[115, 108, 108]⟩, .int .i64 1, .string ⟨#[115, 114, 108]⟩, .int .i64 1, .string ⟨#[115, 114, 97]⟩, .int .i64 1, .string ⟨#[109, 117, 108]⟩, .int .i64 1, .string ⟨#[115, 108, 116]⟩, .int .i64 1, .string ⟨#[115, 108, 116, 117]⟩, .int .i64 1, .string ⟨#[100, 105, 118, 117]⟩, .int .i64 1, .string ⟨#[114, 101, 109, 117]⟩, .int .i64 1, .string ⟨#[]⟩, .int .i64 0, .string ⟨#[]⟩, .int .i64 0, .string ⟨#[97, 100, 100, 105]⟩, .int .i64 2, .string ⟨#[97, 110, 100, 105]⟩, .int .i64 3, .string ⟨#[111, 114, 105]⟩, .int .i64 3, .string ⟨#[120, 111, 114, 105]⟩, .int .i64 3, .string ⟨#[115, 108, 108, 105]⟩, .int .i64 4, .string ⟨#[115, 114, 108, 105]⟩, .int .i64 4, .string ⟨#[115, 114, 97, 105]⟩, .int .i64 4, .string ⟨#[108, 117, 105]⟩, .int .i64 5, .string ⟨#[115, 108, 116, 105]⟩, .int .i64 2, .string ⟨#[]⟩, .int .i64 0, .string ⟨#[]⟩, .int .i64 0, .string ⟨#[]⟩, .int .i64 0, .string ⟨#[]⟩, .int .i64 0, .string ⟨#[]⟩, .int .i64 0, .string ⟨#[]⟩, .int .i64 0, .string ⟨#[]⟩, .int .i64 0, .string ⟨#[108, 119]⟩, .int .i64 2, .string ⟨#[108, 104]⟩, .int .i64 2, .string ⟨#[108, 104, 117]⟩, .int .i64 2, .string ⟨#[108, 98]⟩, .int .i64 2, .string ⟨#[108, 98, 117]⟩, .int .i64 2, .string ⟨#[]⟩, .int .i64 0, .string ⟨#[]⟩, .int .i64 0, .string ⟨#[]⟩, .int .i64 0, .string ⟨#[115, 119]⟩, .int .i64 2, .string ⟨#[115, 104]⟩, .int .i64 2, .string ⟨#[115, 98]⟩, .int .i64 2, .string ⟨#[]⟩, .int .i64 0, .string ⟨#[]⟩, .int .i64 0, .string ⟨#[]⟩, .int .i64 0, .string ⟨#[]⟩, .int .i64 0, .string ⟨#[]⟩, .int .i64 0, .string ⟨#[98, 101, 113]⟩, .int .i64 2, .string ⟨#[98, 110, 101]⟩, .int .i64 2, .string ⟨#[98, 108, 116]⟩, .int .i64 2, .string ⟨#[98, 103, 101]⟩, .int .i64 2, .string ⟨#[98, 108, 116, 117]⟩, .int .i64 2, .string ⟨#[98, 103, 101, 117]⟩, .int .i64 2, .string ⟨#[]⟩, .int .i64 0, .string ⟨#[]⟩, .int .i64 0, .string ⟨#[106, 97, 108]⟩, .int .i64 6, .string ⟨#[106, 97, 108, 114]⟩, .int .i64 2, .string ⟨#[]⟩, .int .i64 0, .string ⟨#[]⟩, .int .i64 0, .string ⟨#[]⟩, .int .i64 0, .string ⟨#[]⟩, .int .i64 0, .string ⟨#[]⟩, .int .i64 0, .string ⟨#[]⟩, .int .i64 0, .string ⟨#[101, 99, 97, 108, 108]⟩, .int .i64 8, .string ⟨#[115, 114, 101, 116]⟩, .int .i64 8, .string ⟨#[119, 102, 105]⟩, .int .i64 8, .string ⟨#[]⟩, .int .i64 0, .string ⟨#[99, 115, 114, 114]⟩, .int .i64 7, .string ⟨#[99, 115, 114, 119]⟩, .int .i64 7, .string ⟨#[98, 114, 107]⟩, .int .i64 8]
set_option maxRecDepth 100000 in
theorem tab_at (op : Int) (h0 : 0 ≤ op) (h1 : op ≤ 70) (w : World) : Sem.run Tryz.prog (Instr.index 206 (Value.agg tabCells) (Value.int .i64 op)) w = .ok (.agg #[.string (opN op), i64 (opF op)]) w := by
  rcases op_cases op h0 h1 with rfl | rfl | rfl | rfl | rfl | rfl | rfl | rfl | rfl | rfl | rfl | rfl | rfl | rfl | rfl | rfl | rfl | rfl | rfl | rfl | rfl | rfl | rfl | rfl | rfl | rfl | rfl | rfl | rfl | rfl | rfl | rfl | rfl | rfl | rfl | rfl | rfl | rfl | rfl | rfl | rfl | rfl | rfl | rfl | rfl | rfl | rfl | rfl | rfl | rfl | rfl | rfl | rfl | rfl | rfl | rfl | rfl | rfl | rfl | rfl | rfl | rfl | rfl | rfl | rfl | rfl | rfl | rfl | rfl | rfl | rfl <;> kernel_rfl
theorem tab_any (cells : Array Value) (op : Int) (h0 : 0 ≤ op) (h1 : op ≤ 70) (w : World) (hc : cells = tabCells) : Sem.run Tryz.prog (Instr.index 206 (Value.agg cells) (Value.int .i64 op)) w = .ok (.agg #[.string (opN op), i64 (opF op)]) w := by
  subst hc; exact tab_at op h0 h1 w
/-- The cells of the table ahead of its rows. -/
def noCells : Array Value := (List.replicate 71 [Value.string ⟨#[]⟩, .int .i64 0]).flatten.toArray
set_option maxRecDepth 100000 in
theorem none_yet : ∃ zs : Array Value, Hid (zs = noCells) ∧ zs.size = 142 ∧ ¬ zs = #[] ∧ ∀ w : World, Sem.run Tryz.prog (zeroValue 206) w = .ok (.agg zs) w :=
  ⟨noCells, Lib.hid rfl, by kernel_rfl, (by intro h; have := congrArg Array.size h; revert this; decide +kernel), fun w => by kernel_rfl⟩
set_option maxHeartbeats 4000000 in
set_option maxRecDepth 100000 in
theorem operationOf_in (op : Int) (h0 : 0 ≤ op) (h1 : op ≤ 70) (w : World) : Calls Tryz.prog 120 #[i64 op] w fun e w' => e = .returned (.agg #[.string (opN op), i64 (opF op)]) ∧ Below w.heap.size w w' := by
  obtain ⟨zs, hzs, hsz, hne, hz⟩ := none_yet
  go_enter Tryz.func120, Tryz.ntmps120
  go_wp2
  rw [tab_any _ op h0 h1]
  rotate_left
  · have e := hzs.out
    subst e
    first
    | (show _ = tabCells; kernel_rfl)
    | (rw [show tabCells = tabCells from rfl]; kernel_rfl)
    | (trace_state; exact (by decide +kernel))
  go_wp2
  exact bodyPost_ret (v := .agg #[.string (opN op), i64 (opF op)]) (by simp [results, Tryz.results120, go_sem]) rfl ⟨rfl, (Below.refl _ _).alloc (Nat.le_refl _) _⟩
set_option maxHeartbeats 1000000 in
theorem operationOf_out (op : Int) (h : op < 0 ∨ 70 < op) (w : World) : Calls Tryz.prog 120 #[i64 op] w fun e w' => e = .returned (.agg #[.string ⟨#[]⟩, i64 0]) ∧ Below w.heap.size w w' := by
  by_cases h0 : op < 0
  all_goals
    have h1 : op < 0 ∨ 70 < op := h
    clear h
    first
    | (have h2 : ¬ op < 0 := h0; have h3 : 70 < op := by omega) | skip
    clear h1
    go_enter Tryz.func120, Tryz.ntmps120
    go_wp2
    exact bodyPost_ret (v := .agg #[.string ⟨#[]⟩, i64 0]) (by simp [results, Tryz.results120, go_sem]) rfl ⟨rfl, (Below.refl _ _).alloc (Nat.le_refl _) _⟩
/-- The operation of every number. -/
theorem operationOf_says (op : Int) (w : World) : Calls Tryz.prog 120 #[i64 op] w fun e w' => e = .returned (.agg #[.string (opN op), i64 (opF op)]) ∧ Below w.heap.size w w' := by
  by_cases h0 : op < 0
  · rw [opN_neg op h0, opF_neg op h0]; exact operationOf_out op (.inl h0) w
  · by_cases h1 : 70 < op
    · rw [opN_great op h1, opF_great op h1]; exact operationOf_out op (.inr h1) w
    · exact operationOf_in op (by omega) (by omega) w
end Go.Proofs.YtfcmodllbhpniaaGreatDoor
set_option maxRecDepth 100000
namespace Go.Proofs.YtfcmodllbhpniaaGreatDoor
open Go.ChangeShapes Go.WideShapes Go.ChangeAt Go.RowKit
/-- A form by value. -/
abbrev formV (r b l h : Int) : Value := .agg #[i64 r, i64 b, i64 l, i64 h]
/-- The table of forms as it lies in memory: four cells a row. -/
def formCells : Array Value := #[.int .i64 0, .int .i64 0, .int .i64 0, .int .i64 0, .int .i64 3, .int .i64 0, .int .i64 0, .int .i64 0, .int .i64 2, .int .i64 16, .int .i64 (-32768), .int .i64 32767, .int .i64 2, .int .i64 16, .int .i64 0, .int .i64 65535, .int .i64 2, .int .i64 16, .int .i64 0, .int .i64 31, .int .i64 1, .int .i64 16, .int .i64 0, .int .i64 65535, .int .i64 1, .int .i64 20, .int .i64 (-524288), .int .i64 524287, .int .i64 1, .int .i64 16, .int .i64 0, .int .i64 10, .int .i64 0, .int .i64 0, .int .i64 0, .int .i64 0]
set_option maxRecDepth 100000 in
theorem ftab_at (f : Int) (h0 : 0 ≤ f) (h1 : f ≤ 8) (w : World) : Sem.run Tryz.prog (Instr.index 207 (Value.agg formCells) (Value.int .i64 f)) w = .ok (formV (fR f) (fB f) (fL f) (fH f)) w := by
  rcases f_cases f h0 h1 with rfl | rfl | rfl | rfl | rfl | rfl | rfl | rfl | rfl <;> kernel_rfl
theorem ftab_any (cells : Array Value) (f : Int) (h0 : 0 ≤ f) (h1 : f ≤ 8) (w : World) (hc : cells = formCells) : Sem.run Tryz.prog (Instr.index 207 (Value.agg cells) (Value.int .i64 f)) w = .ok (formV (fR f) (fB f) (fL f) (fH f)) w := by
  subst hc; exact ftab_at f h0 h1 w
set_option maxHeartbeats 1000000 in
set_option maxRecDepth 100000 in
theorem formOf_says (f : Int) (h0 : 0 ≤ f) (h1 : f ≤ 8) (w : World) : Calls Tryz.prog 121 #[i64 f] w fun e w' => e = .returned (formV (fR f) (fB f) (fL f) (fH f)) ∧ Below w.heap.size w w' := by
  go_enter Tryz.func121, Tryz.ntmps121
  go_wp2
  rw [ftab_any _ f h0 h1]
  rotate_left
  · kernel_rfl
  go_wp2
  exact bodyPost_ret (v := formV (fR f) (fB f) (fL f) (fH f)) (by simp [results, Tryz.results121, go_sem]) rfl ⟨rfl, (Below.refl _ _).alloc (Nat.le_refl _) _⟩
theorem and15 (y : Int) (h0 : 0 ≤ y) (h1 : y ≤ 4294967295) : wrap64 (bits .and .u32 y 15) = y % 16 := by
  rw [show (15 : Int) = 2 ^ 4 - 1 from by decide, bits_mask .u32 32 (by decide) (fun n h1 h2 => IntWalk.u32_in n (by omega)) 4 (by decide) y h0 (by omega)]
  show wrap64 (y % 16) = y % 16
  unfold wrap64; omega
theorem tk_no {r a b c : Int} (h : badQ r a b c) : tkB r a b c = false := by unfold tkB; simp [h]
theorem tk_yes {r a b c : Int} (h : ¬ badQ r a b c) : tkB r a b c = true := by unfold tkB; simp [h]
set_option maxHeartbeats 1000000 in
theorem ftakes_says (r q l h a b c : Int) (w : World) : Calls Tryz.prog 166 #[formV r q l h, .agg #[i64 a, i64 b, i64 c]] w fun e w' => e = .returned (.bool (tkB r a b c)) ∧ Below w.heap.size w w' := by
  have i0 : ∀ w, (Instr.index 115 (.agg #[i64 a, i64 b, i64 c]) (.int .i64 0)).run Tryz.prog w = .ok (i64 a) w := fun _ => by kernel_rfl
  have i1 : ∀ w, (Instr.index 115 (.agg #[i64 a, i64 b, i64 c]) (.int .i64 1)).run Tryz.prog w = .ok (i64 b) w := fun _ => by kernel_rfl
  have i2 : ∀ w, (Instr.index 115 (.agg #[i64 a, i64 b, i64 c]) (.int .i64 2)).run Tryz.prog w = .ok (i64 c) w := fun _ => by kernel_rfl
  go_enter Tryz.func166, Tryz.ntmps166
  go_wp2
  go_rounds 4
  all_goals clear i0 i1 i2
  all_goals go_ret
  all_goals refine ⟨ret_bool ?_, ((Below.refl _ _).alloc (Nat.le_refl _) _).alloc (by simp) _⟩
  all_goals (try simp only [bne_iff_ne, ne_eq, bne_eq_false_iff_eq] at *)
  all_goals first
    | exact (tk_no (by unfold badQ; omega)).symm
    | exact (tk_yes (by unfold badQ; omega)).symm
set_option maxHeartbeats 1000000 in
theorem register_says (r q l h x k at' : Int) (hx : 0 ≤ x) (hx' : x ≤ 4294967295) (hk : 0 ≤ at') (hk' : at' ≤ 31) (w : World) : Calls Tryz.prog 122 #[formV r q l h, .int .u32 x, i64 k, i64 at'] w fun e w' => e = .returned (i64 (if r ≤ k then 0 else x / 2 ^ at'.toNat % 16)) ∧ Below w.heap.size w w' := by
  have hq := div_pow_le x at'.toNat hx
  go_enter Tryz.func122, Tryz.ntmps122
  go_wp2
  all_goals go_ret
  · exact ⟨rfl, (Below.refl _ _).alloc (Nat.le_refl _) _⟩
  · exact ⟨ret_int (and15 _ hq.1 (by omega)), (Below.refl _ _).alloc (Nat.le_refl _) _⟩
set_option maxHeartbeats 1000000 in
theorem imm_says (r q l h x : Int) (hx : 0 ≤ x) (hx' : x ≤ 4294967295) (hq : 0 ≤ q) (hq' : q ≤ 20) (w : World) : Calls Tryz.prog 123 #[formV r q l h, .int .u32 x] w fun e w' => e = .returned (i64 (if l < 0 then sg (ex x q) else bt x (q - 1) 0)) ∧ Below w.heap.size w w' := by
  go_enter Tryz.func123, Tryz.ntmps123
  go_wp2_with (first | (go_at_call 165; refine (extend_says _ _ _).mono ?_; rintro e w' ⟨rfl, rfl⟩) | (go_at_call 164; refine (signed_says _ _).mono ?_; rintro e w' ⟨rfl, rfl⟩) | (go_at_call 161; refine (bits_says _ _ _ _).mono ?_; rintro e w' ⟨rfl, rfl⟩))
  all_goals go_ret
  all_goals exact ⟨rfl, (Below.refl _ _).alloc (Nat.le_refl _) _⟩
end Go.Proofs.YtfcmodllbhpniaaGreatDoor
