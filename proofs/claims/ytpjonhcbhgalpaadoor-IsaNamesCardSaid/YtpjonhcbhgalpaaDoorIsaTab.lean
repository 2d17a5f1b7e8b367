
/-
  The contract of package isa's table of operations.
-/
import Derived.Test.YtpjonhcbhgalpaaDoorIsaMath
import Derived.Test.YtpjonhcbhgalpaaDoorWord
import Derived.Below
namespace Go.Proofs.YtpjonhcbhgalpaaDoor
open Go.ChangeShapes Go.WideShapes Go.ChangeAt Go.RowKit
/-- The table as it lies in memory: two cells a row. -/
def tabCells : Array Value := #[.string ⟨#[]⟩, .int .i64 0, .string ⟨#[97, 100, 100]⟩, .int .i64 1, .string ⟨#[115, 117, 98]⟩, .int .i64 1, .string ⟨#[97, 110, 100]⟩, .int .i64 1, .string ⟨#[111, 114]⟩, .int .i64 1, .string ⟨#[120, 111, 114]⟩, .int .i64 1, .string ⟨#[115, 108, 108]⟩, .int .i64 1, .string ⟨#[115, 114, 108]⟩, .int .i64 1, .string ⟨#[115, 114, 97]⟩, .int .i64 1, .string ⟨#[109, 117, 108]⟩, .int .i64 1, .string ⟨#[115, 108, 116]⟩, .int .i64 1, .string ⟨#[115, 108, 116, 117]⟩, .int .i64 1, .string ⟨#[100, 105, 118, 117]⟩, .int .i64 1, .string ⟨#[114, 101, 109, 117]⟩, .int .i64 1, .string ⟨#[]⟩, .int .i64 0, .string ⟨#[]⟩, .int .i64 0, .string ⟨#[97, 100, 100, 105]⟩, .int .i64 2, .string ⟨#[97, 110, 100, 105]⟩, .int .i64 3, .string ⟨#[111, 114, 105]⟩, .int .i64 3, .string ⟨#[120, 111, 114, 105]⟩, .int .i64 3, .string ⟨#[115, 108, 108, 105]⟩, .int .i64 4, .string ⟨#[115, 114, 108, 105]⟩, .int .i64 4, .string ⟨#[115, 114, 97, 105]⟩, .int .i64 4, .string ⟨#[108, 117, 105]⟩, .int .i64 5, .string ⟨#[115, 108, 116, 105]⟩, .int .i64 2, .string ⟨#[]⟩, .int .i64 0, .string ⟨#[]⟩, .int .i64 0, .string ⟨#[]⟩, .int .i64 0, .string ⟨#[]⟩, .int .i64 0, .string ⟨#[]⟩, .int .i64 0, .string ⟨#[]⟩, .int .i64 0, .string ⟨#[]⟩, .int .i64 0, .string ⟨#[108, 119]⟩, .int .i64 2, .string ⟨#[108, 104]⟩, .int .i64 2, .string ⟨#[108, 104, 117]⟩, .int .i64 2, .string ⟨#[108, 98]⟩, .int .i64 2, .string ⟨#[108, 98, 117]⟩, .int .i64 2, .string ⟨#[]⟩, .int .i64 0, .string ⟨#[]⟩, .int .i64 0, .string ⟨#[]⟩, .int .i64 0, .string ⟨#[115, 119]⟩, .int .i64 2, .string ⟨#[115, 104]⟩, .int .i64 2, .string ⟨#[115, 98]⟩, .int .i64 2, .string ⟨#[]⟩, .int .i64 0, .string ⟨#[]⟩, .int .i64 0, .string ⟨#[]⟩, .int .i64 0, .string ⟨#[]⟩, .int .i64 0, .string ⟨#[]⟩, .int .i64 0, .string ⟨#[98, 101, 113]⟩, .int .i64 2, .string ⟨#[98, 110, 101]⟩, .int .i64 2, .string ⟨#[98, 108, 116]⟩, .int .i64 2, .string ⟨#[98, 103, 101]⟩, .int .i64 2, .string ⟨#[98, 108, 116, 117]⟩, .int .i64 2, .string ⟨#[98, 103, 101, 117]⟩, .int .i64 2, .string ⟨#[]⟩, .int .i64 0, .string ⟨#[]⟩, .int .i64 0, .string ⟨#[106, 97, 108]⟩, .int .i64 6, .string ⟨#[106, 97, 108, 114]⟩, .int .i64 2, .string ⟨#[]⟩, .int .i64 0, .string ⟨#[]⟩, .int .i64 0, .string ⟨#[]⟩, .int .i64 0, .string ⟨#[]⟩, .int .i64 0, .string ⟨#[]⟩, .int .i64 0, .string ⟨#[]⟩, .int .i64 0, .string ⟨#[101, 99, 97, 108, 108]⟩, .int .i64 8, .string ⟨#[115, 114, 101, 116]⟩, .int .i64 8, .string ⟨#[119, 102, 105]⟩, .int .i64 8, .string ⟨#[]⟩, .int .i64 0, .string ⟨#[99, 115, 114, 114]⟩, .int .i64 7, .string ⟨#[99, 115, 114, 119]⟩, .int .i64 7, .string ⟨#[98, 114, 107]⟩, .int .i64 8]
set_option maxRecDepth 100000 in
theorem tab_at (op : Int) (h0 : 0 ≤ op) (h1 : op ≤ 70) (w : World) : Sem.run Tryd.prog (Instr.index 51 (Value.agg tabCells) (Value.int .i64 op)) w = .ok (.agg #[.string (opN op), i64 (opF op)]) w := by
  rcases op_cases op h0 h1 with rfl | rfl | rfl | rfl | rfl | rfl | rfl | rfl | rfl | rfl | rfl | rfl | rfl | rfl | rfl | rfl | rfl | rfl | rfl | rfl | rfl | rfl | rfl | rfl | rfl | rfl | rfl | rfl | rfl | rfl | rfl | rfl | rfl | rfl | rfl | rfl | rfl | rfl | rfl | rfl | rfl | rfl | rfl | rfl | rfl | rfl | rfl | rfl | rfl | rfl | rfl | rfl | rfl | rfl | rfl | rfl | rfl | rfl | rfl | rfl | rfl | rfl | rfl | rfl | rfl | rfl | rfl | rfl | rfl | rfl | rfl <;> kernel_rfl
theorem tab_any (cells : Array Value) (op : Int) (h0 : 0 ≤ op) (h1 : op ≤ 70) (w : World) (hc : cells = tabCells) : Sem.run Tryd.prog (Instr.index 51 (Value.agg cells) (Value.int .i64 op)) w = .ok (.agg #[.string (opN op), i64 (opF op)]) w := by
  subst hc; exact tab_at op h0 h1 w
/-- The cells of the table ahead of its rows. -/
def noCells : Array Value := (List.replicate 71 [Value.string ⟨#[]⟩, .int .i64 0]).flatten.toArray
set_option maxRecDepth 100000 in
theorem none_yet : ∃ zs : Array Value, Hid (zs = noCells) ∧ zs.size = 142 ∧ ¬ zs = #[] ∧ ∀ w : World, Sem.run Tryd.prog (zeroValue 51) w = .ok (.agg zs) w :=
  ⟨noCells, Lib.hid rfl, by kernel_rfl, (by intro h; have := congrArg Array.size h; revert this; decide +kernel), fun w => by kernel_rfl⟩
set_option maxHeartbeats 4000000 in
set_option maxRecDepth 100000 in
theorem operationOf_in (op : Int) (h0 : 0 ≤ op) (h1 : op ≤ 70) (w : World) : Calls Tryd.prog 14 #[i64 op] w fun e w' => e = .returned (.agg #[.string (opN op), i64 (opF op)]) ∧ Below w.heap.size w w' := by
  obtain ⟨zs, hzs, hsz, hne, hz⟩ := none_yet
  go_enter Tryd.func14, Tryd.ntmps14
  go_wp2
  rw [tab_any _ op h0 h1]
  rotate_left
  · have e := hzs.out
    subst e
    first
    | (show _ = tabCells; kernel_rfl)
    | (rw [show tabCells = tabCells from rfl]; kernel_rfl)
    | (trace_state; exact (by decide +kernel))
  go_wp2
  exact bodyPost_ret (v := .agg #[.string (opN op), i64 (opF op)]) (by simp [results, Tryd.results14, go_sem]) rfl ⟨rfl, (Below.refl _ _).alloc (Nat.le_refl _) _⟩
set_option maxHeartbeats 1000000 in
theorem operationOf_out (op : Int) (h : op < 0 ∨ 70 < op) (w : World) : Calls Tryd.prog 14 #[i64 op] w fun e w' => e = .returned (.agg #[.string ⟨#[]⟩, i64 0]) ∧ Below w.heap.size w w' := by
  by_cases h0 : op < 0
  all_goals
    have h1 : op < 0 ∨ 70 < op := h
    clear h
    first
    | (have h2 : ¬ op < 0 := h0; have h3 : 70 < op := by omega) | skip
    clear h1
    go_enter Tryd.func14, Tryd.ntmps14
    go_wp2
    exact bodyPost_ret (v := .agg #[.string ⟨#[]⟩, i64 0]) (by simp [results, Tryd.results14, go_sem]) rfl ⟨rfl, (Below.refl _ _).alloc (Nat.le_refl _) _⟩
/-- The operation of every number. -/
theorem operationOf_says (op : Int) (w : World) : Calls Tryd.prog 14 #[i64 op] w fun e w' => e = .returned (.agg #[.string (opN op), i64 (opF op)]) ∧ Below w.heap.size w w' := by
  by_cases h0 : op < 0
  · rw [opN_neg op h0, opF_neg op h0]; exact operationOf_out op (.inl h0) w
  · by_cases h1 : 70 < op
    · rw [opN_great op h1, opF_great op h1]; exact operationOf_out op (.inr h1) w
    · exact operationOf_in op (by omega) (by omega) w
end Go.Proofs.YtpjonhcbhgalpaaDoor
