
/-
  Taken at any operation; the load and the sum of the law's examples; alive.
-/
import Derived.Test.YtnccfdkkedomcaaCpu
import Derived.Test.YtnccfdkkedomcaaCpuRef
namespace Go.Proofs.Ytnccfdkkedomcaa
open Go.ChangeShapes Go.WideShapes Go.ChangeAt Go.RowKit
theorem rng_of {n : Int} (h : (Lit.int .i64 n).wf = true) : -9223372036854775808 ≤ n ∧ n ≤ 9223372036854775807 := by
  simp [Lit.wf, IntKind.min, IntKind.max, IntKind.signed, IntKind.bits] at h
  omega
set_option maxRecDepth 100000 in
theorem tak_no (op x y : Int) (ho : -9223372036854775808 ≤ op ∧ op ≤ 9223372036854775807) (hop : op < 48 ∨ 54 ≤ op) : Tells 12 #[i64 op, i64 x, i64 y] (.tuple #[.bool false, .bool false]) := by
  intro w
  rcases hop with hop | hop
  all_goals
    go_enter Try.func12, Try.ntmps12
    go_wp2_with fail
    go_ret2
    exact ⟨rfl, ((Below.refl _ w).alloc (Nat.le_refl _) _).alloc (by simp) _⟩
theorem tak_says (op x y : Int) (ho : -9223372036854775808 ≤ op ∧ op ≤ 9223372036854775807) : Tells 12 #[i64 op, i64 x, i64 y] (.tuple #[.bool (takV op x y), .bool (takK op)]) := by
  by_cases n48 : op = 48
  · subst n48; exact tak_48 x y
  by_cases n49 : op = 49
  · subst n49; exact tak_49 x y
  by_cases n50 : op = 50
  · subst n50; exact tak_50 x y
  by_cases n51 : op = 51
  · subst n51; exact tak_51 x y
  by_cases n52 : op = 52
  · subst n52; exact tak_52 x y
  by_cases n53 : op = 53
  · subst n53; exact tak_53 x y
  have hv : takV op x y = false := by unfold takV; simp [n48, n49, n50, n51, n52, n53]
  have hk : takK op = false := by unfold takK; simp; omega
  rw [hv, hk]; exact tak_no op x y ho (by omega)
abbrev accT : Array Value := #[i64 0, i64 0, .bool false, i64 0, i64 0, .bool false, i64 0, i64 0, .bool false, i64 0, i64 0, .bool false, i64 0, i64 0, .bool false, i64 0, i64 0, .bool false, i64 0, i64 0, .bool false, i64 0, i64 0, .bool false, i64 0, i64 0, .bool false, i64 0, i64 0, .bool false, i64 0, i64 0, .bool false, i64 0, i64 0, .bool false, i64 0, i64 0, .bool false, i64 0, i64 0, .bool false, i64 0, i64 0, .bool false, i64 0, i64 0, .bool false, i64 0, i64 0, .bool false, i64 0, i64 0, .bool false, i64 0, i64 0, .bool false, i64 0, i64 0, .bool false, i64 0, i64 0, .bool false, i64 0, i64 0, .bool false, i64 0, i64 0, .bool false, i64 0, i64 0, .bool false, i64 0, i64 0, .bool false, i64 0, i64 0, .bool false, i64 0, i64 0, .bool false, i64 0, i64 0, .bool false, i64 0, i64 0, .bool false, i64 0, i64 0, .bool false, i64 0, i64 0, .bool false, i64 0, i64 0, .bool false, i64 4, i64 1, .bool false, i64 2, i64 1, .bool true, i64 2, i64 1, .bool false, i64 1, i64 1, .bool true, i64 1, i64 1, .bool false, i64 0, i64 0, .bool false, i64 0, i64 0, .bool false, i64 0, i64 0, .bool false, i64 4, i64 2, .bool false, i64 2, i64 2, .bool false, i64 1, i64 2, .bool false]
set_option maxRecDepth 100000 in
theorem access_35 : Tells 61 #[i64 35] (.agg #[i64 1, i64 1, .bool true]) := by
  intro w
  obtain ⟨cs, hcs⟩ : ∃ cs : Array Value, cs = accT := ⟨_, rfl⟩
  have hix : ∀ w, (Instr.index 73 (.agg cs) (i64 35)).run Try.prog w = .ok (.agg #[i64 1, i64 1, .bool true]) w := by intro w; rw [hcs]; kernel_rfl
  have hcs' := Lib.hid hcs
  clear hcs
  go_enter Try.func61, Try.ntmps61
  go_wp2_with (refine wpList_buildTo rfl 73 _ rfl cs (by rw [hcs'.out]; kernel_rfl) ?_)
  exact bodyPost_ret (v := .agg #[i64 1, i64 1, .bool true]) (by simp [results, Try.results61, go_sem]) rfl ⟨rfl, (Below.refl _ w).alloc (Nat.le_refl _) _⟩
set_option maxRecDepth 100000 in
theorem loaded_35 : Tells 25 #[i64 35, i64 128] (i64 4294967168) := by
  intro w
  have he := extend_says 128 8
  rw [show ex 128 8 = 4294967168 from by decide +kernel] at he
  go_enter Try.func25, Try.ntmps25
  go_wp2_with (first
    | (go_at_call 61; refine (access_35 _).mono ?_; rintro e w1 ⟨rfl, hb⟩)
    | (go_at_call 62; refine (he _).mono ?_; rintro e w2 ⟨rfl, rfl⟩))
  go_ret
  exact ⟨rfl, hb.alloc hb.size _⟩
theorem alu_ex : Tells 10 #[i64 2, i64 1, i64 2] (.tuple #[i64 4294967295, .bool true]) := alu_says 2 1 2 (by omega)
theorem alive9_says : Tells 9 #[] (.bool true) := by
  intro w
  go_enter Try.func9, Try.ntmps9
  go_wp2_with (first
    | (go_at_call 10; refine (alu_ex _).mono ?_; rintro e w1 ⟨rfl, hb1⟩)
    | (go_at_call 25; refine (loaded_35 _).mono ?_; rintro e w2 ⟨rfl, hb2⟩))
  go_ret
  exact ⟨rfl, hb1.trans (hb2.mono hb1.size)⟩
end Go.Proofs.Ytnccfdkkedomcaa
