
/-
  SameState of states that hold the same; Big.
-/
import Derived.Test.YtnccfdkkedomcaaCpuSt
namespace Go.Proofs.Ytnccfdkkedomcaa.Ser
open Go.Proofs.Ytnccfdkkedomcaa
open Go.ChangeShapes Go.WideShapes Go.ChangeAt Go.RowKit
/-- Not too much to be played. -/
def fit (s : St) : Prop := s.R.length ≤ 40 ∧ s.C.length ≤ 40 ∧ s.O.length ≤ 1000
theorem big_no {w : World} {v : Value} {s : St} (A : StL w w.heap.size v s) (hf : fit s) : Calls Try.prog 14 #[v] w fun e w' => e = .returned (.bool false) ∧ Below w.heap.size w w' := by
  obtain ⟨rp, rn, rc, cp, cn, cc, op, on, oc, rfl, h1, h2, h3⟩ := A
  obtain ⟨f1, f2, f3⟩ := hf
  rw [h1.len] at f1; rw [h2.len] at f2; rw [h3.len] at f3
  have g1 : ¬ (40 : Int) < (rn : Int) := by omega
  have g2 : ¬ (40 : Int) < (cn : Int) := by omega
  have g3 : ¬ (1000 : Int) < (on : Int) := by omega
  clear h1 h2 h3
  go_enter Try.func14, Try.ntmps14
  go_wp2_with fail
  go_ret
  exact ⟨ret_bool (by simp), (Below.refl _ w).alloc (Nat.le_refl _) _⟩
theorem big_yes {w : World} {v : Value} {s : St} (A : StL w w.heap.size v s) (hf : ¬ fit s) : Calls Try.prog 14 #[v] w fun e w' => e = .returned (.bool true) ∧ Below w.heap.size w w' := by
  obtain ⟨rp, rn, rc, cp, cn, cc, op, on, oc, rfl, h1, h2, h3⟩ := A
  have hf2 : 40 < rn ∨ 40 < cn ∨ 1000 < on := by
    have e1 := h1.len; have e2 := h2.len; have e3 := h3.len
    apply Classical.byContradiction
    intro hn
    exact hf ⟨by omega, by omega, by omega⟩
  clear h1 h2 h3 hf
  by_cases g1 : 40 < rn
  · have k1 : (40 : Int) < (rn : Int) := by omega
    go_enter Try.func14, Try.ntmps14
    go_wp2_with fail
    go_ret
    exact ⟨ret_bool (by simp), (Below.refl _ w).alloc (Nat.le_refl _) _⟩
  · have k1 : ¬ (40 : Int) < (rn : Int) := by omega
    by_cases g2 : 40 < cn
    · have k2 : (40 : Int) < (cn : Int) := by omega
      go_enter Try.func14, Try.ntmps14
      go_wp2_with fail
      go_ret
      exact ⟨ret_bool (by simp), (Below.refl _ w).alloc (Nat.le_refl _) _⟩
    · have k2 : ¬ (40 : Int) < (cn : Int) := by omega
      have k3 : (1000 : Int) < (on : Int) := by omega
      go_enter Try.func14, Try.ntmps14
      go_wp2_with fail
      go_ret
      exact ⟨ret_bool (by simp), (Below.refl _ w).alloc (Nat.le_refl _) _⟩
set_option maxRecDepth 100000 in
set_option maxHeartbeats 1000000 in
theorem same_state {w : World} {v1 v2 : Value} {s : St} (A : StL w w.heap.size v1 s) (B : StL w w.heap.size v2 s) (hR : s.R.length ≤ 100000) (hC : s.C.length ≤ 100000) :
    Calls Try.prog 18 #[v1, v2] w fun e w' => e = .returned (.bool true) ∧ Below w.heap.size w w' := by
  obtain ⟨rp, rn, rc, cp, cn, cc, op, on, oc, rfl, h1, h2, h3⟩ := A
  obtain ⟨rp2, rn2, rc2, cp2, cn2, cc2, op2, on2, oc2, rfl, j1, j2, j3⟩ := B
  have hB2 : Below w.heap.size w ((w.alloc (.cells #[.slice rp rn rc, i64 s.pc, .slice cp cn cc, .bool s.h, .bool s.k, .slice op on oc] 31)).alloc (.cells #[.slice rp2 rn2 rc2, i64 s.pc, .slice cp2 cn2 cc2, .bool s.h, .bool s.k, .slice op2 on2 oc2] 31)) := ((Below.refl _ w).alloc (Nat.le_refl _) _).alloc (by simp) _
  have hz : (w.alloc (.cells #[.slice rp rn rc, i64 s.pc, .slice cp cn cc, .bool s.h, .bool s.k, .slice op on oc] 31)).heap.size = w.heap.size + 1 := by simp
  have hn1 : ((w.alloc (.cells #[.slice rp rn rc, i64 s.pc, .slice cp cn cc, .bool s.h, .bool s.k, .slice op on oc] 31)).alloc (.cells #[.slice rp2 rn2 rc2, i64 s.pc, .slice cp2 cn2 cc2, .bool s.h, .bool s.k, .slice op2 on2 oc2] 31)).heap[w.heap.size + 1]? = some (.cells #[.slice rp2 rn2 rc2, i64 s.pc, .slice cp2 cn2 cc2, .bool s.h, .bool s.k, .slice op2 on2 oc2] 31) := by
    have := heap_alloc_new (w.alloc (.cells #[.slice rp rn rc, i64 s.pc, .slice cp cn cc, .bool s.h, .bool s.k, .slice op on oc] 31)) (.cells #[.slice rp2 rn2 rc2, i64 s.pc, .slice cp2 cn2 cc2, .bool s.h, .bool s.k, .slice op2 on2 oc2] 31)
    rw [hz] at this
    exact this
  have hn0 : ((w.alloc (.cells #[.slice rp rn rc, i64 s.pc, .slice cp cn cc, .bool s.h, .bool s.k, .slice op on oc] 31)).alloc (.cells #[.slice rp2 rn2 rc2, i64 s.pc, .slice cp2 cn2 cc2, .bool s.h, .bool s.k, .slice op2 on2 oc2] 31)).heap[w.heap.size]? = some (.cells #[.slice rp rn rc, i64 s.pc, .slice cp cn cc, .bool s.h, .bool s.k, .slice op on oc] 31) := by
    rw [Below.heap_alloc _ _ _ (by rw [hz]; omega)]
    exact heap_alloc_new _ _
  have HX : ∀ w1, Below ((w.alloc (.cells #[.slice rp rn rc, i64 s.pc, .slice cp cn cc, .bool s.h, .bool s.k, .slice op on oc] 31)).alloc (.cells #[.slice rp2 rn2 rc2, i64 s.pc, .slice cp2 cn2 cc2, .bool s.h, .bool s.k, .slice op2 on2 oc2] 31)).heap.size ((w.alloc (.cells #[.slice rp rn rc, i64 s.pc, .slice cp cn cc, .bool s.h, .bool s.k, .slice op on oc] 31)).alloc (.cells #[.slice rp2 rn2 rc2, i64 s.pc, .slice cp2 cn2 cc2, .bool s.h, .bool s.k, .slice op2 on2 oc2] 31)) w1 → w1.cell? ⟨w.heap.size, 2, none⟩ = some (.slice cp cn cc) ∧ w1.cell? ⟨w.heap.size + 1, 2, none⟩ = some (.slice cp2 cn2 cc2) := by
    intro w1 k
    exact ⟨cell_kept k (by simp <;> omega) (by rw [cell_of_row _ _ 2 _ _ _ hn0]; rfl), cell_kept k (by simp <;> omega) (by rw [cell_of_row _ _ 2 _ _ _ hn1]; rfl)⟩
  have HX' := Lib.hid HX
  clear HX hn0 hn1 hz
  have s1 := (h3.kept hB2 (Nat.le_refl _)).src
  have s2 := (j3.kept hB2 (Nat.le_refl _)).src
  have q1 := conv_src s1 oc
  have q2 := conv_src s2 oc2
  rw [h3.len] at q1
  rw [j3.len] at q2
  have HR : ∀ w', Below w.heap.size w w' → Calls Try.prog 24 #[.slice rp rn rc, .slice rp2 rn2 rc2] w' fun e w'' => e = .returned (.bool true) ∧ Below w'.heap.size w' w'' := fun w' k => same_ints ((h1.kept k (Nat.le_refl _)).wide k.size) ((j1.kept k (Nat.le_refl _)).wide k.size) (by rw [← h1.len]; exact hR)
  have HC : ∀ w', Below w.heap.size w w' → Calls Try.prog 24 #[.slice cp cn cc, .slice cp2 cn2 cc2] w' fun e w'' => e = .returned (.bool true) ∧ Below w'.heap.size w' w'' := fun w' k => same_ints ((h2.kept k (Nat.le_refl _)).wide k.size) ((j2.kept k (Nat.le_refl _)).wide k.size) (by rw [← h2.len]; exact hC)
  have HR' := Lib.hid HR; have HC' := Lib.hid HC; have HB := Lib.hid hB2
  generalize strOfNums s.O = so at *
  clear h1 h2 h3 j1 j2 j3 s1 s2 HR HC hB2 hR hC
  obtain ⟨R, pc, C, h, k, O⟩ := s
  dsimp only at *
  go_enter Try.func18, Try.ntmps18
  go_wp2_with (go_at_call 24; first
    | (with_reducible refine (HC'.out _ hb1).mono ?_; rintro e w2 ⟨rfl, hb2⟩)
    | (with_reducible refine (HR'.out _ HB.out).mono ?_; rintro e w1 ⟨rfl, hb0⟩; have hb1 := HB.out.trans (hb0.mono HB.out.size); obtain ⟨x0, x1⟩ := HX'.out w1 hb0))
  go_ret
  exact ⟨ret_bool (by simp), hb1.trans (hb2.mono hb1.size)⟩
end Go.Proofs.Ytnccfdkkedomcaa.Ser
