/-
  Package bare: do: ecall, wfi, brk (laid by mkbare.py). | Package bare: do: sret (laid by mkbare.py).
-/
import Derived.Test.YtfcmodllbhpniaaGreatDoorJnBareE
import Derived.Test.YtfcmodllbhpniaaGreatDoorJnBareC
import Derived.Deep.QuietTactic
import Derived.BigQuiet
import Derived.Deep.RegionWith
set_option linter.unusedVariables false
set_option maxRecDepth 100000
set_option maxRecDepth 100000
set_option linter.unusedVariables false
namespace Go.Proofs.YtfcmodllbhpniaaGreatDoor.Ser
open Go.Proofs.YtfcmodllbhpniaaGreatDoor
open Go.ChangeShapes Go.WideShapes Go.ChangeAt Go.RowKit
section
variable {w : World} {F : Nat → Prop} {L : Lay} {m : Ma} {ov : Value} {gr cr gc cc : Nat}
set_option maxHeartbeats 2000000 in
theorem bm_do_64u (S : Sees w F L m ov gr cr gc cc) {op : Int} {a b c : Nat} {imm : Int} (ha : a ≤ 15) (hb : b ≤ 15) (him : -2147483648 ≤ imm ∧ imm ≤ 2147483647) (hop : op = 64) (hu : m.us = true) :
    Calls Tryz.prog 57 #[.pointer (some ⟨L.h, 0, none⟩), .agg #[i64 op, i64 (a : Int), i64 (b : Int), i64 (c : Int), i64 imm]] w fun e w' => e = trapE 8 0 ∧ Step F (Bm L m) w w' := by
  subst hop
  have k23 : ∀ u, Below w.heap.size w u → u.cell? ⟨L.h, 23, none⟩ = some (.slice (some ⟨gr, 0, none⟩) 16 cr) := fun u b => (S.later b).c23
  have k24 : ∀ u, Below w.heap.size w u → u.cell? ⟨L.h, 24, none⟩ = some (i64 m.pc) := fun u b => (S.later b).c24
  have k25 : ∀ u, Below w.heap.size w u → u.cell? ⟨L.h, 25, none⟩ = some (.slice (some ⟨gc, 0, none⟩) 11 cc) := fun u b => (S.later b).c25
  have ka : ∀ u, Below w.heap.size w u → u.cell? ⟨gr, a, none⟩ = some (i64 (m.r a)) := fun u x => (S.later x).rr a (by omega)
  have kb : ∀ u, Below w.heap.size w u → u.cell? ⟨gr, b, none⟩ = some (i64 (m.r b)) := fun u x => (S.later x).rr b (by omega)
  have hnx : Says 40 #[i64 m.pc, i64 4] (i64 (wd (m.pc + 4))) := add_says _ _
  have ha1 : (a : Int) < 16 := by omega
  have hb1 : (b : Int) < 16 := by omega
  have kf : ∀ u, Below w.heap.size w u → ∀ k, u.frozen? ⟨L.h, k, none⟩ = false := fun u x => (S.later x).fz
  have hcl : ∀ u, Below w.heap.size w u → Calls Tryz.prog 81 #[.pointer (some ⟨L.h, 0, none⟩), i64 (wd (m.pc + 4))] u fun e w' => e = callE m ∧ Step F (Bm L (callM m (wd (m.pc + 4)))) w w' := fun u x =>
    (bm_call (S.later x) (wdb _)).mono fun e w' h => ⟨h.1, Step.after x h.2⟩
  have e1 : callE m = trapE 8 0 := by unfold callE; rw [if_pos hu]
  have e2 : callM m (wd (m.pc + 4)) = m := by unfold callM; rw [if_pos hu]
  rw [e1, e2] at hcl
  clear S e1 e2
  go_enter Tryz.func57, Tryz.ntmps57
  go_upto_region 1 with fail
  obtain ⟨w0, hw0⟩ : ∃ w0, w0 = w.alloc (.cells #[i64 64, i64 (a : Int), i64 (b : Int), i64 (c : Int), i64 imm] 47) := ⟨_, rfl⟩
  have x0 : Below w.heap.size w w0 := by rw [hw0]; exact (Below.refl _ w).alloc (Nat.le_refl _) _
  have y0 : InsAt w0 w.heap.size 64 a b c imm := by rw [hw0]; exact heap_alloc_new _ _
  rw [← hw0]
  clear hw0
  obtain ⟨i0, i1, i2, i3, i4⟩ := y0.cells
  have n23 := k23 _ x0
  have n24 := k24 _ x0
  have n25 := k25 _ x0
  have na := ka _ x0
  have nb := kb _ x0
  have nf := kf _ x0
  go_wp2_with (first
    | (go_at_call 40; with_reducible refine (hnx _).mono ?_; rintro e w9 ⟨rfl, rfl⟩)
    | (go_at_call 81; refine (hcl _ x0).mono ?_; rintro e w5 ⟨rfl, s5⟩))
  exact ⟨rfl, rfl, s5⟩
set_option maxHeartbeats 2000000 in
theorem bm_do_64 (S : Sees w F L m ov gr cr gc cc) {op : Int} {a b c : Nat} {imm : Int} (ha : a ≤ 15) (hb : b ≤ 15) (him : -2147483648 ≤ imm ∧ imm ≤ 2147483647) (hop : op = 64) (hu : m.us = false) :
    Calls Tryz.prog 57 #[.pointer (some ⟨L.h, 0, none⟩), .agg #[i64 op, i64 (a : Int), i64 (b : Int), i64 (c : Int), i64 imm]] w fun e w' => e = .returned (.tuple #[]) ∧ Step F (Bm L (callM m (wd (m.pc + 4)))) w w' := by
  subst hop
  have k23 : ∀ u, Below w.heap.size w u → u.cell? ⟨L.h, 23, none⟩ = some (.slice (some ⟨gr, 0, none⟩) 16 cr) := fun u b => (S.later b).c23
  have k24 : ∀ u, Below w.heap.size w u → u.cell? ⟨L.h, 24, none⟩ = some (i64 m.pc) := fun u b => (S.later b).c24
  have k25 : ∀ u, Below w.heap.size w u → u.cell? ⟨L.h, 25, none⟩ = some (.slice (some ⟨gc, 0, none⟩) 11 cc) := fun u b => (S.later b).c25
  have ka : ∀ u, Below w.heap.size w u → u.cell? ⟨gr, a, none⟩ = some (i64 (m.r a)) := fun u x => (S.later x).rr a (by omega)
  have kb : ∀ u, Below w.heap.size w u → u.cell? ⟨gr, b, none⟩ = some (i64 (m.r b)) := fun u x => (S.later x).rr b (by omega)
  have hnx : Says 40 #[i64 m.pc, i64 4] (i64 (wd (m.pc + 4))) := add_says _ _
  have ha1 : (a : Int) < 16 := by omega
  have hb1 : (b : Int) < 16 := by omega
  have kf : ∀ u, Below w.heap.size w u → ∀ k, u.frozen? ⟨L.h, k, none⟩ = false := fun u x => (S.later x).fz
  have hcl : ∀ u, Below w.heap.size w u → Calls Tryz.prog 81 #[.pointer (some ⟨L.h, 0, none⟩), i64 (wd (m.pc + 4))] u fun e w' => e = callE m ∧ Step F (Bm L (callM m (wd (m.pc + 4)))) w w' := fun u x =>
    (bm_call (S.later x) (wdb _)).mono fun e w' h => ⟨h.1, Step.after x h.2⟩
  have e1 : callE m = .returned (.tuple #[]) := by unfold callE; rw [if_neg (by rw [hu]; decide)]
  rw [e1] at hcl
  clear S e1
  generalize callM m (wd (m.pc + 4)) = m' at *
  go_enter Tryz.func57, Tryz.ntmps57
  go_upto_region 1 with fail
  obtain ⟨w0, hw0⟩ : ∃ w0, w0 = w.alloc (.cells #[i64 64, i64 (a : Int), i64 (b : Int), i64 (c : Int), i64 imm] 47) := ⟨_, rfl⟩
  have x0 : Below w.heap.size w w0 := by rw [hw0]; exact (Below.refl _ w).alloc (Nat.le_refl _) _
  have y0 : InsAt w0 w.heap.size 64 a b c imm := by rw [hw0]; exact heap_alloc_new _ _
  rw [← hw0]
  clear hw0
  obtain ⟨i0, i1, i2, i3, i4⟩ := y0.cells
  have n23 := k23 _ x0
  have n24 := k24 _ x0
  have n25 := k25 _ x0
  have na := ka _ x0
  have nb := kb _ x0
  have nf := kf _ x0
  go_wp2_with (first
    | (go_at_call 40; with_reducible refine (hnx _).mono ?_; rintro e w9 ⟨rfl, rfl⟩)
    | (go_at_call 81; refine (hcl _ x0).mono ?_; rintro e w5 ⟨rfl, s5⟩))
  go_end0
  exact ⟨rfl, s5⟩
set_option maxHeartbeats 2000000 in
theorem bm_do_70 (S : Sees w F L m ov gr cr gc cc) {op : Int} {a b c : Nat} {imm : Int} (ha : a ≤ 15) (hb : b ≤ 15) (him : -2147483648 ≤ imm ∧ imm ≤ 2147483647) (hop : op = 70)  :
    Calls Tryz.prog 57 #[.pointer (some ⟨L.h, 0, none⟩), .agg #[i64 op, i64 (a : Int), i64 (b : Int), i64 (c : Int), i64 imm]] w fun e w' => e = trapE 9 0 ∧ Step F (Bm L m) w w' := by
  subst hop
  have k23 : ∀ u, Below w.heap.size w u → u.cell? ⟨L.h, 23, none⟩ = some (.slice (some ⟨gr, 0, none⟩) 16 cr) := fun u b => (S.later b).c23
  have k24 : ∀ u, Below w.heap.size w u → u.cell? ⟨L.h, 24, none⟩ = some (i64 m.pc) := fun u b => (S.later b).c24
  have k25 : ∀ u, Below w.heap.size w u → u.cell? ⟨L.h, 25, none⟩ = some (.slice (some ⟨gc, 0, none⟩) 11 cc) := fun u b => (S.later b).c25
  have ka : ∀ u, Below w.heap.size w u → u.cell? ⟨gr, a, none⟩ = some (i64 (m.r a)) := fun u x => (S.later x).rr a (by omega)
  have kb : ∀ u, Below w.heap.size w u → u.cell? ⟨gr, b, none⟩ = some (i64 (m.r b)) := fun u x => (S.later x).rr b (by omega)
  have hnx : Says 40 #[i64 m.pc, i64 4] (i64 (wd (m.pc + 4))) := add_says _ _
  have ha1 : (a : Int) < 16 := by omega
  have hb1 : (b : Int) < 16 := by omega
  have kf : ∀ u, Below w.heap.size w u → ∀ k, u.frozen? ⟨L.h, k, none⟩ = false := fun u x => (S.later x).fz
  have HP := Lib.hid (fun w3 (x : Below w.heap.size w w3) => (Step.still x S.is : Step F (Bm L m) w w3))
  clear S
  go_enter Tryz.func57, Tryz.ntmps57
  go_upto_region 1 with fail
  obtain ⟨w0, hw0⟩ : ∃ w0, w0 = w.alloc (.cells #[i64 70, i64 (a : Int), i64 (b : Int), i64 (c : Int), i64 imm] 47) := ⟨_, rfl⟩
  have x0 : Below w.heap.size w w0 := by rw [hw0]; exact (Below.refl _ w).alloc (Nat.le_refl _) _
  have y0 : InsAt w0 w.heap.size 70 a b c imm := by rw [hw0]; exact heap_alloc_new _ _
  rw [← hw0]
  clear hw0
  obtain ⟨i0, i1, i2, i3, i4⟩ := y0.cells
  have n23 := k23 _ x0
  have n24 := k24 _ x0
  have n25 := k25 _ x0
  have na := ka _ x0
  have nb := kb _ x0
  have nf := kf _ x0
  go_wp2_with (go_at_call 40; with_reducible refine (hnx _).mono ?_; rintro e w9 ⟨rfl, rfl⟩)
  exact ⟨rfl, rfl, HP.out _ x0⟩
set_option maxHeartbeats 2000000 in
theorem bm_do_66s (S : Sees w F L m ov gr cr gc cc) {op : Int} {a b c : Nat} {imm : Int} (ha : a ≤ 15) (hb : b ≤ 15) (him : -2147483648 ≤ imm ∧ imm ≤ 2147483647) (hop : op = 66) (hz : bits .and .i64 (m.c 9) (m.c 10) = 0) :
    Calls Tryz.prog 57 #[.pointer (some ⟨L.h, 0, none⟩), .agg #[i64 op, i64 (a : Int), i64 (b : Int), i64 (c : Int), i64 imm]] w fun e w' => e = .returned (.tuple #[]) ∧ Step F (Bm L m) w w' := by
  subst hop
  have k23 : ∀ u, Below w.heap.size w u → u.cell? ⟨L.h, 23, none⟩ = some (.slice (some ⟨gr, 0, none⟩) 16 cr) := fun u b => (S.later b).c23
  have k24 : ∀ u, Below w.heap.size w u → u.cell? ⟨L.h, 24, none⟩ = some (i64 m.pc) := fun u b => (S.later b).c24
  have k25 : ∀ u, Below w.heap.size w u → u.cell? ⟨L.h, 25, none⟩ = some (.slice (some ⟨gc, 0, none⟩) 11 cc) := fun u b => (S.later b).c25
  have ka : ∀ u, Below w.heap.size w u → u.cell? ⟨gr, a, none⟩ = some (i64 (m.r a)) := fun u x => (S.later x).rr a (by omega)
  have kb : ∀ u, Below w.heap.size w u → u.cell? ⟨gr, b, none⟩ = some (i64 (m.r b)) := fun u x => (S.later x).rr b (by omega)
  have hnx : Says 40 #[i64 m.pc, i64 4] (i64 (wd (m.pc + 4))) := add_says _ _
  have ha1 : (a : Int) < 16 := by omega
  have hb1 : (b : Int) < 16 := by omega
  have kf : ∀ u, Below w.heap.size w u → ∀ k, u.frozen? ⟨L.h, k, none⟩ = false := fun u x => (S.later x).fz
  have q9 : ∀ u, Below w.heap.size w u → u.cell? ⟨gc, 9, none⟩ = some (i64 (m.c 9)) := fun u x => (S.later x).csr (j := 9) (by omega)
  have q10 : ∀ u, Below w.heap.size w u → u.cell? ⟨gc, 10, none⟩ = some (i64 (m.c 10)) := fun u x => (S.later x).csr (j := 10) (by omega)
  have hd : (bits .and .i64 (m.c 9) (m.c 10) != 0) = false := by simpa using hz
  have HP := Lib.hid (fun w3 (x : Below w.heap.size w w3) => (Step.still x S.is : Step F (Bm L m) w w3))
  clear S hz
  go_enter Tryz.func57, Tryz.ntmps57
  go_upto_region 1 with fail
  obtain ⟨w0, hw0⟩ : ∃ w0, w0 = w.alloc (.cells #[i64 66, i64 (a : Int), i64 (b : Int), i64 (c : Int), i64 imm] 47) := ⟨_, rfl⟩
  have x0 : Below w.heap.size w w0 := by rw [hw0]; exact (Below.refl _ w).alloc (Nat.le_refl _) _
  have y0 : InsAt w0 w.heap.size 66 a b c imm := by rw [hw0]; exact heap_alloc_new _ _
  rw [← hw0]
  clear hw0
  obtain ⟨i0, i1, i2, i3, i4⟩ := y0.cells
  have n23 := k23 _ x0
  have n24 := k24 _ x0
  have n25 := k25 _ x0
  have na := ka _ x0
  have nb := kb _ x0
  have nf := kf _ x0
  have n9 := q9 _ x0
  have n10 := q10 _ x0
  go_wp2_with (go_at_call 40; with_reducible refine (hnx _).mono ?_; rintro e w9 ⟨rfl, rfl⟩)
  go_quiet (fail)
  go_wp2
  go_end0
  exact ⟨rfl, HP.out _ (below_drewN x0 _)⟩
set_option maxHeartbeats 2000000 in
theorem bm_do_66 (S : Sees w F L m ov gr cr gc cc) {op : Int} {a b c : Nat} {imm : Int} (ha : a ≤ 15) (hb : b ≤ 15) (him : -2147483648 ≤ imm ∧ imm ≤ 2147483647) (hop : op = 66) (hz : ¬ bits .and .i64 (m.c 9) (m.c 10) = 0) :
    Calls Tryz.prog 57 #[.pointer (some ⟨L.h, 0, none⟩), .agg #[i64 op, i64 (a : Int), i64 (b : Int), i64 (c : Int), i64 imm]] w fun e w' => e = .returned (.tuple #[]) ∧ Step F (Bm L (m.go (wd (m.pc + 4)))) w w' := by
  subst hop
  have k23 : ∀ u, Below w.heap.size w u → u.cell? ⟨L.h, 23, none⟩ = some (.slice (some ⟨gr, 0, none⟩) 16 cr) := fun u b => (S.later b).c23
  have k24 : ∀ u, Below w.heap.size w u → u.cell? ⟨L.h, 24, none⟩ = some (i64 m.pc) := fun u b => (S.later b).c24
  have k25 : ∀ u, Below w.heap.size w u → u.cell? ⟨L.h, 25, none⟩ = some (.slice (some ⟨gc, 0, none⟩) 11 cc) := fun u b => (S.later b).c25
  have ka : ∀ u, Below w.heap.size w u → u.cell? ⟨gr, a, none⟩ = some (i64 (m.r a)) := fun u x => (S.later x).rr a (by omega)
  have kb : ∀ u, Below w.heap.size w u → u.cell? ⟨gr, b, none⟩ = some (i64 (m.r b)) := fun u x => (S.later x).rr b (by omega)
  have hnx : Says 40 #[i64 m.pc, i64 4] (i64 (wd (m.pc + 4))) := add_says _ _
  have ha1 : (a : Int) < 16 := by omega
  have hb1 : (b : Int) < 16 := by omega
  have kf : ∀ u, Below w.heap.size w u → ∀ k, u.frozen? ⟨L.h, k, none⟩ = false := fun u x => (S.later x).fz
  have q9 : ∀ u, Below w.heap.size w u → u.cell? ⟨gc, 9, none⟩ = some (i64 (m.c 9)) := fun u x => (S.later x).csr (j := 9) (by omega)
  have q10 : ∀ u, Below w.heap.size w u → u.cell? ⟨gc, 10, none⟩ = some (i64 (m.c 10)) := fun u x => (S.later x).csr (j := 10) (by omega)
  have hd : (bits .and .i64 (m.c 9) (m.c 10) != 0) = true := by simpa using hz
  have HP := Lib.hid (fun w3 (x : Below w.heap.size w w3) => ((Step.still x S.is : Step F (Bm L m) w w3).toPc (p := wd (m.pc + 4)) (wdb _)).2.2)
  clear S hz
  go_enter Tryz.func57, Tryz.ntmps57
  go_upto_region 1 with fail
  obtain ⟨w0, hw0⟩ : ∃ w0, w0 = w.alloc (.cells #[i64 66, i64 (a : Int), i64 (b : Int), i64 (c : Int), i64 imm] 47) := ⟨_, rfl⟩
  have x0 : Below w.heap.size w w0 := by rw [hw0]; exact (Below.refl _ w).alloc (Nat.le_refl _) _
  have y0 : InsAt w0 w.heap.size 66 a b c imm := by rw [hw0]; exact heap_alloc_new _ _
  rw [← hw0]
  clear hw0
  obtain ⟨i0, i1, i2, i3, i4⟩ := y0.cells
  have n23 := k23 _ x0
  have n24 := k24 _ x0
  have n25 := k25 _ x0
  have na := ka _ x0
  have nb := kb _ x0
  have nf := kf _ x0
  have n9 := q9 _ x0
  have n10 := q10 _ x0
  go_wp2_with (go_at_call 40; with_reducible refine (hnx _).mono ?_; rintro e w9 ⟨rfl, rfl⟩)
  go_quiet (fail)
  go_wp2
  go_end0
  exact ⟨rfl, HP.out _ (below_drewN x0 _)⟩
end
end Go.Proofs.YtfcmodllbhpniaaGreatDoor.Ser
set_option maxRecDepth 100000
set_option maxRecDepth 100000
set_option linter.unusedVariables false
namespace Go.Proofs.YtfcmodllbhpniaaGreatDoor.Ser
open Go.Proofs.YtfcmodllbhpniaaGreatDoor
open Go.ChangeShapes Go.WideShapes Go.ChangeAt Go.RowKit
section
variable {w : World} {F : Nat → Prop} {L : Lay} {m : Ma} {ov : Value} {gr cr gc cc : Nat}
/-- What the way back makes of the state. -/
abbrev lvS (m : Ma) : St := ⟨m.R, m.c 2, m.C.set 0 (le (m.c 0)), m.halt, m.stuck, []⟩
theorem leS_back {m : Ma} (F : m.Fine) : leS (stM m) = lvS m := by
  have hl := F.cl
  have hp : pad m.C = m.C := by unfold pad; rw [hl]; simp
  have e1 : leC (stM m) = m.C.set 0 (le (m.c 0)) := by
    unfold leC
    show (pad m.C).set 0 (le ((pad m.C).getD 0 0)) = _
    rw [hp]; rfl
  have e3 : (m.C.set 0 (le (m.c 0))).getD 2 0 = m.c 2 := by
    simp only [List.getD_eq_getElem?_getD]
    rw [List.getElem?_set_ne (by omega)]
    rfl
  have hb := F.cb 2
  unfold leS
  rw [e1, e3, wd_eq _ hb.1 hb.2]
theorem bm_leave (S : Sees w F L m ov gr cr gc cc) : Calls Tryz.prog 82 #[.agg #[.slice (some ⟨gr, 0, none⟩) 16 cr, i64 m.pc, .slice (some ⟨gc, 0, none⟩) 11 cc, .bool m.halt, .bool m.stuck, ov]] w
    fun e w' => ∃ r c' o, e = .returned (stV r c' o (lvS m)) ∧ StO w' w.heap.size r c' o (lvS m) ∧ Below w.heap.size w w' := by
  obtain ⟨p, c0, -, A⟩ := S.stL
  have h := leave_state A ⟨by show m.R.length ≤ 1000; rw [S.fine.rl]; omega, by show m.C.length ≤ 1000; rw [S.fine.cl]; omega, by show (0 : Nat) ≤ 10000; omega⟩
  rw [leS_back S.fine] at h
  exact h
theorem StO.lower' {w : World} {B B' : Nat} {r c o : Value} {s : St} (h : StO w B r c o s) (hB : B' ≤ B) : StO w B' r c o s := ⟨ownK_mono h.or hB, ownK_mono h.oc hB, ownK_mono h.oo hB, h.nr, h.no⟩
set_option maxHeartbeats 2000000 in
theorem bm_do_65 (S : Sees w F L m ov gr cr gc cc) {op : Int} {a b c : Nat} {imm : Int} (ha : a ≤ 15) (hb : b ≤ 15) (him : -2147483648 ≤ imm ∧ imm ≤ 2147483647) (hop : op = 65)  :
    Calls Tryz.prog 57 #[.pointer (some ⟨L.h, 0, none⟩), .agg #[i64 op, i64 (a : Int), i64 (b : Int), i64 (c : Int), i64 imm]] w fun e w' => e = .returned (.tuple #[]) ∧ Step F (Bm L ((m.setC 0 (le (m.c 0))).go (m.c 2))) w w' := by
  subst hop
  obtain ⟨po, co, rfl, -⟩ := S.stL
  have k23 : ∀ u, Below w.heap.size w u → u.cell? ⟨L.h, 23, none⟩ = some (.slice (some ⟨gr, 0, none⟩) 16 cr) := fun u b => (S.later b).c23
  have k24 : ∀ u, Below w.heap.size w u → u.cell? ⟨L.h, 24, none⟩ = some (i64 m.pc) := fun u b => (S.later b).c24
  have k25 : ∀ u, Below w.heap.size w u → u.cell? ⟨L.h, 25, none⟩ = some (.slice (some ⟨gc, 0, none⟩) 11 cc) := fun u b => (S.later b).c25
  have ka : ∀ u, Below w.heap.size w u → u.cell? ⟨gr, a, none⟩ = some (i64 (m.r a)) := fun u x => (S.later x).rr a (by omega)
  have kb : ∀ u, Below w.heap.size w u → u.cell? ⟨gr, b, none⟩ = some (i64 (m.r b)) := fun u x => (S.later x).rr b (by omega)
  have hnx : Says 40 #[i64 m.pc, i64 4] (i64 (wd (m.pc + 4))) := add_says _ _
  have ha1 : (a : Int) < 16 := by omega
  have hb1 : (b : Int) < 16 := by omega
  have kf : ∀ u, Below w.heap.size w u → ∀ k, u.frozen? ⟨L.h, k, none⟩ = false := fun u x => (S.later x).fz
  have k26 : ∀ u, Below w.heap.size w u → u.cell? ⟨L.h, 26, none⟩ = some (.bool m.halt) := fun u b => (S.later b).c26
  have k27 : ∀ u, Below w.heap.size w u → u.cell? ⟨L.h, 27, none⟩ = some (.bool m.stuck) := fun u b => (S.later b).c27
  have k28 : ∀ u, Below w.heap.size w u → u.cell? ⟨L.h, 28, none⟩ = some (.slice po 0 co) := fun u b => (S.later b).c28
  have hlv : ∀ u, Below w.heap.size w u → Calls Tryz.prog 82 #[.agg #[.slice (some ⟨gr, 0, none⟩) 16 cr, i64 m.pc, .slice (some ⟨gc, 0, none⟩) 11 cc, .bool m.halt, .bool m.stuck, .slice po 0 co]] u
      fun e w' => ∃ r c' o, e = .returned (stV r c' o (lvS m)) ∧ StO w' w.heap.size r c' o (lvS m) ∧ Below w.heap.size w w' := fun u b =>
    (bm_leave (S.later b)).mono fun e w' ⟨r, c', o, h1, h2, h3⟩ => ⟨r, c', o, h1, h2.lower' b.size, b.trans (h3.mono b.size)⟩
  have hfin : ((m.setC 0 (le (m.c 0))).go (m.c 2)).Fine := (S.fine.setC 0 (by have := le_bd (m.c 0); omega)).go (S.fine.cb 2)
  have HS := Lib.hid (fun w1 (b : Below w.heap.size w w1) r c' o SO => S.state b (s := lvS m) (r := r) (c := c') (o := o) rfl SO (m' := (m.setC 0 (le (m.c 0))).go (m.c 2)) rfl hfin)
  clear hfin S
  generalize (m.setC 0 (le (m.c 0))).go (m.c 2) = m' at *
  generalize lvS m = s' at *
  go_enter Tryz.func57, Tryz.ntmps57
  go_upto_region 1 with fail
  obtain ⟨w0, hw0⟩ : ∃ w0, w0 = w.alloc (.cells #[i64 65, i64 (a : Int), i64 (b : Int), i64 (c : Int), i64 imm] 47) := ⟨_, rfl⟩
  have x0 : Below w.heap.size w w0 := by rw [hw0]; exact (Below.refl _ w).alloc (Nat.le_refl _) _
  have y0 : InsAt w0 w.heap.size 65 a b c imm := by rw [hw0]; exact heap_alloc_new _ _
  rw [← hw0]
  clear hw0
  obtain ⟨i0, i1, i2, i3, i4⟩ := y0.cells
  have n23 := k23 _ x0
  have n24 := k24 _ x0
  have n25 := k25 _ x0
  have na := ka _ x0
  have nb := kb _ x0
  have nf := kf _ x0
  have n26 := k26 _ x0
  have n27 := k27 _ x0
  have n28 := k28 _ x0
  go_wp2_with (first
    | (go_at_call 40; with_reducible refine (hnx _).mono ?_; rintro e w9 ⟨rfl, rfl⟩)
    | (go_at_call 82; refine (hlv _ x0).mono ?_; rintro e w6 ⟨r, c', o, rfl, SO, hb6⟩; obtain ⟨r1, r2, r3, p1, p2, p3, o1, o2, o3, rfl, rfl, rfl, -, -, -⟩ := SO.forms; have f6 := kf _ hb6; have e23 := k23 _ hb6; have e24 := k24 _ hb6; have e25 := k25 _ hb6; have e26 := k26 _ hb6; have e27 := k27 _ hb6; have e28 := k28 _ hb6))
  go_end0
  exact ⟨rfl, HS.out _ hb6 _ _ _ SO⟩
end
end Go.Proofs.YtfcmodllbhpniaaGreatDoor.Ser
