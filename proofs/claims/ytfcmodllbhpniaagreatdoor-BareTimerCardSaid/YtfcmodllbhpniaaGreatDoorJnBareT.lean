/-
  Package bare: take (laid by mkbare.py).
-/
import Derived.Test.YtfcmodllbhpniaaGreatDoorJnBareS
import Derived.WalkLawsBesides
import Derived.Deep.QuietTactic
import Derived.BigQuiet
set_option linter.unusedVariables false
set_option maxRecDepth 100000
namespace Go.Proofs.YtfcmodllbhpniaaGreatDoor.Ser
open Go.Proofs.YtfcmodllbhpniaaGreatDoor
open Go.ChangeShapes Go.WideShapes Go.ChangeAt Go.RowKit
section
variable {w : World} {F : Nat → Prop} {L : Lay} {m : Ma} {ov : Value} {gr cr gc cc : Nat}
/-- What a trap makes of the state. -/
abbrev trS (m : Ma) (c t : Int) : St := ⟨m.R, m.c 1, (((m.C.set 2 m.pc).set 3 c).set 4 t).set 0 (en (m.c 0)), m.halt, m.stuck, []⟩
theorem enS_trap {m : Ma} (F : m.Fine) {c t : Int} (hc : Wd c) (ht : Wd t) : enS (stM m) c t = trS m c t := by
  have hl := F.cl
  have hp : pad m.C = m.C := by unfold pad; rw [hl]; simp
  have e1 : enC (stM m) c t = ((m.C.set 2 m.pc).set 3 c).set 4 t := by
    unfold enC
    show (((pad m.C).set 2 (wd m.pc)).set 3 (wd c)).set 4 (wd t) = _
    rw [hp, wd_eq _ F.pc.1 F.pc.2, wd_eq _ hc.1 hc.2, wd_eq _ ht.1 ht.2]
  have e2 : (((m.C.set 2 m.pc).set 3 c).set 4 t).getD 0 0 = m.c 0 := by
    simp only [List.getD_eq_getElem?_getD]
    rw [List.getElem?_set_ne (by omega), List.getElem?_set_ne (by omega), List.getElem?_set_ne (by omega)]
    rfl
  have e3 : ((((m.C.set 2 m.pc).set 3 c).set 4 t).set 0 (en (m.c 0))).getD 1 0 = m.c 1 := by
    simp only [List.getD_eq_getElem?_getD]
    rw [List.getElem?_set_ne (by omega), List.getElem?_set_ne (by omega), List.getElem?_set_ne (by omega), List.getElem?_set_ne (by omega)]
    rfl
  have hb := F.cb 1
  unfold enS
  rw [e1, e2, e3, wd_eq _ hb.1 hb.2]
theorem bm_enter (S : Sees w F L m ov gr cr gc cc) {c t : Int} (hc : Wd c) (ht : Wd t) : Calls Tryz.prog 77 #[.agg #[.slice (some ⟨gr, 0, none⟩) 16 cr, i64 m.pc, .slice (some ⟨gc, 0, none⟩) 11 cc, .bool m.halt, .bool m.stuck, ov], i64 c, i64 t] w
    fun e w' => ∃ r c' o, e = .returned (stV r c' o (trS m c t)) ∧ StO w' w.heap.size r c' o (trS m c t) ∧ Below w.heap.size w w' := by
  obtain ⟨p, c0, -, A⟩ := S.stL
  have h := enter_state A ⟨by show m.R.length ≤ 1000; rw [S.fine.rl]; omega, by show m.C.length ≤ 1000; rw [S.fine.cl]; omega, by show (0 : Nat) ≤ 10000; omega⟩ c t
  rw [enS_trap S.fine hc ht] at h
  exact h
theorem TrapAt.kept {u u' : World} {b : Nat} {c t : Int} (x : TrapAt u b c t) (hb : Below u.heap.size u u') : TrapAt u' b c t := (hb.block b (Array.getElem?_eq_some_iff.1 x).1).trans x
theorem StO.lower {w : World} {B B' : Nat} {r c o : Value} {s : St} (h : StO w B r c o s) (hB : B' ≤ B) : StO w B' r c o s := ⟨ownK_mono h.or hB, ownK_mono h.oc hB, ownK_mono h.oo hB, h.nr, h.no⟩
set_option maxHeartbeats 2000000 in
theorem bm_take_int (S : Sees w F L m ov gr cr gc cc) (hg : Glob w) {c t : Int} (hc : Wd c) (ht : Wd t) (hn : ¬ (c < 2147483648 ∧ m.us = false ∧ m.pc = m.c 1)) (hcc : ¬ c < 2147483648) :
    Calls Tryz.prog 55 #[.pointer (some ⟨L.h, 0, none⟩), .iface 103 (trapV c t)] w fun e w' => e = .returned (.tuple #[]) ∧ Step F (Bm L (m.trap c t)) w w' := by
  obtain ⟨po, co, rfl, -⟩ := S.stL
  have k23 : ∀ u, Below w.heap.size w u → u.cell? ⟨L.h, 23, none⟩ = some (.slice (some ⟨gr, 0, none⟩) 16 cr) := fun u b => (S.later b).c23
  have k24 : ∀ u, Below w.heap.size w u → u.cell? ⟨L.h, 24, none⟩ = some (i64 m.pc) := fun u b => (S.later b).c24
  have k25 : ∀ u, Below w.heap.size w u → u.cell? ⟨L.h, 25, none⟩ = some (.slice (some ⟨gc, 0, none⟩) 11 cc) := fun u b => (S.later b).c25
  have k26 : ∀ u, Below w.heap.size w u → u.cell? ⟨L.h, 26, none⟩ = some (.bool m.halt) := fun u b => (S.later b).c26
  have k27 : ∀ u, Below w.heap.size w u → u.cell? ⟨L.h, 27, none⟩ = some (.bool m.stuck) := fun u b => (S.later b).c27
  have k28 : ∀ u, Below w.heap.size w u → u.cell? ⟨L.h, 28, none⟩ = some (.slice po 0 co) := fun u b => (S.later b).c28
  have q1 : ∀ u, Below w.heap.size w u → u.cell? ⟨gc, 1, none⟩ = some (i64 (m.c 1)) := fun u b => (S.later b).csr (j := 1) (by omega)
  have hu : ∀ u, Below w.heap.size w u → Calls Tryz.prog 76 #[.pointer (some ⟨L.h, 0, none⟩)] u fun e w' => e = .returned (.bool m.us) ∧ u = w' := fun u b => bm_user (S.later b)
  have hl0 : 0 < w.heap.size := World.block_lt_of_cell? w _ hg
  have hT : TrapAt (w.alloc (.cells #[i64 0, i64 0] 103)) w.heap.size 0 0 := heap_alloc_new _ _
  have hA : Calls Tryz.prog 75 #[.iface 103 (trapV c t), .iface 120 (.pointer (some ⟨w.heap.size, 0, none⟩))] (w.alloc (.cells #[i64 0, i64 0] 103))
      fun e w' => e = .returned (.bool true) ∧ TrapAt w' w.heap.size c t ∧ Below w.heap.size w w' :=
    (As_says c t hT (by rw [World.cell?_alloc_lt _ _ ⟨0, 0, none⟩ hl0]; exact hg)).mono fun e w' h => ⟨h.1, h.2.1, ((Below.refl w.heap.size w).alloc (Nat.le_refl _) _).trans (h.2.2.below (by simp) fun i e => by rw [e]; exact Nat.le_refl _)⟩
  have hE : ∀ u, Below w.heap.size w u → TrapAt u w.heap.size c t → Calls Tryz.prog 77 #[.agg #[.slice (some ⟨gr, 0, none⟩) 16 cr, i64 m.pc, .slice (some ⟨gc, 0, none⟩) 11 cc, .bool m.halt, .bool m.stuck, .slice po 0 co], i64 c, i64 t] u
      fun e w' => ∃ r c' o, e = .returned (stV r c' o (trS m c t)) ∧ StO w' w.heap.size r c' o (trS m c t) ∧ Below w.heap.size w w' ∧ TrapAt w' w.heap.size c t := fun u b x =>
    (bm_enter (S.later b) hc ht).mono fun e w' ⟨r, c', o, h1, h2, h3⟩ => ⟨r, c', o, h1, h2.lower b.size, b.trans (h3.mono b.size), x.kept h3⟩
  have kf : ∀ u, Below w.heap.size w u → ∀ k, u.frozen? ⟨L.h, k, none⟩ = false := fun u b => (S.later b).fz
  have t0 : ∀ u, TrapAt u w.heap.size c t → u.cell? ⟨w.heap.size, 0, none⟩ = some (i64 c) := fun u x => (trap_cells x).1
  have t1 : ∀ u, TrapAt u w.heap.size c t → u.cell? ⟨w.heap.size, 1, none⟩ = some (i64 t) := fun u x => (trap_cells x).2.1
  have hS : ∀ w1, Below w.heap.size w w1 → ∀ r c' o, StO w1 w.heap.size r c' o (trS m c t) → m.trap c t = { m with C := (trS m c t).C, pc := m.c 1 } → Step F (Bm L (m.trap c t)) w (put6 w1 L.h r (trS m c t).pc c' (trS m c t).h (trS m c t).k o) := fun w1 b r c' o SO e => by
    exact S.state b (s := trS m c t) rfl SO e (S.fine.trap hc ht)
  have hm : m.trap c t = { m with C := (trS m c t).C, pc := m.c 1 } := by unfold Ma.trap; rw [if_neg hn]
  have HS := Lib.hid (fun w1 b r c' o SO => hS w1 b r c' o SO hm)
  have K6 := Lib.hid (fun u b => (⟨k23 u b, k24 u b, k25 u b, k26 u b, k27 u b, k28 u b⟩ : u.cell? ⟨L.h, 23, none⟩ = some (.slice (some ⟨gr, 0, none⟩) 16 cr) ∧ u.cell? ⟨L.h, 24, none⟩ = some (i64 m.pc) ∧ u.cell? ⟨L.h, 25, none⟩ = some (.slice (some ⟨gc, 0, none⟩) 11 cc) ∧ u.cell? ⟨L.h, 26, none⟩ = some (.bool m.halt) ∧ u.cell? ⟨L.h, 27, none⟩ = some (.bool m.stuck) ∧ u.cell? ⟨L.h, 28, none⟩ = some (.slice po 0 co)))
  have hd : decide (c < 2147483648) = false := decide_eq_false hcc
  clear S hS hm hg hl0 hT hn
  generalize m.trap c t = m' at *
  generalize trS m c t = s' at *
  go_enter Tryz.func55, Tryz.ntmps55
  go_wp2_with (go_at_call 75; refine hA.mono ?_; rintro e w1 ⟨rfl, hT1, hb1⟩)
  have d1 : ∀ n, Below w.heap.size w (w1.drewN n).drew := fun n => ⟨hb1.os, hb1.tape, hb1.output, hb1.size, hb1.block⟩
  have d2 : ∀ n, TrapAt (w1.drewN n).drew w.heap.size c t := fun n => hT1
  have hu1 : ∀ n, _ := fun n => hu (w1.drewN n) ⟨hb1.os, hb1.tape, hb1.output, hb1.size, hb1.block⟩
  have u0 := t0 _ hT1
  have u1 := t1 _ hT1
  have u24 := k24 _ hb1
  have u25 := k25 _ hb1
  have v1 := q1 _ hb1
  go_quiet ((go_at_call 76; with_reducible exact Calls.quiet_of_same ((hu1 _).mono (fun _ _ h => ⟨h.1, h.2.symm⟩))))
  go_wp2
  obtain ⟨u23, -, -, u26, u27, u28⟩ := K6.out _ hb1
  clear k23 k24 k25 k26 k27 k28 t0 t1 q1 v1 hu hu1
  go_region_with (first
    | (go_at_call 77; refine (hE _ (d1 _) (d2 _)).mono ?_; rintro e w6 ⟨r, c', o, rfl, SO, hb6, hT6⟩; obtain ⟨r1, r2, r3, p1, p2, p3, o1, o2, o3, rfl, rfl, rfl, -, -, -⟩ := SO.forms; have f6 := kf _ hb6; obtain ⟨e23, e24, e25, e26, e27, e28⟩ := K6.out _ hb6))
  all_goals
    go_wp2_with fail
    go_end0
    exact ⟨rfl, HS.out _ hb6 _ _ _ SO⟩
set_option maxHeartbeats 2000000 in
theorem bm_take_user (S : Sees w F L m ov gr cr gc cc) (hg : Glob w) {c t : Int} (hc : Wd c) (ht : Wd t) (hn : ¬ (c < 2147483648 ∧ m.us = false ∧ m.pc = m.c 1)) (hcc : c < 2147483648) (hus : m.us = true) :
    Calls Tryz.prog 55 #[.pointer (some ⟨L.h, 0, none⟩), .iface 103 (trapV c t)] w fun e w' => e = .returned (.tuple #[]) ∧ Step F (Bm L (m.trap c t)) w w' := by
  obtain ⟨po, co, rfl, -⟩ := S.stL
  have k23 : ∀ u, Below w.heap.size w u → u.cell? ⟨L.h, 23, none⟩ = some (.slice (some ⟨gr, 0, none⟩) 16 cr) := fun u b => (S.later b).c23
  have k24 : ∀ u, Below w.heap.size w u → u.cell? ⟨L.h, 24, none⟩ = some (i64 m.pc) := fun u b => (S.later b).c24
  have k25 : ∀ u, Below w.heap.size w u → u.cell? ⟨L.h, 25, none⟩ = some (.slice (some ⟨gc, 0, none⟩) 11 cc) := fun u b => (S.later b).c25
  have k26 : ∀ u, Below w.heap.size w u → u.cell? ⟨L.h, 26, none⟩ = some (.bool m.halt) := fun u b => (S.later b).c26
  have k27 : ∀ u, Below w.heap.size w u → u.cell? ⟨L.h, 27, none⟩ = some (.bool m.stuck) := fun u b => (S.later b).c27
  have k28 : ∀ u, Below w.heap.size w u → u.cell? ⟨L.h, 28, none⟩ = some (.slice po 0 co) := fun u b => (S.later b).c28
  have q1 : ∀ u, Below w.heap.size w u → u.cell? ⟨gc, 1, none⟩ = some (i64 (m.c 1)) := fun u b => (S.later b).csr (j := 1) (by omega)
  have hu : ∀ u, Below w.heap.size w u → Calls Tryz.prog 76 #[.pointer (some ⟨L.h, 0, none⟩)] u fun e w' => e = .returned (.bool m.us) ∧ u = w' := fun u b => bm_user (S.later b)
  have hl0 : 0 < w.heap.size := World.block_lt_of_cell? w _ hg
  have hT : TrapAt (w.alloc (.cells #[i64 0, i64 0] 103)) w.heap.size 0 0 := heap_alloc_new _ _
  have hA : Calls Tryz.prog 75 #[.iface 103 (trapV c t), .iface 120 (.pointer (some ⟨w.heap.size, 0, none⟩))] (w.alloc (.cells #[i64 0, i64 0] 103))
      fun e w' => e = .returned (.bool true) ∧ TrapAt w' w.heap.size c t ∧ Below w.heap.size w w' :=
    (As_says c t hT (by rw [World.cell?_alloc_lt _ _ ⟨0, 0, none⟩ hl0]; exact hg)).mono fun e w' h => ⟨h.1, h.2.1, ((Below.refl w.heap.size w).alloc (Nat.le_refl _) _).trans (h.2.2.below (by simp) fun i e => by rw [e]; exact Nat.le_refl _)⟩
  have hE : ∀ u, Below w.heap.size w u → TrapAt u w.heap.size c t → Calls Tryz.prog 77 #[.agg #[.slice (some ⟨gr, 0, none⟩) 16 cr, i64 m.pc, .slice (some ⟨gc, 0, none⟩) 11 cc, .bool m.halt, .bool m.stuck, .slice po 0 co], i64 c, i64 t] u
      fun e w' => ∃ r c' o, e = .returned (stV r c' o (trS m c t)) ∧ StO w' w.heap.size r c' o (trS m c t) ∧ Below w.heap.size w w' ∧ TrapAt w' w.heap.size c t := fun u b x =>
    (bm_enter (S.later b) hc ht).mono fun e w' ⟨r, c', o, h1, h2, h3⟩ => ⟨r, c', o, h1, h2.lower b.size, b.trans (h3.mono b.size), x.kept h3⟩
  have kf : ∀ u, Below w.heap.size w u → ∀ k, u.frozen? ⟨L.h, k, none⟩ = false := fun u b => (S.later b).fz
  have t0 : ∀ u, TrapAt u w.heap.size c t → u.cell? ⟨w.heap.size, 0, none⟩ = some (i64 c) := fun u x => (trap_cells x).1
  have t1 : ∀ u, TrapAt u w.heap.size c t → u.cell? ⟨w.heap.size, 1, none⟩ = some (i64 t) := fun u x => (trap_cells x).2.1
  have hS : ∀ w1, Below w.heap.size w w1 → ∀ r c' o, StO w1 w.heap.size r c' o (trS m c t) → m.trap c t = { m with C := (trS m c t).C, pc := m.c 1 } → Step F (Bm L (m.trap c t)) w (put6 w1 L.h r (trS m c t).pc c' (trS m c t).h (trS m c t).k o) := fun w1 b r c' o SO e => by
    exact S.state b (s := trS m c t) rfl SO e (S.fine.trap hc ht)
  have hm : m.trap c t = { m with C := (trS m c t).C, pc := m.c 1 } := by unfold Ma.trap; rw [if_neg hn]
  have HS := Lib.hid (fun w1 b r c' o SO => hS w1 b r c' o SO hm)
  have K6 := Lib.hid (fun u b => (⟨k23 u b, k24 u b, k25 u b, k26 u b, k27 u b, k28 u b⟩ : u.cell? ⟨L.h, 23, none⟩ = some (.slice (some ⟨gr, 0, none⟩) 16 cr) ∧ u.cell? ⟨L.h, 24, none⟩ = some (i64 m.pc) ∧ u.cell? ⟨L.h, 25, none⟩ = some (.slice (some ⟨gc, 0, none⟩) 11 cc) ∧ u.cell? ⟨L.h, 26, none⟩ = some (.bool m.halt) ∧ u.cell? ⟨L.h, 27, none⟩ = some (.bool m.stuck) ∧ u.cell? ⟨L.h, 28, none⟩ = some (.slice po 0 co)))
  have hd : decide (c < 2147483648) = true := decide_eq_true hcc
  rw [hus] at hu
  clear S hS hm hg hl0 hT hn
  generalize m.trap c t = m' at *
  generalize trS m c t = s' at *
  go_enter Tryz.func55, Tryz.ntmps55
  go_wp2_with (go_at_call 75; refine hA.mono ?_; rintro e w1 ⟨rfl, hT1, hb1⟩)
  have d1 : ∀ n, Below w.heap.size w (w1.drewN n).drew := fun n => ⟨hb1.os, hb1.tape, hb1.output, hb1.size, hb1.block⟩
  have d2 : ∀ n, TrapAt (w1.drewN n).drew w.heap.size c t := fun n => hT1
  have hu1 : ∀ n, _ := fun n => hu (w1.drewN n) ⟨hb1.os, hb1.tape, hb1.output, hb1.size, hb1.block⟩
  have u0 := t0 _ hT1
  have u1 := t1 _ hT1
  have u24 := k24 _ hb1
  have u25 := k25 _ hb1
  have v1 := q1 _ hb1
  go_quiet ((go_at_call 76; with_reducible exact Calls.quiet_of_same ((hu1 _).mono (fun _ _ h => ⟨h.1, h.2.symm⟩))))
  go_wp2
  obtain ⟨u23, -, -, u26, u27, u28⟩ := K6.out _ hb1
  clear k23 k24 k25 k26 k27 k28 t0 t1 q1 v1 hu hu1
  go_region_with (first
    | (go_at_call 77; refine (hE _ (d1 _) (d2 _)).mono ?_; rintro e w6 ⟨r, c', o, rfl, SO, hb6, hT6⟩; obtain ⟨r1, r2, r3, p1, p2, p3, o1, o2, o3, rfl, rfl, rfl, -, -, -⟩ := SO.forms; have f6 := kf _ hb6; obtain ⟨e23, e24, e25, e26, e27, e28⟩ := K6.out _ hb6))
  all_goals
    go_wp2_with fail
    go_end0
    exact ⟨rfl, HS.out _ hb6 _ _ _ SO⟩
set_option maxHeartbeats 2000000 in
theorem bm_take_else (S : Sees w F L m ov gr cr gc cc) (hg : Glob w) {c t : Int} (hc : Wd c) (ht : Wd t) (hn : ¬ (c < 2147483648 ∧ m.us = false ∧ m.pc = m.c 1)) (hcc : c < 2147483648) (hus : m.us = false) (hpc : ¬ m.pc = m.c 1) :
    Calls Tryz.prog 55 #[.pointer (some ⟨L.h, 0, none⟩), .iface 103 (trapV c t)] w fun e w' => e = .returned (.tuple #[]) ∧ Step F (Bm L (m.trap c t)) w w' := by
  obtain ⟨po, co, rfl, -⟩ := S.stL
  have k23 : ∀ u, Below w.heap.size w u → u.cell? ⟨L.h, 23, none⟩ = some (.slice (some ⟨gr, 0, none⟩) 16 cr) := fun u b => (S.later b).c23
  have k24 : ∀ u, Below w.heap.size w u → u.cell? ⟨L.h, 24, none⟩ = some (i64 m.pc) := fun u b => (S.later b).c24
  have k25 : ∀ u, Below w.heap.size w u → u.cell? ⟨L.h, 25, none⟩ = some (.slice (some ⟨gc, 0, none⟩) 11 cc) := fun u b => (S.later b).c25
  have k26 : ∀ u, Below w.heap.size w u → u.cell? ⟨L.h, 26, none⟩ = some (.bool m.halt) := fun u b => (S.later b).c26
  have k27 : ∀ u, Below w.heap.size w u → u.cell? ⟨L.h, 27, none⟩ = some (.bool m.stuck) := fun u b => (S.later b).c27
  have k28 : ∀ u, Below w.heap.size w u → u.cell? ⟨L.h, 28, none⟩ = some (.slice po 0 co) := fun u b => (S.later b).c28
  have q1 : ∀ u, Below w.heap.size w u → u.cell? ⟨gc, 1, none⟩ = some (i64 (m.c 1)) := fun u b => (S.later b).csr (j := 1) (by omega)
  have hu : ∀ u, Below w.heap.size w u → Calls Tryz.prog 76 #[.pointer (some ⟨L.h, 0, none⟩)] u fun e w' => e = .returned (.bool m.us) ∧ u = w' := fun u b => bm_user (S.later b)
  have hl0 : 0 < w.heap.size := World.block_lt_of_cell? w _ hg
  have hT : TrapAt (w.alloc (.cells #[i64 0, i64 0] 103)) w.heap.size 0 0 := heap_alloc_new _ _
  have hA : Calls Tryz.prog 75 #[.iface 103 (trapV c t), .iface 120 (.pointer (some ⟨w.heap.size, 0, none⟩))] (w.alloc (.cells #[i64 0, i64 0] 103))
      fun e w' => e = .returned (.bool true) ∧ TrapAt w' w.heap.size c t ∧ Below w.heap.size w w' :=
    (As_says c t hT (by rw [World.cell?_alloc_lt _ _ ⟨0, 0, none⟩ hl0]; exact hg)).mono fun e w' h => ⟨h.1, h.2.1, ((Below.refl w.heap.size w).alloc (Nat.le_refl _) _).trans (h.2.2.below (by simp) fun i e => by rw [e]; exact Nat.le_refl _)⟩
  have hE : ∀ u, Below w.heap.size w u → TrapAt u w.heap.size c t → Calls Tryz.prog 77 #[.agg #[.slice (some ⟨gr, 0, none⟩) 16 cr, i64 m.pc, .slice (some ⟨gc, 0, none⟩) 11 cc, .bool m.halt, .bool m.stuck, .slice po 0 co], i64 c, i64 t] u
      fun e w' => ∃ r c' o, e = .returned (stV r c' o (trS m c t)) ∧ StO w' w.heap.size r c' o (trS m c t) ∧ Below w.heap.size w w' ∧ TrapAt w' w.heap.size c t := fun u b x =>
    (bm_enter (S.later b) hc ht).mono fun e w' ⟨r, c', o, h1, h2, h3⟩ => ⟨r, c', o, h1, h2.lower b.size, b.trans (h3.mono b.size), x.kept h3⟩
  have kf : ∀ u, Below w.heap.size w u → ∀ k, u.frozen? ⟨L.h, k, none⟩ = false := fun u b => (S.later b).fz
  have t0 : ∀ u, TrapAt u w.heap.size c t → u.cell? ⟨w.heap.size, 0, none⟩ = some (i64 c) := fun u x => (trap_cells x).1
  have t1 : ∀ u, TrapAt u w.heap.size c t → u.cell? ⟨w.heap.size, 1, none⟩ = some (i64 t) := fun u x => (trap_cells x).2.1
  have hS : ∀ w1, Below w.heap.size w w1 → ∀ r c' o, StO w1 w.heap.size r c' o (trS m c t) → m.trap c t = { m with C := (trS m c t).C, pc := m.c 1 } → Step F (Bm L (m.trap c t)) w (put6 w1 L.h r (trS m c t).pc c' (trS m c t).h (trS m c t).k o) := fun w1 b r c' o SO e => by
    exact S.state b (s := trS m c t) rfl SO e (S.fine.trap hc ht)
  have hm : m.trap c t = { m with C := (trS m c t).C, pc := m.c 1 } := by unfold Ma.trap; rw [if_neg hn]
  have HS := Lib.hid (fun w1 b r c' o SO => hS w1 b r c' o SO hm)
  have K6 := Lib.hid (fun u b => (⟨k23 u b, k24 u b, k25 u b, k26 u b, k27 u b, k28 u b⟩ : u.cell? ⟨L.h, 23, none⟩ = some (.slice (some ⟨gr, 0, none⟩) 16 cr) ∧ u.cell? ⟨L.h, 24, none⟩ = some (i64 m.pc) ∧ u.cell? ⟨L.h, 25, none⟩ = some (.slice (some ⟨gc, 0, none⟩) 11 cc) ∧ u.cell? ⟨L.h, 26, none⟩ = some (.bool m.halt) ∧ u.cell? ⟨L.h, 27, none⟩ = some (.bool m.stuck) ∧ u.cell? ⟨L.h, 28, none⟩ = some (.slice po 0 co)))
  have hd : decide (c < 2147483648) = true := decide_eq_true hcc
  have hd2 : (m.pc == m.c 1) = false := by simpa using hpc
  rw [hus] at hu
  clear S hS hm hg hl0 hT hn
  generalize m.trap c t = m' at *
  generalize trS m c t = s' at *
  go_enter Tryz.func55, Tryz.ntmps55
  go_wp2_with (go_at_call 75; refine hA.mono ?_; rintro e w1 ⟨rfl, hT1, hb1⟩)
  have d1 : ∀ n, Below w.heap.size w (w1.drewN n).drew := fun n => ⟨hb1.os, hb1.tape, hb1.output, hb1.size, hb1.block⟩
  have d2 : ∀ n, TrapAt (w1.drewN n).drew w.heap.size c t := fun n => hT1
  have hu1 : ∀ n, _ := fun n => hu (w1.drewN n) ⟨hb1.os, hb1.tape, hb1.output, hb1.size, hb1.block⟩
  have u0 := t0 _ hT1
  have u1 := t1 _ hT1
  have u24 := k24 _ hb1
  have u25 := k25 _ hb1
  have v1 := q1 _ hb1
  go_quiet ((go_at_call 76; with_reducible exact Calls.quiet_of_same ((hu1 _).mono (fun _ _ h => ⟨h.1, h.2.symm⟩))))
  go_wp2
  obtain ⟨u23, -, -, u26, u27, u28⟩ := K6.out _ hb1
  clear k23 k24 k25 k26 k27 k28 t0 t1 q1 v1 hu hu1
  go_region_with (first
    | (go_at_call 77; refine (hE _ (d1 _) (d2 _)).mono ?_; rintro e w6 ⟨r, c', o, rfl, SO, hb6, hT6⟩; obtain ⟨r1, r2, r3, p1, p2, p3, o1, o2, o3, rfl, rfl, rfl, -, -, -⟩ := SO.forms; have f6 := kf _ hb6; obtain ⟨e23, e24, e25, e26, e27, e28⟩ := K6.out _ hb6))
  all_goals
    go_wp2_with fail
    go_end0
    exact ⟨rfl, HS.out _ hb6 _ _ _ SO⟩
set_option maxHeartbeats 2000000 in
theorem bm_take_stuck (S : Sees w F L m ov gr cr gc cc) (hg : Glob w) {c t : Int} (hc : Wd c) (ht : Wd t) (hn : c < 2147483648 ∧ m.us = false ∧ m.pc = m.c 1) :
    Calls Tryz.prog 55 #[.pointer (some ⟨L.h, 0, none⟩), .iface 103 (trapV c t)] w fun e w' => e = .returned (.tuple #[]) ∧ Step F (Bm L (m.trap c t)) w w' := by
  obtain ⟨po, co, rfl, -⟩ := S.stL
  have k23 : ∀ u, Below w.heap.size w u → u.cell? ⟨L.h, 23, none⟩ = some (.slice (some ⟨gr, 0, none⟩) 16 cr) := fun u b => (S.later b).c23
  have k24 : ∀ u, Below w.heap.size w u → u.cell? ⟨L.h, 24, none⟩ = some (i64 m.pc) := fun u b => (S.later b).c24
  have k25 : ∀ u, Below w.heap.size w u → u.cell? ⟨L.h, 25, none⟩ = some (.slice (some ⟨gc, 0, none⟩) 11 cc) := fun u b => (S.later b).c25
  have k26 : ∀ u, Below w.heap.size w u → u.cell? ⟨L.h, 26, none⟩ = some (.bool m.halt) := fun u b => (S.later b).c26
  have k27 : ∀ u, Below w.heap.size w u → u.cell? ⟨L.h, 27, none⟩ = some (.bool m.stuck) := fun u b => (S.later b).c27
  have k28 : ∀ u, Below w.heap.size w u → u.cell? ⟨L.h, 28, none⟩ = some (.slice po 0 co) := fun u b => (S.later b).c28
  have q1 : ∀ u, Below w.heap.size w u → u.cell? ⟨gc, 1, none⟩ = some (i64 (m.c 1)) := fun u b => (S.later b).csr (j := 1) (by omega)
  have hu : ∀ u, Below w.heap.size w u → Calls Tryz.prog 76 #[.pointer (some ⟨L.h, 0, none⟩)] u fun e w' => e = .returned (.bool m.us) ∧ u = w' := fun u b => bm_user (S.later b)
  have hl0 : 0 < w.heap.size := World.block_lt_of_cell? w _ hg
  have hT : TrapAt (w.alloc (.cells #[i64 0, i64 0] 103)) w.heap.size 0 0 := heap_alloc_new _ _
  have hA : Calls Tryz.prog 75 #[.iface 103 (trapV c t), .iface 120 (.pointer (some ⟨w.heap.size, 0, none⟩))] (w.alloc (.cells #[i64 0, i64 0] 103))
      fun e w' => e = .returned (.bool true) ∧ TrapAt w' w.heap.size c t ∧ Below w.heap.size w w' :=
    (As_says c t hT (by rw [World.cell?_alloc_lt _ _ ⟨0, 0, none⟩ hl0]; exact hg)).mono fun e w' h => ⟨h.1, h.2.1, ((Below.refl w.heap.size w).alloc (Nat.le_refl _) _).trans (h.2.2.below (by simp) fun i e => by rw [e]; exact Nat.le_refl _)⟩
  have hE : ∀ u, Below w.heap.size w u → TrapAt u w.heap.size c t → Calls Tryz.prog 77 #[.agg #[.slice (some ⟨gr, 0, none⟩) 16 cr, i64 m.pc, .slice (some ⟨gc, 0, none⟩) 11 cc, .bool m.halt, .bool m.stuck, .slice po 0 co], i64 c, i64 t] u
      fun e w' => ∃ r c' o, e = .returned (stV r c' o (trS m c t)) ∧ StO w' w.heap.size r c' o (trS m c t) ∧ Below w.heap.size w w' ∧ TrapAt w' w.heap.size c t := fun u b x =>
    (bm_enter (S.later b) hc ht).mono fun e w' ⟨r, c', o, h1, h2, h3⟩ => ⟨r, c', o, h1, h2.lower b.size, b.trans (h3.mono b.size), x.kept h3⟩
  have kf : ∀ u, Below w.heap.size w u → ∀ k, u.frozen? ⟨L.h, k, none⟩ = false := fun u b => (S.later b).fz
  have t0 : ∀ u, TrapAt u w.heap.size c t → u.cell? ⟨w.heap.size, 0, none⟩ = some (i64 c) := fun u x => (trap_cells x).1
  have t1 : ∀ u, TrapAt u w.heap.size c t → u.cell? ⟨w.heap.size, 1, none⟩ = some (i64 t) := fun u x => (trap_cells x).2.1
  have hS : ∀ w1, Below w.heap.size w w1 → ∀ r c' o, StO w1 w.heap.size r c' o (trS m c t) → m.trap c t = { m with C := (trS m c t).C, pc := m.c 1 } → Step F (Bm L (m.trap c t)) w (put6 w1 L.h r (trS m c t).pc c' (trS m c t).h (trS m c t).k o) := fun w1 b r c' o SO e => by
    exact S.state b (s := trS m c t) rfl SO e (S.fine.trap hc ht)
  obtain ⟨hcc, hus, hpc⟩ := hn
  have hm : m.trap c t = { m with stuck := true } := by unfold Ma.trap; rw [if_pos ⟨hcc, hus, hpc⟩]
  have hd : decide (c < 2147483648) = true := decide_eq_true hcc
  have hd2 : (m.pc == m.c 1) = true := by simpa using hpc
  rw [hus] at hu
  have HK : ∀ w1, Below w.heap.size w w1 → Step F (Bm L (m.trap c t)) w (w1.setCell ⟨L.h, 27, none⟩ (.bool true)) := fun w1 b => by
    rw [hm]
    exact (Step.still b S.is : Step F (Bm L m) w w1).trans fun F1 p1 => (bm_sees p1).elim fun _ ⟨_, _, _, _, S1⟩ => S1.stuck' true
  have HS := Lib.hid HK
  clear S hS hm hg hl0 hT HK
  generalize m.trap c t = m' at *
  go_enter Tryz.func55, Tryz.ntmps55
  go_wp2_with (go_at_call 75; refine hA.mono ?_; rintro e w1 ⟨rfl, hT1, hb1⟩)
  have u27 := k27 _ hb1
  have f27 := kf _ hb1 27
  have d1 : ∀ n, Below w.heap.size w (w1.drewN n).drew := fun n => ⟨hb1.os, hb1.tape, hb1.output, hb1.size, hb1.block⟩
  have d2 : ∀ n, TrapAt (w1.drewN n).drew w.heap.size c t := fun n => hT1
  have hu1 : ∀ n, _ := fun n => hu (w1.drewN n) ⟨hb1.os, hb1.tape, hb1.output, hb1.size, hb1.block⟩
  have u0 := t0 _ hT1
  have u1 := t1 _ hT1
  have u24 := k24 _ hb1
  have u25 := k25 _ hb1
  have v1 := q1 _ hb1
  go_quiet ((go_at_call 76; with_reducible exact Calls.quiet_of_same ((hu1 _).mono (fun _ _ h => ⟨h.1, h.2.symm⟩))))
  go_wp2
  refine bodyPost_ret (results_none rfl _ _ _) rfl ?_
  exact ⟨rfl, HS.out _ ⟨hb1.os, hb1.tape, hb1.output, hb1.size, hb1.block⟩⟩
theorem bm_take (S : Sees w F L m ov gr cr gc cc) (hg : Glob w) {c t : Int} (hc : Wd c) (ht : Wd t) :
    Calls Tryz.prog 55 #[.pointer (some ⟨L.h, 0, none⟩), .iface 103 (trapV c t)] w fun e w' => e = .returned (.tuple #[]) ∧ Step F (Bm L (m.trap c t)) w w' := by
  by_cases hn : c < 2147483648 ∧ m.us = false ∧ m.pc = m.c 1
  · exact bm_take_stuck S hg hc ht hn
  · by_cases hcc : c < 2147483648
    · cases hus : m.us with
      | true => exact bm_take_user S hg hc ht hn hcc hus
      | false => exact bm_take_else S hg hc ht hn hcc hus fun e => hn ⟨hcc, hus, e⟩
    · exact bm_take_int S hg hc ht hn hcc
end
end Go.Proofs.YtfcmodllbhpniaaGreatDoor.Ser
