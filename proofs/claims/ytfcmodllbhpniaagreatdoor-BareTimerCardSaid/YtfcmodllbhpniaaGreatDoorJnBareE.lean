/-
  Package bare: compute (laid by mkbare.py).
-/
import Derived.Test.YtfcmodllbhpniaaGreatDoorJnQd
import Derived.Deep.QuietTactic
import Derived.BigQuiet
import Derived.Deep.RegionWith
set_option linter.unusedVariables false
set_option maxRecDepth 100000
set_option maxRecDepth 100000
set_option linter.unusedVariables false
namespace Go.Proofs.YtfcmodllbhpniaaGreatDoor.Ser
open Go.Proofs.YtfcmodllbhpniaaGreatDoor
open Go.ChangeShapes Go.WideShapes Go.ChangeAt Go.RowKit
section
variable {w : World} {F : Nat → Prop} {L : Lay} {m : Ma} {ov : Value} {gr cr gc cc : Nat}
set_option maxHeartbeats 2000000 in
theorem bm_compute_trap (S : Sees w F L m ov gr cr gc cc) {op : Int} {a b c : Nat} {imm n : Int} (ha : a ≤ 15) (hb : b ≤ 15) (hc : c ≤ 15) (him : -2147483648 ≤ imm ∧ imm ≤ 2147483647) (ho : 0 ≤ op ∧ op ≤ 255) (hn : Wd n) (hk : acK op ≠ 0) (hk' : op ≠ 37 ∧ op ≠ 38 ∧ op ≠ 39) (hx : m.tx.length < 100000) {x y : Int} (hd : m.acc op a b imm = .no x y) :
    Calls Tryz.prog 84 #[.pointer (some ⟨L.h, 0, none⟩), .agg #[i64 op, i64 (a : Int), i64 (b : Int), i64 (c : Int), i64 imm], i64 n] w fun e w' => e = trapE x y ∧ Step F (Bm L m) w w' := by
  have k23 : ∀ u, Below w.heap.size w u → u.cell? ⟨L.h, 23, none⟩ = some (.slice (some ⟨gr, 0, none⟩) 16 cr) := fun u b => (S.later b).c23
  have k24 : ∀ u, Below w.heap.size w u → u.cell? ⟨L.h, 24, none⟩ = some (i64 m.pc) := fun u b => (S.later b).c24
  have n23 := k23 _ (Below.refl _ _)
  have a23 := fun o => k23 _ (Below.alloc (Below.refl w.heap.size w) (Nat.le_refl _) o)
  have ka : ∀ u, Below w.heap.size w u → u.cell? ⟨gr, a, none⟩ = some (i64 (m.r a)) := fun u x => (S.later x).rr a (by omega)
  have kb : ∀ u, Below w.heap.size w u → u.cell? ⟨gr, b, none⟩ = some (i64 (m.r b)) := fun u x => (S.later x).rr b (by omega)
  have kc : ∀ u, Below w.heap.size w u → u.cell? ⟨gr, c, none⟩ = some (i64 (m.r c)) := fun u x => (S.later x).rr c (by omega)
  have hBx : InsAt (w.alloc (.cells #[i64 op, i64 (a : Int), i64 (b : Int), i64 (c : Int), i64 imm] 47)) w.heap.size op a b c imm := heap_alloc_new _ _
  have hb1 : Below w.heap.size w (w.alloc (.cells #[i64 op, i64 (a : Int), i64 (b : Int), i64 (c : Int), i64 imm] 47)) := (Below.refl _ w).alloc (Nat.le_refl _) _
  have i0 : ∀ u, InsAt u w.heap.size op a b c imm → u.cell? ⟨w.heap.size, 0, none⟩ = some (i64 op) := fun u x => x.cells.1
  have i1 : ∀ u, InsAt u w.heap.size op a b c imm → u.cell? ⟨w.heap.size, 1, none⟩ = some (i64 (a : Int)) := fun u x => x.cells.2.1
  have i2 : ∀ u, InsAt u w.heap.size op a b c imm → u.cell? ⟨w.heap.size, 2, none⟩ = some (i64 (b : Int)) := fun u x => x.cells.2.2.1
  have i3 : ∀ u, InsAt u w.heap.size op a b c imm → u.cell? ⟨w.heap.size, 3, none⟩ = some (i64 (c : Int)) := fun u x => x.cells.2.2.2.1
  have i4 : ∀ u, InsAt u w.heap.size op a b c imm → u.cell? ⟨w.heap.size, 4, none⟩ = some (i64 imm) := fun u x => x.cells.2.2.2.2
  have hac : ∀ u, Below w.heap.size w u → InsAt u w.heap.size op a b c imm → Calls Tryz.prog 114 #[i64 op] u fun e w' => e = .returned (.tuple #[i64 (acS op), i64 (acK op), .bool (acN op), .bool (acK op != 0)]) ∧ Below w.heap.size w w' ∧ InsAt w' w.heap.size op a b c imm := fun u x y =>
    (access_says op u).mono fun e w' h => ⟨h.1, x.trans (h.2.mono x.size), y.kept h.2⟩
  have ha1 : a < 16 := by omega
  have haI : (a : Int) < 16 := by omega
  have hbI : (b : Int) < 16 := by omega
  have hcI : (c : Int) < 16 := by omega
  have hb1' : b < 16 := by omega
  have hc1 : c < 16 := by omega
  have hk2 : (acK op != 0) = true := by simpa using hk
  rw [hk2] at hac
  have hacc : ∀ u, Below w.heap.size w u → Calls Tryz.prog 115 #[.pointer (some ⟨L.h, 0, none⟩), .agg #[i64 op, i64 (a : Int), i64 (b : Int), i64 (c : Int), i64 imm], i64 (acS op), i64 (acK op)] u fun e w' => e = didE (m.acc op a b imm) ∧ Step F (Bm L (didM m (m.acc op a b imm))) w w' := fun u x =>
    (bm_access (S.later x) ha hb hk hk' hx).mono fun e w' h => ⟨h.1, Step.after x h.2⟩
  rw [hd] at hacc
  dsimp only [didE, didM] at hacc
  clear S hd hn
  generalize acS op = s at *
  generalize acK op = k at *
  generalize acN op = nn at *
  go_enter Tryz.func84, Tryz.ntmps84
  go_wp2_with (first
    | (go_at_call 114; refine (hac _ hb1 hBx).mono ?_; rintro e w1 ⟨rfl, x1, y1⟩; obtain ⟨z0, z1, z2, z3, z4⟩ := y1.cells; have z23 := k23 _ x1; have z24 := k24 _ x1)
    | (go_at_call 115; refine (hacc _ x1).mono ?_; rintro e w2 ⟨rfl, s2⟩))
  exact ⟨rfl, rfl, s2⟩
set_option maxHeartbeats 2000000 in
theorem bm_compute_mem (S : Sees w F L m ov gr cr gc cc) {op : Int} {a b c : Nat} {imm n : Int} (ha : a ≤ 15) (hb : b ≤ 15) (hc : c ≤ 15) (him : -2147483648 ≤ imm ∧ imm ≤ 2147483647) (ho : 0 ≤ op ∧ op ≤ 255) (hn : Wd n) (hk : acK op ≠ 0) (hk' : op ≠ 37 ∧ op ≠ 38 ∧ op ≠ 39) (hx : m.tx.length < 100000) {m' : Ma} (hd : m.acc op a b imm = .yes m') :
    Calls Tryz.prog 84 #[.pointer (some ⟨L.h, 0, none⟩), .agg #[i64 op, i64 (a : Int), i64 (b : Int), i64 (c : Int), i64 imm], i64 n] w fun e w' => e = .returned (.tuple #[]) ∧ Step F (Bm L (m'.go n)) w w' := by
  have k23 : ∀ u, Below w.heap.size w u → u.cell? ⟨L.h, 23, none⟩ = some (.slice (some ⟨gr, 0, none⟩) 16 cr) := fun u b => (S.later b).c23
  have k24 : ∀ u, Below w.heap.size w u → u.cell? ⟨L.h, 24, none⟩ = some (i64 m.pc) := fun u b => (S.later b).c24
  have n23 := k23 _ (Below.refl _ _)
  have a23 := fun o => k23 _ (Below.alloc (Below.refl w.heap.size w) (Nat.le_refl _) o)
  have ka : ∀ u, Below w.heap.size w u → u.cell? ⟨gr, a, none⟩ = some (i64 (m.r a)) := fun u x => (S.later x).rr a (by omega)
  have kb : ∀ u, Below w.heap.size w u → u.cell? ⟨gr, b, none⟩ = some (i64 (m.r b)) := fun u x => (S.later x).rr b (by omega)
  have kc : ∀ u, Below w.heap.size w u → u.cell? ⟨gr, c, none⟩ = some (i64 (m.r c)) := fun u x => (S.later x).rr c (by omega)
  have hBx : InsAt (w.alloc (.cells #[i64 op, i64 (a : Int), i64 (b : Int), i64 (c : Int), i64 imm] 47)) w.heap.size op a b c imm := heap_alloc_new _ _
  have hb1 : Below w.heap.size w (w.alloc (.cells #[i64 op, i64 (a : Int), i64 (b : Int), i64 (c : Int), i64 imm] 47)) := (Below.refl _ w).alloc (Nat.le_refl _) _
  have i0 : ∀ u, InsAt u w.heap.size op a b c imm → u.cell? ⟨w.heap.size, 0, none⟩ = some (i64 op) := fun u x => x.cells.1
  have i1 : ∀ u, InsAt u w.heap.size op a b c imm → u.cell? ⟨w.heap.size, 1, none⟩ = some (i64 (a : Int)) := fun u x => x.cells.2.1
  have i2 : ∀ u, InsAt u w.heap.size op a b c imm → u.cell? ⟨w.heap.size, 2, none⟩ = some (i64 (b : Int)) := fun u x => x.cells.2.2.1
  have i3 : ∀ u, InsAt u w.heap.size op a b c imm → u.cell? ⟨w.heap.size, 3, none⟩ = some (i64 (c : Int)) := fun u x => x.cells.2.2.2.1
  have i4 : ∀ u, InsAt u w.heap.size op a b c imm → u.cell? ⟨w.heap.size, 4, none⟩ = some (i64 imm) := fun u x => x.cells.2.2.2.2
  have hac : ∀ u, Below w.heap.size w u → InsAt u w.heap.size op a b c imm → Calls Tryz.prog 114 #[i64 op] u fun e w' => e = .returned (.tuple #[i64 (acS op), i64 (acK op), .bool (acN op), .bool (acK op != 0)]) ∧ Below w.heap.size w w' ∧ InsAt w' w.heap.size op a b c imm := fun u x y =>
    (access_says op u).mono fun e w' h => ⟨h.1, x.trans (h.2.mono x.size), y.kept h.2⟩
  have ha1 : a < 16 := by omega
  have haI : (a : Int) < 16 := by omega
  have hbI : (b : Int) < 16 := by omega
  have hcI : (c : Int) < 16 := by omega
  have hb1' : b < 16 := by omega
  have hc1 : c < 16 := by omega
  have hk2 : (acK op != 0) = true := by simpa using hk
  rw [hk2] at hac
  have hacc : ∀ u, Below w.heap.size w u → Calls Tryz.prog 115 #[.pointer (some ⟨L.h, 0, none⟩), .agg #[i64 op, i64 (a : Int), i64 (b : Int), i64 (c : Int), i64 imm], i64 (acS op), i64 (acK op)] u fun e w' => e = didE (m.acc op a b imm) ∧ Step F (Bm L (didM m (m.acc op a b imm))) w w' := fun u x =>
    (bm_access (S.later x) ha hb hk hk' hx).mono fun e w' h => ⟨h.1, Step.after x h.2⟩
  rw [hd] at hacc
  dsimp only [didE, didM] at hacc
  clear S hd
  generalize acS op = s at *
  generalize acK op = k at *
  generalize acN op = nn at *
  go_enter Tryz.func84, Tryz.ntmps84
  go_wp2_with (first
    | (go_at_call 114; refine (hac _ hb1 hBx).mono ?_; rintro e w1 ⟨rfl, x1, y1⟩; obtain ⟨z0, z1, z2, z3, z4⟩ := y1.cells; have z23 := k23 _ x1; have z24 := k24 _ x1)
    | (go_at_call 115; refine (hacc _ x1).mono ?_; rintro e w2 ⟨rfl, s2⟩; obtain ⟨p1, p2, p3⟩ := s2.toPc hn))
  go_end0
  exact ⟨rfl, p3⟩
set_option maxHeartbeats 2000000 in
theorem bm_compute_taken (S : Sees w F L m ov gr cr gc cc) {op : Int} {a b c : Nat} {imm n : Int} (ha : a ≤ 15) (hb : b ≤ 15) (hc : c ≤ 15) (him : -2147483648 ≤ imm ∧ imm ≤ 2147483647) (ho : 0 ≤ op ∧ op ≤ 255) (hn : Wd n) (hk : acK op = 0) (ht : takK op = true) (hv : takV op (m.r a) (m.r b) = true) :
    Calls Tryz.prog 84 #[.pointer (some ⟨L.h, 0, none⟩), .agg #[i64 op, i64 (a : Int), i64 (b : Int), i64 (c : Int), i64 imm], i64 n] w fun e w' => e = .returned (.tuple #[]) ∧ Step F (Bm L (m.go (wd (m.pc + 4 * imm)))) w w' := by
  have k23 : ∀ u, Below w.heap.size w u → u.cell? ⟨L.h, 23, none⟩ = some (.slice (some ⟨gr, 0, none⟩) 16 cr) := fun u b => (S.later b).c23
  have k24 : ∀ u, Below w.heap.size w u → u.cell? ⟨L.h, 24, none⟩ = some (i64 m.pc) := fun u b => (S.later b).c24
  have n23 := k23 _ (Below.refl _ _)
  have a23 := fun o => k23 _ (Below.alloc (Below.refl w.heap.size w) (Nat.le_refl _) o)
  have ka : ∀ u, Below w.heap.size w u → u.cell? ⟨gr, a, none⟩ = some (i64 (m.r a)) := fun u x => (S.later x).rr a (by omega)
  have kb : ∀ u, Below w.heap.size w u → u.cell? ⟨gr, b, none⟩ = some (i64 (m.r b)) := fun u x => (S.later x).rr b (by omega)
  have kc : ∀ u, Below w.heap.size w u → u.cell? ⟨gr, c, none⟩ = some (i64 (m.r c)) := fun u x => (S.later x).rr c (by omega)
  have hBx : InsAt (w.alloc (.cells #[i64 op, i64 (a : Int), i64 (b : Int), i64 (c : Int), i64 imm] 47)) w.heap.size op a b c imm := heap_alloc_new _ _
  have hb1 : Below w.heap.size w (w.alloc (.cells #[i64 op, i64 (a : Int), i64 (b : Int), i64 (c : Int), i64 imm] 47)) := (Below.refl _ w).alloc (Nat.le_refl _) _
  have i0 : ∀ u, InsAt u w.heap.size op a b c imm → u.cell? ⟨w.heap.size, 0, none⟩ = some (i64 op) := fun u x => x.cells.1
  have i1 : ∀ u, InsAt u w.heap.size op a b c imm → u.cell? ⟨w.heap.size, 1, none⟩ = some (i64 (a : Int)) := fun u x => x.cells.2.1
  have i2 : ∀ u, InsAt u w.heap.size op a b c imm → u.cell? ⟨w.heap.size, 2, none⟩ = some (i64 (b : Int)) := fun u x => x.cells.2.2.1
  have i3 : ∀ u, InsAt u w.heap.size op a b c imm → u.cell? ⟨w.heap.size, 3, none⟩ = some (i64 (c : Int)) := fun u x => x.cells.2.2.2.1
  have i4 : ∀ u, InsAt u w.heap.size op a b c imm → u.cell? ⟨w.heap.size, 4, none⟩ = some (i64 imm) := fun u x => x.cells.2.2.2.2
  have hac : ∀ u, Below w.heap.size w u → InsAt u w.heap.size op a b c imm → Calls Tryz.prog 114 #[i64 op] u fun e w' => e = .returned (.tuple #[i64 (acS op), i64 (acK op), .bool (acN op), .bool (acK op != 0)]) ∧ Below w.heap.size w w' ∧ InsAt w' w.heap.size op a b c imm := fun u x y =>
    (access_says op u).mono fun e w' h => ⟨h.1, x.trans (h.2.mono x.size), y.kept h.2⟩
  have ha1 : a < 16 := by omega
  have haI : (a : Int) < 16 := by omega
  have hbI : (b : Int) < 16 := by omega
  have hcI : (c : Int) < 16 := by omega
  have hb1' : b < 16 := by omega
  have hc1 : c < 16 := by omega
  have hk2 : (acK op != 0) = false := by simpa using hk
  rw [hk2] at hac
  have htk : ∀ u, Below w.heap.size w u → InsAt u w.heap.size op a b c imm → Calls Tryz.prog 116 #[i64 op, i64 (m.r a), i64 (m.r b)] u fun e w' => e = .returned (.tuple #[.bool (takV op (m.r a) (m.r b)), .bool (takK op)]) ∧ Below w.heap.size w w' ∧ InsAt w' w.heap.size op a b c imm := fun u x y =>
    (tak_says op (m.r a) (m.r b) (by omega) u).mono fun e w' h => ⟨h.1, x.trans (h.2.mono x.size), y.kept h.2⟩
  rw [ht, hv] at htk
  have hadd : Says 40 #[i64 m.pc, i64 (4 * imm)] (i64 (wd (m.pc + 4 * imm))) := add_says _ _
  have hw4 : IntKind.i64.wrap (4 * imm) = 4 * imm := by rw [IntKind.wrap_i64]; omega
  have hP := Lib.hid (fun w3 (x : Below w.heap.size w w3) => (Step.still x S.is : Step F (Bm L m) w w3).toPc (p := wd (m.pc + 4 * imm)) (wdb _))
  have kf : ∀ u, Below w.heap.size w u → u.frozen? ⟨L.h, 24, none⟩ = false := fun u x => (S.later x).fz 24
  clear S hk ht hv
  generalize acS op = s at *
  generalize acK op = k at *
  generalize acN op = nn at *
  go_enter Tryz.func84, Tryz.ntmps84
  go_wp2_with (go_at_call 114; refine (hac _ hb1 hBx).mono ?_; rintro e w1 ⟨rfl, x1, y1⟩; obtain ⟨z0, z1, z2, z3, z4⟩ := y1.cells; have z23 := k23 _ x1; have z24 := k24 _ x1)
  have D0 : Below w.heap.size w w1.drew ∧ InsAt w1.drew w.heap.size op a b c imm := ⟨x1.drew, y1⟩
  go_region_held3 (fun u => Below w.heap.size w u ∧ InsAt u w.heap.size op a b c imm) (first | with_reducible exact D0 | with_reducible assumption | with_reducible exact ⟨x3, y3⟩) (first
    | (go_at_call 116; refine (htk _ (And.left (by assumption)) (And.right (by assumption))).mono ?_; rintro e w3 ⟨rfl, x3, y3⟩))
  all_goals
    go_wp2_with fail
    have z24' := k24 _ x3
    have z4' := i4 _ y3
    go_quiet ((go_at_call 40; with_reducible exact Calls.quiet_of_same ((hadd _).mono (fun _ _ h => ⟨h.1, h.2.symm⟩))))
    obtain ⟨p1, p2, p3⟩ := hP.out (w3.drewN nq) (below_drewN x3 _)
    have p1' := k24 _ x3
    have p2' := kf _ x3
    go_wp2_with fail
    go_end0
    exact ⟨rfl, p3⟩
set_option maxHeartbeats 2000000 in
theorem bm_compute_not (S : Sees w F L m ov gr cr gc cc) {op : Int} {a b c : Nat} {imm n : Int} (ha : a ≤ 15) (hb : b ≤ 15) (hc : c ≤ 15) (him : -2147483648 ≤ imm ∧ imm ≤ 2147483647) (ho : 0 ≤ op ∧ op ≤ 255) (hn : Wd n) (hk : acK op = 0) (ht : takK op = true) (hv : takV op (m.r a) (m.r b) = false) :
    Calls Tryz.prog 84 #[.pointer (some ⟨L.h, 0, none⟩), .agg #[i64 op, i64 (a : Int), i64 (b : Int), i64 (c : Int), i64 imm], i64 n] w fun e w' => e = .returned (.tuple #[]) ∧ Step F (Bm L (m.go n)) w w' := by
  have k23 : ∀ u, Below w.heap.size w u → u.cell? ⟨L.h, 23, none⟩ = some (.slice (some ⟨gr, 0, none⟩) 16 cr) := fun u b => (S.later b).c23
  have k24 : ∀ u, Below w.heap.size w u → u.cell? ⟨L.h, 24, none⟩ = some (i64 m.pc) := fun u b => (S.later b).c24
  have n23 := k23 _ (Below.refl _ _)
  have a23 := fun o => k23 _ (Below.alloc (Below.refl w.heap.size w) (Nat.le_refl _) o)
  have ka : ∀ u, Below w.heap.size w u → u.cell? ⟨gr, a, none⟩ = some (i64 (m.r a)) := fun u x => (S.later x).rr a (by omega)
  have kb : ∀ u, Below w.heap.size w u → u.cell? ⟨gr, b, none⟩ = some (i64 (m.r b)) := fun u x => (S.later x).rr b (by omega)
  have kc : ∀ u, Below w.heap.size w u → u.cell? ⟨gr, c, none⟩ = some (i64 (m.r c)) := fun u x => (S.later x).rr c (by omega)
  have hBx : InsAt (w.alloc (.cells #[i64 op, i64 (a : Int), i64 (b : Int), i64 (c : Int), i64 imm] 47)) w.heap.size op a b c imm := heap_alloc_new _ _
  have hb1 : Below w.heap.size w (w.alloc (.cells #[i64 op, i64 (a : Int), i64 (b : Int), i64 (c : Int), i64 imm] 47)) := (Below.refl _ w).alloc (Nat.le_refl _) _
  have i0 : ∀ u, InsAt u w.heap.size op a b c imm → u.cell? ⟨w.heap.size, 0, none⟩ = some (i64 op) := fun u x => x.cells.1
  have i1 : ∀ u, InsAt u w.heap.size op a b c imm → u.cell? ⟨w.heap.size, 1, none⟩ = some (i64 (a : Int)) := fun u x => x.cells.2.1
  have i2 : ∀ u, InsAt u w.heap.size op a b c imm → u.cell? ⟨w.heap.size, 2, none⟩ = some (i64 (b : Int)) := fun u x => x.cells.2.2.1
  have i3 : ∀ u, InsAt u w.heap.size op a b c imm → u.cell? ⟨w.heap.size, 3, none⟩ = some (i64 (c : Int)) := fun u x => x.cells.2.2.2.1
  have i4 : ∀ u, InsAt u w.heap.size op a b c imm → u.cell? ⟨w.heap.size, 4, none⟩ = some (i64 imm) := fun u x => x.cells.2.2.2.2
  have hac : ∀ u, Below w.heap.size w u → InsAt u w.heap.size op a b c imm → Calls Tryz.prog 114 #[i64 op] u fun e w' => e = .returned (.tuple #[i64 (acS op), i64 (acK op), .bool (acN op), .bool (acK op != 0)]) ∧ Below w.heap.size w w' ∧ InsAt w' w.heap.size op a b c imm := fun u x y =>
    (access_says op u).mono fun e w' h => ⟨h.1, x.trans (h.2.mono x.size), y.kept h.2⟩
  have ha1 : a < 16 := by omega
  have haI : (a : Int) < 16 := by omega
  have hbI : (b : Int) < 16 := by omega
  have hcI : (c : Int) < 16 := by omega
  have hb1' : b < 16 := by omega
  have hc1 : c < 16 := by omega
  have hk2 : (acK op != 0) = false := by simpa using hk
  rw [hk2] at hac
  have htk : ∀ u, Below w.heap.size w u → InsAt u w.heap.size op a b c imm → Calls Tryz.prog 116 #[i64 op, i64 (m.r a), i64 (m.r b)] u fun e w' => e = .returned (.tuple #[.bool (takV op (m.r a) (m.r b)), .bool (takK op)]) ∧ Below w.heap.size w w' ∧ InsAt w' w.heap.size op a b c imm := fun u x y =>
    (tak_says op (m.r a) (m.r b) (by omega) u).mono fun e w' h => ⟨h.1, x.trans (h.2.mono x.size), y.kept h.2⟩
  rw [ht, hv] at htk
  have hadd : Says 40 #[i64 m.pc, i64 (4 * imm)] (i64 (wd (m.pc + 4 * imm))) := add_says _ _
  have hw4 : IntKind.i64.wrap (4 * imm) = 4 * imm := by rw [IntKind.wrap_i64]; omega
  have hP := Lib.hid (fun w3 (x : Below w.heap.size w w3) => (Step.still x S.is : Step F (Bm L m) w w3).toPc (p := n) hn)
  have kf : ∀ u, Below w.heap.size w u → u.frozen? ⟨L.h, 24, none⟩ = false := fun u x => (S.later x).fz 24
  clear S hk ht hv
  generalize acS op = s at *
  generalize acK op = k at *
  generalize acN op = nn at *
  go_enter Tryz.func84, Tryz.ntmps84
  go_wp2_with (go_at_call 114; refine (hac _ hb1 hBx).mono ?_; rintro e w1 ⟨rfl, x1, y1⟩; obtain ⟨z0, z1, z2, z3, z4⟩ := y1.cells; have z23 := k23 _ x1; have z24 := k24 _ x1)
  have D0 : Below w.heap.size w w1.drew ∧ InsAt w1.drew w.heap.size op a b c imm := ⟨x1.drew, y1⟩
  go_region_held3 (fun u => Below w.heap.size w u ∧ InsAt u w.heap.size op a b c imm) (first | with_reducible exact D0 | with_reducible assumption | with_reducible exact ⟨x3, y3⟩) (first
    | (go_at_call 116; refine (htk _ (And.left (by assumption)) (And.right (by assumption))).mono ?_; rintro e w3 ⟨rfl, x3, y3⟩))
  all_goals
    go_wp2_with fail
    obtain ⟨p1, p2, p3⟩ := hP.out w3 x3
    go_wp2_with fail
    go_end0
    exact ⟨rfl, p3⟩
set_option maxHeartbeats 2000000 in
theorem bm_compute_alu (S : Sees w F L m ov gr cr gc cc) {op : Int} {a b c : Nat} {imm n : Int} (ha : a ≤ 15) (hb : b ≤ 15) (hc : c ≤ 15) (him : -2147483648 ≤ imm ∧ imm ≤ 2147483647) (ho : 0 ≤ op ∧ op ≤ 255) (hn : Wd n) (hk : acK op = 0) (ht : takK op = false) :
    Calls Tryz.prog 84 #[.pointer (some ⟨L.h, 0, none⟩), .agg #[i64 op, i64 (a : Int), i64 (b : Int), i64 (c : Int), i64 imm], i64 n] w fun e w' => e = .returned (.tuple #[]) ∧ Step F (Bm L ((m.set a (aluV op (m.r b) (m.r c + imm))).go n)) w w' := by
  have k23 : ∀ u, Below w.heap.size w u → u.cell? ⟨L.h, 23, none⟩ = some (.slice (some ⟨gr, 0, none⟩) 16 cr) := fun u b => (S.later b).c23
  have k24 : ∀ u, Below w.heap.size w u → u.cell? ⟨L.h, 24, none⟩ = some (i64 m.pc) := fun u b => (S.later b).c24
  have n23 := k23 _ (Below.refl _ _)
  have a23 := fun o => k23 _ (Below.alloc (Below.refl w.heap.size w) (Nat.le_refl _) o)
  have ka : ∀ u, Below w.heap.size w u → u.cell? ⟨gr, a, none⟩ = some (i64 (m.r a)) := fun u x => (S.later x).rr a (by omega)
  have kb : ∀ u, Below w.heap.size w u → u.cell? ⟨gr, b, none⟩ = some (i64 (m.r b)) := fun u x => (S.later x).rr b (by omega)
  have kc : ∀ u, Below w.heap.size w u → u.cell? ⟨gr, c, none⟩ = some (i64 (m.r c)) := fun u x => (S.later x).rr c (by omega)
  have hBx : InsAt (w.alloc (.cells #[i64 op, i64 (a : Int), i64 (b : Int), i64 (c : Int), i64 imm] 47)) w.heap.size op a b c imm := heap_alloc_new _ _
  have hb1 : Below w.heap.size w (w.alloc (.cells #[i64 op, i64 (a : Int), i64 (b : Int), i64 (c : Int), i64 imm] 47)) := (Below.refl _ w).alloc (Nat.le_refl _) _
  have i0 : ∀ u, InsAt u w.heap.size op a b c imm → u.cell? ⟨w.heap.size, 0, none⟩ = some (i64 op) := fun u x => x.cells.1
  have i1 : ∀ u, InsAt u w.heap.size op a b c imm → u.cell? ⟨w.heap.size, 1, none⟩ = some (i64 (a : Int)) := fun u x => x.cells.2.1
  have i2 : ∀ u, InsAt u w.heap.size op a b c imm → u.cell? ⟨w.heap.size, 2, none⟩ = some (i64 (b : Int)) := fun u x => x.cells.2.2.1
  have i3 : ∀ u, InsAt u w.heap.size op a b c imm → u.cell? ⟨w.heap.size, 3, none⟩ = some (i64 (c : Int)) := fun u x => x.cells.2.2.2.1
  have i4 : ∀ u, InsAt u w.heap.size op a b c imm → u.cell? ⟨w.heap.size, 4, none⟩ = some (i64 imm) := fun u x => x.cells.2.2.2.2
  have hac : ∀ u, Below w.heap.size w u → InsAt u w.heap.size op a b c imm → Calls Tryz.prog 114 #[i64 op] u fun e w' => e = .returned (.tuple #[i64 (acS op), i64 (acK op), .bool (acN op), .bool (acK op != 0)]) ∧ Below w.heap.size w w' ∧ InsAt w' w.heap.size op a b c imm := fun u x y =>
    (access_says op u).mono fun e w' h => ⟨h.1, x.trans (h.2.mono x.size), y.kept h.2⟩
  have ha1 : a < 16 := by omega
  have haI : (a : Int) < 16 := by omega
  have hbI : (b : Int) < 16 := by omega
  have hcI : (c : Int) < 16 := by omega
  have hb1' : b < 16 := by omega
  have hc1 : c < 16 := by omega
  have hk2 : (acK op != 0) = false := by simpa using hk
  rw [hk2] at hac
  have htk : ∀ u, Below w.heap.size w u → InsAt u w.heap.size op a b c imm → Calls Tryz.prog 116 #[i64 op, i64 (m.r a), i64 (m.r b)] u fun e w' => e = .returned (.tuple #[.bool (takV op (m.r a) (m.r b)), .bool (takK op)]) ∧ Below w.heap.size w w' ∧ InsAt w' w.heap.size op a b c imm := fun u x y =>
    (tak_says op (m.r a) (m.r b) (by omega) u).mono fun e w' h => ⟨h.1, x.trans (h.2.mono x.size), y.kept h.2⟩
  rw [ht] at htk
  have hrb := S.fine.rb (c : Int)
  have hw4 : IntKind.i64.wrap (m.r c + imm) = m.r c + imm := by rw [IntKind.wrap_i64]; omega
  have hal : ∀ u, Below w.heap.size w u → InsAt u w.heap.size op a b c imm → Calls Tryz.prog 117 #[i64 op, i64 (m.r b), i64 (m.r c + imm)] u fun e w' => e = .returned (.tuple #[i64 (aluV op (m.r b) (m.r c + imm)), .bool (aluK op)]) ∧ Below w.heap.size w w' ∧ InsAt w' w.heap.size op a b c imm := fun u x y =>
    (alu_says op (m.r b) (m.r c + imm) (by omega) u).mono fun e w' h => ⟨h.1, x.trans (h.2.mono x.size), y.kept h.2⟩
  have hset : ∀ w3, Below w.heap.size w w3 → Calls Tryz.prog 80 #[.pointer (some ⟨L.h, 0, none⟩), i64 (a : Int), i64 (aluV op (m.r b) (m.r c + imm))] w3 fun e w' => e = .returned (.tuple #[]) ∧ Step F (Bm L (m.set a (aluV op (m.r b) (m.r c + imm)))) w w' := fun w3 x =>
    bm_set' (Step.still x S.is) (by omega) (by omega) (aluV_w _ _ _)
  clear S hk ht hrb
  generalize acS op = s at *
  generalize acK op = k at *
  generalize acN op = nn at *
  generalize aluV op (m.r b) (m.r c + imm) = av at *
  generalize aluK op = ak at *
  generalize takV op (m.r a) (m.r b) = tv at *
  go_enter Tryz.func84, Tryz.ntmps84
  go_wp2_with (go_at_call 114; refine (hac _ hb1 hBx).mono ?_; rintro e w1 ⟨rfl, x1, y1⟩; obtain ⟨z0, z1, z2, z3, z4⟩ := y1.cells; have z23 := k23 _ x1; have z24 := k24 _ x1)
  have D0 : Below w.heap.size w w1.drew ∧ InsAt w1.drew w.heap.size op a b c imm := ⟨x1.drew, y1⟩
  go_region_held3 (fun u => Below w.heap.size w u ∧ InsAt u w.heap.size op a b c imm) (first | with_reducible exact D0 | with_reducible assumption | with_reducible exact ⟨x3, y3⟩) (first
    | (go_at_call 116; refine (htk _ (And.left (by assumption)) (And.right (by assumption))).mono ?_; rintro e w3 ⟨rfl, x3, y3⟩))
  all_goals
    go_wp2_with fail
    have D0 : Below w.heap.size w w3.drew ∧ InsAt w3.drew w.heap.size op a b c imm := ⟨x3.drew, y3⟩
    go_region_held3 (fun u => Below w.heap.size w u ∧ InsAt u w.heap.size op a b c imm) (first | with_reducible exact D0 | with_reducible assumption | with_reducible exact ⟨x4, y4⟩) (first
      | (go_at_call 117; refine (hal _ (And.left (by assumption)) (And.right (by assumption))).mono ?_; rintro e w4 ⟨rfl, x4, y4⟩))
    all_goals
      have z1' := i1 _ y4
      go_wp2_with (go_at_call 80; refine (hset _ x4).mono ?_; rintro e w5 ⟨rfl, s5⟩; obtain ⟨p1, p2, p3⟩ := s5.toPc hn)
      go_end0
      exact ⟨rfl, p3⟩
end
end Go.Proofs.YtfcmodllbhpniaaGreatDoor.Ser
