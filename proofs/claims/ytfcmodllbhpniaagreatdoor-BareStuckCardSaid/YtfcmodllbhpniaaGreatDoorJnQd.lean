/-
  Package bare: access, all of it (laid by mkbare.py). | Package bare: do: jumps (laid by mkbare.py).
-/
import Derived.Test.YtfcmodllbhpniaaGreatDoorJnPa
import Derived.Test.YtfcmodllbhpniaaGreatDoorJnPb
import Derived.Test.YtfcmodllbhpniaaGreatDoorJnPc
import Derived.Test.YtfcmodllbhpniaaGreatDoorJnPd
import Derived.Deep.QuietTactic
import Derived.BigQuiet
import Derived.Deep.RegionWith
set_option linter.unusedVariables false
set_option maxRecDepth 100000
set_option linter.unusedVariables false
namespace Go.Proofs.YtfcmodllbhpniaaGreatDoor.Ser
open Go.Proofs.YtfcmodllbhpniaaGreatDoor
open Go.ChangeShapes Go.WideShapes Go.ChangeAt Go.RowKit
section
variable {w : World} {F : Nat → Prop} {L : Lay} {m : Ma} {ov : Value} {gr cr gc cc : Nat}
def didE : Did Ma → Ending
  | .no x y => trapE x y
  | .yes _ => .returned (.tuple #[])
def didM (m : Ma) : Did Ma → Ma
  | .no _ _ => m
  | .yes m' => m'
theorem acS_cases (op : Int) (h : acK op ≠ 0) (_ : op ≠ 37 ∧ op ≠ 38 ∧ op ≠ 39) : acS op = 1 ∨ acS op = 2 ∨ acS op = 4 := by
  unfold acK at h
  unfold acS
  (repeat' split at h) <;> (repeat' split) <;> omega
theorem bm_access (S : Sees w F L m ov gr cr gc cc) {op : Int} {a b : Nat} {c imm : Int} (ha : a ≤ 15) (hb : b ≤ 15) (hk : acK op ≠ 0) (hk' : op ≠ 37 ∧ op ≠ 38 ∧ op ≠ 39) (hx : m.tx.length < 100000) :
    Calls Tryz.prog 115 #[.pointer (some ⟨L.h, 0, none⟩), .agg #[i64 op, i64 (a : Int), i64 (b : Int), i64 c, i64 imm], i64 (acS op), i64 (acK op)] w fun e w' => e = didE (m.acc op a b imm) ∧ Step F (Bm L (didM m (m.acc op a b imm))) w w' := by
  have hs := acS_cases op hk hk'
  have hk2 : acK op = 1 ∨ acK op = 2 := by unfold acK at hk ⊢; (repeat' split at hk) <;> (repeat' split) <;> omega
  unfold Ma.acc
  by_cases h : (m.find (wd (m.r b + imm)) (acS op) (acK op)).2 ≠ 0
  · rw [if_pos h]; exact bm_access_find S ha hb hs h
  · rw [if_neg h]
    replace h : (m.find (wd (m.r b + imm)) (acS op) (acK op)).2 = 0 := Decidable.not_not.1 h
    unfold Ma.reach
    rcases hk2 with e | e
    · rw [e] at h ⊢
      by_cases hm : 4026531840 ≤ (m.find (wd (m.r b + imm)) (acS op) 1).1
      · rw [if_pos hm]
        by_cases h4 : acS op = 4 ∧ uok ((m.find (wd (m.r b + imm)) (acS op) 1).1 - 4026531840) = true
        · rw [if_pos h4, if_neg (by decide)]; exact bm_access_xld S ha hb hs h hm h4.1 h4.2
        · rw [if_neg h4]; exact bm_access_xldno S ha hb hs h hm (by simpa using h4)
      · rw [if_neg hm]
        by_cases ho : okc m.M.length (m.find (wd (m.r b + imm)) (acS op) 1).1 (acS op)
        · rw [if_pos ho, if_neg (by decide)]; exact bm_access_mld S ha hb hs h (by omega) ho
        · rw [if_neg ho]; exact bm_access_mldno S ha hb hs h (by omega) ho
    · rw [e] at h ⊢
      by_cases hm : 4026531840 ≤ (m.find (wd (m.r b + imm)) (acS op) 2).1
      · rw [if_pos hm]
        by_cases h4 : acS op = 4 ∧ uok ((m.find (wd (m.r b + imm)) (acS op) 2).1 - 4026531840) = true
        · rw [if_pos h4, if_pos rfl]; exact bm_access_xst S ha hb hs h hx hm h4.1 h4.2
        · rw [if_neg h4]; exact bm_access_xstno S ha hb hs h hx hm (by simpa using h4)
      · rw [if_neg hm]
        by_cases ho : okc m.M.length (m.find (wd (m.r b + imm)) (acS op) 2).1 (acS op)
        · rw [if_pos ho, if_pos rfl]; exact bm_access_mst S ha hb hs h (by omega) ho
        · rw [if_neg ho]; exact bm_access_mstno S ha hb hs h (by omega) ho
theorem Step.toPc {m1 : Ma} {w3 : World} (s : Step F (Bm L m1) w w3) {p : Int} (hp : Wd p) : w3.cell? ⟨L.h, 24, none⟩ = some (i64 m1.pc) ∧ w3.frozen? ⟨L.h, 24, none⟩ = false ∧ Step F (Bm L (m1.go p)) w (w3.setCell ⟨L.h, 24, none⟩ (i64 p)) := by
  obtain ⟨F1, p1, n1, b1⟩ := s
  obtain ⟨_, _, _, _, _, S1⟩ := bm_sees p1
  exact ⟨S1.c24, S1.fz 24, (S1.pc' hp).join n1 b1⟩
end
end Go.Proofs.YtfcmodllbhpniaaGreatDoor.Ser
set_option maxRecDepth 100000
set_option maxRecDepth 100000
set_option linter.unusedVariables false
namespace Go.Proofs.YtfcmodllbhpniaaGreatDoor.Ser
open Go.Proofs.YtfcmodllbhpniaaGreatDoor
open Go.ChangeShapes Go.WideShapes Go.ChangeAt Go.RowKit
section
variable {w : World} {F : Nat → Prop} {L : Lay} {m : Ma} {ov : Value} {gr cr gc cc : Nat}
set_option maxHeartbeats 2000000 in
theorem bm_do_56 (S : Sees w F L m ov gr cr gc cc) {op : Int} {a b c : Nat} {imm : Int} (ha : a ≤ 15) (hb : b ≤ 15) (him : -2147483648 ≤ imm ∧ imm ≤ 2147483647) (hop : op = 56)  :
    Calls Tryz.prog 57 #[.pointer (some ⟨L.h, 0, none⟩), .agg #[i64 op, i64 (a : Int), i64 (b : Int), i64 (c : Int), i64 imm]] w fun e w' => e = .returned (.tuple #[]) ∧ Step F (Bm L ((m.go (wd (m.pc + 4 * imm))).set a (wd (m.pc + 4)))) w w' := by
  subst hop
  have k23 : ∀ u, Below w.heap.size w u → u.cell? ⟨L.h, 23, none⟩ = some (.slice (some ⟨gr, 0, none⟩) 16 cr) := fun u b => (S.later b).c23
  have k24 : ∀ u, Below w.heap.size w u → u.cell? ⟨L.h, 24, none⟩ = some (i64 m.pc) := fun u b => (S.later b).c24
  have k25 : ∀ u, Below w.heap.size w u → u.cell? ⟨L.h, 25, none⟩ = some (.slice (some ⟨gc, 0, none⟩) 11 cc) := fun u b => (S.later b).c25
  have ka : ∀ u, Below w.heap.size w u → u.cell? ⟨gr, a, none⟩ = some (i64 (m.r a)) := fun u x => (S.later x).rr a (by omega)
  have kb : ∀ u, Below w.heap.size w u → u.cell? ⟨gr, b, none⟩ = some (i64 (m.r b)) := fun u x => (S.later x).rr b (by omega)
  have hnx : Says 40 #[i64 m.pc, i64 4] (i64 (wd (m.pc + 4))) := add_says _ _
  have ha1 : (a : Int) < 16 := by omega
  have hb1 : (b : Int) < 16 := by omega
  have kf : ∀ u, Below w.heap.size w u → ∀ k, u.frozen? ⟨L.h, k, none⟩ = false := fun u x => (S.later x).fz
  have hjp : Says 40 #[i64 m.pc, i64 (4 * imm)] (i64 (wd (m.pc + 4 * imm))) := add_says _ _
  have hw4 : IntKind.i64.wrap (4 * imm) = 4 * imm := by rw [IntKind.wrap_i64]; omega
  have HP := Lib.hid (fun w3 (x : Below w.heap.size w w3) => ((Step.still x S.is : Step F (Bm L m) w w3).toPc (p := wd (m.pc + 4 * imm)) (wdb _)).2.2)
  have hset : ∀ w3, Step F (Bm L (m.go (wd (m.pc + 4 * imm)))) w w3 → Calls Tryz.prog 80 #[.pointer (some ⟨L.h, 0, none⟩), i64 (a : Int), i64 (wd (m.pc + 4))] w3 fun e w' => e = .returned (.tuple #[]) ∧ Step F (Bm L ((m.go (wd (m.pc + 4 * imm))).set a (wd (m.pc + 4)))) w w' := fun w3 x =>
    bm_set' x (by omega) (by omega) (wdb _)
  have hib : ∀ w1 x, InsAt w1 w.heap.size 56 a b c imm → ¬ L.h = w.heap.size → (w1.setCell ⟨L.h, 24, none⟩ x).cell? ⟨w.heap.size, 1, none⟩ = some (i64 (a : Int)) := fun w1 x y hne => by
    rw [World.cell?_of_block (Below.heap_setCell _ _ _ _ (fun e => hne e.symm))]; exact y.cells.2.1
  have hne : ¬ L.h = w.heap.size := by have h : L.h < w.heap.size := World.block_lt_of_cell? w ⟨L.h, 0, none⟩ S.c0; omega
  clear S
  go_enter Tryz.func57, Tryz.ntmps57
  go_upto_region 1 with fail
  obtain ⟨w0, hw0⟩ : ∃ w0, w0 = w.alloc (.cells #[i64 56, i64 (a : Int), i64 (b : Int), i64 (c : Int), i64 imm] 47) := ⟨_, rfl⟩
  have x0 : Below w.heap.size w w0 := by rw [hw0]; exact (Below.refl _ w).alloc (Nat.le_refl _) _
  have y0 : InsAt w0 w.heap.size 56 a b c imm := by rw [hw0]; exact heap_alloc_new _ _
  rw [← hw0]
  clear hw0
  obtain ⟨i0, i1, i2, i3, i4⟩ := y0.cells
  have n23 := k23 _ x0
  have n24 := k24 _ x0
  have n25 := k25 _ x0
  have na := ka _ x0
  have nb := kb _ x0
  have nf := kf _ x0
  go_wp2_with (go_at_call 40; with_reducible refine (hnx _).mono ?_; rintro e w9 ⟨rfl, rfl⟩)
  have x0d : Below w.heap.size w w0.drew := x0.drew
  go_region_with (first
    | (go_at_call 40; with_reducible refine (hjp _).mono ?_; rintro e w9 ⟨rfl, rfl⟩))
  all_goals
    have hi := hib w0 (i64 (wd (m.pc + 4 * imm))) y0 hne
    have s3 := (HP.out w0 x0).later ((Below.refl _ _).drew)
    go_wp2_with (go_at_call 80; refine (hset _ s3).mono ?_; rintro e w5 ⟨rfl, s5⟩)
    go_end0
    exact ⟨rfl, s5⟩
set_option maxHeartbeats 2000000 in
theorem bm_do_57 (S : Sees w F L m ov gr cr gc cc) {op : Int} {a b c : Nat} {imm : Int} (ha : a ≤ 15) (hb : b ≤ 15) (him : -2147483648 ≤ imm ∧ imm ≤ 2147483647) (hop : op = 57)  :
    Calls Tryz.prog 57 #[.pointer (some ⟨L.h, 0, none⟩), .agg #[i64 op, i64 (a : Int), i64 (b : Int), i64 (c : Int), i64 imm]] w fun e w' => e = .returned (.tuple #[]) ∧ Step F (Bm L ((m.go (wd (m.r b + imm))).set a (wd (m.pc + 4)))) w w' := by
  subst hop
  have k23 : ∀ u, Below w.heap.size w u → u.cell? ⟨L.h, 23, none⟩ = some (.slice (some ⟨gr, 0, none⟩) 16 cr) := fun u b => (S.later b).c23
  have k24 : ∀ u, Below w.heap.size w u → u.cell? ⟨L.h, 24, none⟩ = some (i64 m.pc) := fun u b => (S.later b).c24
  have k25 : ∀ u, Below w.heap.size w u → u.cell? ⟨L.h, 25, none⟩ = some (.slice (some ⟨gc, 0, none⟩) 11 cc) := fun u b => (S.later b).c25
  have ka : ∀ u, Below w.heap.size w u → u.cell? ⟨gr, a, none⟩ = some (i64 (m.r a)) := fun u x => (S.later x).rr a (by omega)
  have kb : ∀ u, Below w.heap.size w u → u.cell? ⟨gr, b, none⟩ = some (i64 (m.r b)) := fun u x => (S.later x).rr b (by omega)
  have hnx : Says 40 #[i64 m.pc, i64 4] (i64 (wd (m.pc + 4))) := add_says _ _
  have ha1 : (a : Int) < 16 := by omega
  have hb1 : (b : Int) < 16 := by omega
  have kf : ∀ u, Below w.heap.size w u → ∀ k, u.frozen? ⟨L.h, k, none⟩ = false := fun u x => (S.later x).fz
  have hjp : Says 40 #[i64 (m.r b), i64 imm] (i64 (wd (m.r b + imm))) := add_says _ _
  have hw4 : IntKind.i64.wrap (4 * imm) = 4 * imm := by rw [IntKind.wrap_i64]; omega
  have HP := Lib.hid (fun w3 (x : Below w.heap.size w w3) => ((Step.still x S.is : Step F (Bm L m) w w3).toPc (p := wd (m.r b + imm)) (wdb _)).2.2)
  have hset : ∀ w3, Step F (Bm L (m.go (wd (m.r b + imm)))) w w3 → Calls Tryz.prog 80 #[.pointer (some ⟨L.h, 0, none⟩), i64 (a : Int), i64 (wd (m.pc + 4))] w3 fun e w' => e = .returned (.tuple #[]) ∧ Step F (Bm L ((m.go (wd (m.r b + imm))).set a (wd (m.pc + 4)))) w w' := fun w3 x =>
    bm_set' x (by omega) (by omega) (wdb _)
  have hib : ∀ w1 x, InsAt w1 w.heap.size 57 a b c imm → ¬ L.h = w.heap.size → (w1.setCell ⟨L.h, 24, none⟩ x).cell? ⟨w.heap.size, 1, none⟩ = some (i64 (a : Int)) := fun w1 x y hne => by
    rw [World.cell?_of_block (Below.heap_setCell _ _ _ _ (fun e => hne e.symm))]; exact y.cells.2.1
  have hne : ¬ L.h = w.heap.size := by have h : L.h < w.heap.size := World.block_lt_of_cell? w ⟨L.h, 0, none⟩ S.c0; omega
  clear S
  go_enter Tryz.func57, Tryz.ntmps57
  go_upto_region 1 with fail
  obtain ⟨w0, hw0⟩ : ∃ w0, w0 = w.alloc (.cells #[i64 57, i64 (a : Int), i64 (b : Int), i64 (c : Int), i64 imm] 47) := ⟨_, rfl⟩
  have x0 : Below w.heap.size w w0 := by rw [hw0]; exact (Below.refl _ w).alloc (Nat.le_refl _) _
  have y0 : InsAt w0 w.heap.size 57 a b c imm := by rw [hw0]; exact heap_alloc_new _ _
  rw [← hw0]
  clear hw0
  obtain ⟨i0, i1, i2, i3, i4⟩ := y0.cells
  have n23 := k23 _ x0
  have n24 := k24 _ x0
  have n25 := k25 _ x0
  have na := ka _ x0
  have nb := kb _ x0
  have nf := kf _ x0
  go_wp2_with (go_at_call 40; with_reducible refine (hnx _).mono ?_; rintro e w9 ⟨rfl, rfl⟩)
  have x0d : Below w.heap.size w w0.drew := x0.drew
  go_region_with (first
    | (go_at_call 40; with_reducible refine (hjp _).mono ?_; rintro e w9 ⟨rfl, rfl⟩))
  all_goals
    have hi := hib w0 (i64 (wd (m.r b + imm))) y0 hne
    have s3 := (HP.out w0 x0).later ((Below.refl _ _).drew)
    go_wp2_with (go_at_call 80; refine (hset _ s3).mono ?_; rintro e w5 ⟨rfl, s5⟩)
    go_end0
    exact ⟨rfl, s5⟩
end
end Go.Proofs.YtfcmodllbhpniaaGreatDoor.Ser
