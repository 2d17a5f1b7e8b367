/-
  Package bare: do: csrr, csrw (laid by mkbare.py). | Package bare: do: the rest (laid by mkbare.py).
-/
import Derived.Test.YtfcmodllbhpniaaGreatDoorJnBareE
import Derived.Test.YtfcmodllbhpniaaGreatDoorJnBareC
import Derived.Deep.QuietTactic
import Derived.BigQuiet
import Derived.Deep.RegionWith
import Derived.StillTailTactics
set_option linter.unusedVariables false
set_option maxRecDepth 100000
set_option maxRecDepth 100000
set_option linter.unusedVariables false
namespace Go.Proofs.YtfcmodllbhpniaaGreatDoor.Ser
open Go.Proofs.YtfcmodllbhpniaaGreatDoor
open Go.ChangeShapes Go.WideShapes Go.ChangeAt Go.RowKit
section
variable {w : World} {F : Nat → Prop} {L : Lay} {m : Ma} {ov : Value} {gr cr gc cc : Nat}
theorem sees_of (f : m.Fine) (h : (Group (parts L (.slice (some ⟨gr, 0, none⟩) 16 cr) (.slice (some ⟨gc, 0, none⟩) 11 cc) ov m)).is w F) : Sees w F L m ov gr cr gc cc := by
  obtain ⟨Fs, hG⟩ := h
  obtain ⟨gr', cr', e1, e2, e3⟩ := row_form (hG.p 2 _ rfl) (by rw [f.rl]; omega)
  obtain ⟨gc', cc', e4, e5, e6⟩ := row_form (hG.p 3 _ rfl) (by rw [f.cl]; omega)
  rw [f.rl] at e1 e3; rw [f.cl] at e4 e6
  injection e1 with e1 _ _
  injection e1 with e1
  injection e1 with e1
  injection e4 with e4 _ _
  injection e4 with e4
  injection e4 with e4
  subst e1; subst e4
  obtain ⟨ring, f0, v, U, -⟩ := hG.p 0 _ rfl
  exact ⟨f, ⟨Fs, hG⟩, U.cA 0 (by omega), U.cA 1 (by omega), U.cA 2 (by omega), U.cA 3 (by omega), U.cZ 0, U.cZ 1, U.cZ 2, U.cZ 3, U.cZ 4, U.cZ 5, U.frozen, e2, e5, e3, e6⟩
theorem Sees.goPc (S : Sees w F L m ov gr cr gc cc) {p : Int} (hp : Wd p) : ∃ F1, Sees (w.setCell ⟨L.h, 24, none⟩ (i64 p)) F1 L (m.go p) ov gr cr gc cc ∧ (∀ i, F1 i → F i ∨ w.heap.size ≤ i) ∧ But F w (w.setCell ⟨L.h, 24, none⟩ (i64 p)) := by
  obtain ⟨F1, p1, n1, b1⟩ := Group.turn S.grp (n := 0) (P' := Ua L.h (AL L) (ZL (.slice (some ⟨gr, 0, none⟩) 16 cr) (.slice (some ⟨gc, 0, none⟩) 11 cc) ov (m.go p)) m.rx m.tx) rfl fun _ h => Ua.setZ h 1 (by show 1 < 6; omega) (i64 p)
  exact ⟨F1, sees_of (S.fine.go hp) p1, n1, b1⟩
theorem set_go (m : Ma) (a v p : Int) : (m.go p).set a v = (m.set a v).go p := by unfold Ma.set Ma.go; split <;> rfl
theorem Step.after' {F F1 : Nat → Prop} {Q : Thing} {w w0 w1 w2 : World} (x : Below w.heap.size w w0) (n1 : ∀ i, F1 i → F i ∨ w0.heap.size ≤ i) (b1 : But F w0 w1) (h : Step F1 Q w1 w2) : Step F Q w w2 := Step.after x (h.join n1 b1)
set_option maxHeartbeats 2000000 in
theorem bm_do_68 (S : Sees w F L m ov gr cr gc cc) {op : Int} {a b c : Nat} (ha : a ≤ 15) (hb : b ≤ 15) (hop : op = 68) {k : Nat} (hk : k ≤ 10) :
    Calls Tryz.prog 57 #[.pointer (some ⟨L.h, 0, none⟩), .agg #[i64 op, i64 (a : Int), i64 (b : Int), i64 (c : Int), i64 (k : Int)]] w fun e w' => e = .returned (.tuple #[]) ∧ Step F (Bm L ((m.set a (m.c k)).go (wd (m.pc + 4)))) w w' := by
  subst hop
  have k23 : ∀ u, Below w.heap.size w u → u.cell? ⟨L.h, 23, none⟩ = some (.slice (some ⟨gr, 0, none⟩) 16 cr) := fun u b => (S.later b).c23
  have k24 : ∀ u, Below w.heap.size w u → u.cell? ⟨L.h, 24, none⟩ = some (i64 m.pc) := fun u b => (S.later b).c24
  have k25 : ∀ u, Below w.heap.size w u → u.cell? ⟨L.h, 25, none⟩ = some (.slice (some ⟨gc, 0, none⟩) 11 cc) := fun u b => (S.later b).c25
  have ka : ∀ u, Below w.heap.size w u → u.cell? ⟨gr, a, none⟩ = some (i64 (m.r a)) := fun u x => (S.later x).rr a (by omega)
  have kb : ∀ u, Below w.heap.size w u → u.cell? ⟨gr, b, none⟩ = some (i64 (m.r b)) := fun u x => (S.later x).rr b (by omega)
  have hnx : Says 40 #[i64 m.pc, i64 4] (i64 (wd (m.pc + 4))) := add_says _ _
  have ha1 : (a : Int) < 16 := by omega
  have hb1 : (b : Int) < 16 := by omega
  have kf : ∀ u, Below w.heap.size w u → ∀ k, u.frozen? ⟨L.h, k, none⟩ = false := fun u x => (S.later x).fz
  have hk1 : (k : Int) < 11 := by omega
  go_enter Tryz.func57, Tryz.ntmps57
  go_upto_region 1 with fail
  obtain ⟨w0, hw0⟩ : ∃ w0, w0 = w.alloc (.cells #[i64 68, i64 (a : Int), i64 (b : Int), i64 (c : Int), i64 (k : Int)] 47) := ⟨_, rfl⟩
  have x0 : Below w.heap.size w w0 := by rw [hw0]; exact (Below.refl _ w).alloc (Nat.le_refl _) _
  have y0 : InsAt w0 w.heap.size 68 a b c k := by rw [hw0]; exact heap_alloc_new _ _
  rw [← hw0]
  clear hw0
  obtain ⟨i0, i1, i2, i3, i4⟩ := y0.cells
  have n23 := k23 _ x0
  have n24 := k24 _ x0
  have n25 := k25 _ x0
  have na := ka _ x0
  have nb := kb _ x0
  have nf := kf _ x0
  obtain ⟨F1, S1, n1, b1⟩ := (S.later x0).goPc (p := wd (m.pc + 4)) (wdb _)
  have hne : ¬ L.h = w.heap.size := by have h : L.h < w.heap.size := World.block_lt_of_cell? w ⟨L.h, 0, none⟩ S.c0; omega
  have y1 : InsAt (w0.setCell ⟨L.h, 24, none⟩ (i64 (wd (m.pc + 4)))) w.heap.size 68 a b c k := (Below.heap_setCell _ _ _ _ (fun e => hne e.symm)).trans y0
  go_wp2_with (go_at_call 40; with_reducible refine (hnx _).mono ?_; rintro e w9 ⟨rfl, rfl⟩)
  obtain ⟨w1, hw1⟩ : ∃ w1, w1 = w0.setCell ⟨L.h, 24, none⟩ (i64 (wd (m.pc + 4))) := ⟨_, rfl⟩
  rw [← hw1] at S1 b1 y1
  change Code.wp _ _ _ _ (w0.setCell ⟨L.h, 24, none⟩ (i64 (wd (m.pc + 4))))
  rw [← hw1]
  clear hw1
  obtain ⟨j0, j1, j2, j3, j4⟩ := y1.cells
  have g23 := S1.c23
  have g25 := S1.c25
  have ga := S1.rr a (by omega)
  have gk := S1.cs k (by omega)
  have gf := S1.fc k
  have hset : Calls Tryz.prog 80 #[.pointer (some ⟨L.h, 0, none⟩), i64 (a : Int), i64 ((m.go (wd (m.pc + 4))).C.getD k 0)] w1.drew fun e w' => e = .returned (.tuple #[]) ∧ Step F (Bm L ((m.set a (m.c k)).go (wd (m.pc + 4)))) w w' :=
    (bm_set (S1.later (Below.refl _ w1).drew) (by omega) (by omega) (S.fine.cb k)).mono fun e w' h => ⟨h.1, by rw [← set_go]; exact Step.after' x0 n1 b1 (Step.after (Below.refl _ w1).drew h.2)⟩
  clear S S1 n1 b1 y0 y1
  go_still_tail 11, (by kernel_rfl)
  change wpList _ _ _ _ _ w1.drew
  go_wp2_with (go_at_call 80; refine hset.mono ?_; rintro e w5 ⟨rfl, s5⟩)
  go_end0
  exact ⟨rfl, s5⟩
set_option maxHeartbeats 2000000 in
theorem bm_do_69 (S : Sees w F L m ov gr cr gc cc) {op : Int} {a b c : Nat} (ha : a ≤ 15) (hb : b ≤ 15) (hop : op = 69) {k : Nat} (hk : k ≤ 10) :
    Calls Tryz.prog 57 #[.pointer (some ⟨L.h, 0, none⟩), .agg #[i64 op, i64 (a : Int), i64 (b : Int), i64 (c : Int), i64 (k : Int)]] w fun e w' => e = .returned (.tuple #[]) ∧ Step F (Bm L ((m.setC k (wr (mk k) (m.c k) (m.r a))).go (wd (m.pc + 4)))) w w' := by
  subst hop
  have k23 : ∀ u, Below w.heap.size w u → u.cell? ⟨L.h, 23, none⟩ = some (.slice (some ⟨gr, 0, none⟩) 16 cr) := fun u b => (S.later b).c23
  have k24 : ∀ u, Below w.heap.size w u → u.cell? ⟨L.h, 24, none⟩ = some (i64 m.pc) := fun u b => (S.later b).c24
  have k25 : ∀ u, Below w.heap.size w u → u.cell? ⟨L.h, 25, none⟩ = some (.slice (some ⟨gc, 0, none⟩) 11 cc) := fun u b => (S.later b).c25
  have ka : ∀ u, Below w.heap.size w u → u.cell? ⟨gr, a, none⟩ = some (i64 (m.r a)) := fun u x => (S.later x).rr a (by omega)
  have kb : ∀ u, Below w.heap.size w u → u.cell? ⟨gr, b, none⟩ = some (i64 (m.r b)) := fun u x => (S.later x).rr b (by omega)
  have hnx : Says 40 #[i64 m.pc, i64 4] (i64 (wd (m.pc + 4))) := add_says _ _
  have ha1 : (a : Int) < 16 := by omega
  have hb1 : (b : Int) < 16 := by omega
  have kf : ∀ u, Below w.heap.size w u → ∀ k, u.frozen? ⟨L.h, k, none⟩ = false := fun u x => (S.later x).fz
  have hk1 : (k : Int) < 11 := by omega
  go_enter Tryz.func57, Tryz.ntmps57
  go_upto_region 1 with fail
  obtain ⟨w0, hw0⟩ : ∃ w0, w0 = w.alloc (.cells #[i64 69, i64 (a : Int), i64 (b : Int), i64 (c : Int), i64 (k : Int)] 47) := ⟨_, rfl⟩
  have x0 : Below w.heap.size w w0 := by rw [hw0]; exact (Below.refl _ w).alloc (Nat.le_refl _) _
  have y0 : InsAt w0 w.heap.size 69 a b c k := by rw [hw0]; exact heap_alloc_new _ _
  rw [← hw0]
  clear hw0
  obtain ⟨i0, i1, i2, i3, i4⟩ := y0.cells
  have n23 := k23 _ x0
  have n24 := k24 _ x0
  have n25 := k25 _ x0
  have na := ka _ x0
  have nb := kb _ x0
  have nf := kf _ x0
  obtain ⟨F1, S1, n1, b1⟩ := (S.later x0).goPc (p := wd (m.pc + 4)) (wdb _)
  have hne : ¬ L.h = w.heap.size := by have h : L.h < w.heap.size := World.block_lt_of_cell? w ⟨L.h, 0, none⟩ S.c0; omega
  have y1 : InsAt (w0.setCell ⟨L.h, 24, none⟩ (i64 (wd (m.pc + 4)))) w.heap.size 69 a b c k := (Below.heap_setCell _ _ _ _ (fun e => hne e.symm)).trans y0
  go_wp2_with (go_at_call 40; with_reducible refine (hnx _).mono ?_; rintro e w9 ⟨rfl, rfl⟩)
  obtain ⟨w1, hw1⟩ : ∃ w1, w1 = w0.setCell ⟨L.h, 24, none⟩ (i64 (wd (m.pc + 4))) := ⟨_, rfl⟩
  rw [← hw1] at S1 b1 y1
  change Code.wp _ _ _ _ (w0.setCell ⟨L.h, 24, none⟩ (i64 (wd (m.pc + 4))))
  rw [← hw1]
  clear hw1
  obtain ⟨j0, j1, j2, j3, j4⟩ := y1.cells
  have g23 := S1.c23
  have g25 := S1.c25
  have ga := S1.rr a (by omega)
  have gk := S1.cs k (by omega)
  have gf := S1.fc k
  have hwr := Go.Proofs.YtfcmodllbhpniaaGreatDoor.write_says (k : Int) ((m.go (wd (m.pc + 4))).C.getD k 0) ((m.go (wd (m.pc + 4))).R.getD a 0)
  have hS := Lib.hid (fun (_ : Unit) => Step.after' x0 n1 b1 (Step.after (Below.refl _ w1).drew ((S1.later (Below.refl _ w1).drew).csr' (j := k) (by omega) (v := wr (mk k) (m.c k) (m.r a)) ⟨wr_lo _ _ _, wr_hi _ _ _⟩)))
  clear S S1 n1 b1 y0 y1
  go_still_tail 26, (by kernel_rfl)
  still_call ((hwr w1.drew).mono (fun _ _ h => ⟨h.1, h.2.symm⟩))
  repeat still_step
  refine wpStill_nil ?_
  change wpList _ _ _ _ _ w1.drew
  go_wp2
  go_end0
  exact ⟨rfl, hS.out ()⟩
end
end Go.Proofs.YtfcmodllbhpniaaGreatDoor.Ser
set_option maxRecDepth 100000
set_option maxRecDepth 100000
set_option linter.unusedVariables false
namespace Go.Proofs.YtfcmodllbhpniaaGreatDoor.Ser
open Go.Proofs.YtfcmodllbhpniaaGreatDoor
open Go.ChangeShapes Go.WideShapes Go.ChangeAt Go.RowKit
section
variable {w : World} {F : Nat → Prop} {L : Lay} {m : Ma} {ov : Value} {gr cr gc cc : Nat}
/-- What compute does. -/
def compD (m : Ma) (op a b c' imm n : Int) : Did Ma :=
  if acK op ≠ 0 then (match m.acc op a b imm with | .no x y => .no x y | .yes m' => .yes (m'.go n))
  else if takK op = true then .yes (m.go (if takV op (m.r a) (m.r b) = true then wd (m.pc + 4 * imm) else n))
  else .yes ((m.set a (aluV op (m.r b) (m.r c' + imm))).go n)
theorem bm_compute (S : Sees w F L m ov gr cr gc cc) {op : Int} {a b c : Nat} {imm n : Int} (ha : a ≤ 15) (hb : b ≤ 15) (hc : c ≤ 15) (him : -2147483648 ≤ imm ∧ imm ≤ 2147483647) (ho : 0 ≤ op ∧ op ≤ 255) (hn : Wd n) (hk' : op ≠ 37 ∧ op ≠ 38 ∧ op ≠ 39) (hx : m.tx.length < 100000) :
    Calls Tryz.prog 84 #[.pointer (some ⟨L.h, 0, none⟩), .agg #[i64 op, i64 (a : Int), i64 (b : Int), i64 (c : Int), i64 imm], i64 n] w fun e w' => e = didE (compD m op a b c imm n) ∧ Step F (Bm L (didM m (compD m op a b c imm n))) w w' := by
  unfold compD
  by_cases hk : acK op ≠ 0
  · rw [if_pos hk]
    cases hd : m.acc op a b imm with
    | no x y => exact bm_compute_trap S ha hb hc him ho hn hk hk' hx hd
    | yes m' => exact bm_compute_mem S ha hb hc him ho hn hk hk' hx hd
  · rw [if_neg hk]
    replace hk : acK op = 0 := Decidable.not_not.1 hk
    cases ht : takK op with
    | true =>
      rw [if_pos rfl]
      cases hv : takV op (m.r a) (m.r b) with
      | true => exact bm_compute_taken S ha hb hc him ho hn hk ht hv
      | false => exact bm_compute_not S ha hb hc him ho hn hk ht hv
    | false => rw [if_neg (by decide)]; exact bm_compute_alu S ha hb hc him ho hn hk ht
set_option maxHeartbeats 2000000 in
theorem bm_do_rest (S : Sees w F L m ov gr cr gc cc) {op : Int} {a b c : Nat} {imm : Int} (ha : a ≤ 15) (hb : b ≤ 15) (him : -2147483648 ≤ imm ∧ imm ≤ 2147483647) (hc : c ≤ 15) (ho : 0 ≤ op ∧ op ≤ 255) (hk' : op ≠ 37 ∧ op ≠ 38 ∧ op ≠ 39) (hx : m.tx.length < 100000) (hE : op ≠ 56 ∧ op ≠ 57 ∧ op ≠ 64 ∧ op ≠ 65 ∧ op ≠ 66 ∧ op ≠ 68 ∧ op ≠ 69 ∧ op ≠ 70) {m' : Ma} (hd : compD m op a b c imm (wd (m.pc + 4)) = .yes m') :
    Calls Tryz.prog 57 #[.pointer (some ⟨L.h, 0, none⟩), .agg #[i64 op, i64 (a : Int), i64 (b : Int), i64 (c : Int), i64 imm]] w fun e w' => e = .returned (.tuple #[]) ∧ Step F (Bm L m') w w' := by
  have k23 : ∀ u, Below w.heap.size w u → u.cell? ⟨L.h, 23, none⟩ = some (.slice (some ⟨gr, 0, none⟩) 16 cr) := fun u b => (S.later b).c23
  have k24 : ∀ u, Below w.heap.size w u → u.cell? ⟨L.h, 24, none⟩ = some (i64 m.pc) := fun u b => (S.later b).c24
  have k25 : ∀ u, Below w.heap.size w u → u.cell? ⟨L.h, 25, none⟩ = some (.slice (some ⟨gc, 0, none⟩) 11 cc) := fun u b => (S.later b).c25
  have ka : ∀ u, Below w.heap.size w u → u.cell? ⟨gr, a, none⟩ = some (i64 (m.r a)) := fun u x => (S.later x).rr a (by omega)
  have kb : ∀ u, Below w.heap.size w u → u.cell? ⟨gr, b, none⟩ = some (i64 (m.r b)) := fun u x => (S.later x).rr b (by omega)
  have hnx : Says 40 #[i64 m.pc, i64 4] (i64 (wd (m.pc + 4))) := add_says _ _
  have ha1 : (a : Int) < 16 := by omega
  have hb1 : (b : Int) < 16 := by omega
  have kf : ∀ u, Below w.heap.size w u → ∀ k, u.frozen? ⟨L.h, k, none⟩ = false := fun u x => (S.later x).fz
  have hcm : ∀ u, Below w.heap.size w u → Calls Tryz.prog 84 #[.pointer (some ⟨L.h, 0, none⟩), .agg #[i64 op, i64 (a : Int), i64 (b : Int), i64 (c : Int), i64 imm], i64 (wd (m.pc + 4))] u fun e w' => e = didE (compD m op a b c imm (wd (m.pc + 4))) ∧ Step F (Bm L (didM m (compD m op a b c imm (wd (m.pc + 4))))) w w' := fun u x =>
    (bm_compute (S.later x) ha hb hc him ho (wdb _) hk' hx).mono fun e w' h => ⟨h.1, Step.after x h.2⟩
  rw [hd] at hcm
  dsimp only [didE, didM] at hcm
  obtain ⟨h1, h2, h3, h4, h5, h6, h7, h8⟩ := hE
  have e1 : (op == 56) = false := by simpa using h1
  have e2 : (op == 57) = false := by simpa using h2
  have e3 : (op == 64) = false := by simpa using h3
  have e4 : (op == 65) = false := by simpa using h4
  have e5 : (op == 66) = false := by simpa using h5
  have e6 : (op == 68) = false := by simpa using h6
  have e7 : (op == 69) = false := by simpa using h7
  have e8 : (op == 70) = false := by simpa using h8
  clear S hd h1 h2 h3 h4 h5 h6 h7 h8 hk'
  go_enter Tryz.func57, Tryz.ntmps57
  go_upto_region 1 with fail
  obtain ⟨w0, hw0⟩ : ∃ w0, w0 = w.alloc (.cells #[i64 op, i64 (a : Int), i64 (b : Int), i64 (c : Int), i64 imm] 47) := ⟨_, rfl⟩
  have x0 : Below w.heap.size w w0 := by rw [hw0]; exact (Below.refl _ w).alloc (Nat.le_refl _) _
  have y0 : InsAt w0 w.heap.size op a b c imm := by rw [hw0]; exact heap_alloc_new _ _
  rw [← hw0]
  clear hw0
  obtain ⟨i0, i1, i2, i3, i4⟩ := y0.cells
  have n23 := k23 _ x0
  have n24 := k24 _ x0
  have n25 := k25 _ x0
  have na := ka _ x0
  have nb := kb _ x0
  have nf := kf _ x0
  go_wp2_with (first
    | (go_at_call 40; with_reducible refine (hnx _).mono ?_; rintro e w9 ⟨rfl, rfl⟩)
    | (go_at_call 84; refine (hcm _ x0).mono ?_; rintro e w5 ⟨rfl, s5⟩))
  go_end0
  exact ⟨rfl, s5⟩
set_option maxHeartbeats 2000000 in
theorem bm_do_restno (S : Sees w F L m ov gr cr gc cc) {op : Int} {a b c : Nat} {imm : Int} (ha : a ≤ 15) (hb : b ≤ 15) (him : -2147483648 ≤ imm ∧ imm ≤ 2147483647) (hc : c ≤ 15) (ho : 0 ≤ op ∧ op ≤ 255) (hk' : op ≠ 37 ∧ op ≠ 38 ∧ op ≠ 39) (hx : m.tx.length < 100000) (hE : op ≠ 56 ∧ op ≠ 57 ∧ op ≠ 64 ∧ op ≠ 65 ∧ op ≠ 66 ∧ op ≠ 68 ∧ op ≠ 69 ∧ op ≠ 70) {x y : Int} (hd : compD m op a b c imm (wd (m.pc + 4)) = .no x y) :
    Calls Tryz.prog 57 #[.pointer (some ⟨L.h, 0, none⟩), .agg #[i64 op, i64 (a : Int), i64 (b : Int), i64 (c : Int), i64 imm]] w fun e w' => e = trapE x y ∧ Step F (Bm L m) w w' := by
  have k23 : ∀ u, Below w.heap.size w u → u.cell? ⟨L.h, 23, none⟩ = some (.slice (some ⟨gr, 0, none⟩) 16 cr) := fun u b => (S.later b).c23
  have k24 : ∀ u, Below w.heap.size w u → u.cell? ⟨L.h, 24, none⟩ = some (i64 m.pc) := fun u b => (S.later b).c24
  have k25 : ∀ u, Below w.heap.size w u → u.cell? ⟨L.h, 25, none⟩ = some (.slice (some ⟨gc, 0, none⟩) 11 cc) := fun u b => (S.later b).c25
  have ka : ∀ u, Below w.heap.size w u → u.cell? ⟨gr, a, none⟩ = some (i64 (m.r a)) := fun u x => (S.later x).rr a (by omega)
  have kb : ∀ u, Below w.heap.size w u → u.cell? ⟨gr, b, none⟩ = some (i64 (m.r b)) := fun u x => (S.later x).rr b (by omega)
  have hnx : Says 40 #[i64 m.pc, i64 4] (i64 (wd (m.pc + 4))) := add_says _ _
  have ha1 : (a : Int) < 16 := by omega
  have hb1 : (b : Int) < 16 := by omega
  have kf : ∀ u, Below w.heap.size w u → ∀ k, u.frozen? ⟨L.h, k, none⟩ = false := fun u x => (S.later x).fz
  have hcm : ∀ u, Below w.heap.size w u → Calls Tryz.prog 84 #[.pointer (some ⟨L.h, 0, none⟩), .agg #[i64 op, i64 (a : Int), i64 (b : Int), i64 (c : Int), i64 imm], i64 (wd (m.pc + 4))] u fun e w' => e = didE (compD m op a b c imm (wd (m.pc + 4))) ∧ Step F (Bm L (didM m (compD m op a b c imm (wd (m.pc + 4))))) w w' := fun u x =>
    (bm_compute (S.later x) ha hb hc him ho (wdb _) hk' hx).mono fun e w' h => ⟨h.1, Step.after x h.2⟩
  rw [hd] at hcm
  dsimp only [didE, didM] at hcm
  obtain ⟨h1, h2, h3, h4, h5, h6, h7, h8⟩ := hE
  have e1 : (op == 56) = false := by simpa using h1
  have e2 : (op == 57) = false := by simpa using h2
  have e3 : (op == 64) = false := by simpa using h3
  have e4 : (op == 65) = false := by simpa using h4
  have e5 : (op == 66) = false := by simpa using h5
  have e6 : (op == 68) = false := by simpa using h6
  have e7 : (op == 69) = false := by simpa using h7
  have e8 : (op == 70) = false := by simpa using h8
  clear S hd h1 h2 h3 h4 h5 h6 h7 h8 hk'
  go_enter Tryz.func57, Tryz.ntmps57
  go_upto_region 1 with fail
  obtain ⟨w0, hw0⟩ : ∃ w0, w0 = w.alloc (.cells #[i64 op, i64 (a : Int), i64 (b : Int), i64 (c : Int), i64 imm] 47) := ⟨_, rfl⟩
  have x0 : Below w.heap.size w w0 := by rw [hw0]; exact (Below.refl _ w).alloc (Nat.le_refl _) _
  have y0 : InsAt w0 w.heap.size op a b c imm := by rw [hw0]; exact heap_alloc_new _ _
  rw [← hw0]
  clear hw0
  obtain ⟨i0, i1, i2, i3, i4⟩ := y0.cells
  have n23 := k23 _ x0
  have n24 := k24 _ x0
  have n25 := k25 _ x0
  have na := ka _ x0
  have nb := kb _ x0
  have nf := kf _ x0
  go_wp2_with (first
    | (go_at_call 40; with_reducible refine (hnx _).mono ?_; rintro e w9 ⟨rfl, rfl⟩)
    | (go_at_call 84; refine (hcm _ x0).mono ?_; rintro e w5 ⟨rfl, s5⟩))
  exact ⟨rfl, rfl, s5⟩
end
end Go.Proofs.YtfcmodllbhpniaaGreatDoor.Ser
