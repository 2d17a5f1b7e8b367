/-
  Package bare: call (laid by mkbare.py).
-/
import Derived.Test.YtfcmodllbhpniaaGreatDoorJnBareS
import Derived.WalkLawsBesides
set_option linter.unusedVariables false
set_option maxRecDepth 100000
namespace Go.Proofs.YtfcmodllbhpniaaGreatDoor.Ser
open Go.Proofs.YtfcmodllbhpniaaGreatDoor
open Go.ChangeShapes Go.WideShapes Go.ChangeAt Go.RowKit
section
variable {w : World} {F : Nat → Prop} {L : Lay} {m : Ma} {ov : Value} {gr cr gc cc : Nat}
theorem Sees.nr (S : Sees w F L m ov gr cr gc cc) : ¬ L.h = gr ∧ ¬ L.h = gc ∧ ¬ gr = gc ∧ ¬ gr = L.h ∧ ¬ gc = L.h ∧ ¬ gc = gr := by
  obtain ⟨Fs, hG⟩ := S.grp
  obtain ⟨ring, f, v, U, e0⟩ := hG.p 0 _ rfl
  obtain ⟨-, e2⟩ := hG.p 2 _ rfl
  obtain ⟨-, e3⟩ := hG.p 3 _ rfl
  have f0 : Fs 0 L.h := by rw [e0]; exact .inl rfl
  have f2 : Fs 2 gr := by rw [e2]; rfl
  have f3 : Fs 3 gc := by rw [e3]; rfl
  refine ⟨fun e => ?_, fun e => ?_, fun e => ?_, fun e => ?_, fun e => ?_, fun e => ?_⟩
  · have := hG.d 0 2 L.h (show 0 < 6 by decide) (show 2 < 6 by decide) f0 (e ▸ f2); omega
  · have := hG.d 0 3 L.h (show 0 < 6 by decide) (show 3 < 6 by decide) f0 (e ▸ f3); omega
  · have := hG.d 2 3 gr (show 2 < 6 by decide) (show 3 < 6 by decide) f2 (e ▸ f3); omega
  · have := hG.d 0 2 L.h (show 0 < 6 by decide) (show 2 < 6 by decide) f0 (e ▸ f2); omega
  · have := hG.d 0 3 L.h (show 0 < 6 by decide) (show 3 < 6 by decide) f0 (e ▸ f3); omega
  · have := hG.d 2 3 gr (show 2 < 6 by decide) (show 3 < 6 by decide) f2 (e ▸ f3); omega
def callE (m : Ma) : Ending := if m.us = true then trapE 8 0 else .returned (.tuple #[])
def callM (m : Ma) (n : Int) : Ma := if m.us = true then m else if m.r 1 = 0 then { m with halt := true } else (m.set 1 4294967295).go n
set_option maxHeartbeats 2000000 in
theorem bm_call_user (S : Sees w F L m ov gr cr gc cc) {n : Int} (_ : Wd n) (h : m.us = true) : Calls Tryz.prog 81 #[.pointer (some ⟨L.h, 0, none⟩), i64 n] w fun e w' => e = trapE 8 0 ∧ Step F (Bm L (m)) w w' := by
  have k23 : ∀ u, Below w.heap.size w u → u.cell? ⟨L.h, 23, none⟩ = some (.slice (some ⟨gr, 0, none⟩) 16 cr) := fun u b => (S.later b).c23
  have k26 : ∀ u, Below w.heap.size w u → u.cell? ⟨L.h, 26, none⟩ = some (.bool m.halt) := fun u b => (S.later b).c26
  have k24 : ∀ u, Below w.heap.size w u → u.cell? ⟨L.h, 24, none⟩ = some (i64 m.pc) := fun u b => (S.later b).c24
  have n23 := k23 _ (Below.refl _ _)
  have a23 := fun o => k23 _ (Below.alloc (Below.refl w.heap.size w) (Nat.le_refl _) o)
  have n26 := k26 _ (Below.refl _ _)
  have a26 := fun o => k26 _ (Below.alloc (Below.refl w.heap.size w) (Nat.le_refl _) o)
  have k1 : ∀ u, Below w.heap.size w u → u.cell? ⟨gr, 1, none⟩ = some (i64 (m.r 1)) := fun u b => (S.later b).reg (i := 1) (by omega) (by omega)
  have kf : ∀ u, Below w.heap.size w u → ∀ k, u.frozen? ⟨L.h, k, none⟩ = false := fun u b => (S.later b).fz
  have kg : ∀ u, Below w.heap.size w u → ∀ k, u.frozen? ⟨gr, k, none⟩ = false := fun u b => (S.later b).fr
  have hlr : gr < w.heap.size := World.block_lt_of_cell? w ⟨gr, 0, none⟩ (S.rr 0 (by omega))
  have hlh : L.h < w.heap.size := World.block_lt_of_cell? w ⟨L.h, 0, none⟩ S.c0
  have hu : ∀ u, Below w.heap.size w u → Calls Tryz.prog 76 #[.pointer (some ⟨L.h, 0, none⟩)] u fun e w' => e = .returned (.bool m.us) ∧ u = w' := fun u b => bm_user (S.later b)
  have hb1 : ∀ o, Below w.heap.size w (w.alloc o) := fun o => (Below.refl _ w).alloc (Nat.le_refl _) o
  have hb2 : ∀ o1 o2, Below w.heap.size w ((w.alloc o1).alloc o2) := fun o1 o2 => (hb1 o1).alloc (by simp) o2
  have e1 := fun o1 o2 => k1 _ (hb2 o1 o2)
  have e26 := fun o1 o2 => k26 _ (hb2 o1 o2)
  have f26 := fun o1 o2 => kf _ (hb2 o1 o2)
  have HS := Lib.hid (fun o => (Step.still (hb1 o) S.is : Step F (Bm L m) w (w.alloc o)))
  rw [h] at hu
  clear S
  go_enter Tryz.func81, Tryz.ntmps81
  go_wp2_with (go_at_call 76; refine (hu _ (hb1 _)).mono ?_; rintro e w5 ⟨rfl, rfl⟩)
  exact ⟨rfl, rfl, HS.out _⟩
set_option maxHeartbeats 2000000 in
theorem bm_call_halt (S : Sees w F L m ov gr cr gc cc) {n : Int} (_ : Wd n) (h : m.us = false) (h1 : m.r 1 = 0) : Calls Tryz.prog 81 #[.pointer (some ⟨L.h, 0, none⟩), i64 n] w fun e w' => e = .returned (.tuple #[]) ∧ Step F (Bm L ({ m with halt := true })) w w' := by
  have k23 : ∀ u, Below w.heap.size w u → u.cell? ⟨L.h, 23, none⟩ = some (.slice (some ⟨gr, 0, none⟩) 16 cr) := fun u b => (S.later b).c23
  have k26 : ∀ u, Below w.heap.size w u → u.cell? ⟨L.h, 26, none⟩ = some (.bool m.halt) := fun u b => (S.later b).c26
  have k24 : ∀ u, Below w.heap.size w u → u.cell? ⟨L.h, 24, none⟩ = some (i64 m.pc) := fun u b => (S.later b).c24
  have n23 := k23 _ (Below.refl _ _)
  have a23 := fun o => k23 _ (Below.alloc (Below.refl w.heap.size w) (Nat.le_refl _) o)
  have n26 := k26 _ (Below.refl _ _)
  have a26 := fun o => k26 _ (Below.alloc (Below.refl w.heap.size w) (Nat.le_refl _) o)
  have k1 : ∀ u, Below w.heap.size w u → u.cell? ⟨gr, 1, none⟩ = some (i64 (m.r 1)) := fun u b => (S.later b).reg (i := 1) (by omega) (by omega)
  have kf : ∀ u, Below w.heap.size w u → ∀ k, u.frozen? ⟨L.h, k, none⟩ = false := fun u b => (S.later b).fz
  have kg : ∀ u, Below w.heap.size w u → ∀ k, u.frozen? ⟨gr, k, none⟩ = false := fun u b => (S.later b).fr
  have hlr : gr < w.heap.size := World.block_lt_of_cell? w ⟨gr, 0, none⟩ (S.rr 0 (by omega))
  have hlh : L.h < w.heap.size := World.block_lt_of_cell? w ⟨L.h, 0, none⟩ S.c0
  have hu : ∀ u, Below w.heap.size w u → Calls Tryz.prog 76 #[.pointer (some ⟨L.h, 0, none⟩)] u fun e w' => e = .returned (.bool m.us) ∧ u = w' := fun u b => bm_user (S.later b)
  have hb1 : ∀ o, Below w.heap.size w (w.alloc o) := fun o => (Below.refl _ w).alloc (Nat.le_refl _) o
  have hb2 : ∀ o1 o2, Below w.heap.size w ((w.alloc o1).alloc o2) := fun o1 o2 => (hb1 o1).alloc (by simp) o2
  have e1 := fun o1 o2 => k1 _ (hb2 o1 o2)
  have e26 := fun o1 o2 => k26 _ (hb2 o1 o2)
  have f26 := fun o1 o2 => kf _ (hb2 o1 o2)
  have HS := Lib.hid (fun o1 o2 => (S.halt' true).later (show Below (w.setCell ⟨L.h, 26, none⟩ (.bool true)).heap.size (w.setCell ⟨L.h, 26, none⟩ (.bool true)) (((w.setCell ⟨L.h, 26, none⟩ (.bool true)).alloc o1).alloc o2) from (((Below.refl _ _).alloc (Nat.le_refl _) o1).alloc (by simp) o2)))
  rw [h] at hu
  rw [h1] at e1
  clear S
  go_enter Tryz.func81, Tryz.ntmps81
  go_wp2_with (go_at_call 76; refine (hu _ (hb1 _)).mono ?_; rintro e w5 ⟨rfl, rfl⟩)
  refine bodyPost_ret (results_none rfl _ _ _) rfl ?_
  exact ⟨rfl, HS.out _ _⟩
set_option maxHeartbeats 2000000 in
theorem bm_call_ask (S : Sees w F L m ov gr cr gc cc) {n : Int} (hn : Wd n) (h : m.us = false) (h1 : ¬ m.r 1 = 0) : Calls Tryz.prog 81 #[.pointer (some ⟨L.h, 0, none⟩), i64 n] w fun e w' => e = .returned (.tuple #[]) ∧ Step F (Bm L ((m.set 1 4294967295).go n)) w w' := by
  have k23 : ∀ u, Below w.heap.size w u → u.cell? ⟨L.h, 23, none⟩ = some (.slice (some ⟨gr, 0, none⟩) 16 cr) := fun u b => (S.later b).c23
  have k26 : ∀ u, Below w.heap.size w u → u.cell? ⟨L.h, 26, none⟩ = some (.bool m.halt) := fun u b => (S.later b).c26
  have k24 : ∀ u, Below w.heap.size w u → u.cell? ⟨L.h, 24, none⟩ = some (i64 m.pc) := fun u b => (S.later b).c24
  have n23 := k23 _ (Below.refl _ _)
  have a23 := fun o => k23 _ (Below.alloc (Below.refl w.heap.size w) (Nat.le_refl _) o)
  have n26 := k26 _ (Below.refl _ _)
  have a26 := fun o => k26 _ (Below.alloc (Below.refl w.heap.size w) (Nat.le_refl _) o)
  have k1 : ∀ u, Below w.heap.size w u → u.cell? ⟨gr, 1, none⟩ = some (i64 (m.r 1)) := fun u b => (S.later b).reg (i := 1) (by omega) (by omega)
  have kf : ∀ u, Below w.heap.size w u → ∀ k, u.frozen? ⟨L.h, k, none⟩ = false := fun u b => (S.later b).fz
  have kg : ∀ u, Below w.heap.size w u → ∀ k, u.frozen? ⟨gr, k, none⟩ = false := fun u b => (S.later b).fr
  have hlr : gr < w.heap.size := World.block_lt_of_cell? w ⟨gr, 0, none⟩ (S.rr 0 (by omega))
  have hlh : L.h < w.heap.size := World.block_lt_of_cell? w ⟨L.h, 0, none⟩ S.c0
  have hu : ∀ u, Below w.heap.size w u → Calls Tryz.prog 76 #[.pointer (some ⟨L.h, 0, none⟩)] u fun e w' => e = .returned (.bool m.us) ∧ u = w' := fun u b => bm_user (S.later b)
  have hb1 : ∀ o, Below w.heap.size w (w.alloc o) := fun o => (Below.refl _ w).alloc (Nat.le_refl _) o
  have hb2 : ∀ o1 o2, Below w.heap.size w ((w.alloc o1).alloc o2) := fun o1 o2 => (hb1 o1).alloc (by simp) o2
  have e1 := fun o1 o2 => k1 _ (hb2 o1 o2)
  have e26 := fun o1 o2 => k26 _ (hb2 o1 o2)
  have f26 := fun o1 o2 => kf _ (hb2 o1 o2)
  have hd : (m.r 1 == 0) = false := by simpa using h1
  have hmf : ∀ (fn : Fn) (first cap : Array Value) (w : World), (Instr.makeFunc fn first cap).run Tryz.prog w = .ok (.func fn first cap) w := fun _ _ _ _ => rfl
  have hof := of_says 4294967295
  rw [show wd 4294967295 = 4294967295 from by decide] at hof
  have hk : ∀ u, Below w.heap.size w u → ∀ q k, Calls Tryz.prog 53 #[.pointer (some ⟨L.h, 0, none⟩), q, i64 k] u fun e w' => e = .returned (i64 k) ∧ Below w.heap.size w w' ∧ Below u.heap.size u w' := fun u b q k =>
    (bm_ask (S.later b) q k).mono fun e w' h => ⟨h.1, b.trans (h.2.mono b.size), h.2⟩
  have hb3 : ∀ o1 o2, Below w.heap.size w ((w.alloc o1).alloc o2).drew := fun o1 o2 => (hb2 o1 o2).drew
  have HS := Lib.hid (fun w3 (b : Below w.heap.size w w3) => show Step F (Bm L ((m.set 1 4294967295).go n)) w ((w3.setCell ⟨gr, 1, none⟩ (i64 4294967295)).setCell ⟨L.h, 24, none⟩ (i64 n)) from
    (Step.after b ((S.later b).reg' (a := 1) (by omega) (by omega) (by omega) (by omega))).trans fun F1 p1 => (bm_sees p1).elim fun _ ⟨_, _, _, _, S1⟩ => S1.pc' hn)
  have hne : ∀ a b : Nat, (⟨gr, a, none⟩ : Addr) = ⟨w.heap.size, b, none⟩ → False := fun a b e => by injection e with e; omega
  rw [h] at hu
  obtain ⟨nr1, nr2, nr3, nr4, nr5, nr6⟩ := S.nr
  have hx2 : ∀ o2, ((w.alloc (.cells #[.pointer (some ⟨L.h, 0, none⟩)] 26)).alloc o2).drew.cell? ⟨w.heap.size, 0, none⟩ = some (.pointer (some ⟨L.h, 0, none⟩)) := fun o2 => by
    show ((w.alloc _).alloc o2).cell? _ = _
    rw [World.cell?_alloc_lt _ _ ⟨w.heap.size, 0, none⟩ (by simp), cell_of_row _ _ 0 _ _ _ (heap_alloc_new _ _)]; rfl
  have hx4 : ∀ o1, ((w.alloc o1).alloc (.cells #[.slice (some ⟨gr, 0, none⟩) 16 cr] 48)).drew.cell? ⟨w.heap.size + 1, 0, none⟩ = some (.slice (some ⟨gr, 0, none⟩) 16 cr) := fun o1 => by
    have e : w.heap.size + 1 = (w.alloc o1).heap.size := by simp
    show ((w.alloc o1).alloc _).cell? _ = _
    rw [e, cell_of_row _ _ 0 _ _ _ (heap_alloc_new _ _)]; rfl
  have hn1 : ¬ gr = w.heap.size := by omega
  have hn2 : ¬ gr = w.heap.size + 1 := by omega
  clear S
  generalize m.r 1 = r1 at *
  go_enter Tryz.func81, Tryz.ntmps81
  go_wp2_with (go_at_call 76; refine (hu _ (hb1 _)).mono ?_; rintro e w5 ⟨rfl, rfl⟩)
  go_region_with (first
    | (go_at_call 53; refine (hk _ (hb3 _ _) _ _).mono ?_; rintro e w3 ⟨rfl, hb4, hb5⟩; have x2 := cell_later hb5 (hx2 _); have x4 := cell_later hb5 (hx4 _); have y1 := k1 _ hb4; have y2 := kg _ hb4; have y3 := k24 _ hb4; have y4 := kf _ hb4)
    | (go_at_call 27; refine (hof _).mono ?_; rintro e w6 ⟨rfl, rfl⟩))
  all_goals
    go_wp2_with fail
    go_end0
    exact ⟨rfl, HS.out _ hb4⟩
theorem bm_call (S : Sees w F L m ov gr cr gc cc) {n : Int} (hn : Wd n) : Calls Tryz.prog 81 #[.pointer (some ⟨L.h, 0, none⟩), i64 n] w fun e w' => e = callE m ∧ Step F (Bm L (callM m n)) w w' := by
  unfold callE callM
  cases h : m.us with
  | true => exact bm_call_user S hn h
  | false =>
    rw [if_neg (by decide), if_neg (by decide)]
    by_cases h1 : m.r 1 = 0
    · rw [if_pos h1]; exact bm_call_halt S hn h h1
    · rw [if_neg h1]; exact bm_call_ask S hn h h1
end
end Go.Proofs.YtfcmodllbhpniaaGreatDoor.Ser
