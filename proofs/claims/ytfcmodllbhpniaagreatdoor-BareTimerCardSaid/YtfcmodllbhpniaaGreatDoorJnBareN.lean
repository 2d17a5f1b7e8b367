/-
  Package bare: next (laid by mkbare.py).
-/
import Derived.Test.YtfcmodllbhpniaaGreatDoorJnBareS
import Derived.Test.YtfcmodllbhpniaaGreatDoorJnIsaDec
import Derived.RegionDies
import Derived.WalkLawsBesides
set_option linter.unusedVariables false
set_option maxRecDepth 100000
namespace Go.Proofs.YtfcmodllbhpniaaGreatDoor.Ser
open Go.Proofs.YtfcmodllbhpniaaGreatDoor
open Go.ChangeShapes Go.WideShapes Go.ChangeAt Go.RowKit
section
variable {w : World} {F : Nat → Prop} {L : Lay} {m : Ma} {ov : Value} {gr cr gc cc : Nat}
def nextE (m : Ma) : Ending := match m.fetch with
  | .no x y => trapE x y
  | .yes v => .returned (insV (gO v) (gA v) (gB v) (gC v) (gM v))
/-- A box of five numbers, none laid yet. -/
def Box5 (u : World) (b : Nat) : Prop := u.heap[b]? = some (.cells #[i64 0, i64 0, i64 0, i64 0, i64 0] 47)
theorem Box5.kept {u u' : World} {b : Nat} (x : Box5 u b) (hb : Below u.heap.size u u') : Box5 u' b := (hb.block b (Array.getElem?_eq_some_iff.1 x).1).trans x
theorem Box5.cells {u : World} {b : Nat} (x : Box5 u b) : (∀ o, (u.alloc o).cell? ⟨b, 0, none⟩ = some (i64 0)) ∧ (∀ o, (u.alloc o).cell? ⟨b, 1, none⟩ = some (i64 0)) ∧ (∀ o, (u.alloc o).cell? ⟨b, 2, none⟩ = some (i64 0)) ∧ (∀ o, (u.alloc o).cell? ⟨b, 3, none⟩ = some (i64 0)) ∧ (∀ o, (u.alloc o).cell? ⟨b, 4, none⟩ = some (i64 0)) := by
  have hl := (Array.getElem?_eq_some_iff.1 x).1
  unfold Box5 at x
  exact ⟨fun o => by rw [World.cell?_alloc_lt _ _ ⟨b, 0, none⟩ hl, cell_of_row _ _ 0 _ _ _ x]; rfl, fun o => by rw [World.cell?_alloc_lt _ _ ⟨b, 1, none⟩ hl, cell_of_row _ _ 1 _ _ _ x]; rfl, fun o => by rw [World.cell?_alloc_lt _ _ ⟨b, 2, none⟩ hl, cell_of_row _ _ 2 _ _ _ x]; rfl,
    fun o => by rw [World.cell?_alloc_lt _ _ ⟨b, 3, none⟩ hl, cell_of_row _ _ 3 _ _ _ x]; rfl, fun o => by rw [World.cell?_alloc_lt _ _ ⟨b, 4, none⟩ hl, cell_of_row _ _ 4 _ _ _ x]; rfl⟩
/-- The box, all five laid. -/
abbrev put5 (u : World) (b : Nat) (v0 v1 v2 v3 v4 : Int) : World := ((((u.setCell ⟨b, 0, none⟩ (i64 v0)).setCell ⟨b, 1, none⟩ (i64 v1)).setCell ⟨b, 2, none⟩ (i64 v2)).setCell ⟨b, 3, none⟩ (i64 v3)).setCell ⟨b, 4, none⟩ (i64 v4)
theorem Box5.five {u : World} {b : Nat} (x : Box5 u b) (o : Obj) (v0 v1 v2 v3 v4 : Int) : (put5 (u.alloc o) b v0 v1 v2 v3 v4).cell? ⟨b, 0, none⟩ = some (i64 v0) ∧ (put5 (u.alloc o) b v0 v1 v2 v3 v4).cell? ⟨b, 1, none⟩ = some (i64 v1) ∧ (put5 (u.alloc o) b v0 v1 v2 v3 v4).cell? ⟨b, 2, none⟩ = some (i64 v2) ∧ (put5 (u.alloc o) b v0 v1 v2 v3 v4).cell? ⟨b, 3, none⟩ = some (i64 v3) ∧ (put5 (u.alloc o) b v0 v1 v2 v3 v4).cell? ⟨b, 4, none⟩ = some (i64 v4) := by
  have hl := (Array.getElem?_eq_some_iff.1 x).1
  have h : (u.alloc o).heap[b]? = some (.cells #[i64 0, i64 0, i64 0, i64 0, i64 0] 47 (0, 0)) := (Below.heap_alloc _ _ _ hl).trans x
  have h := setCell_row (setCell_row (setCell_row (setCell_row (setCell_row h 0 (i64 v0)) 1 (i64 v1)) 2 (i64 v2)) 3 (i64 v3)) 4 (i64 v4)
  exact ⟨by rw [cell_of_row _ _ 0 _ _ _ h]; rfl, by rw [cell_of_row _ _ 1 _ _ _ h]; rfl, by rw [cell_of_row _ _ 2 _ _ _ h]; rfl, by rw [cell_of_row _ _ 3 _ _ _ h]; rfl, by rw [cell_of_row _ _ 4 _ _ _ h]; rfl⟩
theorem Box5.free {u : World} {b : Nat} (x : Box5 u b) (o : Obj) (k : Nat) : (u.alloc o).frozen? ⟨b, k, none⟩ = false := by
  have hl := (Array.getElem?_eq_some_iff.1 x).1
  unfold Box5 at x
  unfold World.frozen?
  rw [Below.heap_alloc _ _ _ hl, x]
  simp
set_option maxHeartbeats 1000000 in
theorem bm_next_find (S : Sees w F L m ov gr cr gc cc) (h : (m.find m.pc 4 0).2 ≠ 0) :
    Calls Tryz.prog 58 #[.pointer (some ⟨L.h, 0, none⟩)] w fun e w' => e = trapE (m.find m.pc 4 0).2 m.pc ∧ Below w.heap.size w w' := by
  have k24 : ∀ u, Below w.heap.size w u → u.cell? ⟨L.h, 24, none⟩ = some (i64 m.pc) := fun u b => (S.later b).c24
  have k3 : ∀ u, Below w.heap.size w u → u.cell? ⟨L.h, 3, none⟩ = some (.pointer (some ⟨L.hm, 0, none⟩)) := fun u b => (S.later b).c3
  have n24 := k24 _ (Below.refl _ _)
  have a24 := fun o => k24 _ (Below.alloc (Below.refl w.heap.size w) (Nat.le_refl _) o)
  have hu : ∀ u, Below w.heap.size w u → Calls Tryz.prog 76 #[.pointer (some ⟨L.h, 0, none⟩)] u fun e w' => e = .returned (.bool m.us) ∧ u = w' := fun u b => bm_user (S.later b)
  have hf : ∀ u, Below w.heap.size w u → Calls Tryz.prog 86 #[.pointer (some ⟨L.h, 0, none⟩), i64 (m.pc), i64 4, i64 0] u fun e w' => e = findE m (m.pc) 4 0 ∧ Below w.heap.size w w' := fun u b =>
    (bm_find (S.later b) (S.fine.pc) (.inr (.inr rfl))).mono fun e w' h => ⟨h.1, b.trans (h.2.mono b.size)⟩
  have hl : ∀ u, Below w.heap.size w u → Calls Tryz.prog 85 #[.pointer (some ⟨L.hm, 0, none⟩), i64 ((m.find m.pc 4 0).1), i64 4] u fun e w' => e = .returned (.tuple #[i64 (ldv m.M ((m.find m.pc 4 0).1) 4), .bool (decide (okc m.M.length ((m.find m.pc 4 0).1) 4))]) ∧ u = w' := fun u b => Go.Proofs.YtfcmodllbhpniaaGreatDoor.load_says (S.later b).mem _ _ (by have := (find_w S.fine m.pc 4 0).1; omega)
  have hd1 : ∀ o, Below w.heap.size w (w.alloc o).drew := fun o => ((Below.refl _ w).alloc (Nat.le_refl _) o).drew
  have hd0 : Below w.heap.size w w.drew := (Below.refl _ _).drew
  have hb0 : Below w.heap.size w w := Below.refl _ _
  have hE : findE m m.pc 4 0 = trapE (m.find m.pc 4 0).2 m.pc := by unfold findE; rw [if_neg h]
  rw [hE] at hf
  clear S hE hl hu h
  generalize (m.find m.pc 4 0).2 = c at *
  generalize m.pc = pc at *
  have d3 := fun o => k3 _ (hd1 o)
  have d24 := fun o => k24 _ (hd1 o)
  go_enter Tryz.func58, Tryz.ntmps58
  go_wp2
  go_region_dies
  all_goals
    go_at_call 86
    refine (hf _ (hd1 _)).mono ?_
    rintro e w1 ⟨rfl, hb1⟩
    exact ⟨rfl, rfl, hb1⟩
set_option maxHeartbeats 1000000 in
theorem bm_next_bus (S : Sees w F L m ov gr cr gc cc) (h : (m.find m.pc 4 0).2 = 0) (h2 : ¬ okc m.M.length (m.find m.pc 4 0).1 4) :
    Calls Tryz.prog 58 #[.pointer (some ⟨L.h, 0, none⟩)] w fun e w' => e = trapE 4 m.pc ∧ Below w.heap.size w w' := by
  have k24 : ∀ u, Below w.heap.size w u → u.cell? ⟨L.h, 24, none⟩ = some (i64 m.pc) := fun u b => (S.later b).c24
  have k3 : ∀ u, Below w.heap.size w u → u.cell? ⟨L.h, 3, none⟩ = some (.pointer (some ⟨L.hm, 0, none⟩)) := fun u b => (S.later b).c3
  have n24 := k24 _ (Below.refl _ _)
  have a24 := fun o => k24 _ (Below.alloc (Below.refl w.heap.size w) (Nat.le_refl _) o)
  have hu : ∀ u, Below w.heap.size w u → Calls Tryz.prog 76 #[.pointer (some ⟨L.h, 0, none⟩)] u fun e w' => e = .returned (.bool m.us) ∧ u = w' := fun u b => bm_user (S.later b)
  have hf : ∀ u, Below w.heap.size w u → Calls Tryz.prog 86 #[.pointer (some ⟨L.h, 0, none⟩), i64 (m.pc), i64 4, i64 0] u fun e w' => e = findE m (m.pc) 4 0 ∧ Below w.heap.size w w' := fun u b =>
    (bm_find (S.later b) (S.fine.pc) (.inr (.inr rfl))).mono fun e w' h => ⟨h.1, b.trans (h.2.mono b.size)⟩
  have hl : ∀ u, Below w.heap.size w u → Calls Tryz.prog 85 #[.pointer (some ⟨L.hm, 0, none⟩), i64 ((m.find m.pc 4 0).1), i64 4] u fun e w' => e = .returned (.tuple #[i64 (ldv m.M ((m.find m.pc 4 0).1) 4), .bool (decide (okc m.M.length ((m.find m.pc 4 0).1) 4))]) ∧ u = w' := fun u b => Go.Proofs.YtfcmodllbhpniaaGreatDoor.load_says (S.later b).mem _ _ (by have := (find_w S.fine m.pc 4 0).1; omega)
  have hd1 : ∀ o, Below w.heap.size w (w.alloc o).drew := fun o => ((Below.refl _ w).alloc (Nat.le_refl _) o).drew
  have hd0 : Below w.heap.size w w.drew := (Below.refl _ _).drew
  have hb0 : Below w.heap.size w w := Below.refl _ _
  have hE : findE m m.pc 4 0 = .returned (i64 (m.find m.pc 4 0).1) := by unfold findE; rw [if_pos h]
  rw [hE] at hf
  have ho : decide (okc m.M.length (m.find m.pc 4 0).1 4) = false := decide_eq_false h2
  rw [ho] at hl
  clear S hE hu h h2 ho
  generalize ldv m.M (m.find m.pc 4 0).1 4 = v at *
  generalize (m.find m.pc 4 0).1 = a at *
  generalize m.pc = pc at *
  go_enter Tryz.func58, Tryz.ntmps58
  go_wp2
  go_region_held3 (fun u => Below w.heap.size w u) (first | with_reducible exact hd0 | with_reducible exact hd1 _ | with_reducible assumption) (first
    | (go_at_call 86; refine (hf _ (by assumption)).mono ?_; rintro e w1 ⟨rfl, hb1⟩)
    | (go_at_call 85; refine (hl _ (by assumption)).mono ?_; rintro e w2 ⟨rfl, rfl⟩))
  all_goals go_wp2_with fail
  all_goals exact ⟨rfl, rfl, hb1⟩
set_option maxHeartbeats 1000000 in
theorem bm_next_bad (S : Sees w F L m ov gr cr gc cc) (h : (m.find m.pc 4 0).2 = 0) (h2 : okc m.M.length (m.find m.pc 4 0).1 4) (h3 : ¬ decOk (ldv m.M (m.find m.pc 4 0).1 4)) :
    Calls Tryz.prog 58 #[.pointer (some ⟨L.h, 0, none⟩)] w fun e w' => e = trapE 1 (ldv m.M (m.find m.pc 4 0).1 4) ∧ Below w.heap.size w w' := by
  have k24 : ∀ u, Below w.heap.size w u → u.cell? ⟨L.h, 24, none⟩ = some (i64 m.pc) := fun u b => (S.later b).c24
  have k3 : ∀ u, Below w.heap.size w u → u.cell? ⟨L.h, 3, none⟩ = some (.pointer (some ⟨L.hm, 0, none⟩)) := fun u b => (S.later b).c3
  have n24 := k24 _ (Below.refl _ _)
  have a24 := fun o => k24 _ (Below.alloc (Below.refl w.heap.size w) (Nat.le_refl _) o)
  have hu : ∀ u, Below w.heap.size w u → Calls Tryz.prog 76 #[.pointer (some ⟨L.h, 0, none⟩)] u fun e w' => e = .returned (.bool m.us) ∧ u = w' := fun u b => bm_user (S.later b)
  have hf : ∀ u, Below w.heap.size w u → Calls Tryz.prog 86 #[.pointer (some ⟨L.h, 0, none⟩), i64 (m.pc), i64 4, i64 0] u fun e w' => e = findE m (m.pc) 4 0 ∧ Below w.heap.size w w' := fun u b =>
    (bm_find (S.later b) (S.fine.pc) (.inr (.inr rfl))).mono fun e w' h => ⟨h.1, b.trans (h.2.mono b.size)⟩
  have hl : ∀ u, Below w.heap.size w u → Calls Tryz.prog 85 #[.pointer (some ⟨L.hm, 0, none⟩), i64 ((m.find m.pc 4 0).1), i64 4] u fun e w' => e = .returned (.tuple #[i64 (ldv m.M ((m.find m.pc 4 0).1) 4), .bool (decide (okc m.M.length ((m.find m.pc 4 0).1) 4))]) ∧ u = w' := fun u b => Go.Proofs.YtfcmodllbhpniaaGreatDoor.load_says (S.later b).mem _ _ (by have := (find_w S.fine m.pc 4 0).1; omega)
  have hd1 : ∀ o, Below w.heap.size w (w.alloc o).drew := fun o => ((Below.refl _ w).alloc (Nat.le_refl _) o).drew
  have hd0 : Below w.heap.size w w.drew := (Below.refl _ _).drew
  have hb0 : Below w.heap.size w w := Below.refl _ _
  have hE : findE m m.pc 4 0 = .returned (i64 (m.find m.pc 4 0).1) := by unfold findE; rw [if_pos h]
  rw [hE] at hf
  have ho : decide (okc m.M.length (m.find m.pc 4 0).1 4) = true := decide_eq_true h2
  rw [ho] at hl
  have hv := ldv_w S.fine.by' (m.find m.pc 4 0).1 4
  have hw : wd (ldv m.M (m.find m.pc 4 0).1 4) = ldv m.M (m.find m.pc 4 0).1 4 := wd_eq _ hv.1 hv.2
  have hD : ∀ u, Below w.heap.size w u → Calls Tryz.prog 87 #[i64 (ldv m.M (m.find m.pc 4 0).1 4)] u fun e w' => e = .returned (decV (ldv m.M (m.find m.pc 4 0).1 4)) ∧ Below w.heap.size w w' := fun u b =>
    (decode_says (ldv m.M (m.find m.pc 4 0).1 4) u).mono fun e w' h => ⟨by rw [← hw]; exact h.1, b.trans (h.2.mono b.size)⟩
  rw [decV_no h3] at hD
  clear S hE hu h h2 ho hv hw h3
  generalize ldv m.M (m.find m.pc 4 0).1 4 = v at *
  generalize (m.find m.pc 4 0).1 = a at *
  generalize m.pc = pc at *
  go_enter Tryz.func58, Tryz.ntmps58
  go_wp2
  go_region_held3 (fun u => Below w.heap.size w u) (first | with_reducible exact hd0 | with_reducible exact hd1 _ | with_reducible assumption) (first
    | (go_at_call 86; refine (hf _ (by assumption)).mono ?_; rintro e w1 ⟨rfl, hb1⟩)
    | (go_at_call 85; refine (hl _ (by assumption)).mono ?_; rintro e w2 ⟨rfl, rfl⟩))
  all_goals go_wp2_with fail
  all_goals
    go_wp2_with (go_at_call 87; refine (hD _ (by assumption)).mono ?_; rintro e w3 ⟨rfl, hb3⟩)
    exact ⟨rfl, rfl, Below.alloc hb3 hb3.size _⟩
set_option maxHeartbeats 1000000 in
theorem bm_next_prv (S : Sees w F L m ov gr cr gc cc) (h : (m.find m.pc 4 0).2 = 0) (h2 : okc m.M.length (m.find m.pc 4 0).1 4) (h3 : decOk (ldv m.M (m.find m.pc 4 0).1 4)) (h4 : m.us = true) (h5 : prv (gO (ldv m.M (m.find m.pc 4 0).1 4)) = true) :
    Calls Tryz.prog 58 #[.pointer (some ⟨L.h, 0, none⟩)] w fun e w' => e = trapE 2 (ldv m.M (m.find m.pc 4 0).1 4) ∧ Below w.heap.size w w' := by
  have k24 : ∀ u, Below w.heap.size w u → u.cell? ⟨L.h, 24, none⟩ = some (i64 m.pc) := fun u b => (S.later b).c24
  have k3 : ∀ u, Below w.heap.size w u → u.cell? ⟨L.h, 3, none⟩ = some (.pointer (some ⟨L.hm, 0, none⟩)) := fun u b => (S.later b).c3
  have n24 := k24 _ (Below.refl _ _)
  have a24 := fun o => k24 _ (Below.alloc (Below.refl w.heap.size w) (Nat.le_refl _) o)
  have hu : ∀ u, Below w.heap.size w u → Calls Tryz.prog 76 #[.pointer (some ⟨L.h, 0, none⟩)] u fun e w' => e = .returned (.bool m.us) ∧ u = w' := fun u b => bm_user (S.later b)
  have hf : ∀ u, Below w.heap.size w u → Calls Tryz.prog 86 #[.pointer (some ⟨L.h, 0, none⟩), i64 (m.pc), i64 4, i64 0] u fun e w' => e = findE m (m.pc) 4 0 ∧ Below w.heap.size w w' := fun u b =>
    (bm_find (S.later b) (S.fine.pc) (.inr (.inr rfl))).mono fun e w' h => ⟨h.1, b.trans (h.2.mono b.size)⟩
  have hl : ∀ u, Below w.heap.size w u → Calls Tryz.prog 85 #[.pointer (some ⟨L.hm, 0, none⟩), i64 ((m.find m.pc 4 0).1), i64 4] u fun e w' => e = .returned (.tuple #[i64 (ldv m.M ((m.find m.pc 4 0).1) 4), .bool (decide (okc m.M.length ((m.find m.pc 4 0).1) 4))]) ∧ u = w' := fun u b => Go.Proofs.YtfcmodllbhpniaaGreatDoor.load_says (S.later b).mem _ _ (by have := (find_w S.fine m.pc 4 0).1; omega)
  have hd1 : ∀ o, Below w.heap.size w (w.alloc o).drew := fun o => ((Below.refl _ w).alloc (Nat.le_refl _) o).drew
  have hd0 : Below w.heap.size w w.drew := (Below.refl _ _).drew
  have hb0 : Below w.heap.size w w := Below.refl _ _
  have hE : findE m m.pc 4 0 = .returned (i64 (m.find m.pc 4 0).1) := by unfold findE; rw [if_pos h]
  rw [hE] at hf
  have ho : decide (okc m.M.length (m.find m.pc 4 0).1 4) = true := decide_eq_true h2
  rw [ho] at hl
  have hv := ldv_w S.fine.by' (m.find m.pc 4 0).1 4
  have hw : wd (ldv m.M (m.find m.pc 4 0).1 4) = ldv m.M (m.find m.pc 4 0).1 4 := wd_eq _ hv.1 hv.2
  have hD : ∀ u, Below w.heap.size w u → Calls Tryz.prog 87 #[i64 (ldv m.M (m.find m.pc 4 0).1 4)] u fun e w' => e = .returned (decV (ldv m.M (m.find m.pc 4 0).1 4)) ∧ Below w.heap.size w w' := fun u b =>
    (decode_says (ldv m.M (m.find m.pc 4 0).1 4) u).mono fun e w' h => ⟨by rw [← hw]; exact h.1, b.trans (h.2.mono b.size)⟩
  rw [decV_yes h3] at hD
  obtain ⟨-, g0, g1, g2, g3, g4⟩ := dec_yes _ h3
  have hU : ∀ u, Below w.heap.size w u → Calls Tryz.prog 76 #[.pointer (some ⟨L.h, 0, none⟩)] u fun e w' => e = .returned (.bool m.us) ∧ u = w' := hu
  have hP := bm_privileged (dO (ldv m.M (m.find m.pc 4 0).1 4))
  rw [← g0] at hP
  rw [← g0, ← g1, ← g2, ← g3, ← g4] at hD
  rw [h4] at hU
  rw [h5] at hP
  clear S hE h h2 ho hv hw h3 g0 g1 g2 g3 g4 hu
  generalize gO (ldv m.M (m.find m.pc 4 0).1 4) = vo at *
  generalize gA (ldv m.M (m.find m.pc 4 0).1 4) = va at *
  generalize gB (ldv m.M (m.find m.pc 4 0).1 4) = vb at *
  generalize gC (ldv m.M (m.find m.pc 4 0).1 4) = vc at *
  generalize gM (ldv m.M (m.find m.pc 4 0).1 4) = vm at *
  generalize ldv m.M (m.find m.pc 4 0).1 4 = v at *
  generalize (m.find m.pc 4 0).1 = a at *
  generalize m.pc = pc at *
  go_enter Tryz.func58, Tryz.ntmps58
  go_wp2
  go_region_held3 (fun u => Below w.heap.size w u) (first | with_reducible exact hd0 | with_reducible exact hd1 _ | with_reducible assumption) (first
    | (go_at_call 86; refine (hf _ (by assumption)).mono ?_; rintro e w1 ⟨rfl, hb1⟩)
    | (go_at_call 85; refine (hl _ (by assumption)).mono ?_; rintro e w2 ⟨rfl, rfl⟩))
  all_goals go_wp2_with fail
  all_goals
    go_wp2_with (first
      | (go_at_call 87; refine (hD _ (by assumption)).mono ?_; rintro e w3 ⟨rfl, hb3⟩)
      | (go_at_call 76; refine (hU _ (Below.alloc hb3 hb3.size _)).mono ?_; rintro e w5 ⟨rfl, rfl⟩)
      | (go_at_call 88; refine (hP _).mono ?_; rintro e w6 ⟨rfl, rfl⟩))
    exact ⟨rfl, rfl, Below.alloc hb3 hb3.size _⟩
set_option maxHeartbeats 1000000 in
theorem bm_next_ok (S : Sees w F L m ov gr cr gc cc) (h : (m.find m.pc 4 0).2 = 0) (h2 : okc m.M.length (m.find m.pc 4 0).1 4) (h3 : decOk (ldv m.M (m.find m.pc 4 0).1 4)) (h4 : ¬ (m.us = true ∧ prv (gO (ldv m.M (m.find m.pc 4 0).1 4)) = true)) :
    Calls Tryz.prog 58 #[.pointer (some ⟨L.h, 0, none⟩)] w fun e w' => e = .returned (insV (gO (ldv m.M (m.find m.pc 4 0).1 4)) (gA (ldv m.M (m.find m.pc 4 0).1 4)) (gB (ldv m.M (m.find m.pc 4 0).1 4)) (gC (ldv m.M (m.find m.pc 4 0).1 4)) (gM (ldv m.M (m.find m.pc 4 0).1 4))) ∧ Below w.heap.size w w' := by
  have k24 : ∀ u, Below w.heap.size w u → u.cell? ⟨L.h, 24, none⟩ = some (i64 m.pc) := fun u b => (S.later b).c24
  have k3 : ∀ u, Below w.heap.size w u → u.cell? ⟨L.h, 3, none⟩ = some (.pointer (some ⟨L.hm, 0, none⟩)) := fun u b => (S.later b).c3
  have n24 := k24 _ (Below.refl _ _)
  have a24 := fun o => k24 _ (Below.alloc (Below.refl w.heap.size w) (Nat.le_refl _) o)
  have hu : ∀ u, Below w.heap.size w u → Calls Tryz.prog 76 #[.pointer (some ⟨L.h, 0, none⟩)] u fun e w' => e = .returned (.bool m.us) ∧ u = w' := fun u b => bm_user (S.later b)
  have hf : ∀ u, Below w.heap.size w u → Calls Tryz.prog 86 #[.pointer (some ⟨L.h, 0, none⟩), i64 (m.pc), i64 4, i64 0] u fun e w' => e = findE m (m.pc) 4 0 ∧ Below w.heap.size w w' := fun u b =>
    (bm_find (S.later b) (S.fine.pc) (.inr (.inr rfl))).mono fun e w' h => ⟨h.1, b.trans (h.2.mono b.size)⟩
  have hl : ∀ u, Below w.heap.size w u → Calls Tryz.prog 85 #[.pointer (some ⟨L.hm, 0, none⟩), i64 ((m.find m.pc 4 0).1), i64 4] u fun e w' => e = .returned (.tuple #[i64 (ldv m.M ((m.find m.pc 4 0).1) 4), .bool (decide (okc m.M.length ((m.find m.pc 4 0).1) 4))]) ∧ u = w' := fun u b => Go.Proofs.YtfcmodllbhpniaaGreatDoor.load_says (S.later b).mem _ _ (by have := (find_w S.fine m.pc 4 0).1; omega)
  have hd1 : ∀ o, Below w.heap.size w (w.alloc o).drew := fun o => ((Below.refl _ w).alloc (Nat.le_refl _) o).drew
  have hd0 : Below w.heap.size w w.drew := (Below.refl _ _).drew
  have hb0 : Below w.heap.size w w := Below.refl _ _
  have hE : findE m m.pc 4 0 = .returned (i64 (m.find m.pc 4 0).1) := by unfold findE; rw [if_pos h]
  rw [hE] at hf
  have ho : decide (okc m.M.length (m.find m.pc 4 0).1 4) = true := decide_eq_true h2
  rw [ho] at hl
  have hv := ldv_w S.fine.by' (m.find m.pc 4 0).1 4
  have hw : wd (ldv m.M (m.find m.pc 4 0).1 4) = ldv m.M (m.find m.pc 4 0).1 4 := wd_eq _ hv.1 hv.2
  have hD : ∀ u, Below w.heap.size w u → Calls Tryz.prog 87 #[i64 (ldv m.M (m.find m.pc 4 0).1 4)] u fun e w' => e = .returned (decV (ldv m.M (m.find m.pc 4 0).1 4)) ∧ Below w.heap.size w w' := fun u b =>
    (decode_says (ldv m.M (m.find m.pc 4 0).1 4) u).mono fun e w' h => ⟨by rw [← hw]; exact h.1, b.trans (h.2.mono b.size)⟩
  rw [decV_yes h3] at hD
  obtain ⟨-, g0, g1, g2, g3, g4⟩ := dec_yes _ h3
  have hU : ∀ u, Below w.heap.size w u → Calls Tryz.prog 76 #[.pointer (some ⟨L.h, 0, none⟩)] u fun e w' => e = .returned (.bool m.us) ∧ u = w' := hu
  have hP := bm_privileged (dO (ldv m.M (m.find m.pc 4 0).1 4))
  rw [← g0] at hP
  rw [← g0, ← g1, ← g2, ← g3, ← g4] at hD
  have hx : ∀ u, Box5 u w.heap.size → Below w.heap.size w u → Calls Tryz.prog 86 #[.pointer (some ⟨L.h, 0, none⟩), i64 m.pc, i64 4, i64 0] u fun e w' => e = .returned (i64 (m.find m.pc 4 0).1) ∧ Below w.heap.size w w' ∧ Box5 w' w.heap.size := fun u x b =>
    (bm_find (S.later b) S.fine.pc (.inr (.inr rfl))).mono fun e w' h => ⟨by rw [h.1, hE], b.trans (h.2.mono b.size), x.kept h.2⟩
  have hy : ∀ u, Box5 u w.heap.size → Below w.heap.size w u → Calls Tryz.prog 87 #[i64 (ldv m.M (m.find m.pc 4 0).1 4)] u fun e w' => e = .returned (decV (ldv m.M (m.find m.pc 4 0).1 4)) ∧ Below w.heap.size w w' ∧ Box5 w' w.heap.size := fun u x b =>
    (decode_says (ldv m.M (m.find m.pc 4 0).1 4) u).mono fun e w' h => ⟨by rw [← hw]; exact h.1, b.trans (h.2.mono b.size), x.kept h.2⟩
  rw [decV_yes h3, ← g0, ← g1, ← g2, ← g3, ← g4] at hy
  have hz : Box5 (w.alloc (.cells #[i64 0, i64 0, i64 0, i64 0, i64 0] 47)).drew w.heap.size := heap_alloc_new _ _
  clear hf hD
  generalize m.us = us at *
  have h5 : us = true → prv (gO (ldv m.M (m.find m.pc 4 0).1 4)) = false := fun e => by
    cases hx : prv (gO (ldv m.M (m.find m.pc 4 0).1 4)) with
    | false => rfl
    | true => exact absurd ⟨e, hx⟩ h4
  clear h4
  generalize prv (gO (ldv m.M (m.find m.pc 4 0).1 4)) = pv at *
  clear S hE h h2 ho hv hw h3 g0 g1 g2 g3 g4 hu
  generalize gO (ldv m.M (m.find m.pc 4 0).1 4) = vo at *
  generalize gA (ldv m.M (m.find m.pc 4 0).1 4) = va at *
  generalize gB (ldv m.M (m.find m.pc 4 0).1 4) = vb at *
  generalize gC (ldv m.M (m.find m.pc 4 0).1 4) = vc at *
  generalize gM (ldv m.M (m.find m.pc 4 0).1 4) = vm at *
  generalize ldv m.M (m.find m.pc 4 0).1 4 = v at *
  generalize (m.find m.pc 4 0).1 = a at *
  generalize m.pc = pc at *
  cases us with
  | false =>
    clear h5
    go_enter Tryz.func58, Tryz.ntmps58
    go_wp2
    go_region_held3 (fun u => Below w.heap.size w u) (first | with_reducible exact hd0 | with_reducible exact hd1 _ | with_reducible assumption) (first
      | (go_at_call 86; refine (hx _ hz (by assumption)).mono ?_; rintro e w1 ⟨rfl, hb1, x1⟩)
      | (go_at_call 85; refine (hl _ (by assumption)).mono ?_; rintro e w2 ⟨rfl, rfl⟩))
    all_goals go_wp2_with fail
    all_goals
      go_wp2_with (first
        | (go_at_call 87; refine (hy _ (by assumption) (by assumption)).mono ?_; rintro e w3 ⟨rfl, hb3, x3⟩; obtain ⟨y0, y1, y2, y3, y4⟩ := x3.cells; have z := x3.free)
        | (go_at_call 76; refine (hU _ (Below.alloc hb3 hb3.size _)).mono ?_; rintro e w5 ⟨rfl, rfl⟩)
        | (go_at_call 88; refine (hP _).mono ?_; rintro e w6 ⟨rfl, rfl⟩))
      refine bodyPost_ret (v := insV vo va vb vc vm) ?_ rfl ⟨rfl, ?_⟩
      · obtain ⟨f0, f1, f2, f3, f4⟩ := x3.five (.cells #[i64 vo, i64 va, i64 vb, i64 vc, i64 vm] 47) vo va vb vc vm
        change (results _ _).run _ (put5 (w3.alloc (.cells #[i64 vo, i64 va, i64 vb, i64 vc, i64 vm] 47)) w.heap.size vo va vb vc vm) = .ok _ (put5 (w3.alloc (.cells #[i64 vo, i64 va, i64 vb, i64 vc, i64 vm] 47)) w.heap.size vo va vb vc vm)
        generalize put5 (w3.alloc (.cells #[i64 vo, i64 va, i64 vb, i64 vc, i64 vm] 47)) w.heap.size vo va vb vc vm = wf at *
        clear y0 y1 y2 y3 y4 z hx hy hz hU hl k3 k24 a24
        simp [results, Tryz.results58, go_sem, f0, f1, f2, f3, f4]
      · exact (((((Below.alloc hb3 hb3.size _).setCell (Nat.le_refl _) _).setCell (Nat.le_refl _) _).setCell (Nat.le_refl _) _).setCell (Nat.le_refl _) _).setCell (Nat.le_refl _) _
  | true =>
    obtain rfl := h5 rfl
    clear h5
    go_enter Tryz.func58, Tryz.ntmps58
    go_wp2
    go_region_held3 (fun u => Below w.heap.size w u) (first | with_reducible exact hd0 | with_reducible exact hd1 _ | with_reducible assumption) (first
      | (go_at_call 86; refine (hx _ hz (by assumption)).mono ?_; rintro e w1 ⟨rfl, hb1, x1⟩)
      | (go_at_call 85; refine (hl _ (by assumption)).mono ?_; rintro e w2 ⟨rfl, rfl⟩))
    all_goals go_wp2_with fail
    all_goals
      go_wp2_with (first
        | (go_at_call 87; refine (hy _ (by assumption) (by assumption)).mono ?_; rintro e w3 ⟨rfl, hb3, x3⟩; obtain ⟨y0, y1, y2, y3, y4⟩ := x3.cells; have z := x3.free)
        | (go_at_call 76; refine (hU _ (Below.alloc hb3 hb3.size _)).mono ?_; rintro e w5 ⟨rfl, rfl⟩)
        | (go_at_call 88; refine (hP _).mono ?_; rintro e w6 ⟨rfl, rfl⟩))
      refine bodyPost_ret (v := insV vo va vb vc vm) ?_ rfl ⟨rfl, ?_⟩
      · obtain ⟨f0, f1, f2, f3, f4⟩ := x3.five (.cells #[i64 vo, i64 va, i64 vb, i64 vc, i64 vm] 47) vo va vb vc vm
        change (results _ _).run _ (put5 (w3.alloc (.cells #[i64 vo, i64 va, i64 vb, i64 vc, i64 vm] 47)) w.heap.size vo va vb vc vm) = .ok _ (put5 (w3.alloc (.cells #[i64 vo, i64 va, i64 vb, i64 vc, i64 vm] 47)) w.heap.size vo va vb vc vm)
        generalize put5 (w3.alloc (.cells #[i64 vo, i64 va, i64 vb, i64 vc, i64 vm] 47)) w.heap.size vo va vb vc vm = wf at *
        clear y0 y1 y2 y3 y4 z hx hy hz hU hl k3 k24 a24
        simp [results, Tryz.results58, go_sem, f0, f1, f2, f3, f4]
      · exact (((((Below.alloc hb3 hb3.size _).setCell (Nat.le_refl _) _).setCell (Nat.le_refl _) _).setCell (Nat.le_refl _) _).setCell (Nat.le_refl _) _).setCell (Nat.le_refl _) _
theorem bm_next (S : Sees w F L m ov gr cr gc cc) : Calls Tryz.prog 58 #[.pointer (some ⟨L.h, 0, none⟩)] w fun e w' => e = nextE m ∧ Below w.heap.size w w' := by
  unfold nextE Ma.fetch
  by_cases h : (m.find m.pc 4 0).2 ≠ 0
  · rw [if_pos h]; exact bm_next_find S h
  · rw [if_neg h]
    replace h : (m.find m.pc 4 0).2 = 0 := Decidable.not_not.1 h
    by_cases h2 : okc m.M.length (m.find m.pc 4 0).1 4
    · rw [if_neg (fun e => e h2)]
      by_cases h3 : decOk (ldv m.M (m.find m.pc 4 0).1 4)
      · rw [if_neg (fun e => e h3)]
        by_cases h4 : m.us = true ∧ prv (gO (ldv m.M (m.find m.pc 4 0).1 4)) = true
        · rw [if_pos h4]; exact bm_next_prv S h h2 h3 h4.1 h4.2
        · rw [if_neg h4]; exact bm_next_ok S h h2 h3 h4
      · rw [if_pos h3]; exact bm_next_bad S h h2 h3
    · rw [if_pos h2]; exact bm_next_bus S h h2
end
end Go.Proofs.YtfcmodllbhpniaaGreatDoor.Ser
