/-
  Package bare: access (laid by mkbare.py). | Package bare: access: a store in the memory (laid by mkbare.py). | Package bare: access: a store that is not in the memory (laid by mkbare.py).
-/
import Derived.Test.YtfcmodllbhpniaaGreatDoorJnBareP0
import Derived.Deep.QuietTactic
import Derived.BigQuiet
import Derived.Deep.RegionWith
set_option linter.unusedVariables false
set_option maxRecDepth 100000
namespace Go.Proofs.YtfcmodllbhpniaaGreatDoor.Ser
open Go.Proofs.YtfcmodllbhpniaaGreatDoor
open Go.ChangeShapes Go.WideShapes Go.ChangeAt Go.RowKit
section
variable {w : World} {F : Nat → Prop} {L : Lay} {m : Ma} {ov : Value} {gr cr gc cc : Nat}
/-- An instruction in a box. -/
def InsAt (u : World) (p : Nat) (op a b c imm : Int) : Prop := u.heap[p]? = some (.cells #[i64 op, i64 a, i64 b, i64 c, i64 imm] 47 (0, 0))
theorem InsAt.kept {u u' : World} {p : Nat} {op a b c imm : Int} (x : InsAt u p op a b c imm) (hb : Below u.heap.size u u') : InsAt u' p op a b c imm := (hb.block p (Array.getElem?_eq_some_iff.1 x).1).trans x
theorem InsAt.cells {u : World} {p : Nat} {op a b c imm : Int} (x : InsAt u p op a b c imm) : u.cell? ⟨p, 0, none⟩ = some (i64 op) ∧ u.cell? ⟨p, 1, none⟩ = some (i64 a) ∧ u.cell? ⟨p, 2, none⟩ = some (i64 b) ∧ u.cell? ⟨p, 3, none⟩ = some (i64 c) ∧ u.cell? ⟨p, 4, none⟩ = some (i64 imm) := by
  unfold InsAt at x
  exact ⟨by rw [cell_of_row _ _ 0 _ _ _ x]; rfl, by rw [cell_of_row _ _ 1 _ _ _ x]; rfl, by rw [cell_of_row _ _ 2 _ _ _ x]; rfl, by rw [cell_of_row _ _ 3 _ _ _ x]; rfl, by rw [cell_of_row _ _ 4 _ _ _ x]; rfl⟩
theorem wrap_addr (a b : Int) : wd (wrap64 (a + b)) = wd (a + b) := wd_wrap _
set_option maxHeartbeats 2000000 in
theorem bm_access_find (S : Sees w F L m ov gr cr gc cc) {op : Int} {a b : Nat} {c imm s : Int} (ha : a ≤ 15) (hb : b ≤ 15) (hs : s = 1 ∨ s = 2 ∨ s = 4) {k : Int} (h : (m.find (wd (m.r b + imm)) s k).2 ≠ 0) :
    Calls Tryz.prog 115 #[.pointer (some ⟨L.h, 0, none⟩), .agg #[i64 op, i64 (a : Int), i64 (b : Int), i64 c, i64 imm], i64 s, i64 k] w fun e w' => e = trapE (m.find (wd (m.r b + imm)) s k).2 (wd (m.r b + imm)) ∧ Step F (Bm L m) w w' := by
  have hvw : Wd (wd (m.r b + imm)) := wdb _
  have hadd := add_says (m.r b) imm
  generalize wd (m.r b + imm) = va at *
  have k23 : ∀ u, Below w.heap.size w u → u.cell? ⟨L.h, 23, none⟩ = some (.slice (some ⟨gr, 0, none⟩) 16 cr) := fun u b => (S.later b).c23
  have k3 : ∀ u, Below w.heap.size w u → u.cell? ⟨L.h, 3, none⟩ = some (.pointer (some ⟨L.hm, 0, none⟩)) := fun u b => (S.later b).c3
  have n23 := k23 _ (Below.refl _ _)
  have a23 := fun o => k23 _ (Below.alloc (Below.refl w.heap.size w) (Nat.le_refl _) o)
  have kb : ∀ u, Below w.heap.size w u → u.cell? ⟨gr, b, none⟩ = some (i64 (m.r b)) := fun u x => (S.later x).rr b (by omega)
  have ka : ∀ u, Below w.heap.size w u → u.cell? ⟨gr, a, none⟩ = some (i64 (m.r a)) := fun u x => (S.later x).rr a (by omega)
  have hBx : InsAt (w.alloc (.cells #[i64 op, i64 (a : Int), i64 (b : Int), i64 c, i64 imm] 47)) w.heap.size op a b c imm := heap_alloc_new _ _
  have hb1 : ∀ o, Below w.heap.size w (w.alloc o) := fun o => (Below.refl _ w).alloc (Nat.le_refl _) o
  have hb2 : ∀ o n, Below w.heap.size w ((w.alloc o).drewN n) := fun o n => below_drewN (hb1 o) n
  have hB2 : ∀ n, InsAt ((w.alloc (.cells #[i64 op, i64 (a : Int), i64 (b : Int), i64 c, i64 imm] 47)).drewN n) w.heap.size op a b c imm := fun n => hBx
  have ab := fun o => kb _ (hb1 o)
  have hf : ∀ u, Below w.heap.size w u → InsAt u w.heap.size op a b c imm → Calls Tryz.prog 86 #[.pointer (some ⟨L.h, 0, none⟩), i64 va, i64 s, i64 k] u fun e w' => e = findE m va s k ∧ Below w.heap.size w w' ∧ InsAt w' w.heap.size op a b c imm := fun u x y =>
    (bm_find (S.later x) hvw hs).mono fun e w' h => ⟨h.1, x.trans (h.2.mono x.size), y.kept h.2⟩
  have hE : findE m va s k = trapE (m.find va s k).2 va := by unfold findE; rw [if_neg h]
  rw [hE] at hf
  have HS := Lib.hid (fun w1 (x : Below w.heap.size w w1) => (Step.still x S.is : Step F (Bm L m) w w1))
  clear S hE h
  generalize (m.find va s k).2 = fc at *
  generalize m.r b = rb at *
  go_enter Tryz.func115, Tryz.ntmps115
  go_wp2
  go_quiet ((go_at_call 40; with_reducible exact Calls.quiet_of_same ((hadd _).mono (fun _ _ h => ⟨h.1, h.2.symm⟩))))
  go_wp2_with (go_at_call 86; refine (hf _ (hb2 _ _) (hB2 _)).mono ?_; rintro e w1 ⟨rfl, x1, y1⟩)
  exact ⟨rfl, rfl, HS.out _ x1⟩
end
end Go.Proofs.YtfcmodllbhpniaaGreatDoor.Ser
set_option maxRecDepth 100000
namespace Go.Proofs.YtfcmodllbhpniaaGreatDoor.Ser
open Go.Proofs.YtfcmodllbhpniaaGreatDoor
open Go.ChangeShapes Go.WideShapes Go.ChangeAt Go.RowKit
section
variable {w : World} {F : Nat → Prop} {L : Lay} {m : Ma} {ov : Value} {gr cr gc cc : Nat}
set_option maxHeartbeats 2000000 in
theorem bm_access_mst (S : Sees w F L m ov gr cr gc cc) {op : Int} {a b : Nat} {c imm s : Int} (ha : a ≤ 15) (hb : b ≤ 15) (hs : s = 1 ∨ s = 2 ∨ s = 4) (h : (m.find (wd (m.r b + imm)) s 2).2 = 0) (hm : (m.find (wd (m.r b + imm)) s 2).1 < 4026531840) (ho : okc m.M.length (m.find (wd (m.r b + imm)) s 2).1 s) :
    Calls Tryz.prog 115 #[.pointer (some ⟨L.h, 0, none⟩), .agg #[i64 op, i64 (a : Int), i64 (b : Int), i64 c, i64 imm], i64 s, i64 2] w fun e w' => e = .returned (.tuple #[]) ∧ Step F (Bm L { m with M := stv m.M (m.find (wd (m.r b + imm)) s 2).1 s (m.r a) }) w w' := by
  have hvw : Wd (wd (m.r b + imm)) := wdb _
  have hadd := add_says (m.r b) imm
  generalize wd (m.r b + imm) = va at *
  have k23 : ∀ u, Below w.heap.size w u → u.cell? ⟨L.h, 23, none⟩ = some (.slice (some ⟨gr, 0, none⟩) 16 cr) := fun u b => (S.later b).c23
  have k3 : ∀ u, Below w.heap.size w u → u.cell? ⟨L.h, 3, none⟩ = some (.pointer (some ⟨L.hm, 0, none⟩)) := fun u b => (S.later b).c3
  have n23 := k23 _ (Below.refl _ _)
  have a23 := fun o => k23 _ (Below.alloc (Below.refl w.heap.size w) (Nat.le_refl _) o)
  have kb : ∀ u, Below w.heap.size w u → u.cell? ⟨gr, b, none⟩ = some (i64 (m.r b)) := fun u x => (S.later x).rr b (by omega)
  have ka : ∀ u, Below w.heap.size w u → u.cell? ⟨gr, a, none⟩ = some (i64 (m.r a)) := fun u x => (S.later x).rr a (by omega)
  have hBx : InsAt (w.alloc (.cells #[i64 op, i64 (a : Int), i64 (b : Int), i64 c, i64 imm] 47)) w.heap.size op a b c imm := heap_alloc_new _ _
  have hb1 : ∀ o, Below w.heap.size w (w.alloc o) := fun o => (Below.refl _ w).alloc (Nat.le_refl _) o
  have hb2 : ∀ o n, Below w.heap.size w ((w.alloc o).drewN n) := fun o n => below_drewN (hb1 o) n
  have hB2 : ∀ n, InsAt ((w.alloc (.cells #[i64 op, i64 (a : Int), i64 (b : Int), i64 c, i64 imm] 47)).drewN n) w.heap.size op a b c imm := fun n => hBx
  have ab := fun o => kb _ (hb1 o)
  have hf : ∀ u, Below w.heap.size w u → InsAt u w.heap.size op a b c imm → Calls Tryz.prog 86 #[.pointer (some ⟨L.h, 0, none⟩), i64 va, i64 s, i64 2] u fun e w' => e = findE m va s 2 ∧ Below w.heap.size w w' ∧ InsAt w' w.heap.size op a b c imm := fun u x y =>
    (bm_find (S.later x) hvw hs).mono fun e w' h => ⟨h.1, x.trans (h.2.mono x.size), y.kept h.2⟩
  have hE : findE m va s 2 = .returned (i64 (m.find va s 2).1) := by unfold findE; rw [if_pos h]
  rw [hE] at hf
  have hpw := (find_w S.fine va s 2).1
  have f3 : ∀ u, Below w.heap.size w u → u.cell? ⟨L.h, 3, none⟩ = some (.pointer (some ⟨L.hm, 0, none⟩)) := k3
  have hc : ∀ u, Below w.heap.size w u → Calls Tryz.prog 196 #[.pointer (some ⟨L.hm, 0, none⟩), i64 (m.find va s 2).1, i64 s, i64 (m.r a)] u fun e w' => e = .returned (.bool true) ∧ Step F (Bm L { m with M := stv m.M (m.find (va) s 2).1 s (m.r a) }) w w' := fun u x =>
    (bm_store (S.later x) _ _ _ hpw).mono fun e w' h => ⟨by rw [h.1, decide_eq_true ho], by have h2 := Step.after x h.2; exact h2⟩
  have hms := ml_store
  have hna := na_store
  have hge : decide (4026531840 ≤ (m.find va s 2).1) = false := decide_eq_false (by omega)
  clear S hE h
  generalize ({ m with M := stv m.M (m.find (va) s 2).1 s (m.r a) } : Ma) = m' at *
  generalize (m.find va s 2).1 = pa at *
  generalize m.r b = rb at *
  generalize m.r a = ra at *
  go_enter Tryz.func115, Tryz.ntmps115
  go_wp2
  go_quiet ((go_at_call 40; with_reducible exact Calls.quiet_of_same ((hadd _).mono (fun _ _ h => ⟨h.1, h.2.symm⟩))))
  go_wp2_with (go_at_call 86; refine (hf _ (hb2 _ _) (hB2 _)).mono ?_; rintro e w1 ⟨rfl, x1, y1⟩; have z3 := f3 _ x1; have z23 := k23 _ x1; have za := ka _ x1; obtain ⟨i0, i1, i2, i3, i4⟩ := y1.cells)
  have hmf : ∀ (fn : Fn) (first cap : Array Value) (w : World), (Instr.makeFunc fn first cap).run Tryz.prog w = .ok (.func fn first cap) w := fun _ _ _ _ => rfl
  have x2 : Below w.heap.size w w1.drew := x1.drew
  clear k23 k3 n23 a23 hBx hb1 hb2 hB2 hf f3
  go_region_with (first
    | (go_at_call 196; refine (hc _ x2).mono ?_; rintro e w2 ⟨rfl, s2⟩))
  all_goals
    go_wp2_with fail
    refine bodyPost_ret (results_none rfl _ _ _) rfl ?_
    exact ⟨rfl, s2⟩
end
end Go.Proofs.YtfcmodllbhpniaaGreatDoor.Ser
set_option maxRecDepth 100000
namespace Go.Proofs.YtfcmodllbhpniaaGreatDoor.Ser
open Go.Proofs.YtfcmodllbhpniaaGreatDoor
open Go.ChangeShapes Go.WideShapes Go.ChangeAt Go.RowKit
section
variable {w : World} {F : Nat → Prop} {L : Lay} {m : Ma} {ov : Value} {gr cr gc cc : Nat}
set_option maxHeartbeats 2000000 in
theorem bm_access_mstno (S : Sees w F L m ov gr cr gc cc) {op : Int} {a b : Nat} {c imm s : Int} (ha : a ≤ 15) (hb : b ≤ 15) (hs : s = 1 ∨ s = 2 ∨ s = 4) (h : (m.find (wd (m.r b + imm)) s 2).2 = 0) (hm : (m.find (wd (m.r b + imm)) s 2).1 < 4026531840) (ho : ¬ okc m.M.length (m.find (wd (m.r b + imm)) s 2).1 s) :
    Calls Tryz.prog 115 #[.pointer (some ⟨L.h, 0, none⟩), .agg #[i64 op, i64 (a : Int), i64 (b : Int), i64 c, i64 imm], i64 s, i64 2] w fun e w' => e = trapE 4 (wd (m.r b + imm)) ∧ Step F (Bm L m) w w' := by
  have hvw : Wd (wd (m.r b + imm)) := wdb _
  have hadd := add_says (m.r b) imm
  generalize wd (m.r b + imm) = va at *
  have k23 : ∀ u, Below w.heap.size w u → u.cell? ⟨L.h, 23, none⟩ = some (.slice (some ⟨gr, 0, none⟩) 16 cr) := fun u b => (S.later b).c23
  have k3 : ∀ u, Below w.heap.size w u → u.cell? ⟨L.h, 3, none⟩ = some (.pointer (some ⟨L.hm, 0, none⟩)) := fun u b => (S.later b).c3
  have n23 := k23 _ (Below.refl _ _)
  have a23 := fun o => k23 _ (Below.alloc (Below.refl w.heap.size w) (Nat.le_refl _) o)
  have kb : ∀ u, Below w.heap.size w u → u.cell? ⟨gr, b, none⟩ = some (i64 (m.r b)) := fun u x => (S.later x).rr b (by omega)
  have ka : ∀ u, Below w.heap.size w u → u.cell? ⟨gr, a, none⟩ = some (i64 (m.r a)) := fun u x => (S.later x).rr a (by omega)
  have hBx : InsAt (w.alloc (.cells #[i64 op, i64 (a : Int), i64 (b : Int), i64 c, i64 imm] 47)) w.heap.size op a b c imm := heap_alloc_new _ _
  have hb1 : ∀ o, Below w.heap.size w (w.alloc o) := fun o => (Below.refl _ w).alloc (Nat.le_refl _) o
  have hb2 : ∀ o n, Below w.heap.size w ((w.alloc o).drewN n) := fun o n => below_drewN (hb1 o) n
  have hB2 : ∀ n, InsAt ((w.alloc (.cells #[i64 op, i64 (a : Int), i64 (b : Int), i64 c, i64 imm] 47)).drewN n) w.heap.size op a b c imm := fun n => hBx
  have ab := fun o => kb _ (hb1 o)
  have hf : ∀ u, Below w.heap.size w u → InsAt u w.heap.size op a b c imm → Calls Tryz.prog 86 #[.pointer (some ⟨L.h, 0, none⟩), i64 va, i64 s, i64 2] u fun e w' => e = findE m va s 2 ∧ Below w.heap.size w w' ∧ InsAt w' w.heap.size op a b c imm := fun u x y =>
    (bm_find (S.later x) hvw hs).mono fun e w' h => ⟨h.1, x.trans (h.2.mono x.size), y.kept h.2⟩
  have hE : findE m va s 2 = .returned (i64 (m.find va s 2).1) := by unfold findE; rw [if_pos h]
  rw [hE] at hf
  have hpw := (find_w S.fine va s 2).1
  have f3 : ∀ u, Below w.heap.size w u → u.cell? ⟨L.h, 3, none⟩ = some (.pointer (some ⟨L.hm, 0, none⟩)) := k3
  have hc : ∀ u, Below w.heap.size w u → Calls Tryz.prog 196 #[.pointer (some ⟨L.hm, 0, none⟩), i64 (m.find va s 2).1, i64 s, i64 (m.r a)] u fun e w' => e = .returned (.bool false) ∧ Step F (Bm L m) w w' := fun u x =>
    (bm_store (S.later x) _ _ _ hpw).mono fun e w' h => ⟨by rw [h.1, decide_eq_false ho], by have h2 := Step.after x h.2; rw [show stv m.M (m.find va s 2).1 s (m.r a) = m.M from by unfold stv; rw [if_neg ho]] at h2; exact h2⟩
  have hms := ml_store
  have hna := na_store
  have hge : decide (4026531840 ≤ (m.find va s 2).1) = false := decide_eq_false (by omega)
  clear S hE h
  generalize (m : Ma) = m' at *
  generalize (m.find va s 2).1 = pa at *
  generalize m.r b = rb at *
  generalize m.r a = ra at *
  go_enter Tryz.func115, Tryz.ntmps115
  go_wp2
  go_quiet ((go_at_call 40; with_reducible exact Calls.quiet_of_same ((hadd _).mono (fun _ _ h => ⟨h.1, h.2.symm⟩))))
  go_wp2_with (go_at_call 86; refine (hf _ (hb2 _ _) (hB2 _)).mono ?_; rintro e w1 ⟨rfl, x1, y1⟩; have z3 := f3 _ x1; have z23 := k23 _ x1; have za := ka _ x1; obtain ⟨i0, i1, i2, i3, i4⟩ := y1.cells)
  have hmf : ∀ (fn : Fn) (first cap : Array Value) (w : World), (Instr.makeFunc fn first cap).run Tryz.prog w = .ok (.func fn first cap) w := fun _ _ _ _ => rfl
  have x2 : Below w.heap.size w w1.drew := x1.drew
  clear k23 k3 n23 a23 hBx hb1 hb2 hB2 hf f3
  go_region_with (first
    | (go_at_call 196; refine (hc _ x2).mono ?_; rintro e w2 ⟨rfl, s2⟩))
  all_goals
    go_wp2_with fail
    exact ⟨rfl, rfl, s2⟩
end
end Go.Proofs.YtfcmodllbhpniaaGreatDoor.Ser
