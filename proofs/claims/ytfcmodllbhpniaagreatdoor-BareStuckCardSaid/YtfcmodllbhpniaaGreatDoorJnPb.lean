/-
  Package bare: access: a store in the UART (laid by mkbare.py). | Package bare: access: a store where the UART has nothing (laid by mkbare.py).
-/
import Derived.Test.YtfcmodllbhpniaaGreatDoorJnPa
import Derived.Deep.QuietTactic
import Derived.BigQuiet
import Derived.Deep.RegionWith
set_option linter.unusedVariables false
set_option maxRecDepth 100000
namespace Go.Proofs.YtfcmodllbhpniaaGreatDoor.Ser
open Go.Proofs.YtfcmodllbhpniaaGreatDoor
open Go.ChangeShapes Go.WideShapes Go.ChangeAt Go.RowKit
section
variable {w : World} {F : Nat → Prop} {L : Lay} {m : Ma} {ov : Value} {gr cr gc cc : Nat}
set_option maxHeartbeats 2000000 in
theorem bm_access_xst (S : Sees w F L m ov gr cr gc cc) {op : Int} {a b : Nat} {c imm s : Int} (ha : a ≤ 15) (hb : b ≤ 15) (hs : s = 1 ∨ s = 2 ∨ s = 4) (h : (m.find (wd (m.r b + imm)) s 2).2 = 0) (hx : m.tx.length < 100000) (hm : 4026531840 ≤ (m.find (wd (m.r b + imm)) s 2).1) (h4 : s = 4) (ho : uok ((m.find (wd (m.r b + imm)) s 2).1 - 4026531840) = true) :
    Calls Tryz.prog 115 #[.pointer (some ⟨L.h, 0, none⟩), .agg #[i64 op, i64 (a : Int), i64 (b : Int), i64 c, i64 imm], i64 s, i64 2] w fun e w' => e = .returned (.tuple #[]) ∧ Step F (Bm L { m with tx := ust m.tx ((m.find (wd (m.r b + imm)) s 2).1 - 4026531840) (m.r a) }) w w' := by
  have hvw : Wd (wd (m.r b + imm)) := wdb _
  have hadd := add_says (m.r b) imm
  generalize wd (m.r b + imm) = va at *
  have k23 : ∀ u, Below w.heap.size w u → u.cell? ⟨L.h, 23, none⟩ = some (.slice (some ⟨gr, 0, none⟩) 16 cr) := fun u b => (S.later b).c23
  have k3 : ∀ u, Below w.heap.size w u → u.cell? ⟨L.h, 3, none⟩ = some (.pointer (some ⟨L.hm, 0, none⟩)) := fun u b => (S.later b).c3
  have n23 := k23 _ (Below.refl _ _)
  have a23 := fun o => k23 _ (Below.alloc (Below.refl w.heap.size w) (Nat.le_refl _) o)
  have kb : ∀ u, Below w.heap.size w u → u.cell? ⟨gr, b, none⟩ = some (i64 (m.r b)) := fun u x => (S.later x).rr b (by omega)
  have ka : ∀ u, Below w.heap.size w u → u.cell? ⟨gr, a, none⟩ = some (i64 (m.r a)) := fun u x => (S.later x).rr a (by omega)
  have hBx : InsAt (w.alloc (.cells #[i64 op, i64 (a : Int), i64 (b : Int), i64 c, i64 imm] 47)) w.heap.size op a b c imm := heap_alloc_new _ _
  have hb1 : ∀ o, Below w.heap.size w (w.alloc o) := fun o => (Below.refl _ w).alloc (Nat.le_refl _) o
  have hb2 : ∀ o n, Below w.heap.size w ((w.alloc o).drewN n) := fun o n => below_drewN (hb1 o) n
  have hB2 : ∀ n, InsAt ((w.alloc (.cells #[i64 op, i64 (a : Int), i64 (b : Int), i64 c, i64 imm] 47)).drewN n) w.heap.size op a b c imm := fun n => hBx
  have ab := fun o => kb _ (hb1 o)
  have hf : ∀ u, Below w.heap.size w u → InsAt u w.heap.size op a b c imm → Calls Tryz.prog 86 #[.pointer (some ⟨L.h, 0, none⟩), i64 va, i64 s, i64 2] u fun e w' => e = findE m va s 2 ∧ Below w.heap.size w w' ∧ InsAt w' w.heap.size op a b c imm := fun u x y =>
    (bm_find (S.later x) hvw hs).mono fun e w' h => ⟨h.1, x.trans (h.2.mono x.size), y.kept h.2⟩
  have hE : findE m va s 2 = .returned (i64 (m.find va s 2).1) := by unfold findE; rw [if_pos h]
  rw [hE] at hf
  have hpw := (find_w S.fine va s 2).1
  have f3 : ∀ u, Below w.heap.size w u → u.cell? ⟨L.h, 3, none⟩ = some (.pointer (some ⟨L.hm, 0, none⟩)) := k3
  subst h4
  have hc : ∀ u, Below w.heap.size w u → Calls Tryz.prog 220 #[.agg #[.pointer (some ⟨L.h, 4, none⟩)], i64 (m.find va 4 2).1, i64 4, i64 (m.r a)] u fun e w' => e = .returned (.bool true) ∧ Step F (Bm L { m with tx := ust m.tx ((m.find (va) 4 2).1 - 4026531840) (m.r a) }) w w' := fun u x =>
    (bm_line_store (S.later x) _ _ _ hpw hx).mono fun e w' h => ⟨by rw [h.1, ho]; simp, by have h2 := Step.after x h.2; rw [if_pos rfl] at h2; exact h2⟩
  have hms := mx_store
  have hna := nx_store
  have hge : decide (4026531840 ≤ (m.find va 4 2).1) = true := decide_eq_true (by omega)
  clear S hE h
  generalize ({ m with tx := ust m.tx ((m.find va 4 2).1 - 4026531840) (m.r a) } : Ma) = m' at *
  generalize (m.find va 4 2).1 = pa at *
  generalize m.r b = rb at *
  generalize m.r a = ra at *
  go_enter Tryz.func115, Tryz.ntmps115
  go_wp2
  go_quiet ((go_at_call 40; with_reducible exact Calls.quiet_of_same ((hadd _).mono (fun _ _ h => ⟨h.1, h.2.symm⟩))))
  go_wp2_with (go_at_call 86; refine (hf _ (hb2 _ _) (hB2 _)).mono ?_; rintro e w1 ⟨rfl, x1, y1⟩; have z3 := f3 _ x1; have z23 := k23 _ x1; have za := ka _ x1; obtain ⟨i0, i1, i2, i3, i4⟩ := y1.cells)
  have hmf : ∀ (fn : Fn) (first cap : Array Value) (w : World), (Instr.makeFunc fn first cap).run Tryz.prog w = .ok (.func fn first cap) w := fun _ _ _ _ => rfl
  have x2 : Below w.heap.size w w1.drew := x1.drew
  clear k23 k3 n23 a23 hBx hb1 hb2 hB2 hf f3
  go_region_with (first
    | (go_at_call 220; refine (hc _ x2).mono ?_; rintro e w2 ⟨rfl, s2⟩))
  all_goals
    go_wp2_with fail
    refine bodyPost_ret (results_none rfl _ _ _) rfl ?_
    exact ⟨rfl, s2⟩
end
end Go.Proofs.YtfcmodllbhpniaaGreatDoor.Ser
set_option maxRecDepth 100000
namespace Go.Proofs.YtfcmodllbhpniaaGreatDoor.Ser
open Go.Proofs.YtfcmodllbhpniaaGreatDoor
open Go.ChangeShapes Go.WideShapes Go.ChangeAt Go.RowKit
section
variable {w : World} {F : Nat → Prop} {L : Lay} {m : Ma} {ov : Value} {gr cr gc cc : Nat}
set_option maxHeartbeats 2000000 in
theorem bm_access_xstno (S : Sees w F L m ov gr cr gc cc) {op : Int} {a b : Nat} {c imm s : Int} (ha : a ≤ 15) (hb : b ≤ 15) (hs : s = 1 ∨ s = 2 ∨ s = 4) (h : (m.find (wd (m.r b + imm)) s 2).2 = 0) (hx : m.tx.length < 100000) (hm : 4026531840 ≤ (m.find (wd (m.r b + imm)) s 2).1) (h4 : (decide (s = 4) && uok ((m.find (wd (m.r b + imm)) s 2).1 - 4026531840)) = false) :
    Calls Tryz.prog 115 #[.pointer (some ⟨L.h, 0, none⟩), .agg #[i64 op, i64 (a : Int), i64 (b : Int), i64 c, i64 imm], i64 s, i64 2] w fun e w' => e = trapE 4 (wd (m.r b + imm)) ∧ Step F (Bm L m) w w' := by
  have hvw : Wd (wd (m.r b + imm)) := wdb _
  have hadd := add_says (m.r b) imm
  generalize wd (m.r b + imm) = va at *
  have k23 : ∀ u, Below w.heap.size w u → u.cell? ⟨L.h, 23, none⟩ = some (.slice (some ⟨gr, 0, none⟩) 16 cr) := fun u b => (S.later b).c23
  have k3 : ∀ u, Below w.heap.size w u → u.cell? ⟨L.h, 3, none⟩ = some (.pointer (some ⟨L.hm, 0, none⟩)) := fun u b => (S.later b).c3
  have n23 := k23 _ (Below.refl _ _)
  have a23 := fun o => k23 _ (Below.alloc (Below.refl w.heap.size w) (Nat.le_refl _) o)
  have kb : ∀ u, Below w.heap.size w u → u.cell? ⟨gr, b, none⟩ = some (i64 (m.r b)) := fun u x => (S.later x).rr b (by omega)
  have ka : ∀ u, Below w.heap.size w u → u.cell? ⟨gr, a, none⟩ = some (i64 (m.r a)) := fun u x => (S.later x).rr a (by omega)
  have hBx : InsAt (w.alloc (.cells #[i64 op, i64 (a : Int), i64 (b : Int), i64 c, i64 imm] 47)) w.heap.size op a b c imm := heap_alloc_new _ _
  have hb1 : ∀ o, Below w.heap.size w (w.alloc o) := fun o => (Below.refl _ w).alloc (Nat.le_refl _) o
  have hb2 : ∀ o n, Below w.heap.size w ((w.alloc o).drewN n) := fun o n => below_drewN (hb1 o) n
  have hB2 : ∀ n, InsAt ((w.alloc (.cells #[i64 op, i64 (a : Int), i64 (b : Int), i64 c, i64 imm] 47)).drewN n) w.heap.size op a b c imm := fun n => hBx
  have ab := fun o => kb _ (hb1 o)
  have hf : ∀ u, Below w.heap.size w u → InsAt u w.heap.size op a b c imm → Calls Tryz.prog 86 #[.pointer (some ⟨L.h, 0, none⟩), i64 va, i64 s, i64 2] u fun e w' => e = findE m va s 2 ∧ Below w.heap.size w w' ∧ InsAt w' w.heap.size op a b c imm := fun u x y =>
    (bm_find (S.later x) hvw hs).mono fun e w' h => ⟨h.1, x.trans (h.2.mono x.size), y.kept h.2⟩
  have hE : findE m va s 2 = .returned (i64 (m.find va s 2).1) := by unfold findE; rw [if_pos h]
  rw [hE] at hf
  have hpw := (find_w S.fine va s 2).1
  have f3 : ∀ u, Below w.heap.size w u → u.cell? ⟨L.h, 3, none⟩ = some (.pointer (some ⟨L.hm, 0, none⟩)) := k3
  have hc : ∀ u, Below w.heap.size w u → Calls Tryz.prog 220 #[.agg #[.pointer (some ⟨L.h, 4, none⟩)], i64 (m.find va s 2).1, i64 s, i64 (m.r a)] u fun e w' => e = .returned (.bool false) ∧ Step F (Bm L m) w w' := fun u x =>
    (bm_line_store (S.later x) _ _ _ hpw hx).mono fun e w' h => ⟨by rw [h.1, h4], by have h2 := Step.after x h.2; split at h2; rename_i e4; subst e4; rw [show ust m.tx ((m.find va 4 2).1 - 4026531840) (m.r a) = m.tx from by unfold ust; rw [if_neg (fun e => by rw [e] at h4; simp [uok] at h4)]] at h2; exact h2; exact h2⟩
  have hms := mx_store
  have hna := nx_store
  have hge : decide (4026531840 ≤ (m.find va s 2).1) = true := decide_eq_true (by omega)
  clear S hE h
  generalize (m : Ma) = m' at *
  generalize (m.find va s 2).1 = pa at *
  generalize m.r b = rb at *
  generalize m.r a = ra at *
  go_enter Tryz.func115, Tryz.ntmps115
  go_wp2
  go_quiet ((go_at_call 40; with_reducible exact Calls.quiet_of_same ((hadd _).mono (fun _ _ h => ⟨h.1, h.2.symm⟩))))
  go_wp2_with (go_at_call 86; refine (hf _ (hb2 _ _) (hB2 _)).mono ?_; rintro e w1 ⟨rfl, x1, y1⟩; have z3 := f3 _ x1; have z23 := k23 _ x1; have za := ka _ x1; obtain ⟨i0, i1, i2, i3, i4⟩ := y1.cells)
  have hmf : ∀ (fn : Fn) (first cap : Array Value) (w : World), (Instr.makeFunc fn first cap).run Tryz.prog w = .ok (.func fn first cap) w := fun _ _ _ _ => rfl
  have x2 : Below w.heap.size w w1.drew := x1.drew
  clear k23 k3 n23 a23 hBx hb1 hb2 hB2 hf f3
  go_region_with (first
    | (go_at_call 220; refine (hc _ x2).mono ?_; rintro e w2 ⟨rfl, s2⟩))
  all_goals
    go_wp2_with fail
    exact ⟨rfl, rfl, s2⟩
end
end Go.Proofs.YtfcmodllbhpniaaGreatDoor.Ser
