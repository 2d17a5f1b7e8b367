/-
  Package bare: access: a load from the UART (laid by mkbare.py). | Package bare: access: a load where the UART has nothing (laid by mkbare.py).
-/
import Derived.Test.YtfcmodllbhpniaaGreatDoorJnPc
import Derived.Deep.QuietTactic
import Derived.BigQuiet
import Derived.Deep.RegionWith
set_option linter.unusedVariables false
set_option maxRecDepth 100000
namespace Go.Proofs.YtfcmodllbhpniaaGreatDoor.Ser
open Go.Proofs.YtfcmodllbhpniaaGreatDoor
open Go.ChangeShapes Go.WideShapes Go.ChangeAt Go.RowKit
section
variable {w : World} {F : Nat → Prop} {L : Lay} {m : Ma} {ov : Value} {gr cr gc cc : Nat}
set_option maxHeartbeats 2000000 in
theorem bm_access_xld (S : Sees w F L m ov gr cr gc cc) {op : Int} {a b : Nat} {c imm s : Int} (ha : a ≤ 15) (hb : b ≤ 15) (hs : s = 1 ∨ s = 2 ∨ s = 4) (h : (m.find (wd (m.r b + imm)) s 1).2 = 0) (hm : 4026531840 ≤ (m.find (wd (m.r b + imm)) s 1).1) (h4 : s = 4) (ho : uok ((m.find (wd (m.r b + imm)) s 1).1 - 4026531840) = true) :
    Calls Tryz.prog 115 #[.pointer (some ⟨L.h, 0, none⟩), .agg #[i64 op, i64 (a : Int), i64 (b : Int), i64 c, i64 imm], i64 s, i64 1] w fun e w' => e = .returned (.tuple #[]) ∧ Step F (Bm L ((({ m with rx := ulr m.rx ((m.find (wd (m.r b + imm)) s 1).1 - 4026531840) } : Ma)).set a (lod op (ulv m.rx ((m.find (wd (m.r b + imm)) s 1).1 - 4026531840))))) w w' := by
  have hvw : Wd (wd (m.r b + imm)) := wdb _
  have hadd := add_says (m.r b) imm
  generalize wd (m.r b + imm) = va at *
  have k23 : ∀ u, Below w.heap.size w u → u.cell? ⟨L.h, 23, none⟩ = some (.slice (some ⟨gr, 0, none⟩) 16 cr) := fun u b => (S.later b).c23
  have k3 : ∀ u, Below w.heap.size w u → u.cell? ⟨L.h, 3, none⟩ = some (.pointer (some ⟨L.hm, 0, none⟩)) := fun u b => (S.later b).c3
  have n23 := k23 _ (Below.refl _ _)
  have a23 := fun o => k23 _ (Below.alloc (Below.refl w.heap.size w) (Nat.le_refl _) o)
  have kb : ∀ u, Below w.heap.size w u → u.cell? ⟨gr, b, none⟩ = some (i64 (m.r b)) := fun u x => (S.later x).rr b (by omega)
  have ka : ∀ u, Below w.heap.size w u → u.cell? ⟨gr, a, none⟩ = some (i64 (m.r a)) := fun u x => (S.later x).rr a (by omega)
  have hBx : InsAt (w.alloc (.cells #[i64 op, i64 (a : Int), i64 (b : Int), i64 c, i64 imm] 47)) w.heap.size op a b c imm := heap_alloc_new _ _
  have hb1 : ∀ o, Below w.heap.size w (w.alloc o) := fun o => (Below.refl _ w).alloc (Nat.le_refl _) o
  have hb2 : ∀ o n, Below w.heap.size w ((w.alloc o).drewN n) := fun o n => below_drewN (hb1 o) n
  have hB2 : ∀ n, InsAt ((w.alloc (.cells #[i64 op, i64 (a : Int), i64 (b : Int), i64 c, i64 imm] 47)).drewN n) w.heap.size op a b c imm := fun n => hBx
  have ab := fun o => kb _ (hb1 o)
  have hf : ∀ u, Below w.heap.size w u → InsAt u w.heap.size op a b c imm → Calls Tryz.prog 86 #[.pointer (some ⟨L.h, 0, none⟩), i64 va, i64 s, i64 1] u fun e w' => e = findE m va s 1 ∧ Below w.heap.size w w' ∧ InsAt w' w.heap.size op a b c imm := fun u x y =>
    (bm_find (S.later x) hvw hs).mono fun e w' h => ⟨h.1, x.trans (h.2.mono x.size), y.kept h.2⟩
  have hE : findE m va s 1 = .returned (i64 (m.find va s 1).1) := by unfold findE; rw [if_pos h]
  rw [hE] at hf
  have hpw := (find_w S.fine va s 1).1
  have f3 : ∀ u, Below w.heap.size w u → u.cell? ⟨L.h, 3, none⟩ = some (.pointer (some ⟨L.hm, 0, none⟩)) := k3
  have hlt := S.lt
  have hc : ∀ u, Below w.heap.size w u → InsAt u w.heap.size op a b c imm → Calls Tryz.prog 219 #[.agg #[.pointer (some ⟨L.h, 4, none⟩)], i64 (m.find va s 1).1, i64 s] u fun e w' => e = .returned (.tuple #[i64 (ulv m.rx ((m.find va s 1).1 - 4026531840)), .bool true]) ∧ Step F (Bm L ({ m with rx := ulr m.rx ((m.find va s 1).1 - 4026531840) } : Ma)) w w' ∧ InsAt w' w.heap.size op a b c imm := fun u x y =>
    (bm_line_load (S.later x) _ _ hpw).mono fun e w' h => ⟨by rw [h.1, if_pos h4, ho, decide_eq_true h4]; rfl, by have h2 := Step.after x h.2; rw [if_pos h4] at h2; exact h2, (h.2.kept (Array.getElem?_eq_some_iff.1 y).1 (fun hF => by have := hlt _ hF; omega)).trans y⟩
  have hms := mx_load
  have hna := nx_load
  have hge : decide (4026531840 ≤ (m.find va s 1).1) = true := decide_eq_true (by omega)
  have hset : ∀ w3, Step F (Bm L ({ m with rx := ulr m.rx ((m.find va s 1).1 - 4026531840) } : Ma)) w w3 → Calls Tryz.prog 80 #[.pointer (some ⟨L.h, 0, none⟩), i64 (a : Int), i64 (lod op (ulv m.rx ((m.find va s 1).1 - 4026531840)))] w3 fun e w' => e = .returned (.tuple #[]) ∧ Step F (Bm L ((({ m with rx := ulr m.rx ((m.find (va) s 1).1 - 4026531840) } : Ma)).set a (lod op (ulv m.rx ((m.find (va) s 1).1 - 4026531840))))) w w' := fun w3 x =>
    bm_set' x (by omega) (by omega) (lod_w op (ulv_w S.fine.br S.fine.bl _))
  have hld := loaded_says op (ulv m.rx ((m.find va s 1).1 - 4026531840))
  clear S hE h
  generalize (((({ m with rx := ulr m.rx ((m.find (va) s 1).1 - 4026531840) } : Ma)).set a (lod op (ulv m.rx ((m.find (va) s 1).1 - 4026531840)))) : Ma) = m' at *
  generalize (({ m with rx := ulr m.rx ((m.find va s 1).1 - 4026531840) } : Ma) : Ma) = m1 at *
  generalize lod op (ulv m.rx ((m.find va s 1).1 - 4026531840)) = lv at *
  generalize (m.find va s 1).1 = pa at *
  generalize ulv m.rx (pa - 4026531840) = uv at *
  generalize lod op uv = lv at *
  generalize m1.set a lv = m2 at *
  clear h4 ho hlt
  generalize m.r b = rb at *
  go_enter Tryz.func115, Tryz.ntmps115
  go_wp2
  go_quiet ((go_at_call 40; with_reducible exact Calls.quiet_of_same ((hadd _).mono (fun _ _ h => ⟨h.1, h.2.symm⟩))))
  go_wp2_with (go_at_call 86; refine (hf _ (hb2 _ _) (hB2 _)).mono ?_; rintro e w1 ⟨rfl, x1, y1⟩; have z3 := f3 _ x1; have z23 := k23 _ x1; have za := ka _ x1; obtain ⟨i0, i1, i2, i3, i4⟩ := y1.cells)
  clear k23 k3 n23 a23 hBx hb1 hb2 hB2 hf f3
  go_wp2_with (go_at_call 219; refine (hc _ x1 y1).mono ?_; rintro e w2 ⟨rfl, s2, y2⟩; obtain ⟨l0, l1, -, -, -⟩ := y2.cells)
  have b2 : Below w2.heap.size w2 w2.drew := (Below.refl _ _).drew
  go_region_with (first
    | (go_at_call 137; refine (hld _).mono ?_; rintro e w3 ⟨rfl, b3⟩; have b4 : Below w2.heap.size w2 w3 := b2.trans (b3.mono b2.size); obtain ⟨j0, j1, -, -, -⟩ := (y2.kept b4).cells; have s3 := s2.later b4)
    | (go_at_call 80; refine (hset _ s3).mono ?_; rintro e w4 ⟨rfl, s4⟩))
  all_goals
    go_wp2_with fail
    go_end0
    exact ⟨rfl, s4⟩
end
end Go.Proofs.YtfcmodllbhpniaaGreatDoor.Ser
set_option maxRecDepth 100000
namespace Go.Proofs.YtfcmodllbhpniaaGreatDoor.Ser
open Go.Proofs.YtfcmodllbhpniaaGreatDoor
open Go.ChangeShapes Go.WideShapes Go.ChangeAt Go.RowKit
section
variable {w : World} {F : Nat → Prop} {L : Lay} {m : Ma} {ov : Value} {gr cr gc cc : Nat}
set_option maxHeartbeats 2000000 in
theorem bm_access_xldno (S : Sees w F L m ov gr cr gc cc) {op : Int} {a b : Nat} {c imm s : Int} (ha : a ≤ 15) (hb : b ≤ 15) (hs : s = 1 ∨ s = 2 ∨ s = 4) (h : (m.find (wd (m.r b + imm)) s 1).2 = 0) (hm : 4026531840 ≤ (m.find (wd (m.r b + imm)) s 1).1) (h4 : (decide (s = 4) && uok ((m.find (wd (m.r b + imm)) s 1).1 - 4026531840)) = false) :
    Calls Tryz.prog 115 #[.pointer (some ⟨L.h, 0, none⟩), .agg #[i64 op, i64 (a : Int), i64 (b : Int), i64 c, i64 imm], i64 s, i64 1] w fun e w' => e = trapE 4 (wd (m.r b + imm)) ∧ Step F (Bm L m) w w' := by
  have hvw : Wd (wd (m.r b + imm)) := wdb _
  have hadd := add_says (m.r b) imm
  generalize wd (m.r b + imm) = va at *
  have k23 : ∀ u, Below w.heap.size w u → u.cell? ⟨L.h, 23, none⟩ = some (.slice (some ⟨gr, 0, none⟩) 16 cr) := fun u b => (S.later b).c23
  have k3 : ∀ u, Below w.heap.size w u → u.cell? ⟨L.h, 3, none⟩ = some (.pointer (some ⟨L.hm, 0, none⟩)) := fun u b => (S.later b).c3
  have n23 := k23 _ (Below.refl _ _)
  have a23 := fun o => k23 _ (Below.alloc (Below.refl w.heap.size w) (Nat.le_refl _) o)
  have kb : ∀ u, Below w.heap.size w u → u.cell? ⟨gr, b, none⟩ = some (i64 (m.r b)) := fun u x => (S.later x).rr b (by omega)
  have ka : ∀ u, Below w.heap.size w u → u.cell? ⟨gr, a, none⟩ = some (i64 (m.r a)) := fun u x => (S.later x).rr a (by omega)
  have hBx : InsAt (w.alloc (.cells #[i64 op, i64 (a : Int), i64 (b : Int), i64 c, i64 imm] 47)) w.heap.size op a b c imm := heap_alloc_new _ _
  have hb1 : ∀ o, Below w.heap.size w (w.alloc o) := fun o => (Below.refl _ w).alloc (Nat.le_refl _) o
  have hb2 : ∀ o n, Below w.heap.size w ((w.alloc o).drewN n) := fun o n => below_drewN (hb1 o) n
  have hB2 : ∀ n, InsAt ((w.alloc (.cells #[i64 op, i64 (a : Int), i64 (b : Int), i64 c, i64 imm] 47)).drewN n) w.heap.size op a b c imm := fun n => hBx
  have ab := fun o => kb _ (hb1 o)
  have hf : ∀ u, Below w.heap.size w u → InsAt u w.heap.size op a b c imm → Calls Tryz.prog 86 #[.pointer (some ⟨L.h, 0, none⟩), i64 va, i64 s, i64 1] u fun e w' => e = findE m va s 1 ∧ Below w.heap.size w w' ∧ InsAt w' w.heap.size op a b c imm := fun u x y =>
    (bm_find (S.later x) hvw hs).mono fun e w' h => ⟨h.1, x.trans (h.2.mono x.size), y.kept h.2⟩
  have hE : findE m va s 1 = .returned (i64 (m.find va s 1).1) := by unfold findE; rw [if_pos h]
  rw [hE] at hf
  have hpw := (find_w S.fine va s 1).1
  have f3 : ∀ u, Below w.heap.size w u → u.cell? ⟨L.h, 3, none⟩ = some (.pointer (some ⟨L.hm, 0, none⟩)) := k3
  have hlt := S.lt
  have hc : ∀ u, Below w.heap.size w u → InsAt u w.heap.size op a b c imm → Calls Tryz.prog 219 #[.agg #[.pointer (some ⟨L.h, 4, none⟩)], i64 (m.find va s 1).1, i64 s] u fun e w' => e = .returned (.tuple #[i64 (if s = 4 then ulv m.rx ((m.find va s 1).1 - 4026531840) else 0), .bool false]) ∧ Step F (Bm L m) w w' ∧ InsAt w' w.heap.size op a b c imm := fun u x y =>
    (bm_line_load (S.later x) _ _ hpw).mono fun e w' h => ⟨by rw [h.1, h4], by have h2 := Step.after x h.2; split at h2; rename_i e4; subst e4; rw [show ulr m.rx ((m.find va 4 1).1 - 4026531840) = m.rx from by unfold ulr; rw [if_neg (fun e => by rw [e] at h4; simp [uok] at h4)]] at h2; exact h2; exact h2, (h.2.kept (Array.getElem?_eq_some_iff.1 y).1 (fun hF => by have := hlt _ hF; omega)).trans y⟩
  have hms := mx_load
  have hna := nx_load
  have hge : decide (4026531840 ≤ (m.find va s 1).1) = true := decide_eq_true (by omega)
  clear S hE h
  generalize (if s = 4 then ulv m.rx ((m.find va s 1).1 - 4026531840) else 0) = lv at *
  generalize (m.find va s 1).1 = pa at *
  generalize m.r b = rb at *
  go_enter Tryz.func115, Tryz.ntmps115
  go_wp2
  go_quiet ((go_at_call 40; with_reducible exact Calls.quiet_of_same ((hadd _).mono (fun _ _ h => ⟨h.1, h.2.symm⟩))))
  go_wp2_with (go_at_call 86; refine (hf _ (hb2 _ _) (hB2 _)).mono ?_; rintro e w1 ⟨rfl, x1, y1⟩; have z3 := f3 _ x1; have z23 := k23 _ x1; have za := ka _ x1; obtain ⟨i0, i1, i2, i3, i4⟩ := y1.cells)
  clear k23 k3 n23 a23 hBx hb1 hb2 hB2 hf f3
  go_wp2_with (go_at_call 219; refine (hc _ x1 y1).mono ?_; rintro e w2 ⟨rfl, s2, y2⟩; obtain ⟨l0, l1, -, -, -⟩ := y2.cells)
  exact ⟨rfl, rfl, s2⟩
end
end Go.Proofs.YtfcmodllbhpniaaGreatDoor.Ser
