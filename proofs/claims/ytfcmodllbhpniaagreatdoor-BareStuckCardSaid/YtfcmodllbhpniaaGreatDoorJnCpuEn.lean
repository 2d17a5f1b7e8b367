/-
  copied of package cpu. | Enter and Leave of package cpu (laid by mkenter.py).
-/
import Derived.Test.YtfcmodllbhpniaaGreatDoorJnCpuS
import Derived.Test.YtfcmodllbhpniaaGreatDoorJnWords
import Derived.OwnWalk
import Derived.Deep.RegionWith
set_option linter.unusedVariables false
set_option maxRecDepth 100000
namespace Go.Proofs.YtfcmodllbhpniaaGreatDoor.Ser
open Go.Proofs.YtfcmodllbhpniaaGreatDoor
open Go.ChangeShapes Go.WideShapes Go.ChangeAt Go.RowKit
/-- The control registers, none missing. -/
def pad (C : List Int) : List Int := C ++ List.replicate (11 - C.length) 0
theorem pad_length (C : List Int) : (pad C).length = max C.length 11 := by simp [pad]; omega
/-- A box of six cells. -/
def Box6 (w : World) (b : Nat) (r : Value) (pc : Int) (c : Value) (h k : Bool) (o : Value) : Prop := w.heap[b]? = some (.cells #[r, i64 pc, c, .bool h, .bool k, o] 55)
section
variable {w w' : World} {b : Nat} {r c o : Value} {pc : Int} {h k : Bool}
theorem Box6.lt (x : Box6 w b r pc c h k o) : b < w.heap.size := (Array.getElem?_eq_some_iff.1 x).1
theorem Box6.kept (x : Box6 w b r pc c h k o) {B : Nat} (hb : Below B w w') (hB : b < B) : Box6 w' b r pc c h k o := (hb.block b hB).trans x
theorem Box6.c0 (x : Box6 w b r pc c h k o) : w.cell? ⟨b, 0, none⟩ = some r := by rw [cell_of_row _ _ 0 _ _ _ x]; rfl
theorem Box6.c1 (x : Box6 w b r pc c h k o) : w.cell? ⟨b, 1, none⟩ = some (i64 pc) := by rw [cell_of_row _ _ 1 _ _ _ x]; rfl
theorem Box6.c2 (x : Box6 w b r pc c h k o) : w.cell? ⟨b, 2, none⟩ = some c := by rw [cell_of_row _ _ 2 _ _ _ x]; rfl
theorem Box6.c3 (x : Box6 w b r pc c h k o) : w.cell? ⟨b, 3, none⟩ = some (.bool h) := by rw [cell_of_row _ _ 3 _ _ _ x]; rfl
theorem Box6.c4 (x : Box6 w b r pc c h k o) : w.cell? ⟨b, 4, none⟩ = some (.bool k) := by rw [cell_of_row _ _ 4 _ _ _ x]; rfl
theorem Box6.c5 (x : Box6 w b r pc c h k o) : w.cell? ⟨b, 5, none⟩ = some o := by rw [cell_of_row _ _ 5 _ _ _ x]; rfl
theorem Box6.free (x : Box6 w b r pc c h k o) (j : Nat) : w.frozen? ⟨b, j, none⟩ = false := by unfold Box6 at x; simp [World.frozen?, x]
theorem Box6.set0 (x : Box6 w b r pc c h k o) (v : Value) : Box6 (w.setCell ⟨b, 0, none⟩ v) b v pc c h k o := setCell_row x 0 v
theorem Box6.set1 (x : Box6 w b r pc c h k o) (v : Int) : Box6 (w.setCell ⟨b, 1, none⟩ (i64 v)) b r v c h k o := setCell_row x 1 _
theorem Box6.set2 (x : Box6 w b r pc c h k o) (v : Value) : Box6 (w.setCell ⟨b, 2, none⟩ v) b r pc v h k o := setCell_row x 2 v
theorem Box6.set3 (x : Box6 w b r pc c h k o) (v : Bool) : Box6 (w.setCell ⟨b, 3, none⟩ (.bool v)) b r pc c v k o := setCell_row x 3 _
theorem Box6.set4 (x : Box6 w b r pc c h k o) (v : Bool) : Box6 (w.setCell ⟨b, 4, none⟩ (.bool v)) b r pc c h v o := setCell_row x 4 _
theorem Box6.set5 (x : Box6 w b r pc c h k o) (v : Value) : Box6 (w.setCell ⟨b, 5, none⟩ v) b r pc c h k v := setCell_row x 5 v
theorem Box6.off (x : Box6 w b r pc c h k o) {g : Nat} (hg : b ≠ g) (j : Nat) (v : Value) : Box6 (w.setCell ⟨g, j, none⟩ v) b r pc c h k o := (Below.heap_setCell _ _ _ _ hg).trans x
theorem Box6.new (w : World) (r : Value) (pc : Int) (c : Value) (h k : Bool) (o : Value) : Box6 (w.alloc (.cells #[r, i64 pc, c, .bool h, .bool k, o] 55)) w.heap.size r pc c h k o := heap_alloc_new _ _
theorem Box6.drew (x : Box6 w b r pc c h k o) : Box6 w.drew b r pc c h k o := x
end
/-- The box of the state at hand, the box of the answer. -/
structure Two6 (w wx : World) (r : Value) (pc : Int) (c : Value) (h k : Bool) (o : Value) : Prop where
  x : Box6 wx w.heap.size r pc c h k o
  y : Box6 wx (w.heap.size + 1) (.slice none 0 0) 0 (.slice none 0 0) false false (.slice none 0 0)
  b : Below w.heap.size w wx
theorem Two6.start (w : World) (r : Value) (pc : Int) (c : Value) (h k : Bool) (o : Value) : Two6 w ((w.alloc (.cells #[r, i64 pc, c, .bool h, .bool k, o] 55)).alloc (.cells #[.slice none 0 0, i64 0, .slice none 0 0, .bool false, .bool false, .slice none 0 0] 55)) r pc c h k o := by
  have hs : (w.alloc (.cells #[r, i64 pc, c, .bool h, .bool k, o] 55)).heap.size = w.heap.size + 1 := by simp
  have y := Box6.new (w.alloc (.cells #[r, i64 pc, c, .bool h, .bool k, o] 55)) (.slice none 0 0) 0 (.slice none 0 0) false false (.slice none 0 0)
  rw [hs] at y
  exact ⟨(Below.heap_alloc _ _ _ (by rw [hs]; omega)).trans (Box6.new w r pc c h k o), y, ((Below.refl _ w).alloc (Nat.le_refl _) _).alloc (by rw [hs]; omega) _⟩
theorem Two6.lt {w wx : World} {r c o : Value} {pc : Int} {h k : Bool} (T : Two6 w wx r pc c h k o) : w.heap.size + 2 ≤ wx.heap.size := T.y.lt
theorem Two6.call {w wx w' : World} {r c o : Value} {pc : Int} {h k : Bool} (T : Two6 w wx r pc c h k o) (hb : Below wx.heap.size wx w') : Two6 w w' r pc c h k o :=
  ⟨T.x.kept hb T.x.lt, T.y.kept hb T.y.lt, T.b.trans (hb.mono (by have := T.lt; omega))⟩
theorem Two6.set0 {w wx : World} {r c o : Value} {pc : Int} {h k : Bool} (T : Two6 w wx r pc c h k o) (v : Value) : Two6 w (wx.setCell ⟨w.heap.size, 0, none⟩ v) v pc c h k o := ⟨T.x.set0 v, T.y.off (by omega) _ _, T.b.setCell (Nat.le_refl _) _⟩
theorem Two6.set1 {w wx : World} {r c o : Value} {pc : Int} {h k : Bool} (T : Two6 w wx r pc c h k o) (v : Int) : Two6 w (wx.setCell ⟨w.heap.size, 1, none⟩ (i64 v)) r v c h k o := ⟨T.x.set1 v, T.y.off (by omega) _ _, T.b.setCell (Nat.le_refl _) _⟩
theorem Two6.set2 {w wx : World} {r c o : Value} {pc : Int} {h k : Bool} (T : Two6 w wx r pc c h k o) (v : Value) : Two6 w (wx.setCell ⟨w.heap.size, 2, none⟩ v) r pc v h k o := ⟨T.x.set2 v, T.y.off (by omega) _ _, T.b.setCell (Nat.le_refl _) _⟩
theorem Two6.set5 {w wx : World} {r c o : Value} {pc : Int} {h k : Bool} (T : Two6 w wx r pc c h k o) (v : Value) : Two6 w (wx.setCell ⟨w.heap.size, 5, none⟩ v) r pc c h k v := ⟨T.x.set5 v, T.y.off (by omega) _ _, T.b.setCell (Nat.le_refl _) _⟩
theorem Two6.off {w wx : World} {r c o : Value} {pc : Int} {h k : Bool} (T : Two6 w wx r pc c h k o) {g : Nat} (hg : w.heap.size + 2 ≤ g) (j : Nat) (v : Value) : Two6 w (wx.setCell ⟨g, j, none⟩ v) r pc c h k o := ⟨T.x.off (by omega) _ _, T.y.off (by omega) _ _, T.b.setCell (by show w.heap.size ≤ g; omega) _⟩
/-- All six cells of a box written. -/
abbrev six (wx : World) (b : Nat) (v0 v1 v2 v3 v4 v5 : Value) : World := (((((wx.setCell ⟨b, 0, none⟩ v0).setCell ⟨b, 1, none⟩ v1).setCell ⟨b, 2, none⟩ v2).setCell ⟨b, 3, none⟩ v3).setCell ⟨b, 4, none⟩ v4).setCell ⟨b, 5, none⟩ v5
theorem six_own {E : TypeId} {k : IntKind} {wx : World} {b B : Nat} {v : Value} {xs : List Int} (h : OwnK E k wx B v xs) (hb : b < B) (v0 v1 v2 v3 v4 v5 : Value) : OwnK E k (six wx b v0 v1 v2 v3 v4 v5) B v xs := by
  have hn : v.ownBlock ≠ some b := fun e => by have := (h.lt b e).1; omega
  exact ownK_off (ownK_off (ownK_off (ownK_off (ownK_off (ownK_off h hn _ _) hn _ _) hn _ _) hn _ _) hn _ _) hn _ _
theorem six_below {w wx : World} {B b : Nat} (h : Below B w wx) (hb : B ≤ b) (v0 v1 v2 v3 v4 v5 : Value) : Below B w (six wx b v0 v1 v2 v3 v4 v5) :=
  (((((h.setCell hb _).setCell hb _).setCell hb _).setCell hb _).setCell hb _).setCell hb _
theorem StO.six {wx : World} {b B : Nat} {r c o : Value} {s : St} (h : StO wx B r c o s) (hb : b < B) (v0 v1 v2 v3 v4 v5 : Value) : StO (six wx b v0 v1 v2 v3 v4 v5) B r c o s :=
  ⟨six_own h.or hb _ _ _ _ _ _, six_own h.oc hb _ _ _ _ _ _, six_own h.oo hb _ _ _ _ _ _, h.nr, h.no⟩
theorem Box6.six {w : World} {b : Nat} {r c o : Value} {pc : Int} {h k : Bool} (x : Box6 w b r pc c h k o) (r' : Value) (pc' : Int) (c' : Value) (h' k' : Bool) (o' : Value) : Box6 (six w b r' (i64 pc') c' (.bool h') (.bool k') o') b r' pc' c' h' k' o' :=
  (((((x.set0 r').set1 pc').set2 c').set3 h').set4 k').set5 o'
/-- 'make([]int, m)'. -/
theorem make_run (w : World) (m : Nat) (hm : m ≤ 11) : ∃ w', (Instr.makeSlice 48 (i64 m) (i64 m)).run Tryz.prog w = .ok (.slice (some ⟨w.heap.size, 0, none⟩) m m) w' ∧ Lie .i64 w' w'.heap.size (some ⟨w.heap.size, 0, none⟩) m m (List.replicate m 0) ∧ Below w.heap.size w w' := by
  obtain ⟨bb, hbb, hinfo⟩ := kdI.info
  obtain ⟨i, hi, hz0, hz1, hz2⟩ := info_parts hinfo
  have hby : i.bytes * m ≤ 8 * 11 := Nat.mul_le_mul (by omega) hm
  obtain ⟨w', h1, h2, h3⟩ := run_make_full (P := Tryz.prog) w w.heap.size 48 3 i _ 1 Tryz.underlying48 hi hz0 hz1 .i64 .i64 m (by omega) (by unfold maxLen; omega) (Nat.le_refl _)
  have e : (madeCells (Value.int .i64 0).cells (m * 1)).toList = kL .i64 (List.replicate m 0) := by
    apply List.ext_getElem
    · simp [madeCells]
    · intro j a b
      simp [madeCells, Value.cells, Nat.mod_one]
  have h4 : OwnK 3 .i64 w' w.heap.size (.slice (some ⟨w.heap.size, 0, none⟩) m m) (List.replicate m 0) := by
    unfold OwnK
    rw [List.length_replicate, ← e]
    exact h2
  obtain ⟨p, c, e1, -, h5⟩ := ownK_lie h4
  rw [List.length_replicate] at e1 h5
  injection e1 with e2 e3 e4
  subst e2; subst e4
  refine ⟨w', h1, h5, ⟨h3.os, h3.tape, h3.output, h3.size, fun g hg => h3.block g hg (by simp)⟩⟩
set_option maxRecDepth 100000 in
theorem copied_says {w : World} {v : Value} {s : St} (A : StL w w.heap.size v s) (hf : s.R.length ≤ 1000 ∧ s.C.length ≤ 1000 ∧ s.O.length ≤ 10000) :
    Calls Tryz.prog 109 #[v] w fun e w' => ∃ r c o, e = .returned (stV r c o { s with C := pad s.C }) ∧ StO w' w.heap.size r c o { s with C := pad s.C } ∧ Below w.heap.size w w' := by
  obtain ⟨rp, rn, rc, cp, cn, cc, op, on, oc, rfl, h1, h2, h3⟩ := A
  obtain ⟨f1, f2, f3⟩ := hf
  rw [h1.len] at f1; rw [h2.len] at f2; rw [h3.len] at f3
  obtain ⟨m, hm⟩ : ∃ m : Nat, m = 11 - cn := ⟨_, rfl⟩
  have hM : (if (cn : Int) < 11 then 11 - (cn : Int) else 0) = (m : Int) := by split <;> omega
  have hm11 : m ≤ 11 := by omega
  have HM := Lib.hid hm
  clear hm
  have hT := Two6.start w (.slice rp rn rc) s.pc (.slice cp cn cc) s.h s.k (.slice op on oc)
  go_enter Tryz.func109, Tryz.ntmps109
  go_upto_region 2 with fail
  obtain ⟨w2, hw2⟩ : ∃ w2, w2 = ((w.alloc (.cells #[.slice rp rn rc, i64 s.pc, .slice cp cn cc, .bool s.h, .bool s.k, .slice op on oc] 55)).alloc (.cells #[.slice none 0 0, i64 0, .slice none 0 0, .bool false, .bool false, .slice none 0 0] 55)) := ⟨_, rfl⟩
  rw [← hw2] at hT ⊢
  clear hw2
  go_cut [1] from 3 (fun s1 wx => ∃ p n q, s1 = .pointer (some ⟨w.heap.size, 0, none⟩) ∧ Two6 w wx (.slice rp rn rc) s.pc (.slice p n q) s.h s.k (.slice op on oc) ∧ OwnK 3 .i64 wx (w.heap.size + 2) (.slice p n q) (pad s.C))
  case first =>
    obtain ⟨wm, hmk, hL, hbm⟩ := make_run w2.drew m hm11
    have hbm' : Below w2.heap.size w2 wm := (Below.refl _ w2).drew.trans hbm
    have hTm := hT.call hbm'
    have hTb := hTm.call ((Below.refl _ wm).alloc (Nat.le_refl _) (.cells #[.slice cp cn cc, .slice (some ⟨w2.drew.heap.size, 0, none⟩) m m] 48))
    have hbb := (Below.refl wm.heap.size wm).alloc (Nat.le_refl _) (.cells #[.slice cp cn cc, .slice (some ⟨w2.drew.heap.size, 0, none⟩) m m] 48)
    have hsb : (wm.alloc (.cells #[.slice cp cn cc, .slice (some ⟨w2.drew.heap.size, 0, none⟩) m m] 48)).heap.size = wm.heap.size + 1 := by simp
    have hnb := heap_alloc_new wm (.cells #[.slice cp cn cc, .slice (some ⟨w2.drew.heap.size, 0, none⟩) m m] 48)
    have hc := concat_two (w := wm.alloc (.cells #[.slice cp cn cc, .slice (some ⟨w2.drew.heap.size, 0, none⟩) m m] 48)) (h := wm.heap.size) (by omega) (by rw [cell_of_row _ _ 0 _ _ _ hnb]; rfl) (by rw [cell_of_row _ _ 1 _ _ _ hnb]; rfl)
      ((h2.kept hTb.b (Nat.le_refl _)).wide hTb.b.size) ((hL.kept hbb (Nat.le_refl _)).wide hbb.size) (by have := HM.out; omega) (by omega)
    have c2 := hT.x.c2
    have c2m := hTm.x.c2
    have K : ∀ c' w4, OwnK 3 .i64 w4 (wm.alloc (.cells #[.slice cp cn cc, .slice (some ⟨w2.drew.heap.size, 0, none⟩) m m] 48)).heap.size c' (s.C ++ List.replicate m 0) → Below (wm.alloc (.cells #[.slice cp cn cc, .slice (some ⟨w2.drew.heap.size, 0, none⟩) m m] 48)).heap.size (wm.alloc (.cells #[.slice cp cn cc, .slice (some ⟨w2.drew.heap.size, 0, none⟩) m m] 48)) w4 →
        w4.cell? ⟨w.heap.size, 2, none⟩ = some (.slice cp cn cc) ∧ w4.frozen? ⟨w.heap.size, 2, none⟩ = false ∧ Two6 w (w4.setCell ⟨w.heap.size, 2, none⟩ c') (.slice rp rn rc) s.pc c' s.h s.k (.slice op on oc) ∧ OwnK 3 .i64 (w4.setCell ⟨w.heap.size, 2, none⟩ c') (w.heap.size + 2) c' (pad s.C) := by
      intro c' w4 k1 k2
      have T4 := hTb.call k2
      have e : s.C ++ List.replicate m 0 = pad s.C := by unfold pad; rw [h2.len, HM.out]
      rw [e] at k1
      have k3 := ownK_mono (B' := w.heap.size + 2) k1 (by have := hTm.lt; omega)
      exact ⟨T4.x.c2, T4.x.free 2, T4.set2 c', ownK_off k3 (fun e => by have := (k3.lt _ e).1; omega) _ _⟩
    have HK := Lib.hid K
    clear K hT hTm hTb hbb hsb hnb h1 h2 h3 hL hbm hbm'
    go_region_with (go_at_call 135; refine hc.mono ?_; rintro e w4 ⟨p', n', c', rfl, -, k1, k2⟩; obtain ⟨x1, x2, x3, x4⟩ := HK.out _ w4 k1 k2; clear k1 k2)
    all_goals
      go_wp2_with fail
      go_meet
      case rel => exact ⟨_, _, _, rfl, x3, x4⟩
  case rest =>
    obtain ⟨p0, n0, q0, rfl, T, OC⟩ := hcut
    have H1 := Lib.hid h1; have H3 := Lib.hid h3; have HT := Lib.hid T; have HO := Lib.hid OC
    have d0 := T.x.c0
    have hr := clone_i ((h1.kept T.b (Nat.le_refl _)).wide T.b.size) (by omega)
    clear h1 h2 h3 T OC hT
    go_wp2_with (first
      | (go_at_call 28; refine hb.out.mono ?_; rintro e w6 ⟨p2, n2, q2, rfl, -, o2, b2⟩; have T6 := T5.out.call b2; have y5 := T6.x.c5; have z5 := T6.x.free 5; have T7 := Lib.hid (T6.set5 (.slice p2 n2 q2)); have b0 := T7.out.x.c0; have b1' := T7.out.x.c1; have b2' := T7.out.x.c2; have b3 := T7.out.x.c3; have b4 := T7.out.x.c4; have b5 := T7.out.x.c5; have e0 := T7.out.y.c0; have e1 := T7.out.y.c1; have e2 := T7.out.y.c2; have e3 := T7.out.y.c3; have e4 := T7.out.y.c4; have e5 := T7.out.y.c5; have g0 := T7.out.y.free 0; have g1 := T7.out.y.free 1; have g2 := T7.out.y.free 2; have g3 := T7.out.y.free 3; have g4 := T7.out.y.free 4; have g5 := T7.out.y.free 5; have O2 := Lib.hid o2; have B2 := Lib.hid b2; clear o2 b2 T6)
      | (go_at_call 43; refine hr.mono ?_; rintro e w4 ⟨p1, n1, q1, rfl, -, o1, b1⟩; have T4 := HT.out.call b1; have y0 := T4.x.c0; have z0 := T4.x.free 0; have T5 := Lib.hid (T4.set0 (.slice p1 n1 q1)); have x5 := T5.out.x.c5; have hb := Lib.hid (clone_b ((H3.out.kept T5.out.b (Nat.le_refl _)).wide T5.out.b.size) (by omega)); have O1 := Lib.hid o1; have B1 := Lib.hid b1; clear o1 b1 T4))
    have lz := HT.out.lt
    have l4 := B1.out.size
    have hoff : ∀ {E : TypeId} {k : IntKind} {u : World} {v : Value} {xs : List Int} (j : Nat) (x : Value), OwnK E k u (w.heap.size + 2) v xs → OwnK E k (u.setCell ⟨w.heap.size, j, none⟩ x) (w.heap.size + 2) v xs :=
      fun j x h => ownK_off h (fun e => by have := (h.lt _ e).1; omega) _ _
    have C4 := hoff 0 (.slice p1 n1 q1) (ownK_below HO.out B1.out)
    have C7 := hoff 5 (.slice p2 n2 q2) (ownK_below C4 B2.out)
    have R4 := hoff 0 (.slice p1 n1 q1) (ownK_mono O1.out lz)
    have R7 := hoff 5 (.slice p2 n2 q2) (ownK_below R4 B2.out)
    have lz5 := T5.out.lt
    have O7 := hoff 5 (.slice p2 n2 q2) (ownK_mono O2.out lz5)
    have hS : StO (w6.setCell ⟨w.heap.size, 5, none⟩ (.slice p2 n2 q2)) (w.heap.size + 2) (.slice p1 n1 q1) (.slice p0 n0 q0) (.slice p2 n2 q2) { s with C := pad s.C } := by
      refine ⟨R7, C7, O7, fun g hg hg2 => ?_, fun g hg hg2 => ?_⟩
      · have a1 := (HO.out.lt g hg).2
        have a2 := (O1.out.lt g hg2).1
        omega
      · have a1 := (HO.out.lt g hg).2
        have a2 := (O2.out.lt g hg2).1
        simp at a2
        omega
    have Y := T7.out.y.six (.slice p1 n1 q1) s.pc (.slice p0 n0 q0) s.h s.k (.slice p2 n2 q2)
    have y0 := Y.c0
    have y1 := Y.c1
    have y2 := Y.c2
    have y3 := Y.c3
    have y4 := Y.c4
    have y5 := Y.c5
    exact bodyPost_ret (v := .agg #[.slice p1 n1 q1, i64 s.pc, .slice p0 n0 q0, .bool s.h, .bool s.k, .slice p2 n2 q2]) (by simp [results, Tryz.results109, go_sem, y0, y1, y2, y3, y4, y5]) rfl ⟨_, _, _, rfl, (hS.six (by omega) _ _ _ _ _ _).mono (by omega), six_below T7.out.b (by omega) _ _ _ _ _ _⟩
end Go.Proofs.YtfcmodllbhpniaaGreatDoor.Ser
set_option maxRecDepth 100000
namespace Go.Proofs.YtfcmodllbhpniaaGreatDoor.Ser
open Go.Proofs.YtfcmodllbhpniaaGreatDoor
open Go.ChangeShapes Go.WideShapes Go.ChangeAt Go.RowKit
/-- As a trap leaves it. -/
def enC (s : St) (cause tval : Int) : List Int := (((pad s.C).set 2 (wd s.pc)).set 3 (wd cause)).set 4 (wd tval)
def enS (s : St) (cause tval : Int) : St := { s with C := (enC s cause tval).set 0 (en ((enC s cause tval).getD 0 0)), pc := wd (((enC s cause tval).set 0 (en ((enC s cause tval).getD 0 0))).getD 1 0) }
/-- As sret leaves it. -/
def leC (s : St) : List Int := (pad s.C).set 0 (le ((pad s.C).getD 0 0))
def leS (s : St) : St := { s with C := leC s, pc := wd ((leC s).getD 2 0) }
/-- The state at hand in its box, the answer's box, the rows; what is in blocks of K lies as it lay in w0. -/
structure EnR (w w0 wx : World) (K : Nat → Prop) (bx bz B : Nat) (r c o : Value) (s : St) : Prop where
  x : Box6 wx bx r s.pc c s.h s.k o
  y : Box6 wx bz (.slice none 0 0) 0 (.slice none 0 0) false false (.slice none 0 0)
  S : StO wx B r c o s
  b : Below w.heap.size w wx
  l : w.heap.size ≤ bx ∧ w.heap.size ≤ bz ∧ bx < B ∧ bz < B ∧ bx ≠ bz
  n : 11 ≤ s.C.length
  k : ∀ i, K i → i < B ∧ i ≠ bx ∧ i ≠ bz ∧ wx.heap[i]? = w0.heap[i]?
section
variable {w w0 wx : World} {K : Nat → Prop} {bx bz B g n cc : Nat} {r c o : Value} {s : St}
theorem EnR.form (E : EnR w w0 wx K bx bz B r c o s) : ∃ g cc, c = .slice (some ⟨g, 0, none⟩) s.C.length cc ∧ s.C.length ≤ cc ∧ cc ≤ maxLen := by
  obtain ⟨g, n, cc, e, rfl, h1, h2, -⟩ := E.S.cell (j := 0) (by have := E.n; omega)
  exact ⟨g, cc, e, h1, h2⟩
theorem EnR.at_ (E : EnR w w0 wx K bx bz B r (.slice (some ⟨g, 0, none⟩) n cc) o s) {j : Nat} (hj : j < s.C.length) : wx.cell? ⟨g, j, none⟩ = some (i64 (s.C.getD j 0)) ∧ wx.frozen? ⟨g, j, none⟩ = false ∧
    ∀ x : Int, EnR w w0 (wx.setCell ⟨g, j, none⟩ (i64 x)) K bx bz B r (.slice (some ⟨g, 0, none⟩) n cc) o { s with C := s.C.set j x } := by
  obtain ⟨g', n', cc', e, -, -, -, h3, h4, h5, h6, h7⟩ := E.S.cell hj
  injection e with e1 e2 e3
  injection e1 with e1
  injection e1 with e1
  subst e1
  obtain ⟨l1, l2, l3, l4, l5⟩ := E.l
  refine ⟨h5, h6, fun x => ⟨E.x.off (by omega) _ _, E.y.off (by omega) _ _, h7 x, E.b.setCell (by show w.heap.size ≤ g; omega) _, E.l, by have := E.n; simpa using this, fun i hi => ?_⟩⟩
  obtain ⟨k1, k2, k3, k4⟩ := E.k i hi
  exact ⟨k1, k2, k3, (Below.heap_setCell _ _ _ _ (by show i ≠ g; omega)).trans k4⟩
theorem EnR.drew (E : EnR w w0 wx K bx bz B r c o s) : EnR w w0 wx.drew K bx bz B r c o s :=
  ⟨E.x, E.y, ⟨ownK_kept E.S.or fun _ _ => rfl, ownK_kept E.S.oc fun _ _ => rfl, ownK_kept E.S.oo fun _ _ => rfl, E.S.nr, E.S.no⟩, E.b.drew, E.l, E.n, E.k⟩
theorem EnR.pc (E : EnR w w0 wx K bx bz B r c o s) (p : Int) : EnR w w0 (wx.setCell ⟨bx, 1, none⟩ (i64 p)) K bx bz B r c o { s with pc := p } := by
  obtain ⟨l1, l2, l3, l4, l5⟩ := E.l
  have off : ∀ {T : TypeId} {k : IntKind} {v : Value} {xs : List Int}, OwnK T k wx B v xs → OwnK T k (wx.setCell ⟨bx, 1, none⟩ (i64 p)) B v xs := fun h => ownK_off h (fun e => by have := (h.lt _ e).1; omega) _ _
  refine ⟨E.x.set1 p, E.y.off (fun e => l5 e.symm) _ _, ⟨off E.S.or, off E.S.oc, off E.S.oo, E.S.nr, E.S.no⟩, E.b.setCell l1 _, E.l, E.n, fun i hi => ?_⟩
  obtain ⟨k1, k2, k3, k4⟩ := E.k i hi
  exact ⟨k1, k2, k3, (Below.heap_setCell _ _ _ _ k2).trans k4⟩
theorem EnR.fin (E : EnR w w0 wx K bx bz B r c o s) : Box6 (six wx bz r (i64 s.pc) c (.bool s.h) (.bool s.k) o) bz r s.pc c s.h s.k o ∧ StO (six wx bz r (i64 s.pc) c (.bool s.h) (.bool s.k) o) w.heap.size r c o s ∧ Below w.heap.size w (six wx bz r (i64 s.pc) c (.bool s.h) (.bool s.k) o) := by
  obtain ⟨l1, l2, l3, l4, l5⟩ := E.l
  exact ⟨E.y.six _ _ _ _ _ _, (E.S.six l4 _ _ _ _ _ _).mono (by omega), six_below E.b l2 _ _ _ _ _ _⟩
/-- What the end of the walk asks: the answer's cells, the state's. -/
theorem EnR.cells (E : EnR w w0 wx K bx bz B r c o s) : (wx.cell? ⟨bx, 0, none⟩ = some r ∧ wx.cell? ⟨bx, 1, none⟩ = some (i64 s.pc) ∧ wx.cell? ⟨bx, 2, none⟩ = some c ∧ wx.cell? ⟨bx, 3, none⟩ = some (.bool s.h) ∧ wx.cell? ⟨bx, 4, none⟩ = some (.bool s.k) ∧ wx.cell? ⟨bx, 5, none⟩ = some o) ∧
    (wx.cell? ⟨bz, 0, none⟩ = some (.slice none 0 0) ∧ wx.cell? ⟨bz, 1, none⟩ = some (i64 0) ∧ wx.cell? ⟨bz, 2, none⟩ = some (.slice none 0 0) ∧ wx.cell? ⟨bz, 3, none⟩ = some (.bool false) ∧ wx.cell? ⟨bz, 4, none⟩ = some (.bool false) ∧ wx.cell? ⟨bz, 5, none⟩ = some (.slice none 0 0)) ∧
    (wx.frozen? ⟨bz, 0, none⟩ = false ∧ wx.frozen? ⟨bz, 1, none⟩ = false ∧ wx.frozen? ⟨bz, 2, none⟩ = false ∧ wx.frozen? ⟨bz, 3, none⟩ = false ∧ wx.frozen? ⟨bz, 4, none⟩ = false ∧ wx.frozen? ⟨bz, 5, none⟩ = false) :=
  ⟨⟨E.x.c0, E.x.c1, E.x.c2, E.x.c3, E.x.c4, E.x.c5⟩, ⟨E.y.c0, E.y.c1, E.y.c2, E.y.c3, E.y.c4, E.y.c5⟩, E.y.free 0, E.y.free 1, E.y.free 2, E.y.free 3, E.y.free 4, E.y.free 5⟩
end
theorem Box6.cells {w : World} {b : Nat} {r c o : Value} {pc : Int} {h k : Bool} (x : Box6 w b r pc c h k o) : w.cell? ⟨b, 0, none⟩ = some r ∧ w.cell? ⟨b, 1, none⟩ = some (i64 pc) ∧ w.cell? ⟨b, 2, none⟩ = some c ∧ w.cell? ⟨b, 3, none⟩ = some (.bool h) ∧ w.cell? ⟨b, 4, none⟩ = some (.bool k) ∧ w.cell? ⟨b, 5, none⟩ = some o :=
  ⟨x.c0, x.c1, x.c2, x.c3, x.c4, x.c5⟩
theorem Box6.frees {w : World} {b : Nat} {r c o : Value} {pc : Int} {h k : Bool} (x : Box6 w b r pc c h k o) : w.frozen? ⟨b, 0, none⟩ = false ∧ w.frozen? ⟨b, 1, none⟩ = false ∧ w.frozen? ⟨b, 2, none⟩ = false ∧ w.frozen? ⟨b, 3, none⟩ = false ∧ w.frozen? ⟨b, 4, none⟩ = false ∧ w.frozen? ⟨b, 5, none⟩ = false :=
  ⟨x.free 0, x.free 1, x.free 2, x.free 3, x.free 4, x.free 5⟩
theorem StO.forms {w : World} {B : Nat} {r c o : Value} {s : St} (S : StO w B r c o s) : ∃ rp rn rc cp cn cc op on oc, r = .slice rp rn rc ∧ c = .slice cp cn cc ∧ o = .slice op on oc ∧ cn = s.C.length ∧ rn = s.R.length ∧ on = s.O.length := by
  obtain ⟨p1, c1, e1, -, -⟩ := ownK_lie S.or
  obtain ⟨p2, c2, e2, -, -⟩ := ownK_lie S.oc
  obtain ⟨p3, c3, e3, -, -⟩ := ownK_lie S.oo
  exact ⟨_, _, _, _, _, _, _, _, _, e1, e2, e3, rfl, rfl, rfl⟩

set_option maxRecDepth 100000 in
set_option maxHeartbeats 4000000 in
theorem enter_state {w : World} {v : Value} {s : St} (A : StL w w.heap.size v s) (hf : s.R.length ≤ 1000 ∧ s.C.length ≤ 1000 ∧ s.O.length ≤ 10000) (a t : Int) :
    Calls Tryz.prog 77 #[v, i64 a, i64 t] w fun e w' => ∃ r c o, e = .returned (stV r c o (enS s a t)) ∧ StO w' w.heap.size r c o (enS s a t) ∧ Below w.heap.size w w' := by
  obtain ⟨z, hz⟩ : ∃ z, z = ((enC s a t).set 0 (en ((enC s a t).getD 0 0))).getD 1 0 := ⟨_, rfl⟩
  have hv : enS s a t = { s with C := (enC s a t).set 0 (en ((enC s a t).getD 0 0)) , pc := wd z } := by rw [hz]; rfl
  rw [hv]
  clear hv
  obtain ⟨lp, ln, lc, mp, mn, mc, np, nn, nc, rfl, h1, h2, h3⟩ := A
  have hT := Two6.start w (.slice lp ln lc) s.pc (.slice mp mn mc) s.h s.k (.slice np nn nc)
  have A2 : StL ((w.alloc (.cells #[.slice lp ln lc, i64 s.pc, .slice mp mn mc, .bool s.h, .bool s.k, .slice np nn nc] 55)).alloc (.cells #[.slice none 0 0, i64 0, .slice none 0 0, .bool false, .bool false, .slice none 0 0] 55)) _ _ s := StL.later ⟨_, _, _, _, _, _, _, _, _, rfl, h1, h2, h3⟩ hT.b
  have hcp := copied_says A2 hf
  have hlt := hT.lt
  have HT := Lib.hid hT
  have hpl := pad_length s.C
  clear A2 h1 h2 h3 hT
  go_enter Tryz.func77, Tryz.ntmps77
  go_upto_region 1 with fail
  go_cut [] from 7 (fun wx => ∃ rp rn rc g cn cc op on oc, EnR w w wx (fun _ => False) w.heap.size (w.heap.size + 1) (w.heap.size + 2) (.slice rp rn rc) (.slice (some ⟨g, 0, none⟩) cn cc) (.slice op on oc) ({ s with C := pad s.C }))
  case first =>
    go_wp2_with (go_at_call 109; refine hcp.mono ?_; rintro e w3 ⟨r, c, o, rfl, S, b3⟩; obtain ⟨rp, rn, rc, cp, cn, cc, op, on, oc, rfl, rfl, rfl, -⟩ := S.forms; have T3 := HT.out.call b3; obtain ⟨b0, b1, b2, b4, b5, b6⟩ := T3.x.cells; obtain ⟨f0, f1, f2, f4, f5, f6⟩ := T3.x.frees; have HS := Lib.hid S; have HT3 := Lib.hid T3; clear S T3)
    go_meet
    case rel =>
      have hS : StO w3 (w.heap.size + 2) (.slice rp rn rc) (.slice cp cn cc) (.slice op on oc) ({ s with C := pad s.C }) := HS.out.mono hlt
      have hE : EnR w w (six w3 w.heap.size (.slice rp rn rc) (i64 s.pc) (.slice cp cn cc) (.bool s.h) (.bool s.k) (.slice op on oc)) (fun _ => False) w.heap.size (w.heap.size + 1) (w.heap.size + 2) (.slice rp rn rc) (.slice cp cn cc) (.slice op on oc) ({ s with C := pad s.C }) :=
        ⟨HT3.out.x.six _ _ _ _ _ _, (((((HT3.out.y.off (by omega) _ _).off (by omega) _ _).off (by omega) _ _).off (by omega) _ _).off (by omega) _ _).off (by omega) _ _, hS.six (by omega) _ _ _ _ _ _, six_below HT3.out.b (Nat.le_refl _) _ _ _ _ _ _, by omega, by show 11 ≤ (pad s.C).length; omega, fun _ h => h.elim⟩
      obtain ⟨g, qc, e, -, -⟩ := hE.form
      injection e with e1 e2 e3
      subst e1
      exact ⟨_, _, _, g, _, _, _, _, _, hE⟩
  case rest =>
    obtain ⟨rp, rn, rc, g, cn, cc, op, on, oc, E⟩ := hcut
    have hcn : cn = (pad s.C).length := by
      obtain ⟨g2, q2, e, -, -⟩ := E.form
      injection e
    have hcc : cn ≤ cc ∧ cc ≤ maxLen := by
      obtain ⟨g2, q2, e, h1, h2⟩ := E.form
      injection e with e1 e2 e3
      subst e3
      exact ⟨by rw [hcn]; exact h1, h2⟩
    have i1 : (11 : Int) ≤ (cn : Int) := by omega
    have i2 : (cn : Int) ≤ (cc : Int) := by omega
    have i3 : (cc : Int) ≤ 9223372036854775807 := by have := hcc.2; unfold maxLen at this; omega
    have i4 : (0 : Int) < (cn : Int) := by omega
    have i5 : (1 : Int) < (cn : Int) := by omega
    have i6 : (2 : Int) < (cn : Int) := by omega
    have i7 : (3 : Int) < (cn : Int) := by omega
    have i8 : (4 : Int) < (cn : Int) := by omega
    clear hcp hcn hcc hlt hpl HT
    go_upto_region 2 with fail
    go_cut [] from 7 (fun wx => EnR w w wx (fun _ => False) w.heap.size (w.heap.size + 1) (w.heap.size + 2) (.slice rp rn rc) (.slice (some ⟨g, 0, none⟩) cn cc) (.slice op on oc) ({ s with C := (pad s.C).set 2 (wd s.pc) }))
    case first =>
      have x2 := E.x.c2
      have x1 := E.x.c1
      have a0 := (E.at_ (j := 0) (by have := E.n; omega)).1
      obtain ⟨aj, fj, E2⟩ := E.at_ (j := 2) (by have := E.n; omega)
      have y2 := x2
      have hcall := of_says s.pc
      have HE := Lib.hid (fun v => (E2 v).drew)
      have HE2 := Lib.hid (fun v => (E.drew.at_ (j := 2) (by have := E.n; omega)).2.2 v)
      clear E E2
      go_region_with (go_at_call 27; refine (hcall _).mono ?_; rintro e w' ⟨rfl, rfl⟩)
      all_goals
        go_wp2_with fail
        go_meet
        case rel => exact HE2.out _
    case rest =>
      clear E
      have E := hcut
      clear hcut
      go_upto_region 3 with fail
      go_cut [] from 7 (fun wx => EnR w w wx (fun _ => False) w.heap.size (w.heap.size + 1) (w.heap.size + 2) (.slice rp rn rc) (.slice (some ⟨g, 0, none⟩) cn cc) (.slice op on oc) ({ s with C := ((pad s.C).set 2 (wd s.pc)).set 3 (wd a) }))
      case first =>
        have x2 := E.x.c2
        have x1 := E.x.c1
        have a0 := (E.at_ (j := 0) (by have := E.n; omega)).1
        obtain ⟨aj, fj, E2⟩ := E.at_ (j := 3) (by have := E.n; omega)
        have y2 := x2
        have hcall := of_says a
        have HE := Lib.hid (fun v => (E2 v).drew)
        have HE2 := Lib.hid (fun v => (E.drew.at_ (j := 3) (by have := E.n; omega)).2.2 v)
        clear E E2
        go_region_with (go_at_call 27; refine (hcall _).mono ?_; rintro e w' ⟨rfl, rfl⟩)
        all_goals
          go_wp2_with fail
          go_meet
          case rel => exact HE2.out _
      case rest =>
        clear E
        have E := hcut
        clear hcut
        go_upto_region 4 with fail
        go_cut [] from 7 (fun wx => EnR w w wx (fun _ => False) w.heap.size (w.heap.size + 1) (w.heap.size + 2) (.slice rp rn rc) (.slice (some ⟨g, 0, none⟩) cn cc) (.slice op on oc) ({ s with C := enC s a t }))
        case first =>
          have x2 := E.x.c2
          have x1 := E.x.c1
          have a0 := (E.at_ (j := 0) (by have := E.n; omega)).1
          obtain ⟨aj, fj, E2⟩ := E.at_ (j := 4) (by have := E.n; omega)
          have y2 := x2
          have hcall := of_says t
          have HE := Lib.hid (fun v => (E2 v).drew)
          have HE2 := Lib.hid (fun v => (E.drew.at_ (j := 4) (by have := E.n; omega)).2.2 v)
          clear E E2
          go_region_with (go_at_call 27; refine (hcall _).mono ?_; rintro e w' ⟨rfl, rfl⟩)
          all_goals
            go_wp2_with fail
            go_meet
            case rel => exact HE2.out _
        case rest =>
          clear E
          have E := hcut
          clear hcut
          go_upto_region 5 with fail
          go_cut [] from 7 (fun wx => EnR w w wx (fun _ => False) w.heap.size (w.heap.size + 1) (w.heap.size + 2) (.slice rp rn rc) (.slice (some ⟨g, 0, none⟩) cn cc) (.slice op on oc) ({ s with C := (enC s a t).set 0 (en ((enC s a t).getD 0 0)) }))
          case first =>
            have x2 := E.x.c2
            have x1 := E.x.c1
            have a0 := (E.at_ (j := 0) (by have := E.n; omega)).1
            obtain ⟨aj, fj, E2⟩ := E.at_ (j := 0) (by have := E.n; omega)
            have y2 := x2
            have hcall := enter_says ((enC s a t).getD 0 0)
            have HE := Lib.hid (fun v => (E2 v).drew)
            have HE2 := Lib.hid (fun v => (E.drew.at_ (j := 0) (by have := E.n; omega)).2.2 v)
            clear E E2
            go_region_with (go_at_call 110; refine (hcall _).mono ?_; rintro e w' ⟨rfl, rfl⟩)
            all_goals
              go_wp2_with fail
              go_meet
              case rel => exact HE2.out _
          case rest =>
            clear E
            have E := hcut
            clear hcut
            have a1 : wc.cell? ⟨g, 1, none⟩ = some (i64 z) := by rw [hz]; exact (E.at_ (j := 1) (by have := E.n; omega)).1
            have x2 := E.x.c2
            have x1 := E.x.c1
            have xf := E.x.free 1
            have E2 := E.pc (wd z)
            obtain ⟨⟨b0, b1, b2, b3, b4, b5⟩, ⟨d0, d1, d2, d3, d4, d5⟩, f0, f1, f2, f3, f4, f5⟩ := E2.cells
            obtain ⟨Y, SF, BF⟩ := E2.fin
            obtain ⟨y0, y1, y2, y3, y4, y5⟩ := Y.cells
            have hcall := of_says z
            have HS := Lib.hid SF; have HB := Lib.hid BF
            clear E E2 SF BF Y hz
            go_wp2_with (go_at_call 27; refine (hcall _).mono ?_; rintro e w' ⟨rfl, rfl⟩)
            exact bodyPost_ret (v := stV (.slice rp rn rc) (.slice (some ⟨g, 0, none⟩) cn cc) (.slice op on oc) ({ s with C := (enC s a t).set 0 (en ((enC s a t).getD 0 0)) , pc := wd z })) (by simp [results, Tryz.results77, go_sem, y0, y1, y2, y3, y4, y5]) rfl ⟨_, _, _, rfl, HS.out, HB.out⟩
set_option maxRecDepth 100000 in
set_option maxHeartbeats 4000000 in
theorem leave_state {w : World} {v : Value} {s : St} (A : StL w w.heap.size v s) (hf : s.R.length ≤ 1000 ∧ s.C.length ≤ 1000 ∧ s.O.length ≤ 10000) :
    Calls Tryz.prog 82 #[v] w fun e w' => ∃ r c o, e = .returned (stV r c o (leS s)) ∧ StO w' w.heap.size r c o (leS s) ∧ Below w.heap.size w w' := by
  obtain ⟨z, hz⟩ : ∃ z, z = (leC s).getD 2 0 := ⟨_, rfl⟩
  have hv : leS s = { s with C := leC s , pc := wd z } := by rw [hz]; rfl
  rw [hv]
  clear hv
  obtain ⟨lp, ln, lc, mp, mn, mc, np, nn, nc, rfl, h1, h2, h3⟩ := A
  have hT := Two6.start w (.slice lp ln lc) s.pc (.slice mp mn mc) s.h s.k (.slice np nn nc)
  have A2 : StL ((w.alloc (.cells #[.slice lp ln lc, i64 s.pc, .slice mp mn mc, .bool s.h, .bool s.k, .slice np nn nc] 55)).alloc (.cells #[.slice none 0 0, i64 0, .slice none 0 0, .bool false, .bool false, .slice none 0 0] 55)) _ _ s := StL.later ⟨_, _, _, _, _, _, _, _, _, rfl, h1, h2, h3⟩ hT.b
  have hcp := copied_says A2 hf
  have hlt := hT.lt
  have HT := Lib.hid hT
  have hpl := pad_length s.C
  clear A2 h1 h2 h3 hT
  go_enter Tryz.func82, Tryz.ntmps82
  go_upto_region 1 with fail
  go_cut [] from 3 (fun wx => ∃ rp rn rc g cn cc op on oc, EnR w w wx (fun _ => False) w.heap.size (w.heap.size + 1) (w.heap.size + 2) (.slice rp rn rc) (.slice (some ⟨g, 0, none⟩) cn cc) (.slice op on oc) ({ s with C := pad s.C }))
  case first =>
    go_wp2_with (go_at_call 109; refine hcp.mono ?_; rintro e w3 ⟨r, c, o, rfl, S, b3⟩; obtain ⟨rp, rn, rc, cp, cn, cc, op, on, oc, rfl, rfl, rfl, -⟩ := S.forms; have T3 := HT.out.call b3; obtain ⟨b0, b1, b2, b4, b5, b6⟩ := T3.x.cells; obtain ⟨f0, f1, f2, f4, f5, f6⟩ := T3.x.frees; have HS := Lib.hid S; have HT3 := Lib.hid T3; clear S T3)
    go_meet
    case rel =>
      have hS : StO w3 (w.heap.size + 2) (.slice rp rn rc) (.slice cp cn cc) (.slice op on oc) ({ s with C := pad s.C }) := HS.out.mono hlt
      have hE : EnR w w (six w3 w.heap.size (.slice rp rn rc) (i64 s.pc) (.slice cp cn cc) (.bool s.h) (.bool s.k) (.slice op on oc)) (fun _ => False) w.heap.size (w.heap.size + 1) (w.heap.size + 2) (.slice rp rn rc) (.slice cp cn cc) (.slice op on oc) ({ s with C := pad s.C }) :=
        ⟨HT3.out.x.six _ _ _ _ _ _, (((((HT3.out.y.off (by omega) _ _).off (by omega) _ _).off (by omega) _ _).off (by omega) _ _).off (by omega) _ _).off (by omega) _ _, hS.six (by omega) _ _ _ _ _ _, six_below HT3.out.b (Nat.le_refl _) _ _ _ _ _ _, by omega, by show 11 ≤ (pad s.C).length; omega, fun _ h => h.elim⟩
      obtain ⟨g, qc, e, -, -⟩ := hE.form
      injection e with e1 e2 e3
      subst e1
      exact ⟨_, _, _, g, _, _, _, _, _, hE⟩
  case rest =>
    obtain ⟨rp, rn, rc, g, cn, cc, op, on, oc, E⟩ := hcut
    have hcn : cn = (pad s.C).length := by
      obtain ⟨g2, q2, e, -, -⟩ := E.form
      injection e
    have hcc : cn ≤ cc ∧ cc ≤ maxLen := by
      obtain ⟨g2, q2, e, h1, h2⟩ := E.form
      injection e with e1 e2 e3
      subst e3
      exact ⟨by rw [hcn]; exact h1, h2⟩
    have i1 : (11 : Int) ≤ (cn : Int) := by omega
    have i2 : (cn : Int) ≤ (cc : Int) := by omega
    have i3 : (cc : Int) ≤ 9223372036854775807 := by have := hcc.2; unfold maxLen at this; omega
    have i4 : (0 : Int) < (cn : Int) := by omega
    have i5 : (1 : Int) < (cn : Int) := by omega
    have i6 : (2 : Int) < (cn : Int) := by omega
    have i7 : (3 : Int) < (cn : Int) := by omega
    have i8 : (4 : Int) < (cn : Int) := by omega
    clear hcp hcn hcc hlt hpl HT
    go_upto_region 2 with fail
    go_cut [] from 3 (fun wx => EnR w w wx (fun _ => False) w.heap.size (w.heap.size + 1) (w.heap.size + 2) (.slice rp rn rc) (.slice (some ⟨g, 0, none⟩) cn cc) (.slice op on oc) ({ s with C := leC s }))
    case first =>
      have x2 := E.x.c2
      have x1 := E.x.c1
      have a0 := (E.at_ (j := 0) (by have := E.n; omega)).1
      obtain ⟨aj, fj, E2⟩ := E.at_ (j := 0) (by have := E.n; omega)
      have y2 := x2
      have hcall := leave_says ((pad s.C).getD 0 0)
      have HE := Lib.hid (fun v => (E2 v).drew)
      have HE2 := Lib.hid (fun v => (E.drew.at_ (j := 0) (by have := E.n; omega)).2.2 v)
      clear E E2
      go_region_with (go_at_call 112; refine (hcall _).mono ?_; rintro e w' ⟨rfl, rfl⟩)
      all_goals
        go_wp2_with fail
        go_meet
        case rel => exact HE2.out _
    case rest =>
      clear E
      have E := hcut
      clear hcut
      have a1 : wc.cell? ⟨g, 2, none⟩ = some (i64 z) := by rw [hz]; exact (E.at_ (j := 2) (by have := E.n; omega)).1
      have x2 := E.x.c2
      have x1 := E.x.c1
      have xf := E.x.free 1
      have E2 := E.pc (wd z)
      obtain ⟨⟨b0, b1, b2, b3, b4, b5⟩, ⟨d0, d1, d2, d3, d4, d5⟩, f0, f1, f2, f3, f4, f5⟩ := E2.cells
      obtain ⟨Y, SF, BF⟩ := E2.fin
      obtain ⟨y0, y1, y2, y3, y4, y5⟩ := Y.cells
      have hcall := of_says z
      have HS := Lib.hid SF; have HB := Lib.hid BF
      clear E E2 SF BF Y hz
      go_wp2_with (go_at_call 27; refine (hcall _).mono ?_; rintro e w' ⟨rfl, rfl⟩)
      exact bodyPost_ret (v := stV (.slice rp rn rc) (.slice (some ⟨g, 0, none⟩) cn cc) (.slice op on oc) ({ s with C := leC s , pc := wd z })) (by simp [results, Tryz.results82, go_sem, y0, y1, y2, y3, y4, y5]) rfl ⟨_, _, _, rfl, HS.out, HB.out⟩
end Go.Proofs.YtfcmodllbhpniaaGreatDoor.Ser
