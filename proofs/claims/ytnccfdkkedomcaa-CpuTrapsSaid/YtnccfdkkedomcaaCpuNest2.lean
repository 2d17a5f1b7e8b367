
/-
  The walks of laws CpuNest and CpuBack.
-/
import Derived.Test.YtnccfdkkedomcaaCpuNest
namespace Go.Proofs.Ytnccfdkkedomcaa.Ser
open Go.Proofs.Ytnccfdkkedomcaa
open Go.ChangeShapes Go.WideShapes Go.ChangeAt Go.RowKit
/-- The rows of a state with all its control registers, as the walk reads them. -/
theorem StO.full {w : World} {B : Nat} {r c o : Value} {s : St} (S : StO w B r c o s) (h : 11 ≤ s.C.length) : ∃ rp rn rc g cn cc op on oc, r = .slice rp rn rc ∧ c = .slice (some ⟨g, 0, none⟩) cn cc ∧ o = .slice op on oc ∧ cn = s.C.length ∧ g < w.heap.size ∧
    ∀ j, j < s.C.length → w.cell? ⟨g, j, none⟩ = some (i64 (s.C.getD j 0)) := by
  obtain ⟨rp, rn, rc, cp, cn, cc, op, on, oc, rfl, rfl, rfl, e1, -, -⟩ := S.forms
  obtain ⟨g, n, q, e, rfl, -, -, -, h5, -⟩ := S.cell (j := 0) (by omega)
  injection e with a1 a2 a3
  subst a1 a2 a3
  refine ⟨rp, rn, rc, g, _, _, op, on, oc, rfl, rfl, rfl, rfl, h5, fun j hj => ?_⟩
  obtain ⟨g', n', q', e', -, -, -, -, -, h6, -⟩ := S.cell hj
  injection e' with b1 b2 b3
  injection b1 with b1
  injection b1 with b1
  subst b1
  exact h6
theorem cell_alloc {w : World} {a : Addr} {v : Value} (h : w.cell? a = some v) (o : Obj) : (w.alloc o).cell? a = some v :=
  (World.cell?_of_block (Below.heap_alloc _ _ _ (World.block_lt_of_cell? w a h))).trans h
theorem bits64 : bits .and .i64 6 4 = 4 := by decide +kernel
theorem bits61 : bits .and .i64 6 1 = 0 := by decide +kernel
set_option maxRecDepth 100000 in
set_option maxHeartbeats 4000000 in
theorem nest_main {W : World} {v : Value} {s : St} (A : StL W W.heap.size v s) (hf : fit s) (h11 : 11 ≤ s.C.length) (a b : Int) :
    Calls Try.prog 8 #[v, i64 a, i64 b] W fun e w' => e = .returned (.bool true) ∧ Below W.heap.size W w' := by
  have hl : s.R.length ≤ 1000 ∧ s.C.length ≤ 1000 ∧ s.O.length ≤ 10000 := by obtain ⟨f1, f2, f3⟩ := hf; omega
  have hl1 : (enS s a 1).R.length ≤ 1000 ∧ (enS s a 1).C.length ≤ 1000 ∧ (enS s a 1).O.length ≤ 10000 := by rw [enS_length]; exact ⟨hl.1, by omega, hl.2.2⟩
  have hl2 : (enS (enS s a 1) b 2).R.length ≤ 1000 ∧ (enS (enS s a 1) b 2).C.length ≤ 1000 ∧ (enS (enS s a 1) b 2).O.length ≤ 10000 := by rw [enS_length]; exact ⟨hl1.1, by omega, hl1.2.2⟩
  have h12 : 11 ≤ (enS (enS s a 1) b 2).C.length := by rw [enS_length]; omega
  have h13 : 11 ≤ (leS (enS (enS s a 1) b 2)).C.length := by rw [leS_length]; omega
  obtain ⟨n2, n3, n4, n0, m0⟩ := nest_facts h11 a b
  have HBig := Lib.hid (fun (u : World) (k : Below W.heap.size W u) => big_no (A.later k) hf)
  have HEn := Lib.hid (fun (u : World) (k : Below W.heap.size W u) => enter_state (A.later k) hl a 1)
  have HE2 := Lib.hid (fun (u : World) (v1 : Value) (k : StL u u.heap.size v1 (enS s a 1)) => enter_state k hl1 b 2)
  have HLe := Lib.hid (fun (u : World) (v1 : Value) (k : StL u u.heap.size v1 (enS (enS s a 1) b 2)) => leave_state k hl2)
  have HA := Lib.hid A
  obtain ⟨rp, rn, rc, cp, cn, cc, op, on, oc, rfl, h1, h2, h3⟩ := A
  obtain ⟨bb, off, rfl, hbl, -⟩ := h2.cell (i := 1) (by rw [← h2.len]; omega)
  have HC1 : Hid (∀ u, Below W.heap.size W u → u.cell? ⟨bb, off + 1, none⟩ = some (i64 (s.C.getD 1 0))) := by
    refine Lib.hid fun u k => ?_
    obtain ⟨b2, o2, e, -, q⟩ := (h2.kept k (Nat.le_refl _)).cell (i := 1) (by rw [← h2.len]; omega)
    injection e with e
    injection e with e1 e2
    subst e1 e2
    exact q
  have i1 : ¬ (cn : Int) < 11 := by have := h2.len; omega
  have i2 : (1 : Int) < (cn : Int) := by have := h2.len; omega
  have hw1 := w_says (s.C.getD 1 0)
  have hwb := w_says b
  have b64 := bits64
  have b61 := bits61
  have H12 := Lib.hid h12; have H13 := Lib.hid h13
  have N2 := Lib.hid n2; have N3 := Lib.hid n3; have N4 := Lib.hid n4; have N0 := Lib.hid n0; have M0 := Lib.hid m0
  have hB0 := (Below.refl W.heap.size W).alloc (Nat.le_refl _) (.cells #[.slice rp rn rc, i64 s.pc, .slice (some ⟨bb, off, none⟩) cn cc, .bool s.h, .bool s.k, .slice op on oc] 31)
  have hX := Box6.new W (.slice rp rn rc) s.pc (.slice (some ⟨bb, off, none⟩) cn cc) s.h s.k (.slice op on oc)
  have HB0 := Lib.hid hB0; have HX := Lib.hid hX
  clear h12 h13 n2 n3 n4 n0 m0 hl hl1 hl2 h1 h2 h3 hf h11 hB0 hX hbl
  go_enter Try.func8, Try.ntmps8
  go_upto_region 7 with (first
    | (go_at_call 17; (refine (HLe.out _ _ (HS2.out.lies.later ((Below.refl _ w4).alloc (Nat.le_refl _) _))).mono ?_; rintro e w5 ⟨r5, c5, o5, rfl, S5, k5⟩; obtain ⟨xp5, xn5, xc5, g5, yn5, yc5, zp5, zn5, zc5, rfl, rfl, rfl, ey5, l5, q5⟩ := S5.full H13.out; have z5 := q5 0 (by have := H13.out; omega); have EY5 := Lib.hid ey5; clear q5 ey5 S5; rw [M0.out] at z5; have a4 := (Below.refl w4.heap.size w4).alloc (Nat.le_refl _) (.cells #[.slice xp xn xc, i64 (enS (enS s a 1) b 2).pc, .slice (some ⟨g4, 0, none⟩) yn4 yc, .bool (enS (enS s a 1) b 2).h, .bool (enS (enS s a 1) b 2).k, .slice zp zn zc] 31); have hb5 := (hb4.trans (a4.mono hb4.size)).trans (k5.mono (hb4.trans (a4.mono hb4.size)).size); have c1 := HC1.out w5 hb5; have lw : w4.heap.size < (w4.alloc (.cells #[.slice xp xn xc, i64 (enS (enS s a 1) b 2).pc, .slice (some ⟨g4, 0, none⟩) yn4 yc, .bool (enS (enS s a 1) b 2).h, .bool (enS (enS s a 1) b 2).k, .slice zp zn zc] 31)).heap.size := (by simp); have x5 := ((x4.kept a4 x4.lt).kept k5 (x4.kept a4 x4.lt).lt).c2; have tb := ((Box6.new w4 (.slice xp xn xc) (enS (enS s a 1) b 2).pc (.slice (some ⟨g4, 0, none⟩) yn4 yc) (enS (enS s a 1) b 2).h (enS (enS s a 1) b 2).k (.slice zp zn zc)).kept k5 lw).c2; have l4' := Nat.lt_trans l4 lw; have zz0 := cell_kept k5 l4' (cell_kept a4 l4 z0); have zz2 := cell_kept k5 l4' (cell_kept a4 l4 z2); have zz3 := cell_kept k5 l4' (cell_kept a4 l4 z3); have zz4 := cell_kept k5 l4' (cell_kept a4 l4 z4); have iy : (11 : Int) ≤ (yn4 : Int) := (by have := H12.out; have := EY.out; omega); have iy0 : (0 : Int) < (yn4 : Int) := (by omega); have iy2 : (2 : Int) < (yn4 : Int) := (by omega); have iy3 : (3 : Int) < (yn4 : Int) := (by omega); have iy4 : (4 : Int) < (yn4 : Int) := (by omega); have iz0 : (0 : Int) < (yn5 : Int) := (by have := H13.out; have := EY5.out; omega)))
    | (go_at_call 16; first
      | (with_reducible refine (HE2.out _ _ HS1.out.lies).mono ?_; rintro e w4 ⟨r4, c4, o4, rfl, S4, k4⟩; obtain ⟨xp, xn, xc, g4, yn4, yc, zp, zn, zc, rfl, rfl, rfl, ey4, l4, q4⟩ := S4.full H12.out; have HS2 := Lib.hid S4; have z0 := q4 0 (by have := H12.out; omega); have z2 := q4 2 (by have := H12.out; omega); have z3 := q4 3 (by have := H12.out; omega); have z4 := q4 4 (by have := H12.out; omega); have EY := Lib.hid ey4; clear q4 ey4 S4; rw [N0.out] at z0; rw [N2.out] at z2; rw [N3.out] at z3; rw [N4.out] at z4; have x4 := x3.kept k4 x3.lt; have hb4 := hb3.trans (k4.mono hb3.size))
      | (with_reducible refine (HEn.out _ hb2).mono ?_; rintro e w3 ⟨r3, c3, o3, rfl, S3, k3⟩; have HS1 := Lib.hid S3; have x3 := x2.kept k3 x2.lt; have hb3 := hb2.trans (k3.mono hb2.size)))
    | (go_at_call 14; refine (HBig.out _ hb1).mono ?_; rintro e w2 ⟨rfl, k2⟩; have hb2 := hb1.trans (k2.mono hb1.size); have x2 := x1.kept k2 x1.lt; obtain ⟨s0, s1, s2, s3, s4, s5⟩ := x2.cells)
    | (go_at_call 9; refine (alive9_says _).mono ?_; rintro e w1 ⟨rfl, k1⟩; have hb1 := HB0.out.trans (k1.mono HB0.out.size); have x1 := HX.out.kept k1 HX.out.lt; obtain ⟨y0, y1, y2, y3, y4, y5⟩ := x1.cells))
  clear HBig HEn HE2 HLe HA HS1 HS2 HX HB0 x1 x2 x3 x4 y0 y1 y2 y3 y4 y5 s0 s1 s2 s3 s4 s5 z0 z2 z3 z4 N0 N2 N3 N4 M0 H12 H13 EY EY5
  have HB5 := Lib.hid hb5
  have HW := Lib.hid (Nat.le_trans hb4.size (a4.mono (Nat.le_refl _)).size)
  clear hb5 hb4 hb3 hb2 hb1 k1 k2 k3 k4 k5 a4
  have ub := (Box6.new w5 (.slice xp5 xn5 xc5) (leS (enS (enS s a 1) b 2)).pc (.slice (some ⟨g5, 0, none⟩) yn5 yc5) (leS (enS (enS s a 1) b 2)).h (leS (enS (enS s a 1) b 2)).k (.slice zp5 zn5 zc5)).c2
  obtain ⟨o5, ho5⟩ : ∃ o, o = Obj.cells #[.slice xp5 xn5 xc5, i64 (leS (enS (enS s a 1) b 2)).pc, .slice (some ⟨g5, 0, none⟩) yn5 yc5, .bool (leS (enS (enS s a 1) b 2)).h, .bool (leS (enS (enS s a 1) b 2)).k, .slice zp5 zn5 zc5] 31 := ⟨_, rfl⟩
  rw [← ho5] at ub ⊢
  have tbF := cell_alloc tb o5
  have x5F := cell_alloc x5 o5
  have c1F := cell_alloc c1 o5
  have y0F := cell_alloc zz0 o5
  have y2F := cell_alloc zz2 o5
  have y3F := cell_alloc zz3 o5
  have y4F := cell_alloc zz4 o5
  have z5F := cell_alloc z5 o5
  have HF := Lib.hid (HB5.out.alloc HB5.out.size o5)
  clear tb x5 c1 zz0 zz2 zz3 zz4 z5 ho5
  generalize w5.alloc o5 = wF at *
  generalize s.C.getD 1 0 = q1 at *
  go_quiet (first | (go_at_call 23; with_reducible exact Calls.quiet_of_same ((hw1 _).mono (fun _ _ h => ⟨h.1, h.2.symm⟩))) | (go_at_call 23; with_reducible exact Calls.quiet_of_same ((hwb _).mono (fun _ _ h => ⟨h.1, h.2.symm⟩))))
  go_wp2_with fail
  go_ret
  exact ⟨ret_bool (by simp), below_drewN HF.out _⟩
set_option maxRecDepth 100000 in
theorem nest_big {W : World} {v : Value} {s : St} (A : StL W W.heap.size v s) (hf : ¬ fit s) (a b : Int) : Calls Try.prog 8 #[v, i64 a, i64 b] W fun e w' => e = .returned (.bool true) ∧ Below W.heap.size W w' := by
  have HBig := Lib.hid (fun (u : World) (k : Below W.heap.size W u) => big_yes (A.later k) hf)
  obtain ⟨rp, rn, rc, cp, cn, cc, op, on, oc, rfl, -⟩ := A
  have HB0 := Lib.hid ((Below.refl W.heap.size W).alloc (Nat.le_refl _) (.cells #[.slice rp rn rc, i64 s.pc, .slice cp cn cc, .bool s.h, .bool s.k, .slice op on oc] 31))
  have HX := Lib.hid (Box6.new W (.slice rp rn rc) s.pc (.slice cp cn cc) s.h s.k (.slice op on oc))
  go_enter Try.func8, Try.ntmps8
  go_wp2_with (first
    | (go_at_call 14; refine (HBig.out _ hb1).mono ?_; rintro e w2 ⟨rfl, k2⟩; have hb2 := hb1.trans (k2.mono hb1.size))
    | (go_at_call 9; refine (alive9_says _).mono ?_; rintro e w1 ⟨rfl, k1⟩; have hb1 := HB0.out.trans (k1.mono HB0.out.size); have x1 := HX.out.kept k1 HX.out.lt; obtain ⟨y0, y1, y2, y3, y4, y5⟩ := x1.cells))
  go_ret
  exact ⟨rfl, hb2⟩
set_option maxRecDepth 100000 in
theorem nest_few {W : World} {v : Value} {s : St} (A : StL W W.heap.size v s) (hf : fit s) (h11 : ¬ 11 ≤ s.C.length) (a b : Int) : Calls Try.prog 8 #[v, i64 a, i64 b] W fun e w' => e = .returned (.bool true) ∧ Below W.heap.size W w' := by
  have HBig := Lib.hid (fun (u : World) (k : Below W.heap.size W u) => big_no (A.later k) hf)
  obtain ⟨rp, rn, rc, cp, cn, cc, op, on, oc, rfl, -, h2, -⟩ := A
  have i1 : (cn : Int) < 11 := by have := h2.len; omega
  have HB0 := Lib.hid ((Below.refl W.heap.size W).alloc (Nat.le_refl _) (.cells #[.slice rp rn rc, i64 s.pc, .slice cp cn cc, .bool s.h, .bool s.k, .slice op on oc] 31))
  have HX := Lib.hid (Box6.new W (.slice rp rn rc) s.pc (.slice cp cn cc) s.h s.k (.slice op on oc))
  clear h2 h11 hf
  go_enter Try.func8, Try.ntmps8
  go_wp2_with (first
    | (go_at_call 14; refine (HBig.out _ hb1).mono ?_; rintro e w2 ⟨rfl, k2⟩; have hb2 := hb1.trans (k2.mono hb1.size); have x2 := x1.kept k2 x1.lt; obtain ⟨s0, s1, s2, s3, s4, s5⟩ := x2.cells)
    | (go_at_call 9; refine (alive9_says _).mono ?_; rintro e w1 ⟨rfl, k1⟩; have hb1 := HB0.out.trans (k1.mono HB0.out.size); have x1 := HX.out.kept k1 HX.out.lt; obtain ⟨y0, y1, y2, y3, y4, y5⟩ := x1.cells))
  go_ret
  exact ⟨rfl, hb2⟩
set_option maxRecDepth 100000 in
theorem back_big {W : World} {v : Value} {s : St} (A : StL W W.heap.size v s) (hf : ¬ fit s) (a b : Int) : Calls Try.prog 5 #[v, i64 a, i64 b] W fun e w' => e = .returned (.bool true) ∧ Below W.heap.size W w' := by
  have HBig := Lib.hid (fun (u : World) (k : Below W.heap.size W u) => big_yes (A.later k) hf)
  obtain ⟨rp, rn, rc, cp, cn, cc, op, on, oc, rfl, -⟩ := A
  have HB0 := Lib.hid ((Below.refl W.heap.size W).alloc (Nat.le_refl _) (.cells #[.slice rp rn rc, i64 s.pc, .slice cp cn cc, .bool s.h, .bool s.k, .slice op on oc] 31))
  have HX := Lib.hid (Box6.new W (.slice rp rn rc) s.pc (.slice cp cn cc) s.h s.k (.slice op on oc))
  go_enter Try.func5, Try.ntmps5
  go_wp2_with (first
    | (go_at_call 14; refine (HBig.out _ hb1).mono ?_; rintro e w2 ⟨rfl, k2⟩; have hb2 := hb1.trans (k2.mono hb1.size))
    | (go_at_call 9; refine (alive9_says _).mono ?_; rintro e w1 ⟨rfl, k1⟩; have hb1 := HB0.out.trans (k1.mono HB0.out.size); have x1 := HX.out.kept k1 HX.out.lt; obtain ⟨y0, y1, y2, y3, y4, y5⟩ := x1.cells))
  go_ret
  exact ⟨rfl, hb2⟩
set_option maxRecDepth 100000 in
theorem back_few {W : World} {v : Value} {s : St} (A : StL W W.heap.size v s) (hf : fit s) (h11 : ¬ 11 ≤ s.C.length) (a b : Int) : Calls Try.prog 5 #[v, i64 a, i64 b] W fun e w' => e = .returned (.bool true) ∧ Below W.heap.size W w' := by
  have HBig := Lib.hid (fun (u : World) (k : Below W.heap.size W u) => big_no (A.later k) hf)
  obtain ⟨rp, rn, rc, cp, cn, cc, op, on, oc, rfl, -, h2, -⟩ := A
  have i1 : (cn : Int) < 11 := by have := h2.len; omega
  have HB0 := Lib.hid ((Below.refl W.heap.size W).alloc (Nat.le_refl _) (.cells #[.slice rp rn rc, i64 s.pc, .slice cp cn cc, .bool s.h, .bool s.k, .slice op on oc] 31))
  have HX := Lib.hid (Box6.new W (.slice rp rn rc) s.pc (.slice cp cn cc) s.h s.k (.slice op on oc))
  clear h2 h11 hf
  go_enter Try.func5, Try.ntmps5
  go_wp2_with (first
    | (go_at_call 14; refine (HBig.out _ hb1).mono ?_; rintro e w2 ⟨rfl, k2⟩; have hb2 := hb1.trans (k2.mono hb1.size); have x2 := x1.kept k2 x1.lt; obtain ⟨s0, s1, s2, s3, s4, s5⟩ := x2.cells)
    | (go_at_call 9; refine (alive9_says _).mono ?_; rintro e w1 ⟨rfl, k1⟩; have hb1 := HB0.out.trans (k1.mono HB0.out.size); have x1 := HX.out.kept k1 HX.out.lt; obtain ⟨y0, y1, y2, y3, y4, y5⟩ := x1.cells))
  go_ret
  exact ⟨rfl, hb2⟩
set_option maxRecDepth 100000 in
set_option maxHeartbeats 4000000 in
theorem back_main {W : World} {v : Value} {s : St} (A : StL W W.heap.size v s) (hf : fit s) (h11 : 11 ≤ s.C.length) (a b : Int) :
    Calls Try.prog 5 #[v, i64 a, i64 b] W fun e w' => e = .returned (.bool true) ∧ Below W.heap.size W w' := by
  have hl : s.R.length ≤ 1000 ∧ s.C.length ≤ 1000 ∧ s.O.length ≤ 10000 := by obtain ⟨f1, f2, f3⟩ := hf; omega
  have hl1 : (enS s a b).R.length ≤ 1000 ∧ (enS s a b).C.length ≤ 1000 ∧ (enS s a b).O.length ≤ 10000 := by rw [enS_length]; exact ⟨hl.1, by omega, hl.2.2⟩
  have h13 : 11 ≤ (leS (enS s a b)).C.length := by rw [leS_length]; omega
  obtain ⟨n1, n2, n3⟩ := back_facts h11 a b
  have HBig := Lib.hid (fun (u : World) (k : Below W.heap.size W u) => big_no (A.later k) hf)
  have HEn := Lib.hid (fun (u : World) (k : Below W.heap.size W u) => enter_state (A.later k) hl a b)
  have HLe := Lib.hid (fun (u : World) (v1 : Value) (k : StL u u.heap.size v1 (enS s a b)) => leave_state k hl1)
  obtain ⟨rp, rn, rc, cp, cn, cc, op, on, oc, rfl, h1, h2, h3⟩ := A
  obtain ⟨bb, off, rfl, hbl, -⟩ := h2.cell (i := 0) (by rw [← h2.len]; omega)
  have HC0 : Hid (∀ u, Below W.heap.size W u → u.cell? ⟨bb, off, none⟩ = some (i64 (s.C.getD 0 0))) := by
    refine Lib.hid fun u k => ?_
    obtain ⟨b2, o2, e, -, q⟩ := (h2.kept k (Nat.le_refl _)).cell (i := 0) (by rw [← h2.len]; omega)
    injection e with e
    injection e with e1 e2
    subst e1 e2
    exact q
  have i1 : ¬ (cn : Int) < 11 := by have := h2.len; omega
  have i2 : (0 : Int) < (cn : Int) := by have := h2.len; omega
  have hw1 := w_says s.pc
  have H1 := Lib.hid h1
  have hrn : rn ≤ 100000 := by have := h1.len; omega
  have H13 := Lib.hid h13; have N1 := Lib.hid n1; have N2 := Lib.hid n2; have N3 := Lib.hid n3; have HRN := Lib.hid hrn
  have HB0 := Lib.hid ((Below.refl W.heap.size W).alloc (Nat.le_refl _) (.cells #[.slice rp rn rc, i64 s.pc, .slice (some ⟨bb, off, none⟩) cn cc, .bool s.h, .bool s.k, .slice op on oc] 31))
  have HX := Lib.hid (Box6.new W (.slice rp rn rc) s.pc (.slice (some ⟨bb, off, none⟩) cn cc) s.h s.k (.slice op on oc))
  clear h13 n1 n2 n3 hl hl1 h1 h2 h3 hf h11 hbl hrn
  go_enter Try.func5, Try.ntmps5
  go_upto_region 6 with (first
    | (go_at_call 17; refine (HLe.out _ _ HS1.out.lies).mono ?_; rintro e w5 ⟨r5, c5, o5, rfl, S5, k5⟩; have HL5 := Lib.hid S5.lies; obtain ⟨xp5, xn5, xc5, g5, yn5, yc5, zp5, zn5, zc5, rfl, rfl, rfl, ey5, l5, q5⟩ := S5.full H13.out; have z5 := q5 0 (by have := H13.out; omega); have EY5 := Lib.hid ey5; clear q5 ey5 S5; have hb5 := hb3.trans (k5.mono hb3.size); have x5 := x3.kept k5 x3.lt; have c1 := HC0.out w5 hb5; have iz0 : (0 : Int) < (yn5 : Int) := (by have := H13.out; have := EY5.out; omega); have iz1 : (11 : Int) ≤ (yn5 : Int) := (by have := H13.out; have := EY5.out; omega))
    | (go_at_call 16; refine (HEn.out _ hb2).mono ?_; rintro e w3 ⟨r3, c3, o3, rfl, S3, k3⟩; have HS1 := Lib.hid S3; have x3 := x2.kept k3 x2.lt; have hb3 := hb2.trans (k3.mono hb2.size))
    | (go_at_call 14; refine (HBig.out _ hb1).mono ?_; rintro e w2 ⟨rfl, k2⟩; have hb2 := hb1.trans (k2.mono hb1.size); have x2 := x1.kept k2 x1.lt; obtain ⟨s0, s1, s2, s3, s4, s5⟩ := x2.cells)
    | (go_at_call 9; refine (alive9_says _).mono ?_; rintro e w1 ⟨rfl, k1⟩; have hb1 := HB0.out.trans (k1.mono HB0.out.size); have x1 := HX.out.kept k1 HX.out.lt; obtain ⟨y0, y1, y2, y3, y4, y5⟩ := x1.cells))
  have ubx := Box6.new w5 (.slice xp5 xn5 xc5) (leS (enS s a b)).pc (.slice (some ⟨g5, 0, none⟩) yn5 yc5) (leS (enS s a b)).h (leS (enS s a b)).k (.slice zp5 zn5 zc5)
  have hb6 := (Below.refl w5.heap.size w5).alloc (Nat.le_refl _) (.cells #[.slice xp5 xn5 xc5, i64 (leS (enS s a b)).pc, .slice (some ⟨g5, 0, none⟩) yn5 yc5, .bool (leS (enS s a b)).h, .bool (leS (enS s a b)).k, .slice zp5 zn5 zc5] 31)
  have hbF := hb5.trans (hb6.mono hb5.size)
  have x6 := x5.kept hb6 x5.lt
  have HL6 := HL5.out.later hb6
  have HR6 := (H1.out.kept hbF (Nat.le_refl _)).wide hbF.size
  obtain ⟨o5, ho5⟩ : ∃ o, o = Obj.cells #[.slice xp5 xn5 xc5, i64 (leS (enS s a b)).pc, .slice (some ⟨g5, 0, none⟩) yn5 yc5, .bool (leS (enS s a b)).h, .bool (leS (enS s a b)).k, .slice zp5 zn5 zc5] 31 := ⟨_, rfl⟩
  rw [← ho5] at ubx hbF x6 HL6 HR6 ⊢
  have c1F := cell_alloc c1 o5
  have z5F := cell_alloc z5 o5
  have u0 := ubx.c0
  have u1 := ubx.c1
  have u2 := ubx.c2
  have v0 := x6.c0
  have v1 := x6.c1
  have v2 := x6.c2
  have HF := Lib.hid hbF
  have hs : ∀ m, Calls Try.prog 24 #[.slice xp5 xn5 xc5, .slice rp rn rc] ((w5.alloc o5).drewN m) fun e w' => e = .returned (.bool true) ∧ ∃ n, w' = ((w5.alloc o5).drewN m).drewN n := by
    intro m
    obtain ⟨p1, a1, q1, p2, a2, q2, p3, a3, q3, e, L1, -⟩ := HL6
    injection e with e
    injection e with e
    injection e with e0 e
    injection e0 with e1 e2 e3
    subst e1 e2 e3
    rw [N3.out] at L1
    have hd := below_drewN (Below.refl (w5.alloc o5).heap.size (w5.alloc o5)) m
    exact same_quiet (L1.kept hd (Nat.le_refl _)) (HR6.kept hd (Nat.le_refl _)) (by rw [← L1.len, HR6.len]; exact HRN.out)
  have HSM := Lib.hid hs
  rw [N1.out] at u1
  have hn2 := N2.out
  clear HBig HEn HLe H1 HC0 HX HB0 HL5 HS1 x1 x2 x3 x5 x6 y0 y1 y2 y3 y4 y5 s0 s1 s2 s3 s4 s5 c1 z5 N1 N2 N3 H13 EY5 hs HR6 HL6 hb6 hb5 hb3 hb2 hb1 k1 k2 k3 k5 ho5 hbF ubx HRN
  generalize w5.alloc o5 = wF at *
  generalize (leS (enS s a b)).C.getD 0 0 = j1 at *
  generalize s.C.getD 0 0 = j2 at *
  generalize wd s.pc = j3 at *
  go_quiet (first | (go_at_call 24; with_reducible exact Calls.quiet_of (HSM.out _)) | (go_at_call 23; with_reducible exact Calls.quiet_of_same ((hw1 _).mono (fun _ _ h => ⟨h.1, h.2.symm⟩))))
  go_wp2_with fail
  go_ret
  exact ⟨ret_bool (by simp), below_drewN HF.out _⟩
theorem nest_walk {W : World} {v : Value} {s : St} (A : StL W W.heap.size v s) (_ : (s.R.length : Int) ≤ 9223372036854775807) (_ : (s.C.length : Int) ≤ 9223372036854775807) (_ : (s.O.length : Int) ≤ 9223372036854775807) (a b : Int) : Calls Try.prog 8 #[v, .int .i64 a, .int .i64 b] W fun e w' => e = .returned (.bool true) ∧ Below W.heap.size W w' := by
  by_cases hf : fit s
  · by_cases h11 : 11 ≤ s.C.length
    · exact nest_main A hf h11 a b
    · exact nest_few A hf h11 a b
  · exact nest_big A hf a b
theorem back_walk {W : World} {v : Value} {s : St} (A : StL W W.heap.size v s) (_ : (s.R.length : Int) ≤ 9223372036854775807) (_ : (s.C.length : Int) ≤ 9223372036854775807) (_ : (s.O.length : Int) ≤ 9223372036854775807) (a b : Int) : Calls Try.prog 5 #[v, .int .i64 a, .int .i64 b] W fun e w' => e = .returned (.bool true) ∧ Below W.heap.size W w' := by
  by_cases hf : fit s
  · by_cases h11 : 11 ≤ s.C.length
    · exact back_main A hf h11 a b
    · exact back_few A hf h11 a b
  · exact back_big A hf a b
end Go.Proofs.Ytnccfdkkedomcaa.Ser
