/-
  The contract of package isa's Decode.
-/
import Derived.Test.YtfcmodllbhpniaaGreatDoorJnIsaEnc
import Derived.Test.YtfcmodllbhpniaaGreatDoorJnIsaNum
import Derived.Deep.RegionHeld3
import Derived.Deep.DeepCutAuto
set_option linter.unusedVariables false
set_option maxRecDepth 100000
namespace Go.Proofs.YtfcmodllbhpniaaGreatDoor
open Go.ChangeShapes Go.WideShapes Go.ChangeAt Go.RowKit
/-- What Decode of a word tells. -/
abbrev decV (x : Int) : Value := .tuple #[insV (gO x) (gA x) (gB x) (gC x) (gM x), i64 (decE x)]
theorem wd_op (x : Int) (h0 : 0 ≤ x) (h1 : x ≤ 4294967295) : 0 ≤ x / 16777216 ∧ x / 16777216 ≤ 255 := by omega
theorem decV_no {x : Int} (h : ¬ decOk x) : decV x = .tuple #[insV 0 0 0 0 0, i64 5] := by
  obtain ⟨e0, e1, e2, e3, e4, e5⟩ := dec_no x h
  simp only [decV, insV, e0, e1, e2, e3, e4, e5]
theorem decV_yes {x : Int} (h : decOk x) : decV x = .tuple #[insV (dO x) (dA x) (dB x) (dC x) (dM x), i64 0] := by
  obtain ⟨e0, e1, e2, e3, e4, e5⟩ := dec_yes x h
  simp only [decV, insV, e0, e1, e2, e3, e4, e5]
set_option maxHeartbeats 1000000 in
theorem decode_none (n : Int) (h : dF (wd n) = 0) (w : World) : Calls Tryz.prog 87 #[i64 n] w fun e w' => e = .returned (decV (wd n)) ∧ Below w.heap.size w w' := by
  have hv := Lib.hid (decV_no (dec_none _ h))
  have hn : (opF (n % 4294967296 / 16777216) == 0) = true := by simpa [dF, dO, wd] using h
  have hx := wd_op (n % 4294967296) (by omega) (by omega)
  clear h
  go_enter Tryz.func87, Tryz.ntmps87
  go_wp2_with (first | (go_at_call 120; refine (operationOf_says _ _).mono ?_; rintro e w1 ⟨rfl, hb1⟩; obtain ⟨hc1, hf1⟩ := bcell hb1; have hz1 : w.heap.size < w1.heap.size := (by have := hb1.size; simp at this; omega)))
  rw [hv.out]
  have hB1 : Below w.heap.size w w1 := ((Below.refl _ _).alloc (Nat.le_refl _) _).trans (hb1.mono (by simp))
  exact bodyPost_ret (v := .tuple #[insV 0 0 0 0 0, i64 5]) (by simp [results, Tryz.results87, go_sem, hc1, hz1]) rfl ⟨rfl, by clear hb1 hc1 hf1; go_grown⟩
/-- What a register's place of a word gives. -/
def rg (r x k at' : Int) : Int := if r ≤ k then 0 else x / 2 ^ at'.toNat % 16
def mg (q l x : Int) : Int := if l < 0 then sg (ex x q) else bt x (q - 1) 0
theorem register_any (r q l h x k at' : Int) (hx : 0 ≤ x) (hx' : x ≤ 4294967295) (hk : 0 ≤ at') (hk' : at' ≤ 31) (w : World) : Calls Tryz.prog 122 #[formV r q l h, .int .u32 x, i64 k, i64 at'] w fun e w' => e = .returned (i64 (rg r x k at')) ∧ Below w.heap.size w w' := register_says r q l h x k at' hx hx' hk hk' w
theorem imm_any (r q l h x : Int) (hx : 0 ≤ x) (hx' : x ≤ 4294967295) (hq : 0 ≤ q) (hq' : q ≤ 20) (w : World) : Calls Tryz.prog 123 #[formV r q l h, .int .u32 x] w fun e w' => e = .returned (i64 (mg q l x)) ∧ Below w.heap.size w w' := imm_says r q l h x hx hx' hq hq' w
theorem keep_call {W w' w'' : World} {B : Nat} {v0 v1 v2 v3 : Value} (hB : B < W.heap.size) (h : Below w'.heap.size w' w'')
    (hS : w'.cell? ⟨B, 0, none⟩ = some v0 ∧ w'.cell? ⟨B, 1, none⟩ = some v1 ∧ w'.cell? ⟨B, 2, none⟩ = some v2 ∧ w'.cell? ⟨B, 3, none⟩ = some v3 ∧ Below W.heap.size W w') :
    w''.cell? ⟨B, 0, none⟩ = some v0 ∧ w''.cell? ⟨B, 1, none⟩ = some v1 ∧ w''.cell? ⟨B, 2, none⟩ = some v2 ∧ w''.cell? ⟨B, 3, none⟩ = some v3 ∧ Below W.heap.size W w'' := by
  obtain ⟨h0, h1, h2, h3, hb⟩ := hS
  have hs := hb.size
  refine ⟨?_, ?_, ?_, ?_, hb.trans (h.mono hs)⟩
  · rw [h.cell (p := ⟨B, 0, none⟩) (by show B < _; omega)]; exact h0
  · rw [h.cell (p := ⟨B, 1, none⟩) (by show B < _; omega)]; exact h1
  · rw [h.cell (p := ⟨B, 2, none⟩) (by show B < _; omega)]; exact h2
  · rw [h.cell (p := ⟨B, 3, none⟩) (by show B < _; omega)]; exact h3
theorem keep_alloc {W w' : World} {o : Obj} {B : Nat} {v0 v1 v2 v3 : Value} (hB : B < W.heap.size)
    (hS : w'.cell? ⟨B, 0, none⟩ = some v0 ∧ w'.cell? ⟨B, 1, none⟩ = some v1 ∧ w'.cell? ⟨B, 2, none⟩ = some v2 ∧ w'.cell? ⟨B, 3, none⟩ = some v3 ∧ Below W.heap.size W w') :
    (w'.alloc o).cell? ⟨B, 0, none⟩ = some v0 ∧ (w'.alloc o).cell? ⟨B, 1, none⟩ = some v1 ∧ (w'.alloc o).cell? ⟨B, 2, none⟩ = some v2 ∧ (w'.alloc o).cell? ⟨B, 3, none⟩ = some v3 ∧ Below W.heap.size W (w'.alloc o) :=
  keep_call hB ((Below.refl _ _).alloc (Nat.le_refl _) _) hS
theorem cell_heap {w : World} {b : Nat} {cs : Array Value} {t : TypeId} {fr : Nat × Nat} (h : w.heap[b]? = some (.cells cs t fr)) (k : Nat) (v : Value) (hv : cs[k]? = some v) : w.cell? ⟨b, k, none⟩ = some v := by simp [World.cell?, h, hv]
theorem frozen_heap {w : World} {b : Nat} {cs : Array Value} {t : TypeId} (h : w.heap[b]? = some (.cells cs t (0, 0))) (k : Nat) : w.frozen? ⟨b, k, none⟩ = false := by simp [World.frozen?, h]
theorem keep_of {W w' w'' : World} {B : Nat} {v0 v1 v2 v3 : Value} (hB : B < W.heap.size) (hh : ∀ k, k < W.heap.size → w''.heap[k]? = w'.heap[k]?) (ho : w''.os = w'.os) (ht : w''.tape = w'.tape) (hu : w''.output = w'.output) (hz : W.heap.size ≤ w''.heap.size)
    (hS : w'.cell? ⟨B, 0, none⟩ = some v0 ∧ w'.cell? ⟨B, 1, none⟩ = some v1 ∧ w'.cell? ⟨B, 2, none⟩ = some v2 ∧ w'.cell? ⟨B, 3, none⟩ = some v3 ∧ Below W.heap.size W w') : w''.cell? ⟨B, 0, none⟩ = some v0 ∧ w''.cell? ⟨B, 1, none⟩ = some v1 ∧ w''.cell? ⟨B, 2, none⟩ = some v2 ∧ w''.cell? ⟨B, 3, none⟩ = some v3 ∧ Below W.heap.size W w'' := by
  obtain ⟨h0, h1, h2, h3, hb⟩ := hS
  have hc : ∀ k, w''.cell? ⟨B, k, none⟩ = w'.cell? ⟨B, k, none⟩ := fun k => World.cell?_of_block (w := w') (hh B hB)
  exact ⟨(hc 0).trans h0, (hc 1).trans h1, (hc 2).trans h2, (hc 3).trans h3, ⟨ho.trans hb.os, ht.trans hb.tape, hu.trans hb.output, hz, fun k hk => (hh k hk).trans (hb.block k hk)⟩⟩
theorem keep_size {W w' w'' : World} {B : Nat} {v0 v1 v2 v3 : Value} (hS : w'.cell? ⟨B, 0, none⟩ = some v0 ∧ w'.cell? ⟨B, 1, none⟩ = some v1 ∧ w'.cell? ⟨B, 2, none⟩ = some v2 ∧ w'.cell? ⟨B, 3, none⟩ = some v3 ∧ Below W.heap.size W w') (h : Below w'.heap.size w' w'') : W.heap.size ≤ w''.heap.size := Nat.le_trans hS.2.2.2.2.size h.size
theorem keep_new {W w' : World} {o o' : Obj} {B : Nat} {v0 v1 v2 v3 : Value} (hB : B < W.heap.size) (hz : W.heap.size ≤ w'.heap.size) (hS : (w'.alloc o).cell? ⟨B, 0, none⟩ = some v0 ∧ (w'.alloc o).cell? ⟨B, 1, none⟩ = some v1 ∧ (w'.alloc o).cell? ⟨B, 2, none⟩ = some v2 ∧ (w'.alloc o).cell? ⟨B, 3, none⟩ = some v3 ∧ Below W.heap.size W (w'.alloc o)) : (w'.alloc o').cell? ⟨B, 0, none⟩ = some v0 ∧ (w'.alloc o').cell? ⟨B, 1, none⟩ = some v1 ∧ (w'.alloc o').cell? ⟨B, 2, none⟩ = some v2 ∧ (w'.alloc o').cell? ⟨B, 3, none⟩ = some v3 ∧ Below W.heap.size W (w'.alloc o') :=
  keep_of (w' := w'.alloc o) (w'' := w'.alloc o') hB (fun k hk => by rw [Below.heap_alloc w' o' k (by omega), Below.heap_alloc w' o k (by omega)]) rfl rfl rfl (by rw [World.size_alloc]; omega) hS
theorem keep_set1 {W w' : World} {p o : Nat} {x : Value} {B : Nat} {v0 v1 v2 v3 : Value} (hB : B < W.heap.size) (hp : W.heap.size ≤ p) (hS : w'.cell? ⟨B, 0, none⟩ = some v0 ∧ w'.cell? ⟨B, 1, none⟩ = some v1 ∧ w'.cell? ⟨B, 2, none⟩ = some v2 ∧ w'.cell? ⟨B, 3, none⟩ = some v3 ∧ Below W.heap.size W w') : (w'.setCell ⟨p, o, none⟩ x).cell? ⟨B, 0, none⟩ = some v0 ∧ (w'.setCell ⟨p, o, none⟩ x).cell? ⟨B, 1, none⟩ = some v1 ∧ (w'.setCell ⟨p, o, none⟩ x).cell? ⟨B, 2, none⟩ = some v2 ∧ (w'.setCell ⟨p, o, none⟩ x).cell? ⟨B, 3, none⟩ = some v3 ∧ Below W.heap.size W (w'.setCell ⟨p, o, none⟩ x) := by
  obtain ⟨h0, h1, h2, h3, hb⟩ := hS
  have hc : ∀ k, (w'.setCell ⟨p, o, none⟩ x).cell? ⟨B, k, none⟩ = w'.cell? ⟨B, k, none⟩ := fun k => World.cell?_of_block (w := w') (Below.heap_setCell w' ⟨p, o, none⟩ x B (by show B ≠ p; omega))
  exact ⟨(hc 0).trans h0, (hc 1).trans h1, (hc 2).trans h2, (hc 3).trans h3, hb.setCell hp x⟩
theorem keep_store {W w' : World} {p : Nat} {x0 x1 x2 x3 x4 : Value} {B : Nat} {v0 v1 v2 v3 : Value} (hB : B < W.heap.size) (hp : W.heap.size ≤ p) (hS : w'.cell? ⟨B, 0, none⟩ = some v0 ∧ w'.cell? ⟨B, 1, none⟩ = some v1 ∧ w'.cell? ⟨B, 2, none⟩ = some v2 ∧ w'.cell? ⟨B, 3, none⟩ = some v3 ∧ Below W.heap.size W w') : (((((w'.setCell ⟨p, 0, none⟩ x0).setCell ⟨p, 1, none⟩ x1).setCell ⟨p, 2, none⟩ x2).setCell ⟨p, 3, none⟩ x3).setCell ⟨p, 4, none⟩ x4).cell? ⟨B, 0, none⟩ = some v0 ∧ (((((w'.setCell ⟨p, 0, none⟩ x0).setCell ⟨p, 1, none⟩ x1).setCell ⟨p, 2, none⟩ x2).setCell ⟨p, 3, none⟩ x3).setCell ⟨p, 4, none⟩ x4).cell? ⟨B, 1, none⟩ = some v1 ∧ (((((w'.setCell ⟨p, 0, none⟩ x0).setCell ⟨p, 1, none⟩ x1).setCell ⟨p, 2, none⟩ x2).setCell ⟨p, 3, none⟩ x3).setCell ⟨p, 4, none⟩ x4).cell? ⟨B, 2, none⟩ = some v2 ∧ (((((w'.setCell ⟨p, 0, none⟩ x0).setCell ⟨p, 1, none⟩ x1).setCell ⟨p, 2, none⟩ x2).setCell ⟨p, 3, none⟩ x3).setCell ⟨p, 4, none⟩ x4).cell? ⟨B, 3, none⟩ = some v3 ∧ Below W.heap.size W (((((w'.setCell ⟨p, 0, none⟩ x0).setCell ⟨p, 1, none⟩ x1).setCell ⟨p, 2, none⟩ x2).setCell ⟨p, 3, none⟩ x3).setCell ⟨p, 4, none⟩ x4) :=
  keep_set1 hB hp (keep_set1 hB hp (keep_set1 hB hp (keep_set1 hB hp (keep_set1 hB hp hS))))
theorem keep_drew {W : World} {o : Obj} {B : Nat} {v0 v1 v2 v3 : Value} (hB : B < W.heap.size) (h0 : W.cell? ⟨B, 0, none⟩ = some v0) (h1 : W.cell? ⟨B, 1, none⟩ = some v1) (h2 : W.cell? ⟨B, 2, none⟩ = some v2) (h3 : W.cell? ⟨B, 3, none⟩ = some v3) : (W.alloc o).drew.cell? ⟨B, 0, none⟩ = some v0 ∧ (W.alloc o).drew.cell? ⟨B, 1, none⟩ = some v1 ∧ (W.alloc o).drew.cell? ⟨B, 2, none⟩ = some v2 ∧ (W.alloc o).drew.cell? ⟨B, 3, none⟩ = some v3 ∧ Below W.heap.size W (W.alloc o).drew := by
  have hb : Below W.heap.size W (W.alloc o).drew := ((Below.refl _ _).alloc (Nat.le_refl _) _).drew
  exact keep_call hB hb ⟨h0, h1, h2, h3, Below.refl _ _⟩
/-- What the statement that makes i leaves. -/
def Rel (W : World) (x0 x1 x2 x3 x4 : Int) (s8 : Value) (wx : World) : Prop := ∃ p : Nat, s8 = .pointer (some ⟨p, 0, none⟩) ∧ W.heap.size ≤ p ∧ p < wx.heap.size ∧ wx.cell? ⟨p, 0, none⟩ = some (.int .i64 x0) ∧ wx.cell? ⟨p, 1, none⟩ = some (.int .i64 x1) ∧ wx.cell? ⟨p, 2, none⟩ = some (.int .i64 x2) ∧ wx.cell? ⟨p, 3, none⟩ = some (.int .i64 x3) ∧ wx.cell? ⟨p, 4, none⟩ = some (.int .i64 x4) ∧ Below W.heap.size W wx
theorem below_of {W wx : World} {B : Nat} {v0 v1 v2 v3 : Value} (hS : wx.cell? ⟨B, 0, none⟩ = some v0 ∧ wx.cell? ⟨B, 1, none⟩ = some v1 ∧ wx.cell? ⟨B, 2, none⟩ = some v2 ∧ wx.cell? ⟨B, 3, none⟩ = some v3 ∧ Below W.heap.size W wx) : Below W.heap.size W wx := hS.2.2.2.2
theorem rel_of {W wx : World} {p : Nat} {x0 x1 x2 x3 x4 : Int} {t : TypeId} (hp : wx.heap[p]? = some (.cells #[.int .i64 x0, .int .i64 x1, .int .i64 x2, .int .i64 x3, .int .i64 x4] t (0, 0))) (hz : W.heap.size ≤ p) (hb : Below W.heap.size W wx) : Rel W x0 x1 x2 x3 x4 (.pointer (some ⟨p, 0, none⟩)) wx :=
  ⟨p, rfl, hz, (Array.getElem?_eq_some_iff.1 hp).1, cell_heap hp 0 _ rfl, cell_heap hp 1 _ rfl, cell_heap hp 2 _ rfl, cell_heap hp 3 _ rfl, cell_heap hp 4 _ rfl, hb⟩
theorem set_heap {w : World} {g i : Nat} {cur : Array Value} {t : TypeId} {fr : Nat × Nat} {v : Value} (hg : w.heap[g]? = some (.cells cur t fr)) : (w.setCell ⟨g, i, none⟩ v).heap[g]? = some (.cells (cur.setIfInBounds i v) t fr) := by
  rw [setCell_eq_setRow w g i cur t fr v hg]; exact setRow_heap w g cur _ t fr hg
theorem rel_store {W u : World} {p : Nat} {x0 x1 x2 x3 x4 : Int} {z0 z1 z2 z3 z4 : Value} {t : TypeId} (hp : u.heap[p]? = some (.cells #[z0, z1, z2, z3, z4] t (0, 0))) (hz : W.heap.size ≤ p) (hb : Below W.heap.size W (((((u.setCell ⟨p, 0, none⟩ (.int .i64 x0)).setCell ⟨p, 1, none⟩ (.int .i64 x1)).setCell ⟨p, 2, none⟩ (.int .i64 x2)).setCell ⟨p, 3, none⟩ (.int .i64 x3)).setCell ⟨p, 4, none⟩ (.int .i64 x4))) : Rel W x0 x1 x2 x3 x4 (.pointer (some ⟨p, 0, none⟩)) (((((u.setCell ⟨p, 0, none⟩ (.int .i64 x0)).setCell ⟨p, 1, none⟩ (.int .i64 x1)).setCell ⟨p, 2, none⟩ (.int .i64 x2)).setCell ⟨p, 3, none⟩ (.int .i64 x3)).setCell ⟨p, 4, none⟩ (.int .i64 x4)) :=
  rel_of (set_heap (set_heap (set_heap (set_heap (set_heap hp))))) hz hb
/-- What the fields of i are, in the walk's words and in the plain ones. -/
theorem cand_eq (n : Int) : rg (fR (opF (n % 4294967296 / 16777216))) (n % 4294967296) 0 20 = dA (wd n) ∧ rg (fR (opF (n % 4294967296 / 16777216))) (n % 4294967296) 1 16 = dB (wd n) ∧ rg (fR (opF (n % 4294967296 / 16777216))) (n % 4294967296) 2 12 = dC (wd n) ∧ mg (fB (opF (n % 4294967296 / 16777216))) (fL (opF (n % 4294967296 / 16777216))) (n % 4294967296) = dM (wd n) ∧ n % 4294967296 / 16777216 = dO (wd n) :=
  ⟨rfl, rfl, rfl, rfl, rfl⟩
set_option maxHeartbeats 4000000 in
theorem decode_some (n : Int) (h : dF (wd n) ≠ 0) (w : World) : Calls Tryz.prog 87 #[i64 n] w fun e w' => e = .returned (decV (wd n)) ∧ Below w.heap.size w w' := by
  have hx := wd_op (n % 4294967296) (by omega) (by omega)
  have hn : (opF (n % 4294967296 / 16777216) == 0) = false := by simpa [dF, dO, wd] using h
  have hf := opF_bd (n % 4294967296 / 16777216)
  have hq := fB_bd (opF (n % 4294967296 / 16777216))
  have hx0 : 0 ≤ n % 4294967296 := by omega
  have hx1 : n % 4294967296 ≤ 4294967295 := by omega
  clear h
  go_enter Tryz.func87, Tryz.ntmps87
  go_upto_region 7 with (first | (go_at_call 120; refine (operationOf_says _ _).mono ?_; rintro e w1 ⟨rfl, hb1⟩; obtain ⟨hc1, hf1⟩ := bcell hb1; have hz1 : w.heap.size < w1.heap.size := (by have := hb1.size; simp at this; omega)) | (go_at_call 121; refine (formOf_says _ hf.1 hf.2 _).mono ?_; rintro e w2 ⟨rfl, hb2⟩; obtain ⟨hc2, hf2⟩ := bcell hb2; have hz2 : w1.heap.size < w2.heap.size := (by have := hb2.size; simp at this; omega); have hz2' : w.heap.size < w2.heap.size := (by omega)))
  obtain ⟨W, hW⟩ : ∃ W : World, W = w2.alloc (Obj.cells #[Value.int IntKind.i64 (fR (opF (n % 4294967296 / 16777216))), Value.int IntKind.i64 (fB (opF (n % 4294967296 / 16777216))), Value.int IntKind.i64 (fL (opF (n % 4294967296 / 16777216))), Value.int IntKind.i64 (fH (opF (n % 4294967296 / 16777216)))] 151) := ⟨_, rfl⟩
  rw [← hW]
  have hBW : Below w.heap.size w W := by
    rw [hW]; exact ((((((Below.refl _ _).alloc (Nat.le_refl _) _).trans (hb1.mono (by simp))).alloc (by omega) _).trans (hb2.mono (by simp; omega))).alloc (by omega) _)
  have s1 : w2.heap.size < W.heap.size := by rw [hW, World.size_alloc]; omega
  have s2 : w.heap.size < W.heap.size := by omega
  have hr : W.heap[w.heap.size]? = some (.cells #[.int .i64 0, .int .i64 0, .int .i64 0, .int .i64 0, .int .i64 0] 47 (0, 0)) := by
    rw [hW, Below.heap_alloc _ _ _ (by omega), hb2.block _ (by simp; omega), Below.heap_alloc _ _ _ (by omega), hb1.block _ (by simp)]
    exact (MapKept.heap_alloc w _).1
  have hg : W.heap[w2.heap.size]? = some (.cells #[.int .i64 (fR (opF (n % 4294967296 / 16777216))), .int .i64 (fB (opF (n % 4294967296 / 16777216))), .int .i64 (fL (opF (n % 4294967296 / 16777216))), .int .i64 (fH (opF (n % 4294967296 / 16777216)))] 151 (0, 0)) := by
    rw [hW]; exact (MapKept.heap_alloc w2 _).1
  have r0 := cell_heap hr 0 _ rfl
  have z0 := frozen_heap hr 0
  have r1 := cell_heap hr 1 _ rfl
  have z1 := frozen_heap hr 1
  have r2 := cell_heap hr 2 _ rfl
  have z2 := frozen_heap hr 2
  have r3 := cell_heap hr 3 _ rfl
  have z3 := frozen_heap hr 3
  have r4 := cell_heap hr 4 _ rfl
  have z4 := frozen_heap hr 4
  have g0 := cell_heap hg 0 _ rfl
  have g1 := cell_heap hg 1 _ rfl
  have g2 := cell_heap hg 2 _ rfl
  have g3 := cell_heap hg 3 _ rfl
  clear hr hg hW hb1 hc1 hf1 hb2 hc2 hf2 hz1 hz2
  go_cut [8] (fun s8 wx => Rel W (n % 4294967296 / 16777216) (rg (fR (opF (n % 4294967296 / 16777216))) (n % 4294967296) 0 20) (rg (fR (opF (n % 4294967296 / 16777216))) (n % 4294967296) 1 16) (rg (fR (opF (n % 4294967296 / 16777216))) (n % 4294967296) 2 12) (mg (fB (opF (n % 4294967296 / 16777216))) (fL (opF (n % 4294967296 / 16777216))) (n % 4294967296)) s8 wx)
  case first =>
    go_region_held3 (fun w' => w'.cell? ⟨w2.heap.size, 0, none⟩ = some (.int .i64 (fR (opF (n % 4294967296 / 16777216)))) ∧ w'.cell? ⟨w2.heap.size, 1, none⟩ = some (.int .i64 (fB (opF (n % 4294967296 / 16777216)))) ∧ w'.cell? ⟨w2.heap.size, 2, none⟩ = some (.int .i64 (fL (opF (n % 4294967296 / 16777216)))) ∧ w'.cell? ⟨w2.heap.size, 3, none⟩ = some (.int .i64 (fH (opF (n % 4294967296 / 16777216)))) ∧ Below W.heap.size W w') (first | (with_reducible exact keep_call s1 (by assumption) (by assumption)) | (with_reducible exact keep_alloc s1 (by assumption)) | (with_reducible exact keep_new s1 (by assumption) (by assumption)) | (with_reducible exact keep_store s1 (by first | assumption | exact Nat.le_refl _) (by assumption)) | exact keep_drew s1 g0 g1 g2 g3 | exact ⟨g0, g1, g2, g3, Below.refl _ _⟩ | exact ⟨g0, g1, g2, g3, (Below.refl _ _).drew⟩)
      (first | (go_at_call 122; (with_reducible refine (register_any _ _ _ _ _ 0 20 hx0 hx1 (by omega) (by omega) _).mono ?_); rintro e u1 ⟨rfl, hu1⟩; obtain ⟨uc1, uf1⟩ := bcell hu1; have us1 : W.heap.size ≤ u1.heap.size := keep_size (by assumption) hu1; have hsz := us1; (try (have ut10 : W.heap.size < u1.heap.size := (by have := hu1.size; (try simp at this); omega)))) | (go_at_call 122; (with_reducible refine (register_any _ _ _ _ _ 1 16 hx0 hx1 (by omega) (by omega) _).mono ?_); rintro e u2 ⟨rfl, hu2⟩; obtain ⟨uc2, uf2⟩ := bcell hu2; have us2 : W.heap.size ≤ u2.heap.size := keep_size (by assumption) hu2; have hsz := us2; (try (have ut20 : W.heap.size < u2.heap.size := (by have := hu2.size; (try simp at this); omega))); (try (have ut21 : u1.heap.size < u2.heap.size := (by have := hu2.size; (try simp at this); omega)))) | (go_at_call 122; (with_reducible refine (register_any _ _ _ _ _ 2 12 hx0 hx1 (by omega) (by omega) _).mono ?_); rintro e u3 ⟨rfl, hu3⟩; obtain ⟨uc3, uf3⟩ := bcell hu3; have us3 : W.heap.size ≤ u3.heap.size := keep_size (by assumption) hu3; have hsz := us3; (try (have ut30 : W.heap.size < u3.heap.size := (by have := hu3.size; (try simp at this); omega))); (try (have ut31 : u1.heap.size < u3.heap.size := (by have := hu3.size; (try simp at this); omega))); (try (have ut32 : u2.heap.size < u3.heap.size := (by have := hu3.size; (try simp at this); omega)))) | (go_at_call 123; (with_reducible refine (imm_any _ _ _ _ _ hx0 hx1 hq.1 hq.2 _).mono ?_); rintro e u4 ⟨rfl, hu4⟩; obtain ⟨uc4, uf4⟩ := bcell hu4; have us4 : W.heap.size ≤ u4.heap.size := keep_size (by assumption) hu4; have hsz := us4; (try (have ut40 : W.heap.size < u4.heap.size := (by have := hu4.size; (try simp at this); omega))); (try (have ut41 : u1.heap.size < u4.heap.size := (by have := hu4.size; (try simp at this); omega))); (try (have ut42 : u2.heap.size < u4.heap.size := (by have := hu4.size; (try simp at this); omega))); (try (have ut43 : u3.heap.size < u4.heap.size := (by have := hu4.size; (try simp at this); omega)))))
    all_goals go_wp2_with fail
    all_goals go_meet
    · exact rel_of (MapKept.heap_alloc u4 _).1 us4 (below_of (by assumption))
    · exact rel_store ((hu4.block _ (by simp)).trans (MapKept.heap_alloc u3 _).1) us3 (below_of (by assumption))
    · exact rel_store ((hu4.block _ (by omega)).trans ((hu3.block _ (by simp)).trans (MapKept.heap_alloc u2 _).1)) us2 (below_of (by assumption))
    · exact rel_store ((hu4.block _ (by omega)).trans ((hu3.block _ (by omega)).trans ((hu2.block _ (by simp)).trans (MapKept.heap_alloc u1 _).1))) us1 (below_of (by assumption))
    · exact rel_store ((hu4.block _ (by omega)).trans ((hu3.block _ (by omega)).trans ((hu2.block _ (by omega)).trans ((hu1.block _ (by simp)).trans (MapKept.heap_alloc W _).1)))) (Nat.le_refl _) (below_of (by assumption))
  case rest =>
    obtain ⟨ce1, ce2, ce3, ce4, ce0⟩ := cand_eq n
    rw [ce1, ce2, ce3, ce4, ce0] at hcut
    clear ce1 ce2 ce3 ce4 ce0
    obtain ⟨p, rfl, p0, p1, k0, k1, k2, k3, k4, hbx⟩ := hcut
    obtain ⟨xc, xf⟩ := bcell hbx
    have x0 : w.heap.size < wc.heap.size := by have := hbx.size; omega
    have x1 : w.heap.size < p := by omega
    have x2 : w.heap.size ≠ p := by omega
    have x3 : p ≠ w.heap.size := by omega
    by_cases hd : decOk (wd n)
    · have hv := Lib.hid (decV_yes hd)
      have hE : (encE (dO (wd n)) (dA (wd n)) (dB (wd n)) (dC (wd n)) (dM (wd n)) != 0) = false := by simpa using hd.1
      have hW : (encW (dO (wd n)) (dA (wd n)) (dB (wd n)) (dC (wd n)) (dM (wd n)) != n % 4294967296) = false := by simpa [wd] using hd.2
      clear hd
      go_wp2_with (first | (go_at_call 124; (with_reducible refine (encode_says _ _ _ _ _ _).mono ?_); rintro e v1 ⟨rfl, hv1⟩; obtain ⟨vc1, vf1⟩ := bcell hv1; have vs : wc.heap.size ≤ v1.heap.size := hv1.size; have vs1 : w.heap.size < v1.heap.size := (by omega); have vs2 : p < v1.heap.size := (by omega)))
      rw [hv.out]
      have hB1 : Below w.heap.size w v1 := (hBW.trans (hbx.mono (by omega))).trans (hv1.mono (by omega))
      exact bodyPost_ret (v := .tuple #[insV (dO (wd n)) (dA (wd n)) (dB (wd n)) (dC (wd n)) (dM (wd n)), i64 0]) (by simp [results, Tryz.results87, go_sem, vc1, xc, x0, s2, r0, r1, r2, r3, r4]) rfl ⟨rfl, by clear hv1 vc1 vf1 hbx xc xf; go_grown⟩
    · have hv := Lib.hid (decV_no hd)
      by_cases hE' : encE (dO (wd n)) (dA (wd n)) (dB (wd n)) (dC (wd n)) (dM (wd n)) = 0
      · have hE : (encE (dO (wd n)) (dA (wd n)) (dB (wd n)) (dC (wd n)) (dM (wd n)) != 0) = false := by simpa using hE'
        have hW : (encW (dO (wd n)) (dA (wd n)) (dB (wd n)) (dC (wd n)) (dM (wd n)) != n % 4294967296) = true := by
          have : ¬ encW (dO (wd n)) (dA (wd n)) (dB (wd n)) (dC (wd n)) (dM (wd n)) = wd n := fun h => hd ⟨hE', h⟩
          simpa [wd] using this
        clear hd hE'
        go_wp2_with (first | (go_at_call 124; (with_reducible refine (encode_says _ _ _ _ _ _).mono ?_); rintro e v1 ⟨rfl, hv1⟩; obtain ⟨vc1, vf1⟩ := bcell hv1; have vs : wc.heap.size ≤ v1.heap.size := hv1.size; have vs1 : w.heap.size < v1.heap.size := (by omega); have vs2 : p < v1.heap.size := (by omega)))
        rw [hv.out]
        have hB1 : Below w.heap.size w v1 := (hBW.trans (hbx.mono (by omega))).trans (hv1.mono (by omega))
        exact bodyPost_ret (v := .tuple #[insV 0 0 0 0 0, i64 5]) (by simp [results, Tryz.results87, go_sem, vc1, xc, x0, s2, r0, r1, r2, r3, r4]) rfl ⟨rfl, by clear hv1 vc1 vf1 hbx xc xf; go_grown⟩
      · have hE : (encE (dO (wd n)) (dA (wd n)) (dB (wd n)) (dC (wd n)) (dM (wd n)) != 0) = true := by simpa using hE'
        clear hd hE'
        go_wp2_with (first | (go_at_call 124; (with_reducible refine (encode_says _ _ _ _ _ _).mono ?_); rintro e v1 ⟨rfl, hv1⟩; obtain ⟨vc1, vf1⟩ := bcell hv1; have vs : wc.heap.size ≤ v1.heap.size := hv1.size; have vs1 : w.heap.size < v1.heap.size := (by omega); have vs2 : p < v1.heap.size := (by omega)))
        rw [hv.out]
        have hB1 : Below w.heap.size w v1 := (hBW.trans (hbx.mono (by omega))).trans (hv1.mono (by omega))
        exact bodyPost_ret (v := .tuple #[insV 0 0 0 0 0, i64 5]) (by simp [results, Tryz.results87, go_sem, vc1, xc, x0, s2, r0, r1, r2, r3, r4]) rfl ⟨rfl, by clear hv1 vc1 vf1 hbx xc xf; go_grown⟩
/-- Decode of every number. -/
theorem decode_says (n : Int) (w : World) : Calls Tryz.prog 87 #[i64 n] w fun e w' => e = .returned (decV (wd n)) ∧ Below w.heap.size w w' := by
  by_cases h : dF (wd n) = 0
  · exact decode_none n h w
  · exact decode_some n h w
end Go.Proofs.YtfcmodllbhpniaaGreatDoor
