
/-
  The contract of package isa's Decode.
-/
import Derived.Test.YtpjonhcbhgalpaaDoorIsaEnc
import Derived.Test.YtpjonhcbhgalpaaDoorIsaMath3
import Derived.Deep.RegionHeld3
import Derived.Deep.DeepCutAuto
namespace Go.Proofs.YtpjonhcbhgalpaaDoor
open Go.ChangeShapes Go.WideShapes Go.ChangeAt Go.RowKit
/-- What Decode of a word tells. -/
abbrev decV (x : Int) : Value := .tuple #[insV (gO x) (gA x) (gB x) (gC x) (gM x), i64 (decE x)]
theorem wd_op (x : Int) (h0 : 0 ≤ x) (h1 : x ≤ 4294967295) : 0 ≤ x / 16777216 ∧ x / 16777216 ≤ 255 := by omega
theorem decV_no {x : Int} (h : ¬ decOk x) : decV x = .tuple #[insV 0 0 0 0 0, i64 5] := by
  obtain ⟨e0, e1, e2, e3, e4, e5⟩ := dec_no x h
  simp only [decV, insV, e0, e1, e2, e3, e4, e5]
theorem decV_yes {x : Int} (h : decOk x) : decV x = .tuple #[insV (dO x) (dA x) (dB x) (dC x) (dM x), i64 0] := by
  obtain ⟨e0, e1, e2, e3, e4, e5⟩ := dec_yes x h
  simp only [decV, insV, e0, e1, e2, e3, e4, e5]
/-- What a register's place of a word gives. -/
def rg (r x k at' : Int) : Int := if r ≤ k then 0 else x / 2 ^ at'.toNat % 16
def mg (q l x : Int) : Int := if l < 0 then sg (ex x q) else bt x (q - 1) 0
theorem keep_call {W w' w'' : World} {B : Nat} {v0 v1 v2 v3 : Value} (hB : B < W.heap.size) (h : Below w'.heap.size w' w'')
    (hS : w'.cell? ⟨B, 0, none⟩ = some v0 ∧ w'.cell? ⟨B, 1, none⟩ = some v1 ∧ w'.cell? ⟨B, 2, none⟩ = some v2 ∧ w'.cell? ⟨B, 3, none⟩ = some v3 ∧ Below W.heap.size W w') :
    w''.cell? ⟨B, 0, none⟩ = some v0 ∧ w''.cell? ⟨B, 1, none⟩ = some v1 ∧ w''.cell? ⟨B, 2, none⟩ = some v2 ∧ w''.cell? ⟨B, 3, none⟩ = some v3 ∧ Below W.heap.size W w'' := by
  obtain ⟨h0, h1, h2, h3, hb⟩ := hS
  have hs := hb.size
  refine ⟨?_, ?_, ?_, ?_, hb.trans (h.mono hs)⟩
  · rw [h.cell (p := ⟨B, 0, none⟩) (by show B < _; omega)]; exact h0
  · rw [h.cell (p := ⟨B, 1, none⟩) (by show B < _; omega)]; exact h1
  · rw [h.cell (p := ⟨B, 2, none⟩) (by show B < _; omega)]; exact h2
  · rw [h.cell (p := ⟨B, 3, none⟩) (by show B < _; omega)]; exact h3
theorem keep_alloc {W w' : World} {o : Obj} {B : Nat} {v0 v1 v2 v3 : Value} (hB : B < W.heap.size)
    (hS : w'.cell? ⟨B, 0, none⟩ = some v0 ∧ w'.cell? ⟨B, 1, none⟩ = some v1 ∧ w'.cell? ⟨B, 2, none⟩ = some v2 ∧ w'.cell? ⟨B, 3, none⟩ = some v3 ∧ Below W.heap.size W w') :
    (w'.alloc o).cell? ⟨B, 0, none⟩ = some v0 ∧ (w'.alloc o).cell? ⟨B, 1, none⟩ = some v1 ∧ (w'.alloc o).cell? ⟨B, 2, none⟩ = some v2 ∧ (w'.alloc o).cell? ⟨B, 3, none⟩ = some v3 ∧ Below W.heap.size W (w'.alloc o) :=
  keep_call hB ((Below.refl _ _).alloc (Nat.le_refl _) _) hS
theorem cell_heap {w : World} {b : Nat} {cs : Array Value} {t : TypeId} {fr : Nat × Nat} (h : w.heap[b]? = some (.cells cs t fr)) (k : Nat) (v : Value) (hv : cs[k]? = some v) : w.cell? ⟨b, k, none⟩ = some v := by simp [World.cell?, h, hv]
theorem frozen_heap {w : World} {b : Nat} {cs : Array Value} {t : TypeId} (h : w.heap[b]? = some (.cells cs t (0, 0))) (k : Nat) : w.frozen? ⟨b, k, none⟩ = false := by simp [World.frozen?, h]
theorem keep_of {W w' w'' : World} {B : Nat} {v0 v1 v2 v3 : Value} (hB : B < W.heap.size) (hh : ∀ k, k < W.heap.size → w''.heap[k]? = w'.heap[k]?) (ho : w''.os = w'.os) (ht : w''.tape = w'.tape) (hu : w''.output = w'.output) (hz : W.heap.size ≤ w''.heap.size)
    (hS : w'.cell? ⟨B, 0, none⟩ = some v0 ∧ w'.cell? ⟨B, 1, none⟩ = some v1 ∧ w'.cell? ⟨B, 2, none⟩ = some v2 ∧ w'.cell? ⟨B, 3, none⟩ = some v3 ∧ Below W.heap.size W w') : w''.cell? ⟨B, 0, none⟩ = some v0 ∧ w''.cell? ⟨B, 1, none⟩ = some v1 ∧ w''.cell? ⟨B, 2, none⟩ = some v2 ∧ w''.cell? ⟨B, 3, none⟩ = some v3 ∧ Below W.heap.size W w'' := by
  obtain ⟨h0, h1, h2, h3, hb⟩ := hS
  have hc : ∀ k, w''.cell? ⟨B, k, none⟩ = w'.cell? ⟨B, k, none⟩ := fun k => World.cell?_of_block (w := w') (hh B hB)
  exact ⟨(hc 0).trans h0, (hc 1).trans h1, (hc 2).trans h2, (hc 3).trans h3, ⟨ho.trans hb.os, ht.trans hb.tape, hu.trans hb.output, hz, fun k hk => (hh k hk).trans (hb.block k hk)⟩⟩
theorem keep_size {W w' w'' : World} {B : Nat} {v0 v1 v2 v3 : Value} (hS : w'.cell? ⟨B, 0, none⟩ = some v0 ∧ w'.cell? ⟨B, 1, none⟩ = some v1 ∧ w'.cell? ⟨B, 2, none⟩ = some v2 ∧ w'.cell? ⟨B, 3, none⟩ = some v3 ∧ Below W.heap.size W w') (h : Below w'.heap.size w' w'') : W.heap.size ≤ w''.heap.size := Nat.le_trans hS.2.2.2.2.size h.size
theorem keep_new {W w' : World} {o o' : Obj} {B : Nat} {v0 v1 v2 v3 : Value} (hB : B < W.heap.size) (hz : W.heap.size ≤ w'.heap.size) (hS : (w'.alloc o).cell? ⟨B, 0, none⟩ = some v0 ∧ (w'.alloc o).cell? ⟨B, 1, none⟩ = some v1 ∧ (w'.alloc o).cell? ⟨B, 2, none⟩ = some v2 ∧ (w'.alloc o).cell? ⟨B, 3, none⟩ = some v3 ∧ Below W.heap.size W (w'.alloc o)) : (w'.alloc o').cell? ⟨B, 0, none⟩ = some v0 ∧ (w'.alloc o').cell? ⟨B, 1, none⟩ = some v1 ∧ (w'.alloc o').cell? ⟨B, 2, none⟩ = some v2 ∧ (w'.alloc o').cell? ⟨B, 3, none⟩ = some v3 ∧ Below W.heap.size W (w'.alloc o') :=
  keep_of (w' := w'.alloc o) (w'' := w'.alloc o') hB (fun k hk => by rw [Below.heap_alloc w' o' k (by omega), Below.heap_alloc w' o k (by omega)]) rfl rfl rfl (by rw [World.size_alloc]; omega) hS
theorem keep_set1 {W w' : World} {p o : Nat} {x : Value} {B : Nat} {v0 v1 v2 v3 : Value} (hB : B < W.heap.size) (hp : W.heap.size ≤ p) (hS : w'.cell? ⟨B, 0, none⟩ = some v0 ∧ w'.cell? ⟨B, 1, none⟩ = some v1 ∧ w'.cell? ⟨B, 2, none⟩ = some v2 ∧ w'.cell? ⟨B, 3, none⟩ = some v3 ∧ Below W.heap.size W w') : (w'.setCell ⟨p, o, none⟩ x).cell? ⟨B, 0, none⟩ = some v0 ∧ (w'.setCell ⟨p, o, none⟩ x).cell? ⟨B, 1, none⟩ = some v1 ∧ (w'.setCell ⟨p, o, none⟩ x).cell? ⟨B, 2, none⟩ = some v2 ∧ (w'.setCell ⟨p, o, none⟩ x).cell? ⟨B, 3, none⟩ = some v3 ∧ Below W.heap.size W (w'.setCell ⟨p, o, none⟩ x) := by
  obtain ⟨h0, h1, h2, h3, hb⟩ := hS
  have hc : ∀ k, (w'.setCell ⟨p, o, none⟩ x).cell? ⟨B, k, none⟩ = w'.cell? ⟨B, k, none⟩ := fun k => World.cell?_of_block (w := w') (Below.heap_setCell w' ⟨p, o, none⟩ x B (by show B ≠ p; omega))
  exact ⟨(hc 0).trans h0, (hc 1).trans h1, (hc 2).trans h2, (hc 3).trans h3, hb.setCell hp x⟩
theorem keep_store {W w' : World} {p : Nat} {x0 x1 x2 x3 x4 : Value} {B : Nat} {v0 v1 v2 v3 : Value} (hB : B < W.heap.size) (hp : W.heap.size ≤ p) (hS : w'.cell? ⟨B, 0, none⟩ = some v0 ∧ w'.cell? ⟨B, 1, none⟩ = some v1 ∧ w'.cell? ⟨B, 2, none⟩ = some v2 ∧ w'.cell? ⟨B, 3, none⟩ = some v3 ∧ Below W.heap.size W w') : (((((w'.setCell ⟨p, 0, none⟩ x0).setCell ⟨p, 1, none⟩ x1).setCell ⟨p, 2, none⟩ x2).setCell ⟨p, 3, none⟩ x3).setCell ⟨p, 4, none⟩ x4).cell? ⟨B, 0, none⟩ = some v0 ∧ (((((w'.setCell ⟨p, 0, none⟩ x0).setCell ⟨p, 1, none⟩ x1).setCell ⟨p, 2, none⟩ x2).setCell ⟨p, 3, none⟩ x3).setCell ⟨p, 4, none⟩ x4).cell? ⟨B, 1, none⟩ = some v1 ∧ (((((w'.setCell ⟨p, 0, none⟩ x0).setCell ⟨p, 1, none⟩ x1).setCell ⟨p, 2, none⟩ x2).setCell ⟨p, 3, none⟩ x3).setCell ⟨p, 4, none⟩ x4).cell? ⟨B, 2, none⟩ = some v2 ∧ (((((w'.setCell ⟨p, 0, none⟩ x0).setCell ⟨p, 1, none⟩ x1).setCell ⟨p, 2, none⟩ x2).setCell ⟨p, 3, none⟩ x3).setCell ⟨p, 4, none⟩ x4).cell? ⟨B, 3, none⟩ = some v3 ∧ Below W.heap.size W (((((w'.setCell ⟨p, 0, none⟩ x0).setCell ⟨p, 1, none⟩ x1).setCell ⟨p, 2, none⟩ x2).setCell ⟨p, 3, none⟩ x3).setCell ⟨p, 4, none⟩ x4) :=
  keep_set1 hB hp (keep_set1 hB hp (keep_set1 hB hp (keep_set1 hB hp (keep_set1 hB hp hS))))
theorem keep_drew {W : World} {o : Obj} {B : Nat} {v0 v1 v2 v3 : Value} (hB : B < W.heap.size) (h0 : W.cell? ⟨B, 0, none⟩ = some v0) (h1 : W.cell? ⟨B, 1, none⟩ = some v1) (h2 : W.cell? ⟨B, 2, none⟩ = some v2) (h3 : W.cell? ⟨B, 3, none⟩ = some v3) : (W.alloc o).drew.cell? ⟨B, 0, none⟩ = some v0 ∧ (W.alloc o).drew.cell? ⟨B, 1, none⟩ = some v1 ∧ (W.alloc o).drew.cell? ⟨B, 2, none⟩ = some v2 ∧ (W.alloc o).drew.cell? ⟨B, 3, none⟩ = some v3 ∧ Below W.heap.size W (W.alloc o).drew := by
  have hb : Below W.heap.size W (W.alloc o).drew := ((Below.refl _ _).alloc (Nat.le_refl _) _).drew
  exact keep_call hB hb ⟨h0, h1, h2, h3, Below.refl _ _⟩
/-- What the statement that makes i leaves. -/
def Rel (W : World) (x0 x1 x2 x3 x4 : Int) (s8 : Value) (wx : World) : Prop := ∃ p : Nat, s8 = .pointer (some ⟨p, 0, none⟩) ∧ W.heap.size ≤ p ∧ p < wx.heap.size ∧ wx.cell? ⟨p, 0, none⟩ = some (.int .i64 x0) ∧ wx.cell? ⟨p, 1, none⟩ = some (.int .i64 x1) ∧ wx.cell? ⟨p, 2, none⟩ = some (.int .i64 x2) ∧ wx.cell? ⟨p, 3, none⟩ = some (.int .i64 x3) ∧ wx.cell? ⟨p, 4, none⟩ = some (.int .i64 x4) ∧ Below W.heap.size W wx
theorem below_of {W wx : World} {B : Nat} {v0 v1 v2 v3 : Value} (hS : wx.cell? ⟨B, 0, none⟩ = some v0 ∧ wx.cell? ⟨B, 1, none⟩ = some v1 ∧ wx.cell? ⟨B, 2, none⟩ = some v2 ∧ wx.cell? ⟨B, 3, none⟩ = some v3 ∧ Below W.heap.size W wx) : Below W.heap.size W wx := hS.2.2.2.2
theorem rel_of {W wx : World} {p : Nat} {x0 x1 x2 x3 x4 : Int} {t : TypeId} (hp : wx.heap[p]? = some (.cells #[.int .i64 x0, .int .i64 x1, .int .i64 x2, .int .i64 x3, .int .i64 x4] t (0, 0))) (hz : W.heap.size ≤ p) (hb : Below W.heap.size W wx) : Rel W x0 x1 x2 x3 x4 (.pointer (some ⟨p, 0, none⟩)) wx :=
  ⟨p, rfl, hz, (Array.getElem?_eq_some_iff.1 hp).1, cell_heap hp 0 _ rfl, cell_heap hp 1 _ rfl, cell_heap hp 2 _ rfl, cell_heap hp 3 _ rfl, cell_heap hp 4 _ rfl, hb⟩
theorem set_heap {w : World} {g i : Nat} {cur : Array Value} {t : TypeId} {fr : Nat × Nat} {v : Value} (hg : w.heap[g]? = some (.cells cur t fr)) : (w.setCell ⟨g, i, none⟩ v).heap[g]? = some (.cells (cur.setIfInBounds i v) t fr) := by
  rw [setCell_eq_setRow w g i cur t fr v hg]; exact setRow_heap w g cur _ t fr hg
theorem rel_store {W u : World} {p : Nat} {x0 x1 x2 x3 x4 : Int} {z0 z1 z2 z3 z4 : Value} {t : TypeId} (hp : u.heap[p]? = some (.cells #[z0, z1, z2, z3, z4] t (0, 0))) (hz : W.heap.size ≤ p) (hb : Below W.heap.size W (((((u.setCell ⟨p, 0, none⟩ (.int .i64 x0)).setCell ⟨p, 1, none⟩ (.int .i64 x1)).setCell ⟨p, 2, none⟩ (.int .i64 x2)).setCell ⟨p, 3, none⟩ (.int .i64 x3)).setCell ⟨p, 4, none⟩ (.int .i64 x4))) : Rel W x0 x1 x2 x3 x4 (.pointer (some ⟨p, 0, none⟩)) (((((u.setCell ⟨p, 0, none⟩ (.int .i64 x0)).setCell ⟨p, 1, none⟩ (.int .i64 x1)).setCell ⟨p, 2, none⟩ (.int .i64 x2)).setCell ⟨p, 3, none⟩ (.int .i64 x3)).setCell ⟨p, 4, none⟩ (.int .i64 x4)) :=
  rel_of (set_heap (set_heap (set_heap (set_heap (set_heap hp))))) hz hb
/-- What the fields of i are, in the walk's words and in the plain ones. -/
theorem cand_eq (n : Int) : rg (fR (opF (n % 4294967296 / 16777216))) (n % 4294967296) 0 20 = dA (wd n) ∧ rg (fR (opF (n % 4294967296 / 16777216))) (n % 4294967296) 1 16 = dB (wd n) ∧ rg (fR (opF (n % 4294967296 / 16777216))) (n % 4294967296) 2 12 = dC (wd n) ∧ mg (fB (opF (n % 4294967296 / 16777216))) (fL (opF (n % 4294967296 / 16777216))) (n % 4294967296) = dM (wd n) ∧ n % 4294967296 / 16777216 = dO (wd n) :=
  ⟨rfl, rfl, rfl, rfl, rfl⟩
end Go.Proofs.YtpjonhcbhgalpaaDoor
