/-
  Package config: what Unpack defers. | Package config: Unpack.
-/
import Derived.Test.YtogbhgbnminpdaaDoorJnAs
import Derived.Test.YtogbhgbnminpdaaDoorJnPckM
import Derived.Recover
import Derived.Defers
import Derived.Stop.Asserts
set_option linter.unusedVariables false
set_option maxRecDepth 100000
set_option linter.unusedVariables false
namespace Go.Proofs.YtogbhgbnminpdaaDoor.Pck
open Go.Proofs.YtogbhgbnminpdaaDoor Go.Proofs.YtogbhgbnminpdaaDoor.Ser Go.Proofs.YtogbhgbnminpdaaDoor.Img Go.Proofs.YtogbhgbnminpdaaDoor.Cfg
open Go.ChangeShapes Go.WideShapes Go.ChangeAt Go.RowKit
set_option linter.unusedVariables false
abbrev zeroC : Array Value := #[i64 0, i64 0, i64 0, .slice none 0 0, .slice none 0 0, .slice none 0 0]
/-- The two results, in blocks of their own. -/
def Res (w : World) (hc he : Nat) (a : Array Value) (n : Int) : Prop := w.heap[hc]? = some (.cells a 26 (0, 0)) ∧ w.heap[he]? = some (.cells #[i64 n] 30 (0, 0)) ∧ hc ≠ he
set_option maxHeartbeats 400000 in
theorem catch_yes {w : World} {hc he : Nat} (hg : w.cell? ⟨0, 0, none⟩ = some (.iface 105 (hnd 67))) (R : Res w hc he zeroC 0) :
    CallsD Tryd.prog 29 #[.pointer (some ⟨hc, 0, none⟩), .pointer (some ⟨he, 0, none⟩)] (.panicking [{ v := .iface 65 (.agg #[]), recovered := false }]) w fun e u' w' =>
      e = .returned (.tuple #[]) ∧ u' = .panicking [{ v := .iface 65 (.agg #[]), recovered := true }] ∧ Res w' hc he zeroC 4 ∧ But (fun i => i = hc ∨ i = he) w w' := by
  have hta := fun (x : TypeId) (v : Value) (w : World) => run_typeAssert_hasB (P := Tryd.prog) (asserted := 67) (t := 65) Tryd.underlying67 (by kernel_rfl) v x w
  refine callsD_of_wpS Tryd.func29 rfl fun c₀ cs hu => ?_
  apply wpS_seq
  apply wpS_region
  simp [wpOpsS, go_sem, Tryd.ntmps29, Exit.thenS]
  apply wpS_seq
  apply wpS_region
  simp [wpOpsS, go_sem, recoverD, hu, Exit.thenS, hta]
  refine wpS_of_wp ?_
  simp only [Array.replicate, List.replicate, List.setIfInBounds_toArray, List.set_cons_zero, List.set_cons_succ, List.append_toArray, List.cons_append, List.nil_append]
  change Code.wp _ _ _ { tmps := #[.pointer (some ⟨hc, 0, none⟩), .pointer (some ⟨he, 0, none⟩), .pointer (some ⟨w.heap.size, 0, none⟩), .iface 65 (.agg #[]), .bool true, .tuple #[.iface 65 (.agg #[]), .bool true], .iface 65 (.agg #[]), .tuple #[.iface 65 (.agg #[]), .bool true], .iface 65 (.agg #[]), .bool true, undef, undef, undef, undef, undef, undef, undef], defers := [] } (w.alloc (.cells #[] 65))
  refine Code.wp_mono (Q := fun e a' w' => e = Exit.normal ∧ a'.defers = [] ∧ Res w' hc he zeroC 4 ∧ But (fun i => i = hc ∨ i = he) w w') (fun e a' w' h => ?_) ?_
  · obtain ⟨rfl, h1, h2, h3⟩ := h
    simp [bodyPostS, results, Tryd.results29, h1, h2, h3]
  clear hu hta
  have hl0 : 0 < w.heap.size := World.block_lt_of_cell? w _ hg
  have HA := Lib.hid (As_says (w := w.alloc (.cells #[] 65)) (b := w.heap.size) (by rw [World.cell?_alloc_lt _ _ ⟨0, 0, none⟩ hl0]; exact hg))
  have hlc : hc < w.heap.size := (Array.getElem?_eq_some_iff.1 R.1).1
  have hle : he < w.heap.size := (Array.getElem?_eq_some_iff.1 R.2.1).1
  have hs1 : (w.alloc (.cells #[] 65)).heap.size = w.heap.size + 1 := by simp
  have hB1 : Below w.heap.size w (w.alloc (.cells #[] 65)) := (Below.refl _ _).alloc (Nat.le_refl _) _
  have HF := Lib.hid (fun (u : World) (hu : Below (w.alloc (.cells #[] 65)).heap.size (w.alloc (.cells #[] 65)) u) => (by
    have b := hB1.trans (hu.mono (by rw [hs1]; omega))
    have R3 : Res u hc he zeroC 0 := ⟨(b.block hc hlc).trans R.1, (b.block he hle).trans R.2.1, R.2.2⟩
    have Zx : ∀ (k : Nat) (v : Value), [i64 0, i64 0, i64 0, Value.slice none 0 0, .slice none 0 0, .slice none 0 0][k]? = some v → u.cell? ⟨hc, k, none⟩ = some v := fun k v hv => by
      rw [cell_of_row _ _ k _ _ _ R3.1, ← Array.getElem?_toList]; exact hv
    have F0 : ∀ k, u.frozen? ⟨hc, k, none⟩ = false := fun k => by simp [World.frozen?, R3.1]
    exact ⟨b, R3, ⟨Zx 0 _ rfl, Zx 1 _ rfl, Zx 2 _ rfl, Zx 3 _ rfl, Zx 4 _ rfl, Zx 5 _ rfl⟩, ⟨F0 0, F0 1, F0 2, F0 3, F0 4, F0 5⟩, by rw [cell_of_row _ _ 0 _ _ _ R3.2.1]; rfl, by simp [World.frozen?, R3.2.1]⟩ :
      Below w.heap.size w u ∧ Res u hc he zeroC 0 ∧ (u.cell? ⟨hc, 0, none⟩ = some (i64 0) ∧ u.cell? ⟨hc, 1, none⟩ = some (i64 0) ∧ u.cell? ⟨hc, 2, none⟩ = some (i64 0) ∧ u.cell? ⟨hc, 3, none⟩ = some (.slice none 0 0) ∧ u.cell? ⟨hc, 4, none⟩ = some (.slice none 0 0) ∧ u.cell? ⟨hc, 5, none⟩ = some (.slice none 0 0)) ∧ (u.frozen? ⟨hc, 0, none⟩ = false ∧ u.frozen? ⟨hc, 1, none⟩ = false ∧ u.frozen? ⟨hc, 2, none⟩ = false ∧ u.frozen? ⟨hc, 3, none⟩ = false ∧ u.frozen? ⟨hc, 4, none⟩ = false ∧ u.frozen? ⟨hc, 5, none⟩ = false) ∧ u.cell? ⟨he, 0, none⟩ = some (i64 0) ∧ u.frozen? ⟨he, 0, none⟩ = false))
  have hne := R.2.2
  clear R hg hlc hle hs1 hB1
  go_upto_region 3 with (go_at_call 30; (with_reducible refine HA.out.mono ?_); rintro e wq ⟨rfl, hb⟩; have hfs := HF.out wq hb; clear hb; obtain ⟨b, R3', ⟨z0, z1, z2, z3, z4, z5⟩, ⟨f0, f1, f2, f3, f4, f5⟩, y0, g0⟩ := hfs; have hb2 := Lib.hid (show But (fun i => i = hc ∨ i = he) w wq from ⟨b.os, b.tape, b.output, b.size, fun k hk _ => b.block k hk⟩); have R3 := Lib.hid R3'; clear b R3')
  clear HF HA
  go_wp2
  obtain ⟨wf, hwf⟩ : ∃ wf, wf = (((((((wq.setCell ⟨hc, 0, none⟩ (i64 0)).setCell ⟨hc, 1, none⟩ (i64 0)).setCell ⟨hc, 2, none⟩ (i64 0)).setCell ⟨hc, 3, none⟩ (.slice none 0 0)).setCell ⟨hc, 4, none⟩ (.slice none 0 0)).setCell ⟨hc, 5, none⟩ (.slice none 0 0)).setCell ⟨he, 0, none⟩ (i64 4)) := ⟨_, rfl⟩
  rw [← hwf]
  refine ⟨⟨?_, ?_, hne⟩, ?_⟩
  · rw [hwf, Below.heap_setCell _ _ _ _ (by show hc ≠ he; exact hne)]
    exact Cfg.setCell_row (Cfg.setCell_row (Cfg.setCell_row (Cfg.setCell_row (Cfg.setCell_row (Cfg.setCell_row (R3.out.1) 0 _) 1 _) 2 _) 3 _) 4 _) 5 _
  · rw [hwf]
    exact Cfg.setCell_row ((Below.heap_setCell _ _ _ _ (by show he ≠ hc; exact R3.out.2.2.symm)).trans ((Below.heap_setCell _ _ _ _ (by show he ≠ hc; exact R3.out.2.2.symm)).trans ((Below.heap_setCell _ _ _ _ (by show he ≠ hc; exact R3.out.2.2.symm)).trans ((Below.heap_setCell _ _ _ _ (by show he ≠ hc; exact R3.out.2.2.symm)).trans ((Below.heap_setCell _ _ _ _ (by show he ≠ hc; exact R3.out.2.2.symm)).trans ((Below.heap_setCell _ _ _ _ (by show he ≠ hc; exact R3.out.2.2.symm)).trans (R3.out.2.1))))))) 0 _
  · rw [hwf]
    exact (((((((hb2.out).setCell ⟨hc, 0, none⟩ (.inl rfl) _).setCell ⟨hc, 1, none⟩ (.inl rfl) _).setCell ⟨hc, 2, none⟩ (.inl rfl) _).setCell ⟨hc, 3, none⟩ (.inl rfl) _).setCell ⟨hc, 4, none⟩ (.inl rfl) _).setCell ⟨hc, 5, none⟩ (.inl rfl) _).setCell ⟨he, 0, none⟩ (.inr rfl) _
set_option maxHeartbeats 400000 in
theorem catch_idle {w : World} {hc he : Nat} :
    CallsD Tryd.prog 29 #[.pointer (some ⟨hc, 0, none⟩), .pointer (some ⟨he, 0, none⟩)] .returning w fun e u' w' => e = .returned (.tuple #[]) ∧ u' = .returning ∧ Below w.heap.size w w' := by
  have hta : ∀ (x : TypeId) (w : World), (Instr.typeAssert .nilIface x 67 true).run Tryd.prog w = .ok (.tuple #[.nilIface, .bool false]) w := fun _ _ => by kernel_rfl
  refine callsD_of_wpS Tryd.func29 rfl fun c₀ cs hu => ?_
  apply wpS_seq
  apply wpS_region
  simp [wpOpsS, go_sem, Tryd.ntmps29, Exit.thenS]
  apply wpS_seq
  apply wpS_region
  simp [wpOpsS, go_sem, recoverD, hu, Exit.thenS, hta]
  refine wpS_of_wp ?_
  simp only [Array.replicate, List.replicate, List.setIfInBounds_toArray, List.set_cons_zero, List.set_cons_succ, List.append_toArray, List.cons_append, List.nil_append]
  change Code.wp _ _ _ { tmps := #[.pointer (some ⟨hc, 0, none⟩), .pointer (some ⟨he, 0, none⟩), .pointer (some ⟨w.heap.size, 0, none⟩), .nilIface, .bool false, .tuple #[.nilIface, .bool false], .nilIface, .tuple #[.nilIface, .bool false], .nilIface, .bool false, undef, undef, undef, undef, undef, undef, undef], defers := [] } (w.alloc (.cells #[] 65))
  have hB1 : Below w.heap.size w (w.alloc (.cells #[] 65)) := (Below.refl _ _).alloc (Nat.le_refl _) _
  go_wp2
  cases c₀
  simp_all [bodyPostS, results, Tryd.results29]
end Go.Proofs.YtogbhgbnminpdaaDoor.Pck
set_option maxRecDepth 100000
set_option linter.unusedVariables false
namespace Go.Proofs.YtogbhgbnminpdaaDoor.Pck
open Go.Proofs.YtogbhgbnminpdaaDoor Go.Proofs.YtogbhgbnminpdaaDoor.Ser Go.Proofs.YtogbhgbnminpdaaDoor.Img Go.Proofs.YtogbhgbnminpdaaDoor.Cfg
open Go.ChangeShapes Go.WideShapes Go.ChangeAt Go.RowKit
set_option linter.unusedVariables false
theorem config_says {B : Nat} {w0 w : World} {g : Nat} {b : List Int} (r : Rd B w0 w g b) (hb : Byt b) :
    Calls Tryd.prog 31 #[.pointer (some ⟨g, 0, none⟩)] w (ReadBy w0 w g b) := by
  by_cases h : b.length < 16
  · exact config_short r hb h
  · exact config_long r hb (by omega)
/-- What Unpack's start lays: the two results, the reader. -/
structure Beg (w w3 : World) (xs : List Int) : Prop where
  res : Res w3 w.heap.size (w.heap.size + 1) zeroC 0
  rd : Rd w.heap.size w3 w3 (w.heap.size + 2) xs
  b : Below w.heap.size w w3
  sz : w3.heap.size = w.heap.size + 3
theorem beg_of {w : World} {p : Option Addr} {n c : Nat} {xs : List Int} (L : Lie .u8 w w.heap.size p n c xs) (hc : c ≤ 9223372036854775807) :
    Beg w (((w.alloc (.cells zeroC 26)).alloc (.cells #[i64 0] 30)).alloc (.cells #[.slice p n c] 72)) xs := by
  obtain ⟨w1, hw1⟩ : ∃ w1, w1 = w.alloc (.cells zeroC 26) := ⟨_, rfl⟩
  obtain ⟨w2, hw2⟩ : ∃ w2, w2 = w1.alloc (.cells #[i64 0] 30) := ⟨_, rfl⟩
  obtain ⟨w3, hw3⟩ : ∃ w3, w3 = w2.alloc (.cells #[.slice p n c] 72) := ⟨_, rfl⟩
  rw [← hw1, ← hw2, ← hw3]
  have s1 : w1.heap.size = w.heap.size + 1 := by rw [hw1]; simp
  have s2 : w2.heap.size = w.heap.size + 2 := by rw [hw2]; simp [s1]
  have s3 : w3.heap.size = w.heap.size + 3 := by rw [hw3]; simp [s2]
  have b1 : Below w.heap.size w w1 := by rw [hw1]; exact (Below.refl _ _).alloc (Nat.le_refl _) _
  have b2 : Below w1.heap.size w1 w2 := by rw [hw2]; exact (Below.refl _ _).alloc (Nat.le_refl _) _
  have b3 : Below w2.heap.size w2 w3 := by rw [hw3]; exact (Below.refl _ _).alloc (Nat.le_refl _) _
  have h1 : w1.heap[w.heap.size]? = some (.cells zeroC 26 (0, 0)) := by rw [hw1]; exact heap_alloc_new _ _
  have h2 : w2.heap[w.heap.size + 1]? = some (.cells #[i64 0] 30 (0, 0)) := by rw [hw2, ← s1]; exact heap_alloc_new _ _
  have h3 : w3.heap[w.heap.size + 2]? = some (.cells #[.slice p n c] 72 (0, 0)) := by rw [hw3, ← s2]; exact heap_alloc_new _ _
  have bb : Below w.heap.size w w3 := b1.trans ((b2.trans (b3.mono (by omega))).mono (by omega))
  exact ⟨⟨(b3.block _ (by omega)).trans ((b2.block _ (by omega)).trans h1), (b3.block _ (by omega)).trans h2, by omega⟩, ⟨Oth.refl _ _, by omega, p, n, c, h3, L.kept bb (Nat.le_refl _), hc⟩, bb, s3⟩
theorem res_cells {w : World} {hc he : Nat} {a0 a1 a2 a3 a4 a5 : Value} {n : Int} (R : Res w hc he #[a0, a1, a2, a3, a4, a5] n) : (w.cell? ⟨hc, 0, none⟩ = some a0 ∧ w.cell? ⟨hc, 1, none⟩ = some a1 ∧ w.cell? ⟨hc, 2, none⟩ = some a2 ∧ w.cell? ⟨hc, 3, none⟩ = some a3 ∧ w.cell? ⟨hc, 4, none⟩ = some a4 ∧ w.cell? ⟨hc, 5, none⟩ = some a5) ∧ w.cell? ⟨he, 0, none⟩ = some (i64 n) :=
  ⟨⟨by rw [cell_of_row _ _ 0 _ _ _ R.1]; rfl, by rw [cell_of_row _ _ 1 _ _ _ R.1]; rfl, by rw [cell_of_row _ _ 2 _ _ _ R.1]; rfl, by rw [cell_of_row _ _ 3 _ _ _ R.1]; rfl, by rw [cell_of_row _ _ 4 _ _ _ R.1]; rfl, by rw [cell_of_row _ _ 5 _ _ _ R.1]; rfl⟩, by rw [cell_of_row _ _ 0 _ _ _ R.2.1]; rfl⟩
/-- Unpack's answer. -/
def Unp (w : World) (xs : List Int) (e : Ending) (w' : World) : Prop := Below w.heap.size w w' ∧
  ((∃ (c : Cf) (v : Value), Cfg.chk c = 0 ∧ packC c = xs ∧ e = .returned (.tuple #[v, i64 0]) ∧ AtC w' w.heap.size w'.heap.size v c) ∨ ((∀ (c : Cf), Cfg.chk c = 0 → packC c ≠ xs) ∧ e = .returned (.tuple #[.agg zeroC, i64 4])))
set_option maxHeartbeats 400000 in
theorem unpack_none {w : World} {p : Option Addr} {n c : Nat} {xs : List Int} (L : Lie .u8 w w.heap.size p n c xs) (hb : Byt xs) (hc : c ≤ 9223372036854775807) (hg : w.cell? ⟨0, 0, none⟩ = some (.iface 105 (hnd 67))) (hn : rdC xs = none) :
    Calls Tryd.prog 14 #[.slice p n c] w (Unp w xs) := by
  obtain ⟨q, hq⟩ : ∃ q, q = Unp w xs := ⟨_, rfl⟩
  rw [← hq]
  have hmf : ∀ (fn : Fn) (first cap : Array Value) (w : World), (Instr.makeFunc fn first cap).run Tryd.prog w = .ok (.func fn first cap) w := fun _ _ _ _ => rfl
  have hl0 : 0 < w.heap.size := World.block_lt_of_cell? w _ hg
  obtain ⟨w3, hw3⟩ : ∃ w3, w3 = ((w.alloc (.cells zeroC 26)).alloc (.cells #[i64 0] 30)).alloc (.cells #[.slice p n c] 72) := ⟨_, rfl⟩
  have B := beg_of L hc
  rw [← hw3] at B
  obtain ⟨h, hh⟩ : ∃ h, w.heap.size = h := ⟨_, rfl⟩
  have HC := Lib.hid ((config_says B.rd hb).mono fun e w' r => (⟨r.1, by have := r.2; rw [hn] at this; exact this⟩ : Oth (w.heap.size + 2) w3 w' ∧ e = giveUp))
  have HY : ∀ (u : World) (o : Oth (w.heap.size + 2) w3 u), CallsD Tryd.prog 29 #[.pointer (some ⟨w.heap.size, 0, none⟩), .pointer (some ⟨w.heap.size + 1, 0, none⟩)] (.panicking [{ v := .iface 65 (.agg #[]), recovered := false }]) u fun e u' w' =>
      e = .returned (.tuple #[]) ∧ u' = .panicking [{ v := .iface 65 (.agg #[]), recovered := true }] ∧ Res w' w.heap.size (w.heap.size + 1) zeroC 4 ∧ q (.returned (.tuple #[.agg zeroC, i64 4])) w' := by
    intro u o
    have hs := B.sz
    refine (catch_yes (w := u) (hc := w.heap.size) (he := w.heap.size + 1) ?_ ⟨(o.block _ (by omega) (by omega)).trans B.res.1, (o.block _ (by omega) (by omega)).trans B.res.2.1, B.res.2.2⟩).mono fun e u' w' h => ?_
    · exact (World.cell?_of_block ((o.block 0 (by omega) (by omega)).trans (B.b.block 0 hl0))).trans hg
    · obtain ⟨h1, h2, h3, h4⟩ := h
      refine ⟨h1, h2, h3, ?_⟩
      rw [hq]
      refine ⟨⟨h4.os.trans (o.os.trans B.b.os), h4.tape.trans (o.tape.trans B.b.tape), h4.output.trans (o.output.trans B.b.output), by have := h4.size; have := o.size; omega, fun k hk => ?_⟩, .inr ⟨fun c hc hp => ?_, rfl⟩⟩
      · exact (h4.block k (by have := o.size; omega) (by omega)).trans ((o.block k (by omega) (by omega)).trans (B.b.block k hk))
      · rw [← hp, rdC_pack hc] at hn; cases hn
  replace HY := Lib.hid HY
  rw [hh] at HC HY
  clear B hq hl0 L
  go_enter_defers Tryd.func14, Tryd.ntmps14
  have hw3' : w3 = ((w.alloc (.cells #[.int .i64 0, .int .i64 0, .int .i64 0, .slice none 0 0, .slice none 0 0, .slice none 0 0] 26)).alloc (.cells #[.int .i64 0] 30)).alloc (.cells #[.slice p n c] 72) := hw3
  have HC' : Calls Tryd.prog 31 #[.pointer (some ⟨h + 1 + 1, 0, none⟩)] w3 fun e w' => Oth (h + 2) w3 w' ∧ e = giveUp := HC.out
  replace HC' := Lib.hid HC'
  clear hw3 HC
  go_wp2_with fail
  rw [← hw3']
  clear hw3'
  go_at_call 31
  refine HC'.out.mono ?_
  rintro e u ⟨o, rfl⟩
  refine leaves_cons (f := 29) (args := #[.pointer (some ⟨h, 0, none⟩), .pointer (some ⟨h + 1, 0, none⟩)]) (by simp) (by simp [go_sem]) ?_
  refine (HY.out u o).mono ?_
  rintro e u' w'' ⟨rfl, rfl, R, hqq⟩
  obtain ⟨⟨c0, c1, c2, c3, c4, c5⟩, ce⟩ := res_cells R
  simp [Leaves, settle, results, Tryd.results14, go_sem, c0, c1, c2, c3, c4, c5, ce]
  exact hqq
/-- The results are set. -/
theorem res_set {w : World} {hc he : Nat} {a0 a1 a2 a3 a4 a5 : Value} {n : Int} (R : Res w hc he #[a0, a1, a2, a3, a4, a5] n) (b0 b1 b2 b3 b4 b5 : Value) (m : Int) :
    Res (((((((w.setCell ⟨hc, 0, none⟩ b0).setCell ⟨hc, 1, none⟩ b1).setCell ⟨hc, 2, none⟩ b2).setCell ⟨hc, 3, none⟩ b3).setCell ⟨hc, 4, none⟩ b4).setCell ⟨hc, 5, none⟩ b5).setCell ⟨he, 0, none⟩ (i64 m)) hc he #[b0, b1, b2, b3, b4, b5] m := by
  refine ⟨?_, ?_, R.2.2⟩
  · rw [Below.heap_setCell _ _ _ _ (by show hc ≠ he; exact R.2.2)]
    exact Cfg.setCell_row (Cfg.setCell_row (Cfg.setCell_row (Cfg.setCell_row (Cfg.setCell_row (Cfg.setCell_row R.1 0 _) 1 _) 2 _) 3 _) 4 _) 5 _
  · exact Cfg.setCell_row ((Below.heap_setCell _ _ _ _ (by show he ≠ hc; exact R.2.2.symm)).trans ((Below.heap_setCell _ _ _ _ (by show he ≠ hc; exact R.2.2.symm)).trans ((Below.heap_setCell _ _ _ _ (by show he ≠ hc; exact R.2.2.symm)).trans ((Below.heap_setCell _ _ _ _ (by show he ≠ hc; exact R.2.2.symm)).trans ((Below.heap_setCell _ _ _ _ (by show he ≠ hc; exact R.2.2.symm)).trans ((Below.heap_setCell _ _ _ _ (by show he ≠ hc; exact R.2.2.symm)).trans R.2.1)))))) 0 _
theorem res_below {w : World} {B hc he : Nat} (h1 : B ≤ hc) (h2 : B ≤ he) (b0 b1 b2 b3 b4 b5 : Value) (m : Int) :
    Below B w (((((((w.setCell ⟨hc, 0, none⟩ b0).setCell ⟨hc, 1, none⟩ b1).setCell ⟨hc, 2, none⟩ b2).setCell ⟨hc, 3, none⟩ b3).setCell ⟨hc, 4, none⟩ b4).setCell ⟨hc, 5, none⟩ b5).setCell ⟨he, 0, none⟩ (i64 m)) :=
  below_setC (below_setC (below_setC (below_setC (below_setC (below_setC (below_setC (Below.refl B w) hc 0 h1 _) hc 1 h1 _) hc 2 h1 _) hc 3 h1 _) hc 4 h1 _) hc 5 h1 _) he 0 h2 _
theorem res_other {w : World} {hc he k : Nat} (h1 : k ≠ hc) (h2 : k ≠ he) (b0 b1 b2 b3 b4 b5 : Value) (m : Int) :
    (((((((w.setCell ⟨hc, 0, none⟩ b0).setCell ⟨hc, 1, none⟩ b1).setCell ⟨hc, 2, none⟩ b2).setCell ⟨hc, 3, none⟩ b3).setCell ⟨hc, 4, none⟩ b4).setCell ⟨hc, 5, none⟩ b5).setCell ⟨he, 0, none⟩ (i64 m)).heap[k]? = w.heap[k]? :=
  (Below.heap_setCell _ _ _ _ (by show k ≠ he; exact h2)).trans ((Below.heap_setCell _ _ _ _ (by show k ≠ hc; exact h1)).trans ((Below.heap_setCell _ _ _ _ (by show k ≠ hc; exact h1)).trans ((Below.heap_setCell _ _ _ _ (by show k ≠ hc; exact h1)).trans ((Below.heap_setCell _ _ _ _ (by show k ≠ hc; exact h1)).trans ((Below.heap_setCell _ _ _ _ (by show k ≠ hc; exact h1)).trans (Below.heap_setCell _ _ _ _ (by show k ≠ hc; exact h1)))))))
theorem res_frozen {w : World} {hc he : Nat} {a : Array Value} {n : Int} (R : Res w hc he a n) : (∀ k, w.frozen? ⟨hc, k, none⟩ = false) ∧ w.frozen? ⟨he, 0, none⟩ = false := ⟨fun k => by simp [World.frozen?, R.1], by simp [World.frozen?, R.2.1]⟩
theorem res_kept {w w' : World} {hc he B : Nat} {a : Array Value} {n : Int} (R : Res w hc he a n) (b : Below B w w') (h1 : hc < B) (h2 : he < B) : Res w' hc he a n := ⟨(b.block hc h1).trans R.1, (b.block he h2).trans R.2.1, R.2.2⟩
set_option maxHeartbeats 1000000 in
theorem unpack_some {w : World} {p : Option Addr} {n c : Nat} {xs : List Int} (L : Lie .u8 w w.heap.size p n c xs) (hb : Byt xs) (hc : c ≤ 9223372036854775807) (hl0 : 0 < w.heap.size) {cf : Cf} (hn : rdC xs = some cf) :
    Calls Tryd.prog 14 #[.slice p n c] w (Unp w xs) := by
  obtain ⟨q, hq⟩ : ∃ q, q = Unp w xs := ⟨_, rfl⟩
  rw [← hq]
  have hmf : ∀ (fn : Fn) (first cap : Array Value) (w : World), (Instr.makeFunc fn first cap).run Tryd.prog w = .ok (.func fn first cap) w := fun _ _ _ _ => rfl
  obtain ⟨w3, hw3⟩ : ∃ w3, w3 = ((w.alloc (.cells zeroC 26)).alloc (.cells #[i64 0] 30)).alloc (.cells #[.slice p n c] 72) := ⟨_, rfl⟩
  have B := beg_of L hc
  rw [← hw3] at B
  obtain ⟨h, hh⟩ : ∃ h, w.heap.size = h := ⟨_, rfl⟩
  have HC := Lib.hid ((config_says B.rd hb).mono fun e w' r => (⟨r.1, by have := r.2; rw [hn] at this; exact this⟩ : Oth (w.heap.size + 2) w3 w' ∧ ∃ v, e = .returned v ∧ AtC w' w3.heap.size w'.heap.size v cf))
  have hs3 := B.sz
  have HL := Lib.hid (fun (u : World) (b : Below w.heap.size w u) => L.kept b (Nat.le_refl _))
  have hwf := rdC_wf hb hn
  rw [hh] at HC hs3
  have BR := Lib.hid (hh ▸ B.res : Res w3 h (h + 1) zeroC 0)
  have BB := Lib.hid (hh ▸ B.b : Below h w w3)
  have hno := Lib.hid (fun (hk : ¬ (Cfg.chk cf = 0 ∧ packC cf = xs)) w' (bw : Below h w w') => (by
    rw [hq]
    exact ⟨hh ▸ bw, .inr ⟨fun c' hc' hp => hk (by
      have h1 := rdC_pack hc'
      rw [hp, hn] at h1
      injection h1 with h1
      rw [h1]; exact ⟨hc', hp⟩), rfl⟩⟩ : q (.returned (.tuple #[.agg zeroC, i64 4])) w'))
  have hyes := Lib.hid (fun (hk : Cfg.chk cf = 0) (hp : packC cf = xs) v w' (bw : Below h w w') (ha : AtC w' w.heap.size w'.heap.size v cf) => (by
    rw [hq]; exact ⟨hh ▸ bw, .inl ⟨cf, v, hk, hp, rfl, ha⟩⟩ : q (.returned (.tuple #[v, i64 0])) w'))
  have hw3' : w3 = ((w.alloc (.cells #[.int .i64 0, .int .i64 0, .int .i64 0, .slice none 0 0, .slice none 0 0, .slice none 0 0] 26)).alloc (.cells #[.int .i64 0] 30)).alloc (.cells #[.slice p n c] 72) := hw3
  have HC' : Calls Tryd.prog 31 #[.pointer (some ⟨h + 1 + 1, 0, none⟩)] w3 fun e w' => Oth (h + 2) w3 w' ∧ ∃ v, e = .returned v ∧ AtC w' w3.heap.size w'.heap.size v cf := HC.out
  replace HC' := Lib.hid HC'
  replace hwf := Lib.hid hwf
  clear hw3 HC B hq hn L
  go_enter_defers Tryd.func14, Tryd.ntmps14
  go_wp2_with fail
  rw [← hw3']
  clear hw3'
  go_at_call 31
  refine HC'.out.mono ?_
  rintro e u ⟨o, v, rfl, p1, c1, p2, c2, p3, c3, rfl, L1, L2, L3, hc1, hlo⟩
  obtain ⟨r, hr⟩ : ∃ r, u.heap.size = r := ⟨_, rfl⟩
  have hru : w3.heap.size ≤ r := by rw [← hr]; exact o.size
  obtain ⟨w4, hw4⟩ : ∃ w4, w4 = u.alloc (.cells #[i64 cf.pages, i64 cf.major, i64 cf.switch, .slice p1 cf.parts.length c1, .slice p2 cf.chans.length c2, .slice p3 cf.wins.length c3] 26) := ⟨_, rfl⟩
  have b4 : Below r u w4 := by rw [hw4, ← hr]; exact (Below.refl _ _).alloc (Nat.le_refl _) _
  have s4 : w4.heap.size = r + 1 := by rw [hw4, ← hr]; simp
  have k4 : w4.heap[r]? = some (.cells #[i64 cf.pages, i64 cf.major, i64 cf.switch, .slice p1 cf.parts.length c1, .slice p2 cf.chans.length c2, .slice p3 cf.wins.length c3] 26 (0, 0)) := by rw [hw4, ← hr]; exact heap_alloc_new _ _
  have R4 : Res w4 h (h + 1) zeroC 0 := ⟨(b4.block _ (by omega)).trans ((o.block _ (by omega) (by omega)).trans BR.out.1), (b4.block _ (by omega)).trans ((o.block _ (by omega) (by omega)).trans BR.out.2.1), BR.out.2.2⟩
  have bw4 : Below h w w4 := ⟨b4.os.trans (o.os.trans BB.out.os), b4.tape.trans (o.tape.trans BB.out.tape), b4.output.trans (o.output.trans BB.out.output), by have := BB.out.size; omega, fun k hk => (b4.block k (by omega)).trans ((o.block k (by omega) (by omega)).trans (BB.out.block k hk))⟩
  rw [hr] at L1 L2 L3
  have M1 := (L1.kept b4 (Nat.le_refl _)).wide (show r ≤ w4.heap.size by omega)
  have M2 := (L2.kept b4 (Nat.le_refl _)).wide (show r ≤ w4.heap.size by omega)
  have M3 := (L3.kept b4 (Nat.le_refl _)).wide (show r ≤ w4.heap.size by omega)
  have HP := Lib.hid (pack_says M1 M2 M3 hwf.out hc1)
  have HF := Lib.hid (fun (u' : World) (b : Below w4.heap.size w4 u') => (by
    have R6 := res_kept R4 b (by omega) (by omega)
    have K6 := (b.block r (by omega)).trans k4
    have Zx : ∀ (k : Nat) (v : Value), [i64 cf.pages, i64 cf.major, i64 cf.switch, Value.slice p1 cf.parts.length c1, .slice p2 cf.chans.length c2, .slice p3 cf.wins.length c3][k]? = some v → u'.cell? ⟨r, k, none⟩ = some v := fun k v hv => by
      rw [cell_of_row _ _ k _ _ _ K6, ← Array.getElem?_toList]; exact hv
    exact ⟨R6, ⟨Zx 0 _ rfl, Zx 1 _ rfl, Zx 2 _ rfl, Zx 3 _ rfl, Zx 4 _ rfl, Zx 5 _ rfl⟩⟩ : Res u' h (h + 1) zeroC 0 ∧ (u'.cell? ⟨r, 0, none⟩ = some (i64 cf.pages) ∧ u'.cell? ⟨r, 1, none⟩ = some (i64 cf.major) ∧ u'.cell? ⟨r, 2, none⟩ = some (i64 cf.switch) ∧ u'.cell? ⟨r, 3, none⟩ = some (.slice p1 cf.parts.length c1) ∧ u'.cell? ⟨r, 4, none⟩ = some (.slice p2 cf.chans.length c2) ∧ u'.cell? ⟨r, 5, none⟩ = some (.slice p3 cf.wins.length c3))))
  have HBAD := Lib.hid (fun (u' w9 : World) (b : Below w4.heap.size w4 u') (b9 : Below (h + 2) u' w9 ∨ True) (bx : Below h u' w9) (hk : ¬ (Cfg.chk cf = 0 ∧ packC cf = xs)) => hno.out hk w9 (bw4.trans ((b.mono (by omega)).trans bx)))
  have HYES := Lib.hid (fun (u' w9 : World) (b : Below w4.heap.size w4 u') (bx : Below h u' w9) (hk9 : ∀ k, h + 3 ≤ k → k < r → w9.heap[k]? = u'.heap[k]?) (hk : Cfg.chk cf = 0) (hp : packC cf = xs) => hyes.out hk hp (cfV cf p1 c1 p2 c2 p3 c3) w9 (bw4.trans ((b.mono (by omega)).trans bx)) (by
    have hs9 : r ≤ w9.heap.size := by have := b.size; have := bx.size; omega
    have hkk : ∀ k, w3.heap.size ≤ k → k < r → w9.heap[k]? = u.heap[k]? := fun k h1 h2 => (hk9 k (by omega) h2).trans ((b.block k (by omega)).trans (b4.block k h2))
    have e := hh
    exact ⟨p1, c1, p2, c2, p3, c3, rfl, (lieS_off L1 (fun a ha => hlo a (.inl ha)) hkk).wide hs9, (lieS_off L2 (fun a ha => hlo a (.inr (.inl ha))) hkk).wide hs9, (lieS_off L3 (fun a ha => hlo a (.inr (.inr ha))) hkk).wide hs9, hc1, fun a ha => by have := hlo a ha; omega⟩))
  have s4r : w4.heap.size = r + 1 := s4
  have hhr : h + 3 ≤ r := by omega
  have HLB := Lib.hid (fun (u' : World) (b : Below w4.heap.size w4 u') => HL.out u' (by rw [hh]; exact bw4.trans (b.mono (by omega))))
  clear L1 L2 L3 M1 M2 M3 hlo R4 k4 b4 o BR BB HL hno hyes HC' hwf
  obtain ⟨pg, epg⟩ : ∃ x, cf.pages = x := ⟨_, rfl⟩
  obtain ⟨mj, emj⟩ : ∃ x, cf.major = x := ⟨_, rfl⟩
  obtain ⟨sw, esw⟩ : ∃ x, cf.switch = x := ⟨_, rfl⟩
  obtain ⟨n1, en1⟩ : ∃ x, cf.parts.length = x := ⟨_, rfl⟩
  obtain ⟨n2, en2⟩ : ∃ x, cf.chans.length = x := ⟨_, rfl⟩
  obtain ⟨n3, en3⟩ : ∃ x, cf.wins.length = x := ⟨_, rfl⟩
  simp only [cfV, epg, emj, esw, en1, en2, en3] at HP HF HYES hw4 ⊢
  clear epg emj esw en1 en2 en3
  go_upto_region 4 with fail
  (try rw [hr])
  rw [← hw4]
  clear hw4 hr
  have hf0 := HF.out w4 (Below.refl _ _)
  obtain ⟨-, z0, z1, z2, z3, z4, z5⟩ := hf0
  by_cases hk : Cfg.chk cf = 0
  · have hpo : packO cf = packC cf := if_pos hk
    rw [hk, hpo] at HP
    go_upto_region 5 with (go_at_call 9; (with_reducible refine HP.out.mono ?_); rintro e w5 ⟨pp, pn, pq, rfl, oq, hb5⟩; have oq5 := Lib.hid oq; have B5 := Lib.hid hb5; clear oq hb5)
    clear z0 z1 z2 z3 z4 z5
    have hf5 := HF.out w5 B5.out
    obtain ⟨R6, y0, y1, y2, y3, y4, y5⟩ := hf5
    obtain ⟨⟨q0, q1, q2, q3, q4, q5⟩, qe⟩ := res_cells R6
    obtain ⟨fz, fe⟩ := res_frozen R6
    have f0 := fz 0
    have f1 := fz 1
    have f2 := fz 2
    have f3 := fz 3
    have f4 := fz 4
    have f5 := fz 5
    clear fz
    obtain ⟨pp', pq', e', -, LP⟩ := ownK_lie oq5.out
    have hpn : pn = (packC cf).length := by injection e'
    have hpp : pp' = pp := by injection e' with h1; exact h1.symm
    have hpq : pq' = pq := by injection e' with h1 h2 h3; exact h3.symm
    rw [hpp, hpq, ← hpn] at LP
    have HE := Lib.hid (equal_says LP (HLB.out w5 B5.out) (byt_append (head_byt' cf) (nums_byt _)) hb)
    clear e' LP hpp hpq hpn oq5
    by_cases hp : packC cf = xs
    · rw [show decide (packC cf = xs) = true from decide_eq_true hp] at HE
      go_upto_region 7 with (go_at_call 32; (with_reducible refine HE.out.mono ?_); rintro e w6 ⟨rfl, rfl⟩)
      go_wp2
      obtain ⟨w8, hw8⟩ : ∃ w8, w8 = (((((((w5.setCell ⟨h, 0, none⟩ (i64 pg)).setCell ⟨h, 1, none⟩ (i64 mj)).setCell ⟨h, 2, none⟩ (i64 sw)).setCell ⟨h, 3, none⟩ (.slice p1 n1 c1)).setCell ⟨h, 4, none⟩ (.slice p2 n2 c2)).setCell ⟨h, 5, none⟩ (.slice p3 n3 c3)).setCell ⟨h + 1, 0, none⟩ (i64 0)) := ⟨_, rfl⟩
      rw [← hw8]
      have R8 : Res w8 h (h + 1) #[i64 pg, i64 mj, i64 sw, .slice p1 n1 c1, .slice p2 n2 c2, .slice p3 n3 c3] 0 := by rw [hw8]; exact res_set R6 _ _ _ _ _ _ _
      have b8 : Below h w5 w8 := by rw [hw8]; exact res_below (Nat.le_refl _) (Nat.le_succ _) _ _ _ _ _ _ _
      have s8 : w5.heap.size ≤ w8.heap.size := b8.size
      have o8 : ∀ k, h + 3 ≤ k → w8.heap[k]? = w5.heap[k]? := fun k hk => by rw [hw8]; exact res_other (by omega) (by omega) _ _ _ _ _ _ _
      have s5 := B5.out.size
      replace R8 := Lib.hid R8
      clear hw8
      refine leaves_cons (f := 29) (args := #[.pointer (some ⟨h, 0, none⟩), .pointer (some ⟨h + 1, 0, none⟩)]) (by simp) (by simp [go_sem]) ?_
      refine (catch_idle (hc := h) (he := h + 1)).mono ?_
      rintro e u' w9 ⟨rfl, rfl, b9⟩
      have R9 := res_kept R8.out b9 (by omega) (by omega)
      obtain ⟨⟨c0, c1', c2', c3', c4, c5⟩, ce⟩ := res_cells R9
      simp [Leaves, settle, results, Tryd.results14, go_sem, c0, c1', c2', c3', c4, c5, ce]
      exact HYES.out w5 w9 B5.out (b8.trans (b9.mono (by omega))) (fun k h1 h2 => (b9.block k (by omega)).trans (o8 k h1)) hk hp
    · rw [show decide (packC cf = xs) = false from decide_eq_false hp] at HE
      go_upto_region 6 with (go_at_call 32; (with_reducible refine HE.out.mono ?_); rintro e w6 ⟨rfl, rfl⟩)
      go_wp2
      obtain ⟨w8, hw8⟩ : ∃ w8, w8 = (((((((w5.setCell ⟨h, 0, none⟩ (i64 0)).setCell ⟨h, 1, none⟩ (i64 0)).setCell ⟨h, 2, none⟩ (i64 0)).setCell ⟨h, 3, none⟩ (.slice none 0 0)).setCell ⟨h, 4, none⟩ (.slice none 0 0)).setCell ⟨h, 5, none⟩ (.slice none 0 0)).setCell ⟨h + 1, 0, none⟩ (i64 4)) := ⟨_, rfl⟩
      rw [← hw8]
      have R8 : Res w8 h (h + 1) #[i64 0, i64 0, i64 0, .slice none 0 0, .slice none 0 0, .slice none 0 0] 4 := by rw [hw8]; exact res_set R6 _ _ _ _ _ _ _
      have b8 : Below h w5 w8 := by rw [hw8]; exact res_below (Nat.le_refl _) (Nat.le_succ _) _ _ _ _ _ _ _
      have s8 : w5.heap.size ≤ w8.heap.size := b8.size
      have o8 : ∀ k, h + 3 ≤ k → w8.heap[k]? = w5.heap[k]? := fun k hk => by rw [hw8]; exact res_other (by omega) (by omega) _ _ _ _ _ _ _
      have s5 := B5.out.size
      replace R8 := Lib.hid R8
      clear hw8
      refine leaves_cons (f := 29) (args := #[.pointer (some ⟨h, 0, none⟩), .pointer (some ⟨h + 1, 0, none⟩)]) (by simp) (by simp [go_sem]) ?_
      refine (catch_idle (hc := h) (he := h + 1)).mono ?_
      rintro e u' w9 ⟨rfl, rfl, b9⟩
      have R9 := res_kept R8.out b9 (by omega) (by omega)
      obtain ⟨⟨c0, c1', c2', c3', c4, c5⟩, ce⟩ := res_cells R9
      simp [Leaves, settle, results, Tryd.results14, go_sem, c0, c1', c2', c3', c4, c5, ce]
      exact HBAD.out w5 w9 B5.out (.inr trivial) (b8.trans (b9.mono (by omega))) (fun x => hp x.2)
  · obtain ⟨kk, hkk⟩ : ∃ kk, Cfg.chk cf = kk := ⟨_, rfl⟩
    have hkn : (kk != 0) = true := by rw [← hkk]; simpa using hk
    rw [hkk] at HP
    replace hkk := Lib.hid hkk
    go_upto_region 5 with (go_at_call 9; (with_reducible refine HP.out.mono ?_); rintro e w5 ⟨pp, pn, pq, rfl, oq, hb5⟩; have oq5 := Lib.hid oq; have B5 := Lib.hid hb5; clear oq hb5)
    clear z0 z1 z2 z3 z4 z5
    have hf5 := HF.out w5 B5.out
    obtain ⟨R6, y0, y1, y2, y3, y4, y5⟩ := hf5
    obtain ⟨⟨q0, q1, q2, q3, q4, q5⟩, qe⟩ := res_cells R6
    obtain ⟨fz, fe⟩ := res_frozen R6
    have f0 := fz 0
    have f1 := fz 1
    have f2 := fz 2
    have f3 := fz 3
    have f4 := fz 4
    have f5 := fz 5
    clear fz
    clear oq5
    go_upto_region 6 with fail
    go_wp2
    obtain ⟨w8, hw8⟩ : ∃ w8, w8 = (((((((w5.setCell ⟨h, 0, none⟩ (i64 0)).setCell ⟨h, 1, none⟩ (i64 0)).setCell ⟨h, 2, none⟩ (i64 0)).setCell ⟨h, 3, none⟩ (.slice none 0 0)).setCell ⟨h, 4, none⟩ (.slice none 0 0)).setCell ⟨h, 5, none⟩ (.slice none 0 0)).setCell ⟨h + 1, 0, none⟩ (i64 4)) := ⟨_, rfl⟩
    rw [← hw8]
    have R8 : Res w8 h (h + 1) #[i64 0, i64 0, i64 0, .slice none 0 0, .slice none 0 0, .slice none 0 0] 4 := by rw [hw8]; exact res_set R6 _ _ _ _ _ _ _
    have b8 : Below h w5 w8 := by rw [hw8]; exact res_below (Nat.le_refl _) (Nat.le_succ _) _ _ _ _ _ _ _
    have s8 : w5.heap.size ≤ w8.heap.size := b8.size
    have o8 : ∀ k, h + 3 ≤ k → w8.heap[k]? = w5.heap[k]? := fun k hk => by rw [hw8]; exact res_other (by omega) (by omega) _ _ _ _ _ _ _
    have s5 := B5.out.size
    replace R8 := Lib.hid R8
    clear hw8
    refine leaves_cons (f := 29) (args := #[.pointer (some ⟨h, 0, none⟩), .pointer (some ⟨h + 1, 0, none⟩)]) (by simp) (by simp [go_sem]) ?_
    refine (catch_idle (hc := h) (he := h + 1)).mono ?_
    rintro e u' w9 ⟨rfl, rfl, b9⟩
    have R9 := res_kept R8.out b9 (by omega) (by omega)
    obtain ⟨⟨c0, c1', c2', c3', c4, c5⟩, ce⟩ := res_cells R9
    simp [Leaves, settle, results, Tryd.results14, go_sem, c0, c1', c2', c3', c4, c5, ce]
    exact HBAD.out w5 w9 B5.out (.inr trivial) (b8.trans (b9.mono (by omega))) (fun x => hk x.1)
/-- Unpack tells the configuration of which Pack tells just these bytes, or that there is none. -/
theorem unpack_says {w : World} {p : Option Addr} {n c : Nat} {xs : List Int} (L : Lie .u8 w w.heap.size p n c xs) (hb : Byt xs) (hc : c ≤ 9223372036854775807) (hg : w.cell? ⟨0, 0, none⟩ = some (.iface 105 (hnd 67))) :
    Calls Tryd.prog 14 #[.slice p n c] w (Unp w xs) := by
  cases h : rdC xs with
  | none => exact unpack_none L hb hc hg h
  | some cf => exact unpack_some L hb hc (World.block_lt_of_cell? w _ hg) h
end Go.Proofs.YtogbhgbnminpdaaDoor.Pck
