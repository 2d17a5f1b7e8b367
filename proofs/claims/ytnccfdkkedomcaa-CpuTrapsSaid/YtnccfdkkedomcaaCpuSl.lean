
/-
  slices.Clone, slices.Grow of nil, slices.Concat of two; SameInts.
-/
import Derived.Test.YtnccfdkkedomcaaCpuRow
namespace Go.Proofs.Ytnccfdkkedomcaa.Ser
open Go.Proofs.Ytnccfdkkedomcaa
open Go.ChangeShapes Go.WideShapes Go.ChangeAt Go.RowKit
/-- A row of the call's own is answered. -/
def NewK (E : TypeId) (k : IntKind) (w : World) (xs : List Int) (e : Ending) (w' : World) : Prop := ∃ p n c, e = .returned (.slice p n c) ∧ n = xs.length ∧ OwnK E k w' w.heap.size (.slice p n c) xs ∧ Below w.heap.size w w'
theorem NewK.of {E : TypeId} {k : IntKind} {w w' : World} {v : Value} {xs : List Int} (h : OwnK E k w' w.heap.size v xs) (hb : Below w.heap.size w w') : NewK E k w xs (.returned v) w' := by
  obtain ⟨p, c, rfl, -, -⟩ := ownK_lie h
  exact ⟨p, _, c, rfl, rfl, h, hb⟩
theorem clone_i {w : World} {p : Option Addr} {n c : Nat} {xs : List Int} (L : Lie .i64 w w.heap.size p n c xs) (hl : n ≤ 100000) : Calls Try.prog 75 #[.slice p n c] w (NewK 3 .i64 w xs) := by
  obtain ⟨r, hr⟩ : ∃ r, r = NewK 3 .i64 w xs := ⟨_, rfl⟩
  rw [← hr]
  cases p with
  | none =>
    obtain rfl := L.nil rfl
    obtain rfl : n = 0 := by have := L.cap; omega
    have hx : xs = [] := List.eq_nil_of_length_eq_zero L.len
    subst hx
    have h1 : r (.returned (.slice none 0 0)) w := by rw [hr]; exact .of (ownK_nil _ _ _ _) (Below.refl _ _)
    clear hr L hl
    have he : ∀ w : World, (binOp .eql 28 (.slice none 0 0) (.slice none 0 0)).run Try.prog w = .ok (.bool true) w := fun w => Lib.run_eql_slice_nil w _ _ none 0 0 0 0 Try.underlying28
    go_enter Try.func75, Try.ntmps75
    go_wp2
    exact h1
  | some ad =>
    have K : ∀ v' w1, OwnK 3 .i64 w1 w.heap.size v' ([] ++ xs) → Below w.heap.size (w.alloc (.cells #[] 3)) w1 → r (.returned v') w1 := by
      intro v' w1 h1 h2
      rw [List.nil_append] at h1
      rw [hr]
      exact .of h1 (((Below.refl _ _).alloc (Nat.le_refl _) _).trans h2)
    have hs := (L.kept ((Below.refl w.heap.size w).alloc (Nat.le_refl _) (.cells #[] 3)) (Nat.le_refl _)).src
    have HN := Lib.hid L.len
    have HO := Lib.hid (ownK_none 3 .i64 w)
    have HS := Lib.hid hs; have HK := Lib.hid K; have HL := Lib.hid hl
    clear hs K hl hr L
    have he : ∀ w : World, (binOp .eql 28 (.slice (some ad) n c) (.slice none 0 0)).run Try.prog w = .ok (.bool false) w := fun w => Lib.run_eql_slice_nil w _ _ (some ad) n c 0 0 Try.underlying28
    go_enter Try.func75, Try.ntmps75
    go_wp2_with (at_builtin; (refine wpList_appK kdI rfl _ _ rfl (by simp) (R1 := []) rfl HO.out xs rfl HN.out (fun e => by cases e) HS.out (by have h1 := HL.out; have h2 := HN.out; have h3 : ([] : List Int).length = 0 := rfl; omega) ?_; intro v' w1 k1 k2 k3; have d3 := Lib.hid (HK.out v' w1 k1 k2); clear k1 k2 k3))
    exact d3.out
theorem clone_b {w : World} {p : Option Addr} {n c : Nat} {xs : List Int} (L : Lie .u8 w w.heap.size p n c xs) (hl : n ≤ 100000) : Calls Try.prog 76 #[.slice p n c] w (NewK 5 .u8 w xs) := by
  obtain ⟨r, hr⟩ : ∃ r, r = NewK 5 .u8 w xs := ⟨_, rfl⟩
  rw [← hr]
  cases p with
  | none =>
    obtain rfl := L.nil rfl
    obtain rfl : n = 0 := by have := L.cap; omega
    have hx : xs = [] := List.eq_nil_of_length_eq_zero L.len
    subst hx
    have h1 : r (.returned (.slice none 0 0)) w := by rw [hr]; exact .of (ownK_nil _ _ _ _) (Below.refl _ _)
    clear hr L hl
    have he : ∀ w : World, (binOp .eql 29 (.slice none 0 0) (.slice none 0 0)).run Try.prog w = .ok (.bool true) w := fun w => Lib.run_eql_slice_nil w _ _ none 0 0 0 0 Try.underlying29
    go_enter Try.func76, Try.ntmps76
    go_wp2
    exact h1
  | some ad =>
    have K : ∀ v' w1, OwnK 5 .u8 w1 w.heap.size v' ([] ++ xs) → Below w.heap.size (w.alloc (.cells #[] 5)) w1 → r (.returned v') w1 := by
      intro v' w1 h1 h2
      rw [List.nil_append] at h1
      rw [hr]
      exact .of h1 (((Below.refl _ _).alloc (Nat.le_refl _) _).trans h2)
    have hs := (L.kept ((Below.refl w.heap.size w).alloc (Nat.le_refl _) (.cells #[] 5)) (Nat.le_refl _)).src
    have HN := Lib.hid L.len
    have HO := Lib.hid (ownK_none 5 .u8 w)
    have HS := Lib.hid hs; have HK := Lib.hid K; have HL := Lib.hid hl
    clear hs K hl hr L
    have he : ∀ w : World, (binOp .eql 29 (.slice (some ad) n c) (.slice none 0 0)).run Try.prog w = .ok (.bool false) w := fun w => Lib.run_eql_slice_nil w _ _ (some ad) n c 0 0 Try.underlying29
    go_enter Try.func76, Try.ntmps76
    go_wp2_with (at_builtin; (refine wpList_appK kdB rfl _ _ rfl (by simp) (R1 := []) rfl HO.out xs rfl HN.out (fun e => by cases e) HS.out (by have h1 := HL.out; have h2 := HN.out; have h3 : ([] : List Int).length = 0 := rfl; omega) ?_; intro v' w1 k1 k2 k3; have d3 := Lib.hid (HK.out v' w1 k1 k2); clear k1 k2 k3))
    exact d3.out
/-- Room for n numbers. -/
theorem grow_nil (w : World) (n : Nat) (h0 : 0 < n) (hn : n ≤ 100000) : Calls Try.prog 80 #[.slice none 0 0, i64 n] w fun e w' => ∃ c, e = .returned (.slice (some ⟨w.heap.size, 0, none⟩) 0 c) ∧ OwnK 3 .i64 w' w.heap.size (.slice (some ⟨w.heap.size, 0, none⟩) 0 c) [] ∧ Below w.heap.size w w' := by
  obtain ⟨r, hr⟩ : ∃ r : Ending → World → Prop, r = fun e w' => ∃ c, e = .returned (.slice (some ⟨w.heap.size, 0, none⟩) 0 c) ∧ OwnK 3 .i64 w' w.heap.size (.slice (some ⟨w.heap.size, 0, none⟩) 0 c) [] ∧ Below w.heap.size w w' := ⟨_, rfl⟩
  rw [← hr]
  obtain ⟨bb, hbb, hinfo⟩ := kdI.info
  obtain ⟨i, hi, hz0, hz1, hz2⟩ := info_parts hinfo
  have hby : n * i.bytes ≤ 100000 * 8 := Nat.mul_le_mul hn (by omega)
  have hrz : ∀ ty, (Builtin.append_ #[28, 3] ty #[.slice none 0 0, i64 n]).run Try.prog w = _ := fun ty => Lib.run_append_nil_zeros w _ _ ty 3 i _ .i64 .i64 Try.underlying28 Try.underlying3 hi hz0 n h0 (by omega) (by omega) (by omega)
  have hG := grownCap_ge w n 0 3
  have hM := grownCap_le_maxLen w n 0 3 (by unfold maxLen; omega)
  generalize grownCap w n 0 3 = G at *
  have ho : r (.returned (.slice (some ⟨w.heap.size, 0, none⟩) 0 G)) (w.drew.alloc (.cells (Builtin.zeroCells (Value.int .i64 0).cells n ++ Builtin.zeroCells (Value.int .i64 0).cells (G - n)) 3)) := by
    rw [hr]
    refine ⟨G, rfl, ⟨rfl, .inr ⟨w.heap.size, G, _, rfl, Nat.le_refl _, heap_alloc_new _ _, Nat.zero_le _, hM, ?_, rfl⟩⟩, ((Below.refl _ w).drew).alloc (Nat.le_refl _) _⟩
    simp [Builtin.zeroCells, Value.cells]; omega
  have h63 : (n : Int) ≤ 9223372036854775807 := by omega
  have hG63 : (G : Int) ≤ 9223372036854775807 := by unfold maxLen at hM; omega
  have HR := Lib.hid hrz; have HO := Lib.hid ho
  clear hrz ho hr hi hz0 hz1 hz2 hinfo hby
  go_enter Try.func80, Try.ntmps80
  go_wp2_with (at_builtin; refine Lib.wpList_append_run _ rfl _ _ _ _ rfl _ _ rfl rfl _ _ (HR.out _) ?_)
  exact HO.out
theorem cell_kept {w w' : World} {B h j : Nat} {v : Value} (hb : Below B w w') (hh : h < B) (hc : w.cell? ⟨h, j, none⟩ = some v) : w'.cell? ⟨h, j, none⟩ = some v :=
  (World.cell?_of_block (hb.block h hh)).trans hc
set_option maxRecDepth 100000 in
/-- Two rows, one behind the other, in memory of their own. -/
theorem concat_two {w : World} {h : Nat} {p1 p2 : Option Addr} {n1 c1 n2 c2 : Nat} {xs ys : List Int} (hh : h < w.heap.size) (d0 : w.cell? ⟨h, 0, none⟩ = some (.slice p1 n1 c1)) (d1 : w.cell? ⟨h, 1, none⟩ = some (.slice p2 n2 c2))
    (L1 : Lie .i64 w w.heap.size p1 n1 c1 xs) (L2 : Lie .i64 w w.heap.size p2 n2 c2 ys) (h0 : 0 < n1 + n2) (hm : n1 + n2 ≤ 10000) :
    Calls Try.prog 74 #[.slice (some ⟨h, 0, none⟩) 2 2] w (NewK 3 .i64 w (xs ++ ys)) := by
  obtain ⟨r, hr⟩ : ∃ r, r = NewK 3 .i64 w (xs ++ ys) := ⟨_, rfl⟩
  rw [← hr]
  have hg := grow_nil w (n1 + n2) h0 (by omega)
  rw [Int.natCast_add] at hg
  have K : ∀ w1 w2 v2 w3, Below w.heap.size w w1 → Below w.heap.size w1 w2 → Below w.heap.size w2 w3 → OwnK 3 .i64 w3 w.heap.size v2 ([] ++ xs ++ ys) → r (.returned v2) w3 := by
    intro w1 w2 v2 w3 k1 k2 k3 k4
    rw [hr]
    exact .of (by simpa using k4) (k1.trans (k2.trans k3))
  have S1 : ∀ w1, Below w.heap.size w w1 → SrcK .i64 w1 p1 xs := fun w1 k => (L1.kept k (Nat.le_refl _)).src
  have S2 : ∀ w1, Below w.heap.size w w1 → SrcK .i64 w1 p2 ys := fun w1 k => (L2.kept k (Nat.le_refl _)).src
  have E0 : ∀ w1, Below w.heap.size w w1 → w1.cell? ⟨h, 0, none⟩ = some (.slice p1 n1 c1) := fun w1 k => cell_kept k hh d0
  have E1 : ∀ w1, Below w.heap.size w w1 → w1.cell? ⟨h, 1, none⟩ = some (.slice p2 n2 c2) := fun w1 k => cell_kept k hh d1
  have N1 := Lib.hid L1.len; have N2 := Lib.hid L2.len; have Q1 := Lib.hid L1.nil; have Q2 := Lib.hid L2.nil
  have HS1 := Lib.hid S1; have HS2 := Lib.hid S2; have HE0 := Lib.hid E0; have HE1 := Lib.hid E1; have HK := Lib.hid K; have HM := Lib.hid hm
  have i1 : (0 : Int) ≤ (n1 : Int) := by omega
  have i2 : (0 : Int) ≤ (n2 : Int) := by omega
  have i3 : (n1 : Int) + (n2 : Int) ≤ 10000 := by omega
  clear hr K S1 S2 E0 E1 L1 L2 hm h0 hh
  go_enter Try.func74, Try.ntmps74
  go_wp2
  refine wp_loop_rounds 3 ?_
  rw [rounds_succ]
  go_wp2
  rw [rounds_succ]
  go_wp2
  rw [rounds_succ]
  go_wp2_with (go_at_call 80; refine hg.mono ?_; rintro e w1 ⟨c, rfl, o1, b1⟩; have e0 := HE0.out w1 b1; have hB1 := b1.size)
  refine wp_loop_rounds 3 ?_
  rw [rounds_succ]
  go_wp2_with (at_builtin; (refine wpList_appK kdI rfl _ _ rfl hB1 (R1 := []) rfl o1 xs rfl N1.out Q1.out (HS1.out w1 b1) (by have h1 := HM.out; have h3 : ([] : List Int).length = 0 := rfl; omega) ?_; intro v2 w2 o2 b2 _; have e1 := HE1.out w2 (b1.trans b2); have hB2 := Nat.le_trans hB1 b2.size))
  rw [rounds_succ]
  go_wp2_with (at_builtin; (refine wpList_appK kdI rfl _ _ rfl hB2 (R1 := [] ++ xs) rfl o2 ys rfl N2.out Q2.out (HS2.out w2 (b1.trans b2)) (by have h1 := HM.out; have h2 := N1.out; have h3 : ([] ++ xs).length = xs.length := rfl; omega) ?_; intro v3 w3 o3 b3 _; have d3 := Lib.hid (HK.out w1 w2 v3 w3 b1 b2 b3 o3)))
  rw [rounds_succ]
  go_wp2
  exact d3.out
end Go.Proofs.Ytnccfdkkedomcaa.Ser
