/-
  slices.Clone, slices.Grow of nil, slices.Concat of two; SameInts. | States (St): what lies (StL), what is the call's own (StO); SameInts, SameState, Big. | SameState of states that hold the same; Big.
-/
import Derived.Test.YtfcmodllbhpniaaGreatDoorJnBytes
import Derived.Deep.QuietTactic
import Derived.BigQuiet
set_option linter.unusedVariables false
set_option maxRecDepth 100000
namespace Go.Proofs.YtfcmodllbhpniaaGreatDoor.Ser
open Go.Proofs.YtfcmodllbhpniaaGreatDoor
open Go.ChangeShapes Go.WideShapes Go.ChangeAt Go.RowKit
/-- A row of the call's own is answered. -/
def NewK (E : TypeId) (k : IntKind) (w : World) (xs : List Int) (e : Ending) (w' : World) : Prop := ∃ p n c, e = .returned (.slice p n c) ∧ n = xs.length ∧ OwnK E k w' w.heap.size (.slice p n c) xs ∧ Below w.heap.size w w'
theorem NewK.of {E : TypeId} {k : IntKind} {w w' : World} {v : Value} {xs : List Int} (h : OwnK E k w' w.heap.size v xs) (hb : Below w.heap.size w w') : NewK E k w xs (.returned v) w' := by
  obtain ⟨p, c, rfl, -, -⟩ := ownK_lie h
  exact ⟨p, _, c, rfl, rfl, h, hb⟩
theorem clone_i {w : World} {p : Option Addr} {n c : Nat} {xs : List Int} (L : Lie .i64 w w.heap.size p n c xs) (hl : n ≤ 100000) : Calls Tryz.prog 43 #[.slice p n c] w (NewK 3 .i64 w xs) := by
  obtain ⟨r, hr⟩ : ∃ r, r = NewK 3 .i64 w xs := ⟨_, rfl⟩
  rw [← hr]
  cases p with
  | none =>
    obtain rfl := L.nil rfl
    obtain rfl : n = 0 := by have := L.cap; omega
    have hx : xs = [] := List.eq_nil_of_length_eq_zero L.len
    subst hx
    have h1 : r (.returned (.slice none 0 0)) w := by rw [hr]; exact .of (ownK_nil _ _ _ _) (Below.refl _ _)
    clear hr L hl
    have he : ∀ w : World, (binOp .eql 48 (.slice none 0 0) (.slice none 0 0)).run Tryz.prog w = .ok (.bool true) w := fun w => Lib.run_eql_slice_nil w _ _ none 0 0 0 0 Tryz.underlying48
    go_enter Tryz.func43, Tryz.ntmps43
    go_wp2
    exact h1
  | some ad =>
    have K : ∀ v' w1, OwnK 3 .i64 w1 w.heap.size v' ([] ++ xs) → Below w.heap.size (w.alloc (.cells #[] 3)) w1 → r (.returned v') w1 := by
      intro v' w1 h1 h2
      rw [List.nil_append] at h1
      rw [hr]
      exact .of h1 (((Below.refl _ _).alloc (Nat.le_refl _) _).trans h2)
    have hs := (L.kept ((Below.refl w.heap.size w).alloc (Nat.le_refl _) (.cells #[] 3)) (Nat.le_refl _)).src
    have HN := Lib.hid L.len
    have HO := Lib.hid (ownK_none 3 .i64 w)
    have HS := Lib.hid hs; have HK := Lib.hid K; have HL := Lib.hid hl
    clear hs K hl hr L
    have he : ∀ w : World, (binOp .eql 48 (.slice (some ad) n c) (.slice none 0 0)).run Tryz.prog w = .ok (.bool false) w := fun w => Lib.run_eql_slice_nil w _ _ (some ad) n c 0 0 Tryz.underlying48
    go_enter Tryz.func43, Tryz.ntmps43
    go_wp2_with (at_builtin; (refine wpList_appK kdI rfl _ _ rfl (by simp) (R1 := []) rfl HO.out xs rfl HN.out (fun e => by cases e) HS.out (by have h1 := HL.out; have h2 := HN.out; have h3 : ([] : List Int).length = 0 := rfl; omega) ?_; intro v' w1 k1 k2 k3; have d3 := Lib.hid (HK.out v' w1 k1 k2); clear k1 k2 k3))
    exact d3.out
theorem clone_b {w : World} {p : Option Addr} {n c : Nat} {xs : List Int} (L : Lie .u8 w w.heap.size p n c xs) (hl : n ≤ 100000) : Calls Tryz.prog 28 #[.slice p n c] w (NewK 5 .u8 w xs) := by
  obtain ⟨r, hr⟩ : ∃ r, r = NewK 5 .u8 w xs := ⟨_, rfl⟩
  rw [← hr]
  cases p with
  | none =>
    obtain rfl := L.nil rfl
    obtain rfl : n = 0 := by have := L.cap; omega
    have hx : xs = [] := List.eq_nil_of_length_eq_zero L.len
    subst hx
    have h1 : r (.returned (.slice none 0 0)) w := by rw [hr]; exact .of (ownK_nil _ _ _ _) (Below.refl _ _)
    clear hr L hl
    have he : ∀ w : World, (binOp .eql 22 (.slice none 0 0) (.slice none 0 0)).run Tryz.prog w = .ok (.bool true) w := fun w => Lib.run_eql_slice_nil w _ _ none 0 0 0 0 Tryz.underlying22
    go_enter Tryz.func28, Tryz.ntmps28
    go_wp2
    exact h1
  | some ad =>
    have K : ∀ v' w1, OwnK 5 .u8 w1 w.heap.size v' ([] ++ xs) → Below w.heap.size (w.alloc (.cells #[] 5)) w1 → r (.returned v') w1 := by
      intro v' w1 h1 h2
      rw [List.nil_append] at h1
      rw [hr]
      exact .of h1 (((Below.refl _ _).alloc (Nat.le_refl _) _).trans h2)
    have hs := (L.kept ((Below.refl w.heap.size w).alloc (Nat.le_refl _) (.cells #[] 5)) (Nat.le_refl _)).src
    have HN := Lib.hid L.len
    have HO := Lib.hid (ownK_none 5 .u8 w)
    have HS := Lib.hid hs; have HK := Lib.hid K; have HL := Lib.hid hl
    clear hs K hl hr L
    have he : ∀ w : World, (binOp .eql 22 (.slice (some ad) n c) (.slice none 0 0)).run Tryz.prog w = .ok (.bool false) w := fun w => Lib.run_eql_slice_nil w _ _ (some ad) n c 0 0 Tryz.underlying22
    go_enter Tryz.func28, Tryz.ntmps28
    go_wp2_with (at_builtin; (refine wpList_appK kdB rfl _ _ rfl (by simp) (R1 := []) rfl HO.out xs rfl HN.out (fun e => by cases e) HS.out (by have h1 := HL.out; have h2 := HN.out; have h3 : ([] : List Int).length = 0 := rfl; omega) ?_; intro v' w1 k1 k2 k3; have d3 := Lib.hid (HK.out v' w1 k1 k2); clear k1 k2 k3))
    exact d3.out
/-- Room for n numbers. -/
theorem grow_nil (w : World) (n : Nat) (h0 : 0 < n) (hn : n ≤ 100000) : Calls Tryz.prog 167 #[.slice none 0 0, i64 n] w fun e w' => ∃ c, e = .returned (.slice (some ⟨w.heap.size, 0, none⟩) 0 c) ∧ OwnK 3 .i64 w' w.heap.size (.slice (some ⟨w.heap.size, 0, none⟩) 0 c) [] ∧ Below w.heap.size w w' := by
  obtain ⟨r, hr⟩ : ∃ r : Ending → World → Prop, r = fun e w' => ∃ c, e = .returned (.slice (some ⟨w.heap.size, 0, none⟩) 0 c) ∧ OwnK 3 .i64 w' w.heap.size (.slice (some ⟨w.heap.size, 0, none⟩) 0 c) [] ∧ Below w.heap.size w w' := ⟨_, rfl⟩
  rw [← hr]
  obtain ⟨bb, hbb, hinfo⟩ := kdI.info
  obtain ⟨i, hi, hz0, hz1, hz2⟩ := info_parts hinfo
  have hby : n * i.bytes ≤ 100000 * 8 := Nat.mul_le_mul hn (by omega)
  have hrz : ∀ ty, (Builtin.append_ #[48, 3] ty #[.slice none 0 0, i64 n]).run Tryz.prog w = _ := fun ty => Lib.run_append_nil_zeros w _ _ ty 3 i _ .i64 .i64 Tryz.underlying48 Tryz.underlying3 hi hz0 n h0 (by omega) (by omega) (by omega)
  have hG := grownCap_ge w n 0 3
  have hM := grownCap_le_maxLen w n 0 3 (by unfold maxLen; omega)
  generalize grownCap w n 0 3 = G at *
  have ho : r (.returned (.slice (some ⟨w.heap.size, 0, none⟩) 0 G)) (w.drew.alloc (.cells (Builtin.zeroCells (Value.int .i64 0).cells n ++ Builtin.zeroCells (Value.int .i64 0).cells (G - n)) 3)) := by
    rw [hr]
    refine ⟨G, rfl, ⟨rfl, .inr ⟨w.heap.size, G, _, rfl, Nat.le_refl _, heap_alloc_new _ _, Nat.zero_le _, hM, ?_, rfl⟩⟩, ((Below.refl _ w).drew).alloc (Nat.le_refl _) _⟩
    simp [Builtin.zeroCells, Value.cells]; omega
  have h63 : (n : Int) ≤ 9223372036854775807 := by omega
  have hG63 : (G : Int) ≤ 9223372036854775807 := by unfold maxLen at hM; omega
  have HR := Lib.hid hrz; have HO := Lib.hid ho
  clear hrz ho hr hi hz0 hz1 hz2 hinfo hby
  go_enter Tryz.func167, Tryz.ntmps167
  go_wp2_with (at_builtin; refine Lib.wpList_append_run _ rfl _ _ _ _ rfl _ _ rfl rfl _ _ (HR.out _) ?_)
  exact HO.out
theorem cell_kept {w w' : World} {B h j : Nat} {v : Value} (hb : Below B w w') (hh : h < B) (hc : w.cell? ⟨h, j, none⟩ = some v) : w'.cell? ⟨h, j, none⟩ = some v :=
  (World.cell?_of_block (hb.block h hh)).trans hc
set_option maxRecDepth 100000 in
/-- Two rows, one behind the other, in memory of their own. -/
theorem concat_two {w : World} {h : Nat} {p1 p2 : Option Addr} {n1 c1 n2 c2 : Nat} {xs ys : List Int} (hh : h < w.heap.size) (d0 : w.cell? ⟨h, 0, none⟩ = some (.slice p1 n1 c1)) (d1 : w.cell? ⟨h, 1, none⟩ = some (.slice p2 n2 c2))
    (L1 : Lie .i64 w w.heap.size p1 n1 c1 xs) (L2 : Lie .i64 w w.heap.size p2 n2 c2 ys) (h0 : 0 < n1 + n2) (hm : n1 + n2 ≤ 10000) :
    Calls Tryz.prog 135 #[.slice (some ⟨h, 0, none⟩) 2 2] w (NewK 3 .i64 w (xs ++ ys)) := by
  obtain ⟨r, hr⟩ : ∃ r, r = NewK 3 .i64 w (xs ++ ys) := ⟨_, rfl⟩
  rw [← hr]
  have hg := grow_nil w (n1 + n2) h0 (by omega)
  rw [Int.natCast_add] at hg
  have K : ∀ w1 w2 v2 w3, Below w.heap.size w w1 → Below w.heap.size w1 w2 → Below w.heap.size w2 w3 → OwnK 3 .i64 w3 w.heap.size v2 ([] ++ xs ++ ys) → r (.returned v2) w3 := by
    intro w1 w2 v2 w3 k1 k2 k3 k4
    rw [hr]
    exact .of (by simpa using k4) (k1.trans (k2.trans k3))
  have S1 : ∀ w1, Below w.heap.size w w1 → SrcK .i64 w1 p1 xs := fun w1 k => (L1.kept k (Nat.le_refl _)).src
  have S2 : ∀ w1, Below w.heap.size w w1 → SrcK .i64 w1 p2 ys := fun w1 k => (L2.kept k (Nat.le_refl _)).src
  have E0 : ∀ w1, Below w.heap.size w w1 → w1.cell? ⟨h, 0, none⟩ = some (.slice p1 n1 c1) := fun w1 k => cell_kept k hh d0
  have E1 : ∀ w1, Below w.heap.size w w1 → w1.cell? ⟨h, 1, none⟩ = some (.slice p2 n2 c2) := fun w1 k => cell_kept k hh d1
  have N1 := Lib.hid L1.len; have N2 := Lib.hid L2.len; have Q1 := Lib.hid L1.nil; have Q2 := Lib.hid L2.nil
  have HS1 := Lib.hid S1; have HS2 := Lib.hid S2; have HE0 := Lib.hid E0; have HE1 := Lib.hid E1; have HK := Lib.hid K; have HM := Lib.hid hm
  have i1 : (0 : Int) ≤ (n1 : Int) := by omega
  have i2 : (0 : Int) ≤ (n2 : Int) := by omega
  have i3 : (n1 : Int) + (n2 : Int) ≤ 10000 := by omega
  clear hr K S1 S2 E0 E1 L1 L2 hm h0 hh
  go_enter Tryz.func135, Tryz.ntmps135
  go_wp2
  refine wp_loop_rounds 3 ?_
  rw [rounds_succ]
  go_wp2
  rw [rounds_succ]
  go_wp2
  rw [rounds_succ]
  go_wp2_with (go_at_call 167; refine hg.mono ?_; rintro e w1 ⟨c, rfl, o1, b1⟩; have e0 := HE0.out w1 b1; have hB1 := b1.size)
  refine wp_loop_rounds 3 ?_
  rw [rounds_succ]
  go_wp2_with (at_builtin; (refine wpList_appK kdI rfl _ _ rfl hB1 (R1 := []) rfl o1 xs rfl N1.out Q1.out (HS1.out w1 b1) (by have h1 := HM.out; have h3 : ([] : List Int).length = 0 := rfl; omega) ?_; intro v2 w2 o2 b2 _; have e1 := HE1.out w2 (b1.trans b2); have hB2 := Nat.le_trans hB1 b2.size))
  rw [rounds_succ]
  go_wp2_with (at_builtin; (refine wpList_appK kdI rfl _ _ rfl hB2 (R1 := [] ++ xs) rfl o2 ys rfl N2.out Q2.out (HS2.out w2 (b1.trans b2)) (by have h1 := HM.out; have h2 := N1.out; have h3 : ([] ++ xs).length = xs.length := rfl; omega) ?_; intro v3 w3 o3 b3 _; have d3 := Lib.hid (HK.out w1 w2 v3 w3 b1 b2 b3 o3)))
  rw [rounds_succ]
  go_wp2
  exact d3.out
end Go.Proofs.YtfcmodllbhpniaaGreatDoor.Ser
set_option maxRecDepth 100000
namespace Go.Proofs.YtfcmodllbhpniaaGreatDoor.Ser
open Go.Proofs.YtfcmodllbhpniaaGreatDoor
open Go.ChangeShapes Go.WideShapes Go.ChangeAt Go.RowKit
/-- What a state holds. -/
structure St where
  R : List Int
  pc : Int
  C : List Int
  h : Bool
  k : Bool
  O : List Int
/-- A state that lies, its rows in blocks below B. -/
def StL (w : World) (B : Nat) (v : Value) (s : St) : Prop := ∃ rp rn rc cp cn cc op on oc, v = .agg #[.slice rp rn rc, i64 s.pc, .slice cp cn cc, .bool s.h, .bool s.k, .slice op on oc] ∧ Lie .i64 w B rp rn rc s.R ∧ Lie .i64 w B cp cn cc s.C ∧ Lie .u8 w B op on oc s.O
/-- A state of the call's own; its control registers lie apart from the rest. -/
structure StO (w : World) (B : Nat) (r c o : Value) (s : St) : Prop where
  or : OwnK 3 .i64 w B r s.R
  oc : OwnK 3 .i64 w B c s.C
  oo : OwnK 5 .u8 w B o s.O
  nr : ∀ g, c.ownBlock = some g → r.ownBlock ≠ some g
  no : ∀ g, c.ownBlock = some g → o.ownBlock ≠ some g
/-- A state's value. -/
abbrev stV (r c o : Value) (s : St) : Value := .agg #[r, i64 s.pc, c, .bool s.h, .bool s.k, o]
section
variable {w w' : World} {B B' : Nat} {v r c o : Value} {s : St}
theorem StL.kept (h : StL w B v s) (hb : Below B' w w') (hB : B ≤ B') : StL w' B v s := by
  obtain ⟨rp, rn, rc, cp, cn, cc, op, on, oc, e, h1, h2, h3⟩ := h
  exact ⟨rp, rn, rc, cp, cn, cc, op, on, oc, e, h1.kept hb hB, h2.kept hb hB, h3.kept hb hB⟩
theorem StL.wide (h : StL w B v s) (hB : B ≤ B') : StL w B' v s := by
  obtain ⟨rp, rn, rc, cp, cn, cc, op, on, oc, e, h1, h2, h3⟩ := h
  exact ⟨rp, rn, rc, cp, cn, cc, op, on, oc, e, h1.wide hB, h2.wide hB, h3.wide hB⟩
/-- It still lies, later on. -/
theorem StL.later (h : StL w w.heap.size v s) (hb : Below w.heap.size w w') : StL w' w'.heap.size v s := (h.kept hb (Nat.le_refl _)).wide hb.size
theorem StO.lies (h : StO w B r c o s) : StL w w.heap.size (stV r c o s) s := by
  obtain ⟨p1, c1, e1, -, l1⟩ := ownK_lie h.or
  obtain ⟨p2, c2, e2, -, l2⟩ := ownK_lie h.oc
  obtain ⟨p3, c3, e3, -, l3⟩ := ownK_lie h.oo
  subst e1; subst e2; subst e3
  exact ⟨_, _, _, _, _, _, _, _, _, rfl, l1, l2, l3⟩
theorem StO.below (h : StO w B r c o s) (hb : Below w.heap.size w w') : StO w' B r c o s :=
  ⟨ownK_below h.or hb, ownK_below h.oc hb, ownK_below h.oo hb, h.nr, h.no⟩
theorem StO.mono (h : StO w B r c o s) (hB : B' ≤ B) : StO w B' r c o s := ⟨ownK_mono h.or hB, ownK_mono h.oc hB, ownK_mono h.oo hB, h.nr, h.no⟩
/-- A control register, and the state with another number in it. -/
theorem StO.cell (h : StO w B r c o s) {j : Nat} (hj : j < s.C.length) : ∃ g n cc, c = .slice (some ⟨g, 0, none⟩) n cc ∧ n = s.C.length ∧ n ≤ cc ∧ cc ≤ maxLen ∧ B ≤ g ∧ g < w.heap.size ∧ w.cell? ⟨g, j, none⟩ = some (i64 (s.C.getD j 0)) ∧ w.frozen? ⟨g, j, none⟩ = false ∧
    ∀ x : Int, StO (w.setCell ⟨g, j, none⟩ (i64 x)) B r c o { s with C := s.C.set j x } := by
  obtain ⟨g, cc, e, h1, h2, h3, h4, h5, h6, h7⟩ := ownK_cell h.oc hj
  refine ⟨g, _, cc, e, rfl, h2, h1, h3, h4, h5, h6, fun x => ⟨ownK_off h.or (h.nr g (by rw [e]; rfl)) _ _, h7 x, ownK_off h.oo (h.no g (by rw [e]; rfl)) _ _, h.nr, h.no⟩⟩
end
/-- A world that has drawn is the world. -/
theorem below_drewN {B : Nat} {w w' : World} (h : Below B w w') (n : Nat) : Below B w (w'.drewN n) := ⟨h.os, h.tape, h.output, h.size, h.block⟩
theorem same_quiet {w : World} {p1 p2 : Option Addr} {n1 c1 n2 c2 : Nat} {xs : List Int} (L1 : Lie .i64 w w.heap.size p1 n1 c1 xs) (L2 : Lie .i64 w w.heap.size p2 n2 c2 xs) (hn : n1 ≤ 100000) :
    Calls Tryz.prog 47 #[.slice p1 n1 c1, .slice p2 n2 c2] w fun e w' => e = .returned (.bool true) ∧ ∃ m, w' = w.drewN m := by
  obtain rfl : n1 = n2 := L1.len.symm.trans L2.len
  have i1 : (n1 : Int) ≤ 100000 := by omega
  have M1 := Lib.hid L1; have M2 := Lib.hid L2
  clear L1 L2
  go_enter Tryz.func47, Tryz.ntmps47
  go_wp2_with fail
  go_loopw [5] (fun i wr => ∃ j : Nat, j ≤ n1 ∧ i = .int .i64 j ∧ ∃ m, wr = w.drewN m) (fun i _ => n1 - (intOf i).toNat)
  case atStart => exact ⟨0, Nat.zero_le _, rfl, 0, rfl⟩
  case round =>
    obtain ⟨j, hj, rfl, m, rfl⟩ := hrel
    by_cases hjn : j < n1
    · obtain ⟨b1, o1, rfl, -, d1⟩ := M1.out.cell hjn
      obtain ⟨b2, o2, rfl, -, d2⟩ := M2.out.cell hjn
      generalize xs.getD j 0 = x at *
      have j2 : (j : Int) < (n1 : Int) := by omega
      go_upto_region 6 with fail
      go_region
      all_goals
        go_wp2_with fail
        go_roundw
        case rel => exact ⟨j + 1, hjn, by go_num, m + 1, rfl⟩
        case measure => simp [intOf]; omega
    · obtain rfl : j = n1 := by omega
      go_wp2_with fail
      go_ret
      exact ⟨rfl, m, rfl⟩
theorem same_ints {w : World} {p1 p2 : Option Addr} {n1 c1 n2 c2 : Nat} {xs : List Int} (L1 : Lie .i64 w w.heap.size p1 n1 c1 xs) (L2 : Lie .i64 w w.heap.size p2 n2 c2 xs) (hn : n1 ≤ 100000) :
    Calls Tryz.prog 47 #[.slice p1 n1 c1, .slice p2 n2 c2] w fun e w' => e = .returned (.bool true) ∧ Below w.heap.size w w' :=
  (same_quiet L1 L2 hn).mono fun _ _ ⟨he, m, hm⟩ => ⟨he, hm ▸ below_drewN (Below.refl _ _) m⟩
end Go.Proofs.YtfcmodllbhpniaaGreatDoor.Ser
set_option maxRecDepth 100000
namespace Go.Proofs.YtfcmodllbhpniaaGreatDoor.Ser
open Go.Proofs.YtfcmodllbhpniaaGreatDoor
open Go.ChangeShapes Go.WideShapes Go.ChangeAt Go.RowKit
/-- Not too much to be played. -/
def fit (s : St) : Prop := s.R.length ≤ 40 ∧ s.C.length ≤ 40 ∧ s.O.length ≤ 1000
set_option maxRecDepth 100000 in
set_option maxHeartbeats 1000000 in
theorem same_state {w : World} {v1 v2 : Value} {s : St} (A : StL w w.heap.size v1 s) (B : StL w w.heap.size v2 s) (hR : s.R.length ≤ 100000) (hC : s.C.length ≤ 100000) :
    Calls Tryz.prog 25 #[v1, v2] w fun e w' => e = .returned (.bool true) ∧ Below w.heap.size w w' := by
  obtain ⟨rp, rn, rc, cp, cn, cc, op, on, oc, rfl, h1, h2, h3⟩ := A
  obtain ⟨rp2, rn2, rc2, cp2, cn2, cc2, op2, on2, oc2, rfl, j1, j2, j3⟩ := B
  have hB2 : Below w.heap.size w ((w.alloc (.cells #[.slice rp rn rc, i64 s.pc, .slice cp cn cc, .bool s.h, .bool s.k, .slice op on oc] 55)).alloc (.cells #[.slice rp2 rn2 rc2, i64 s.pc, .slice cp2 cn2 cc2, .bool s.h, .bool s.k, .slice op2 on2 oc2] 55)) := ((Below.refl _ w).alloc (Nat.le_refl _) _).alloc (by simp) _
  have hz : (w.alloc (.cells #[.slice rp rn rc, i64 s.pc, .slice cp cn cc, .bool s.h, .bool s.k, .slice op on oc] 55)).heap.size = w.heap.size + 1 := by simp
  have hn1 : ((w.alloc (.cells #[.slice rp rn rc, i64 s.pc, .slice cp cn cc, .bool s.h, .bool s.k, .slice op on oc] 55)).alloc (.cells #[.slice rp2 rn2 rc2, i64 s.pc, .slice cp2 cn2 cc2, .bool s.h, .bool s.k, .slice op2 on2 oc2] 55)).heap[w.heap.size + 1]? = some (.cells #[.slice rp2 rn2 rc2, i64 s.pc, .slice cp2 cn2 cc2, .bool s.h, .bool s.k, .slice op2 on2 oc2] 55) := by
    have := heap_alloc_new (w.alloc (.cells #[.slice rp rn rc, i64 s.pc, .slice cp cn cc, .bool s.h, .bool s.k, .slice op on oc] 55)) (.cells #[.slice rp2 rn2 rc2, i64 s.pc, .slice cp2 cn2 cc2, .bool s.h, .bool s.k, .slice op2 on2 oc2] 55)
    rw [hz] at this
    exact this
  have hn0 : ((w.alloc (.cells #[.slice rp rn rc, i64 s.pc, .slice cp cn cc, .bool s.h, .bool s.k, .slice op on oc] 55)).alloc (.cells #[.slice rp2 rn2 rc2, i64 s.pc, .slice cp2 cn2 cc2, .bool s.h, .bool s.k, .slice op2 on2 oc2] 55)).heap[w.heap.size]? = some (.cells #[.slice rp rn rc, i64 s.pc, .slice cp cn cc, .bool s.h, .bool s.k, .slice op on oc] 55) := by
    rw [Below.heap_alloc _ _ _ (by rw [hz]; omega)]
    exact heap_alloc_new _ _
  have HX : ∀ w1, Below ((w.alloc (.cells #[.slice rp rn rc, i64 s.pc, .slice cp cn cc, .bool s.h, .bool s.k, .slice op on oc] 55)).alloc (.cells #[.slice rp2 rn2 rc2, i64 s.pc, .slice cp2 cn2 cc2, .bool s.h, .bool s.k, .slice op2 on2 oc2] 55)).heap.size ((w.alloc (.cells #[.slice rp rn rc, i64 s.pc, .slice cp cn cc, .bool s.h, .bool s.k, .slice op on oc] 55)).alloc (.cells #[.slice rp2 rn2 rc2, i64 s.pc, .slice cp2 cn2 cc2, .bool s.h, .bool s.k, .slice op2 on2 oc2] 55)) w1 → w1.cell? ⟨w.heap.size, 2, none⟩ = some (.slice cp cn cc) ∧ w1.cell? ⟨w.heap.size + 1, 2, none⟩ = some (.slice cp2 cn2 cc2) := by
    intro w1 k
    exact ⟨cell_kept k (by simp <;> omega) (by rw [cell_of_row _ _ 2 _ _ _ hn0]; rfl), cell_kept k (by simp <;> omega) (by rw [cell_of_row _ _ 2 _ _ _ hn1]; rfl)⟩
  have HX' := Lib.hid HX
  clear HX hn0 hn1 hz
  have s1 := (h3.kept hB2 (Nat.le_refl _)).src
  have s2 := (j3.kept hB2 (Nat.le_refl _)).src
  have q1 := conv_src s1 oc
  have q2 := conv_src s2 oc2
  rw [h3.len] at q1
  rw [j3.len] at q2
  have HR : ∀ w', Below w.heap.size w w' → Calls Tryz.prog 47 #[.slice rp rn rc, .slice rp2 rn2 rc2] w' fun e w'' => e = .returned (.bool true) ∧ Below w'.heap.size w' w'' := fun w' k => same_ints ((h1.kept k (Nat.le_refl _)).wide k.size) ((j1.kept k (Nat.le_refl _)).wide k.size) (by rw [← h1.len]; exact hR)
  have HC : ∀ w', Below w.heap.size w w' → Calls Tryz.prog 47 #[.slice cp cn cc, .slice cp2 cn2 cc2] w' fun e w'' => e = .returned (.bool true) ∧ Below w'.heap.size w' w'' := fun w' k => same_ints ((h2.kept k (Nat.le_refl _)).wide k.size) ((j2.kept k (Nat.le_refl _)).wide k.size) (by rw [← h2.len]; exact hC)
  have HR' := Lib.hid HR; have HC' := Lib.hid HC; have HB := Lib.hid hB2
  generalize strOfNums s.O = so at *
  clear h1 h2 h3 j1 j2 j3 s1 s2 HR HC hB2 hR hC
  obtain ⟨R, pc, C, h, k, O⟩ := s
  dsimp only at *
  go_enter Tryz.func25, Tryz.ntmps25
  go_wp2_with (go_at_call 47; first
    | (with_reducible refine (HC'.out _ hb1).mono ?_; rintro e w2 ⟨rfl, hb2⟩)
    | (with_reducible refine (HR'.out _ HB.out).mono ?_; rintro e w1 ⟨rfl, hb0⟩; have hb1 := HB.out.trans (hb0.mono HB.out.size); obtain ⟨x0, x1⟩ := HX'.out w1 hb0))
  go_ret
  exact ⟨ret_bool (by simp), hb1.trans (hb2.mono hb1.size)⟩
end Go.Proofs.YtfcmodllbhpniaaGreatDoor.Ser
