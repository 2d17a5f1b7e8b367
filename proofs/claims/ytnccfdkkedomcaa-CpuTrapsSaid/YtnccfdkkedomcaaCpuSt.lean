
/-
  States (St): what lies (StL), what is the call's own (StO); SameInts, SameState, Big.
-/
import Derived.Test.YtnccfdkkedomcaaCpuSl
import Derived.Deep.QuietTactic
import Derived.BigQuiet
namespace Go.Proofs.Ytnccfdkkedomcaa.Ser
open Go.Proofs.Ytnccfdkkedomcaa
open Go.ChangeShapes Go.WideShapes Go.ChangeAt Go.RowKit
/-- What a state holds. -/
structure St where
  R : List Int
  pc : Int
  C : List Int
  h : Bool
  k : Bool
  O : List Int
/-- A state that lies, its rows in blocks below B. -/
def StL (w : World) (B : Nat) (v : Value) (s : St) : Prop := ∃ rp rn rc cp cn cc op on oc, v = .agg #[.slice rp rn rc, i64 s.pc, .slice cp cn cc, .bool s.h, .bool s.k, .slice op on oc] ∧ Lie .i64 w B rp rn rc s.R ∧ Lie .i64 w B cp cn cc s.C ∧ Lie .u8 w B op on oc s.O
/-- A state of the call's own; its control registers lie apart from the rest. -/
structure StO (w : World) (B : Nat) (r c o : Value) (s : St) : Prop where
  or : OwnK 3 .i64 w B r s.R
  oc : OwnK 3 .i64 w B c s.C
  oo : OwnK 5 .u8 w B o s.O
  nr : ∀ g, c.ownBlock = some g → r.ownBlock ≠ some g
  no : ∀ g, c.ownBlock = some g → o.ownBlock ≠ some g
/-- A state's value. -/
abbrev stV (r c o : Value) (s : St) : Value := .agg #[r, i64 s.pc, c, .bool s.h, .bool s.k, o]
section
variable {w w' : World} {B B' : Nat} {v r c o : Value} {s : St}
theorem StL.kept (h : StL w B v s) (hb : Below B' w w') (hB : B ≤ B') : StL w' B v s := by
  obtain ⟨rp, rn, rc, cp, cn, cc, op, on, oc, e, h1, h2, h3⟩ := h
  exact ⟨rp, rn, rc, cp, cn, cc, op, on, oc, e, h1.kept hb hB, h2.kept hb hB, h3.kept hb hB⟩
theorem StL.wide (h : StL w B v s) (hB : B ≤ B') : StL w B' v s := by
  obtain ⟨rp, rn, rc, cp, cn, cc, op, on, oc, e, h1, h2, h3⟩ := h
  exact ⟨rp, rn, rc, cp, cn, cc, op, on, oc, e, h1.wide hB, h2.wide hB, h3.wide hB⟩
/-- It still lies, later on. -/
theorem StL.later (h : StL w w.heap.size v s) (hb : Below w.heap.size w w') : StL w' w'.heap.size v s := (h.kept hb (Nat.le_refl _)).wide hb.size
theorem StO.lies (h : StO w B r c o s) : StL w w.heap.size (stV r c o s) s := by
  obtain ⟨p1, c1, e1, -, l1⟩ := ownK_lie h.or
  obtain ⟨p2, c2, e2, -, l2⟩ := ownK_lie h.oc
  obtain ⟨p3, c3, e3, -, l3⟩ := ownK_lie h.oo
  subst e1; subst e2; subst e3
  exact ⟨_, _, _, _, _, _, _, _, _, rfl, l1, l2, l3⟩
theorem StO.below (h : StO w B r c o s) (hb : Below w.heap.size w w') : StO w' B r c o s :=
  ⟨ownK_below h.or hb, ownK_below h.oc hb, ownK_below h.oo hb, h.nr, h.no⟩
theorem StO.mono (h : StO w B r c o s) (hB : B' ≤ B) : StO w B' r c o s := ⟨ownK_mono h.or hB, ownK_mono h.oc hB, ownK_mono h.oo hB, h.nr, h.no⟩
/-- A control register, and the state with another number in it. -/
theorem StO.cell (h : StO w B r c o s) {j : Nat} (hj : j < s.C.length) : ∃ g n cc, c = .slice (some ⟨g, 0, none⟩) n cc ∧ n = s.C.length ∧ n ≤ cc ∧ cc ≤ maxLen ∧ B ≤ g ∧ g < w.heap.size ∧ w.cell? ⟨g, j, none⟩ = some (i64 (s.C.getD j 0)) ∧ w.frozen? ⟨g, j, none⟩ = false ∧
    ∀ x : Int, StO (w.setCell ⟨g, j, none⟩ (i64 x)) B r c o { s with C := s.C.set j x } := by
  obtain ⟨g, cc, e, h1, h2, h3, h4, h5, h6, h7⟩ := ownK_cell h.oc hj
  refine ⟨g, _, cc, e, rfl, h2, h1, h3, h4, h5, h6, fun x => ⟨ownK_off h.or (h.nr g (by rw [e]; rfl)) _ _, h7 x, ownK_off h.oo (h.no g (by rw [e]; rfl)) _ _, h.nr, h.no⟩⟩
end
/-- A world that has drawn is the world. -/
theorem below_drewN {B : Nat} {w w' : World} (h : Below B w w') (n : Nat) : Below B w (w'.drewN n) := ⟨h.os, h.tape, h.output, h.size, h.block⟩
theorem same_quiet {w : World} {p1 p2 : Option Addr} {n1 c1 n2 c2 : Nat} {xs : List Int} (L1 : Lie .i64 w w.heap.size p1 n1 c1 xs) (L2 : Lie .i64 w w.heap.size p2 n2 c2 xs) (hn : n1 ≤ 100000) :
    Calls Try.prog 24 #[.slice p1 n1 c1, .slice p2 n2 c2] w fun e w' => e = .returned (.bool true) ∧ ∃ m, w' = w.drewN m := by
  obtain rfl : n1 = n2 := L1.len.symm.trans L2.len
  have i1 : (n1 : Int) ≤ 100000 := by omega
  have M1 := Lib.hid L1; have M2 := Lib.hid L2
  clear L1 L2
  go_enter Try.func24, Try.ntmps24
  go_wp2_with fail
  go_loopw [5] (fun i wr => ∃ j : Nat, j ≤ n1 ∧ i = .int .i64 j ∧ ∃ m, wr = w.drewN m) (fun i _ => n1 - (intOf i).toNat)
  case atStart => exact ⟨0, Nat.zero_le _, rfl, 0, rfl⟩
  case round =>
    obtain ⟨j, hj, rfl, m, rfl⟩ := hrel
    by_cases hjn : j < n1
    · obtain ⟨b1, o1, rfl, -, d1⟩ := M1.out.cell hjn
      obtain ⟨b2, o2, rfl, -, d2⟩ := M2.out.cell hjn
      generalize xs.getD j 0 = x at *
      have j2 : (j : Int) < (n1 : Int) := by omega
      go_upto_region 6 with fail
      go_region
      all_goals
        go_wp2_with fail
        go_roundw
        case rel => exact ⟨j + 1, hjn, by go_num, m + 1, rfl⟩
        case measure => simp [intOf]; omega
    · obtain rfl : j = n1 := by omega
      go_wp2_with fail
      go_ret
      exact ⟨rfl, m, rfl⟩
theorem same_ints {w : World} {p1 p2 : Option Addr} {n1 c1 n2 c2 : Nat} {xs : List Int} (L1 : Lie .i64 w w.heap.size p1 n1 c1 xs) (L2 : Lie .i64 w w.heap.size p2 n2 c2 xs) (hn : n1 ≤ 100000) :
    Calls Try.prog 24 #[.slice p1 n1 c1, .slice p2 n2 c2] w fun e w' => e = .returned (.bool true) ∧ Below w.heap.size w w' :=
  (same_quiet L1 L2 hn).mono fun _ _ ⟨he, m, hm⟩ => ⟨he, hm ▸ below_drewN (Below.refl _ _) m⟩
end Go.Proofs.Ytnccfdkkedomcaa.Ser
