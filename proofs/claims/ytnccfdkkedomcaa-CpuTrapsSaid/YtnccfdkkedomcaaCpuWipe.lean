
/-
  Wipe: it writes into rows of one's own alone.
-/
import Derived.Test.YtnccfdkkedomcaaCpuEnter
namespace Go.Proofs.Ytnccfdkkedomcaa.Ser
open Go.Proofs.Ytnccfdkkedomcaa
open Go.ChangeShapes Go.WideShapes Go.ChangeAt Go.RowKit
/-- Three rows of one's own, apart, behind B; the box that holds them. -/
structure Wp (w0 wx : World) (B bx : Nat) (r : Value) (pc : Int) (c : Value) (h k : Bool) (o : Value) (n1 n2 n3 : Nat) : Prop where
  ex : ∃ R C O : List Int, R.length = n1 ∧ C.length = n2 ∧ O.length = n3 ∧ OwnK 3 .i64 wx B r R ∧ OwnK 3 .i64 wx B c C ∧ OwnK 5 .u8 wx B o O
  rc : ∀ g, c.ownBlock = some g → r.ownBlock ≠ some g
  x : Box6 wx bx r pc c h k o
  b : Below B w0 wx
  l : B ≤ bx
  n : ∀ g, r.ownBlock = some g ∨ c.ownBlock = some g ∨ o.ownBlock = some g → g ≠ bx
theorem own_kinds {w : World} {B B' g : Nat} {v v' : Value} {xs ys : List Int} (h : OwnK 3 .i64 w B v xs) (h' : OwnK 5 .u8 w B' v' ys) (hv : v.ownBlock = some g) : v'.ownBlock ≠ some g := by
  intro hv'
  obtain ⟨-, ⟨rfl, -⟩ | ⟨g1, c1, u1, rfl, -, e1, -⟩⟩ := h
  · cases hv
  · obtain ⟨-, ⟨rfl, -⟩ | ⟨g2, c2, u2, rfl, -, e2, -⟩⟩ := h'
    · cases hv'
    · injection hv with hv
      injection hv' with hv'
      change g1 = g at hv
      change g2 = g at hv'
      subst hv
      subst hv'
      rw [e1] at e2
      injection e2 with e2
      injection e2 with e3 e4
      exact absurd e4 (by decide)
section
variable {w0 wx : World} {B bx n1 n2 n3 : Nat} {r c o : Value} {pc : Int} {h k : Bool}
theorem Wp.setR (W : Wp w0 wx B bx r pc c h k o n1 n2 n3) {j : Nat} (hj : j < n1) : ∃ g q, r = .slice (some ⟨g, 0, none⟩) n1 q ∧ (∃ u, wx.cell? ⟨g, j, none⟩ = some (i64 u)) ∧ wx.frozen? ⟨g, j, none⟩ = false ∧ ∀ x : Int, Wp w0 (wx.setCell ⟨g, j, none⟩ (i64 x)) B bx r pc c h k o n1 n2 n3 := by
  obtain ⟨⟨R, C, O, a1, a2, a3, o1, o2, o3⟩, hrc, X, hb, l, hn⟩ := W
  obtain ⟨g, q, e, -, -, m1, -, m2, m3, m4⟩ := ownK_cell o1 (by rw [a1]; exact hj)
  have hg : r.ownBlock = some g := by rw [e]; rfl
  rw [a1] at e
  refine ⟨g, q, e, ⟨_, m2⟩, m3, fun x => ⟨⟨_, C, O, by rw [List.length_set]; exact a1, a2, a3, m4 x, ownK_off o2 (fun e2 => hrc g e2 hg) _ _, ownK_off o3 (own_kinds o1 o3 hg) _ _⟩, hrc, X.off (fun e2 => hn g (.inl hg) e2.symm) _ _, hb.setCell (by show B ≤ g; exact m1) _, l, hn⟩⟩
theorem Wp.setC (W : Wp w0 wx B bx r pc c h k o n1 n2 n3) {j : Nat} (hj : j < n2) : ∃ g q, c = .slice (some ⟨g, 0, none⟩) n2 q ∧ (∃ u, wx.cell? ⟨g, j, none⟩ = some (i64 u)) ∧ wx.frozen? ⟨g, j, none⟩ = false ∧ ∀ x : Int, Wp w0 (wx.setCell ⟨g, j, none⟩ (i64 x)) B bx r pc c h k o n1 n2 n3 := by
  obtain ⟨⟨R, C, O, a1, a2, a3, o1, o2, o3⟩, hrc, X, hb, l, hn⟩ := W
  obtain ⟨g, q, e, -, -, m1, -, m2, m3, m4⟩ := ownK_cell o2 (by rw [a2]; exact hj)
  have hg : c.ownBlock = some g := by rw [e]; rfl
  rw [a2] at e
  refine ⟨g, q, e, ⟨_, m2⟩, m3, fun x => ⟨⟨R, _, O, a1, by rw [List.length_set]; exact a2, a3, ownK_off o1 (hrc g hg) _ _, m4 x, ownK_off o3 (own_kinds o2 o3 hg) _ _⟩, hrc, X.off (fun e2 => hn g (.inr (.inl hg)) e2.symm) _ _, hb.setCell (by show B ≤ g; exact m1) _, l, hn⟩⟩
theorem Wp.setO (W : Wp w0 wx B bx r pc c h k o n1 n2 n3) {j : Nat} (hj : j < n3) : ∃ g q, o = .slice (some ⟨g, 0, none⟩) n3 q ∧ (∃ u, wx.cell? ⟨g, j, none⟩ = some (.int .u8 u)) ∧ wx.frozen? ⟨g, j, none⟩ = false ∧ ∀ x : Int, Wp w0 (wx.setCell ⟨g, j, none⟩ (.int .u8 x)) B bx r pc c h k o n1 n2 n3 := by
  obtain ⟨⟨R, C, O, a1, a2, a3, o1, o2, o3⟩, hrc, X, hb, l, hn⟩ := W
  obtain ⟨g, q, e, -, -, m1, -, m2, m3, m4⟩ := ownK_cell o3 (by rw [a3]; exact hj)
  have hg : o.ownBlock = some g := by rw [e]; rfl
  rw [a3] at e
  refine ⟨g, q, e, ⟨_, m2⟩, m3, fun x => ⟨⟨R, C, _, a1, a2, by rw [List.length_set]; exact a3, ownK_off o1 (fun e2 => own_kinds o1 o3 e2 hg) _ _, ownK_off o2 (fun e2 => own_kinds o2 o3 e2 hg) _ _, m4 x⟩, hrc, X.off (fun e2 => hn g (.inr (.inr hg)) e2.symm) _ _, hb.setCell (by show B ≤ g; exact m1) _, l, hn⟩⟩
end
set_option maxRecDepth 100000 in
set_option maxHeartbeats 4000000 in
theorem wipe_says {w : World} {B : Nat} {r c o : Value} {s : St} (S : StO w B r c o s) (hB : B ≤ w.heap.size) (hl : s.R.length ≤ 100000 ∧ s.C.length ≤ 100000 ∧ s.O.length ≤ 100000) :
    Calls Try.prog 20 #[stV r c o s] w fun e w' => e = .returned (.tuple #[]) ∧ Below B w w' := by
  obtain ⟨rp, rn, rc, cp, cn, cc, op, on, oc, rfl, rfl, rfl, e1, e2, e3⟩ := S.forms
  obtain ⟨l1, l2, l3⟩ := hl
  rw [← e2] at l1; rw [← e1] at l2; rw [← e3] at l3
  have ha := (Below.refl w.heap.size w).alloc (Nat.le_refl _) (.cells #[.slice rp rn rc, i64 s.pc, .slice cp cn cc, .bool s.h, .bool s.k, .slice op on oc] 31)
  have W0 : Wp w (w.alloc (.cells #[.slice rp rn rc, i64 s.pc, .slice cp cn cc, .bool s.h, .bool s.k, .slice op on oc] 31)) B w.heap.size (.slice rp rn rc) s.pc (.slice cp cn cc) s.h s.k (.slice op on oc) rn cn on := by
    have S2 := S.below ha
    refine ⟨⟨s.R, s.C, s.O, e2.symm, e1.symm, e3.symm, S2.or, S2.oc, S2.oo⟩, S.nr, Box6.new _ _ _ _ _ _ _, ha.mono hB, hB, fun g hg => ?_⟩
    rcases hg with hg | hg | hg
    · have := (S.or.lt g hg).2; omega
    · have := (S.oc.lt g hg).2; omega
    · have := (S.oo.lt g hg).2; omega
  have j1 : (rn : Int) ≤ 100000 := by omega
  have j2 : (cn : Int) ≤ 100000 := by omega
  have j3 : (on : Int) ≤ 100000 := by omega
  have HW := Lib.hid W0
  clear S W0 ha e1 e2 e3
  go_enter Try.func20, Try.ntmps20
  go_wp2_with fail
  go_loopw [2] (fun i wr => ∃ j : Nat, j ≤ rn ∧ i = .int .i64 j ∧ Wp w wr B w.heap.size (.slice rp rn rc) s.pc (.slice cp cn cc) s.h s.k (.slice op on oc) rn cn on) (fun i _ => rn - (intOf i).toNat)
  case atStart => exact ⟨0, Nat.zero_le _, rfl, HW.out⟩
  case round =>
    clear HW
    obtain ⟨j, hj, rfl, W⟩ := hrel
    have d0 := W.x.c0
    have d2 := W.x.c2
    by_cases hjn : j < rn
    · have i1 : (j : Int) < (rn : Int) := by omega
      obtain ⟨g, q, e, ⟨u, hu⟩, hf, W2⟩ := W.setR hjn
      injection e with e1 e2 e3
      subst e1
      have HW2 := Lib.hid W2
      clear W W2
      go_wp2_with fail
      go_roundw
      case rel => exact ⟨j + 1, hjn, by go_num, HW2.out _⟩
      case measure => simp [intOf]; omega
    · have i1 : ¬ (j : Int) < (rn : Int) := by omega
      have HW := Lib.hid W
      clear W d2
      go_wp2_with fail
      go_loopw [3] (fun i wr => ∃ j : Nat, j ≤ cn ∧ i = .int .i64 j ∧ Wp w wr B w.heap.size (.slice rp rn rc) s.pc (.slice cp cn cc) s.h s.k (.slice op on oc) rn cn on) (fun i _ => cn - (intOf i).toNat)
      case atStart => exact ⟨0, Nat.zero_le _, rfl, HW.out⟩
      case round =>
        clear HW d0
        obtain ⟨j', hj', rfl, W⟩ := hrel
        have d2 := W.x.c2
        have d5 := W.x.c5
        by_cases hjn' : j' < cn
        · have i1' : (j' : Int) < (cn : Int) := by omega
          obtain ⟨g, q, e, ⟨u, hu⟩, hf, W2⟩ := W.setC hjn'
          injection e with e1 e2 e3
          subst e1
          have HW2 := Lib.hid W2
          clear W W2
          go_wp2_with fail
          go_roundw
          case rel => exact ⟨j' + 1, hjn', by go_num, HW2.out _⟩
          case measure => simp [intOf]; omega
        · have i1' : ¬ (j' : Int) < (cn : Int) := by omega
          have HW := Lib.hid W
          clear W d5
          go_wp2_with fail
          go_loopw [4] (fun i wr => ∃ j : Nat, j ≤ on ∧ i = .int .i64 j ∧ Wp w wr B w.heap.size (.slice rp rn rc) s.pc (.slice cp cn cc) s.h s.k (.slice op on oc) rn cn on) (fun i _ => on - (intOf i).toNat)
          case atStart => exact ⟨0, Nat.zero_le _, rfl, HW.out⟩
          case round =>
            clear HW d2
            obtain ⟨m, hm, rfl, W⟩ := hrel
            have d5 := W.x.c5
            by_cases hmn : m < on
            · have i3 : (m : Int) < (on : Int) := by omega
              obtain ⟨g, q, e, ⟨u, hu⟩, hf, W2⟩ := W.setO hmn
              injection e with e1 e2 e3
              subst e1
              have HW2 := Lib.hid W2
              clear W W2
              go_wp2_with fail
              go_roundw
              case rel => exact ⟨m + 1, hmn, by go_num, HW2.out _⟩
              case measure => simp [intOf]; omega
            · have i3 : ¬ (m : Int) < (on : Int) := by omega
              have hb := Lib.hid W.b
              clear W
              go_wp2_with fail
              go_end0
              exact ⟨rfl, hb.out⟩
end Go.Proofs.Ytnccfdkkedomcaa.Ser
