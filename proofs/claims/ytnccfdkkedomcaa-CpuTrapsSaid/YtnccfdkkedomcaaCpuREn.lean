
/-
  EnterState and LeaveState of trunnionref1 (laid by mkrenter.py).
-/
import Derived.Test.YtnccfdkkedomcaaCpuKeep
import Derived.Test.YtnccfdkkedomcaaCpuNest2
namespace Go.Proofs.Ytnccfdkkedomcaa.Ser
open Go.Proofs.Ytnccfdkkedomcaa
open Go.ChangeShapes Go.WideShapes Go.ChangeAt Go.RowKit
theorem en_wd (x : Int) : en (wd x) = en x := by unfold en wd; omega
theorem le_wd (x : Int) : le (wd x) = le x := by unfold le wd; omega
/-- What the machine's registers hold. -/
def mfS (s : St) : Nat → Int := fun j => wd ((pad s.C).getD j 0)
theorem enC_low (s : St) (a t : Int) (j : Nat) (h : j < 2) : (enC s a t).getD j 0 = (pad s.C).getD j 0 := by
  have l := pad_length s.C
  unfold enC
  rw [getD_set _ _ _ _ (by simp; omega), getD_set _ _ _ _ (by simp; omega), getD_set _ _ _ _ (by omega), if_neg (by omega), if_neg (by omega), if_neg (by omega)]
theorem enS_ref (s : St) (a t : Int) : enS s a t = { s with C := (enC s a t).set 0 (en (mfS s 0)), pc := mfS s 1 } := by
  have l := enC_length s a t
  unfold enS mfS
  rw [getD_set _ _ _ _ (by omega), if_neg (by omega), enC_low s a t 0 (by omega), enC_low s a t 1 (by omega), en_wd]
theorem leS_ref (s : St) : leS s = { s with C := (pad s.C).set 0 (le (mfS s 0)), pc := mfS s 2 } := by
  have l := pad_length s.C
  unfold leS leC mfS
  rw [getD_set _ _ _ _ (by omega), if_neg (by omega), le_wd]
/-- The state at hand in its box, the answer's box, the rows, the machine; all apart. -/
structure EnQ (w wx : World) (bo gm : Nat) (mp : Int) (mf : Nat → Int) (r c o : Value) (s : St) : Prop where
  x : Box6 wx bo r s.pc c s.h s.k o
  y : Box6 wx (w.heap.size + 1) (.slice none 0 0) 0 (.slice none 0 0) false false (.slice none 0 0)
  S : StO wx (w.heap.size + 2) r c o s
  b : Below w.heap.size w wx
  M : Mac wx gm mp mf
  l : w.heap.size + 2 ≤ bo ∧ w.heap.size + 2 ≤ gm ∧ bo ≠ gm
  n : 11 ≤ s.C.length
  nr : r.ownBlock ≠ some bo
  nc : c.ownBlock ≠ some bo ∧ c.ownBlock ≠ some gm
  no : o.ownBlock ≠ some bo
section
variable {w wx : World} {bo gm g n cc : Nat} {mp : Int} {mf : Nat → Int} {r c o : Value} {s : St}
theorem EnQ.drew (E : EnQ w wx bo gm mp mf r c o s) : EnQ w wx.drew bo gm mp mf r c o s :=
  ⟨E.x, E.y, ⟨ownK_kept E.S.or fun _ _ => rfl, ownK_kept E.S.oc fun _ _ => rfl, ownK_kept E.S.oo fun _ _ => rfl, E.S.nr, E.S.no⟩, E.b.drew, E.M.heap rfl, E.l, E.n, E.nr, E.nc, E.no⟩
theorem EnQ.at_ (E : EnQ w wx bo gm mp mf r (.slice (some ⟨g, 0, none⟩) n cc) o s) {j : Nat} (hj : j < s.C.length) : wx.cell? ⟨g, j, none⟩ = some (i64 (s.C.getD j 0)) ∧ wx.frozen? ⟨g, j, none⟩ = false ∧
    ∀ x : Int, EnQ w (wx.setCell ⟨g, j, none⟩ (i64 x)) bo gm mp mf r (.slice (some ⟨g, 0, none⟩) n cc) o { s with C := s.C.set j x } := by
  obtain ⟨g', n', cc', e, -, -, -, h3, h4, h5, h6, h7⟩ := E.S.cell hj
  injection e with e1 e2 e3
  injection e1 with e1
  injection e1 with e1
  subst e1
  obtain ⟨l1, l2, l3⟩ := E.l
  have n1 : bo ≠ g := fun e => E.nc.1 (by rw [e]; rfl)
  have n2 : gm ≠ g := fun e => E.nc.2 (by rw [e]; rfl)
  exact ⟨h5, h6, fun x => ⟨E.x.off n1 _ _, E.y.off (by omega) _ _, h7 x, E.b.setCell (by show w.heap.size ≤ g; omega) _, E.M.heap (Below.heap_setCell _ _ _ _ n2), E.l, by have := E.n; simpa using this, E.nr, E.nc, E.no⟩⟩
theorem EnQ.pc (E : EnQ w wx bo gm mp mf r c o s) (p : Int) : EnQ w (wx.setCell ⟨bo, 1, none⟩ (i64 p)) bo gm mp mf r c o { s with pc := p } := by
  obtain ⟨l1, l2, l3⟩ := E.l
  exact ⟨E.x.set1 p, E.y.off (by omega) _ _, ⟨ownK_off E.S.or E.nr _ _, ownK_off E.S.oc E.nc.1 _ _, ownK_off E.S.oo E.no _ _, E.S.nr, E.S.no⟩, E.b.setCell (by show w.heap.size ≤ bo; omega) _, E.M.heap (Below.heap_setCell _ _ _ _ (fun e => l3 e.symm)), E.l, E.n, E.nr, E.nc, E.no⟩
theorem EnQ.fin (E : EnQ w wx bo gm mp mf r c o s) : Box6 (six wx (w.heap.size + 1) r (i64 s.pc) c (.bool s.h) (.bool s.k) o) (w.heap.size + 1) r s.pc c s.h s.k o ∧ StO (six wx (w.heap.size + 1) r (i64 s.pc) c (.bool s.h) (.bool s.k) o) w.heap.size r c o s ∧ Below w.heap.size w (six wx (w.heap.size + 1) r (i64 s.pc) c (.bool s.h) (.bool s.k) o) :=
  ⟨E.y.six _ _ _ _ _ _, (E.S.six (by omega) _ _ _ _ _ _).mono (by omega), six_below E.b (by omega) _ _ _ _ _ _⟩
end

set_option maxRecDepth 100000 in
set_option maxHeartbeats 4000000 in
theorem renter_state {w : World} {v : Value} {s : St} (A : StL w w.heap.size v s) (hf : s.R.length ≤ 1000 ∧ s.C.length ≤ 1000 ∧ s.O.length ≤ 10000) (a t : Int) :
    Calls Try.prog 22 #[v, i64 a, i64 t] w fun e w' => ∃ r c o, e = .returned (stV r c o (enS s a t)) ∧ StO w' w.heap.size r c o (enS s a t) ∧ Below w.heap.size w w' := by
  rw [enS_ref]
  obtain ⟨lp, ln, lc, mp, mn, mc, np, nn, nc, rfl, h1, h2, h3⟩ := A
  have hT := Two6.start w (.slice lp ln lc) s.pc (.slice mp mn mc) s.h s.k (.slice np nn nc)
  have A2 : StL ((w.alloc (.cells #[.slice lp ln lc, i64 s.pc, .slice mp mn mc, .bool s.h, .bool s.k, .slice np nn nc] 31)).alloc (.cells #[.slice none 0 0, i64 0, .slice none 0 0, .bool false, .bool false, .slice none 0 0] 31)) _ _ s := StL.later ⟨_, _, _, _, _, _, _, _, _, rfl, h1, h2, h3⟩ hT.b
  have hof := of_state A2 hf.2.2
  have HKp := Lib.hid (fun (u : World) (m : Option Addr) (k : Below _ _ u) => keep_rows (A2.later k) hf m)
  have hlt := Lib.hid hT.lt
  have HT := Lib.hid hT
  have hpl := Lib.hid (pad_length s.C)
  obtain ⟨x0, x1, x2, x3, x4, x5⟩ := hT.x.cells
  clear A2 h1 h2 h3 hT
  go_enter Try.func22, Try.ntmps22
  go_upto_region 1 with fail
  obtain ⟨w2, hw2⟩ : ∃ w2, w2 = ((w.alloc (.cells #[.slice lp ln lc, i64 s.pc, .slice mp mn mc, .bool s.h, .bool s.k, .slice np nn nc] 31)).alloc (.cells #[.slice none 0 0, i64 0, .slice none 0 0, .bool false, .bool false, .slice none 0 0] 31)) := ⟨_, rfl⟩
  rw [← hw2] at hof HKp hlt HT x0 x1 x2 x3 x4 x5 ⊢
  clear hw2
  go_upto_region 2 with (go_at_call 57; refine hof.mono ?_; rintro e w3 ⟨gm, rfl, hgm, M3, k3⟩; obtain ⟨y0, y1, y2, y3, y4, y5⟩ := (HT.out.x.kept k3 HT.out.x.lt).cells)
  have HM3 := Lib.hid M3; have HG := Lib.hid hgm; have K3 := Lib.hid k3
  clear M3 hgm k3 hof x0 x1 x2 x3 x4 x5
  go_cut [7, 8] from 9 (fun s7 s8 wx => ∃ gm bo rp rn rc g cn cc op on oc, s7 = .pointer (some ⟨gm, 0, none⟩) ∧ s8 = .pointer (some ⟨bo, 0, none⟩) ∧ EnQ w wx bo gm (wd s.pc) (mfS s) (.slice rp rn rc) (.slice (some ⟨g, 0, none⟩) cn cc) (.slice op on oc) ({ s with C := pad s.C }))
  case first =>
    go_wp2_with (go_at_call 58; refine (HKp.out _ _ K3.out).mono ?_; rintro e w4 ⟨r, c, o, rfl, S, k4⟩; obtain ⟨rp, rn, rc, g, cn, cc, op, on, oc, rfl, rfl, rfl, -, -, -⟩ := S.full (by show 11 ≤ (pad s.C).length; have := hpl.out; omega); have HS := Lib.hid S; have K4 := Lib.hid k4; clear S k4)
    go_meet
    case rel =>
      have l3 := HM3.out.lt
      have l4 := K3.out.size
      have l5 := K4.out.size
      have l6 := hlt.out
      have l7 := HG.out
      have ha := (Below.refl w4.heap.size w4).alloc (Nat.le_refl _) (.cells #[.slice rp rn rc, i64 s.pc, .slice (some ⟨g, 0, none⟩) cn cc, .bool s.h, .bool s.k, .slice op on oc] 31)
      have y3 := HT.out.y.kept K3.out HT.out.y.lt
      have y4 := y3.kept K4.out y3.lt
      have hb := ((HT.out.b.trans (K3.out.mono (by omega))).trans (K4.out.mono (by omega))).trans (ha.mono (by omega))
      refine ⟨gm, w4.heap.size, _, _, _, g, _, _, _, _, _, rfl, rfl, Box6.new _ _ _ _ _ _ _, y4.kept ha y4.lt, (HS.out.below ha).mono (by omega), hb, (HM3.out.kept K4.out l3).kept ha (by omega), by omega, by show 11 ≤ (pad s.C).length; have := hpl.out; omega, fun e => ?_, ⟨fun e => ?_, fun e => ?_⟩, fun e => ?_⟩
      · have := HS.out.or.lt _ e; omega
      · have := HS.out.oc.lt _ e; omega
      · have := HS.out.oc.lt _ e; omega
      · have := HS.out.oo.lt _ e; omega
  case rest =>
    obtain ⟨gm, bo, rp, rn, rc, g, cn, cc, op, on, oc, rfl, rfl, E⟩ := hcut
    have hcc : 11 ≤ cn ∧ cn ≤ cc ∧ cc ≤ maxLen := by
      obtain ⟨g2, n2, q2, e, h1, h2, h3, -⟩ := E.S.cell (j := 0) (by have := E.n; omega)
      injection e with e1 e2 e3
      subst e2 e3
      have := E.n
      exact ⟨by rw [h1]; exact this, h2, h3⟩
    have i1 : (11 : Int) ≤ (cn : Int) := by omega
    have i2 : (cn : Int) ≤ (cc : Int) := by omega
    have i3 : (cc : Int) ≤ 9223372036854775807 := by have := hcc.2.2; unfold maxLen at this; omega
    have i4 : (0 : Int) < (cn : Int) := by omega
    have i6 : (2 : Int) < (cn : Int) := by omega
    have i7 : (3 : Int) < (cn : Int) := by omega
    have i8 : (4 : Int) < (cn : Int) := by omega
    clear hcc HKp HM3 HG K3 HT hlt hpl y0 y1 y2 y3 y4 y5
    go_upto_region 3 with fail
    go_cut [] from 9 (fun wx => EnQ w wx bo gm (wd s.pc) (mfS s) (.slice rp rn rc) (.slice (some ⟨g, 0, none⟩) cn cc) (.slice op on oc) ({ s with C := (pad s.C).set 2 (wd s.pc) }))
    case first =>
      have x2 := E.x.c2
      have mp := E.M.pcv
      have m0 := E.M.reg (j := 0) (by omega)
      have a0 := (E.at_ (j := 0) (by have := E.n; omega)).1
      obtain ⟨aj, fj, -⟩ := E.at_ (j := 2) (by have := E.n; omega)
      skip
      have HE2 := Lib.hid (fun v => (E.drew.at_ (j := 2) (by have := E.n; omega)).2.2 v)
      clear E
      go_region_with (fail)
      all_goals
        go_wp2_with fail
        go_meet
        case rel => exact HE2.out _
    case rest =>
      clear E
      have E := hcut
      clear hcut
      go_upto_region 4 with fail
      go_cut [] from 9 (fun wx => EnQ w wx bo gm (wd s.pc) (mfS s) (.slice rp rn rc) (.slice (some ⟨g, 0, none⟩) cn cc) (.slice op on oc) ({ s with C := ((pad s.C).set 2 (wd s.pc)).set 3 (wd a) }))
      case first =>
        have x2 := E.x.c2
        have mp := E.M.pcv
        have m0 := E.M.reg (j := 0) (by omega)
        have a0 := (E.at_ (j := 0) (by have := E.n; omega)).1
        obtain ⟨aj, fj, -⟩ := E.at_ (j := 3) (by have := E.n; omega)
        have hcall := w_says a
        have HE2 := Lib.hid (fun v => (E.drew.at_ (j := 3) (by have := E.n; omega)).2.2 v)
        clear E
        go_region_with (go_at_call 23; refine (hcall _).mono ?_; rintro e w' ⟨rfl, rfl⟩)
        all_goals
          go_wp2_with fail
          go_meet
          case rel => exact HE2.out _
      case rest =>
        clear E
        have E := hcut
        clear hcut
        go_upto_region 5 with fail
        go_cut [] from 9 (fun wx => EnQ w wx bo gm (wd s.pc) (mfS s) (.slice rp rn rc) (.slice (some ⟨g, 0, none⟩) cn cc) (.slice op on oc) ({ s with C := enC s a t }))
        case first =>
          have x2 := E.x.c2
          have mp := E.M.pcv
          have m0 := E.M.reg (j := 0) (by omega)
          have a0 := (E.at_ (j := 0) (by have := E.n; omega)).1
          obtain ⟨aj, fj, -⟩ := E.at_ (j := 4) (by have := E.n; omega)
          have hcall := w_says t
          have HE2 := Lib.hid (fun v => (E.drew.at_ (j := 4) (by have := E.n; omega)).2.2 v)
          clear E
          go_region_with (go_at_call 23; refine (hcall _).mono ?_; rintro e w' ⟨rfl, rfl⟩)
          all_goals
            go_wp2_with fail
            go_meet
            case rel => exact HE2.out _
        case rest =>
          clear E
          have E := hcut
          clear hcut
          go_upto_region 6 with fail
          go_cut [] from 9 (fun wx => EnQ w wx bo gm (wd s.pc) (mfS s) (.slice rp rn rc) (.slice (some ⟨g, 0, none⟩) cn cc) (.slice op on oc) ({ s with C := (enC s a t).set 0 (en (mfS s 0)) }))
          case first =>
            have x2 := E.x.c2
            have mp := E.M.pcv
            have m0 := E.M.reg (j := 0) (by omega)
            have a0 := (E.at_ (j := 0) (by have := E.n; omega)).1
            obtain ⟨aj, fj, -⟩ := E.at_ (j := 0) (by have := E.n; omega)
            have hcall := renter_says (mfS s 0)
            have HE2 := Lib.hid (fun v => (E.drew.at_ (j := 0) (by have := E.n; omega)).2.2 v)
            clear E
            go_region_with (go_at_call 60; refine (hcall _).mono ?_; rintro e w' ⟨rfl, rfl⟩)
            all_goals
              go_wp2_with fail
              go_meet
              case rel => exact HE2.out _
          case rest =>
            clear E
            have E := hcut
            clear hcut
            go_upto_region 7 with fail
            go_cut [] from 9 (fun wx => EnQ w wx bo gm (wd s.pc) (mfS s) (.slice rp rn rc) (.slice (some ⟨g, 0, none⟩) cn cc) (.slice op on oc) ({ s with C := (enC s a t).set 0 (en (mfS s 0)), pc := mfS s 1 }))
            case first =>
              have mr := E.M.reg (j := 1) (by omega)
              have x1 := E.x.c1
              have xf := E.x.free 1
              have HE2 := Lib.hid (E.pc (mfS s 1))
              clear E
              go_wp2_with fail
              go_meet
              case rel => exact HE2.out
            case rest =>
              clear E
              have E := hcut
              clear hcut
              obtain ⟨b0, b1, b2, b3, b4, b5⟩ := E.x.cells
              obtain ⟨d0, d1, d2, d3, d4, d5⟩ := E.y.cells
              obtain ⟨f0, f1, f2, f3, f4, f5⟩ := E.y.frees
              obtain ⟨Y, SF, BF⟩ := E.fin
              obtain ⟨y0, y1, y2, y3, y4, y5⟩ := Y.cells
              have HS := Lib.hid SF; have HB := Lib.hid BF
              clear E SF BF Y
              go_wp2_with fail
              exact bodyPost_ret (v := stV (.slice rp rn rc) (.slice (some ⟨g, 0, none⟩) cn cc) (.slice op on oc) ({ s with C := (enC s a t).set 0 (en (mfS s 0)), pc := mfS s 1 })) (by simp [results, Try.results22, go_sem, y0, y1, y2, y3, y4, y5]) rfl ⟨_, _, _, rfl, HS.out, HB.out⟩
set_option maxRecDepth 100000 in
set_option maxHeartbeats 4000000 in
theorem rleave_state {w : World} {v : Value} {s : St} (A : StL w w.heap.size v s) (hf : s.R.length ≤ 1000 ∧ s.C.length ≤ 1000 ∧ s.O.length ≤ 10000) :
    Calls Try.prog 19 #[v] w fun e w' => ∃ r c o, e = .returned (stV r c o (leS s)) ∧ StO w' w.heap.size r c o (leS s) ∧ Below w.heap.size w w' := by
  rw [leS_ref]
  obtain ⟨lp, ln, lc, mp, mn, mc, np, nn, nc, rfl, h1, h2, h3⟩ := A
  have hT := Two6.start w (.slice lp ln lc) s.pc (.slice mp mn mc) s.h s.k (.slice np nn nc)
  have A2 : StL ((w.alloc (.cells #[.slice lp ln lc, i64 s.pc, .slice mp mn mc, .bool s.h, .bool s.k, .slice np nn nc] 31)).alloc (.cells #[.slice none 0 0, i64 0, .slice none 0 0, .bool false, .bool false, .slice none 0 0] 31)) _ _ s := StL.later ⟨_, _, _, _, _, _, _, _, _, rfl, h1, h2, h3⟩ hT.b
  have hof := of_state A2 hf.2.2
  have HKp := Lib.hid (fun (u : World) (m : Option Addr) (k : Below _ _ u) => keep_rows (A2.later k) hf m)
  have hlt := Lib.hid hT.lt
  have HT := Lib.hid hT
  have hpl := Lib.hid (pad_length s.C)
  obtain ⟨x0, x1, x2, x3, x4, x5⟩ := hT.x.cells
  clear A2 h1 h2 h3 hT
  go_enter Try.func19, Try.ntmps19
  go_upto_region 1 with fail
  obtain ⟨w2, hw2⟩ : ∃ w2, w2 = ((w.alloc (.cells #[.slice lp ln lc, i64 s.pc, .slice mp mn mc, .bool s.h, .bool s.k, .slice np nn nc] 31)).alloc (.cells #[.slice none 0 0, i64 0, .slice none 0 0, .bool false, .bool false, .slice none 0 0] 31)) := ⟨_, rfl⟩
  rw [← hw2] at hof HKp hlt HT x0 x1 x2 x3 x4 x5 ⊢
  clear hw2
  go_upto_region 2 with (go_at_call 57; refine hof.mono ?_; rintro e w3 ⟨gm, rfl, hgm, M3, k3⟩; obtain ⟨y0, y1, y2, y3, y4, y5⟩ := (HT.out.x.kept k3 HT.out.x.lt).cells)
  have HM3 := Lib.hid M3; have HG := Lib.hid hgm; have K3 := Lib.hid k3
  clear M3 hgm k3 hof x0 x1 x2 x3 x4 x5
  go_cut [3, 4] from 5 (fun s7 s8 wx => ∃ gm bo rp rn rc g cn cc op on oc, s7 = .pointer (some ⟨gm, 0, none⟩) ∧ s8 = .pointer (some ⟨bo, 0, none⟩) ∧ EnQ w wx bo gm (wd s.pc) (mfS s) (.slice rp rn rc) (.slice (some ⟨g, 0, none⟩) cn cc) (.slice op on oc) ({ s with C := pad s.C }))
  case first =>
    go_wp2_with (go_at_call 58; refine (HKp.out _ _ K3.out).mono ?_; rintro e w4 ⟨r, c, o, rfl, S, k4⟩; obtain ⟨rp, rn, rc, g, cn, cc, op, on, oc, rfl, rfl, rfl, -, -, -⟩ := S.full (by show 11 ≤ (pad s.C).length; have := hpl.out; omega); have HS := Lib.hid S; have K4 := Lib.hid k4; clear S k4)
    go_meet
    case rel =>
      have l3 := HM3.out.lt
      have l4 := K3.out.size
      have l5 := K4.out.size
      have l6 := hlt.out
      have l7 := HG.out
      have ha := (Below.refl w4.heap.size w4).alloc (Nat.le_refl _) (.cells #[.slice rp rn rc, i64 s.pc, .slice (some ⟨g, 0, none⟩) cn cc, .bool s.h, .bool s.k, .slice op on oc] 31)
      have y3 := HT.out.y.kept K3.out HT.out.y.lt
      have y4 := y3.kept K4.out y3.lt
      have hb := ((HT.out.b.trans (K3.out.mono (by omega))).trans (K4.out.mono (by omega))).trans (ha.mono (by omega))
      refine ⟨gm, w4.heap.size, _, _, _, g, _, _, _, _, _, rfl, rfl, Box6.new _ _ _ _ _ _ _, y4.kept ha y4.lt, (HS.out.below ha).mono (by omega), hb, (HM3.out.kept K4.out l3).kept ha (by omega), by omega, by show 11 ≤ (pad s.C).length; have := hpl.out; omega, fun e => ?_, ⟨fun e => ?_, fun e => ?_⟩, fun e => ?_⟩
      · have := HS.out.or.lt _ e; omega
      · have := HS.out.oc.lt _ e; omega
      · have := HS.out.oc.lt _ e; omega
      · have := HS.out.oo.lt _ e; omega
  case rest =>
    obtain ⟨gm, bo, rp, rn, rc, g, cn, cc, op, on, oc, rfl, rfl, E⟩ := hcut
    have hcc : 11 ≤ cn ∧ cn ≤ cc ∧ cc ≤ maxLen := by
      obtain ⟨g2, n2, q2, e, h1, h2, h3, -⟩ := E.S.cell (j := 0) (by have := E.n; omega)
      injection e with e1 e2 e3
      subst e2 e3
      have := E.n
      exact ⟨by rw [h1]; exact this, h2, h3⟩
    have i1 : (11 : Int) ≤ (cn : Int) := by omega
    have i2 : (cn : Int) ≤ (cc : Int) := by omega
    have i3 : (cc : Int) ≤ 9223372036854775807 := by have := hcc.2.2; unfold maxLen at this; omega
    have i4 : (0 : Int) < (cn : Int) := by omega
    have i6 : (2 : Int) < (cn : Int) := by omega
    have i7 : (3 : Int) < (cn : Int) := by omega
    have i8 : (4 : Int) < (cn : Int) := by omega
    clear hcc HKp HM3 HG K3 HT hlt hpl y0 y1 y2 y3 y4 y5
    go_upto_region 3 with fail
    go_cut [] from 5 (fun wx => EnQ w wx bo gm (wd s.pc) (mfS s) (.slice rp rn rc) (.slice (some ⟨g, 0, none⟩) cn cc) (.slice op on oc) ({ s with C := pad s.C, pc := mfS s 2 }))
    case first =>
      have mr := E.M.reg (j := 2) (by omega)
      have x1 := E.x.c1
      have xf := E.x.free 1
      have HE2 := Lib.hid (E.pc (mfS s 2))
      clear E
      go_wp2_with fail
      go_meet
      case rel => exact HE2.out
    case rest =>
      clear E
      have E := hcut
      clear hcut
      go_upto_region 4 with fail
      go_cut [] from 5 (fun wx => EnQ w wx bo gm (wd s.pc) (mfS s) (.slice rp rn rc) (.slice (some ⟨g, 0, none⟩) cn cc) (.slice op on oc) ({ s with C := (pad s.C).set 0 (le (mfS s 0)), pc := mfS s 2 }))
      case first =>
        have x2 := E.x.c2
        have mp := E.M.pcv
        have m0 := E.M.reg (j := 0) (by omega)
        have a0 := (E.at_ (j := 0) (by have := E.n; omega)).1
        obtain ⟨aj, fj, -⟩ := E.at_ (j := 0) (by have := E.n; omega)
        have hcall := rleave_says (mfS s 0)
        have HE2 := Lib.hid (fun v => (E.drew.at_ (j := 0) (by have := E.n; omega)).2.2 v)
        clear E
        go_region_with (go_at_call 59; refine (hcall _).mono ?_; rintro e w' ⟨rfl, rfl⟩)
        all_goals
          go_wp2_with fail
          go_meet
          case rel => exact HE2.out _
      case rest =>
        clear E
        have E := hcut
        clear hcut
        obtain ⟨b0, b1, b2, b3, b4, b5⟩ := E.x.cells
        obtain ⟨d0, d1, d2, d3, d4, d5⟩ := E.y.cells
        obtain ⟨f0, f1, f2, f3, f4, f5⟩ := E.y.frees
        obtain ⟨Y, SF, BF⟩ := E.fin
        obtain ⟨y0, y1, y2, y3, y4, y5⟩ := Y.cells
        have HS := Lib.hid SF; have HB := Lib.hid BF
        clear E SF BF Y
        go_wp2_with fail
        exact bodyPost_ret (v := stV (.slice rp rn rc) (.slice (some ⟨g, 0, none⟩) cn cc) (.slice op on oc) ({ s with C := (pad s.C).set 0 (le (mfS s 0)), pc := mfS s 2 })) (by simp [results, Try.results19, go_sem, y0, y1, y2, y3, y4, y5]) rfl ⟨_, _, _, rfl, HS.out, HB.out⟩
end Go.Proofs.Ytnccfdkkedomcaa.Ser
