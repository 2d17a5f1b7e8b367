
/-
  Enter and Leave of package cpu (laid by mkenter.py).
-/
import Derived.Test.YtnccfdkkedomcaaCpuEn
namespace Go.Proofs.Ytnccfdkkedomcaa.Ser
open Go.Proofs.Ytnccfdkkedomcaa
open Go.ChangeShapes Go.WideShapes Go.ChangeAt Go.RowKit
/-- As a trap leaves it. -/
def enC (s : St) (cause tval : Int) : List Int := (((pad s.C).set 2 (wd s.pc)).set 3 (wd cause)).set 4 (wd tval)
def enS (s : St) (cause tval : Int) : St := { s with C := (enC s cause tval).set 0 (en ((enC s cause tval).getD 0 0)), pc := wd (((enC s cause tval).set 0 (en ((enC s cause tval).getD 0 0))).getD 1 0) }
/-- As sret leaves it. -/
def leC (s : St) : List Int := (pad s.C).set 0 (le ((pad s.C).getD 0 0))
def leS (s : St) : St := { s with C := leC s, pc := wd ((leC s).getD 2 0) }
/-- The state at hand in its box, the answer's box, the rows; what is in blocks of K lies as it lay in w0. -/
structure EnR (w w0 wx : World) (K : Nat → Prop) (bx bz B : Nat) (r c o : Value) (s : St) : Prop where
  x : Box6 wx bx r s.pc c s.h s.k o
  y : Box6 wx bz (.slice none 0 0) 0 (.slice none 0 0) false false (.slice none 0 0)
  S : StO wx B r c o s
  b : Below w.heap.size w wx
  l : w.heap.size ≤ bx ∧ w.heap.size ≤ bz ∧ bx < B ∧ bz < B ∧ bx ≠ bz
  n : 11 ≤ s.C.length
  k : ∀ i, K i → i < B ∧ i ≠ bx ∧ i ≠ bz ∧ wx.heap[i]? = w0.heap[i]?
section
variable {w w0 wx : World} {K : Nat → Prop} {bx bz B g n cc : Nat} {r c o : Value} {s : St}
theorem EnR.form (E : EnR w w0 wx K bx bz B r c o s) : ∃ g cc, c = .slice (some ⟨g, 0, none⟩) s.C.length cc ∧ s.C.length ≤ cc ∧ cc ≤ maxLen := by
  obtain ⟨g, n, cc, e, rfl, h1, h2, -⟩ := E.S.cell (j := 0) (by have := E.n; omega)
  exact ⟨g, cc, e, h1, h2⟩
theorem EnR.at_ (E : EnR w w0 wx K bx bz B r (.slice (some ⟨g, 0, none⟩) n cc) o s) {j : Nat} (hj : j < s.C.length) : wx.cell? ⟨g, j, none⟩ = some (i64 (s.C.getD j 0)) ∧ wx.frozen? ⟨g, j, none⟩ = false ∧
    ∀ x : Int, EnR w w0 (wx.setCell ⟨g, j, none⟩ (i64 x)) K bx bz B r (.slice (some ⟨g, 0, none⟩) n cc) o { s with C := s.C.set j x } := by
  obtain ⟨g', n', cc', e, -, -, -, h3, h4, h5, h6, h7⟩ := E.S.cell hj
  injection e with e1 e2 e3
  injection e1 with e1
  injection e1 with e1
  subst e1
  obtain ⟨l1, l2, l3, l4, l5⟩ := E.l
  refine ⟨h5, h6, fun x => ⟨E.x.off (by omega) _ _, E.y.off (by omega) _ _, h7 x, E.b.setCell (by show w.heap.size ≤ g; omega) _, E.l, by have := E.n; simpa using this, fun i hi => ?_⟩⟩
  obtain ⟨k1, k2, k3, k4⟩ := E.k i hi
  exact ⟨k1, k2, k3, (Below.heap_setCell _ _ _ _ (by show i ≠ g; omega)).trans k4⟩
theorem EnR.drew (E : EnR w w0 wx K bx bz B r c o s) : EnR w w0 wx.drew K bx bz B r c o s :=
  ⟨E.x, E.y, ⟨ownK_kept E.S.or fun _ _ => rfl, ownK_kept E.S.oc fun _ _ => rfl, ownK_kept E.S.oo fun _ _ => rfl, E.S.nr, E.S.no⟩, E.b.drew, E.l, E.n, E.k⟩
theorem EnR.pc (E : EnR w w0 wx K bx bz B r c o s) (p : Int) : EnR w w0 (wx.setCell ⟨bx, 1, none⟩ (i64 p)) K bx bz B r c o { s with pc := p } := by
  obtain ⟨l1, l2, l3, l4, l5⟩ := E.l
  have off : ∀ {T : TypeId} {k : IntKind} {v : Value} {xs : List Int}, OwnK T k wx B v xs → OwnK T k (wx.setCell ⟨bx, 1, none⟩ (i64 p)) B v xs := fun h => ownK_off h (fun e => by have := (h.lt _ e).1; omega) _ _
  refine ⟨E.x.set1 p, E.y.off (fun e => l5 e.symm) _ _, ⟨off E.S.or, off E.S.oc, off E.S.oo, E.S.nr, E.S.no⟩, E.b.setCell l1 _, E.l, E.n, fun i hi => ?_⟩
  obtain ⟨k1, k2, k3, k4⟩ := E.k i hi
  exact ⟨k1, k2, k3, (Below.heap_setCell _ _ _ _ k2).trans k4⟩
theorem EnR.fin (E : EnR w w0 wx K bx bz B r c o s) : Box6 (six wx bz r (i64 s.pc) c (.bool s.h) (.bool s.k) o) bz r s.pc c s.h s.k o ∧ StO (six wx bz r (i64 s.pc) c (.bool s.h) (.bool s.k) o) w.heap.size r c o s ∧ Below w.heap.size w (six wx bz r (i64 s.pc) c (.bool s.h) (.bool s.k) o) := by
  obtain ⟨l1, l2, l3, l4, l5⟩ := E.l
  exact ⟨E.y.six _ _ _ _ _ _, (E.S.six l4 _ _ _ _ _ _).mono (by omega), six_below E.b l2 _ _ _ _ _ _⟩
/-- What the end of the walk asks: the answer's cells, the state's. -/
theorem EnR.cells (E : EnR w w0 wx K bx bz B r c o s) : (wx.cell? ⟨bx, 0, none⟩ = some r ∧ wx.cell? ⟨bx, 1, none⟩ = some (i64 s.pc) ∧ wx.cell? ⟨bx, 2, none⟩ = some c ∧ wx.cell? ⟨bx, 3, none⟩ = some (.bool s.h) ∧ wx.cell? ⟨bx, 4, none⟩ = some (.bool s.k) ∧ wx.cell? ⟨bx, 5, none⟩ = some o) ∧
    (wx.cell? ⟨bz, 0, none⟩ = some (.slice none 0 0) ∧ wx.cell? ⟨bz, 1, none⟩ = some (i64 0) ∧ wx.cell? ⟨bz, 2, none⟩ = some (.slice none 0 0) ∧ wx.cell? ⟨bz, 3, none⟩ = some (.bool false) ∧ wx.cell? ⟨bz, 4, none⟩ = some (.bool false) ∧ wx.cell? ⟨bz, 5, none⟩ = some (.slice none 0 0)) ∧
    (wx.frozen? ⟨bz, 0, none⟩ = false ∧ wx.frozen? ⟨bz, 1, none⟩ = false ∧ wx.frozen? ⟨bz, 2, none⟩ = false ∧ wx.frozen? ⟨bz, 3, none⟩ = false ∧ wx.frozen? ⟨bz, 4, none⟩ = false ∧ wx.frozen? ⟨bz, 5, none⟩ = false) :=
  ⟨⟨E.x.c0, E.x.c1, E.x.c2, E.x.c3, E.x.c4, E.x.c5⟩, ⟨E.y.c0, E.y.c1, E.y.c2, E.y.c3, E.y.c4, E.y.c5⟩, E.y.free 0, E.y.free 1, E.y.free 2, E.y.free 3, E.y.free 4, E.y.free 5⟩
end
theorem Box6.cells {w : World} {b : Nat} {r c o : Value} {pc : Int} {h k : Bool} (x : Box6 w b r pc c h k o) : w.cell? ⟨b, 0, none⟩ = some r ∧ w.cell? ⟨b, 1, none⟩ = some (i64 pc) ∧ w.cell? ⟨b, 2, none⟩ = some c ∧ w.cell? ⟨b, 3, none⟩ = some (.bool h) ∧ w.cell? ⟨b, 4, none⟩ = some (.bool k) ∧ w.cell? ⟨b, 5, none⟩ = some o :=
  ⟨x.c0, x.c1, x.c2, x.c3, x.c4, x.c5⟩
theorem Box6.frees {w : World} {b : Nat} {r c o : Value} {pc : Int} {h k : Bool} (x : Box6 w b r pc c h k o) : w.frozen? ⟨b, 0, none⟩ = false ∧ w.frozen? ⟨b, 1, none⟩ = false ∧ w.frozen? ⟨b, 2, none⟩ = false ∧ w.frozen? ⟨b, 3, none⟩ = false ∧ w.frozen? ⟨b, 4, none⟩ = false ∧ w.frozen? ⟨b, 5, none⟩ = false :=
  ⟨x.free 0, x.free 1, x.free 2, x.free 3, x.free 4, x.free 5⟩
theorem StO.forms {w : World} {B : Nat} {r c o : Value} {s : St} (S : StO w B r c o s) : ∃ rp rn rc cp cn cc op on oc, r = .slice rp rn rc ∧ c = .slice cp cn cc ∧ o = .slice op on oc ∧ cn = s.C.length ∧ rn = s.R.length ∧ on = s.O.length := by
  obtain ⟨p1, c1, e1, -, -⟩ := ownK_lie S.or
  obtain ⟨p2, c2, e2, -, -⟩ := ownK_lie S.oc
  obtain ⟨p3, c3, e3, -, -⟩ := ownK_lie S.oo
  exact ⟨_, _, _, _, _, _, _, _, _, e1, e2, e3, rfl, rfl, rfl⟩

set_option maxRecDepth 100000 in
set_option maxHeartbeats 4000000 in
theorem enter_state {w : World} {v : Value} {s : St} (A : StL w w.heap.size v s) (hf : s.R.length ≤ 1000 ∧ s.C.length ≤ 1000 ∧ s.O.length ≤ 10000) (a t : Int) :
    Calls Try.prog 16 #[v, i64 a, i64 t] w fun e w' => ∃ r c o, e = .returned (stV r c o (enS s a t)) ∧ StO w' w.heap.size r c o (enS s a t) ∧ Below w.heap.size w w' := by
  obtain ⟨z, hz⟩ : ∃ z, z = ((enC s a t).set 0 (en ((enC s a t).getD 0 0))).getD 1 0 := ⟨_, rfl⟩
  have hv : enS s a t = { s with C := (enC s a t).set 0 (en ((enC s a t).getD 0 0)) , pc := wd z } := by rw [hz]; rfl
  rw [hv]
  clear hv
  obtain ⟨lp, ln, lc, mp, mn, mc, np, nn, nc, rfl, h1, h2, h3⟩ := A
  have hT := Two6.start w (.slice lp ln lc) s.pc (.slice mp mn mc) s.h s.k (.slice np nn nc)
  have A2 : StL ((w.alloc (.cells #[.slice lp ln lc, i64 s.pc, .slice mp mn mc, .bool s.h, .bool s.k, .slice np nn nc] 31)).alloc (.cells #[.slice none 0 0, i64 0, .slice none 0 0, .bool false, .bool false, .slice none 0 0] 31)) _ _ s := StL.later ⟨_, _, _, _, _, _, _, _, _, rfl, h1, h2, h3⟩ hT.b
  have hcp := copied_says A2 hf
  have hlt := hT.lt
  have HT := Lib.hid hT
  have hpl := pad_length s.C
  clear A2 h1 h2 h3 hT
  go_enter Try.func16, Try.ntmps16
  go_upto_region 1 with fail
  go_cut [] from 7 (fun wx => ∃ rp rn rc g cn cc op on oc, EnR w w wx (fun _ => False) w.heap.size (w.heap.size + 1) (w.heap.size + 2) (.slice rp rn rc) (.slice (some ⟨g, 0, none⟩) cn cc) (.slice op on oc) ({ s with C := pad s.C }))
  case first =>
    go_wp2_with (go_at_call 53; refine hcp.mono ?_; rintro e w3 ⟨r, c, o, rfl, S, b3⟩; obtain ⟨rp, rn, rc, cp, cn, cc, op, on, oc, rfl, rfl, rfl, -⟩ := S.forms; have T3 := HT.out.call b3; obtain ⟨b0, b1, b2, b4, b5, b6⟩ := T3.x.cells; obtain ⟨f0, f1, f2, f4, f5, f6⟩ := T3.x.frees; have HS := Lib.hid S; have HT3 := Lib.hid T3; clear S T3)
    go_meet
    case rel =>
      have hS : StO w3 (w.heap.size + 2) (.slice rp rn rc) (.slice cp cn cc) (.slice op on oc) ({ s with C := pad s.C }) := HS.out.mono hlt
      have hE : EnR w w (six w3 w.heap.size (.slice rp rn rc) (i64 s.pc) (.slice cp cn cc) (.bool s.h) (.bool s.k) (.slice op on oc)) (fun _ => False) w.heap.size (w.heap.size + 1) (w.heap.size + 2) (.slice rp rn rc) (.slice cp cn cc) (.slice op on oc) ({ s with C := pad s.C }) :=
        ⟨HT3.out.x.six _ _ _ _ _ _, (((((HT3.out.y.off (by omega) _ _).off (by omega) _ _).off (by omega) _ _).off (by omega) _ _).off (by omega) _ _).off (by omega) _ _, hS.six (by omega) _ _ _ _ _ _, six_below HT3.out.b (Nat.le_refl _) _ _ _ _ _ _, by omega, by show 11 ≤ (pad s.C).length; omega, fun _ h => h.elim⟩
      obtain ⟨g, qc, e, -, -⟩ := hE.form
      injection e with e1 e2 e3
      subst e1
      exact ⟨_, _, _, g, _, _, _, _, _, hE⟩
  case rest =>
    obtain ⟨rp, rn, rc, g, cn, cc, op, on, oc, E⟩ := hcut
    have hcn : cn = (pad s.C).length := by
      obtain ⟨g2, q2, e, -, -⟩ := E.form
      injection e
    have hcc : cn ≤ cc ∧ cc ≤ maxLen := by
      obtain ⟨g2, q2, e, h1, h2⟩ := E.form
      injection e with e1 e2 e3
      subst e3
      exact ⟨by rw [hcn]; exact h1, h2⟩
    have i1 : (11 : Int) ≤ (cn : Int) := by omega
    have i2 : (cn : Int) ≤ (cc : Int) := by omega
    have i3 : (cc : Int) ≤ 9223372036854775807 := by have := hcc.2; unfold maxLen at this; omega
    have i4 : (0 : Int) < (cn : Int) := by omega
    have i5 : (1 : Int) < (cn : Int) := by omega
    have i6 : (2 : Int) < (cn : Int) := by omega
    have i7 : (3 : Int) < (cn : Int) := by omega
    have i8 : (4 : Int) < (cn : Int) := by omega
    clear hcp hcn hcc hlt hpl HT
    go_upto_region 2 with fail
    go_cut [] from 7 (fun wx => EnR w w wx (fun _ => False) w.heap.size (w.heap.size + 1) (w.heap.size + 2) (.slice rp rn rc) (.slice (some ⟨g, 0, none⟩) cn cc) (.slice op on oc) ({ s with C := (pad s.C).set 2 (wd s.pc) }))
    case first =>
      have x2 := E.x.c2
      have x1 := E.x.c1
      have a0 := (E.at_ (j := 0) (by have := E.n; omega)).1
      obtain ⟨aj, fj, E2⟩ := E.at_ (j := 2) (by have := E.n; omega)
      have y2 := x2
      have hcall := of_says s.pc
      have HE := Lib.hid (fun v => (E2 v).drew)
      have HE2 := Lib.hid (fun v => (E.drew.at_ (j := 2) (by have := E.n; omega)).2.2 v)
      clear E E2
      go_region_with (go_at_call 54; refine (hcall _).mono ?_; rintro e w' ⟨rfl, rfl⟩)
      all_goals
        go_wp2_with fail
        go_meet
        case rel => exact HE2.out _
    case rest =>
      clear E
      have E := hcut
      clear hcut
      go_upto_region 3 with fail
      go_cut [] from 7 (fun wx => EnR w w wx (fun _ => False) w.heap.size (w.heap.size + 1) (w.heap.size + 2) (.slice rp rn rc) (.slice (some ⟨g, 0, none⟩) cn cc) (.slice op on oc) ({ s with C := ((pad s.C).set 2 (wd s.pc)).set 3 (wd a) }))
      case first =>
        have x2 := E.x.c2
        have x1 := E.x.c1
        have a0 := (E.at_ (j := 0) (by have := E.n; omega)).1
        obtain ⟨aj, fj, E2⟩ := E.at_ (j := 3) (by have := E.n; omega)
        have y2 := x2
        have hcall := of_says a
        have HE := Lib.hid (fun v => (E2 v).drew)
        have HE2 := Lib.hid (fun v => (E.drew.at_ (j := 3) (by have := E.n; omega)).2.2 v)
        clear E E2
        go_region_with (go_at_call 54; refine (hcall _).mono ?_; rintro e w' ⟨rfl, rfl⟩)
        all_goals
          go_wp2_with fail
          go_meet
          case rel => exact HE2.out _
      case rest =>
        clear E
        have E := hcut
        clear hcut
        go_upto_region 4 with fail
        go_cut [] from 7 (fun wx => EnR w w wx (fun _ => False) w.heap.size (w.heap.size + 1) (w.heap.size + 2) (.slice rp rn rc) (.slice (some ⟨g, 0, none⟩) cn cc) (.slice op on oc) ({ s with C := enC s a t }))
        case first =>
          have x2 := E.x.c2
          have x1 := E.x.c1
          have a0 := (E.at_ (j := 0) (by have := E.n; omega)).1
          obtain ⟨aj, fj, E2⟩ := E.at_ (j := 4) (by have := E.n; omega)
          have y2 := x2
          have hcall := of_says t
          have HE := Lib.hid (fun v => (E2 v).drew)
          have HE2 := Lib.hid (fun v => (E.drew.at_ (j := 4) (by have := E.n; omega)).2.2 v)
          clear E E2
          go_region_with (go_at_call 54; refine (hcall _).mono ?_; rintro e w' ⟨rfl, rfl⟩)
          all_goals
            go_wp2_with fail
            go_meet
            case rel => exact HE2.out _
        case rest =>
          clear E
          have E := hcut
          clear hcut
          go_upto_region 5 with fail
          go_cut [] from 7 (fun wx => EnR w w wx (fun _ => False) w.heap.size (w.heap.size + 1) (w.heap.size + 2) (.slice rp rn rc) (.slice (some ⟨g, 0, none⟩) cn cc) (.slice op on oc) ({ s with C := (enC s a t).set 0 (en ((enC s a t).getD 0 0)) }))
          case first =>
            have x2 := E.x.c2
            have x1 := E.x.c1
            have a0 := (E.at_ (j := 0) (by have := E.n; omega)).1
            obtain ⟨aj, fj, E2⟩ := E.at_ (j := 0) (by have := E.n; omega)
            have y2 := x2
            have hcall := enter_says ((enC s a t).getD 0 0)
            have HE := Lib.hid (fun v => (E2 v).drew)
            have HE2 := Lib.hid (fun v => (E.drew.at_ (j := 0) (by have := E.n; omega)).2.2 v)
            clear E E2
            go_region_with (go_at_call 55; refine (hcall _).mono ?_; rintro e w' ⟨rfl, rfl⟩)
            all_goals
              go_wp2_with fail
              go_meet
              case rel => exact HE2.out _
          case rest =>
            clear E
            have E := hcut
            clear hcut
            have a1 : wc.cell? ⟨g, 1, none⟩ = some (i64 z) := by rw [hz]; exact (E.at_ (j := 1) (by have := E.n; omega)).1
            have x2 := E.x.c2
            have x1 := E.x.c1
            have xf := E.x.free 1
            have E2 := E.pc (wd z)
            obtain ⟨⟨b0, b1, b2, b3, b4, b5⟩, ⟨d0, d1, d2, d3, d4, d5⟩, f0, f1, f2, f3, f4, f5⟩ := E2.cells
            obtain ⟨Y, SF, BF⟩ := E2.fin
            obtain ⟨y0, y1, y2, y3, y4, y5⟩ := Y.cells
            have hcall := of_says z
            have HS := Lib.hid SF; have HB := Lib.hid BF
            clear E E2 SF BF Y hz
            go_wp2_with (go_at_call 54; refine (hcall _).mono ?_; rintro e w' ⟨rfl, rfl⟩)
            exact bodyPost_ret (v := stV (.slice rp rn rc) (.slice (some ⟨g, 0, none⟩) cn cc) (.slice op on oc) ({ s with C := (enC s a t).set 0 (en ((enC s a t).getD 0 0)) , pc := wd z })) (by simp [results, Try.results16, go_sem, y0, y1, y2, y3, y4, y5]) rfl ⟨_, _, _, rfl, HS.out, HB.out⟩
set_option maxRecDepth 100000 in
set_option maxHeartbeats 4000000 in
theorem leave_state {w : World} {v : Value} {s : St} (A : StL w w.heap.size v s) (hf : s.R.length ≤ 1000 ∧ s.C.length ≤ 1000 ∧ s.O.length ≤ 10000) :
    Calls Try.prog 17 #[v] w fun e w' => ∃ r c o, e = .returned (stV r c o (leS s)) ∧ StO w' w.heap.size r c o (leS s) ∧ Below w.heap.size w w' := by
  obtain ⟨z, hz⟩ : ∃ z, z = (leC s).getD 2 0 := ⟨_, rfl⟩
  have hv : leS s = { s with C := leC s , pc := wd z } := by rw [hz]; rfl
  rw [hv]
  clear hv
  obtain ⟨lp, ln, lc, mp, mn, mc, np, nn, nc, rfl, h1, h2, h3⟩ := A
  have hT := Two6.start w (.slice lp ln lc) s.pc (.slice mp mn mc) s.h s.k (.slice np nn nc)
  have A2 : StL ((w.alloc (.cells #[.slice lp ln lc, i64 s.pc, .slice mp mn mc, .bool s.h, .bool s.k, .slice np nn nc] 31)).alloc (.cells #[.slice none 0 0, i64 0, .slice none 0 0, .bool false, .bool false, .slice none 0 0] 31)) _ _ s := StL.later ⟨_, _, _, _, _, _, _, _, _, rfl, h1, h2, h3⟩ hT.b
  have hcp := copied_says A2 hf
  have hlt := hT.lt
  have HT := Lib.hid hT
  have hpl := pad_length s.C
  clear A2 h1 h2 h3 hT
  go_enter Try.func17, Try.ntmps17
  go_upto_region 1 with fail
  go_cut [] from 3 (fun wx => ∃ rp rn rc g cn cc op on oc, EnR w w wx (fun _ => False) w.heap.size (w.heap.size + 1) (w.heap.size + 2) (.slice rp rn rc) (.slice (some ⟨g, 0, none⟩) cn cc) (.slice op on oc) ({ s with C := pad s.C }))
  case first =>
    go_wp2_with (go_at_call 53; refine hcp.mono ?_; rintro e w3 ⟨r, c, o, rfl, S, b3⟩; obtain ⟨rp, rn, rc, cp, cn, cc, op, on, oc, rfl, rfl, rfl, -⟩ := S.forms; have T3 := HT.out.call b3; obtain ⟨b0, b1, b2, b4, b5, b6⟩ := T3.x.cells; obtain ⟨f0, f1, f2, f4, f5, f6⟩ := T3.x.frees; have HS := Lib.hid S; have HT3 := Lib.hid T3; clear S T3)
    go_meet
    case rel =>
      have hS : StO w3 (w.heap.size + 2) (.slice rp rn rc) (.slice cp cn cc) (.slice op on oc) ({ s with C := pad s.C }) := HS.out.mono hlt
      have hE : EnR w w (six w3 w.heap.size (.slice rp rn rc) (i64 s.pc) (.slice cp cn cc) (.bool s.h) (.bool s.k) (.slice op on oc)) (fun _ => False) w.heap.size (w.heap.size + 1) (w.heap.size + 2) (.slice rp rn rc) (.slice cp cn cc) (.slice op on oc) ({ s with C := pad s.C }) :=
        ⟨HT3.out.x.six _ _ _ _ _ _, (((((HT3.out.y.off (by omega) _ _).off (by omega) _ _).off (by omega) _ _).off (by omega) _ _).off (by omega) _ _).off (by omega) _ _, hS.six (by omega) _ _ _ _ _ _, six_below HT3.out.b (Nat.le_refl _) _ _ _ _ _ _, by omega, by show 11 ≤ (pad s.C).length; omega, fun _ h => h.elim⟩
      obtain ⟨g, qc, e, -, -⟩ := hE.form
      injection e with e1 e2 e3
      subst e1
      exact ⟨_, _, _, g, _, _, _, _, _, hE⟩
  case rest =>
    obtain ⟨rp, rn, rc, g, cn, cc, op, on, oc, E⟩ := hcut
    have hcn : cn = (pad s.C).length := by
      obtain ⟨g2, q2, e, -, -⟩ := E.form
      injection e
    have hcc : cn ≤ cc ∧ cc ≤ maxLen := by
      obtain ⟨g2, q2, e, h1, h2⟩ := E.form
      injection e with e1 e2 e3
      subst e3
      exact ⟨by rw [hcn]; exact h1, h2⟩
    have i1 : (11 : Int) ≤ (cn : Int) := by omega
    have i2 : (cn : Int) ≤ (cc : Int) := by omega
    have i3 : (cc : Int) ≤ 9223372036854775807 := by have := hcc.2; unfold maxLen at this; omega
    have i4 : (0 : Int) < (cn : Int) := by omega
    have i5 : (1 : Int) < (cn : Int) := by omega
    have i6 : (2 : Int) < (cn : Int) := by omega
    have i7 : (3 : Int) < (cn : Int) := by omega
    have i8 : (4 : Int) < (cn : Int) := by omega
    clear hcp hcn hcc hlt hpl HT
    go_upto_region 2 with fail
    go_cut [] from 3 (fun wx => EnR w w wx (fun _ => False) w.heap.size (w.heap.size + 1) (w.heap.size + 2) (.slice rp rn rc) (.slice (some ⟨g, 0, none⟩) cn cc) (.slice op on oc) ({ s with C := leC s }))
    case first =>
      have x2 := E.x.c2
      have x1 := E.x.c1
      have a0 := (E.at_ (j := 0) (by have := E.n; omega)).1
      obtain ⟨aj, fj, E2⟩ := E.at_ (j := 0) (by have := E.n; omega)
      have y2 := x2
      have hcall := leave_says ((pad s.C).getD 0 0)
      have HE := Lib.hid (fun v => (E2 v).drew)
      have HE2 := Lib.hid (fun v => (E.drew.at_ (j := 0) (by have := E.n; omega)).2.2 v)
      clear E E2
      go_region_with (go_at_call 56; refine (hcall _).mono ?_; rintro e w' ⟨rfl, rfl⟩)
      all_goals
        go_wp2_with fail
        go_meet
        case rel => exact HE2.out _
    case rest =>
      clear E
      have E := hcut
      clear hcut
      have a1 : wc.cell? ⟨g, 2, none⟩ = some (i64 z) := by rw [hz]; exact (E.at_ (j := 2) (by have := E.n; omega)).1
      have x2 := E.x.c2
      have x1 := E.x.c1
      have xf := E.x.free 1
      have E2 := E.pc (wd z)
      obtain ⟨⟨b0, b1, b2, b3, b4, b5⟩, ⟨d0, d1, d2, d3, d4, d5⟩, f0, f1, f2, f3, f4, f5⟩ := E2.cells
      obtain ⟨Y, SF, BF⟩ := E2.fin
      obtain ⟨y0, y1, y2, y3, y4, y5⟩ := Y.cells
      have hcall := of_says z
      have HS := Lib.hid SF; have HB := Lib.hid BF
      clear E E2 SF BF Y hz
      go_wp2_with (go_at_call 54; refine (hcall _).mono ?_; rintro e w' ⟨rfl, rfl⟩)
      exact bodyPost_ret (v := stV (.slice rp rn rc) (.slice (some ⟨g, 0, none⟩) cn cc) (.slice op on oc) ({ s with C := leC s , pc := wd z })) (by simp [results, Try.results17, go_sem, y0, y1, y2, y3, y4, y5]) rfl ⟨_, _, _, rfl, HS.out, HB.out⟩
end Go.Proofs.Ytnccfdkkedomcaa.Ser
