/-
  The laws' Big and alive.
-/
import Derived.Test.YtnglmiihlpjelaaPlnE
import Derived.Test.YtnglmiihlpjelaaPlnH
import Derived.Test.YtnglmiihlpjelaaCfgL
set_option maxRecDepth 100000
set_option linter.unusedVariables false
namespace Go.Proofs.Ytnglmiihlpjelaa.Cfg
open Go.Proofs.Ytnglmiihlpjelaa
open Go.ChangeShapes Go.WideShapes Go.ChangeAt Go.RowKit
set_option maxHeartbeats 8000000 in
theorem big_says {w : World} {c : Cf} {p1 : Option Addr} {c1 : Nat} {p2 : Option Addr} {c2 : Nat} {p3 : Option Addr} {c3 : Nat} (X : Cx w w.heap.size c p1 c1 p2 c2 p3 c3) :
    Calls Try.prog 11 #[cfV c p1 c1 p2 c2 p3 c3] w fun e w' => ∃ b, e = .returned (.bool b) ∧ Below w.heap.size w w' := by
  obtain ⟨p, hp⟩ : ∃ p : Ending → World → Prop, p = fun e w' => ∃ b, e = .returned (.bool b) ∧ Below w.heap.size w w' := ⟨_, rfl⟩
  rw [← hp]
  have HO := Lib.hid (fun (b : Bool) w' (hw : Below w.heap.size w w') => (by rw [hp]; exact ⟨b, rfl, hw⟩ : p (.returned (.bool b)) w'))
  clear hp
  obtain ⟨h, hhz⟩ : ∃ h, w.heap.size = h := ⟨_, rfl⟩
  rw [hhz] at HO
  have L3 := Lib.hid (hhz ▸ X.L1)
  have wl := X.wf.len
  obtain ⟨l, hl⟩ : ∃ l, c.parts = l := ⟨_, rfl⟩
  simp only [cfV, hl] at L3 wl ⊢
  clear X
  obtain ⟨pg, qpg⟩ : ∃ pg, c.pages = pg := ⟨_, rfl⟩
  obtain ⟨mj, qmj⟩ : ∃ mj, c.major = mj := ⟨_, rfl⟩
  obtain ⟨sw, qsw⟩ : ∃ sw, c.switch = sw := ⟨_, rfl⟩
  obtain ⟨m, qm⟩ : ∃ m, l.length = m := ⟨_, rfl⟩
  obtain ⟨n2, qn2⟩ : ∃ n2, c.chans.length = n2 := ⟨_, rfl⟩
  obtain ⟨n3, qn3⟩ : ∃ n3, c.wins.length = n3 := ⟨_, rfl⟩
  simp only [qm, qn2, qn3] at L3 wl
  simp only [qpg, qmj, qsw, qn2, qn3, qm]
  have hlm := qm
  clear qpg qmj qsw qn2 qn3 qm hl
  obtain ⟨w1, hw1⟩ : ∃ w1, w1 = w.alloc (.cells #[i64 pg, i64 mj, i64 sw, .slice p1 m c1, .slice p2 n2 c2, .slice p3 n3 c3] 26) := ⟨_, rfl⟩
  have b1 := Lib.hid (by rw [hw1]; exact (Below.refl _ _).alloc (Nat.le_of_eq hhz.symm) _ : Below h w w1)
  have hg1 : w1.heap.size = h + 1 := by rw [hw1, ← hhz]; simp
  have hZ := Lib.hid (fun k v hv => by
    rw [hw1, ← hhz, cell_of_row _ _ k _ _ _ (heap_alloc_new _ _), ← Array.getElem?_toList]; exact hv : ∀ (k : Nat) (v : Value), [i64 pg, i64 mj, i64 sw, .slice p1 m c1, .slice p2 n2 c2, .slice p3 n3 c3][k]? = some v → w1.cell? ⟨h, k, none⟩ = some v)
  have L1 := Lib.hid (L3.out.kept b1.out (Nat.le_refl _))
  clear L3
  have ho1 := Lib.hid (fun b => HO.out b w1 b1.out)
  have z3 := hZ.out 3 _ rfl
  have z4 := hZ.out 4 _ rfl
  have z5 := hZ.out 5 _ rfl
  go_enter Try.func11, Try.ntmps11
  go_upto_region 1 with fail
  try simp only [hhz]
  rw [← hw1]
  clear hw1
  by_cases k1 : m > 20
  · clear HO b1 L1 hZ wl
    go_wp2
    exact ho1.out _
  by_cases k2 : n2 > 40
  · clear HO b1 L1 hZ wl
    go_wp2
    exact ho1.out _
  by_cases k3 : n3 > 60
  · clear HO b1 L1 hZ wl
    go_wp2
    exact ho1.out _
  clear ho1 wl
  go_wp2
  go_loopw [3] (fun i wr => wr = w1 ∧ ∃ j : Nat, j ≤ m ∧ i = .int .i64 j) (fun i _ => m - (intOf i).toNat)
  case atStart => exact ⟨rfl, 0, Nat.zero_le _, rfl⟩
  case round =>
    obtain ⟨rfl, j, hj, rfl⟩ := hrel
    by_cases hjl : j < m
    · have hjI : (j : Int) < (m : Int) := by omega
      have hjb : j < 20 := by omega
      obtain ⟨x, hx⟩ : ∃ x, l[j]? = some x := ⟨_, List.getElem?_eq_getElem (by omega)⟩
      obtain ⟨b, off, rfl, hbl, y0, y1, y2⟩ := L1.out.cell3 j x hx rfl
      obtain ⟨nm, pp, aa⟩ := x
      simp only at y0 y1 y2
      have ho := Lib.hid (fun b => HO.out b wr b1.out)
      clear HO L1 hx hZ y1 y2 z4
      by_cases k4 : nm.size > 200
      · clear b1
        go_wp2
        exact ho.out _
      · clear ho
        go_wp2
        go_roundw
        case rel => exact ⟨(by first | trivial | rfl), j + 1, hjl, by go_num⟩
        case measure => simp [intOf]; omega
    · have hjm : j = m := by omega
      subst hjm
      have ho := Lib.hid (fun b => HO.out b wr b1.out)
      clear HO L1 hZ b1
      go_wp2
      exact ho.out _
/-- The example's configuration. -/
def aC : Cf := ⟨5, 10, 1, [⟨⟨#[97]⟩, 1, 0⟩], [], [⟨0, 5, 0⟩]⟩
theorem aC_ok : chk aC = 0 := by
  have g1 : hostOk aC := by unfold hostOk aC; decide
  have g2 : partsOk aC.parts := ⟨by decide, fun k p hk => by
    match k, hk with
    | 0, hk => injection hk with hk; subst hk; exact ⟨okN_a, by decide, fun j q hj => by omega⟩
    | k + 1, hk => simp [aC] at hk⟩
  have g3 : memOk aC.pages aC.parts := ⟨fun k p hk => by
    match k, hk with
    | 0, hk => injection hk with hk; subst hk; decide
    | k + 1, hk => simp [aC] at hk, by decide⟩
  have g4 : chansOk aC.parts.length aC.chans := ⟨by decide, fun k p hk => by simp [aC] at hk⟩
  have g5 : planOk aC := ⟨by decide, by decide, by decide, fun k p hk => by
    match k, hk with
    | 0, hk => injection hk with hk; subst hk; exact ⟨by decide, by decide, by decide, by decide⟩
    | k + 1, hk => simp [aC] at hk⟩
  show chkB _ _ _ _ _ = 0
  simp [chkB, g1, g2, g3, g4, g5]
theorem aC_wf : Wf aC := ⟨by decide, by decide, by decide, ⟨fun k p hk => by
    match k, hk with
    | 0, hk => injection hk with hk; subst hk; exact ⟨by decide, by decide⟩
    | k + 1, hk => simp [aC] at hk, fun k p hk => by
    match k, hk with
    | 0, hk => injection hk with hk; subst hk; exact ⟨by decide, by decide⟩
    | k + 1, hk => simp [aC] at hk⟩, by decide⟩
theorem aC_at (t : Int) (ht : okT t) : atV aC t = atL aC.wins (t % 10) := by unfold atV; rw [if_pos ⟨ht, aC_ok⟩]; rfl
theorem aC_10 : runV aC 10 = (0, false) := by
  unfold runV; rw [aC_at 10 (by unfold okT; decide)]; simp [aC, atL]
theorem aC_11 : runV aC 11 = (0, true) := by
  unfold runV; rw [aC_at 11 (by unfold okT; decide)]; simp [aC, atL]
theorem aC_20 : stepV aC 0 0 20 = 8 := by
  unfold stepV
  rw [if_pos ⟨by unfold okT; decide, by unfold okT; decide, by decide, aC_ok⟩]
  decide
/-- What is asked of a configuration of the call's own. -/
theorem Cb.cx {w0 w : World} {hb : Nat} {c : Cf} {v1 v2 v3 : Value} (C : Cb w0 w hb c v1 v2 v3) (wf : Wf c) : ∃ p1 c1 p2 c2 p3 c3, v1 = .slice p1 c.parts.length c1 ∧ v2 = .slice p2 c.chans.length c2 ∧ v3 = .slice p3 c.wins.length c3 ∧ Cx w w.heap.size c p1 c1 p2 c2 p3 c3 := by
  obtain ⟨p1, c1, p2, c2, p3, c3, e1, e2, e3, ⟨m1, -, -⟩, L1, L2, L3⟩ := C.lies
  exact ⟨p1, c1, p2, c2, p3, c3, e1, e2, e3, L1, L2, L3, wf, by unfold maxLen at m1; omega⟩
set_option maxHeartbeats 8000000 in
theorem alive15 (w : World) : Calls Try.prog 10 #[] w fun e w' => e = .returned (.bool true) ∧ Below w.heap.size w w' := by
  obtain ⟨r, hr⟩ : ∃ r : Ending → World → Prop, r = fun e w' => e = .returned (.bool true) ∧ Below w.heap.size w w' := ⟨_, rfl⟩
  rw [← hr]
  have HO := Lib.hid (fun u (b : Below w.heap.size w u) => (by rw [hr]; exact ⟨rfl, b⟩ : r (.returned (.bool true)) u))
  clear hr
  go_enter Try.func10, Try.ntmps10
  go_upto_region 2 with (go_at_call 22; (with_reducible refine (one_says _).mono ?_); rintro e wb ⟨g1, g3, rfl, hne, bb, o1, o3⟩)
  obtain ⟨hb, hhb⟩ : ∃ hb, wb.heap.size = hb := ⟨_, rfl⟩
  obtain ⟨wc, hwc⟩ : ∃ wc, wc = wb.alloc (.cells #[.int .i64 5, .int .i64 10, .int .i64 0, .slice (some ⟨g1, 0, none⟩) 1 1, .slice none 0 0, .slice (some ⟨g3, 0, none⟩) 1 1] 26) := ⟨_, rfl⟩
  have C0 := Lib.hid (show Cb w wc hb oneC (.slice (some ⟨g1, 0, none⟩) 1 1) (.slice none 0 0) (.slice (some ⟨g3, 0, none⟩) 1 1) by
    have l1 := o1.lt g1 rfl
    have l3 := o3.lt g3 rfl
    refine ⟨by rw [hwc]; exact bb.alloc bb.size _, by rw [← hhb]; exact bb.size, by rw [hwc, ← hhb]; exact heap_alloc_new _ _, ?_, ownS_nil _ _ _ _, ?_, ⟨fun e => ?_, fun e => (by cases e), fun e => ?_⟩, fun g => ⟨fun e => ⟨fun e2 => (by cases e2), fun e2 => ?_⟩, fun e => (by cases e)⟩⟩
    · rw [hwc]; exact ownS_below o1 (below_alloc _ _)
    · rw [hwc]; exact ownS_below o3 (below_alloc _ _)
    · have e' : g1 = hb := (by injection e)
      omega
    · have e' : g3 = hb := (by injection e)
      omega
    · have e' : g1 = g := (by injection e)
      have e2' : g3 = g := (by injection e2)
      exact hne (e'.trans e2'.symm))
  try rw [hhb]
  rw [← hwc]
  clear hwc hhb bb o1 o3 hne
  have z2 := C0.out.at 2 _ rfl
  have f2 := C0.out.fr 2
  go_upto_region 3 with fail
  have C1 := Lib.hid (C0.out.num { oneC with switch := 1 } 2 (i64 1) rfl rfl rfl rfl)
  obtain ⟨wd, hwd⟩ : ∃ wd, wd = wc.setCell ⟨hb, 2, none⟩ (i64 1) := ⟨_, rfl⟩
  rw [← hwd] at C1 ⊢
  clear hwd C0 z2 f2
  obtain ⟨g, q, hv, ff, cc, hput⟩ := C1.out.put3 (i := 0) (k := 1) (x := ⟨0, 10, 0⟩) rfl (by decide)
  have e3 : g3 = g := by injection hv with h1; injection h1 with h1; injection h1
  subst e3
  have z5 := C1.out.at 5 _ rfl
  have c1 := cc _ rfl
  have C2' : Cb w (wd.setCell ⟨g3, 1, none⟩ (i64 5)) hb aC (.slice (some ⟨g1, 0, none⟩) 1 1) (.slice none 0 0) (.slice (some ⟨g3, 0, none⟩) 1 1) := hput (i64 5) ⟨0, 5, 0⟩ rfl
  have C2 := Lib.hid C2'
  clear C2'
  clear hput cc hv C1
  have c1' : wd.cell? ⟨g3, 1, none⟩ = some (i64 10) := c1
  have ff' : wd.frozen? ⟨g3, 1, none⟩ = false := ff
  go_upto_region 4 with fail
  obtain ⟨we, hwe⟩ : ∃ we, we = wd.setCell ⟨g3, 1, none⟩ (i64 5) := ⟨_, rfl⟩
  rw [← hwe] at C2 ⊢
  clear hwe z5 c1 c1' ff ff'
  obtain ⟨q1, d1, q2, d2, q3, d3, e1, e2, e3, X⟩ := C2.out.cx aC_wf
  have hx := Lib.hid (fun (u : World) (hu : Below we.heap.size we u) => X.later hu (Nat.le_refl _) (Nat.le_refl _))
  have H1 := Lib.hid (fun (u : World) (hu : Below we.heap.size we u) => by have := runs_says (hx.out u hu) 10; rw [aC_10] at this; rw [cfV, ← e1, ← e2, ← e3] at this; exact this)
  have H2 := Lib.hid (fun (u : World) (hu : Below we.heap.size we u) => by have := runs_says (hx.out u hu) 11; rw [aC_11] at this; rw [cfV, ← e1, ← e2, ← e3] at this; exact this)
  have H3 := Lib.hid (fun (u : World) (hu : Below we.heap.size we u) => by have := steps_says (hx.out u hu) 0 0 20; rw [aC_20] at this; rw [cfV, ← e1, ← e2, ← e3] at this; exact this)
  have HZ := Lib.hid (fun (u : World) (hu : Below we.heap.size we u) (k : Nat) (v : Value) hv => (C2.out.kept hu).at k v hv)
  have HB := Lib.hid C2.out.b
  clear X hx C2 e1 e2 e3
  have z0 := HZ.out we (Below.refl _ _) 0 _ rfl
  have z1 := HZ.out we (Below.refl _ _) 1 _ rfl
  have z2 := HZ.out we (Below.refl _ _) 2 _ rfl
  have z3 := HZ.out we (Below.refl _ _) 3 _ rfl
  have z4 := HZ.out we (Below.refl _ _) 4 _ rfl
  have z5 := HZ.out we (Below.refl _ _) 5 _ rfl
  have h1 := Lib.hid (H1.out we (Below.refl _ _))
  go_upto_region 5 with (go_at_call 17; (with_reducible refine h1.out.mono ?_); rintro e wf ⟨rfl, hb1⟩)
  replace hb1 := Lib.hid hb1
  clear z0 z1 z2 z3 z4 z5 h1
  have z0 := HZ.out wf hb1.out 0 _ rfl
  have z1 := HZ.out wf hb1.out 1 _ rfl
  have z2 := HZ.out wf hb1.out 2 _ rfl
  have z3 := HZ.out wf hb1.out 3 _ rfl
  have z4 := HZ.out wf hb1.out 4 _ rfl
  have z5 := HZ.out wf hb1.out 5 _ rfl
  have h1 := Lib.hid (H2.out wf hb1.out)
  go_upto_region 6 with (go_at_call 17; (with_reducible refine h1.out.mono ?_); rintro e wg ⟨rfl, hb2⟩)
  replace hb2 := Lib.hid (hb1.out.trans (hb2.mono hb1.out.size))
  clear z0 z1 z2 z3 z4 z5 h1
  have z0 := HZ.out wg hb2.out 0 _ rfl
  have z1 := HZ.out wg hb2.out 1 _ rfl
  have z2 := HZ.out wg hb2.out 2 _ rfl
  have z3 := HZ.out wg hb2.out 3 _ rfl
  have z4 := HZ.out wg hb2.out 4 _ rfl
  have z5 := HZ.out wg hb2.out 5 _ rfl
  have h1 := Lib.hid (H3.out wg hb2.out)
  go_wp2_with (go_at_call 15; (with_reducible refine h1.out.mono ?_); rintro e wi ⟨rfl, hb3⟩)
  exact HO.out _ (HB.out.trans ((hb2.out.trans (hb3.mono hb2.out.size)).mono HB.out.size))
end Go.Proofs.Ytnglmiihlpjelaa.Cfg
