/-
  Package plan: At.
-/
import Derived.Test.YtnglmiihlpjelaaPlnE
set_option maxRecDepth 100000
set_option linter.unusedVariables false
namespace Go.Proofs.Ytnglmiihlpjelaa.Cfg
open Go.Proofs.Ytnglmiihlpjelaa
open Go.ChangeShapes Go.WideShapes Go.ChangeAt Go.RowKit
set_option maxHeartbeats 8000000 in
theorem at_says {w : World} {c : Cf} {p1 : Option Addr} {c1 : Nat} {p2 : Option Addr} {c2 : Nat} {p3 : Option Addr} {c3 : Nat} (X : Cx w w.heap.size c p1 c1 p2 c2 p3 c3) (t : Int) :
    Calls Try.prog 13 #[cfV c p1 c1 p2 c2 p3 c3, i64 t] w fun e w' => e = .returned (.tuple #[i64 (atV c t).1, i64 (atV c t).2]) ∧ Below w.heap.size w w' := by
  obtain ⟨p, hp⟩ : ∃ p : Ending → World → Prop, p = fun e w' => e = .returned (.tuple #[i64 (atV c t).1, i64 (atV c t).2]) ∧ Below w.heap.size w w' := ⟨_, rfl⟩
  rw [← hp]
  have HO := Lib.hid (fun w' (hw : Below w.heap.size w w') => (by rw [hp]; exact ⟨rfl, hw⟩ : p (.returned (.tuple #[i64 (atV c t).1, i64 (atV c t).2])) w'))
  clear hp
  obtain ⟨h, hhz⟩ : ∃ h, w.heap.size = h := ⟨_, rfl⟩
  rw [hhz] at HO
  have h1 := Lib.hid (fun (g : okT t ∧ chk c = 0) (a b : Int) (hab : atL c.wins (t % c.major) = (a, b)) w' (hw : Below h w w') => (by have := HO.out w' hw; unfold atV at this; rw [if_pos g, hab] at this; exact this : p (.returned (.tuple #[i64 a, i64 b])) w'))
  have h0 := Lib.hid (fun (g : ¬ (okT t ∧ chk c = 0)) w' (hw : Below h w w') => (by have := HO.out w' hw; unfold atV at this; rw [if_neg g] at this; exact this : p (.returned (.tuple #[i64 (-1), i64 0])) w'))
  clear HO
  have HI := Lib.hid (fun (u : World) (hu : Below h w u) => asked1 (X.later hu (Nat.le_of_eq hhz) (by omega)) t)
  have hvd := Lib.hid (fun (g : chk c = 0) => And.intro (vd_of g).mj (vd_of g).sw)
  have vw := Lib.hid (fun (g : chk c = 0) (k : Nat) (x : Wn) (hx : c.wins[k]? = some x) => (vd_of g).at hx)
  have hln := Lib.hid (fun (g : chk c = 0) => (vd_of g).ln)
  have L3 := Lib.hid (hhz ▸ X.L3)
  obtain ⟨kk, hkk⟩ : ∃ kk, chk c = kk := ⟨_, rfl⟩
  simp only [hkk] at h1 h0 HI hvd vw hln
  obtain ⟨l, hl⟩ : ∃ l, c.wins = l := ⟨_, rfl⟩
  simp only [cfV, hl] at h1 HI vw L3 hln ⊢
  clear X hkk
  obtain ⟨pg, qpg⟩ : ∃ pg, c.pages = pg := ⟨_, rfl⟩
  obtain ⟨mj, qmj⟩ : ∃ mj, c.major = mj := ⟨_, rfl⟩
  obtain ⟨sw, qsw⟩ : ∃ sw, c.switch = sw := ⟨_, rfl⟩
  obtain ⟨n1, qn1⟩ : ∃ n1, c.parts.length = n1 := ⟨_, rfl⟩
  obtain ⟨n2, qn2⟩ : ∃ n2, c.chans.length = n2 := ⟨_, rfl⟩
  obtain ⟨m, qm⟩ : ∃ m, l.length = m := ⟨_, rfl⟩
  simp only [qpg, qmj, qsw, qn1, qn2, qm] at h1 HI vw L3 hln hvd
  simp only [qpg, qmj, qsw, qn1, qn2, qm]
  have hlm := qm
  clear qpg qmj qsw qn1 qn2 qm hl
  obtain ⟨w1, hw1⟩ : ∃ w1, w1 = w.alloc (.cells #[i64 pg, i64 mj, i64 sw, .slice p1 n1 c1, .slice p2 n2 c2, .slice p3 m c3] 26) := ⟨_, rfl⟩
  have b1 := Lib.hid (by rw [hw1]; exact (Below.refl _ _).alloc (Nat.le_of_eq hhz.symm) _ : Below h w w1)
  have hg1 : w1.heap.size = h + 1 := by rw [hw1, ← hhz]; simp
  have hZ := Lib.hid (fun k v hv => by
    rw [hw1, ← hhz, cell_of_row _ _ k _ _ _ (heap_alloc_new _ _), ← Array.getElem?_toList]; exact hv : ∀ (k : Nat) (v : Value), [i64 pg, i64 mj, i64 sw, Value.slice p1 n1 c1, .slice p2 n2 c2, .slice p3 m c3][k]? = some v → w1.cell? ⟨h, k, none⟩ = some v)
  go_enter Try.func13, Try.ntmps13
  go_upto_region 1 with fail
  try simp only [hhz]
  rw [← hw1]
  clear hw1
  have hS := Lib.hid (fun u (b : Below (h + 1) w1 u) => (by
    have hZ2 := fun k v hv => (World.cell?_of_block (b.block h (Nat.lt_succ_self _))).trans (hZ.out k v hv)
    exact ⟨b, hZ2 0 _ rfl, hZ2 1 _ rfl, hZ2 2 _ rfl, hZ2 3 _ rfl, hZ2 4 _ rfl, hZ2 5 _ rfl⟩ : (fun u => Below (h + 1) w1 u ∧ u.cell? ⟨h, 0, none⟩ = some (i64 pg) ∧ u.cell? ⟨h, 1, none⟩ = some (i64 mj) ∧ u.cell? ⟨h, 2, none⟩ = some (i64 sw) ∧ u.cell? ⟨h, 3, none⟩ = some (.slice p1 n1 c1) ∧ u.cell? ⟨h, 4, none⟩ = some (.slice p2 n2 c2) ∧ u.cell? ⟨h, 5, none⟩ = some (.slice p3 m c3)) u))
  have z0 := hZ.out 0 _ rfl
  have z1 := hZ.out 1 _ rfl
  have z2 := hZ.out 2 _ rfl
  have z3 := hZ.out 3 _ rfl
  have z4 := hZ.out 4 _ rfl
  have z5 := hZ.out 5 _ rfl
  have bt : Below h w (w1.alloc (.cells #[i64 t] 3)) := b1.out.alloc (by omega) _
  have hg2 : (w1.alloc (.cells #[i64 t] 3)).heap.size = h + 1 + 1 := by simp [hg1]
  replace bt := Lib.hid bt
  replace hg2 := Lib.hid hg2
  by_cases g : okT t ∧ kk = 0
  · obtain ⟨g0, rfl⟩ := g
    have hi := HI.out w1 b1.out true ⟨fun _ => ⟨g0, rfl⟩, fun _ => rfl⟩
    rw [hg1] at hi
    replace hi := Lib.hid hi
    obtain ⟨hmj, hsw⟩ := hvd.out rfl
    have hl32 := hln.out rfl
    have hg0 := g0
    unfold okT at hg0
    obtain ⟨u, hu⟩ : ∃ u, t % mj = u := ⟨_, rfl⟩
    have hu0 : 0 ≤ u := by rw [← hu]; exact Int.emod_nonneg _ (by omega)
    have hu1 : u < mj := by rw [← hu]; exact Int.emod_lt_of_pos _ (by omega)
    have eu1 : t.tmod mj = u := by rw [← hu, Int.tmod_eq_emod_of_nonneg g0.1]
    have hr := Lib.hid (fun a b hab w' hw => h1.out ⟨g0, rfl⟩ a b hab w' hw)
    rw [hu] at hr
    replace hu := Lib.hid hu
    replace eu1 := Lib.hid eu1
    have hv2 := Lib.hid (fun k x hx => vw.out rfl k x hx)
    have hmz : ¬ mj = 0 := by omega
    clear h1 h0 HI hvd hln vw
    go_upto_region 3 with (go_at_call 24; (with_reducible refine hi.out.mono ?_); rintro e w2 ⟨rfl, hb⟩; have hw2 := Lib.hid (((below_alloc w1 _).mono (Nat.le_of_eq hg1.symm)).trans (hb.mono (by have := hg2.out; omega))); clear hb)
    have hs2 := hS.out w2 hw2.out
    obtain ⟨-, z0, z1, z2, z3, z4, z5⟩ := hs2
    replace L3 := Lib.hid (L3.out.kept b1.out (Nat.le_refl _))
    go_upto_region 4 with fail
    (try rw [eu1.out]); (try rw [hu.out])
    go_wp2
    go_loopw [8, 21] (fun _ i wr => Below (h + 1) w1 wr ∧ ∃ j : Nat, j ≤ m ∧ i = .int .i64 j ∧ atL l u = atL (l.drop j) u) (fun _ i _ => m - (intOf i).toNat)
    case atStart => exact ⟨hw2.out, 0, Nat.zero_le _, rfl, rfl⟩
    case round =>
      obtain ⟨b2, j, hj, rfl, hk⟩ := hrel
      by_cases hjl : j < m
      · have hjI : (j : Int) < (m : Int) := by omega
        have hjb : j < 32 := by omega
        obtain ⟨x, hx⟩ : ∃ x, l[j]? = some x := ⟨_, List.getElem?_eq_getElem (by omega)⟩
        obtain ⟨b, off, rfl, hbl, y0, y1, y2⟩ := (L3.out.kept b2 (Nat.le_succ _)).cell3 j x hx rfl
        have hd := atL_drop hx u
        obtain ⟨hx0, hx1, hx2, hx3⟩ := hv2.out j x hx
        obtain ⟨st, ln, pt⟩ := x
        simp only at hx0 hx1 hx2 hx3 y0 y1 y2 hd
        rw [hd] at hk
        replace hk := Lib.hid hk
        replace b2 := Lib.hid b2
        have z5 := (World.cell?_of_block (b2.out.block h (Nat.lt_succ_self _))).trans (hZ.out 5 _ rfl)
        clear hd L3 hx hv2 z0 z1 z2 z3 z4 hS
        go_upto_region 7 with fail
        obtain ⟨w2, hw2⟩ : ∃ w2, w2 = wr.alloc (.cells #[i64 st, i64 ln, i64 pt] 40) := ⟨_, rfl⟩
        have b3 := Lib.hid (by rw [hw2]; exact b2.out.alloc (by have := b2.out.size; omega) _ : Below (h + 1) w1 w2)
        obtain ⟨g, hg⟩ : ∃ g, wr.heap.size = g := ⟨_, rfl⟩
        have v0 : w2.cell? ⟨g, 0, none⟩ = some (i64 st) := by rw [hw2, ← hg]; rw [cell_of_row _ _ 0 _ _ _ (heap_alloc_new _ _)]; rfl
        have v1 : w2.cell? ⟨g, 1, none⟩ = some (i64 ln) := by rw [hw2, ← hg]; rw [cell_of_row _ _ 1 _ _ _ (heap_alloc_new _ _)]; rfl
        have v2 : w2.cell? ⟨g, 2, none⟩ = some (i64 pt) := by rw [hw2, ← hg]; rw [cell_of_row _ _ 2 _ _ _ (heap_alloc_new _ _)]; rfl
        have hZ3 := Lib.hid (fun k v hv => (World.cell?_of_block (b3.out.block h (Nat.lt_succ_self _))).trans (hZ.out k v hv))
        have z0 := hZ3.out 0 _ rfl
        have z1 := hZ3.out 1 _ rfl
        have z2 := hZ3.out 2 _ rfl
        have z5 := hZ3.out 5 _ rfl
        try rw [hg]
        rw [← hw2]
        clear hw2 hg y0 y1 y2 hZ3
        have hbb := Lib.hid (b1.out.trans (b3.out.mono (Nat.le_succ _)))
        have hnx := Lib.hid (fun (g : ¬ (st ≤ u ∧ u < st + ln)) => (by have := hk.out; rw [if_neg g] at this; exact this : atL l u = atL (l.drop (j + 1)) u))
        have hys := Lib.hid (fun (g : st ≤ u ∧ u < st + ln) w' hw => hr.out pt (u - st) (by have := hk.out; rw [if_pos g] at this; exact this) w' hw)
        have e1 : IntKind.i64.wrap (st + ln) = st + ln := by rw [IntKind.wrap_i64]; omega
        have e2 : IntKind.i64.wrap (u - st) = u - st := by rw [IntKind.wrap_i64]; omega
        clear hr hk hZ b1 b2
        by_cases k1 : st ≤ u
        · by_cases k2 : u < st + ln
          · have ho := Lib.hid (hys.out ⟨k1, k2⟩ _ (hbb.out.drew))
            clear hys hnx hbb b3
            go_wp2
            go_region
            go_wp2
            exact ho.out
          · have ho := Lib.hid (hnx.out (fun g => k2 g.2))
            clear hys hnx hbb
            go_wp2
            go_roundw
            case rel => exact ⟨b3.out, j + 1, hjl, by go_num, ho.out⟩
            case measure => simp [intOf]; omega
        · have ho := Lib.hid (hnx.out (fun g => k1 g.1))
          clear hys hnx hbb
          go_wp2
          go_roundw
          case rel => exact ⟨b3.out, j + 1, hjl, by go_num, ho.out⟩
          case measure => simp [intOf]; omega
      · have hjm : j = m := by omega
        subst hjm
        rw [drop_end (by omega)] at hk
        have b2' := Lib.hid (b1.out.trans (b2.mono (Nat.le_succ _)))
        have ho := Lib.hid (hr.out (-1) 0 hk wr b2'.out)
        have z5 := (World.cell?_of_block (b2.block h (Nat.lt_succ_self _))).trans (hZ.out 5 _ rfl)
        clear hr hk b2 b2' L3 hv2 hZ hS b1 z0 z1 z2 z3 z4
        go_wp2
        exact ho.out
  · have hi := HI.out w1 b1.out false ⟨fun x => (by cases x), fun x => absurd x g⟩
    rw [hg1] at hi
    replace hi := Lib.hid hi
    have hr := Lib.hid (fun w' hw => h0.out g w' hw)
    clear h1 h0 hS hZ HI hvd vw hln L3
    go_wp2_with (go_at_call 24; (with_reducible refine hi.out.mono ?_); rintro e w2 ⟨rfl, hb⟩)
    exact hr.out _ (bt.out.trans (hb.mono (by have := hg2.out; omega)))
end Go.Proofs.Ytnglmiihlpjelaa.Cfg
