
/-
  Package frames: First.
-/
import Derived.Test.YtlddclkophajbaaFrmMath
import Derived.Test.YtlddclkophajbaaPlnA
import Derived.Deep.QuietTactic
import Derived.BigQuiet
set_option maxRecDepth 100000
set_option linter.unusedVariables false
namespace Go.Proofs.Ytlddclkophajbaa.Cfg
open Go.Proofs.Ytlddclkophajbaa
open Go.ChangeShapes Go.WideShapes Go.ChangeAt Go.RowKit
set_option maxHeartbeats 8000000 in
theorem first_says {w : World} {c : Cf} {p1 : Option Addr} {c1 : Nat} {p2 : Option Addr} {c2 : Nat} {p3 : Option Addr} {c3 : Nat} (X : Cx w w.heap.size c p1 c1 p2 c2 p3 c3) (part : Int) :
    Calls Try.prog 12 #[cfV c p1 c1 p2 c2 p3 c3, i64 part] w fun e w' => e = .returned (i64 (firstV c part)) ∧ Below w.heap.size w w' := by
  obtain ⟨p, hp⟩ : ∃ p : Ending → World → Prop, p = fun e w' => e = .returned (i64 (firstV c part)) ∧ Below w.heap.size w w' := ⟨_, rfl⟩
  rw [← hp]
  have HO := Lib.hid (fun w' (hw : Below w.heap.size w w') => (by rw [hp]; exact ⟨rfl, hw⟩ : p (.returned (i64 (firstV c part))) w'))
  clear hp
  obtain ⟨h, hhz⟩ : ∃ h, w.heap.size = h := ⟨_, rfl⟩
  rw [hhz] at HO
  have h1 := Lib.hid (fun (g : okA c part) w' (hw : Below h w w') => (by have := HO.out w' hw; unfold firstV at this; rw [if_pos g] at this; exact this : p (.returned (i64 (4 + sumTo c.parts part.toNat))) w'))
  have h0 := Lib.hid (fun (g : ¬ okA c part) w' (hw : Below h w w') => (by have := HO.out w' hw; unfold firstV at this; rw [if_neg g] at this; exact this : p (.returned (i64 (-1))) w'))
  clear HO
  have HI := Lib.hid (fun (u : World) (hu : Below h w u) => check_cx (X.later hu (Nat.le_of_eq hhz) (by omega)))
  have hvd := Lib.hid (fun (g : chk c = 0) => hd_of g)
  have vp := Lib.hid (fun (g : chk c = 0) (k : Nat) (x : Pt) (hx : c.parts[k]? = some x) => (hd_of g).at hx)
  have hln := Lib.hid (fun (g : chk c = 0) => (hd_of g).ln)
  have hpg := Lib.hid (fun (g : chk c = 0) => (hd_of g).pg)
  have hsm := Lib.hid (fun (g : chk c = 0) (k : Nat) (hk : k ≤ c.parts.length) => (hd_of g).sum hk)
  obtain ⟨kk, hkk⟩ : ∃ kk, chk c = kk := ⟨_, rfl⟩
  clear hvd
  simp only [okA, hkk] at h1 h0 HI vp hln hpg hsm
  clear hkk
  have L1 := Lib.hid (hhz ▸ X.L1)
  obtain ⟨l, hl⟩ : ∃ l, c.parts = l := ⟨_, rfl⟩
  simp only [cfV, hl] at h1 h0 HI vp hln hpg hsm L1 ⊢
  obtain ⟨pg, qpg⟩ : ∃ pg, c.pages = pg := ⟨_, rfl⟩
  obtain ⟨mj, qmj⟩ : ∃ mj, c.major = mj := ⟨_, rfl⟩
  obtain ⟨sw, qsw⟩ : ∃ sw, c.switch = sw := ⟨_, rfl⟩
  obtain ⟨m, qm⟩ : ∃ m, l.length = m := ⟨_, rfl⟩
  obtain ⟨n2, qn2⟩ : ∃ n2, c.chans.length = n2 := ⟨_, rfl⟩
  obtain ⟨n3, qn3⟩ : ∃ n3, c.wins.length = n3 := ⟨_, rfl⟩
  simp only [qpg, qmj, qsw, qn2, qn3, qm] at h1 h0 HI vp hln hpg hsm L1
  simp only [qpg, qmj, qsw, qn2, qn3, qm]
  have hlm := qm
  clear qpg qmj qsw qm qn2 qn3 hl X
  obtain ⟨w1, hw1⟩ : ∃ w1, w1 = w.alloc (.cells #[i64 pg, i64 mj, i64 sw, .slice p1 m c1, .slice p2 n2 c2, .slice p3 n3 c3] 26) := ⟨_, rfl⟩
  have b1 := Lib.hid (by rw [hw1]; exact (Below.refl _ _).alloc (Nat.le_of_eq hhz.symm) _ : Below h w w1)
  have hg1 : w1.heap.size = h + 1 := by rw [hw1, ← hhz]; simp
  have hZ := Lib.hid (fun k v hv => by
    rw [hw1, ← hhz, cell_of_row _ _ k _ _ _ (heap_alloc_new _ _), ← Array.getElem?_toList]; exact hv : ∀ (k : Nat) (v : Value), [i64 pg, i64 mj, i64 sw, Value.slice p1 m c1, .slice p2 n2 c2, .slice p3 n3 c3][k]? = some v → w1.cell? ⟨h, k, none⟩ = some v)
  go_enter Try.func12, Try.ntmps12
  go_upto_region 1 with fail
  try simp only [hhz]
  rw [← hw1]
  clear hw1
  have hS := Lib.hid (fun u (b : Below (h + 1) w1 u) => (by
    have hZ2 := fun k v hv => (World.cell?_of_block (b.block h (Nat.lt_succ_self _))).trans (hZ.out k v hv)
    exact ⟨b, hZ2 0 _ rfl, hZ2 1 _ rfl, hZ2 2 _ rfl, hZ2 3 _ rfl, hZ2 4 _ rfl, hZ2 5 _ rfl⟩ : (fun u => Below (h + 1) w1 u ∧ u.cell? ⟨h, 0, none⟩ = some (i64 pg) ∧ u.cell? ⟨h, 1, none⟩ = some (i64 mj) ∧ u.cell? ⟨h, 2, none⟩ = some (i64 sw) ∧ u.cell? ⟨h, 3, none⟩ = some (.slice p1 m c1) ∧ u.cell? ⟨h, 4, none⟩ = some (.slice p2 n2 c2) ∧ u.cell? ⟨h, 5, none⟩ = some (.slice p3 n3 c3)) u))
  have HBB := Lib.hid (fun u (hu : Below (h + 1) w1 u) => b1.out.trans (hu.mono (Nat.le_succ _)))
  obtain ⟨-, z0, z1, z2, z3, z4, z5⟩ := hS.out w1 (Below.refl _ _)
  replace L1 := Lib.hid (L1.out.kept b1.out (Nat.le_refl _))
  clear hZ
  have hi := HI.out w1 b1.out
  rw [hg1] at hi
  replace hi := Lib.hid hi
  clear HI
  by_cases g : kk = 0 ∧ 0 ≤ part ∧ part < (m : Int)
  · obtain ⟨rfl, g0, g1⟩ := g
    have hr := Lib.hid (fun w' hw => h1.out ⟨rfl, g0, g1⟩ w' hw)
    have hv := Lib.hid (vp.out rfl)
    have hl8 := hln.out rfl
    have hs := Lib.hid (hsm.out rfl)
    clear h1 h0 vp hln hpg hsm
    go_upto_region 3 with (go_at_call 17; (with_reducible refine hi.out.mono ?_); rintro e w2 ⟨rfl, hb⟩; have hw2 := Lib.hid hb; clear hb; obtain ⟨-, y0, y1, y2, y3, y4, y5⟩ := hS.out w2 hw2.out)
    clear z0 z1 z2 z3 z4 z5 hi
    go_wp2
    go_loopw [5, 6, 22] (fun s _ i wr => Below (h + 1) w1 wr ∧ ∃ j : Nat, (j : Int) ≤ part ∧ i = .int .i64 j ∧ ∃ a : Int, s = .int .i64 a ∧ 4 ≤ a ∧ a ≤ 516 ∧ a = 4 + sumTo l j) (fun s _ i _ => part.toNat - (intOf i).toNat)
    case atStart => exact ⟨hw2.out, 0, by omega, rfl, 4, rfl, by omega, by omega, by rw [sumTo_zero]; omega⟩
    case round =>
      obtain ⟨b2, j, hj, rfl, a, rfl, ha0, ha1, ha⟩ := hrel
      by_cases hjl : (j : Int) < part
      · have hjm : (j : Int) < (m : Int) := by omega
        have hjb : j < 8 := by omega
        obtain ⟨x, hx⟩ : ∃ x, l[j]? = some x := ⟨_, List.getElem?_eq_getElem (by omega)⟩
        obtain ⟨b, off, rfl, hbl, v0, v1, v2⟩ := (L1.out.kept b2 (Nat.le_succ _)).cell3 j x hx rfl
        have hx0 := hv.out j x hx
        have hs1 := hs.out (j + 1) (by omega)
        have hs2 := sumTo_succ l j x hx
        obtain ⟨sj, hsj⟩ : ∃ sj, sumTo l (j + 1) = sj := ⟨_, rfl⟩
        rw [hsj] at hs1 hs2
        obtain ⟨nm, y, ac⟩ := x
        simp only at hx0 v0 v1 v2 hs2
        rw [hs2] at hs1
        have hk := Lib.hid (by rw [hs2]; omega : a + y = 4 + sj)
        have e1 : IntKind.i64.wrap (a + y) = a + y := by rw [IntKind.wrap_i64]; omega
        have hb4 := Lib.hid (by omega : 4 ≤ a + y ∧ a + y ≤ 516)
        have hb2 := Lib.hid b2
        obtain ⟨-, z0, z1, z2, z3, z4, z5⟩ := hS.out wr b2
        clear hx hs hv hs1 hs2 ha b2 hS hr HBB y0 y1 y2 y3 y4 y5
        go_wp2
        go_roundw
        case rel => exact ⟨hb2.out, j + 1, by omega, by go_num, _, rfl, hb4.out.1, hb4.out.2, by rw [hsj]; exact hk.out⟩
        case measure => simp [intOf]; omega
      · have hjp : part = (j : Int) := by omega
        subst hjp
        have ho := Lib.hid (by have := hr.out wr (HBB.out _ b2); rw [Int.toNat_natCast, ← ha] at this; exact this : p (.returned (i64 a)) wr)
        clear hr hs hv ha b2 hS L1 HBB y0 y1 y2 y3 y4 y5
        go_wp2
        exact ho.out
  · have hr := Lib.hid (fun w' hw => h0.out g w' hw)
    clear h1 h0 vp hln hpg hsm L1
    by_cases k0 : kk = 0
    · subst k0
      by_cases k1 : part < 0
      · clear g
        go_wp2_with (go_at_call 17; (with_reducible refine hi.out.mono ?_); rintro e w2 ⟨rfl, hb⟩; have hw2 := Lib.hid hb; clear hb; obtain ⟨-, y0, y1, y2, y3, y4, y5⟩ := hS.out w2 hw2.out)
        exact hr.out _ (HBB.out _ hw2.out)
      · have k2 : (m : Int) ≤ part := by omega
        clear g
        go_wp2_with (go_at_call 17; (with_reducible refine hi.out.mono ?_); rintro e w2 ⟨rfl, hb⟩; have hw2 := Lib.hid hb; clear hb; obtain ⟨-, y0, y1, y2, y3, y4, y5⟩ := hS.out w2 hw2.out)
        exact hr.out _ (HBB.out _ hw2.out)
    · have k3 : (kk != 0) = true := by simpa using k0
      clear g
      go_wp2_with (go_at_call 17; (with_reducible refine hi.out.mono ?_); rintro e w2 ⟨rfl, hb⟩; have hw2 := Lib.hid hb; clear hb; obtain ⟨-, y0, y1, y2, y3, y4, y5⟩ := hS.out w2 hw2.out)
      exact hr.out _ (HBB.out _ hw2.out)
end Go.Proofs.Ytlddclkophajbaa.Cfg
