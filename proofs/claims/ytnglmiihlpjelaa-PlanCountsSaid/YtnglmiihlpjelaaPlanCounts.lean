/-
  The steps that are told are those that are there, tick by tick, and the next step is the first one (law PlanCounts returns true, and each argument reads as it read).
  No condition: whatever the arguments are.
-/
import Derived.Test.YtnglmiihlpjelaaPlnO
import Derived.Test.YtnglmiihlpjelaaPlnP
import Derived.Test.YtnglmiihlpjelaaPlnL
import Derived.Test.YtnglmiihlpjelaaPlnQ
namespace Go.Proofs.Ytnglmiihlpjelaa.planCounts
open Go.Proofs.Ytnglmiihlpjelaa Go.Proofs.Ytnglmiihlpjelaa.Cfg
open Go.ChangeShapes Go.WideShapes Go.ChangeAt Go.RowKit
set_option maxRecDepth 100000
set_option linter.unusedVariables false

set_option maxHeartbeats 8000000 in
theorem walk (W : World) {c0 : Cf} {p1_0 : Option Addr} {k1_0 : Nat} {p2_0 : Option Addr} {k2_0 : Nat} {p3_0 : Option Addr} {k3_0 : Nat} (X0 : Cx W W.heap.size c0 p1_0 k1_0 p2_0 k2_0 p3_0 k3_0) (x1 : Int) (w1 : (Lit.int .i64 x1).wf = true) (x2 : Int) (w2 : (Lit.int .i64 x2).wf = true) (x3 : Int) (w3 : (Lit.int .i64 x3).wf = true) :
    Calls Try.prog 7 #[cfV c0 p1_0 k1_0 p2_0 k2_0 p3_0 k3_0, i64 x1, i64 x2, i64 x3] W fun e w' => e = .returned (.bool true) ∧ Below W.heap.size W w' := by
  obtain ⟨r, hr⟩ : ∃ r : Ending → World → Prop, r = fun e w' => e = .returned (.bool true) ∧ Below W.heap.size W w' := ⟨_, rfl⟩
  rw [← hr]
  obtain ⟨h, hhz⟩ : ∃ h, W.heap.size = h := ⟨_, rfl⟩
  have HO := Lib.hid (fun u (b : Below h W u) => (by rw [hr]; exact ⟨rfl, hhz ▸ b⟩ : r (.returned (.bool true)) u))
  clear hr
  have hx := Lib.hid (fun (u : World) (hu : Below h W u) => X0.later hu (Nat.le_of_eq hhz) (by omega))
  have HG := Lib.hid (fun (u : World) (hu : Below h W u) => big_says (hx.out u hu))
  have HK := Lib.hid (fun (u : World) (hu : Below h W u) => rcheck_cx (hx.out u hu))
  have hvd := Lib.hid (fun (g : chk c0 = 0) => vd_of g)
  have HR := Lib.hid (fun (u : World) (hu : Below h W u) (t : Int) => runs_says (hx.out u hu) t)
  have HN := Lib.hid (fun (u : World) (hu : Below h W u) => next_says (hx.out u hu) x1 x2)
  have HU := Lib.hid (fun (u : World) (hu : Below h W u) => steps_says (hx.out u hu) x1 x2 (x2 + x3))
  have hD := Lib.hid (fun (g : chk c0 = 0) (h1 : 0 ≤ x2) (h2 : x2 ≤ 274877906944) (N : Nat) (h3 : N ≤ 300) (h4 : x3 = (N : Int)) => counts_facts g x1 h1 h2 h3 h4)
  obtain ⟨R, hR⟩ : ∃ R, runV c0 = R := ⟨_, rfl⟩
  obtain ⟨nv, hnv⟩ : ∃ nv, nextV c0 x1 x2 = nv := ⟨_, rfl⟩
  obtain ⟨sv, hsv⟩ : ∃ sv, stepV c0 x1 x2 (x2 + x3) = sv := ⟨_, rfl⟩
  obtain ⟨kk, hkk⟩ : ∃ kk, chk c0 = kk := ⟨_, rfl⟩
  obtain ⟨v, so⟩ := nv
  simp only [hR, hnv, hsv, hkk] at HR HN HU HK hD
  clear hR hnv hsv hkk hvd
  obtain ⟨pg, qpg⟩ : ∃ pg, c0.pages = pg := ⟨_, rfl⟩
  obtain ⟨mj, qmj⟩ : ∃ mj, c0.major = mj := ⟨_, rfl⟩
  obtain ⟨sw, qsw⟩ : ∃ sw, c0.switch = sw := ⟨_, rfl⟩
  obtain ⟨n1, qn1⟩ : ∃ n1, c0.parts.length = n1 := ⟨_, rfl⟩
  obtain ⟨n2, qn2⟩ : ∃ n2, c0.chans.length = n2 := ⟨_, rfl⟩
  obtain ⟨m, qm⟩ : ∃ m, c0.wins.length = m := ⟨_, rfl⟩
  simp only [cfV, qpg, qmj, qsw, qn1, qn2, qm] at HG HR HN HU HK
  simp only [cfV, qpg, qmj, qsw, qn1, qn2, qm]
  clear hx
  obtain ⟨w1, hw1⟩ : ∃ w1, w1 = W.alloc (.cells #[i64 pg, i64 mj, i64 sw, .slice p1_0 n1 k1_0, .slice p2_0 n2 k2_0, .slice p3_0 m k3_0] 26) := ⟨_, rfl⟩
  have b1 := Lib.hid (by rw [hw1]; exact (Below.refl _ _).alloc (Nat.le_of_eq hhz.symm) _ : Below h W w1)
  have hg1 : w1.heap.size = h + 1 := by rw [hw1, ← hhz]; simp
  have hZ := Lib.hid (fun k v hv => by
    rw [hw1, ← hhz, cell_of_row _ _ k _ _ _ (heap_alloc_new _ _), ← Array.getElem?_toList]; exact hv : ∀ (k : Nat) (v : Value), [i64 pg, i64 mj, i64 sw, Value.slice p1_0 n1 k1_0, .slice p2_0 n2 k2_0, .slice p3_0 m k3_0][k]? = some v → w1.cell? ⟨h, k, none⟩ = some v)
  have hS := Lib.hid (fun u (b : Below (h + 1) w1 u) => (by
    have hZ2 := fun k v hv => (World.cell?_of_block (b.block h (Nat.lt_succ_self _))).trans (hZ.out k v hv)
    exact ⟨b, hZ2 0 _ rfl, hZ2 1 _ rfl, hZ2 2 _ rfl, hZ2 3 _ rfl, hZ2 4 _ rfl, hZ2 5 _ rfl⟩ : (fun u => Below (h + 1) w1 u ∧ u.cell? ⟨h, 0, none⟩ = some (i64 pg) ∧ u.cell? ⟨h, 1, none⟩ = some (i64 mj) ∧ u.cell? ⟨h, 2, none⟩ = some (i64 sw) ∧ u.cell? ⟨h, 3, none⟩ = some (.slice p1_0 n1 k1_0) ∧ u.cell? ⟨h, 4, none⟩ = some (.slice p2_0 n2 k2_0) ∧ u.cell? ⟨h, 5, none⟩ = some (.slice p3_0 m k3_0)) u))
  have HBB := Lib.hid (fun u (hu : Below (h + 1) w1 u) => b1.out.trans (hu.mono (Nat.le_succ _)))
  clear hZ
  go_enter Try.func7, Try.ntmps7
  go_upto_region 1 with fail
  try simp only [hhz]
  rw [← hw1]
  clear hw1
  go_upto_region 2 with (go_at_call 10; (with_reducible refine (alive15 _).mono ?_); rintro e w2 ⟨rfl, hb⟩; have hw2 := Lib.hid (hb.mono (Nat.le_of_eq hg1.symm)); clear hb)
  obtain ⟨-, z0, z1, z2, z3, z4, z5⟩ := hS.out w2 hw2.out
  have hc := Lib.hid (HG.out w2 (HBB.out _ hw2.out))
  go_upto_region 3 with (go_at_call 11; (with_reducible refine hc.out.mono ?_); rintro e w3 ⟨big, rfl, hb⟩; have hw3 := Lib.hid (hw2.out.trans (hb.mono (by have := hw2.out.size; omega))); clear hb)
  clear z0 z1 z2 z3 z4 z5 hc HG
  obtain ⟨-, z0, z1, z2, z3, z4, z5⟩ := hS.out w3 hw3.out
  cases big with
  | true =>
    go_wp2
    exact HO.out _ (HBB.out _ hw3.out)
  | false =>
    have hc := Lib.hid (HK.out w3 (HBB.out _ hw3.out))
    by_cases hk : kk = 0
    · subst hk
      by_cases q0 : x2 < 0
      · go_wp2_with (go_at_call 12; (with_reducible refine hc.out.mono ?_); rintro e w4 ⟨rfl, hb⟩)
        exact HO.out _ (HBB.out _ (hw3.out.trans (hb.mono (by have := hw3.out.size; omega))))
      by_cases q1 : x2 > 274877906944
      · go_wp2_with (go_at_call 12; (with_reducible refine hc.out.mono ?_); rintro e w4 ⟨rfl, hb⟩)
        exact HO.out _ (HBB.out _ (hw3.out.trans (hb.mono (by have := hw3.out.size; omega))))
      by_cases q2 : x3 < 0
      · go_wp2_with (go_at_call 12; (with_reducible refine hc.out.mono ?_); rintro e w4 ⟨rfl, hb⟩)
        exact HO.out _ (HBB.out _ (hw3.out.trans (hb.mono (by have := hw3.out.size; omega))))
      by_cases q3 : x3 > 300
      · go_wp2_with (go_at_call 12; (with_reducible refine hc.out.mono ?_); rintro e w4 ⟨rfl, hb⟩)
        exact HO.out _ (HBB.out _ (hw3.out.trans (hb.mono (by have := hw3.out.size; omega))))
      obtain ⟨N, hN⟩ := Int.eq_ofNat_of_zero_le (show 0 ≤ x3 by omega)
      have hN3 : N ≤ 300 := by omega
      obtain ⟨K, hK0, hKb, hKs, hrun, hfst⟩ := hD.out rfl (by omega) (by omega) N hN3 hN
      subst hN
      replace hK0 := Lib.hid hK0
      replace hKb := Lib.hid hKb
      replace hKs := Lib.hid hKs
      replace hrun := Lib.hid hrun
      replace hfst := Lib.hid hfst
      clear hD HK
      have e1 : IntKind.i64.wrap (x2 + (N : Int)) = x2 + (N : Int) := by rw [IntKind.wrap_i64]; omega
      go_upto_region 5 with (go_at_call 12; (with_reducible refine hc.out.mono ?_); rintro e w4 ⟨rfl, hb⟩; have hw4 := Lib.hid (hw3.out.trans (hb.mono (by have := hw3.out.size; omega))); clear hb)
      clear z0 z1 z2 z3 z4 z5 hc
      go_wp2
      go_loopw [11, 12, 13, 14, 15] (fun k f t _ _ wr => Below (h + 1) w1 wr ∧ ∃ j : Nat, j ≤ N ∧ t = .int .i64 (x2 + j) ∧ k = .int .i64 (K j) ∧ ∃ x : Int, f = .int .i64 x ∧ Fst c0 x1 x2 (x2 + j) x ∧ -1 ≤ x ∧ x ≤ 1099511627776) (fun _ _ t _ _ _ => N - (intOf t - x2).toNat)
      case atStart => exact ⟨hw4.out, 0, Nat.zero_le _, by simp, by rw [hK0.out], -1, rfl, .inl ⟨rfl, fun s s1 s2 => by omega⟩, by omega, by omega⟩
      case round =>
        obtain ⟨b2, j, hj, rfl, rfl, x, rfl, hF, hx1, hx2⟩ := hrel
        have hcs := hS.out wr b2
        have hw5 := Lib.hid b2
        obtain ⟨-, z0, z1, z2, z3, z4, z5⟩ := hcs
        obtain ⟨k0, hk0⟩ : ∃ k0, K j = k0 := ⟨_, rfl⟩
        have hkb := hKb.out j
        rw [hk0] at hkb ⊢
        replace hF := Lib.hid hF
        by_cases hjl : j < N
        · have hjI : (j : Int) < (N : Int) := by omega
          have hru := hrun.out j hjl
          obtain ⟨p, hp⟩ : ∃ p, (R (x2 + j)).1 = p := ⟨_, rfl⟩
          obtain ⟨ok, hok⟩ : ∃ ok, (R (x2 + j)).2 = ok := ⟨_, rfl⟩
          have HR2 := Lib.hid (HR.out wr (HBB.out _ hw5.out) (x2 + j))
          simp only [hp, hok, hk0] at hru HR2
          clear hp hok
          have e2 : IntKind.i64.wrap (x2 + (j : Int) + 1) = x2 + (j : Int) + 1 := by rw [IntKind.wrap_i64]; omega
          have e3 : IntKind.i64.wrap (k0 + 1) = k0 + 1 := by rw [IntKind.wrap_i64]; omega
          have hj1 := Lib.hid (show x2 + ((j + 1 : Nat) : Int) = x2 + (j : Int) + 1 by omega)
          have hxb : x ≤ 1099511627775 ∨ True := .inr True.intro
          clear hxb
          replace hk0 := Lib.hid hk0
          replace hru := Lib.hid hru
          have hcall := Lib.hid (fun (u : World) (hb : Below wr.heap.size wr u) => hw5.out.trans (hb.mono (by have := hw5.out.size; omega)))
          clear b2
          cases ok with
          | false =>
            obtain ⟨hK1, hF1⟩ := hru.out.2 (by simp) x hF.out
            replace hK1 := Lib.hid hK1
            replace hF1 := Lib.hid hF1
            clear hru hF
            go_wp2_with (go_at_call 17; (with_reducible refine HR2.out.mono ?_); rintro e w6 ⟨rfl, hb⟩; have hw6 := Lib.hid (hcall.out _ hb); clear hb)
            go_roundw
            case rel => exact ⟨hw6.out, j + 1, hjl, by rw [hj1.out], by rw [hK1.out], x, rfl, by rw [hj1.out]; exact hF1.out, by omega, by omega⟩
            case measure => simp [intOf]; omega
          | true =>
            by_cases hpx : p = x1
            · have hpe : (p == x1) = true := by simpa using hpx
              obtain ⟨hK1, hF1, hF2⟩ := hru.out.1 ⟨rfl, hpx⟩ x hF.out
              replace hK1 := Lib.hid hK1
              replace hF1 := Lib.hid hF1
              replace hF2 := Lib.hid hF2
              clear hru hF hpx
              by_cases hx0 : x < 0
              · go_wp2_with (go_at_call 17; (with_reducible refine HR2.out.mono ?_); rintro e w6 ⟨rfl, hb⟩; have hw6 := Lib.hid (hcall.out _ hb); clear hb)
                go_roundw
                case rel => exact ⟨hw6.out, j + 1, hjl, by rw [hj1.out], by rw [hK1.out], x2 + j, rfl, by rw [hj1.out]; exact hF1.out hx0, by omega, by omega⟩
                case measure => simp [intOf]; omega
              · go_wp2_with (go_at_call 17; (with_reducible refine HR2.out.mono ?_); rintro e w6 ⟨rfl, hb⟩; have hw6 := Lib.hid (hcall.out _ hb); clear hb)
                go_roundw
                case rel => exact ⟨hw6.out, j + 1, hjl, by rw [hj1.out], by rw [hK1.out], x, rfl, by rw [hj1.out]; exact hF2.out hx0, by omega, by omega⟩
                case measure => simp [intOf]; omega
            · have hpe : (p == x1) = false := by simpa using hpx
              obtain ⟨hK1, hF1⟩ := hru.out.2 (fun g => hpx g.2) x hF.out
              replace hK1 := Lib.hid hK1
              replace hF1 := Lib.hid hF1
              clear hru hF hpx
              go_wp2_with (go_at_call 17; (with_reducible refine HR2.out.mono ?_); rintro e w6 ⟨rfl, hb⟩; have hw6 := Lib.hid (hcall.out _ hb); clear hb)
              go_roundw
              case rel => exact ⟨hw6.out, j + 1, hjl, by rw [hj1.out], by rw [hK1.out], x, rfl, by rw [hj1.out]; exact hF1.out, by omega, by omega⟩
              case measure => simp [intOf]; omega
        · have hjm : j = N := by omega
          subst hjm
          obtain ⟨hy1, hy2⟩ := hfst.out x hF.out
          have hks := hKs.out
          rw [hk0] at hks
          subst hks
          have hn := Lib.hid (HN.out wr (HBB.out _ hw5.out))
          have hu := Lib.hid (fun (u : World) (hu : Below (h + 1) w1 u) => HU.out u (HBB.out _ hu))
          replace hy1 := Lib.hid hy1
          replace hy2 := Lib.hid hy2
          clear hF hfst hKs hK0 hKb hrun hk0 HR HN HU b2
          go_upto_region 16 with (go_at_call 14; (with_reducible refine hn.out.mono ?_); rintro e w6 ⟨rfl, hb⟩; have hw6 := Lib.hid (hw5.out.trans (hb.mono (by have := hw5.out.size; omega))); clear hb)
          clear z0 z1 z2 z3 z4 z5
          obtain ⟨-, z0, z1, z2, z3, z4, z5⟩ := hS.out w6 hw6.out
          have hu2 := Lib.hid (hu.out w6 hw6.out)
          have hnn : (k0 != k0) = false := by simp
          by_cases hx0 : 0 ≤ x
          · obtain ⟨rfl, rfl⟩ := hy1.out hx0
            have hvv : (v == v) = true := by simp
            clear hy1 hy2
            go_wp2_with (go_at_call 15; (with_reducible refine hu2.out.mono ?_); rintro e w7 ⟨rfl, hb⟩; have hw7 := Lib.hid (hw6.out.trans (hb.mono (by have := hw6.out.size; omega))); clear hb)
            exact HO.out _ (HBB.out _ hw7.out)
          · rcases hy2.out (by omega) with rfl | hge
            · clear hy1 hy2
              go_wp2_with (go_at_call 15; (with_reducible refine hu2.out.mono ?_); rintro e w7 ⟨rfl, hb⟩; have hw7 := Lib.hid (hw6.out.trans (hb.mono (by have := hw6.out.size; omega))); clear hb)
              exact HO.out _ (HBB.out _ hw7.out)
            · clear hy1 hy2
              cases so with
              | true =>
                go_wp2_with (go_at_call 15; (with_reducible refine hu2.out.mono ?_); rintro e w7 ⟨rfl, hb⟩; have hw7 := Lib.hid (hw6.out.trans (hb.mono (by have := hw6.out.size; omega))); clear hb)
                exact HO.out _ (HBB.out _ hw7.out)
              | false =>
                go_wp2_with (go_at_call 15; (with_reducible refine hu2.out.mono ?_); rintro e w7 ⟨rfl, hb⟩; have hw7 := Lib.hid (hw6.out.trans (hb.mono (by have := hw6.out.size; omega))); clear hb)
                exact HO.out _ (HBB.out _ hw7.out)
    · have k3 : (kk != 0) = true := by simpa using hk
      go_wp2_with (go_at_call 12; (with_reducible refine hc.out.mono ?_); rintro e w4 ⟨rfl, hb⟩)
      exact HO.out _ (HBB.out _ (hw3.out.trans (hb.mono (by have := hw3.out.size; omega))))
theorem lifted (os : Os) (started : os.Started) (H : Type) (enc : TypeId × Value → H) :
    ReturnsInHanded {} Try.checked os 7 .any (Rows.planCountsSpec.pre6 enc Try.prog Try.f7 Rows.planCountsRow.domain false) (Rows.planCountsSpec.post enc Try.prog Try.f7 false true false false) := by
  refine returnsInHanded_of_change (C := Try.checked) own started (by kernel_rfl) Try.func7
    (ChangeSpec.witness6 (enc := enc) (C := Try.checked) false ⟨#[], #[.agg #[.int .i64 0, .int .i64 0, .int .i64 0, .slice none 0 0, .slice none 0 0, .slice none 0 0], .int .i64 0, .int .i64 0, .int .i64 0], []⟩ 8 (by kernel_rfl) (by kernel_rfl) (by kernel_rfl) (by kernel_rfl)) ?_
  intro W base args ds gs before hval0 hW hcnd _
  have hval : ∀ (j : Nat) t v, Try.f7.params[j]? = some t → args[j]? = some v → Value.okWide Try.prog W .any base t v := hval0
  have hW' := hW
  obtain ⟨p, q, hA0, hV, rfl, hfz, hnd⟩ := hW
  have hA : DataW.TrodAll enc Try.prog W 0 (fun _ => true) true Try.f7.params.toList args.toList ds p := hA0
  rw [Try.params7] at hA hval
  obtain ⟨v0, vs0, d0, ds0, p0, q0, hargs, rfl, rfl, h0, r0⟩ := trodAll_cons hA
  obtain ⟨v1, vs1, d1, ds1, p1, q1, rfl, rfl, rfl, h1, r1⟩ := trodAll_cons r0
  obtain ⟨v2, vs2, d2, ds2, p2, q2, rfl, rfl, rfl, h2, r2⟩ := trodAll_cons r1
  obtain ⟨v3, vs3, d3, ds3, p3, q3, rfl, rfl, rfl, h3, r3⟩ := trodAll_cons r2
  obtain ⟨rfl, rfl, rfl⟩ := trodAll_nil r3
  obtain rfl : args = #[v0, v1, v2, v3] := by cases args; simp_all
  obtain ⟨rfl, rfl⟩ := trodVars_none hV
  have hlt0 : ∀ x ∈ p0, x.block < W.heap.size := fun x hx => hW'.lt x (by simp [hx])
  obtain ⟨c0, p1_0, k1_0, p2_0, k2_0, p3_0, k3_0, rfl, X0⟩ := open_cfg (hval 0 26 v0 rfl rfl) h0
  obtain ⟨x1, rfl, rfl, rfl, w1⟩ := open_int Try.underlying3 (hval 1 3 v1 rfl rfl) h1
  obtain ⟨x2, rfl, rfl, rfl, w2⟩ := open_int Try.underlying3 (hval 2 3 v2 rfl rfl) h2
  obtain ⟨x3, rfl, rfl, rfl, w3⟩ := open_int Try.underlying3 (hval 3 3 v3 rfl rfl) h3
  clear hA0 hval0
  simp only [List.append_nil] at hW'
  refine (walk W X0 x1 w1 x2 w2 x3 w3).mono fun e W' ⟨he, hg⟩ => ?_
  subst he
  exact ⟨_, rfl, _, _, _, [], _, [], hW', (trodAll_cons_mk (shut_bool Try.underlying4 _) trodAll_mk0), (trodAll_cons_mk (Below.trod laidOut (by kernel_rfl) (of_decide_eq_true (by kernel_rfl)) h0 hg hlt0) (trodAll_cons_mk (shut_int Try.underlying3 w1) (trodAll_cons_mk (shut_int Try.underlying3 w2) (trodAll_cons_mk (shut_int Try.underlying3 w3) trodAll_mk0)))), rfl, hg.frame _, fun h => by cases h⟩
theorem over : Rows.planCountsRow.holds Try.pinned (OpenSpec.ofChange Rows.planCountsSpec) :=
  OpenClaim.holds_of_wide 7 Try.f7 rfl rfl rfl rfl rfl rfl rfl ⟨rfl, rfl, rfl, rfl, rfl⟩ rfl rfl rfl rfl rfl (by kernel_rfl) Try.func7 (by kernel_rfl)
    (of_decide_eq_true (by kernel_rfl)) (by unfold Func.isWrapper; first | (rw [if_pos (by decide +kernel)]; kernel_rfl) | (rw [if_neg (by decide +kernel)]; exact ⟨rfl, rfl⟩))
    (fun os started H enc _ => lifted os started H enc)
/-- THE STATEMENT. -/
theorem proved : Rows.PlanCountsSaid :=
  over
end Go.Proofs.Ytnglmiihlpjelaa.planCounts
