/-
  A partition's share is that of its windows, less what the switches take, in every major frame (law PlanShares returns true, and each argument reads as it read).
  No condition: whatever the arguments are.
-/
import Derived.Test.YtnglmiihlpjelaaPlnO
import Derived.Test.YtnglmiihlpjelaaPlnP
import Derived.Test.YtnglmiihlpjelaaPlnJ
import Derived.Test.YtnglmiihlpjelaaPlnQ
namespace Go.Proofs.Ytnglmiihlpjelaa.planShares
open Go.Proofs.Ytnglmiihlpjelaa Go.Proofs.Ytnglmiihlpjelaa.Cfg
open Go.ChangeShapes Go.WideShapes Go.ChangeAt Go.RowKit
set_option maxRecDepth 100000
set_option linter.unusedVariables false

set_option maxHeartbeats 8000000 in
theorem walk (W : World) {c0 : Cf} {p1_0 : Option Addr} {k1_0 : Nat} {p2_0 : Option Addr} {k2_0 : Nat} {p3_0 : Option Addr} {k3_0 : Nat} (X0 : Cx W W.heap.size c0 p1_0 k1_0 p2_0 k2_0 p3_0 k3_0) (x1 : Int) (w1 : (Lit.int .i64 x1).wf = true) (x2 : Int) (w2 : (Lit.int .i64 x2).wf = true) :
    Calls Try.prog 8 #[cfV c0 p1_0 k1_0 p2_0 k2_0 p3_0 k3_0, i64 x1, i64 x2] W fun e w' => e = .returned (.bool true) ∧ Below W.heap.size W w' := by
  obtain ⟨r, hr⟩ : ∃ r : Ending → World → Prop, r = fun e w' => e = .returned (.bool true) ∧ Below W.heap.size W w' := ⟨_, rfl⟩
  rw [← hr]
  obtain ⟨h, hhz⟩ : ∃ h, W.heap.size = h := ⟨_, rfl⟩
  have HO := Lib.hid (fun u (b : Below h W u) => (by rw [hr]; exact ⟨rfl, hhz ▸ b⟩ : r (.returned (.bool true)) u))
  clear hr
  have hx := Lib.hid (fun (u : World) (hu : Below h W u) => X0.later hu (Nat.le_of_eq hhz) (by omega))
  have HG := Lib.hid (fun (u : World) (hu : Below h W u) => big_says (hx.out u hu))
  have HK := Lib.hid (fun (u : World) (hu : Below h W u) => rcheck_cx (hx.out u hu))
  have hvd := Lib.hid (fun (g : chk c0 = 0) => vd_of g)
  have HY := Lib.hid (fun (u : World) (hu : Below h W u) => share_says (hx.out u hu) x1)
  have HU := Lib.hid (fun (u : World) (hu : Below h W u) => steps_says (hx.out u hu) x1 (x2 * c0.major) ((x2 + 1) * c0.major))
  have hD := Lib.hid (fun (g : chk c0 = 0) (g2 : 0 ≤ x2 ∧ x2 ≤ 1000000) => shares_eq g x1 g2)
  have hE := Lib.hid (fun (g : chk c0 = 0) => shareV_sum g x1)
  have hat := Lib.hid (fun (g : chk c0 = 0) (k : Nat) (x : Wn) (hx : c0.wins[k]? = some x) => (vd_of g).at hx)
  have hmm := Lib.hid (fun (g : chk c0 = 0) => And.intro (vd_of g).mj (And.intro (vd_of g).sw (vd_of g).ln))
  have L3 := Lib.hid (hhz ▸ X0.L3)
  obtain ⟨D, hd⟩ : ∃ D, stepV c0 x1 (x2 * c0.major) ((x2 + 1) * c0.major) = D := ⟨_, rfl⟩
  obtain ⟨V, hv⟩ : ∃ V, shareV c0 x1 = V := ⟨_, rfl⟩
  obtain ⟨kk, hkk⟩ : ∃ kk, chk c0 = kk := ⟨_, rfl⟩
  simp only [hd, hv, hkk] at HY HU HK hD hE hat hmm
  clear hd hv hkk hvd
  obtain ⟨l, hl⟩ : ∃ l, c0.wins = l := ⟨_, rfl⟩
  simp only [hl] at hE hat hmm L3
  obtain ⟨pg, qpg⟩ : ∃ pg, c0.pages = pg := ⟨_, rfl⟩
  obtain ⟨mj, qmj⟩ : ∃ mj, c0.major = mj := ⟨_, rfl⟩
  obtain ⟨sw, qsw⟩ : ∃ sw, c0.switch = sw := ⟨_, rfl⟩
  obtain ⟨n1, qn1⟩ : ∃ n1, c0.parts.length = n1 := ⟨_, rfl⟩
  obtain ⟨n2, qn2⟩ : ∃ n2, c0.chans.length = n2 := ⟨_, rfl⟩
  obtain ⟨m, qm⟩ : ∃ m, c0.wins.length = m := ⟨_, rfl⟩
  simp only [cfV, qpg, qmj, qsw, qn1, qn2, qm] at HG HY HU HK hD hE hat hmm L3
  simp only [cfV, qpg, qmj, qsw, qn1, qn2, qm]
  simp only [hl] at qm
  simp only [qm] at L3 hmm
  have hlm := qm
  clear hl
  clear hx
  obtain ⟨w1, hw1⟩ : ∃ w1, w1 = W.alloc (.cells #[i64 pg, i64 mj, i64 sw, .slice p1_0 n1 k1_0, .slice p2_0 n2 k2_0, .slice p3_0 m k3_0] 26) := ⟨_, rfl⟩
  have b1 := Lib.hid (by rw [hw1]; exact (Below.refl _ _).alloc (Nat.le_of_eq hhz.symm) _ : Below h W w1)
  have hg1 : w1.heap.size = h + 1 := by rw [hw1, ← hhz]; simp
  have hZ := Lib.hid (fun k v hv => by
    rw [hw1, ← hhz, cell_of_row _ _ k _ _ _ (heap_alloc_new _ _), ← Array.getElem?_toList]; exact hv : ∀ (k : Nat) (v : Value), [i64 pg, i64 mj, i64 sw, Value.slice p1_0 n1 k1_0, .slice p2_0 n2 k2_0, .slice p3_0 m k3_0][k]? = some v → w1.cell? ⟨h, k, none⟩ = some v)
  have hS := Lib.hid (fun u (b : Below (h + 1) w1 u) => (by
    have hZ2 := fun k v hv => (World.cell?_of_block (b.block h (Nat.lt_succ_self _))).trans (hZ.out k v hv)
    exact ⟨b, hZ2 0 _ rfl, hZ2 1 _ rfl, hZ2 2 _ rfl, hZ2 3 _ rfl, hZ2 4 _ rfl, hZ2 5 _ rfl⟩ : (fun u => Below (h + 1) w1 u ∧ u.cell? ⟨h, 0, none⟩ = some (i64 pg) ∧ u.cell? ⟨h, 1, none⟩ = some (i64 mj) ∧ u.cell? ⟨h, 2, none⟩ = some (i64 sw) ∧ u.cell? ⟨h, 3, none⟩ = some (.slice p1_0 n1 k1_0) ∧ u.cell? ⟨h, 4, none⟩ = some (.slice p2_0 n2 k2_0) ∧ u.cell? ⟨h, 5, none⟩ = some (.slice p3_0 m k3_0)) u))
  have HBB := Lib.hid (fun u (hu : Below (h + 1) w1 u) => b1.out.trans (hu.mono (Nat.le_succ _)))
  clear hZ
  go_enter Try.func8, Try.ntmps8
  go_upto_region 1 with fail
  try simp only [hhz]
  rw [← hw1]
  clear hw1
  go_upto_region 2 with (go_at_call 10; (with_reducible refine (alive15 _).mono ?_); rintro e w2 ⟨rfl, hb⟩; have hw2 := Lib.hid (hb.mono (Nat.le_of_eq hg1.symm)); clear hb)
  obtain ⟨-, z0, z1, z2, z3, z4, z5⟩ := hS.out w2 hw2.out
  have hc := Lib.hid (HG.out w2 (HBB.out _ hw2.out))
  go_upto_region 3 with (go_at_call 11; (with_reducible refine hc.out.mono ?_); rintro e w3 ⟨big, rfl, hb⟩; have hw3 := Lib.hid (hw2.out.trans (hb.mono (by have := hw2.out.size; omega))); clear hb)
  clear z0 z1 z2 z3 z4 z5 hc HG
  obtain ⟨-, z0, z1, z2, z3, z4, z5⟩ := hS.out w3 hw3.out
  cases big with
  | true =>
    go_wp2
    exact HO.out _ (HBB.out _ hw3.out)
  | false =>
    have hc := Lib.hid (HK.out w3 (HBB.out _ hw3.out))
    by_cases hk : kk = 0
    · subst hk
      by_cases q0 : x2 < 0
      · go_wp2_with (go_at_call 12; (with_reducible refine hc.out.mono ?_); rintro e w4 ⟨rfl, hb⟩)
        exact HO.out _ (HBB.out _ (hw3.out.trans (hb.mono (by have := hw3.out.size; omega))))
      by_cases q1 : x2 > 1000000
      · go_wp2_with (go_at_call 12; (with_reducible refine hc.out.mono ?_); rintro e w4 ⟨rfl, hb⟩)
        exact HO.out _ (HBB.out _ (hw3.out.trans (hb.mono (by have := hw3.out.size; omega))))
      obtain ⟨hmj, hsw, hln⟩ := hmm.out rfl
      have hdv := Lib.hid (hD.out rfl ⟨by omega, by omega⟩)
      have hE2 := Lib.hid (hE.out rfl)
      have hat2 := Lib.hid (hat.out rfl)
      have L1 := Lib.hid (L3.out.kept b1.out (Nat.le_refl _))
      have hm0 : 0 ≤ x2 * mj := Int.mul_nonneg (by omega) (by omega)
      have hm1 : x2 * mj ≤ 100000000000 := by
        have := Int.mul_le_mul (show x2 ≤ 1000000 by omega) hmj.2 (by omega) (by omega)
        omega
      have hme : (x2 + 1) * mj = x2 * mj + mj := by rw [Int.add_mul, Int.one_mul]
      have hm2 : 0 ≤ (x2 + 1) * mj := by omega
      have hm3 : (x2 + 1) * mj ≤ 200000000000 := by omega
      replace hme := Lib.hid hme
      clear hD hE hat hmm L3 HK
      go_upto_region 5 with (go_at_call 12; (with_reducible refine hc.out.mono ?_); rintro e w4 ⟨rfl, hb⟩; have hw4 := Lib.hid (hw3.out.trans (hb.mono (by have := hw3.out.size; omega))); clear hb)
      clear z0 z1 z2 z3 z4 z5 hc
      have z5 := (hS.out w4 hw4.out).2.2.2.2.2.2
      go_wp2
      go_loopw [9, 10] (fun s i wr => Below (h + 1) w1 wr ∧ ∃ j : Nat, j ≤ m ∧ i = .int .i64 j ∧ ∃ a : Int, s = .int .i64 a ∧ 0 ≤ a ∧ a ≤ j * 100000 ∧ V = a + smQ (isP x1) (fun x => x.len - sw) (l.drop j)) (fun _ i _ => m - (intOf i).toNat)
      case atStart => exact ⟨hw4.out, 0, Nat.zero_le _, rfl, 0, rfl, by omega, by omega, by rw [hE2.out, List.drop_zero]; omega⟩
      case round =>
        obtain ⟨b2, j, hj, rfl, a, rfl, ha0, ha1, hk⟩ := hrel
        have hcs := hS.out wr b2
        by_cases hjl : j < m
        · have hjI : (j : Int) < (m : Int) := by omega
          have hjb : j < 32 := by omega
          obtain ⟨x, hx⟩ : ∃ x, l[j]? = some x := ⟨_, List.getElem?_eq_getElem (by omega)⟩
          obtain ⟨b, off, rfl, hbl, y0, y1, y2⟩ := (L1.out.kept b2 (Nat.le_succ _)).cell3 j x hx rfl
          have hd := Lib.hid (smQ_drop (isP x1) (fun x => x.len - sw) hx)
          obtain ⟨hx0, hx1, hx2, hx3⟩ := hat2.out j x hx
          obtain ⟨st, ln, pt⟩ := x
          simp only at hx0 hx1 hx2 hx3 y0 y1 y2
          obtain ⟨rs, hrs⟩ : ∃ rs, smQ (isP x1) (fun x => x.len - sw) (l.drop (j + 1)) = rs := ⟨_, rfl⟩
          rw [hrs] at hd
          replace hk := Lib.hid (hk.trans (congrArg (a + ·) hd.out))
          replace hrs := Lib.hid hrs
          replace b2 := Lib.hid b2
          obtain ⟨-, -, -, z2, -, -, z5⟩ := hcs
          clear hd L1 hx hat2 hE2 hdv hS
          by_cases k1 : pt = x1
          · have kt : (pt == x1) = true := by simpa using k1
            have hk2 := Lib.hid (by rw [hk.out]; simp only [isP, k1, decide_true, if_true]; omega : V = (a + ln - sw) + rs)
            have e1 : IntKind.i64.wrap (a + ln) = a + ln := by rw [IntKind.wrap_i64]; omega
            have e2 : IntKind.i64.wrap (a + ln - sw) = a + ln - sw := by rw [IntKind.wrap_i64]; omega
            clear hk
            go_wp2
            go_region
            go_wp2
            go_roundw
            case rel => exact ⟨b2.out.drew, j + 1, hjl, by go_num, _, rfl, by omega, by omega, by rw [hrs.out]; exact hk2.out⟩
            case measure => simp [intOf]; omega
          · have kt : (pt == x1) = false := by simpa using k1
            have hk2 := Lib.hid (by rw [hk.out]; simp only [isP, decide_eq_false k1, Bool.false_eq_true, if_false]; omega : V = a + rs)
            clear hk
            go_wp2
            go_roundw
            case rel => exact ⟨b2.out, j + 1, hjl, by go_num, _, rfl, ha0, by omega, by rw [hrs.out]; exact hk2.out⟩
            case measure => simp [intOf]; omega
        · have hjm : j = m := by omega
          subst hjm
          rw [drop_end (by omega)] at hk
          have e : V = a := by rw [hk]; simp [smQ]
          subst e
          have hDV : D = V := hdv.out
          subst hDV
          have hw5 := Lib.hid b2
          have hy := Lib.hid (HY.out wr (HBB.out _ hw5.out))
          have hu := Lib.hid (fun (u : World) (hu : Below (h + 1) w1 u) => HU.out u (HBB.out _ hu))
          obtain ⟨-, z0, z1, z2, z3, z4, z5⟩ := hcs
          have hvv : (D == D) = true := by simp
          have e1 : IntKind.i64.wrap (x2 * mj) = x2 * mj := by rw [IntKind.wrap_i64]; omega
          have e2 : IntKind.i64.wrap (x2 + 1) = x2 + 1 := by rw [IntKind.wrap_i64]; omega
          have e3 : IntKind.i64.wrap ((x2 + 1) * mj) = (x2 + 1) * mj := by rw [IntKind.wrap_i64]; omega
          clear hk hE2 hat2 L1 b2 HY HU hdv
          go_wp2_with (first | (go_at_call 15; (with_reducible refine (hu.out _ hw6.out).mono ?_); rintro e w7 ⟨rfl, hb⟩; have hw7 := Lib.hid (hw6.out.trans (hb.mono (by have := hw6.out.size; omega))); clear hb) | (go_at_call 21; (with_reducible refine hy.out.mono ?_); rintro e w6 ⟨rfl, hb⟩; have hw6 := Lib.hid (hw5.out.trans (hb.mono (by have := hw5.out.size; omega))); clear hb z0 z1 z2 z3 z4 z5; obtain ⟨-, z0, z1, z2, z3, z4, z5⟩ := hS.out w6 hw6.out))
          exact HO.out _ (HBB.out _ hw7.out)
    · have k3 : (kk != 0) = true := by simpa using hk
      go_wp2_with (go_at_call 12; (with_reducible refine hc.out.mono ?_); rintro e w4 ⟨rfl, hb⟩)
      exact HO.out _ (HBB.out _ (hw3.out.trans (hb.mono (by have := hw3.out.size; omega))))
theorem lifted (os : Os) (started : os.Started) (H : Type) (enc : TypeId × Value → H) :
    ReturnsInHanded {} Try.checked os 8 .any (Rows.planSharesSpec.pre6 enc Try.prog Try.f8 Rows.planSharesRow.domain false) (Rows.planSharesSpec.post enc Try.prog Try.f8 false true false false) := by
  refine returnsInHanded_of_change (C := Try.checked) own started (by kernel_rfl) Try.func8
    (ChangeSpec.witness6 (enc := enc) (C := Try.checked) false ⟨#[], #[.agg #[.int .i64 0, .int .i64 0, .int .i64 0, .slice none 0 0, .slice none 0 0, .slice none 0 0], .int .i64 0, .int .i64 0], []⟩ 8 (by kernel_rfl) (by kernel_rfl) (by kernel_rfl) (by kernel_rfl)) ?_
  intro W base args ds gs before hval0 hW hcnd _
  have hval : ∀ (j : Nat) t v, Try.f8.params[j]? = some t → args[j]? = some v → Value.okWide Try.prog W .any base t v := hval0
  have hW' := hW
  obtain ⟨p, q, hA0, hV, rfl, hfz, hnd⟩ := hW
  have hA : DataW.TrodAll enc Try.prog W 0 (fun _ => true) true Try.f8.params.toList args.toList ds p := hA0
  rw [Try.params8] at hA hval
  obtain ⟨v0, vs0, d0, ds0, p0, q0, hargs, rfl, rfl, h0, r0⟩ := trodAll_cons hA
  obtain ⟨v1, vs1, d1, ds1, p1, q1, rfl, rfl, rfl, h1, r1⟩ := trodAll_cons r0
  obtain ⟨v2, vs2, d2, ds2, p2, q2, rfl, rfl, rfl, h2, r2⟩ := trodAll_cons r1
  obtain ⟨rfl, rfl, rfl⟩ := trodAll_nil r2
  obtain rfl : args = #[v0, v1, v2] := by cases args; simp_all
  obtain ⟨rfl, rfl⟩ := trodVars_none hV
  have hlt0 : ∀ x ∈ p0, x.block < W.heap.size := fun x hx => hW'.lt x (by simp [hx])
  obtain ⟨c0, p1_0, k1_0, p2_0, k2_0, p3_0, k3_0, rfl, X0⟩ := open_cfg (hval 0 26 v0 rfl rfl) h0
  obtain ⟨x1, rfl, rfl, rfl, w1⟩ := open_int Try.underlying3 (hval 1 3 v1 rfl rfl) h1
  obtain ⟨x2, rfl, rfl, rfl, w2⟩ := open_int Try.underlying3 (hval 2 3 v2 rfl rfl) h2
  clear hA0 hval0
  simp only [List.append_nil] at hW'
  refine (walk W X0 x1 w1 x2 w2).mono fun e W' ⟨he, hg⟩ => ?_
  subst he
  exact ⟨_, rfl, _, _, _, [], _, [], hW', (trodAll_cons_mk (shut_bool Try.underlying4 _) trodAll_mk0), (trodAll_cons_mk (Below.trod laidOut (by kernel_rfl) (of_decide_eq_true (by kernel_rfl)) h0 hg hlt0) (trodAll_cons_mk (shut_int Try.underlying3 w1) (trodAll_cons_mk (shut_int Try.underlying3 w2) trodAll_mk0))), rfl, hg.frame _, fun h => by cases h⟩
theorem over : Rows.planSharesRow.holds Try.pinned (OpenSpec.ofChange Rows.planSharesSpec) :=
  OpenClaim.holds_of_wide 8 Try.f8 rfl rfl rfl rfl rfl rfl rfl ⟨rfl, rfl, rfl, rfl, rfl⟩ rfl rfl rfl rfl rfl (by kernel_rfl) Try.func8 (by kernel_rfl)
    (of_decide_eq_true (by kernel_rfl)) (by unfold Func.isWrapper; first | (rw [if_pos (by decide +kernel)]; kernel_rfl) | (rw [if_neg (by decide +kernel)]; exact ⟨rfl, rfl⟩))
    (fun os started H enc _ => lifted os started H enc)
/-- THE STATEMENT. -/
theorem proved : Rows.PlanSharesSaid :=
  over
end Go.Proofs.Ytnglmiihlpjelaa.planShares
