
/-
  The reference: below.
-/
import Derived.Test.YtnglmiihlpjelaaPlnA
import Derived.Deep.QuietTactic
import Derived.BigQuiet
set_option maxRecDepth 100000
set_option linter.unusedVariables false
namespace Go.Proofs.Ytnglmiihlpjelaa.Cfg
open Go.Proofs.Ytnglmiihlpjelaa
open Go.ChangeShapes Go.WideShapes Go.ChangeAt Go.RowKit
set_option maxHeartbeats 8000000 in
theorem rbelow_says {w : World} {c : Cf} {p1 : Option Addr} {c1 : Nat} {p2 : Option Addr} {c2 : Nat} {p3 : Option Addr} {c3 : Nat} (X : Cx w w.heap.size c p1 c1 p2 c2 p3 c3) (vd : Vd c) (part t : Int) (ht : okT t) :
    Calls Try.prog 26 #[cfV c p1 c1 p2 c2 p3 c3, i64 part, i64 t] w fun e w' => e = .returned (i64 (belowV c part t)) ∧ Below w.heap.size w w' := by
  obtain ⟨p, hp⟩ : ∃ p : Ending → World → Prop, p = fun e w' => e = .returned (i64 (belowV c part t)) ∧ Below w.heap.size w w' := ⟨_, rfl⟩
  rw [← hp]
  have HO := Lib.hid (fun w' (hw : Below w.heap.size w w') => (by rw [hp]; exact ⟨rfl, hw⟩ : p (.returned (i64 (belowV c part t))) w'))
  clear hp
  obtain ⟨h, hhz⟩ : ∃ h, w.heap.size = h := ⟨_, rfl⟩
  rw [hhz] at HO
  have vw := Lib.hid (fun (k : Nat) (x : Wn) (hx : c.wins[k]? = some x) => vd.at hx)
  have hmj := vd.mj
  have hsw := vd.sw
  have hln := vd.ln
  have L3 := Lib.hid (hhz ▸ X.L3)
  have hV : belowV c part t = smQ (isP part) (bW c.major c.switch t) c.wins := rfl
  obtain ⟨V, hVV⟩ : ∃ V, belowV c part t = V := ⟨_, rfl⟩
  rw [hVV] at HO hV
  clear hVV vd X
  obtain ⟨l, hl⟩ : ∃ l, c.wins = l := ⟨_, rfl⟩
  rw [hl] at vw L3 hV hln
  simp only [cfV, hl]
  clear hl
  obtain ⟨pg, qpg⟩ : ∃ pg, c.pages = pg := ⟨_, rfl⟩
  obtain ⟨mj, qmj⟩ : ∃ mj, c.major = mj := ⟨_, rfl⟩
  obtain ⟨sw, qsw⟩ : ∃ sw, c.switch = sw := ⟨_, rfl⟩
  obtain ⟨n1, qn1⟩ : ∃ n1, c.parts.length = n1 := ⟨_, rfl⟩
  obtain ⟨n2, qn2⟩ : ∃ n2, c.chans.length = n2 := ⟨_, rfl⟩
  obtain ⟨m, qm⟩ : ∃ m, l.length = m := ⟨_, rfl⟩
  rw [qmj] at hmj
  rw [qsw] at hsw
  rw [qm] at hln L3
  try rw [qmj] at hV
  rw [qsw] at hV
  simp only [qmj, qsw, qn1] at vw
  rw [qpg, qmj, qsw, qn1, qn2, qm]
  have hlm := qm
  clear qpg qmj qsw qn1 qn2 qm
  obtain ⟨w1, hw1⟩ : ∃ w1, w1 = w.alloc (.cells #[i64 pg, i64 mj, i64 sw, .slice p1 n1 c1, .slice p2 n2 c2, .slice p3 m c3] 26) := ⟨_, rfl⟩
  have b1 := Lib.hid (by rw [hw1]; exact (Below.refl _ _).alloc (Nat.le_of_eq hhz.symm) _ : Below h w w1)
  have hg1 : w1.heap.size = h + 1 := by rw [hw1, ← hhz]; simp
  have hZ := Lib.hid (fun k v hv => by
    rw [hw1, ← hhz, cell_of_row _ _ k _ _ _ (heap_alloc_new _ _), ← Array.getElem?_toList]; exact hv : ∀ (k : Nat) (v : Value), [i64 pg, i64 mj, i64 sw, Value.slice p1 n1 c1, .slice p2 n2 c2, .slice p3 m c3][k]? = some v → w1.cell? ⟨h, k, none⟩ = some v)
  go_enter Try.func26, Try.ntmps26
  go_upto_region 1 with fail
  try simp only [hhz]
  rw [← hw1]
  clear hw1
  have z5 := hZ.out 5 _ rfl
  have L1 := Lib.hid (L3.out.kept b1.out (Nat.le_refl _))
  clear L3
  go_wp2
  go_loopw [7, 8, 9, 10] (fun s i _ _ wr => Below (h + 1) w1 wr ∧ ∃ j : Nat, j ≤ m ∧ i = .int .i64 j ∧ ∃ a : Int, s = .int .i64 a ∧ 0 ≤ a ∧ a ≤ j * 109951162777700000 ∧ V = a + smQ (isP part) (bW mj sw t) (l.drop j)) (fun s i _ _ _ => m - (intOf i).toNat)
  case atStart => exact ⟨Below.refl _ _, 0, Nat.zero_le _, rfl, 0, rfl, by omega, by omega, by rw [hV, List.drop_zero]; omega⟩
  case round =>
    obtain ⟨b2, j, hj, rfl, a, rfl, ha0, ha1, hk⟩ := hrel
    by_cases hjl : j < m
    · have hjI : (j : Int) < (m : Int) := by omega
      have hjb : j < 32 := by omega
      obtain ⟨x, hx⟩ : ∃ x, l[j]? = some x := ⟨_, List.getElem?_eq_getElem (by omega)⟩
      obtain ⟨b, off, rfl, hbl, y0, y1, y2⟩ := (L1.out.kept b2 (Nat.le_succ _)).cell3 j x hx rfl
      have hd := Lib.hid (smQ_drop (isP part) (bW mj sw t) hx)
      obtain ⟨hx0, hx1, hx2, hx3⟩ := vw.out j x hx
      obtain ⟨st, ln, pt⟩ := x
      simp only at hx0 hx1 hx2 hx3 y0 y1 y2
      obtain ⟨rs, hrs⟩ : ∃ rs, smQ (isP part) (bW mj sw t) (l.drop (j + 1)) = rs := ⟨_, rfl⟩
      rw [hrs] at hd
      replace hk := Lib.hid (hk.trans (congrArg (a + ·) hd.out))
      replace hrs := Lib.hid hrs
      replace b2 := Lib.hid b2
      have z5 := (World.cell?_of_block (b2.out.block h (Nat.lt_succ_self _))).trans (hZ.out 5 _ rfl)
      clear hd L1 hx vw HO hV
      go_upto_region 6 with fail
      obtain ⟨w2, hw2⟩ : ∃ w2, w2 = wr.alloc (.cells #[i64 st, i64 ln, i64 pt] 40) := ⟨_, rfl⟩
      have b3 := Lib.hid (by rw [hw2]; exact b2.out.alloc (by have := b2.out.size; omega) _ : Below (h + 1) w1 w2)
      obtain ⟨g, hg⟩ : ∃ g, wr.heap.size = g := ⟨_, rfl⟩
      have v0 : w2.cell? ⟨g, 0, none⟩ = some (i64 st) := by rw [hw2, ← hg]; rw [cell_of_row _ _ 0 _ _ _ (heap_alloc_new _ _)]; rfl
      have v1 : w2.cell? ⟨g, 1, none⟩ = some (i64 ln) := by rw [hw2, ← hg]; rw [cell_of_row _ _ 1 _ _ _ (heap_alloc_new _ _)]; rfl
      have v2 : w2.cell? ⟨g, 2, none⟩ = some (i64 pt) := by rw [hw2, ← hg]; rw [cell_of_row _ _ 2 _ _ _ (heap_alloc_new _ _)]; rfl
      have hZ3 := Lib.hid (fun k v hv => (World.cell?_of_block (b3.out.block h (Nat.lt_succ_self _))).trans (hZ.out k v hv))
      have z0 := hZ3.out 0 _ rfl
      have z1 := hZ3.out 1 _ rfl
      have z2 := hZ3.out 2 _ rfl
      have z5 := hZ3.out 5 _ rfl
      try rw [hg]
      rw [← hw2]
      clear hw2 hg y0 y1 y2 hZ3
      by_cases k1 : pt = part
      · have kt : (pt != part) = false := by simpa using k1
        have hk2 := Lib.hid (by rw [hk.out]; simp only [isP, k1, decide_true, if_true]; omega : V = (a + bW mj sw t ⟨st, ln, pt⟩) + rs)
        obtain ⟨q, hq⟩ : ∃ q, t / mj = q := ⟨_, rfl⟩
        obtain ⟨u, hu⟩ : ∃ u, t % mj = u := ⟨_, rfl⟩
        have hq0 : 0 ≤ q := by rw [← hq]; exact Int.ediv_nonneg ht.1 (by omega)
        have hq1 : q ≤ 1099511627776 := by
          have := ht.2
          have h2 : q ≤ t := by rw [← hq]; exact Int.ediv_le_self _ ht.1
          omega
        have hu0 : 0 ≤ u := by rw [← hu]; exact Int.emod_nonneg _ (by omega)
        have hu1 : u < mj := by rw [← hu]; exact Int.emod_lt_of_pos _ (by omega)
        have hP0 : 0 ≤ q * (ln - sw) := Int.mul_nonneg hq0 (by omega)
        have hP1 : q * (ln - sw) ≤ 1099511627776 * 100000 := Int.mul_le_mul hq1 (by omega) (by omega) (by omega)
        have eq1 := Lib.hid (by rw [← hq, Int.tdiv_eq_ediv_of_nonneg ht.1] : t.tdiv mj = q)
        have eu1 := Lib.hid (by rw [← hu, Int.tmod_eq_emod_of_nonneg ht.1] : t.tmod mj = u)
        have hg := Lib.hid (by unfold bW gW; rw [hq, hu] : bW mj sw t ⟨st, ln, pt⟩ = q * (ln - sw) + min (max (u - st - sw) 0) (ln - sw))
        have hmz : ¬ mj = 0 := by omega
        replace hP0 : 0 ≤ t.tdiv mj * (ln - sw) := by rw [eq1.out]; exact hP0
        replace hP1 : t.tdiv mj * (ln - sw) ≤ 109951162777600000 := by rw [eq1.out]; omega
        have hT0 : 0 ≤ t.tdiv mj := by rw [eq1.out]; exact hq0
        have hT1 : t.tdiv mj ≤ 1099511627776 := by rw [eq1.out]; exact hq1
        have hU0 : 0 ≤ t.tmod mj := by rw [eu1.out]; exact hu0
        have hU1 : t.tmod mj < mj := by rw [eu1.out]; exact hu1
        rw [← eq1.out, ← eu1.out] at hg
        clear hk hZ b1 b2 hq hu hq0 hq1 hu0 hu1 eq1 eu1
        have e3 : IntKind.i64.wrap (ln - sw) = ln - sw := by rw [IntKind.wrap_i64]; omega
        go_wp2
        go_region
        go_wp2
        go_region
        have b4 := Lib.hid b3.out.drew.drew
        by_cases c1 : t.tmod mj - st - sw > ln - sw
        · have c2 : 0 < ln - sw := by omega
          have hz := Lib.hid (by rw [hk2.out, hg.out]; omega : V = (a + t.tdiv mj * (ln - sw) + (ln - sw)) + rs)
          clear hk2 hg b3
          go_wp2
          go_roundw
          case rel => exact ⟨b4.out, j + 1, hjl, by go_num, _, rfl, by omega, by omega, by rw [hrs.out]; exact hz.out⟩
          case measure => simp [intOf]; omega
        by_cases c2 : 0 < t.tmod mj - st - sw
        · have hz := Lib.hid (by rw [hk2.out, hg.out]; omega : V = (a + t.tdiv mj * (ln - sw) + (t.tmod mj - st - sw)) + rs)
          clear hk2 hg b3
          go_wp2
          go_roundw
          case rel => exact ⟨b4.out, j + 1, hjl, by go_num, _, rfl, by omega, by omega, by rw [hrs.out]; exact hz.out⟩
          case measure => simp [intOf]; omega
        · have hz := Lib.hid (by rw [hk2.out, hg.out]; omega : V = (a + t.tdiv mj * (ln - sw)) + rs)
          clear hk2 hg b3
          go_wp2
          go_roundw
          case rel => exact ⟨b4.out, j + 1, hjl, by go_num, _, rfl, by omega, by omega, by rw [hrs.out]; exact hz.out⟩
          case measure => simp [intOf]; omega
      · have kt : (pt != part) = true := by simpa using k1
        have hk2 := Lib.hid (by rw [hk.out]; simp only [isP, decide_eq_false k1, Bool.false_eq_true, if_false]; omega : V = a + rs)
        clear hk hZ b1 b2
        go_wp2
        go_roundw
        case rel => exact ⟨b3.out, j + 1, hjl, by go_num, _, rfl, ha0, by omega, by rw [hrs.out]; exact hk2.out⟩
        case measure => simp [intOf]; omega
    · have hjm : j = m := by omega
      subst hjm
      rw [drop_end (by omega)] at hk
      have e : V = a := by rw [hk]; simp [smQ]
      have b2' := Lib.hid (b1.out.trans (b2.mono (Nat.le_succ _)))
      have hr := Lib.hid (HO.out wr b2'.out)
      subst e
      have z5 := (World.cell?_of_block (b2.block h (Nat.lt_succ_self _))).trans (hZ.out 5 _ rfl)
      clear HO hk b2 b2' hV L1 vw hZ b1
      go_wp2
      exact hr.out
end Go.Proofs.Ytnglmiihlpjelaa.Cfg
