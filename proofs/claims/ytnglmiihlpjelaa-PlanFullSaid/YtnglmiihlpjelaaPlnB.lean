
/-
  Package plan: stepsAhead.
-/
import Derived.Test.YtnglmiihlpjelaaPlnA
import Derived.Deep.QuietTactic
import Derived.BigQuiet
set_option maxRecDepth 100000
set_option linter.unusedVariables false
namespace Go.Proofs.Ytnglmiihlpjelaa.Cfg
open Go.Proofs.Ytnglmiihlpjelaa
open Go.ChangeShapes Go.WideShapes Go.ChangeAt Go.RowKit
set_option maxHeartbeats 8000000 in
theorem stepsAhead_says {w : World} {c : Cf} {p1 : Option Addr} {c1 : Nat} {p2 : Option Addr} {c2 : Nat} {p3 : Option Addr} {c3 : Nat} (X : Cx w w.heap.size c p1 c1 p2 c2 p3 c3) (vd : Vd c) (part n : Int) (hn : 0 ≤ n ∧ n ≤ 100000) :
    Calls Try.prog 27 #[cfV c p1 c1 p2 c2 p3 c3, i64 part, i64 n] w fun e w' => e = .returned (i64 (aheadV c part n)) ∧ Below w.heap.size w w' := by
  obtain ⟨p, hp⟩ : ∃ p : Ending → World → Prop, p = fun e w' => e = .returned (i64 (aheadV c part n)) ∧ Below w.heap.size w w' := ⟨_, rfl⟩
  rw [← hp]
  have HO := Lib.hid (fun w' (hw : Below w.heap.size w w') => (by rw [hp]; exact ⟨rfl, hw⟩ : p (.returned (i64 (aheadV c part n))) w'))
  clear hp
  obtain ⟨h, hhz⟩ : ∃ h, w.heap.size = h := ⟨_, rfl⟩
  rw [hhz] at HO
  have vw := Lib.hid (fun (k : Nat) (x : Wn) (hx : c.wins[k]? = some x) => vd.at hx)
  have hmj := vd.mj
  have hsw := vd.sw
  have hln := vd.ln
  have L3 := Lib.hid (hhz ▸ X.L3)
  have hV : aheadV c part n = smQ (isP part) (gW c.switch n) c.wins := rfl
  obtain ⟨V, hVV⟩ : ∃ V, aheadV c part n = V := ⟨_, rfl⟩
  rw [hVV] at HO hV
  clear hVV vd X
  obtain ⟨l, hl⟩ : ∃ l, c.wins = l := ⟨_, rfl⟩
  rw [hl] at vw L3 hV hln
  simp only [cfV, hl]
  clear hl
  obtain ⟨pg, qpg⟩ : ∃ pg, c.pages = pg := ⟨_, rfl⟩
  obtain ⟨mj, qmj⟩ : ∃ mj, c.major = mj := ⟨_, rfl⟩
  obtain ⟨sw, qsw⟩ : ∃ sw, c.switch = sw := ⟨_, rfl⟩
  obtain ⟨n1, qn1⟩ : ∃ n1, c.parts.length = n1 := ⟨_, rfl⟩
  obtain ⟨n2, qn2⟩ : ∃ n2, c.chans.length = n2 := ⟨_, rfl⟩
  obtain ⟨m, qm⟩ : ∃ m, l.length = m := ⟨_, rfl⟩
  rw [qmj] at hmj
  rw [qsw] at hsw
  rw [qm] at hln L3
  try rw [qmj] at hV
  rw [qsw] at hV
  simp only [qmj, qsw, qn1] at vw
  rw [qpg, qmj, qsw, qn1, qn2, qm]
  have hlm := qm
  clear qpg qmj qsw qn1 qn2 qm
  obtain ⟨w1, hw1⟩ : ∃ w1, w1 = w.alloc (.cells #[i64 pg, i64 mj, i64 sw, .slice p1 n1 c1, .slice p2 n2 c2, .slice p3 m c3] 26) := ⟨_, rfl⟩
  have b1 := Lib.hid (by rw [hw1]; exact (Below.refl _ _).alloc (Nat.le_of_eq hhz.symm) _ : Below h w w1)
  have hg1 : w1.heap.size = h + 1 := by rw [hw1, ← hhz]; simp
  have hZ := Lib.hid (fun k v hv => by
    rw [hw1, ← hhz, cell_of_row _ _ k _ _ _ (heap_alloc_new _ _), ← Array.getElem?_toList]; exact hv : ∀ (k : Nat) (v : Value), [i64 pg, i64 mj, i64 sw, Value.slice p1 n1 c1, .slice p2 n2 c2, .slice p3 m c3][k]? = some v → w1.cell? ⟨h, k, none⟩ = some v)
  go_enter Try.func27, Try.ntmps27
  go_upto_region 1 with fail
  try simp only [hhz]
  rw [← hw1]
  clear hw1
  have z5 := hZ.out 5 _ rfl
  have L1 := Lib.hid (L3.out.kept b1.out (Nat.le_refl _))
  clear L3
  go_wp2
  go_loopw [7, 9, 13] (fun s _ i wr => Below (h + 1) w1 wr ∧ ∃ j : Nat, j ≤ m ∧ i = .int .i64 j ∧ ∃ a : Int, s = .int .i64 a ∧ 0 ≤ a ∧ a ≤ j * 100000 ∧ V = a + smQ (isP part) (gW sw n) (l.drop j)) (fun s _ i _ => m - (intOf i).toNat)
  case atStart => exact ⟨Below.refl _ _, 0, Nat.zero_le _, rfl, 0, rfl, by omega, by omega, by rw [hV, List.drop_zero]; omega⟩
  case round =>
    obtain ⟨b2, j, hj, rfl, a, rfl, ha0, ha1, hk⟩ := hrel
    by_cases hjl : j < m
    · have hjI : (j : Int) < (m : Int) := by omega
      have hjb : j < 32 := by omega
      obtain ⟨x, hx⟩ : ∃ x, l[j]? = some x := ⟨_, List.getElem?_eq_getElem (by omega)⟩
      obtain ⟨b, off, rfl, hbl, y0, y1, y2⟩ := (L1.out.kept b2 (Nat.le_succ _)).cell3 j x hx rfl
      have hd := Lib.hid (smQ_drop (isP part) (gW sw n) hx)
      obtain ⟨hx0, hx1, hx2, hx3⟩ := vw.out j x hx
      obtain ⟨st, ln, pt⟩ := x
      simp only at hx0 hx1 hx2 hx3 y0 y1 y2
      obtain ⟨rs, hrs⟩ : ∃ rs, smQ (isP part) (gW sw n) (l.drop (j + 1)) = rs := ⟨_, rfl⟩
      rw [hrs] at hd
      replace hk := Lib.hid (hk.trans (congrArg (a + ·) hd.out))
      replace hrs := Lib.hid hrs
      replace b2 := Lib.hid b2

      clear hd L1 hx vw HO hV
      go_upto_region 5 with fail
      obtain ⟨w2, hw2⟩ : ∃ w2, w2 = wr.alloc (.cells #[i64 st, i64 ln, i64 pt] 40) := ⟨_, rfl⟩
      have b3 := Lib.hid (by rw [hw2]; exact b2.out.alloc (by have := b2.out.size; omega) _ : Below (h + 1) w1 w2)
      obtain ⟨g, hg⟩ : ∃ g, wr.heap.size = g := ⟨_, rfl⟩
      have v0 : w2.cell? ⟨g, 0, none⟩ = some (i64 st) := by rw [hw2, ← hg]; rw [cell_of_row _ _ 0 _ _ _ (heap_alloc_new _ _)]; rfl
      have v1 : w2.cell? ⟨g, 1, none⟩ = some (i64 ln) := by rw [hw2, ← hg]; rw [cell_of_row _ _ 1 _ _ _ (heap_alloc_new _ _)]; rfl
      have v2 : w2.cell? ⟨g, 2, none⟩ = some (i64 pt) := by rw [hw2, ← hg]; rw [cell_of_row _ _ 2 _ _ _ (heap_alloc_new _ _)]; rfl
      have hZ3 := Lib.hid (fun k v hv => (World.cell?_of_block (b3.out.block h (Nat.lt_succ_self _))).trans (hZ.out k v hv))
      have z0 := hZ3.out 0 _ rfl
      have z1 := hZ3.out 1 _ rfl
      have z2 := hZ3.out 2 _ rfl
      have z5 := hZ3.out 5 _ rfl
      try rw [hg]
      rw [← hw2]
      clear hw2 hg y0 y1 y2 hZ3
      by_cases k1 : pt = part
      · have kt : (pt == part) = true := by simpa using k1
        have hk2 := Lib.hid (by rw [hk.out]; simp only [isP, k1, decide_true, if_true]; omega : V = (a + gW sw n ⟨st, ln, pt⟩) + rs)
        have hgb := gW_bd (sw := sw) (n := n) (x := ⟨st, ln, pt⟩) hx1
        simp only at hgb
        have hg2 : gW sw n ⟨st, ln, pt⟩ = min (max (n - st - sw) 0) (ln - sw) := rfl
        have e1 : IntKind.i64.wrap (n - st) = n - st := by rw [IntKind.wrap_i64]; omega
        have e2 : IntKind.i64.wrap (n - st - sw) = n - st - sw := by rw [IntKind.wrap_i64]; omega
        have e3 : IntKind.i64.wrap (ln - sw) = ln - sw := by rw [IntKind.wrap_i64]; omega
        have hg3 := Lib.hid (by rw [hg2]; split <;> split <;> omega : (if ln - sw < if n - st - sw < 0 then 0 else n - st - sw then ln - sw else if n - st - sw < 0 then 0 else n - st - sw) = gW sw n ⟨st, ln, pt⟩)
        clear hg2
        clear hk hZ b1 b2
        replace hgb := Lib.hid hgb
        go_wp2
        go_roundw
        case rel => exact ⟨b3.out, j + 1, hjl, by go_num, _, rfl, by rw [hg3.out]; have := hgb.out; omega, by rw [hg3.out]; have := hgb.out; omega, by rw [hg3.out, hrs.out]; exact hk2.out⟩
        case measure => simp [intOf]; omega
      · have kt : (pt == part) = false := by simpa using k1
        have hk2 := Lib.hid (by rw [hk.out]; simp only [isP, decide_eq_false k1, Bool.false_eq_true, if_false]; omega : V = a + rs)
        clear hk hZ b1 b2
        go_wp2
        go_roundw
        case rel => exact ⟨b3.out, j + 1, hjl, by go_num, _, rfl, ha0, by omega, by rw [hrs.out]; exact hk2.out⟩
        case measure => simp [intOf]; omega
    · have hjm : j = m := by omega
      subst hjm
      rw [drop_end (by omega)] at hk
      have e : V = a := by rw [hk]; simp [smQ]
      have b2' := Lib.hid (b1.out.trans (b2.mono (Nat.le_succ _)))
      have hr := Lib.hid (HO.out wr b2'.out)
      subst e
      clear HO hk b2 b2' hV L1 vw hZ b1
      go_wp2
      exact hr.out
end Go.Proofs.Ytnglmiihlpjelaa.Cfg
