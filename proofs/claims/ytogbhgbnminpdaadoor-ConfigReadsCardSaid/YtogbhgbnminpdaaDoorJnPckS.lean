/-
  The reference: Same, of two configurations that are one.
-/
import Derived.Test.YtogbhgbnminpdaaDoorJnCfgG
import Derived.Lib.Hide
set_option linter.unusedVariables false
set_option maxRecDepth 100000
set_option linter.unusedVariables false
namespace Go.Proofs.YtogbhgbnminpdaaDoor.Cfg
open Go.Proofs.YtogbhgbnminpdaaDoor
open Go.ChangeShapes Go.WideShapes Go.ChangeAt Go.RowKit
set_option linter.unusedVariables false
set_option maxHeartbeats 8000000 in
theorem same_yes {w : World} {c : Cf} {p1 : Option Addr} {c1 : Nat} {p2 : Option Addr} {c2 : Nat} {p3 : Option Addr} {c3 : Nat} {q1 : Option Addr} {d1 : Nat} {q2 : Option Addr} {d2 : Nat} {q3 : Option Addr} {d3 : Nat}
    (L1 : LieS 3 w w.heap.size p1 c.parts.length c1 (c.parts.map ptC)) (L2 : LieS 5 w w.heap.size p2 c.chans.length c2 (c.chans.map chC)) (L3 : LieS 3 w w.heap.size p3 c.wins.length c3 (c.wins.map wnC))
    (M1 : LieS 3 w w.heap.size q1 c.parts.length d1 (c.parts.map ptC)) (M2 : LieS 5 w w.heap.size q2 c.chans.length d2 (c.chans.map chC)) (M3 : LieS 3 w w.heap.size q3 c.wins.length d3 (c.wins.map wnC))
    (hl : c.parts.length ≤ 1000000 ∧ c.chans.length ≤ 1000000 ∧ c.wins.length ≤ 1000000) :
    Calls Tryd.prog 15 #[cfV c p1 c1 p2 c2 p3 c3, cfV c q1 d1 q2 d2 q3 d3] w fun e w' => e = .returned (.bool true) ∧ Below w.heap.size w w' := by
  obtain ⟨r, hr⟩ : ∃ r : Ending → World → Prop, r = fun e w' => e = .returned (.bool true) ∧ Below w.heap.size w w' := ⟨_, rfl⟩
  rw [← hr]
  obtain ⟨h, hh⟩ : ∃ h, w.heap.size = h := ⟨_, rfl⟩
  have HO := Lib.hid (fun w' (b : Below h w w') => (by rw [hr]; exact ⟨rfl, hh ▸ b⟩ : r (.returned (.bool true)) w'))
  clear hr
  simp only [cfV]
  obtain ⟨pg, epg⟩ : ∃ x, c.pages = x := ⟨_, rfl⟩
  obtain ⟨mj, emj⟩ : ∃ x, c.major = x := ⟨_, rfl⟩
  obtain ⟨sw, esw⟩ : ∃ x, c.switch = x := ⟨_, rfl⟩
  obtain ⟨lp, elp⟩ : ∃ x, c.parts = x := ⟨_, rfl⟩
  obtain ⟨lc, elc⟩ : ∃ x, c.chans = x := ⟨_, rfl⟩
  obtain ⟨lw, elw⟩ : ∃ x, c.wins = x := ⟨_, rfl⟩
  rw [elp, elc, elw] at hl
  rw [elp] at L1 M1
  rw [elc] at L2 M2
  rw [elw] at L3 M3
  rw [epg, emj, esw, elp, elc, elw]
  obtain ⟨n1, en1⟩ : ∃ x, lp.length = x := ⟨_, rfl⟩
  obtain ⟨n2, en2⟩ : ∃ x, lc.length = x := ⟨_, rfl⟩
  obtain ⟨n3, en3⟩ : ∃ x, lw.length = x := ⟨_, rfl⟩
  rw [en1, en2, en3] at hl
  rw [en1] at L1 M1
  rw [en2] at L2 M2
  rw [en3] at L3 M3
  rw [en1, en2, en3]
  clear epg emj esw elp elc elw
  obtain ⟨w1, hw1⟩ : ∃ w1, w1 = w.alloc (.cells #[i64 pg, i64 mj, i64 sw, .slice p1 n1 c1, .slice p2 n2 c2, .slice p3 n3 c3] 26) := ⟨_, rfl⟩
  obtain ⟨w2, hw2⟩ : ∃ w2, w2 = w1.alloc (.cells #[i64 pg, i64 mj, i64 sw, .slice q1 n1 d1, .slice q2 n2 d2, .slice q3 n3 d3] 26) := ⟨_, rfl⟩
  have s1 : w1.heap.size = h + 1 := by rw [hw1, ← hh]; simp
  have s2 : w2.heap.size = h + 2 := by rw [hw2]; simp [s1]
  have b1 : Below h w w1 := by rw [hw1, ← hh]; exact (Below.refl _ _).alloc (Nat.le_refl _) _
  have b2 : Below (h + 1) w1 w2 := by rw [hw2, ← s1]; exact (Below.refl _ _).alloc (Nat.le_refl _) _
  have k1 : w2.heap[h]? = some (.cells #[i64 pg, i64 mj, i64 sw, .slice p1 n1 c1, .slice p2 n2 c2, .slice p3 n3 c3] 26 (0, 0)) := (b2.block h (by omega)).trans (by rw [hw1, ← hh]; exact heap_alloc_new _ _)
  have k2 : w2.heap[h + 1]? = some (.cells #[i64 pg, i64 mj, i64 sw, .slice q1 n1 d1, .slice q2 n2 d2, .slice q3 n3 d3] 26 (0, 0)) := by rw [hw2, ← s1]; exact heap_alloc_new _ _
  have BW0 := Lib.hid (b1.trans (b2.mono (Nat.le_succ _)))
  rw [hh] at L1 L2 L3 M1 M2 M3
  have K1A := Lib.hid (L1.kept BW0.out (Nat.le_refl _))
  have K2A := Lib.hid (L2.kept BW0.out (Nat.le_refl _))
  have K3A := Lib.hid (L3.kept BW0.out (Nat.le_refl _))
  have K1B := Lib.hid (M1.kept BW0.out (Nat.le_refl _))
  have K2B := Lib.hid (M2.kept BW0.out (Nat.le_refl _))
  have K3B := Lib.hid (M3.kept BW0.out (Nat.le_refl _))
  have HS := Lib.hid (fun (u : World) (bu : Below (h + 2) w2 u) => (by
    have e1 := (bu.block h (by omega)).trans k1
    have e2 := (bu.block (h + 1) (by omega)).trans k2
    refine ⟨⟨?_, ?_, ?_, ?_, ?_, ?_⟩, ?_, ?_, ?_, ?_, ?_, ?_⟩
    · rw [cell_of_row _ _ 0 _ _ _ e1]; rfl
    · rw [cell_of_row _ _ 1 _ _ _ e1]; rfl
    · rw [cell_of_row _ _ 2 _ _ _ e1]; rfl
    · rw [cell_of_row _ _ 3 _ _ _ e1]; rfl
    · rw [cell_of_row _ _ 4 _ _ _ e1]; rfl
    · rw [cell_of_row _ _ 5 _ _ _ e1]; rfl
    · rw [cell_of_row _ _ 0 _ _ _ e2]; rfl
    · rw [cell_of_row _ _ 1 _ _ _ e2]; rfl
    · rw [cell_of_row _ _ 2 _ _ _ e2]; rfl
    · rw [cell_of_row _ _ 3 _ _ _ e2]; rfl
    · rw [cell_of_row _ _ 4 _ _ _ e2]; rfl
    · rw [cell_of_row _ _ 5 _ _ _ e2]; rfl : (u.cell? ⟨h, 0, none⟩ = some (i64 pg) ∧ u.cell? ⟨h, 1, none⟩ = some (i64 mj) ∧ u.cell? ⟨h, 2, none⟩ = some (i64 sw) ∧ u.cell? ⟨h, 3, none⟩ = some (.slice p1 n1 c1) ∧ u.cell? ⟨h, 4, none⟩ = some (.slice p2 n2 c2) ∧ u.cell? ⟨h, 5, none⟩ = some (.slice p3 n3 c3)) ∧ (u.cell? ⟨h + 1, 0, none⟩ = some (i64 pg) ∧ u.cell? ⟨h + 1, 1, none⟩ = some (i64 mj) ∧ u.cell? ⟨h + 1, 2, none⟩ = some (i64 sw) ∧ u.cell? ⟨h + 1, 3, none⟩ = some (.slice q1 n1 d1) ∧ u.cell? ⟨h + 1, 4, none⟩ = some (.slice q2 n2 d2) ∧ u.cell? ⟨h + 1, 5, none⟩ = some (.slice q3 n3 d3))))
  have BW := Lib.hid (Below.refl (h + 2) w2)
  have hcs0 := HS.out w2 BW.out
  obtain ⟨⟨a0, a1, a2, z3a, z4a, z5a⟩, e0, e1, e2, z3b, z4b, z5b⟩ := hcs0
  clear L1 L2 L3 M1 M2 M3 k1 k2 b1 b2
  go_enter Tryd.func15, Tryd.ntmps15
  go_upto_region 1 with fail
  try simp only [hh]
  (try simp only [s1])
  rw [← hw1, ← hw2]
  clear hw1 hw2
  go_wp2
  go_loopw [5] (fun i wr => Below (h + 2) w2 wr ∧ ∃ j : Nat, j ≤ n1 ∧ i = .int .i64 j) (fun i _ => n1 - (intOf i).toNat)
  case atStart => exact ⟨BW.out, 0, Nat.zero_le _, rfl⟩
  case round =>
    obtain ⟨b2, j, hj, rfl⟩ := hrel
    have hcs := HS.out wr b2
    by_cases hjl : j < n1
    · have hjI : (j : Int) < (n1 : Int) := by omega
      obtain ⟨x, hx⟩ : ∃ x, lp[j]? = some x := ⟨_, List.getElem?_eq_getElem (by omega)⟩
      obtain ⟨b, off, rfl, hbl, y0, y1, y2⟩ := (K1A.out.kept b2 (by omega)).cell3 j x hx rfl
      obtain ⟨b', off', rfl, hbl', x0, x1, x2⟩ := (K1B.out.kept b2 (by omega)).cell3 j x hx rfl
      have z3a := hcs.1.2.2.2.1
      have z3b := hcs.2.2.2.2.1
      obtain ⟨nm, pp, aa⟩ := x
      simp only at y0 y1 y2 x0 x1 x2
      replace b2 := Lib.hid b2
      clear hx hcs
      go_wp2
      go_region
      all_goals
        go_wp2
        go_roundw
        case rel => exact ⟨b2.out.drew, j + 1, hjl, by go_num⟩
        case measure => simp [intOf]; omega
    · have hjm : j = n1 := by omega
      have hje : (j : Int) = (n1 : Int) := by omega
      have z3a := hcs.1.2.2.2.1
      have z3b := hcs.2.2.2.2.1
      replace BW := Lib.hid b2
      clear b2 hcs
      go_wp2
      go_loopw [6] (fun i wr => Below (h + 2) w2 wr ∧ ∃ j : Nat, j ≤ n2 ∧ i = .int .i64 j) (fun i _ => n2 - (intOf i).toNat)
      case atStart => exact ⟨BW.out, 0, Nat.zero_le _, rfl⟩
      case round =>
        obtain ⟨b2, j, hj, rfl⟩ := hrel
        have hcs := HS.out wr b2
        by_cases hjl : j < n2
        · have hjI : (j : Int) < (n2 : Int) := by omega
          obtain ⟨x, hx⟩ : ∃ x, lc[j]? = some x := ⟨_, List.getElem?_eq_getElem (by omega)⟩
          obtain ⟨b, off, rfl, hbl, y0, y1, y2, y3, y4⟩ := (K2A.out.kept b2 (by omega)).cell5 j x hx rfl
          obtain ⟨b', off', rfl, hbl', x0, x1, x2, x3, x4⟩ := (K2B.out.kept b2 (by omega)).cell5 j x hx rfl
          have z4a := hcs.1.2.2.2.2.1
          have z4b := hcs.2.2.2.2.2.1
          obtain ⟨g0, g1, g2, g3, g4⟩ := x
          simp only at y0 y1 y2 y3 y4 x0 x1 x2 x3 x4
          replace b2 := Lib.hid b2
          clear hx hcs
          go_wp2
          go_region
          all_goals
            go_wp2
            go_roundw
            case rel => exact ⟨b2.out.drew, j + 1, hjl, by go_num⟩
            case measure => simp [intOf]; omega
        · have hjm : j = n2 := by omega
          have hje : (j : Int) = (n2 : Int) := by omega
          have z4a := hcs.1.2.2.2.2.1
          have z4b := hcs.2.2.2.2.2.1
          replace BW := Lib.hid b2
          clear b2 hcs
          go_wp2
          go_loopw [7] (fun i wr => Below (h + 2) w2 wr ∧ ∃ j : Nat, j ≤ n3 ∧ i = .int .i64 j) (fun i _ => n3 - (intOf i).toNat)
          case atStart => exact ⟨BW.out, 0, Nat.zero_le _, rfl⟩
          case round =>
            obtain ⟨b2, j, hj, rfl⟩ := hrel
            have hcs := HS.out wr b2
            by_cases hjl : j < n3
            · have hjI : (j : Int) < (n3 : Int) := by omega
              obtain ⟨x, hx⟩ : ∃ x, lw[j]? = some x := ⟨_, List.getElem?_eq_getElem (by omega)⟩
              obtain ⟨b, off, rfl, hbl, y0, y1, y2⟩ := (K3A.out.kept b2 (by omega)).cell3 j x hx rfl
              obtain ⟨b', off', rfl, hbl', x0, x1, x2⟩ := (K3B.out.kept b2 (by omega)).cell3 j x hx rfl
              have z5a := hcs.1.2.2.2.2.2
              have z5b := hcs.2.2.2.2.2.2
              obtain ⟨g0, g1, g2⟩ := x
              simp only at y0 y1 y2 x0 x1 x2
              replace b2 := Lib.hid b2
              clear hx hcs
              go_wp2
              go_region
              all_goals
                go_wp2
                go_roundw
                case rel => exact ⟨b2.out.drew, j + 1, hjl, by go_num⟩
                case measure => simp [intOf]; omega
            · have hjm : j = n3 := by omega
              have hje : (j : Int) = (n3 : Int) := by omega
              have z5a := hcs.1.2.2.2.2.2
              have z5b := hcs.2.2.2.2.2.2
              replace BW := Lib.hid b2
              clear b2 hcs
              have hr := Lib.hid (HO.out wr (BW0.out.trans (BW.out.mono (by omega))))
              clear HO BW BW0
              go_wp2
              exact hr.out
end Go.Proofs.YtogbhgbnminpdaaDoor.Cfg
