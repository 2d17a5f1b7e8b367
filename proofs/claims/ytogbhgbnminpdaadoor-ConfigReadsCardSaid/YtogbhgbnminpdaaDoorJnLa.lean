/-
  The law's Stay, of a lent configuration. | What law ConfigPacks asks of a lent configuration, and of what is packed and read again.
-/
import Derived.Test.YtogbhgbnminpdaaDoorJnPckLe
import Derived.Test.YtogbhgbnminpdaaDoorJnPckS
import Derived.Test.YtogbhgbnminpdaaDoorJnPckU
import Derived.Test.YtogbhgbnminpdaaDoorJnUn
import Derived.Test.YtogbhgbnminpdaaDoorJnBlL
set_option linter.unusedVariables false
set_option maxRecDepth 100000
set_option linter.unusedVariables false
namespace Go.Proofs.YtogbhgbnminpdaaDoor.Pck
open Go.Proofs.YtogbhgbnminpdaaDoor Go.Proofs.YtogbhgbnminpdaaDoor.Ser Go.Proofs.YtogbhgbnminpdaaDoor.Img Go.Proofs.YtogbhgbnminpdaaDoor.Cfg
open Go.ChangeShapes Go.WideShapes Go.ChangeAt Go.RowKit
set_option linter.unusedVariables false
set_option maxHeartbeats 8000000 in
theorem stay_says {w : World} {c : Cf} {p1 : Option Addr} {c1 : Nat} {p2 : Option Addr} {c2 : Nat} {p3 : Option Addr} {c3 : Nat} {g1 k1 g2 k2 g3 k3 : Nat} (X : Cx w w.heap.size c p1 c1 p2 c2 p3 c3)
    (F1 : LieS 3 w w.heap.size (some ⟨g1, 0, none⟩) (c.parts.length + 1) k1 (c.parts.map ptC ++ [stP])) (F2 : LieS 5 w w.heap.size (some ⟨g2, 0, none⟩) (c.chans.length + 1) k2 (c.chans.map chC ++ [stC])) (F3 : LieS 3 w w.heap.size (some ⟨g3, 0, none⟩) (c.wins.length + 1) k3 (c.wins.map wnC ++ [stW]))
    (hl : c.parts.length ≤ 20 ∧ c.chans.length ≤ 40 ∧ c.wins.length ≤ 60) :
    Calls Tryd.prog 13 #[cfV c (some ⟨g1, 0, none⟩) k1 (some ⟨g2, 0, none⟩) k2 (some ⟨g3, 0, none⟩) k3, cfV c p1 c1 p2 c2 p3 c3] w fun e w' => e = .returned (.bool true) ∧ Below w.heap.size w w' := by
  obtain ⟨r, hr⟩ : ∃ r : Ending → World → Prop, r = fun e w' => e = .returned (.bool true) ∧ Below w.heap.size w w' := ⟨_, rfl⟩
  rw [← hr]
  obtain ⟨h, hh⟩ : ∃ h, w.heap.size = h := ⟨_, rfl⟩
  have HO := Lib.hid (fun w' (b : Below h w w') => (by rw [hr]; exact ⟨rfl, hh ▸ b⟩ : r (.returned (.bool true)) w'))
  clear hr
  rw [hh] at F1 F2 F3
  have T1 := F1.take (m := c.parts.length) (c' := k1) (by omega) (by have := F1.cap; omega) (fun e => by cases e)
  have T2 := F2.take (m := c.chans.length) (c' := k2) (by omega) (by have := F2.cap; omega) (fun e => by cases e)
  have T3 := F3.take (m := c.wins.length) (c' := k3) (by omega) (by have := F3.cap; omega) (fun e => by cases e)
  rw [List.take_left' (by simp)] at T1 T2 T3
  have HS := Lib.hid (fun (u : World) (b : Below h w u) => by
    have hs := b.size
    rw [hh] at hs
    have X2 := X.later (hh.symm ▸ b) (Nat.le_refl _) (Nat.le_refl _)
    exact same_yes ((T1.kept b (Nat.le_refl _)).wide hs) ((T2.kept b (Nat.le_refl _)).wide hs) ((T3.kept b (Nat.le_refl _)).wide hs) X2.L1 X2.L2 X2.L3 (by omega))
  have HT := Lib.hid (fun (u : World) (b : Below h w u) => (by
    obtain ⟨b1, o1, e1, -, q1⟩ := (F1.kept b (Nat.le_refl _)).at_ (by omega)
    obtain ⟨b2, o2, e2, -, q2⟩ := (F2.kept b (Nat.le_refl _)).at_ (by omega)
    obtain ⟨b3, o3, e3, -, q3⟩ := (F3.kept b (Nat.le_refl _)).at_ (by omega)
    injection e1 with e1; injection e1 with e11 e12
    injection e2 with e2; injection e2 with e21 e22
    injection e3 with e3; injection e3 with e31 e32
    subst e11 e12 e21 e22 e31 e32
    have r1 := q1 c.parts.length stP (by rw [List.getElem?_append_right (by simp)]; simp) 1 (i64 (-71)) rfl
    have r2 := q2 c.chans.length stC (by rw [List.getElem?_append_right (by simp)]; simp) 0 (i64 (-71)) rfl
    have r3 := q3 c.wins.length stW (by rw [List.getElem?_append_right (by simp)]; simp) 0 (i64 (-71)) rfl
    simp only [Nat.zero_add, Nat.add_zero] at r1 r2 r3
    exact ⟨r1, r2, r3⟩ : u.cell? ⟨g1, c.parts.length * 3 + 1, none⟩ = some (i64 (-71)) ∧ u.cell? ⟨g2, c.chans.length * 5, none⟩ = some (i64 (-71)) ∧ u.cell? ⟨g3, c.wins.length * 3, none⟩ = some (i64 (-71))))
  have q1 := F1.cap
  have q2 := F2.cap
  have q3 := F3.cap
  clear F1 F2 F3 T1 T2 T3 X
  simp only [cfV] at HS ⊢
  obtain ⟨pg, qpg⟩ : ∃ pg, c.pages = pg := ⟨_, rfl⟩
  obtain ⟨mj, qmj⟩ : ∃ mj, c.major = mj := ⟨_, rfl⟩
  obtain ⟨sw, qsw⟩ : ∃ sw, c.switch = sw := ⟨_, rfl⟩
  obtain ⟨n1, qn1⟩ : ∃ n1, c.parts.length = n1 := ⟨_, rfl⟩
  obtain ⟨n2, qn2⟩ : ∃ n2, c.chans.length = n2 := ⟨_, rfl⟩
  obtain ⟨n3, qn3⟩ : ∃ n3, c.wins.length = n3 := ⟨_, rfl⟩
  simp only [qpg, qmj, qsw, qn1, qn2, qn3] at HS HT q1 q2 q3 hl
  simp only [qpg, qmj, qsw, qn1, qn2, qn3]
  clear qpg qmj qsw qn1 qn2 qn3
  obtain ⟨w1, hw1⟩ : ∃ w1, w1 = w.alloc (.cells #[i64 pg, i64 mj, i64 sw, .slice (some ⟨g1, 0, none⟩) n1 k1, .slice (some ⟨g2, 0, none⟩) n2 k2, .slice (some ⟨g3, 0, none⟩) n3 k3] 26) := ⟨_, rfl⟩
  have hg1 : w1.heap.size = h + 1 := by rw [hw1, ← hh]; simp
  obtain ⟨w2, hw2⟩ : ∃ w2, w2 = w1.alloc (.cells #[i64 pg, i64 mj, i64 sw, .slice p1 n1 c1, .slice p2 n2 c2, .slice p3 n3 c3] 26) := ⟨_, rfl⟩
  have hg2 : w2.heap.size = h + 2 := by rw [hw2]; simp [hg1]
  have b1 : Below h w w1 := by rw [hw1]; exact (Below.refl _ _).alloc (Nat.le_of_eq hh.symm) _
  have b12 : Below w1.heap.size w1 w2 := by rw [hw2]; exact below_alloc _ _
  have b2 := Lib.hid (b1.trans (b12.mono (by omega)))
  have hA : w2.heap[h]? = some (.cells #[i64 pg, i64 mj, i64 sw, .slice (some ⟨g1, 0, none⟩) n1 k1, .slice (some ⟨g2, 0, none⟩) n2 k2, .slice (some ⟨g3, 0, none⟩) n3 k3] 26) := by rw [b12.block h (by omega), hw1, ← hh]; exact heap_alloc_new _ _
  have hB : w2.heap[h + 1]? = some (.cells #[i64 pg, i64 mj, i64 sw, .slice p1 n1 c1, .slice p2 n2 c2, .slice p3 n3 c3] 26) := by rw [hw2, ← hg1]; exact heap_alloc_new _ _
  have HBB := Lib.hid (fun u (b : Below (h + 2) w2 u) => b2.out.trans (b.mono (by omega)))
  have hS := Lib.hid (fun u (b : Below (h + 2) w2 u) => (by
    have hA2 := (b.block h (by omega)).trans hA
    have hB2 := (b.block (h + 1) (by omega)).trans hB
    have ht := HT.out u (HBB.out u b)
    exact ⟨b, ⟨by rw [cell_of_row _ _ 0 _ _ _ hA2]; rfl, by rw [cell_of_row _ _ 1 _ _ _ hA2]; rfl, by rw [cell_of_row _ _ 2 _ _ _ hA2]; rfl, by rw [cell_of_row _ _ 3 _ _ _ hA2]; rfl, by rw [cell_of_row _ _ 4 _ _ _ hA2]; rfl, by rw [cell_of_row _ _ 5 _ _ _ hA2]; rfl⟩,
      ⟨by rw [cell_of_row _ _ 0 _ _ _ hB2]; rfl, by rw [cell_of_row _ _ 1 _ _ _ hB2]; rfl, by rw [cell_of_row _ _ 2 _ _ _ hB2]; rfl, by rw [cell_of_row _ _ 3 _ _ _ hB2]; rfl, by rw [cell_of_row _ _ 4 _ _ _ hB2]; rfl, by rw [cell_of_row _ _ 5 _ _ _ hB2]; rfl⟩, ht.1, ht.2.1, ht.2.2⟩ : (fun u => Below (h + 2) w2 u ∧ (u.cell? ⟨h, 0, none⟩ = some (i64 pg) ∧ u.cell? ⟨h, 1, none⟩ = some (i64 mj) ∧ u.cell? ⟨h, 2, none⟩ = some (i64 sw) ∧ u.cell? ⟨h, 3, none⟩ = some (.slice (some ⟨g1, 0, none⟩) n1 k1) ∧ u.cell? ⟨h, 4, none⟩ = some (.slice (some ⟨g2, 0, none⟩) n2 k2) ∧ u.cell? ⟨h, 5, none⟩ = some (.slice (some ⟨g3, 0, none⟩) n3 k3)) ∧ (u.cell? ⟨h + 1, 0, none⟩ = some (i64 pg) ∧ u.cell? ⟨h + 1, 1, none⟩ = some (i64 mj) ∧ u.cell? ⟨h + 1, 2, none⟩ = some (i64 sw) ∧ u.cell? ⟨h + 1, 3, none⟩ = some (.slice p1 n1 c1) ∧ u.cell? ⟨h + 1, 4, none⟩ = some (.slice p2 n2 c2) ∧ u.cell? ⟨h + 1, 5, none⟩ = some (.slice p3 n3 c3)) ∧ u.cell? ⟨g1, n1 * 3 + 1, none⟩ = some (i64 (-71)) ∧ u.cell? ⟨g2, n2 * 5, none⟩ = some (i64 (-71)) ∧ u.cell? ⟨g3, n3 * 3, none⟩ = some (i64 (-71))) u))
  go_enter Tryd.func13, Tryd.ntmps13
  go_upto_region 1 with fail
  try simp only [hh]
  rw [← hw1]
  try simp only [hg1]
  rw [← hw2]
  clear hw1 hw2 b1 b12 hA hB hg1
  obtain ⟨-, -, ⟨-, -, -, z3, z4, z5⟩, -⟩ := hS.out w2 (Below.refl _ _)
  go_upto_region 4 with fail
  clear z3 z4 z5
  have e1 : IntKind.i64.wrap ((n1 : Int) + 1) = (n1 : Int) + 1 := by rw [IntKind.wrap_i64]; omega
  have e2 : IntKind.i64.wrap ((n2 : Int) + 1) = (n2 : Int) + 1 := by rw [IntKind.wrap_i64]; omega
  have e3 : IntKind.i64.wrap ((n3 : Int) + 1) = (n3 : Int) + 1 := by rw [IntKind.wrap_i64]; omega
  have i1 : (n1 : Int) + 1 ≤ (k1 : Int) := by omega
  have i2 : (n2 : Int) + 1 ≤ (k2 : Int) := by omega
  have i3 : (n3 : Int) + 1 ≤ (k3 : Int) := by omega
  obtain ⟨-, ⟨x0, x1, x2, x3, x4, x5⟩, ⟨y0, y1, y2, y3, y4, y5⟩, -, -, -⟩ := hS.out w2 (Below.refl _ _)
  go_wp2_with (go_at_call 15; (with_reducible refine (HS.out _ b2.out).mono ?_); rintro e t2 ⟨rfl, hb9⟩; have ht2 := Lib.hid (hb9.mono (Nat.le_of_eq hg2.symm)); clear hb9; obtain ⟨-, ⟨a0, a1, a2, a3, a4, a5⟩, -, s1, s2, s3⟩ := hS.out t2 ht2.out)
  exact HO.out _ (HBB.out _ ht2.out)
end Go.Proofs.YtogbhgbnminpdaaDoor.Pck
set_option maxRecDepth 100000
set_option linter.unusedVariables false
namespace Go.Proofs.YtogbhgbnminpdaaDoor.Pck
open Go.Proofs.YtogbhgbnminpdaaDoor Go.Proofs.YtogbhgbnminpdaaDoor.Ser Go.Proofs.YtogbhgbnminpdaaDoor.Img Go.Proofs.YtogbhgbnminpdaaDoor.Cfg
open Go.ChangeShapes Go.WideShapes Go.ChangeAt Go.RowKit
set_option linter.unusedVariables false
theorem evP : Even 3 [stP] := even_pt [⟨⟨#[]⟩, -71, 0⟩]
theorem evC : Even 5 [stC] := even_ch [⟨-71, 0, 0, 0, 0⟩]
theorem evW : Even 3 [stW] := even_wn [⟨-71, 0, 0⟩]
/-- The lent rows lie. -/
structure Lt (w : World) (c : Cf) (g1 k1 g2 k2 g3 k3 : Nat) : Prop where
  l1 : LieS 3 w w.heap.size (some ⟨g1, 0, none⟩) (c.parts.length + 1) k1 (c.parts.map ptC ++ [stP])
  l2 : LieS 5 w w.heap.size (some ⟨g2, 0, none⟩) (c.chans.length + 1) k2 (c.chans.map chC ++ [stC])
  l3 : LieS 3 w w.heap.size (some ⟨g3, 0, none⟩) (c.wins.length + 1) k3 (c.wins.map wnC ++ [stW])
  cap : k1 ≤ 9223372036854775807
section
variable {w w' : World} {c : Cf} {B g1 k1 g2 k2 g3 k3 : Nat}
theorem lt_of (F1 : Fu 47 3 w B g1 k1 (c.parts.map ptC) stP) (F2 : Fu 49 5 w B g2 k2 (c.chans.map chC) stC) (F3 : Fu 51 3 w B g3 k3 (c.wins.map wnC) stW) : Lt w c g1 k1 g2 k2 g3 k3 := by
  have h1 := F1.lie (even_pt _) evP
  have h2 := F2.lie (even_ch _) evC
  have h3 := F3.lie (even_wn _) evW
  rw [List.length_map] at h1 h2 h3
  obtain ⟨p, q, e, -, -, hm⟩ := ownS_form F1.own
  injection e with _ _ e
  subst e
  exact ⟨h1, h2, h3, by unfold maxLen at hm; omega⟩
theorem Lt.kept (L : Lt w c g1 k1 g2 k2 g3 k3) (b : Below w.heap.size w w') : Lt w' c g1 k1 g2 k2 g3 k3 :=
  ⟨(L.l1.kept b (Nat.le_refl _)).wide b.size, (L.l2.kept b (Nat.le_refl _)).wide b.size, (L.l3.kept b (Nat.le_refl _)).wide b.size, L.cap⟩
theorem Lt.cx (L : Lt w c g1 k1 g2 k2 g3 k3) (wf : Wf c) : Cx w w.heap.size c (some ⟨g1, 0, none⟩) k1 (some ⟨g2, 0, none⟩) k2 (some ⟨g3, 0, none⟩) k3 := by
  have T1 := L.l1.take (m := c.parts.length) (c' := k1) (by omega) (by have := L.l1.cap; omega) (fun e => by cases e)
  have T2 := L.l2.take (m := c.chans.length) (c' := k2) (by omega) (by have := L.l2.cap; omega) (fun e => by cases e)
  have T3 := L.l3.take (m := c.wins.length) (c' := k3) (by omega) (by have := L.l3.cap; omega) (fun e => by cases e)
  rw [List.take_left' (by simp)] at T1 T2 T3
  exact ⟨T1, T2, T3, wf, L.cap⟩
end
theorem pack_cx {w : World} {c : Cf} {p1 : Option Addr} {c1 : Nat} {p2 : Option Addr} {c2 : Nat} {p3 : Option Addr} {c3 : Nat} (X : Cx w w.heap.size c p1 c1 p2 c2 p3 c3) :
    Calls Tryd.prog 9 #[cfV c p1 c1 p2 c2 p3 c3] w (Told w (packO c) (chk c)) := pack_says X.L1 X.L2 X.L3 X.wf X.cap
theorem rpack_cx {w : World} {c : Cf} {p1 : Option Addr} {c1 : Nat} {p2 : Option Addr} {c2 : Nat} {p3 : Option Addr} {c3 : Nat} (X : Cx w w.heap.size c p1 c1 p2 c2 p3 c3) :
    Calls Tryd.prog 10 #[cfV c p1 c1 p2 c2 p3 c3] w (Told w (packO c) (chk c)) := rpack_says X.L1 X.L2 X.L3 X.wf
theorem packO_len (c : Cf) : (packO c).length ≤ 1300 := by
  unfold packO
  split
  · rename_i h
    have := (b_len h).2.2 c.wins.length
    unfold packC headC
    rw [List.length_append, nums_len]
    show _ + 4 * 1 ≤ 1300
    omega
  · simp
theorem unpack_pack {w : World} {c : Cf} (hz : Cfg.chk c = 0) {p : Option Addr} {n q : Nat} (L : Lie .u8 w w.heap.size p n q (packC c)) (hb : Byt (packC c)) (hq : q ≤ 9223372036854775807) (hg : w.cell? ⟨0, 0, none⟩ = some (.iface 105 (hnd 67))) :
    Calls Tryd.prog 14 #[.slice p n q] w fun e w' => ∃ p1 c1 p2 c2 p3 c3, e = .returned (.tuple #[cfV c p1 c1 p2 c2 p3 c3, i64 0]) ∧ Below w.heap.size w w' ∧ LieS 3 w' w'.heap.size p1 c.parts.length c1 (c.parts.map ptC) ∧ LieS 5 w' w'.heap.size p2 c.chans.length c2 (c.chans.map chC) ∧ LieS 3 w' w'.heap.size p3 c.wins.length c3 (c.wins.map wnC) :=
  (unpack_says L hb hq hg).mono fun e w' ⟨bw, h⟩ => by
    rcases h with ⟨c', v, h0, hp, he, p1, c1, p2, c2, p3, c3, rfl, l1, l2, l3, -⟩ | ⟨hn, -⟩
    · have e1 := rdC_pack h0
      rw [hp, rdC_pack hz] at e1
      injection e1 with e1
      subst e1
      exact ⟨p1, c1, p2, c2, p3, c3, he, bw, l1, l2, l3⟩
    · exact absurd rfl (hn c hz)
end Go.Proofs.YtogbhgbnminpdaaDoor.Pck
