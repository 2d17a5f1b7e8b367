/-
  Whether every configuration is one, its bytes, and that these are read again; what is handed in stays, and two answers are two (law ConfigPacks returns true, and each argument reads as it read). No condition on the arguments: whatever they are. The card ties the listed variable of Go's library to the program's text.
-/
import Derived.Test.YtogbhgbnminpdaaDoorJnCfgLaid
import Derived.Test.YtogbhgbnminpdaaDoorJnPlnAo
import Derived.Test.YtogbhgbnminpdaaDoorCards
import Derived.Test.YtogbhgbnminpdaaDoorTie
import Derived.Test.YtogbhgbnminpdaaDoorJnLa
import Derived.Carry
import Derived.Lay
import Derived.LaidOnce
import Derived.OpenShut
import Derived.Deep.Slices
import Derived.SevenTiedAt
set_option linter.unusedVariables false
namespace Go.Proofs.YtogbhgbnminpdaaDoor.configPacks
open Go Go.Proofs.YtogbhgbnminpdaaDoor Go.Proofs.YtogbhgbnminpdaaDoor.Ser Go.Proofs.YtogbhgbnminpdaaDoor.Img Go.Proofs.YtogbhgbnminpdaaDoor.Cfg Go.Proofs.YtogbhgbnminpdaaDoor.Pck Go.ChangeShapes Go.WideShapes Go.ChangeAt Go.RowKit
set_option linter.unusedVariables false
set_option maxRecDepth 100000

/-- What the call does. -/
def Fine (W : World) (e : Ending) (W' : World) : Prop := e = .returned (.bool true) ∧ Below W.heap.size W W'
set_option maxHeartbeats 8000000 in
theorem walk {c0 : Cf} {p1_0 : Option Addr} {k1_0 : Nat} {p2_0 : Option Addr} {k2_0 : Nat} {p3_0 : Option Addr} {k3_0 : Nat} {c1 : Cf} {p1_1 : Option Addr} {k1_1 : Nat} {p2_1 : Option Addr} {k2_1 : Nat} {p3_1 : Option Addr} {k3_1 : Nat} (W : World) (hT : W.cell? ⟨0, 0, none⟩ = some (.iface 105 (hnd 67))) (X0 : Cx W W.heap.size c0 p1_0 k1_0 p2_0 k2_0 p3_0 k3_0) (X1 : Cx W W.heap.size c1 p1_1 k1_1 p2_1 k2_1 p3_1 k3_1) :
    Calls Tryd.prog 3 #[cfV c0 p1_0 k1_0 p2_0 k2_0 p3_0 k3_0, cfV c1 p1_1 k1_1 p2_1 k2_1 p3_1 k3_1] W (Fine W) := by
  unfold Fine
  obtain ⟨r, hr⟩ : ∃ r : Ending → World → Prop, r = fun e w' => e = .returned (.bool true) ∧ Below W.heap.size W w' := ⟨_, rfl⟩
  rw [← hr]
  obtain ⟨h0, hh0⟩ : ∃ h0, W.heap.size = h0 := ⟨_, rfl⟩
  have HO := Lib.hid (fun u (b : Below h0 W u) => (by rw [hr]; exact ⟨rfl, hh0 ▸ b⟩ : r (.returned (.bool true)) u))
  clear hr
  have h0p : 0 < h0 := by rw [← hh0]; exact World.block_lt_of_cell? W _ hT
  have HG := Lib.hid (fun (u : World) (b : Below h0 W u) => (World.cell?_of_block (b.block 0 h0p)).trans hT)
  have HX0 := Lib.hid (fun (u : World) (hu : Below h0 W u) => X0.later hu (Nat.le_of_eq hh0) (by omega))
  have HX1 := Lib.hid (fun (u : World) (hu : Below h0 W u) => X1.later hu (Nat.le_of_eq hh0) (by omega))
  have wf0 := Lib.hid X0.wf
  have HB0 := Lib.hid (fun (u : World) (hu : Below h0 W u) => big_is (HX0.out u hu))
  have HB1 := Lib.hid (fun (u : World) (hu : Below h0 W u) => big_is (HX1.out u hu))
  have HLn := Lib.hid (fun (hb : bigV c0 = false) (u : World) (hu : Below h0 W u) => lent_says (HX0.out u hu) (bigV_no hb))
  have HP1 := Lib.hid (fun (u : World) (hu : Below h0 W u) => pack_cx (HX1.out u hu))
  have HPr := Lib.hid (fun (u : World) (hu : Below h0 W u) => rpack_cx (HX0.out u hu))
  have HCr := Lib.hid (fun (u : World) (hu : Below h0 W u) => rcheck_cx (HX0.out u hu))
  have HCf := Lib.hid (fun (u : World) (g1 k1 g2 k2 g3 k3 : Nat) (L : Lt u c0 g1 k1 g2 k2 g3 k3) => check_cx (L.cx wf0.out))
  have HPf := Lib.hid (fun (u : World) (g1 k1 g2 k2 g3 k3 : Nat) (L : Lt u c0 g1 k1 g2 k2 g3 k3) => pack_cx (L.cx wf0.out))
  have HSt := Lib.hid (fun (hb : bigV c0 = false) (u : World) (hu : Below h0 W u) (g1 k1 g2 k2 g3 k3 : Nat) (L : Lt u c0 g1 k1 g2 k2 g3 k3) => stay_says (HX0.out u hu) L.l1 L.l2 L.l3 (bigV_no hb))
  have HSm := Lib.hid (fun (hb : bigV c0 = false) (u : World) (hu : Below h0 W u) {p1 : Option Addr} {e1 : Nat} {p2 : Option Addr} {e2 : Nat} {p3 : Option Addr} {e3 : Nat} (l1 : LieS 3 u u.heap.size p1 c0.parts.length e1 (c0.parts.map ptC)) (l2 : LieS 5 u u.heap.size p2 c0.chans.length e2 (c0.chans.map chC)) (l3 : LieS 3 u u.heap.size p3 c0.wins.length e3 (c0.wins.map wnC)) => same_yes l1 l2 l3 (HX0.out u hu).L1 (HX0.out u hu).L2 (HX0.out u hu).L3 (by have := bigV_no hb; omega))
  have HUn := Lib.hid (fun (hz : Cfg.chk c0 = 0) (u : World) (hu : Below h0 W u) {p : Option Addr} {n q : Nat} (L : Lie .u8 u u.heap.size p n q (packC c0)) (hq : q ≤ 9223372036854775807) => unpack_pack hz L (fun x hx => (List.mem_append.1 hx).elim (head_byt' c0 x) (nums_byt _ x)) hq (HG.out u hu))
  have hpk0 := Lib.hid (fun (hz : Cfg.chk c0 = 0) => (if_pos hz : packO c0 = packC c0))
  have hP0 := Lib.hid (packO_len c0)
  obtain ⟨P, hP⟩ : ∃ P, packO c0 = P := ⟨_, rfl⟩
  obtain ⟨D, hD⟩ : ∃ D, packO c1 = D := ⟨_, rfl⟩
  have hD0 := Lib.hid (packO_len c1)
  have hpk : Cfg.chk c0 = 0 → P = packC c0 := fun hz => hP.symm.trans (hpk0.out hz)
  obtain ⟨kk, hkk⟩ : ∃ kk, Cfg.chk c0 = kk := ⟨_, rfl⟩
  obtain ⟨kj, hkj⟩ : ∃ kj, Cfg.chk c1 = kj := ⟨_, rfl⟩
  rw [hkk] at hpk
  replace hpk := Lib.hid hpk
  simp only [hP, hkk] at HPr HPf HCf HCr HUn
  simp only [hD, hkj] at HP1
  rw [hP] at hP0
  rw [hD] at hD0
  obtain ⟨v0, hv0⟩ : ∃ v0, bigV c0 = v0 := ⟨_, rfl⟩
  obtain ⟨v1, hv1⟩ : ∃ v1, bigV c1 = v1 := ⟨_, rfl⟩
  simp only [hv0] at HB0 HLn HSt HSm
  simp only [hv1] at HB1
  clear hP hD hkk hkj hv0 hv1 hpk0
  obtain ⟨pg, qpg⟩ : ∃ pg, c0.pages = pg := ⟨_, rfl⟩
  obtain ⟨mj, qmj⟩ : ∃ mj, c0.major = mj := ⟨_, rfl⟩
  obtain ⟨sw, qsw⟩ : ∃ sw, c0.switch = sw := ⟨_, rfl⟩
  obtain ⟨n1, qn1⟩ : ∃ n1, c0.parts.length = n1 := ⟨_, rfl⟩
  obtain ⟨n2, qn2⟩ : ∃ n2, c0.chans.length = n2 := ⟨_, rfl⟩
  obtain ⟨n3, qn3⟩ : ∃ n3, c0.wins.length = n3 := ⟨_, rfl⟩
  obtain ⟨pg1, rpg⟩ : ∃ pg1, c1.pages = pg1 := ⟨_, rfl⟩
  obtain ⟨mj1, rmj⟩ : ∃ mj1, c1.major = mj1 := ⟨_, rfl⟩
  obtain ⟨sw1, rsw⟩ : ∃ sw1, c1.switch = sw1 := ⟨_, rfl⟩
  obtain ⟨m1, rm1⟩ : ∃ m1, c1.parts.length = m1 := ⟨_, rfl⟩
  obtain ⟨m2, rm2⟩ : ∃ m2, c1.chans.length = m2 := ⟨_, rfl⟩
  obtain ⟨m3, rm3⟩ : ∃ m3, c1.wins.length = m3 := ⟨_, rfl⟩
  simp only [cfV, qpg, qmj, qsw, qn1, qn2, qn3, rpg, rmj, rsw, rm1, rm2, rm3] at HB0 HB1 HLn HP1 HPr HCr HCf HPf HSt HSm HUn
  simp only [cfV, qpg, qmj, qsw, qn1, qn2, qn3, rpg, rmj, rsw, rm1, rm2, rm3]
  clear HX0 HX1 qpg qmj qsw qn1 qn2 qn3 rpg rmj rsw rm1 rm2 rm3
  obtain ⟨w1, hw1⟩ : ∃ w1, w1 = W.alloc (.cells #[i64 pg, i64 mj, i64 sw, .slice p1_0 n1 k1_0, .slice p2_0 n2 k2_0, .slice p3_0 n3 k3_0] 26) := ⟨_, rfl⟩
  have hg1 : w1.heap.size = h0 + 1 := by rw [hw1, ← hh0]; simp
  obtain ⟨w2, hw2⟩ : ∃ w2, w2 = w1.alloc (.cells #[i64 pg1, i64 mj1, i64 sw1, .slice p1_1 m1 k1_1, .slice p2_1 m2 k2_1, .slice p3_1 m3 k3_1] 26) := ⟨_, rfl⟩
  have hg2 : w2.heap.size = h0 + 2 := by rw [hw2]; simp [hg1]
  have b1 : Below h0 W w1 := by rw [hw1]; exact (Below.refl _ _).alloc (Nat.le_of_eq hh0.symm) _
  have b12 : Below w1.heap.size w1 w2 := by rw [hw2]; exact below_alloc _ _
  have b2 := Lib.hid (b1.trans (b12.mono (by omega)))
  have hA : w2.heap[h0]? = some (.cells #[i64 pg, i64 mj, i64 sw, .slice p1_0 n1 k1_0, .slice p2_0 n2 k2_0, .slice p3_0 n3 k3_0] 26) := by rw [b12.block h0 (by omega), hw1, ← hh0]; exact heap_alloc_new _ _
  have hB : w2.heap[h0 + 1]? = some (.cells #[i64 pg1, i64 mj1, i64 sw1, .slice p1_1 m1 k1_1, .slice p2_1 m2 k2_1, .slice p3_1 m3 k3_1] 26) := by rw [hw2, ← hg1]; exact heap_alloc_new _ _
  have HBB := Lib.hid (fun u (b : Below (h0 + 2) w2 u) => b2.out.trans (b.mono (by omega)))
  have hS := Lib.hid (fun u (b : Below (h0 + 2) w2 u) => (by
    have hA2 := (b.block h0 (by omega)).trans hA
    have hB2 := (b.block (h0 + 1) (by omega)).trans hB
    exact ⟨⟨by rw [cell_of_row _ _ 0 _ _ _ hA2]; rfl, by rw [cell_of_row _ _ 1 _ _ _ hA2]; rfl, by rw [cell_of_row _ _ 2 _ _ _ hA2]; rfl, by rw [cell_of_row _ _ 3 _ _ _ hA2]; rfl, by rw [cell_of_row _ _ 4 _ _ _ hA2]; rfl, by rw [cell_of_row _ _ 5 _ _ _ hA2]; rfl⟩, ⟨by rw [cell_of_row _ _ 0 _ _ _ hB2]; rfl, by rw [cell_of_row _ _ 1 _ _ _ hB2]; rfl, by rw [cell_of_row _ _ 2 _ _ _ hB2]; rfl, by rw [cell_of_row _ _ 3 _ _ _ hB2]; rfl, by rw [cell_of_row _ _ 4 _ _ _ hB2]; rfl, by rw [cell_of_row _ _ 5 _ _ _ hB2]; rfl⟩⟩ : (u.cell? ⟨h0, 0, none⟩ = some (i64 pg) ∧ u.cell? ⟨h0, 1, none⟩ = some (i64 mj) ∧ u.cell? ⟨h0, 2, none⟩ = some (i64 sw) ∧ u.cell? ⟨h0, 3, none⟩ = some (.slice p1_0 n1 k1_0) ∧ u.cell? ⟨h0, 4, none⟩ = some (.slice p2_0 n2 k2_0) ∧ u.cell? ⟨h0, 5, none⟩ = some (.slice p3_0 n3 k3_0)) ∧ (u.cell? ⟨h0 + 1, 0, none⟩ = some (i64 pg1) ∧ u.cell? ⟨h0 + 1, 1, none⟩ = some (i64 mj1) ∧ u.cell? ⟨h0 + 1, 2, none⟩ = some (i64 sw1) ∧ u.cell? ⟨h0 + 1, 3, none⟩ = some (.slice p1_1 m1 k1_1) ∧ u.cell? ⟨h0 + 1, 4, none⟩ = some (.slice p2_1 m2 k2_1) ∧ u.cell? ⟨h0 + 1, 5, none⟩ = some (.slice p3_1 m3 k3_1))))
  have hnx := Lib.hid (fun (u u' : World) (b : Below (h0 + 2) w2 u) (b' : Below u.heap.size u u') => (b.trans (b'.mono (by have := b.size; omega)) : Below (h0 + 2) w2 u'))
  have hA3 := Lib.hid (alive14 w2)
  clear b1 b12 hA hB
  have ways : v0 = true ∨ (v0 = false ∧ v1 = true) ∨ (v0 = false ∧ v1 = false) := by cases v0 <;> cases v1 <;> simp
  go_enter Tryd.func3, Tryd.ntmps3
  go_upto_region 1 with fail
  try simp only [hh0]
  rw [← hw1]
  try simp only [hg1]
  rw [← hw2]
  clear hw1 hw2 hg1
  go_upto_region 2 with (go_at_call 5; (with_reducible refine hA3.out.mono ?_); rintro e w3 ⟨rfl, hb⟩; have B3 := Lib.hid (hb.mono (Nat.le_of_eq hg2.symm)); clear hb)
  clear hA3
  obtain ⟨⟨a0, a1, a2, a3, a4, a5⟩, o0, o1, o2, o3, o4, o5⟩ := hS.out w3 B3.out
  have HB0' := Lib.hid (HB0.out w3 (HBB.out _ B3.out))
  rcases ways with rfl | ⟨rfl, rfl⟩ | ⟨rfl, rfl⟩
  · go_wp2_with (go_at_call 6; (with_reducible refine HB0'.out.mono ?_); rintro e w4 ⟨rfl, hb⟩; have B4 := Lib.hid (hnx.out _ _ B3.out hb); clear hb)
    exact HO.out _ (HBB.out _ B4.out)
  · go_wp2_with (first | (go_at_call 6; (with_reducible refine (HB1.out w4 (HBB.out _ B4.out)).mono ?_); rintro e w5 ⟨rfl, hb⟩; have B5 := Lib.hid (hnx.out _ _ B4.out hb); clear hb) | (go_at_call 6; (with_reducible refine HB0'.out.mono ?_); rintro e w4 ⟨rfl, hb⟩; have B4 := Lib.hid (hnx.out _ _ B3.out hb); clear hb; obtain ⟨⟨a0, a1, a2, a3, a4, a5⟩, o0, o1, o2, o3, o4, o5⟩ := hS.out w4 B4.out))
    exact HO.out _ (HBB.out _ B5.out)
  go_upto_region 5 with (first | (go_at_call 6; (with_reducible refine (HB1.out w4 (HBB.out _ B4.out)).mono ?_); rintro e w5 ⟨rfl, hb⟩; have B5 := Lib.hid (hnx.out _ _ B4.out hb); clear hb) | (go_at_call 6; (with_reducible refine HB0'.out.mono ?_); rintro e w4 ⟨rfl, hb⟩; have B4 := Lib.hid (hnx.out _ _ B3.out hb); clear hb; obtain ⟨⟨a0, a1, a2, a3, a4, a5⟩, o0, o1, o2, o3, o4, o5⟩ := hS.out w4 B4.out))
  clear a0 a1 a2 a3 a4 a5 o0 o1 o2 o3 o4 o5 HB0 HB1 HB0' B3 B4
  obtain ⟨⟨a0, a1, a2, a3, a4, a5⟩, o0, o1, o2, o3, o4, o5⟩ := hS.out w5 B5.out
  have hc := Lib.hid (HLn.out (by first | trivial | rfl) w5 (HBB.out _ B5.out))
  go_upto_region 6 with (go_at_call 7; (with_reducible refine hc.out.mono ?_); rintro e w6 ⟨g1, k1, g2, k2, g3, k3, rfl, hb, F1, F2, F3⟩; have B6 := Lib.hid (hnx.out _ _ B5.out hb); have L6 := Lib.hid (lt_of F1 F2 F3); clear hb F1 F2 F3)
  clear a0 a1 a2 a3 a4 a5 o0 o1 o2 o3 o4 o5 HLn hc B5
  obtain ⟨hF, hhF⟩ : ∃ hF, w6.heap.size = hF := ⟨_, rfl⟩
  try rw [hhF]
  obtain ⟨w7, hw7⟩ : ∃ w7, w7 = w6.alloc (.cells #[i64 pg, i64 mj, i64 sw, .slice (some ⟨g1, 0, none⟩) n1 k1, .slice (some ⟨g2, 0, none⟩) n2 k2, .slice (some ⟨g3, 0, none⟩) n3 k3] 26) := ⟨_, rfl⟩
  have b67 : Below w6.heap.size w6 w7 := by rw [hw7]; exact below_alloc _ _
  have B7 := Lib.hid (hnx.out _ _ B6.out b67)
  have L7 := Lib.hid (L6.out.kept b67)
  have hg7 : w7.heap.size = hF + 1 := by rw [hw7, ← hhF]; simp
  have h2F : h0 + 2 ≤ hF := by have := B6.out.size; omega
  have hC : w7.heap[hF]? = some (.cells #[i64 pg, i64 mj, i64 sw, .slice (some ⟨g1, 0, none⟩) n1 k1, .slice (some ⟨g2, 0, none⟩) n2 k2, .slice (some ⟨g3, 0, none⟩) n3 k3] 26) := by rw [hw7, ← hhF]; exact heap_alloc_new _ _
  rw [← hw7]
  have hT2 := Lib.hid (fun u (b : Below (hF + 1) w7 u) => (by
    have hC2 := (b.block hF (by omega)).trans hC
    have q := hS.out u (B7.out.trans (b.mono (by omega)))
    exact ⟨B7.out.trans (b.mono (by omega)), HBB.out u (B7.out.trans (b.mono (by omega))), L7.out.kept (hg7 ▸ b), q.1, q.2, by rw [cell_of_row _ _ 0 _ _ _ hC2]; rfl, by rw [cell_of_row _ _ 1 _ _ _ hC2]; rfl, by rw [cell_of_row _ _ 2 _ _ _ hC2]; rfl, by rw [cell_of_row _ _ 3 _ _ _ hC2]; rfl, by rw [cell_of_row _ _ 4 _ _ _ hC2]; rfl, by rw [cell_of_row _ _ 5 _ _ _ hC2]; rfl⟩ : Below (h0 + 2) w2 u ∧ Below h0 W u ∧ Lt u c0 g1 k1 g2 k2 g3 k3 ∧ (u.cell? ⟨h0, 0, none⟩ = some (i64 pg) ∧ u.cell? ⟨h0, 1, none⟩ = some (i64 mj) ∧ u.cell? ⟨h0, 2, none⟩ = some (i64 sw) ∧ u.cell? ⟨h0, 3, none⟩ = some (.slice p1_0 n1 k1_0) ∧ u.cell? ⟨h0, 4, none⟩ = some (.slice p2_0 n2 k2_0) ∧ u.cell? ⟨h0, 5, none⟩ = some (.slice p3_0 n3 k3_0)) ∧ (u.cell? ⟨h0 + 1, 0, none⟩ = some (i64 pg1) ∧ u.cell? ⟨h0 + 1, 1, none⟩ = some (i64 mj1) ∧ u.cell? ⟨h0 + 1, 2, none⟩ = some (i64 sw1) ∧ u.cell? ⟨h0 + 1, 3, none⟩ = some (.slice p1_1 m1 k1_1) ∧ u.cell? ⟨h0 + 1, 4, none⟩ = some (.slice p2_1 m2 k2_1) ∧ u.cell? ⟨h0 + 1, 5, none⟩ = some (.slice p3_1 m3 k3_1)) ∧ (u.cell? ⟨hF, 0, none⟩ = some (i64 pg) ∧ u.cell? ⟨hF, 1, none⟩ = some (i64 mj) ∧ u.cell? ⟨hF, 2, none⟩ = some (i64 sw) ∧ u.cell? ⟨hF, 3, none⟩ = some (.slice (some ⟨g1, 0, none⟩) n1 k1) ∧ u.cell? ⟨hF, 4, none⟩ = some (.slice (some ⟨g2, 0, none⟩) n2 k2) ∧ u.cell? ⟨hF, 5, none⟩ = some (.slice (some ⟨g3, 0, none⟩) n3 k3))))
  have hny := Lib.hid (fun (u u' : World) (b : Below (hF + 1) w7 u) (b' : Below u.heap.size u u') => (b.trans (b'.mono (by have := b.size; omega)) : Below (hF + 1) w7 u'))
  clear hw7 hhF b67 L6 B6 hC hnx
  -- Check, Pack, Pack
  obtain ⟨-, -, l7, -, -, f0, f1, f2, f3, f4, f5⟩ := hT2.out w7 (Below.refl _ _)
  have hc := Lib.hid (HCf.out w7 _ _ _ _ _ _ l7)
  go_upto_region 7 with (go_at_call 8; (with_reducible refine hc.out.mono ?_); rintro e w8 ⟨rfl, hb⟩; have B8 := Lib.hid (hny.out _ _ (Below.refl _ _) hb); clear hb)
  clear f0 f1 f2 f3 f4 f5 hc l7 HCf
  obtain ⟨-, -, l8, -, -, f0, f1, f2, f3, f4, f5⟩ := hT2.out w8 B8.out
  have hc := Lib.hid (HPf.out w8 _ _ _ _ _ _ l8)
  go_upto_region 8 with (go_at_call 9; (with_reducible refine hc.out.mono ?_); rintro e w9 ⟨pB, nB, qB, rfl, oB, hb⟩; have B9 := Lib.hid (hny.out _ _ B8.out hb); have LB9 := Lib.hid (lie_of oB); clear hb oB)
  clear f0 f1 f2 f3 f4 f5 hc l8 HPf
  obtain ⟨-, x9, -, -, ⟨o0, o1, o2, o3, o4, o5⟩, -⟩ := hT2.out w9 B9.out
  have hc := Lib.hid (HP1.out w9 x9)
  go_upto_region 9 with (go_at_call 9; (with_reducible refine hc.out.mono ?_); rintro e w10 ⟨pD, nD, qD, rfl, oD, hb⟩; have BD := Lib.hid hb; have OD := Lib.hid oD; clear hb oD)
  clear o0 o1 o2 o3 o4 o5 hc HP1 x9
  obtain ⟨L, hL⟩ : ∃ L, w9.heap.size = L := ⟨_, rfl⟩
  rw [hL] at OD BD
  have hFL : hF + 1 ≤ L := by have := B9.out.size; omega
  have hnD : nD ≤ 1300 := by have := (lie_of OD.out).len; have := hD0.out; omega
  have hnDe := Lib.hid ((lie_of OD.out).len)
  go_wp2
  go_loopw [13] (fun s wr => ∃ (k : Nat) (ds : List Int), k ≤ nD ∧ s = .int .i64 k ∧ OwnK 5 .u8 wr L (.slice pD nD qD) ds ∧ ds.length = nD ∧ Below L w9 wr) (fun s _ => nD - (intOf s).toNat)
  case atStart => exact ⟨0, _, Nat.zero_le _, rfl, OD.out, hnDe.out, BD.out⟩
  case round =>
    obtain ⟨k, ds, hk, rfl, hds, hdl, hbr⟩ := hrel
    have DS := Lib.hid hds
    have BR := Lib.hid hbr
    have DL := Lib.hid hdl
    clear hds hbr hdl OD BD hnDe
    by_cases hkm : k < nD
    · have hkI : (k : Int) < (nD : Int) := by omega
      obtain ⟨g, cc, ec, hc1, hc2, hg1, hg3, hcell, hfr, hset⟩ := ownK_cell (j := k) DS.out (by rw [DL.out]; exact hkm)
      injection ec with e1 e2 e3
      subst e1 e3
      have HSet := Lib.hid hset
      clear hset e2
      go_wp2
      go_roundw
      case rel => exact ⟨k + 1, _, hkm, by go_num, HSet.out _, by rw [List.length_set]; exact DL.out, below_setCell BR.out _ _ hg1 _⟩
      case measure => simp [intOf]; omega
    · have hkn : (k : Int) = (nD : Int) := by omega
      have br := B9.out.trans (BR.out.mono (by omega))
      have BX := Lib.hid br
      have LBr := Lib.hid (LB9.out.kept BR.out (Nat.le_of_eq hL))
      obtain ⟨-, xr, -, ⟨a0, a1, a2, a3, a4, a5⟩, -, -⟩ := hT2.out wr br
      have hc := Lib.hid (HPr.out wr xr)
      clear br DS DL hnD
      go_upto_region 14 with (go_at_call 10; (with_reducible refine hc.out.mono ?_); rintro e w12 ⟨pW, nW, qW, rfl, oW, hb⟩; have B12 := Lib.hid (hny.out _ _ BX.out hb); have LB12 := Lib.hid ((LBr.out.wide (by have := BR.out.size; omega)).kept hb (Nat.le_refl _)); have LW := Lib.hid (lie_of oW); have sz12 := Lib.hid hb.size; clear hb oW)
      clear a0 a1 a2 a3 a4 a5 hc HPr xr
      obtain ⟨A, hA⟩ : ∃ A, strOfNums P = A := ⟨_, rfl⟩
      have hsy := Lib.hid (fun u (hu : Below w12.heap.size w12 u) => (hny.out _ _ B12.out hu))
      have hSY := Lib.hid (fun u (hu : Below w12.heap.size w12 u) => (by
        obtain ⟨-, -, -, qa, -, qf⟩ := hT2.out u (hsy.out u hu)
        have cb := conv_lie (LB12.out.kept (B' := w12.heap.size) hu (by have := sz12.out; omega))
        have cw := conv_lie (LW.out.kept hu (Nat.le_refl _))
        rw [hA] at cb cw
        exact ⟨hu, qa, qf, cb, cw⟩ : (fun u => Below w12.heap.size w12 u ∧ (u.cell? ⟨h0, 0, none⟩ = some (i64 pg) ∧ u.cell? ⟨h0, 1, none⟩ = some (i64 mj) ∧ u.cell? ⟨h0, 2, none⟩ = some (i64 sw) ∧ u.cell? ⟨h0, 3, none⟩ = some (.slice p1_0 n1 k1_0) ∧ u.cell? ⟨h0, 4, none⟩ = some (.slice p2_0 n2 k2_0) ∧ u.cell? ⟨h0, 5, none⟩ = some (.slice p3_0 n3 k3_0)) ∧ (u.cell? ⟨hF, 0, none⟩ = some (i64 pg) ∧ u.cell? ⟨hF, 1, none⟩ = some (i64 mj) ∧ u.cell? ⟨hF, 2, none⟩ = some (i64 sw) ∧ u.cell? ⟨hF, 3, none⟩ = some (.slice (some ⟨g1, 0, none⟩) n1 k1) ∧ u.cell? ⟨hF, 4, none⟩ = some (.slice (some ⟨g2, 0, none⟩) n2 k2) ∧ u.cell? ⟨hF, 5, none⟩ = some (.slice (some ⟨g3, 0, none⟩) n3 k3)) ∧ (convert 32 9 (.slice pB nB qB)).run Tryd.prog u = .ok (.string A) u ∧ (convert 32 9 (.slice pW nW qW)).run Tryd.prog u = .ok (.string A) u) u))
      have hqq : (kk != kk) = false := by simp
      have hCr := Lib.hid (fun u (hu : Below w12.heap.size w12 u) => HCr.out u (hT2.out u (hsy.out u hu)).2.1)
      have hSt := Lib.hid (fun u (hu : Below w12.heap.size w12 u) => HSt.out (by first | trivial | rfl) u (hT2.out u (hsy.out u hu)).2.1 _ _ _ _ _ _ (hT2.out u (hsy.out u hu)).2.2.1)
      clear HCr HSt
      refine wp_region_held_drew (S := (fun u => Below w12.heap.size w12 u ∧ (u.cell? ⟨h0, 0, none⟩ = some (i64 pg) ∧ u.cell? ⟨h0, 1, none⟩ = some (i64 mj) ∧ u.cell? ⟨h0, 2, none⟩ = some (i64 sw) ∧ u.cell? ⟨h0, 3, none⟩ = some (.slice p1_0 n1 k1_0) ∧ u.cell? ⟨h0, 4, none⟩ = some (.slice p2_0 n2 k2_0) ∧ u.cell? ⟨h0, 5, none⟩ = some (.slice p3_0 n3 k3_0)) ∧ (u.cell? ⟨hF, 0, none⟩ = some (i64 pg) ∧ u.cell? ⟨hF, 1, none⟩ = some (i64 mj) ∧ u.cell? ⟨hF, 2, none⟩ = some (i64 sw) ∧ u.cell? ⟨hF, 3, none⟩ = some (.slice (some ⟨g1, 0, none⟩) n1 k1) ∧ u.cell? ⟨hF, 4, none⟩ = some (.slice (some ⟨g2, 0, none⟩) n2 k2) ∧ u.cell? ⟨hF, 5, none⟩ = some (.slice (some ⟨g3, 0, none⟩) n3 k3)) ∧ (convert 32 9 (.slice pB nB qB)).run Tryd.prog u = .ok (.string A) u ∧ (convert 32 9 (.slice pW nW qW)).run Tryd.prog u = .ok (.string A) u)) (by kernel_rfl) ?_ (fun hH0 => ?_)
      · ((try dsimp only); (first | assumption | exact hSY.out _ (Below.refl _ _) | exact hSY.out _ (Below.refl _ _).drew | exact hSY.out _ ((‹Below w12.heap.size w12 _ ∧ _›).1.trans ((‹Below (World.heap _).size _ _›).mono (‹Below w12.heap.size w12 _ ∧ _›).1.size))))
      refine wpAnyH_take (i := 0) (oi := { dst := some 64, op := Go.Op.move (Go.Operand.tmp 8), type := 30, pos := "law.go:64", after := #[], guard := none }) (v := ?_) rfl (by kernel_rfl) (by kernel_rfl) (by kernel_rfl) (fun _ _ _ h => h) (Or.inl ⟨by rfl, ?_⟩) (by assumption) ?_
      rotate_left
      · ((intro w hSw; (try dsimp only at hSw); go_simp) <;> (with_reducible rfl))
      try simp only [Act.put, List.setIfInBounds_toArray, List.set_cons_zero, List.set_cons_succ]
      refine wpAnyH_take (i := 2) (oi := { dst := some 66, op := Go.Op.load 26 (Go.Operand.tmp 2), type := 26, pos := "law.go:64", after := #[], guard := none }) (v := ?_) rfl (by kernel_rfl) (by kernel_rfl) (by kernel_rfl) (fun _ _ _ h => h) (Or.inl ⟨by rfl, ?_⟩) (by assumption) ?_
      rotate_left
      · ((intro w hSw; (try dsimp only at hSw); go_simp) <;> (with_reducible rfl))
      try simp only [Act.put, List.setIfInBounds_toArray, List.set_cons_zero, List.set_cons_succ]
      refine wpAnyH_ready (rs := [1]) (by kernel_rfl) (by simp) ?_
      refine AllReadyH.cons (o := { dst := some 65, op := Go.Op.call { callee := Go.Callee.value (Go.Operand.func 11), args := #[Go.Operand.tmp 64], argTypes := #[30] }, type := 3, pos := "law.go:64", after := #[{ on := 0, ground := Go.Ground.data }], guard := none }) rfl (fun K hK => ?_) AllReadyH.nil
      go_simp
      (first | (go_at_call 11; (with_reducible refine (num_says14 _ _).mono ?_); rintro e t2 ⟨rfl, rfl⟩) | (go_at_call 12; (with_reducible refine (hCr.out _ (‹Below w12.heap.size w12 _ ∧ _›).1).mono ?_); rintro e t2 ⟨rfl, hb9⟩) | (go_at_call 13; (with_reducible refine (hSt.out _ (‹Below w12.heap.size w12 _ ∧ _›).1).mono ?_); rintro e t2 ⟨rfl, hb9⟩))
      refine hK.out _ _ ?_ (fun hH1 => ?_)
      · ((try dsimp only); (first | assumption | exact hSY.out _ (Below.refl _ _) | exact hSY.out _ (Below.refl _ _).drew | exact hSY.out _ ((‹Below w12.heap.size w12 _ ∧ _›).1.trans ((‹Below (World.heap _).size _ _›).mono (‹Below w12.heap.size w12 _ ∧ _›).1.size))))
      clear hK K hH0
      try simp only [Act.put, List.setIfInBounds_toArray, List.set_cons_zero, List.set_cons_succ]
      refine wpAnyH_ready (rs := [3]) (by kernel_rfl) (by simp) ?_
      refine AllReadyH.cons (o := { dst := some 67, op := Go.Op.call { callee := Go.Callee.value (Go.Operand.func 12), args := #[Go.Operand.tmp 66], argTypes := #[26] }, type := 3, pos := "law.go:64", after := #[{ on := 2, ground := Go.Ground.data }, { on := 1, ground := Go.Ground.chain }], guard := none }) rfl (fun K hK => ?_) AllReadyH.nil
      go_simp
      (first | (go_at_call 11; (with_reducible refine (num_says14 _ _).mono ?_); rintro e t2 ⟨rfl, rfl⟩) | (go_at_call 12; (with_reducible refine (hCr.out _ (‹Below w12.heap.size w12 _ ∧ _›).1).mono ?_); rintro e t2 ⟨rfl, hb9⟩) | (go_at_call 13; (with_reducible refine (hSt.out _ (‹Below w12.heap.size w12 _ ∧ _›).1).mono ?_); rintro e t2 ⟨rfl, hb9⟩))
      refine hK.out _ _ ?_ (fun hH2 => ?_)
      · ((try dsimp only); (first | assumption | exact hSY.out _ (Below.refl _ _) | exact hSY.out _ (Below.refl _ _).drew | exact hSY.out _ ((‹Below w12.heap.size w12 _ ∧ _›).1.trans ((‹Below (World.heap _).size _ _›).mono (‹Below w12.heap.size w12 _ ∧ _›).1.size))))
      clear hK K hH1
      try simp only [Act.put, List.setIfInBounds_toArray, List.set_cons_zero, List.set_cons_succ]
      refine wpAnyH_take (i := 4) (oi := { dst := some 68, op := Go.Op.binOp Go.BinOp.neq 3 (Go.Operand.tmp 65) (Go.Operand.tmp 67) 3, type := 4, pos := "law.go:64", after := #[{ on := 1, ground := Go.Ground.data }, { on := 3, ground := Go.Ground.data }], guard := none }) (v := ?_) rfl (by kernel_rfl) (by kernel_rfl) (by kernel_rfl) (fun _ _ _ h => h) (Or.inl ⟨by rfl, ?_⟩) (by assumption) ?_
      rotate_left
      · ((intro w hSw; (try dsimp only at hSw); go_simp) <;> (with_reducible rfl))
      try simp only [Act.put, List.setIfInBounds_toArray, List.set_cons_zero, List.set_cons_succ]
      refine wpAnyH_take (i := 5) (oi := { dst := some 69, op := Go.Op.move (Go.Operand.tmp 68), type := 4, pos := "law.go:64", after := #[{ on := 4, ground := Go.Ground.data }, { on := 3, ground := Go.Ground.chain }], guard := none }) (v := ?_) rfl (by kernel_rfl) (by kernel_rfl) (by kernel_rfl) (fun _ _ _ h => h) (Or.inl ⟨by rfl, ?_⟩) (by assumption) ?_
      rotate_left
      · ((intro w hSw; (try dsimp only at hSw); go_simp) <;> (with_reducible rfl))
      try simp only [Act.put, List.setIfInBounds_toArray, List.set_cons_zero, List.set_cons_succ]
      refine wpAnyH_take (i := 6) (oi := { dst := some 70, op := Go.Op.move (Go.Operand.tmp 10), type := 30, pos := "law.go:64", after := #[{ on := 5, ground := Go.Ground.guard }], guard := some (5, false) }) (v := ?_) rfl (by kernel_rfl) (by kernel_rfl) (by kernel_rfl) (fun _ _ _ h => h) (Or.inl ⟨by rfl, ?_⟩) (by assumption) ?_
      rotate_left
      · ((intro w hSw; (try dsimp only at hSw); go_simp) <;> (with_reducible rfl))
      try simp only [Act.put, List.setIfInBounds_toArray, List.set_cons_zero, List.set_cons_succ]
      refine wpAnyH_take (i := 8) (oi := { dst := some 72, op := Go.Op.move (Go.Operand.tmp 15), type := 3, pos := "law.go:64", after := #[{ on := 5, ground := Go.Ground.guard }], guard := some (5, false) }) (v := ?_) rfl (by kernel_rfl) (by kernel_rfl) (by kernel_rfl) (fun _ _ _ h => h) (Or.inl ⟨by rfl, ?_⟩) (by assumption) ?_
      rotate_left
      · ((intro w hSw; (try dsimp only at hSw); go_simp) <;> (with_reducible rfl))
      try simp only [Act.put, List.setIfInBounds_toArray, List.set_cons_zero, List.set_cons_succ]
      refine wpAnyH_ready (rs := [7]) (by kernel_rfl) (by simp) ?_
      refine AllReadyH.cons (o := { dst := some 71, op := Go.Op.call { callee := Go.Callee.value (Go.Operand.func 11), args := #[Go.Operand.tmp 70], argTypes := #[30] }, type := 3, pos := "law.go:64", after := #[{ on := 6, ground := Go.Ground.data }, { on := 5, ground := Go.Ground.chain }, { on := 5, ground := Go.Ground.guard }], guard := some (5, false) }) rfl (fun K hK => ?_) AllReadyH.nil
      go_simp
      (first | (go_at_call 11; (with_reducible refine (num_says14 _ _).mono ?_); rintro e t2 ⟨rfl, rfl⟩) | (go_at_call 12; (with_reducible refine (hCr.out _ (‹Below w12.heap.size w12 _ ∧ _›).1).mono ?_); rintro e t2 ⟨rfl, hb9⟩) | (go_at_call 13; (with_reducible refine (hSt.out _ (‹Below w12.heap.size w12 _ ∧ _›).1).mono ?_); rintro e t2 ⟨rfl, hb9⟩))
      refine hK.out _ _ ?_ (fun hH3 => ?_)
      · ((try dsimp only); (first | assumption | exact hSY.out _ (Below.refl _ _) | exact hSY.out _ (Below.refl _ _).drew | exact hSY.out _ ((‹Below w12.heap.size w12 _ ∧ _›).1.trans ((‹Below (World.heap _).size _ _›).mono (‹Below w12.heap.size w12 _ ∧ _›).1.size))))
      clear hK K hH2
      try simp only [Act.put, List.setIfInBounds_toArray, List.set_cons_zero, List.set_cons_succ]
      refine wpAnyH_take (i := 9) (oi := { dst := some 73, op := Go.Op.binOp Go.BinOp.neq 3 (Go.Operand.tmp 71) (Go.Operand.tmp 72) 3, type := 4, pos := "law.go:64", after := #[{ on := 7, ground := Go.Ground.data }, { on := 8, ground := Go.Ground.data }, { on := 5, ground := Go.Ground.guard }], guard := some (5, false) }) (v := ?_) rfl (by kernel_rfl) (by kernel_rfl) (by kernel_rfl) (fun _ _ _ h => h) (Or.inl ⟨by rfl, ?_⟩) (by assumption) ?_
      rotate_left
      · ((intro w hSw; (try dsimp only at hSw); go_simp) <;> (with_reducible rfl))
      try simp only [Act.put, List.setIfInBounds_toArray, List.set_cons_zero, List.set_cons_succ]
      refine wpAnyH_take (i := 10) (oi := { dst := some 74, op := Go.Op.pick (Go.Operand.tmp 69) (Go.Operand.const (Go.Value.bool true)) (Go.Operand.tmp 73), type := 4, pos := "law.go:64", after := #[{ on := 5, ground := Go.Ground.data }, { on := 9, ground := Go.Ground.data }], guard := none }) (v := ?_) rfl (by kernel_rfl) (by kernel_rfl) (by kernel_rfl) (fun _ _ _ h => h) (Or.inl ⟨by rfl, ?_⟩) (by assumption) ?_
      rotate_left
      · ((intro w hSw; (try dsimp only at hSw); go_simp) <;> (with_reducible rfl))
      try simp only [Act.put, List.setIfInBounds_toArray, List.set_cons_zero, List.set_cons_succ]
      refine wpAnyH_take (i := 11) (oi := { dst := some 75, op := Go.Op.move (Go.Operand.tmp 74), type := 4, pos := "law.go:64", after := #[{ on := 10, ground := Go.Ground.data }, { on := 7, ground := Go.Ground.chain }], guard := none }) (v := ?_) rfl (by kernel_rfl) (by kernel_rfl) (by kernel_rfl) (fun _ _ _ h => h) (Or.inl ⟨by rfl, ?_⟩) (by assumption) ?_
      rotate_left
      · ((intro w hSw; (try dsimp only at hSw); go_simp) <;> (with_reducible rfl))
      try simp only [Act.put, List.setIfInBounds_toArray, List.set_cons_zero, List.set_cons_succ]
      refine wpAnyH_take (i := 12) (oi := { dst := some 76, op := Go.Op.move (Go.Operand.tmp 9), type := 32, pos := "law.go:64", after := #[{ on := 11, ground := Go.Ground.guard }], guard := some (11, false) }) (v := ?_) rfl (by kernel_rfl) (by kernel_rfl) (by kernel_rfl) (fun _ _ _ h => h) (Or.inl ⟨by rfl, ?_⟩) (by assumption) ?_
      rotate_left
      · ((intro w hSw; (try dsimp only at hSw); go_simp) <;> (with_reducible rfl))
      try simp only [Act.put, List.setIfInBounds_toArray, List.set_cons_zero, List.set_cons_succ]
      refine wpAnyH_take (i := 13) (oi := { dst := some 77, op := Go.Op.convert 32 9 (Go.Operand.tmp 76), type := 9, pos := "law.go:64", after := #[{ on := 12, ground := Go.Ground.data }, { on := 11, ground := Go.Ground.guard }], guard := some (11, false) }) (v := ?_) rfl (by kernel_rfl) (by kernel_rfl) (by kernel_rfl) (fun _ _ _ h => h) (Or.inl ⟨by rfl, ?_⟩) (by assumption) ?_
      rotate_left
      · ((intro w hSw; (try dsimp only at hSw); go_simp) <;> (with_reducible rfl))
      try simp only [Act.put, List.setIfInBounds_toArray, List.set_cons_zero, List.set_cons_succ]
      refine wpAnyH_take (i := 14) (oi := { dst := some 78, op := Go.Op.move (Go.Operand.tmp 14), type := 32, pos := "law.go:64", after := #[{ on := 11, ground := Go.Ground.guard }], guard := some (11, false) }) (v := ?_) rfl (by kernel_rfl) (by kernel_rfl) (by kernel_rfl) (fun _ _ _ h => h) (Or.inl ⟨by rfl, ?_⟩) (by assumption) ?_
      rotate_left
      · ((intro w hSw; (try dsimp only at hSw); go_simp) <;> (with_reducible rfl))
      try simp only [Act.put, List.setIfInBounds_toArray, List.set_cons_zero, List.set_cons_succ]
      refine wpAnyH_take (i := 15) (oi := { dst := some 79, op := Go.Op.convert 32 9 (Go.Operand.tmp 78), type := 9, pos := "law.go:64", after := #[{ on := 14, ground := Go.Ground.data }, { on := 11, ground := Go.Ground.guard }], guard := some (11, false) }) (v := ?_) rfl (by kernel_rfl) (by kernel_rfl) (by kernel_rfl) (fun _ _ _ h => h) (Or.inl ⟨by rfl, ?_⟩) (by assumption) ?_
      rotate_left
      · ((intro w hSw; (try dsimp only at hSw); go_simp) <;> (with_reducible rfl))
      try simp only [Act.put, List.setIfInBounds_toArray, List.set_cons_zero, List.set_cons_succ]
      refine wpAnyH_take (i := 16) (oi := { dst := some 80, op := Go.Op.binOp Go.BinOp.neq 9 (Go.Operand.tmp 77) (Go.Operand.tmp 79) 9, type := 4, pos := "law.go:64", after := #[{ on := 13, ground := Go.Ground.data }, { on := 15, ground := Go.Ground.data }, { on := 11, ground := Go.Ground.guard }], guard := some (11, false) }) (v := ?_) rfl (by kernel_rfl) (by kernel_rfl) (by kernel_rfl) (fun _ _ _ h => h) (Or.inl ⟨by rfl, ?_⟩) (by assumption) ?_
      rotate_left
      · ((intro w hSw; (try dsimp only at hSw); go_simp) <;> (with_reducible rfl))
      try simp only [Act.put, List.setIfInBounds_toArray, List.set_cons_zero, List.set_cons_succ]
      refine wpAnyH_take (i := 17) (oi := { dst := some 81, op := Go.Op.pick (Go.Operand.tmp 75) (Go.Operand.const (Go.Value.bool true)) (Go.Operand.tmp 80), type := 4, pos := "law.go:64", after := #[{ on := 11, ground := Go.Ground.data }, { on := 16, ground := Go.Ground.data }], guard := none }) (v := ?_) rfl (by kernel_rfl) (by kernel_rfl) (by kernel_rfl) (fun _ _ _ h => h) (Or.inl ⟨by rfl, ?_⟩) (by assumption) ?_
      rotate_left
      · ((intro w hSw; (try dsimp only at hSw); go_simp) <;> (with_reducible rfl))
      try simp only [Act.put, List.setIfInBounds_toArray, List.set_cons_zero, List.set_cons_succ]
      refine wpAnyH_take (i := 18) (oi := { dst := some 82, op := Go.Op.move (Go.Operand.tmp 81), type := 4, pos := "law.go:64", after := #[{ on := 17, ground := Go.Ground.data }, { on := 11, ground := Go.Ground.chain }], guard := none }) (v := ?_) rfl (by kernel_rfl) (by kernel_rfl) (by kernel_rfl) (fun _ _ _ h => h) (Or.inl ⟨by rfl, ?_⟩) (by assumption) ?_
      rotate_left
      · ((intro w hSw; (try dsimp only at hSw); go_simp) <;> (with_reducible rfl))
      try simp only [Act.put, List.setIfInBounds_toArray, List.set_cons_zero, List.set_cons_succ]
      refine wpAnyH_take (i := 19) (oi := { dst := some 83, op := Go.Op.load 26 (Go.Operand.tmp 7), type := 26, pos := "law.go:64", after := #[{ on := 18, ground := Go.Ground.guard }], guard := some (18, false) }) (v := ?_) rfl (by kernel_rfl) (by kernel_rfl) (by kernel_rfl) (fun _ _ _ h => h) (Or.inl ⟨by rfl, ?_⟩) (by assumption) ?_
      rotate_left
      · ((intro w hSw; (try dsimp only at hSw); go_simp) <;> (with_reducible rfl))
      try simp only [Act.put, List.setIfInBounds_toArray, List.set_cons_zero, List.set_cons_succ]
      refine wpAnyH_take (i := 20) (oi := { dst := some 84, op := Go.Op.load 26 (Go.Operand.tmp 2), type := 26, pos := "law.go:64", after := #[{ on := 18, ground := Go.Ground.guard }], guard := some (18, false) }) (v := ?_) rfl (by kernel_rfl) (by kernel_rfl) (by kernel_rfl) (fun _ _ _ h => h) (Or.inl ⟨by rfl, ?_⟩) (by assumption) ?_
      rotate_left
      · ((intro w hSw; (try dsimp only at hSw); go_simp) <;> (with_reducible rfl))
      try simp only [Act.put, List.setIfInBounds_toArray, List.set_cons_zero, List.set_cons_succ]
      refine wpAnyH_ready (rs := [21]) (by kernel_rfl) (by simp) ?_
      refine AllReadyH.cons (o := { dst := some 85, op := Go.Op.call { callee := Go.Callee.value (Go.Operand.func 13), args := #[Go.Operand.tmp 83, Go.Operand.tmp 84], argTypes := #[26, 26] }, type := 4, pos := "law.go:64", after := #[{ on := 19, ground := Go.Ground.data }, { on := 20, ground := Go.Ground.data }, { on := 18, ground := Go.Ground.chain }, { on := 18, ground := Go.Ground.guard }], guard := some (18, false) }) rfl (fun K hK => ?_) AllReadyH.nil
      go_simp
      (first | (go_at_call 11; (with_reducible refine (num_says14 _ _).mono ?_); rintro e t2 ⟨rfl, rfl⟩) | (go_at_call 12; (with_reducible refine (hCr.out _ (‹Below w12.heap.size w12 _ ∧ _›).1).mono ?_); rintro e t2 ⟨rfl, hb9⟩) | (go_at_call 13; (with_reducible refine (hSt.out _ (‹Below w12.heap.size w12 _ ∧ _›).1).mono ?_); rintro e t2 ⟨rfl, hb9⟩))
      refine hK.out _ _ ?_ (fun hH4 => ?_)
      · ((try dsimp only); (first | assumption | exact hSY.out _ (Below.refl _ _) | exact hSY.out _ (Below.refl _ _).drew | exact hSY.out _ ((‹Below w12.heap.size w12 _ ∧ _›).1.trans ((‹Below (World.heap _).size _ _›).mono (‹Below w12.heap.size w12 _ ∧ _›).1.size))))
      clear hK K hH3
      try simp only [Act.put, List.setIfInBounds_toArray, List.set_cons_zero, List.set_cons_succ]
      refine wpAnyH_take (i := 22) (oi := { dst := some 86, op := Go.Op.unOp Go.UnOp.not 4 (Go.Operand.tmp 85), type := 4, pos := "law.go:64", after := #[{ on := 21, ground := Go.Ground.data }, { on := 18, ground := Go.Ground.guard }], guard := some (18, false) }) (v := ?_) rfl (by kernel_rfl) (by kernel_rfl) (by kernel_rfl) (fun _ _ _ h => h) (Or.inl ⟨by rfl, ?_⟩) (by assumption) ?_
      rotate_left
      · ((intro w hSw; (try dsimp only at hSw); go_simp) <;> (with_reducible rfl))
      try simp only [Act.put, List.setIfInBounds_toArray, List.set_cons_zero, List.set_cons_succ]
      refine wpAnyH_take (i := 23) (oi := { dst := some 87, op := Go.Op.pick (Go.Operand.tmp 82) (Go.Operand.const (Go.Value.bool true)) (Go.Operand.tmp 86), type := 4, pos := "law.go:64", after := #[{ on := 18, ground := Go.Ground.data }, { on := 22, ground := Go.Ground.data }], guard := none }) (v := ?_) rfl (by kernel_rfl) (by kernel_rfl) (by kernel_rfl) (fun _ _ _ h => h) (Or.inl ⟨by rfl, ?_⟩) (by assumption) ?_
      rotate_left
      · ((intro w hSw; (try dsimp only at hSw); go_simp) <;> (with_reducible rfl))
      try simp only [Act.put, List.setIfInBounds_toArray, List.set_cons_zero, List.set_cons_succ]
      refine wpAnyH_done (by kernel_rfl) ?_ _
      all_goals
        have hr := Lib.hid (‹Below w12.heap.size w12 _ ∧ _›).1
        rename World => wz
        have bz := Lib.hid (hny.out _ _ B12.out (hr.out.mono (Nat.le_refl _)))
        have LBz := Lib.hid (((LB12.out.wide (B' := w12.heap.size) (by have := sz12.out; omega)).kept hr.out (Nat.le_refl _)).wide hr.out.size)
        have sP := hP0.out
        have hnB := Lib.hid LBz.out.len
        clear hSY hCr hSt hqq LB12 LW BX hr LBr
        by_cases k0 : kk = 0
        · have hPp := Lib.hid (hpk.out k0)
          have HU2 := Lib.hid (fun (u : World) (hu : Below h0 W u) {p : Option Addr} {n q : Nat} (L : Lie .u8 u u.heap.size p n q P) (hq : q ≤ 9223372036854775807) => HUn.out k0 u hu (hPp.out ▸ L) hq)
          subst k0
          clear HUn
          obtain ⟨⟨a0, a1, a2, a3, a4, a5⟩, -⟩ := (hT2.out wz bz.out).2.2.2
          go_upto_region 18 with fail
          go_upto_region 19 with (first
            | (at_builtin; refine wpList_appK kdB rfl _ _ rfl (Nat.le_refl _) (R1 := []) rfl (ownK_nil _ _ _ _) P rfl LBz.out.len LBz.out.nil LBz.out.src (by have h3 : ([] : List Int).length = 0 := rfl; have := hnB.out; omega) ?_; intro v13 w13 o13 b13 _; rw [List.nil_append] at o13; obtain ⟨pE, cE, eE, hcE, LE'⟩ := ownK_lie o13; obtain ⟨mE, hmE⟩ : ∃ mE, P.length = mE := ⟨_, rfl⟩; rw [hmE] at eE LE'; subst eE; have LE := Lib.hid LE'; have B13 := Lib.hid (hny.out _ _ bz.out b13); clear o13 b13 LE' hmE; have hcE' : cE ≤ 9223372036854775807 := (by unfold maxLen at hcE; omega))
            | (go_at_call 14; (with_reducible refine (HU2.out w13 (hT2.out w13 B13.out).2.1 LE.out hcE').mono ?_); rintro e w14 ⟨p1, e1, p2, e2, p3, e3, rfl, hb, l1, l2, l3⟩; have B14 := Lib.hid (hny.out _ _ B13.out hb); have M1 := Lib.hid l1; have M2 := Lib.hid l2; have M3 := Lib.hid l3; clear hb l1 l2 l3))
          clear a0 a1 a2 a3 a4 a5
          obtain ⟨hG, hhG⟩ : ∃ hG, w14.heap.size = hG := ⟨_, rfl⟩
          try rw [hhG]
          obtain ⟨w15, hw15⟩ : ∃ w15, w15 = w14.alloc (.cells #[i64 pg, i64 mj, i64 sw, .slice p1 n1 e1, .slice p2 n2 e2, .slice p3 n3 e3] 26) := ⟨_, rfl⟩
          have b15 : Below w14.heap.size w14 w15 := by rw [hw15]; exact below_alloc _ _
          have B15 := Lib.hid (hny.out _ _ B14.out b15)
          have hD : w15.heap[hG]? = some (.cells #[i64 pg, i64 mj, i64 sw, .slice p1 n1 e1, .slice p2 n2 e2, .slice p3 n3 e3] 26) := by rw [hw15, ← hhG]; exact heap_alloc_new _ _
          have d0 : w15.cell? ⟨hG, 0, none⟩ = some (i64 pg) := by rw [cell_of_row _ _ 0 _ _ _ hD]; rfl
          have d1 : w15.cell? ⟨hG, 1, none⟩ = some (i64 mj) := by rw [cell_of_row _ _ 1 _ _ _ hD]; rfl
          have d2 : w15.cell? ⟨hG, 2, none⟩ = some (i64 sw) := by rw [cell_of_row _ _ 2 _ _ _ hD]; rfl
          have d3 : w15.cell? ⟨hG, 3, none⟩ = some (.slice p1 n1 e1) := by rw [cell_of_row _ _ 3 _ _ _ hD]; rfl
          have d4 : w15.cell? ⟨hG, 4, none⟩ = some (.slice p2 n2 e2) := by rw [cell_of_row _ _ 4 _ _ _ hD]; rfl
          have d5 : w15.cell? ⟨hG, 5, none⟩ = some (.slice p3 n3 e3) := by rw [cell_of_row _ _ 5 _ _ _ hD]; rfl
          rw [← hw15]
          have hc := Lib.hid (HSm.out (by first | trivial | rfl) w15 (hT2.out w15 B15.out).2.1 ((M1.out.kept b15 (Nat.le_refl _)).wide b15.size) ((M2.out.kept b15 (Nat.le_refl _)).wide b15.size) ((M3.out.kept b15 (Nat.le_refl _)).wide b15.size))
          obtain ⟨⟨a0, a1, a2, a3, a4, a5⟩, -⟩ := (hT2.out w15 B15.out).2.2.2
          clear hw15 hhG hD b15 HSm HU2 M1 M2 M3
          go_wp2_with (first | (go_at_call 11; (with_reducible refine (num_says14 _ _).mono ?_); rintro e t2 ⟨rfl, rfl⟩) | (go_at_call 15; (with_reducible refine hc.out.mono ?_); rintro e w16 ⟨rfl, hb⟩; have B16 := Lib.hid (hny.out _ _ B15.out hb); clear hb))
          exact HO.out _ (hT2.out _ B16.out).2.1
        · have k3 : (kk != 0) = true := by simpa using k0
          have hn := Lib.hid (HO.out _ (hT2.out wz bz.out).2.1)
          clear HUn HSm hT2
          go_wp2
          exact hn.out
set_option maxRecDepth 100000 in
theorem lifted (os : Os) (started : os.Started) (H : Type) (enc : TypeId × Value → H) :
    ReturnsInHanded {} Tryd.checked os 3 .any (fun w args => (Rows.configPacksSpec.pre enc Tryd.prog Tryd.f3 [] false w args ∧ laidMetH Tryd.prog laidB w) ∧ sizedMet enc Tryd.prog Tryd.f3 (OpenSpec.ofChange Rows.configPacksSpec) false w args)
      (Rows.configPacksSpec.post enc Tryd.prog Tryd.f3 false true false false) := by
  refine returnsInHanded_of_change_and (C := Tryd.checked) (X := fun w _ => laidMetH Tryd.prog laidB w) (fun _ _ _ hh h => h.of_heap hh) Pck.ownB started (by kernel_rfl) Tryd.func3
    (ChangeSpec.witness_at (enc := enc) (C := Tryd.checked) (os := os) (X := fun w _ => laidMetH Tryd.prog laidB w) false (laidWorld os) #[.agg #[.int .i64 0, .int .i64 0, .int .i64 0, .slice none 0 0, .slice none 0 0, .slice none 0 0], .agg #[.int .i64 0, .int .i64 0, .int .i64 0, .slice none 0 0, .slice none 0 0, .slice none 0 0]] 8 rfl (by kernel_rfl) (by kernel_rfl) (by kernel_rfl) (by kernel_rfl) (by kernel_rfl) (laidWorld_met os _)) ?_
  intro W base args ds gs before hval0 hW _ _ hL _
  have hval : ∀ (j : Nat) t v, Tryd.f3.params[j]? = some t → args[j]? = some v → Value.okWide Tryd.prog W .any base t v := hval0
  have hW' := hW
  obtain ⟨p, q, hA0, hV, rfl, hfz, hnd⟩ := hW
  have hA : DataW.TrodAll enc Tryd.prog W 0 (fun _ => true) true Tryd.f3.params.toList args.toList ds p := hA0
  rw [Tryd.params3] at hA hval
  obtain ⟨v0, vs0, d0, ds0, p0, q0, hargs, rfl, rfl, h0, r0⟩ := trodAll_cons hA
  obtain ⟨v1, vs1, d1, ds1, p1, q1, rfl, rfl, rfl, h1, r1⟩ := trodAll_cons r0
  obtain ⟨rfl, rfl, rfl⟩ := trodAll_nil r1
  obtain rfl : args = #[v0, v1] := by cases args; simp_all
  obtain ⟨rfl, rfl⟩ := trodVars_none hV
  have hlt0 : ∀ x ∈ p0, x.block < W.heap.size := fun x hx => hW'.lt x (by simp [hx])
  have hlt1 : ∀ x ∈ p1, x.block < W.heap.size := fun x hx => hW'.lt x (by simp [hx])
  obtain ⟨c0, p1_0, k1_0, p2_0, k2_0, p3_0, k3_0, rfl, X0⟩ := open_cfg (hval 0 26 v0 rfl rfl) h0
  obtain ⟨c1, p1_1, k1_1, p2_1, k2_1, p3_1, k3_1, rfl, X1⟩ := open_cfg (hval 1 26 v1 rfl rfl) h1
  have hT := glob_of_laid hL
  clear hA0 hval0
  simp only [List.append_nil] at hW'
  refine (walk  W hT X0 X1).mono fun e W' ⟨he, hb⟩ => ?_
  subst he
  exact ⟨_, rfl, _, _, _, [], _, [], hW', trodAll_cons_mk (shut_bool Tryd.underlying4 _) trodAll_mk0, (trodAll_cons_mk (Below.trod laidOut (by kernel_rfl) (of_decide_eq_true (by kernel_rfl)) h0 hb hlt0) (trodAll_cons_mk (Below.trod laidOut (by kernel_rfl) (of_decide_eq_true (by kernel_rfl)) h1 hb hlt1) trodAll_mk0)), rfl, hb.frame _, fun h => by cases h⟩
theorem over : Rows.ConfigPacksSaid :=
  OpenClaim.holds_of_wide 3 Tryd.f3 rfl rfl rfl rfl rfl rfl rfl ⟨rfl, rfl, rfl, rfl, rfl⟩ rfl rfl rfl rfl rfl (by kernel_rfl) Tryd.func3 (by kernel_rfl)
    (of_decide_eq_true (by kernel_rfl)) (by unfold Func.isWrapper; first | (rw [if_pos (by decide +kernel)]; kernel_rfl) | (rw [if_neg (by decide +kernel)]; exact ⟨rfl, rfl⟩))
    (fun os started H enc _ => lifted os started H enc)
/-- THE STATEMENT: the tied card. -/
theorem proved : Rows.ConfigPacksCardSaid :=
  Claim7.holds_tied_plain_at .later [] [.handle] true (true, "3d922964ccc56c03152f0a58f97dfad90ce0754b08b579d451a782b1ee2f0142") true
    over (fun _ h => by cases h) (by kernel_rfl) (fun _ h => by cases h) configPacks_row_tie rfl ⟨rfl, rfl⟩ (by kernel_rfl) rfl
    (fun f fn hf hfn => by
      obtain rfl : f = 3 := Option.some.inj ((show Tryd.prog.funcNamed "trunnion/trunnionlaw14.ConfigPacks" = some 3 by kernel_rfl).symm.trans hf) |>.symm
      obtain rfl : fn = Tryd.f3 := (Option.some.inj (Tryd.func3.symm.trans hfn)).symm
      exact ⟨by kernel_rfl, fun j t ht => by
        rw [Tryd.params3] at ht
        have hm : t ∈ [26, 26] := by simpa using Array.mem_of_getElem? ht
        have hall : ([26, 26].all fun u => !Tryd.prog.wantsStandIn u) = true := by kernel_rfl
        exact (show Tryd.prog.wantsStandIn t = false by simpa using List.all_eq_true.1 hall t hm)⟩)
    (by kernel_rfl)
end Go.Proofs.YtogbhgbnminpdaaDoor.configPacks
