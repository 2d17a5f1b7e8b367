/-
  The reference's Check.
-/
import Derived.Test.YtogbhgbnminpdaaDoorJnCfgRa
set_option linter.unusedVariables false
set_option maxRecDepth 100000
set_option linter.unusedVariables false
namespace Go.Proofs.YtogbhgbnminpdaaDoor.Cfg
open Go.Proofs.YtogbhgbnminpdaaDoor
open Go.ChangeShapes Go.WideShapes Go.ChangeAt Go.RowKit
set_option maxHeartbeats 16000000 in
theorem rcheck_says {w : World} {c : Cf} {p1 : Option Addr} {c1 : Nat} {p2 : Option Addr} {c2 : Nat} {p3 : Option Addr} {c3 : Nat}
    (L1 : LieS 3 w w.heap.size p1 c.parts.length c1 (c.parts.map ptC)) (L2 : LieS 5 w w.heap.size p2 c.chans.length c2 (c.chans.map chC)) (L3 : LieS 3 w w.heap.size p3 c.wins.length c3 (c.wins.map wnC)) (wf : Wf c) :
    Calls Tryd.prog 12 #[cfV c p1 c1 p2 c2 p3 c3] w fun e w' => e = .returned (i64 (chk c)) ∧ Below w.heap.size w w' := by
  obtain ⟨p, hp⟩ : ∃ p : Ending → World → Prop, p = fun e w' => e = .returned (i64 (chk c)) ∧ Below w.heap.size w w' := ⟨_, rfl⟩
  rw [← hp]
  have hr : ∀ v w', v = chk c → Below w.heap.size w w' → p (.returned (i64 v)) w' := fun v w' hv hb => by rw [hp, hv]; exact ⟨rfl, hb⟩
  clear hp
  obtain ⟨h, hhz⟩ : ∃ h, w.heap.size = h := ⟨_, rfl⟩
  rw [hhz] at hr L1 L2 L3
  have hchk : chk c = chkB (@decide (hostOk c) (Classical.propDecidable _)) (@decide (partsOk c.parts) (Classical.propDecidable _)) (@decide (memOk c.pages c.parts) (Classical.propDecidable _)) (@decide (chansOk c.parts.length c.chans) (Classical.propDecidable _)) (@decide (planOk c) (Classical.propDecidable _)) := rfl
  rw [hchk] at hr
  have o1 := Lib.hid (fun (g1 : ¬ hostOk c) w' hb => hr 11 w' (by simp [chkB, g1]) hb)
  have o2 := Lib.hid (fun (g1 : hostOk c) (g2 : ¬ partsOk c.parts) w' hb => hr 10 w' (by simp [chkB, g1, g2]) hb)
  have b1 : ∀ o, Below h w (w.alloc o) := fun o => (Below.refl _ _).alloc (Nat.le_of_eq hhz.symm) _
  obtain ⟨w1, hw1⟩ : ∃ w1, w1 = w.alloc (.cells #[i64 c.pages, i64 c.major, i64 c.switch, .slice p1 c.parts.length c1, .slice p2 c.chans.length c2, .slice p3 c.wins.length c3] 26) := ⟨_, rfl⟩
  have b1 := Lib.hid (by rw [hw1]; exact b1 _ : Below h w w1)
  have hZ : ∀ (k : Nat) (v : Value), [i64 c.pages, i64 c.major, i64 c.switch, .slice p1 c.parts.length c1, .slice p2 c.chans.length c2, .slice p3 c.wins.length c3][k]? = some v → w1.cell? ⟨h, k, none⟩ = some v := fun k v hv => by
    rw [hw1, ← hhz, cell_of_row _ _ k _ _ _ (heap_alloc_new _ _), ← Array.getElem?_toList]; exact hv
  have F := Lib.hid (fun (g1 : hostOk c) => (⟨b1.out, hZ, L1.kept b1.out (Nat.le_refl _), L2.kept b1.out (Nat.le_refl _), L3.kept b1.out (Nat.le_refl _), wf.nums.1, wf.nums.2, rfl, rfl, rfl, wf.len, g1,
    fun g2 w' hb => hr 10 w' (by simp [chkB, g1, g2]) hb,
    fun g2 g3 w' hb => hr 11 w' (by simp [chkB, g1, g2, g3]) hb,
    fun g2 g3 g4 w' hb => hr 13 w' (by simp [chkB, g1, g2, g3, g4]) hb,
    fun g2 g3 g4 g5 w' hb => hr 12 w' (by have g5' : ¬ planOk c := g5; simp [chkB, g1, g2, g3, g4, g5']) hb,
    fun g2 g3 g4 g5 w' hb => hr 0 w' (by have g5' : planOk c := g5; simp [chkB, g1, g2, g3, g4, g5']) hb⟩ : Ph p w w1 h c.pages c.major c.switch p1 c.parts.length c1 p2 c.chans.length c2 p3 c.wins.length c3 c.parts c.chans c.wins))
  replace F := Lib.hid (fun g1 hlo => rphA (F.out g1) hlo w1 (Below.refl _ _))
  have z0 := hZ 0 _ rfl
  have z3 := hZ 3 _ rfl
  have hl1 := wf.len.1
  have hlo := Lib.hid (fun (h : 1 ≤ (c.parts.length : Int) ∧ (c.parts.length : Int) ≤ 8) => (by omega : 1 ≤ c.parts.length ∧ c.parts.length ≤ 8))
  have hlx := Lib.hid (fun (h : ¬ (1 ≤ (c.parts.length : Int) ∧ (c.parts.length : Int) ≤ 8)) (g : partsOk c.parts) => (h (by have := g.1; omega) : False))
  unfold hostOk at F o1 o2
  simp only [cfV]
  obtain ⟨l, hl⟩ : ∃ l, c.parts = l := ⟨_, rfl⟩
  obtain ⟨m, hm⟩ : ∃ m, l.length = m := ⟨_, rfl⟩
  obtain ⟨n2, hn2⟩ : ∃ m, c.chans.length = m := ⟨_, rfl⟩
  obtain ⟨n3, hn3⟩ : ∃ m, c.wins.length = m := ⟨_, rfl⟩
  obtain ⟨pg, hpg⟩ : ∃ pg, c.pages = pg := ⟨_, rfl⟩
  obtain ⟨mj, hmj⟩ : ∃ mj, c.major = mj := ⟨_, rfl⟩
  obtain ⟨sw, hsw⟩ : ∃ sw, c.switch = sw := ⟨_, rfl⟩
  rw [hl, hm] at hlo hlx z3 hl1
  rw [hpg] at z0 o1
  rw [hpg, hl] at o2
  rw [hl, hm, hpg, hmj, hsw, hn2, hn3] at F hw1
  rw [hl, hm, hpg, hmj, hsw, hn2, hn3]
  clear hchk hr L1 L2 L3 wf hZ hl hpg hmj hsw hn2 hn3
  go_enter Tryd.func12, Tryd.ntmps12
  go_upto_region 1 with fail
  try simp only [hhz]
  rw [← hw1]
  clear hw1
  by_cases a1 : pg < 5
  · have ho := Lib.hid (o1.out (by omega) w1 b1.out)
    clear o1 o2 F hlo hlx
    go_wp2
    exact ho.out
  by_cases a2 : pg > 256
  · have ho := Lib.hid (o1.out (by omega) w1 b1.out)
    clear o1 o2 F hlo hlx
    go_wp2
    exact ho.out
  have g1 : 5 ≤ pg ∧ pg ≤ 256 := by omega
  replace F := Lib.hid (F.out g1)
  replace o2 := Lib.hid (o2.out g1)
  clear o1 g1
  by_cases a3 : (m : Int) < 1
  · have ho := Lib.hid (o2.out (hlx.out (by omega)) w1 b1.out)
    clear o2 F hlo hlx
    go_wp2
    exact ho.out
  by_cases a4 : (m : Int) > 8
  · have ho := Lib.hid (o2.out (hlx.out (by omega)) w1 b1.out)
    clear o2 F hlo hlx
    go_wp2
    exact ho.out
  have hn := Lib.hid (F.out (hlo.out (by omega)))
  clear o2 F hlo hlx
  go_upto_if 30 with fail
  go_cut [] from 300 (fun wy => wy = w1)
  case first => go_wp2; go_meet; case rel => rfl
  case rest =>
    obtain rfl := hcut
    refine ‹∀ (a : Act) (w : World), Code.wp _ _ _ a w → _› _ _ ?_
    exact hn.out _ _ _ _ _ _ _ _ _ _ _ _ _ _ _ _ _ _ _ _ _ _ _ _ _ _ _ _ _ _ _ _ _ _ _ _ _ _ _ _ _ _ _ _ _ _ _ _ _ _ _ _ _ _ _ _ _ _ _ _ _ _ _ _ _ _ _ _ _ _ _ _ _ _ _ _ _ _ _ _ _ _ _ _ _ _ _ _ _ _ _ _ _ _ _ _ _ _ _ _ _ _ _ _ _ _ _ _ _ _ _ _ _ _ _ _ _ _ _ _ _ _ _ _ _ _ _ _ _ _ _ _ _ _ _ _ _ _ _ _ _ _ _ _ _ _ _ _ _ _ _ _ _ _ _ _ _ _ _ _ _ _ _ _ _ _ _ _ _ _ _ _ _ _ _ _ _ _ _ _ _ _ _ _ _ _ _ _ _ _ _ _ _ _ _ _ _ _ _ _ _ _ _ _ _ _ _ _ _ _ _ _ _ _ _ _ _ _ _ _ _ _ _ _ _ _ _ _ _ _ _ _ _ _ _ _ _ _ _ _ _ _ _ _ _ _ _ _ _ _ _ _ _ _ _ _ _ _ _ _ _ _ _ _ _ _ _ _ _ _ _ _ _ _ _ _ _ _ _ _ _ _ _ _ _ _ _ _ _ _ _ _
end Go.Proofs.YtogbhgbnminpdaaDoor.Cfg
