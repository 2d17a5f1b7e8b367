/-
  Package plan: Share.
-/
import Derived.Test.YtnglmiihlpjelaaPlnE
set_option maxRecDepth 100000
set_option linter.unusedVariables false
namespace Go.Proofs.Ytnglmiihlpjelaa.Cfg
open Go.Proofs.Ytnglmiihlpjelaa
open Go.ChangeShapes Go.WideShapes Go.ChangeAt Go.RowKit
set_option maxHeartbeats 8000000 in
theorem share_says {w : World} {c : Cf} {p1 : Option Addr} {c1 : Nat} {p2 : Option Addr} {c2 : Nat} {p3 : Option Addr} {c3 : Nat} (X : Cx w w.heap.size c p1 c1 p2 c2 p3 c3) (part : Int) :
    Calls Try.prog 21 #[cfV c p1 c1 p2 c2 p3 c3, i64 part] w fun e w' => e = .returned (i64 (shareV c part)) ∧ Below w.heap.size w w' := by
  obtain ⟨p, hp⟩ : ∃ p : Ending → World → Prop, p = fun e w' => e = .returned (i64 (shareV c part)) ∧ Below w.heap.size w w' := ⟨_, rfl⟩
  rw [← hp]
  have HO := Lib.hid (fun w' (hw : Below w.heap.size w w') => (by rw [hp]; exact ⟨rfl, hw⟩ : p (.returned (i64 (shareV c part))) w'))
  clear hp
  obtain ⟨h, hhz⟩ : ∃ h, w.heap.size = h := ⟨_, rfl⟩
  rw [hhz] at HO
  have HI := Lib.hid (fun (u : World) (hu : Below h w u) => asked0 (X.later hu (Nat.le_of_eq hhz) (by omega)))
  have HA := Lib.hid (fun (hc : chk c = 0) (u : World) (hu : Below h w u) => stepsAhead_says (X.later hu (Nat.le_of_eq hhz) (by omega)) (vd_of hc) part c.major ⟨by have := (vd_of hc).mj; omega, (vd_of hc).mj.2⟩)
  have h1 := Lib.hid (fun (g : chk c = 0) w' (hw : Below h w w') => (by have := HO.out w' hw; unfold shareV at this; rw [if_pos g] at this; exact this : p (.returned (i64 (aheadV c part c.major))) w'))
  have h0 := Lib.hid (fun (g : ¬ chk c = 0) w' (hw : Below h w w') => (by have := HO.out w' hw; unfold shareV at this; rw [if_neg g] at this; exact this : p (.returned (i64 0)) w'))
  clear HO
  obtain ⟨A, hA⟩ : ∃ A, aheadV c part c.major = A := ⟨_, rfl⟩
  obtain ⟨kk, hkk⟩ : ∃ kk, chk c = kk := ⟨_, rfl⟩
  simp only [hA, hkk] at HA h1 h0 HI
  simp only [cfV] at HI HA ⊢
  clear hA hkk
  obtain ⟨pg, qpg⟩ : ∃ pg, c.pages = pg := ⟨_, rfl⟩
  obtain ⟨mj, qmj⟩ : ∃ mj, c.major = mj := ⟨_, rfl⟩
  obtain ⟨sw, qsw⟩ : ∃ sw, c.switch = sw := ⟨_, rfl⟩
  obtain ⟨n1, qn1⟩ : ∃ n1, c.parts.length = n1 := ⟨_, rfl⟩
  obtain ⟨n2, qn2⟩ : ∃ n2, c.chans.length = n2 := ⟨_, rfl⟩
  obtain ⟨m, qm⟩ : ∃ m, c.wins.length = m := ⟨_, rfl⟩
  simp only [qpg, qmj, qsw, qn1, qn2, qm] at HI HA
  simp only [qpg, qmj, qsw, qn1, qn2, qm]
  clear qpg qmj qsw qn1 qn2 qm X
  obtain ⟨w1, hw1⟩ : ∃ w1, w1 = w.alloc (.cells #[i64 pg, i64 mj, i64 sw, .slice p1 n1 c1, .slice p2 n2 c2, .slice p3 m c3] 26) := ⟨_, rfl⟩
  have b1 := Lib.hid (by rw [hw1]; exact (Below.refl _ _).alloc (Nat.le_of_eq hhz.symm) _ : Below h w w1)
  have hg1 : w1.heap.size = h + 1 := by rw [hw1, ← hhz]; simp
  have hZ := Lib.hid (fun k v hv => by
    rw [hw1, ← hhz, cell_of_row _ _ k _ _ _ (heap_alloc_new _ _), ← Array.getElem?_toList]; exact hv : ∀ (k : Nat) (v : Value), [i64 pg, i64 mj, i64 sw, Value.slice p1 n1 c1, .slice p2 n2 c2, .slice p3 m c3][k]? = some v → w1.cell? ⟨h, k, none⟩ = some v)
  go_enter Try.func21, Try.ntmps21
  go_upto_region 1 with fail
  try simp only [hhz]
  rw [← hw1]
  clear hw1
  have hS := Lib.hid (fun u (b : Below (h + 1) w1 u) => (by
    have hZ2 := fun k v hv => (World.cell?_of_block (b.block h (Nat.lt_succ_self _))).trans (hZ.out k v hv)
    exact ⟨b, hZ2 0 _ rfl, hZ2 1 _ rfl, hZ2 2 _ rfl, hZ2 3 _ rfl, hZ2 4 _ rfl, hZ2 5 _ rfl⟩ : (fun u => Below (h + 1) w1 u ∧ u.cell? ⟨h, 0, none⟩ = some (i64 pg) ∧ u.cell? ⟨h, 1, none⟩ = some (i64 mj) ∧ u.cell? ⟨h, 2, none⟩ = some (i64 sw) ∧ u.cell? ⟨h, 3, none⟩ = some (.slice p1 n1 c1) ∧ u.cell? ⟨h, 4, none⟩ = some (.slice p2 n2 c2) ∧ u.cell? ⟨h, 5, none⟩ = some (.slice p3 m c3)) u))
  have z0 := hZ.out 0 _ rfl
  have z1 := hZ.out 1 _ rfl
  have z2 := hZ.out 2 _ rfl
  have z3 := hZ.out 3 _ rfl
  have z4 := hZ.out 4 _ rfl
  have z5 := hZ.out 5 _ rfl
  by_cases g : kk = 0
  · have hi := HI.out w1 b1.out true ⟨fun _ => g, fun _ => rfl⟩
    rw [hg1] at hi
    replace hi := Lib.hid hi
    have ha := Lib.hid (fun (u : World) (hu : Below (h + 1) w1 u) => HA.out g u (b1.out.trans (hu.mono (Nat.le_succ _))))
    have hr := Lib.hid (fun w' hw => h1.out g w' hw)
    clear h1 h0 hZ HI HA
    go_upto_region 3 with (go_at_call 24; (with_reducible refine hi.out.mono ?_); rintro e w2 ⟨rfl, hb⟩; have hw2 := Lib.hid hb; clear hb)
    obtain ⟨-, z0, z1, z2, z3, z4, z5⟩ := hS.out w2 hw2.out
    have ha2 := Lib.hid (ha.out w2 hw2.out)
    clear hS ha
    go_wp2_with (go_at_call 27; (with_reducible refine ha2.out.mono ?_); rintro e w3 ⟨rfl, hb⟩)
    exact hr.out _ (b1.out.trans ((hw2.out.trans (hb.mono (by have := hw2.out.size; omega))).mono (Nat.le_succ _)))
  · have hi := HI.out w1 b1.out false ⟨fun x => (by cases x), fun x => absurd x g⟩
    rw [hg1] at hi
    replace hi := Lib.hid hi
    have hr := Lib.hid (fun w' hw => h0.out g w' hw)
    clear h1 h0 hS hZ HI HA
    go_wp2_with (go_at_call 24; (with_reducible refine hi.out.mono ?_); rintro e w2 ⟨rfl, hb⟩)
    exact hr.out _ (b1.out.trans (hb.mono (Nat.le_succ _)))
end Go.Proofs.Ytnglmiihlpjelaa.Cfg
