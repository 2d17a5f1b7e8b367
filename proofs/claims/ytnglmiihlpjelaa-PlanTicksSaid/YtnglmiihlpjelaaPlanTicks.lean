/-
  Whose tick every tick is, and whether it makes a step, is told as the document tells it, of every configuration (law PlanTicks returns true, and each argument reads as it read).
  No condition: whatever the arguments are.
-/
import Derived.Test.YtnglmiihlpjelaaPlnO
import Derived.Test.YtnglmiihlpjelaaPlnP
import Derived.Test.YtnglmiihlpjelaaPlnI
namespace Go.Proofs.Ytnglmiihlpjelaa.planTicks
open Go.Proofs.Ytnglmiihlpjelaa Go.Proofs.Ytnglmiihlpjelaa.Cfg
open Go.ChangeShapes Go.WideShapes Go.ChangeAt Go.RowKit
set_option maxRecDepth 100000
set_option linter.unusedVariables false

set_option maxHeartbeats 8000000 in
theorem walk (W : World) {c0 : Cf} {p1_0 : Option Addr} {k1_0 : Nat} {p2_0 : Option Addr} {k2_0 : Nat} {p3_0 : Option Addr} {k3_0 : Nat} (X0 : Cx W W.heap.size c0 p1_0 k1_0 p2_0 k2_0 p3_0 k3_0) (x1 : Int) (w1 : (Lit.int .i64 x1).wf = true) :
    Calls Try.prog 5 #[cfV c0 p1_0 k1_0 p2_0 k2_0 p3_0 k3_0, i64 x1] W fun e w' => e = .returned (.bool true) ∧ Below W.heap.size W w' := by
  obtain ⟨r, hr⟩ : ∃ r : Ending → World → Prop, r = fun e w' => e = .returned (.bool true) ∧ Below W.heap.size W w' := ⟨_, rfl⟩
  rw [← hr]
  obtain ⟨h, hhz⟩ : ∃ h, W.heap.size = h := ⟨_, rfl⟩
  have HO := Lib.hid (fun u (b : Below h W u) => (by rw [hr]; exact ⟨rfl, hhz ▸ b⟩ : r (.returned (.bool true)) u))
  clear hr
  have hx := Lib.hid (fun (u : World) (hu : Below h W u) => X0.later hu (Nat.le_of_eq hhz) (by omega))
  have HG := Lib.hid (fun (u : World) (hu : Below h W u) => big_says (hx.out u hu))
  have HA := Lib.hid (fun (u : World) (hu : Below h W u) => at_says (hx.out u hu) x1)
  have HR := Lib.hid (fun (u : World) (hu : Below h W u) => rat_says (hx.out u hu) x1)
  have HU := Lib.hid (fun (u : World) (hu : Below h W u) => runs_says (hx.out u hu) x1)
  have HV := Lib.hid (fun (u : World) (hu : Below h W u) => rruns_says (hx.out u hu) x1)
  obtain ⟨a, ha⟩ : ∃ a, (atV c0 x1).1 = a := ⟨_, rfl⟩
  obtain ⟨b, hb⟩ : ∃ b, (atV c0 x1).2 = b := ⟨_, rfl⟩
  obtain ⟨d, hd⟩ : ∃ d, (runV c0 x1).1 = d := ⟨_, rfl⟩
  obtain ⟨e, he⟩ : ∃ e, (runV c0 x1).2 = e := ⟨_, rfl⟩
  simp only [ha, hb, hd, he] at HA HR HU HV
  clear ha hb hd he
  obtain ⟨pg, qpg⟩ : ∃ pg, c0.pages = pg := ⟨_, rfl⟩
  obtain ⟨mj, qmj⟩ : ∃ mj, c0.major = mj := ⟨_, rfl⟩
  obtain ⟨sw, qsw⟩ : ∃ sw, c0.switch = sw := ⟨_, rfl⟩
  obtain ⟨n1, qn1⟩ : ∃ n1, c0.parts.length = n1 := ⟨_, rfl⟩
  obtain ⟨n2, qn2⟩ : ∃ n2, c0.chans.length = n2 := ⟨_, rfl⟩
  obtain ⟨m, qm⟩ : ∃ m, c0.wins.length = m := ⟨_, rfl⟩
  simp only [cfV, qpg, qmj, qsw, qn1, qn2, qm] at HG HA HR HU HV
  simp only [cfV, qpg, qmj, qsw, qn1, qn2, qm]
  clear hx
  obtain ⟨w1, hw1⟩ : ∃ w1, w1 = W.alloc (.cells #[i64 pg, i64 mj, i64 sw, .slice p1_0 n1 k1_0, .slice p2_0 n2 k2_0, .slice p3_0 m k3_0] 26) := ⟨_, rfl⟩
  have b1 := Lib.hid (by rw [hw1]; exact (Below.refl _ _).alloc (Nat.le_of_eq hhz.symm) _ : Below h W w1)
  have hg1 : w1.heap.size = h + 1 := by rw [hw1, ← hhz]; simp
  have hZ := Lib.hid (fun k v hv => by
    rw [hw1, ← hhz, cell_of_row _ _ k _ _ _ (heap_alloc_new _ _), ← Array.getElem?_toList]; exact hv : ∀ (k : Nat) (v : Value), [i64 pg, i64 mj, i64 sw, Value.slice p1_0 n1 k1_0, .slice p2_0 n2 k2_0, .slice p3_0 m k3_0][k]? = some v → w1.cell? ⟨h, k, none⟩ = some v)
  have hS := Lib.hid (fun u (b : Below (h + 1) w1 u) => (by
    have hZ2 := fun k v hv => (World.cell?_of_block (b.block h (Nat.lt_succ_self _))).trans (hZ.out k v hv)
    exact ⟨b, hZ2 0 _ rfl, hZ2 1 _ rfl, hZ2 2 _ rfl, hZ2 3 _ rfl, hZ2 4 _ rfl, hZ2 5 _ rfl⟩ : (fun u => Below (h + 1) w1 u ∧ u.cell? ⟨h, 0, none⟩ = some (i64 pg) ∧ u.cell? ⟨h, 1, none⟩ = some (i64 mj) ∧ u.cell? ⟨h, 2, none⟩ = some (i64 sw) ∧ u.cell? ⟨h, 3, none⟩ = some (.slice p1_0 n1 k1_0) ∧ u.cell? ⟨h, 4, none⟩ = some (.slice p2_0 n2 k2_0) ∧ u.cell? ⟨h, 5, none⟩ = some (.slice p3_0 m k3_0)) u))
  have HBB := Lib.hid (fun u (hu : Below (h + 1) w1 u) => b1.out.trans (hu.mono (Nat.le_succ _)))
  clear hZ
  go_enter Try.func5, Try.ntmps5
  go_upto_region 1 with fail
  try simp only [hhz]
  rw [← hw1]
  clear hw1
  go_upto_region 2 with (go_at_call 10; (with_reducible refine (alive15 _).mono ?_); rintro e w2 ⟨rfl, hb⟩; have hw2 := Lib.hid (hb.mono (Nat.le_of_eq hg1.symm)); clear hb)
  obtain ⟨-, z0, z1, z2, z3, z4, z5⟩ := hS.out w2 hw2.out
  have hc := Lib.hid (HG.out w2 (HBB.out _ hw2.out))
  go_upto_region 3 with (go_at_call 11; (with_reducible refine hc.out.mono ?_); rintro e w3 ⟨big, rfl, hb⟩; have hw3 := Lib.hid (hw2.out.trans (hb.mono (by have := hw2.out.size; omega))); clear hb)
  clear z0 z1 z2 z3 z4 z5 hc HG
  obtain ⟨-, z0, z1, z2, z3, z4, z5⟩ := hS.out w3 hw3.out
  cases big with
  | true =>
    go_wp2
    exact HO.out _ (HBB.out _ hw3.out)
  | false =>
    have hc := Lib.hid (HA.out w3 (HBB.out _ hw3.out))
    go_upto_region 6 with (go_at_call 13; (with_reducible refine hc.out.mono ?_); rintro e w4 ⟨rfl, hb⟩; have hw4 := Lib.hid (hw3.out.trans (hb.mono (by have := hw3.out.size; omega))); clear hb)
    clear z0 z1 z2 z3 z4 z5 hc
    obtain ⟨-, z0, z1, z2, z3, z4, z5⟩ := hS.out w4 hw4.out
    have hc := Lib.hid (HR.out w4 (HBB.out _ hw4.out))
    go_upto_region 7 with (go_at_call 16; (with_reducible refine hc.out.mono ?_); rintro e w5 ⟨rfl, hb⟩; have hw5 := Lib.hid (hw4.out.trans (hb.mono (by have := hw4.out.size; omega))); clear hb)
    clear z0 z1 z2 z3 z4 z5 hc
    obtain ⟨-, z0, z1, z2, z3, z4, z5⟩ := hS.out w5 hw5.out
    have hc := Lib.hid (HU.out w5 (HBB.out _ hw5.out))
    go_upto_region 8 with (go_at_call 17; (with_reducible refine hc.out.mono ?_); rintro e w6 ⟨rfl, hb⟩; have hw6 := Lib.hid (hw5.out.trans (hb.mono (by have := hw5.out.size; omega))); clear hb)
    clear z0 z1 z2 z3 z4 z5 hc
    obtain ⟨-, z0, z1, z2, z3, z4, z5⟩ := hS.out w6 hw6.out
    have hc := Lib.hid (HV.out w6 (HBB.out _ hw6.out))
    go_upto_region 9 with (go_at_call 18; (with_reducible refine hc.out.mono ?_); rintro e w7 ⟨rfl, hb⟩; have hw7 := Lib.hid (hw6.out.trans (hb.mono (by have := hw6.out.size; omega))); clear hb)
    clear z0 z1 z2 z3 z4 z5 hc
    obtain ⟨-, z0, z1, z2, z3, z4, z5⟩ := hS.out w7 hw7.out
    go_wp2
    exact HO.out _ (HBB.out _ hw7.out)
theorem lifted (os : Os) (started : os.Started) (H : Type) (enc : TypeId × Value → H) :
    ReturnsInHanded {} Try.checked os 5 .any (Rows.planTicksSpec.pre6 enc Try.prog Try.f5 Rows.planTicksRow.domain false) (Rows.planTicksSpec.post enc Try.prog Try.f5 false true false false) := by
  refine returnsInHanded_of_change (C := Try.checked) own started (by kernel_rfl) Try.func5
    (ChangeSpec.witness6 (enc := enc) (C := Try.checked) false ⟨#[], #[.agg #[.int .i64 0, .int .i64 0, .int .i64 0, .slice none 0 0, .slice none 0 0, .slice none 0 0], .int .i64 0], []⟩ 8 (by kernel_rfl) (by kernel_rfl) (by kernel_rfl) (by kernel_rfl)) ?_
  intro W base args ds gs before hval0 hW hcnd _
  have hval : ∀ (j : Nat) t v, Try.f5.params[j]? = some t → args[j]? = some v → Value.okWide Try.prog W .any base t v := hval0
  have hW' := hW
  obtain ⟨p, q, hA0, hV, rfl, hfz, hnd⟩ := hW
  have hA : DataW.TrodAll enc Try.prog W 0 (fun _ => true) true Try.f5.params.toList args.toList ds p := hA0
  rw [Try.params5] at hA hval
  obtain ⟨v0, vs0, d0, ds0, p0, q0, hargs, rfl, rfl, h0, r0⟩ := trodAll_cons hA
  obtain ⟨v1, vs1, d1, ds1, p1, q1, rfl, rfl, rfl, h1, r1⟩ := trodAll_cons r0
  obtain ⟨rfl, rfl, rfl⟩ := trodAll_nil r1
  obtain rfl : args = #[v0, v1] := by cases args; simp_all
  obtain ⟨rfl, rfl⟩ := trodVars_none hV
  have hlt0 : ∀ x ∈ p0, x.block < W.heap.size := fun x hx => hW'.lt x (by simp [hx])
  obtain ⟨c0, p1_0, k1_0, p2_0, k2_0, p3_0, k3_0, rfl, X0⟩ := open_cfg (hval 0 26 v0 rfl rfl) h0
  obtain ⟨x1, rfl, rfl, rfl, w1⟩ := open_int Try.underlying3 (hval 1 3 v1 rfl rfl) h1
  clear hA0 hval0
  simp only [List.append_nil] at hW'
  refine (walk W X0 x1 w1).mono fun e W' ⟨he, hg⟩ => ?_
  subst he
  exact ⟨_, rfl, _, _, _, [], _, [], hW', (trodAll_cons_mk (shut_bool Try.underlying4 _) trodAll_mk0), (trodAll_cons_mk (Below.trod laidOut (by kernel_rfl) (of_decide_eq_true (by kernel_rfl)) h0 hg hlt0) (trodAll_cons_mk (shut_int Try.underlying3 w1) trodAll_mk0)), rfl, hg.frame _, fun h => by cases h⟩
theorem over : Rows.planTicksRow.holds Try.pinned (OpenSpec.ofChange Rows.planTicksSpec) :=
  OpenClaim.holds_of_wide 5 Try.f5 rfl rfl rfl rfl rfl rfl rfl ⟨rfl, rfl, rfl, rfl, rfl⟩ rfl rfl rfl rfl rfl (by kernel_rfl) Try.func5 (by kernel_rfl)
    (of_decide_eq_true (by kernel_rfl)) (by unfold Func.isWrapper; first | (rw [if_pos (by decide +kernel)]; kernel_rfl) | (rw [if_neg (by decide +kernel)]; exact ⟨rfl, rfl⟩))
    (fun os started H enc _ => lifted os started H enc)
/-- THE STATEMENT. -/
theorem proved : Rows.PlanTicksSaid :=
  over
end Go.Proofs.Ytnglmiihlpjelaa.planTicks
