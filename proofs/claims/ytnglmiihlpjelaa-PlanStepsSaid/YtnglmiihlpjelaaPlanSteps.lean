/-
  How many steps a partition makes between any ticks, which its next tick is, and its share, are told as the document tells them, of every configuration (law PlanSteps returns true, and each argument reads as it read).
  No condition: whatever the arguments are.
-/
import Derived.Test.YtnglmiihlpjelaaPlnO
import Derived.Test.YtnglmiihlpjelaaPlnP
import Derived.Test.YtnglmiihlpjelaaPlnJ
import Derived.Test.YtnglmiihlpjelaaPlnK
import Derived.Test.YtnglmiihlpjelaaPlnL
import Derived.Test.YtnglmiihlpjelaaPlnM
namespace Go.Proofs.Ytnglmiihlpjelaa.planSteps
open Go.Proofs.Ytnglmiihlpjelaa Go.Proofs.Ytnglmiihlpjelaa.Cfg
open Go.ChangeShapes Go.WideShapes Go.ChangeAt Go.RowKit
set_option maxRecDepth 100000
set_option linter.unusedVariables false

set_option maxHeartbeats 8000000 in
theorem walk (W : World) {c0 : Cf} {p1_0 : Option Addr} {k1_0 : Nat} {p2_0 : Option Addr} {k2_0 : Nat} {p3_0 : Option Addr} {k3_0 : Nat} (X0 : Cx W W.heap.size c0 p1_0 k1_0 p2_0 k2_0 p3_0 k3_0) (x1 : Int) (w1 : (Lit.int .i64 x1).wf = true) (x2 : Int) (w2 : (Lit.int .i64 x2).wf = true) (x3 : Int) (w3 : (Lit.int .i64 x3).wf = true) :
    Calls Try.prog 6 #[cfV c0 p1_0 k1_0 p2_0 k2_0 p3_0 k3_0, i64 x1, i64 x2, i64 x3] W fun e w' => e = .returned (.bool true) ∧ Below W.heap.size W w' := by
  obtain ⟨r, hr⟩ : ∃ r : Ending → World → Prop, r = fun e w' => e = .returned (.bool true) ∧ Below W.heap.size W w' := ⟨_, rfl⟩
  rw [← hr]
  obtain ⟨h, hhz⟩ : ∃ h, W.heap.size = h := ⟨_, rfl⟩
  have HO := Lib.hid (fun u (b : Below h W u) => (by rw [hr]; exact ⟨rfl, hhz ▸ b⟩ : r (.returned (.bool true)) u))
  clear hr
  have hx := Lib.hid (fun (u : World) (hu : Below h W u) => X0.later hu (Nat.le_of_eq hhz) (by omega))
  have HG := Lib.hid (fun (u : World) (hu : Below h W u) => big_says (hx.out u hu))
  have HA := Lib.hid (fun (u : World) (hu : Below h W u) => next_says (hx.out u hu) x1 x2)
  have HR := Lib.hid (fun (u : World) (hu : Below h W u) => rnext_says (hx.out u hu) x1 x2)
  have HU := Lib.hid (fun (u : World) (hu : Below h W u) => steps_says (hx.out u hu) x1 x2 x3)
  have HV := Lib.hid (fun (u : World) (hu : Below h W u) => rsteps_says (hx.out u hu) x1 x2 x3)
  have HY := Lib.hid (fun (u : World) (hu : Below h W u) => share_says (hx.out u hu) x1)
  have HZ := Lib.hid (fun (u : World) (hu : Below h W u) => rsteps_says (hx.out u hu) x1 0 c0.major)
  obtain ⟨a, ha⟩ : ∃ a, (nextV c0 x1 x2).1 = a := ⟨_, rfl⟩
  obtain ⟨b, hb⟩ : ∃ b, (nextV c0 x1 x2).2 = b := ⟨_, rfl⟩
  obtain ⟨d, hd⟩ : ∃ d, stepV c0 x1 x2 x3 = d := ⟨_, rfl⟩
  obtain ⟨e, he⟩ : ∃ e, stepV c0 x1 0 c0.major = e := ⟨_, rfl⟩
  simp only [shareV_eq] at HY
  simp only [ha, hb, hd, he] at HA HR HU HV HY HZ
  clear ha hb hd he
  obtain ⟨pg, qpg⟩ : ∃ pg, c0.pages = pg := ⟨_, rfl⟩
  obtain ⟨mj, qmj⟩ : ∃ mj, c0.major = mj := ⟨_, rfl⟩
  obtain ⟨sw, qsw⟩ : ∃ sw, c0.switch = sw := ⟨_, rfl⟩
  obtain ⟨n1, qn1⟩ : ∃ n1, c0.parts.length = n1 := ⟨_, rfl⟩
  obtain ⟨n2, qn2⟩ : ∃ n2, c0.chans.length = n2 := ⟨_, rfl⟩
  obtain ⟨m, qm⟩ : ∃ m, c0.wins.length = m := ⟨_, rfl⟩
  simp only [cfV, qpg, qmj, qsw, qn1, qn2, qm] at HG HA HR HU HV HY HZ
  simp only [cfV, qpg, qmj, qsw, qn1, qn2, qm]
  clear hx
  obtain ⟨w1, hw1⟩ : ∃ w1, w1 = W.alloc (.cells #[i64 pg, i64 mj, i64 sw, .slice p1_0 n1 k1_0, .slice p2_0 n2 k2_0, .slice p3_0 m k3_0] 26) := ⟨_, rfl⟩
  have b1 := Lib.hid (by rw [hw1]; exact (Below.refl _ _).alloc (Nat.le_of_eq hhz.symm) _ : Below h W w1)
  have hg1 : w1.heap.size = h + 1 := by rw [hw1, ← hhz]; simp
  have hZ := Lib.hid (fun k v hv => by
    rw [hw1, ← hhz, cell_of_row _ _ k _ _ _ (heap_alloc_new _ _), ← Array.getElem?_toList]; exact hv : ∀ (k : Nat) (v : Value), [i64 pg, i64 mj, i64 sw, Value.slice p1_0 n1 k1_0, .slice p2_0 n2 k2_0, .slice p3_0 m k3_0][k]? = some v → w1.cell? ⟨h, k, none⟩ = some v)
  have hS := Lib.hid (fun u (b : Below (h + 1) w1 u) => (by
    have hZ2 := fun k v hv => (World.cell?_of_block (b.block h (Nat.lt_succ_self _))).trans (hZ.out k v hv)
    exact ⟨b, hZ2 0 _ rfl, hZ2 1 _ rfl, hZ2 2 _ rfl, hZ2 3 _ rfl, hZ2 4 _ rfl, hZ2 5 _ rfl⟩ : (fun u => Below (h + 1) w1 u ∧ u.cell? ⟨h, 0, none⟩ = some (i64 pg) ∧ u.cell? ⟨h, 1, none⟩ = some (i64 mj) ∧ u.cell? ⟨h, 2, none⟩ = some (i64 sw) ∧ u.cell? ⟨h, 3, none⟩ = some (.slice p1_0 n1 k1_0) ∧ u.cell? ⟨h, 4, none⟩ = some (.slice p2_0 n2 k2_0) ∧ u.cell? ⟨h, 5, none⟩ = some (.slice p3_0 m k3_0)) u))
  have HBB := Lib.hid (fun u (hu : Below (h + 1) w1 u) => b1.out.trans (hu.mono (Nat.le_succ _)))
  clear hZ
  go_enter Try.func6, Try.ntmps6
  go_upto_region 1 with fail
  try simp only [hhz]
  rw [← hw1]
  clear hw1
  go_upto_region 2 with (go_at_call 10; (with_reducible refine (alive15 _).mono ?_); rintro e w2 ⟨rfl, hb⟩; have hw2 := Lib.hid (hb.mono (Nat.le_of_eq hg1.symm)); clear hb)
  obtain ⟨-, z0, z1, z2, z3, z4, z5⟩ := hS.out w2 hw2.out
  have hc := Lib.hid (HG.out w2 (HBB.out _ hw2.out))
  go_upto_region 3 with (go_at_call 11; (with_reducible refine hc.out.mono ?_); rintro e w3 ⟨big, rfl, hb⟩; have hw3 := Lib.hid (hw2.out.trans (hb.mono (by have := hw2.out.size; omega))); clear hb)
  clear z0 z1 z2 z3 z4 z5 hc HG
  obtain ⟨-, z0, z1, z2, z3, z4, z5⟩ := hS.out w3 hw3.out
  cases big with
  | true =>
    go_wp2
    exact HO.out _ (HBB.out _ hw3.out)
  | false =>
    have hc := Lib.hid (HA.out w3 (HBB.out _ hw3.out))
    go_upto_region 6 with (go_at_call 14; (with_reducible refine hc.out.mono ?_); rintro e w4 ⟨rfl, hb⟩; have hw4 := Lib.hid (hw3.out.trans (hb.mono (by have := hw3.out.size; omega))); clear hb)
    clear z0 z1 z2 z3 z4 z5 hc
    obtain ⟨-, z0, z1, z2, z3, z4, z5⟩ := hS.out w4 hw4.out
    have hc := Lib.hid (HR.out w4 (HBB.out _ hw4.out))
    go_upto_region 7 with (go_at_call 19; (with_reducible refine hc.out.mono ?_); rintro e w5 ⟨rfl, hb⟩; have hw5 := Lib.hid (hw4.out.trans (hb.mono (by have := hw4.out.size; omega))); clear hb)
    clear z0 z1 z2 z3 z4 z5 hc
    obtain ⟨-, z0, z1, z2, z3, z4, z5⟩ := hS.out w5 hw5.out
    clear z0 z1 z2 z3 z4 z5
    have hbb : (b == b) = true := by simp
    have haa : (a == a) = true := by simp
    have hdd : (d == d) = true := by simp
    have hee : (e == e) = true := by simp
    refine wp_region_held_drew (S := (fun u => Below (h + 1) w1 u ∧ u.cell? ⟨h, 0, none⟩ = some (i64 pg) ∧ u.cell? ⟨h, 1, none⟩ = some (i64 mj) ∧ u.cell? ⟨h, 2, none⟩ = some (i64 sw) ∧ u.cell? ⟨h, 3, none⟩ = some (.slice p1_0 n1 k1_0) ∧ u.cell? ⟨h, 4, none⟩ = some (.slice p2_0 n2 k2_0) ∧ u.cell? ⟨h, 5, none⟩ = some (.slice p3_0 m k3_0))) (by kernel_rfl) ?_ (fun hH0 => ?_)
    · ((try dsimp only); (first | assumption | exact hS.out _ hw5.out | exact hS.out _ hw5.out.drew | exact hS.out _ ((‹Below (h + 1) w1 _ ∧ _›).1.trans ((‹Below (World.heap _).size _ _›).mono (Nat.le_trans (Nat.le_of_eq hg1.symm) (‹Below (h + 1) w1 _ ∧ _›).1.size)))))
    refine wpAnyH_take (i := 0) (oi := { dst := some 38, op := Go.Op.load 26 (Go.Operand.tmp 4), type := 26, pos := "law.go:44", after := #[], guard := none }) (v := ?_) rfl (by kernel_rfl) (by kernel_rfl) (by kernel_rfl) (fun _ _ _ h => h) (Or.inl ⟨by rfl, ?_⟩) (by assumption) ?_
    rotate_left
    · ((intro w hSw; (try dsimp only at hSw); go_simp) <;> (with_reducible rfl))
    try simp only [Act.put, List.setIfInBounds_toArray, List.set_cons_zero, List.set_cons_succ]
    refine wpAnyH_take (i := 1) (oi := { dst := some 39, op := Go.Op.move (Go.Operand.tmp 1), type := 3, pos := "law.go:44", after := #[], guard := none }) (v := ?_) rfl (by kernel_rfl) (by kernel_rfl) (by kernel_rfl) (fun _ _ _ h => h) (Or.inl ⟨by rfl, ?_⟩) (by assumption) ?_
    rotate_left
    · ((intro w hSw; (try dsimp only at hSw); go_simp) <;> (with_reducible rfl))
    try simp only [Act.put, List.setIfInBounds_toArray, List.set_cons_zero, List.set_cons_succ]
    refine wpAnyH_take (i := 2) (oi := { dst := some 40, op := Go.Op.move (Go.Operand.tmp 2), type := 3, pos := "law.go:44", after := #[], guard := none }) (v := ?_) rfl (by kernel_rfl) (by kernel_rfl) (by kernel_rfl) (fun _ _ _ h => h) (Or.inl ⟨by rfl, ?_⟩) (by assumption) ?_
    rotate_left
    · ((intro w hSw; (try dsimp only at hSw); go_simp) <;> (with_reducible rfl))
    try simp only [Act.put, List.setIfInBounds_toArray, List.set_cons_zero, List.set_cons_succ]
    refine wpAnyH_take (i := 3) (oi := { dst := some 41, op := Go.Op.move (Go.Operand.tmp 3), type := 3, pos := "law.go:44", after := #[], guard := none }) (v := ?_) rfl (by kernel_rfl) (by kernel_rfl) (by kernel_rfl) (fun _ _ _ h => h) (Or.inl ⟨by rfl, ?_⟩) (by assumption) ?_
    rotate_left
    · ((intro w hSw; (try dsimp only at hSw); go_simp) <;> (with_reducible rfl))
    try simp only [Act.put, List.setIfInBounds_toArray, List.set_cons_zero, List.set_cons_succ]
    refine wpAnyH_take (i := 5) (oi := { dst := some 43, op := Go.Op.load 26 (Go.Operand.tmp 4), type := 26, pos := "law.go:44", after := #[], guard := none }) (v := ?_) rfl (by kernel_rfl) (by kernel_rfl) (by kernel_rfl) (fun _ _ _ h => h) (Or.inl ⟨by rfl, ?_⟩) (by assumption) ?_
    rotate_left
    · ((intro w hSw; (try dsimp only at hSw); go_simp) <;> (with_reducible rfl))
    try simp only [Act.put, List.setIfInBounds_toArray, List.set_cons_zero, List.set_cons_succ]
    refine wpAnyH_take (i := 6) (oi := { dst := some 44, op := Go.Op.move (Go.Operand.tmp 1), type := 3, pos := "law.go:44", after := #[], guard := none }) (v := ?_) rfl (by kernel_rfl) (by kernel_rfl) (by kernel_rfl) (fun _ _ _ h => h) (Or.inl ⟨by rfl, ?_⟩) (by assumption) ?_
    rotate_left
    · ((intro w hSw; (try dsimp only at hSw); go_simp) <;> (with_reducible rfl))
    try simp only [Act.put, List.setIfInBounds_toArray, List.set_cons_zero, List.set_cons_succ]
    refine wpAnyH_take (i := 7) (oi := { dst := some 45, op := Go.Op.move (Go.Operand.tmp 2), type := 3, pos := "law.go:44", after := #[], guard := none }) (v := ?_) rfl (by kernel_rfl) (by kernel_rfl) (by kernel_rfl) (fun _ _ _ h => h) (Or.inl ⟨by rfl, ?_⟩) (by assumption) ?_
    rotate_left
    · ((intro w hSw; (try dsimp only at hSw); go_simp) <;> (with_reducible rfl))
    try simp only [Act.put, List.setIfInBounds_toArray, List.set_cons_zero, List.set_cons_succ]
    refine wpAnyH_take (i := 8) (oi := { dst := some 46, op := Go.Op.move (Go.Operand.tmp 3), type := 3, pos := "law.go:44", after := #[], guard := none }) (v := ?_) rfl (by kernel_rfl) (by kernel_rfl) (by kernel_rfl) (fun _ _ _ h => h) (Or.inl ⟨by rfl, ?_⟩) (by assumption) ?_
    rotate_left
    · ((intro w hSw; (try dsimp only at hSw); go_simp) <;> (with_reducible rfl))
    try simp only [Act.put, List.setIfInBounds_toArray, List.set_cons_zero, List.set_cons_succ]
    refine wpAnyH_ready (rs := [4]) (by kernel_rfl) (by simp) ?_
    refine AllReadyH.cons (o := { dst := some 42, op := Go.Op.call { callee := Go.Callee.value (Go.Operand.func 15), args := #[Go.Operand.tmp 38, Go.Operand.tmp 39, Go.Operand.tmp 40, Go.Operand.tmp 41], argTypes := #[26, 3, 3, 3] }, type := 3, pos := "law.go:44", after := #[{ on := 0, ground := Go.Ground.data }, { on := 1, ground := Go.Ground.data }, { on := 2, ground := Go.Ground.data }, { on := 3, ground := Go.Ground.data }], guard := none }) rfl (fun K hK => ?_) AllReadyH.nil
    go_simp
    (first | (go_at_call 15; (with_reducible refine (HU.out _ (HBB.out _ (‹Below (h + 1) w1 _ ∧ _›).1)).mono ?_); rintro e t2 ⟨rfl, hb2⟩) | (go_at_call 20; (with_reducible refine (HZ.out _ (HBB.out _ (‹Below (h + 1) w1 _ ∧ _›).1)).mono ?_); rintro e t2 ⟨rfl, hb2⟩) | (go_at_call 20; (with_reducible refine (HV.out _ (HBB.out _ (‹Below (h + 1) w1 _ ∧ _›).1)).mono ?_); rintro e t2 ⟨rfl, hb2⟩) | (go_at_call 21; (with_reducible refine (HY.out _ (HBB.out _ (‹Below (h + 1) w1 _ ∧ _›).1)).mono ?_); rintro e t2 ⟨rfl, hb2⟩))
    refine hK.out _ _ ?_ (fun hH1 => ?_)
    · ((try dsimp only); (first | assumption | exact hS.out _ hw5.out | exact hS.out _ hw5.out.drew | exact hS.out _ ((‹Below (h + 1) w1 _ ∧ _›).1.trans ((‹Below (World.heap _).size _ _›).mono (Nat.le_trans (Nat.le_of_eq hg1.symm) (‹Below (h + 1) w1 _ ∧ _›).1.size)))))
    clear hK K hH0
    try simp only [Act.put, List.setIfInBounds_toArray, List.set_cons_zero, List.set_cons_succ]
    refine wpAnyH_ready (rs := [9]) (by kernel_rfl) (by simp) ?_
    refine AllReadyH.cons (o := { dst := some 47, op := Go.Op.call { callee := Go.Callee.value (Go.Operand.func 20), args := #[Go.Operand.tmp 43, Go.Operand.tmp 44, Go.Operand.tmp 45, Go.Operand.tmp 46], argTypes := #[26, 3, 3, 3] }, type := 3, pos := "law.go:44", after := #[{ on := 5, ground := Go.Ground.data }, { on := 6, ground := Go.Ground.data }, { on := 7, ground := Go.Ground.data }, { on := 8, ground := Go.Ground.data }, { on := 4, ground := Go.Ground.chain }], guard := none }) rfl (fun K hK => ?_) AllReadyH.nil
    go_simp
    (first | (go_at_call 15; (with_reducible refine (HU.out _ (HBB.out _ (‹Below (h + 1) w1 _ ∧ _›).1)).mono ?_); rintro e t2 ⟨rfl, hb2⟩) | (go_at_call 20; (with_reducible refine (HZ.out _ (HBB.out _ (‹Below (h + 1) w1 _ ∧ _›).1)).mono ?_); rintro e t2 ⟨rfl, hb2⟩) | (go_at_call 20; (with_reducible refine (HV.out _ (HBB.out _ (‹Below (h + 1) w1 _ ∧ _›).1)).mono ?_); rintro e t2 ⟨rfl, hb2⟩) | (go_at_call 21; (with_reducible refine (HY.out _ (HBB.out _ (‹Below (h + 1) w1 _ ∧ _›).1)).mono ?_); rintro e t2 ⟨rfl, hb2⟩))
    refine hK.out _ _ ?_ (fun hH2 => ?_)
    · ((try dsimp only); (first | assumption | exact hS.out _ hw5.out | exact hS.out _ hw5.out.drew | exact hS.out _ ((‹Below (h + 1) w1 _ ∧ _›).1.trans ((‹Below (World.heap _).size _ _›).mono (Nat.le_trans (Nat.le_of_eq hg1.symm) (‹Below (h + 1) w1 _ ∧ _›).1.size)))))
    clear hK K hH1
    try simp only [Act.put, List.setIfInBounds_toArray, List.set_cons_zero, List.set_cons_succ]
    refine wpAnyH_take (i := 10) (oi := { dst := some 48, op := Go.Op.binOp Go.BinOp.eql 3 (Go.Operand.tmp 42) (Go.Operand.tmp 47) 3, type := 4, pos := "law.go:44", after := #[{ on := 4, ground := Go.Ground.data }, { on := 9, ground := Go.Ground.data }], guard := none }) (v := ?_) rfl (by kernel_rfl) (by kernel_rfl) (by kernel_rfl) (fun _ _ _ h => h) (Or.inl ⟨by rfl, ?_⟩) (by assumption) ?_
    rotate_left
    · ((intro w hSw; (try dsimp only at hSw); go_simp) <;> (with_reducible rfl))
    try simp only [Act.put, List.setIfInBounds_toArray, List.set_cons_zero, List.set_cons_succ]
    refine wpAnyH_take (i := 11) (oi := { dst := some 49, op := Go.Op.move (Go.Operand.tmp 48), type := 4, pos := "law.go:44", after := #[{ on := 10, ground := Go.Ground.data }, { on := 9, ground := Go.Ground.chain }], guard := none }) (v := ?_) rfl (by kernel_rfl) (by kernel_rfl) (by kernel_rfl) (fun _ _ _ h => h) (Or.inl ⟨by rfl, ?_⟩) (by assumption) ?_
    rotate_left
    · ((intro w hSw; (try dsimp only at hSw); go_simp) <;> (with_reducible rfl))
    try simp only [Act.put, List.setIfInBounds_toArray, List.set_cons_zero, List.set_cons_succ]
    refine wpAnyH_take (i := 12) (oi := { dst := some 50, op := Go.Op.move (Go.Operand.tmp 11), type := 3, pos := "law.go:44", after := #[{ on := 11, ground := Go.Ground.guard }], guard := some (11, true) }) (v := ?_) rfl (by kernel_rfl) (by kernel_rfl) (by kernel_rfl) (fun _ _ _ h => h) (Or.inl ⟨by rfl, ?_⟩) (by assumption) ?_
    rotate_left
    · ((intro w hSw; (try dsimp only at hSw); go_simp) <;> (with_reducible rfl))
    try simp only [Act.put, List.setIfInBounds_toArray, List.set_cons_zero, List.set_cons_succ]
    refine wpAnyH_take (i := 13) (oi := { dst := some 51, op := Go.Op.move (Go.Operand.tmp 13), type := 3, pos := "law.go:44", after := #[{ on := 11, ground := Go.Ground.guard }], guard := some (11, true) }) (v := ?_) rfl (by kernel_rfl) (by kernel_rfl) (by kernel_rfl) (fun _ _ _ h => h) (Or.inl ⟨by rfl, ?_⟩) (by assumption) ?_
    rotate_left
    · ((intro w hSw; (try dsimp only at hSw); go_simp) <;> (with_reducible rfl))
    try simp only [Act.put, List.setIfInBounds_toArray, List.set_cons_zero, List.set_cons_succ]
    refine wpAnyH_take (i := 14) (oi := { dst := some 52, op := Go.Op.binOp Go.BinOp.eql 3 (Go.Operand.tmp 50) (Go.Operand.tmp 51) 3, type := 4, pos := "law.go:44", after := #[{ on := 12, ground := Go.Ground.data }, { on := 13, ground := Go.Ground.data }, { on := 11, ground := Go.Ground.guard }], guard := some (11, true) }) (v := ?_) rfl (by kernel_rfl) (by kernel_rfl) (by kernel_rfl) (fun _ _ _ h => h) (Or.inl ⟨by rfl, ?_⟩) (by assumption) ?_
    rotate_left
    · ((intro w hSw; (try dsimp only at hSw); go_simp) <;> (with_reducible rfl))
    try simp only [Act.put, List.setIfInBounds_toArray, List.set_cons_zero, List.set_cons_succ]
    refine wpAnyH_take (i := 15) (oi := { dst := some 53, op := Go.Op.pick (Go.Operand.tmp 49) (Go.Operand.tmp 52) (Go.Operand.const (Go.Value.bool false)), type := 4, pos := "law.go:44", after := #[{ on := 11, ground := Go.Ground.data }, { on := 14, ground := Go.Ground.data }], guard := none }) (v := ?_) rfl (by kernel_rfl) (by kernel_rfl) (by kernel_rfl) (fun _ _ _ h => h) (Or.inl ⟨by rfl, ?_⟩) (by assumption) ?_
    rotate_left
    · ((intro w hSw; (try dsimp only at hSw); go_simp) <;> (with_reducible rfl))
    try simp only [Act.put, List.setIfInBounds_toArray, List.set_cons_zero, List.set_cons_succ]
    refine wpAnyH_take (i := 16) (oi := { dst := some 54, op := Go.Op.move (Go.Operand.tmp 53), type := 4, pos := "law.go:44", after := #[{ on := 15, ground := Go.Ground.data }, { on := 11, ground := Go.Ground.chain }], guard := none }) (v := ?_) rfl (by kernel_rfl) (by kernel_rfl) (by kernel_rfl) (fun _ _ _ h => h) (Or.inl ⟨by rfl, ?_⟩) (by assumption) ?_
    rotate_left
    · ((intro w hSw; (try dsimp only at hSw); go_simp) <;> (with_reducible rfl))
    try simp only [Act.put, List.setIfInBounds_toArray, List.set_cons_zero, List.set_cons_succ]
    refine wpAnyH_take (i := 17) (oi := { dst := some 55, op := Go.Op.move (Go.Operand.tmp 12), type := 4, pos := "law.go:44", after := #[{ on := 16, ground := Go.Ground.guard }], guard := some (16, true) }) (v := ?_) rfl (by kernel_rfl) (by kernel_rfl) (by kernel_rfl) (fun _ _ _ h => h) (Or.inl ⟨by rfl, ?_⟩) (by assumption) ?_
    rotate_left
    · ((intro w hSw; (try dsimp only at hSw); go_simp) <;> (with_reducible rfl))
    try simp only [Act.put, List.setIfInBounds_toArray, List.set_cons_zero, List.set_cons_succ]
    refine wpAnyH_take (i := 18) (oi := { dst := some 56, op := Go.Op.move (Go.Operand.tmp 14), type := 4, pos := "law.go:44", after := #[{ on := 16, ground := Go.Ground.guard }], guard := some (16, true) }) (v := ?_) rfl (by kernel_rfl) (by kernel_rfl) (by kernel_rfl) (fun _ _ _ h => h) (Or.inl ⟨by rfl, ?_⟩) (by assumption) ?_
    rotate_left
    · ((intro w hSw; (try dsimp only at hSw); go_simp) <;> (with_reducible rfl))
    try simp only [Act.put, List.setIfInBounds_toArray, List.set_cons_zero, List.set_cons_succ]
    refine wpAnyH_take (i := 19) (oi := { dst := some 57, op := Go.Op.binOp Go.BinOp.eql 4 (Go.Operand.tmp 55) (Go.Operand.tmp 56) 4, type := 4, pos := "law.go:44", after := #[{ on := 17, ground := Go.Ground.data }, { on := 18, ground := Go.Ground.data }, { on := 16, ground := Go.Ground.guard }], guard := some (16, true) }) (v := ?_) rfl (by kernel_rfl) (by kernel_rfl) (by kernel_rfl) (fun _ _ _ h => h) (Or.inl ⟨by rfl, ?_⟩) (by assumption) ?_
    rotate_left
    · ((intro w hSw; (try dsimp only at hSw); go_simp) <;> (with_reducible rfl))
    try simp only [Act.put, List.setIfInBounds_toArray, List.set_cons_zero, List.set_cons_succ]
    refine wpAnyH_take (i := 20) (oi := { dst := some 58, op := Go.Op.pick (Go.Operand.tmp 54) (Go.Operand.tmp 57) (Go.Operand.const (Go.Value.bool false)), type := 4, pos := "law.go:44", after := #[{ on := 16, ground := Go.Ground.data }, { on := 19, ground := Go.Ground.data }], guard := none }) (v := ?_) rfl (by kernel_rfl) (by kernel_rfl) (by kernel_rfl) (fun _ _ _ h => h) (Or.inl ⟨by rfl, ?_⟩) (by assumption) ?_
    rotate_left
    · ((intro w hSw; (try dsimp only at hSw); go_simp) <;> (with_reducible rfl))
    try simp only [Act.put, List.setIfInBounds_toArray, List.set_cons_zero, List.set_cons_succ]
    refine wpAnyH_take (i := 21) (oi := { dst := some 59, op := Go.Op.move (Go.Operand.tmp 58), type := 4, pos := "law.go:44", after := #[{ on := 20, ground := Go.Ground.data }, { on := 16, ground := Go.Ground.chain }], guard := none }) (v := ?_) rfl (by kernel_rfl) (by kernel_rfl) (by kernel_rfl) (fun _ _ _ h => h) (Or.inl ⟨by rfl, ?_⟩) (by assumption) ?_
    rotate_left
    · ((intro w hSw; (try dsimp only at hSw); go_simp) <;> (with_reducible rfl))
    try simp only [Act.put, List.setIfInBounds_toArray, List.set_cons_zero, List.set_cons_succ]
    refine wpAnyH_take (i := 22) (oi := { dst := some 60, op := Go.Op.load 26 (Go.Operand.tmp 4), type := 26, pos := "law.go:44", after := #[{ on := 21, ground := Go.Ground.guard }], guard := some (21, true) }) (v := ?_) rfl (by kernel_rfl) (by kernel_rfl) (by kernel_rfl) (fun _ _ _ h => h) (Or.inl ⟨by rfl, ?_⟩) (by assumption) ?_
    rotate_left
    · ((intro w hSw; (try dsimp only at hSw); go_simp) <;> (with_reducible rfl))
    try simp only [Act.put, List.setIfInBounds_toArray, List.set_cons_zero, List.set_cons_succ]
    refine wpAnyH_take (i := 23) (oi := { dst := some 61, op := Go.Op.move (Go.Operand.tmp 1), type := 3, pos := "law.go:44", after := #[{ on := 21, ground := Go.Ground.guard }], guard := some (21, true) }) (v := ?_) rfl (by kernel_rfl) (by kernel_rfl) (by kernel_rfl) (fun _ _ _ h => h) (Or.inl ⟨by rfl, ?_⟩) (by assumption) ?_
    rotate_left
    · ((intro w hSw; (try dsimp only at hSw); go_simp) <;> (with_reducible rfl))
    try simp only [Act.put, List.setIfInBounds_toArray, List.set_cons_zero, List.set_cons_succ]
    refine wpAnyH_take (i := 25) (oi := { dst := some 63, op := Go.Op.load 26 (Go.Operand.tmp 4), type := 26, pos := "law.go:44", after := #[{ on := 21, ground := Go.Ground.guard }], guard := some (21, true) }) (v := ?_) rfl (by kernel_rfl) (by kernel_rfl) (by kernel_rfl) (fun _ _ _ h => h) (Or.inl ⟨by rfl, ?_⟩) (by assumption) ?_
    rotate_left
    · ((intro w hSw; (try dsimp only at hSw); go_simp) <;> (with_reducible rfl))
    try simp only [Act.put, List.setIfInBounds_toArray, List.set_cons_zero, List.set_cons_succ]
    refine wpAnyH_take (i := 26) (oi := { dst := some 64, op := Go.Op.move (Go.Operand.tmp 1), type := 3, pos := "law.go:44", after := #[{ on := 21, ground := Go.Ground.guard }], guard := some (21, true) }) (v := ?_) rfl (by kernel_rfl) (by kernel_rfl) (by kernel_rfl) (fun _ _ _ h => h) (Or.inl ⟨by rfl, ?_⟩) (by assumption) ?_
    rotate_left
    · ((intro w hSw; (try dsimp only at hSw); go_simp) <;> (with_reducible rfl))
    try simp only [Act.put, List.setIfInBounds_toArray, List.set_cons_zero, List.set_cons_succ]
    refine wpAnyH_take (i := 27) (oi := { dst := some 65, op := Go.Op.fieldAddr 26 (Go.Operand.tmp 4) 1, type := 0, pos := "law.go:44", after := #[{ on := 21, ground := Go.Ground.guard }], guard := some (21, true) }) (v := ?_) rfl (by kernel_rfl) (by kernel_rfl) (by kernel_rfl) (fun _ _ _ h => h) (Or.inl ⟨by rfl, ?_⟩) (by assumption) ?_
    rotate_left
    · ((intro w hSw; (try dsimp only at hSw); go_simp) <;> (with_reducible rfl))
    try simp only [Act.put, List.setIfInBounds_toArray, List.set_cons_zero, List.set_cons_succ]
    refine wpAnyH_take (i := 28) (oi := { dst := some 66, op := Go.Op.load 3 (Go.Operand.tmp 65), type := 3, pos := "law.go:44", after := #[{ on := 27, ground := Go.Ground.data }, { on := 21, ground := Go.Ground.guard }], guard := some (21, true) }) (v := ?_) rfl (by kernel_rfl) (by kernel_rfl) (by kernel_rfl) (fun _ _ _ h => h) (Or.inl ⟨by rfl, ?_⟩) (by assumption) ?_
    rotate_left
    · ((intro w hSw; (try dsimp only at hSw); go_simp) <;> (with_reducible rfl))
    try simp only [Act.put, List.setIfInBounds_toArray, List.set_cons_zero, List.set_cons_succ]
    refine wpAnyH_ready (rs := [24]) (by kernel_rfl) (by simp) ?_
    refine AllReadyH.cons (o := { dst := some 62, op := Go.Op.call { callee := Go.Callee.value (Go.Operand.func 21), args := #[Go.Operand.tmp 60, Go.Operand.tmp 61], argTypes := #[26, 3] }, type := 3, pos := "law.go:44", after := #[{ on := 22, ground := Go.Ground.data }, { on := 23, ground := Go.Ground.data }, { on := 21, ground := Go.Ground.chain }, { on := 21, ground := Go.Ground.guard }], guard := some (21, true) }) rfl (fun K hK => ?_) AllReadyH.nil
    go_simp
    (first | (go_at_call 15; (with_reducible refine (HU.out _ (HBB.out _ (‹Below (h + 1) w1 _ ∧ _›).1)).mono ?_); rintro e t2 ⟨rfl, hb2⟩) | (go_at_call 20; (with_reducible refine (HZ.out _ (HBB.out _ (‹Below (h + 1) w1 _ ∧ _›).1)).mono ?_); rintro e t2 ⟨rfl, hb2⟩) | (go_at_call 20; (with_reducible refine (HV.out _ (HBB.out _ (‹Below (h + 1) w1 _ ∧ _›).1)).mono ?_); rintro e t2 ⟨rfl, hb2⟩) | (go_at_call 21; (with_reducible refine (HY.out _ (HBB.out _ (‹Below (h + 1) w1 _ ∧ _›).1)).mono ?_); rintro e t2 ⟨rfl, hb2⟩))
    refine hK.out _ _ ?_ (fun hH3 => ?_)
    · ((try dsimp only); (first | assumption | exact hS.out _ hw5.out | exact hS.out _ hw5.out.drew | exact hS.out _ ((‹Below (h + 1) w1 _ ∧ _›).1.trans ((‹Below (World.heap _).size _ _›).mono (Nat.le_trans (Nat.le_of_eq hg1.symm) (‹Below (h + 1) w1 _ ∧ _›).1.size)))))
    clear hK K hH2
    try simp only [Act.put, List.setIfInBounds_toArray, List.set_cons_zero, List.set_cons_succ]
    refine wpAnyH_ready (rs := [29]) (by kernel_rfl) (by simp) ?_
    refine AllReadyH.cons (o := { dst := some 67, op := Go.Op.call { callee := Go.Callee.value (Go.Operand.func 20), args := #[Go.Operand.tmp 63, Go.Operand.tmp 64, Go.Operand.const (Go.Value.int Go.IntKind.i64 0), Go.Operand.tmp 66], argTypes := #[26, 3, 3, 3] }, type := 3, pos := "law.go:44", after := #[{ on := 25, ground := Go.Ground.data }, { on := 26, ground := Go.Ground.data }, { on := 28, ground := Go.Ground.data }, { on := 24, ground := Go.Ground.chain }, { on := 21, ground := Go.Ground.guard }], guard := some (21, true) }) rfl (fun K hK => ?_) AllReadyH.nil
    go_simp
    (first | (go_at_call 15; (with_reducible refine (HU.out _ (HBB.out _ (‹Below (h + 1) w1 _ ∧ _›).1)).mono ?_); rintro e t2 ⟨rfl, hb2⟩) | (go_at_call 20; (with_reducible refine (HZ.out _ (HBB.out _ (‹Below (h + 1) w1 _ ∧ _›).1)).mono ?_); rintro e t2 ⟨rfl, hb2⟩) | (go_at_call 20; (with_reducible refine (HV.out _ (HBB.out _ (‹Below (h + 1) w1 _ ∧ _›).1)).mono ?_); rintro e t2 ⟨rfl, hb2⟩) | (go_at_call 21; (with_reducible refine (HY.out _ (HBB.out _ (‹Below (h + 1) w1 _ ∧ _›).1)).mono ?_); rintro e t2 ⟨rfl, hb2⟩))
    refine hK.out _ _ ?_ (fun hH4 => ?_)
    · ((try dsimp only); (first | assumption | exact hS.out _ hw5.out | exact hS.out _ hw5.out.drew | exact hS.out _ ((‹Below (h + 1) w1 _ ∧ _›).1.trans ((‹Below (World.heap _).size _ _›).mono (Nat.le_trans (Nat.le_of_eq hg1.symm) (‹Below (h + 1) w1 _ ∧ _›).1.size)))))
    clear hK K hH3
    try simp only [Act.put, List.setIfInBounds_toArray, List.set_cons_zero, List.set_cons_succ]
    refine wpAnyH_take (i := 30) (oi := { dst := some 68, op := Go.Op.binOp Go.BinOp.eql 3 (Go.Operand.tmp 62) (Go.Operand.tmp 67) 3, type := 4, pos := "law.go:44", after := #[{ on := 24, ground := Go.Ground.data }, { on := 29, ground := Go.Ground.data }, { on := 21, ground := Go.Ground.guard }], guard := some (21, true) }) (v := ?_) rfl (by kernel_rfl) (by kernel_rfl) (by kernel_rfl) (fun _ _ _ h => h) (Or.inl ⟨by rfl, ?_⟩) (by assumption) ?_
    rotate_left
    · ((intro w hSw; (try dsimp only at hSw); go_simp) <;> (with_reducible rfl))
    try simp only [Act.put, List.setIfInBounds_toArray, List.set_cons_zero, List.set_cons_succ]
    refine wpAnyH_take (i := 31) (oi := { dst := some 69, op := Go.Op.pick (Go.Operand.tmp 59) (Go.Operand.tmp 68) (Go.Operand.const (Go.Value.bool false)), type := 4, pos := "law.go:44", after := #[{ on := 21, ground := Go.Ground.data }, { on := 30, ground := Go.Ground.data }], guard := none }) (v := ?_) rfl (by kernel_rfl) (by kernel_rfl) (by kernel_rfl) (fun _ _ _ h => h) (Or.inl ⟨by rfl, ?_⟩) (by assumption) ?_
    rotate_left
    · ((intro w hSw; (try dsimp only at hSw); go_simp) <;> (with_reducible rfl))
    try simp only [Act.put, List.setIfInBounds_toArray, List.set_cons_zero, List.set_cons_succ]
    refine wpAnyH_take (i := 32) (oi := { dst := some 8, op := Go.Op.assign (Go.Operand.tmp 69), type := 4, pos := "law.go:44", after := #[{ on := 31, ground := Go.Ground.data }, { on := 29, ground := Go.Ground.chain }, { on := 0, ground := Go.Ground.phase }, { on := 1, ground := Go.Ground.phase }, { on := 2, ground := Go.Ground.phase }, { on := 3, ground := Go.Ground.phase }, { on := 4, ground := Go.Ground.phase }, { on := 5, ground := Go.Ground.phase }, { on := 6, ground := Go.Ground.phase }, { on := 7, ground := Go.Ground.phase }, { on := 8, ground := Go.Ground.phase }, { on := 9, ground := Go.Ground.phase }, { on := 10, ground := Go.Ground.phase }, { on := 11, ground := Go.Ground.phase }, { on := 12, ground := Go.Ground.phase }, { on := 13, ground := Go.Ground.phase }, { on := 14, ground := Go.Ground.phase }, { on := 15, ground := Go.Ground.phase }, { on := 16, ground := Go.Ground.phase }, { on := 17, ground := Go.Ground.phase }, { on := 18, ground := Go.Ground.phase }, { on := 19, ground := Go.Ground.phase }, { on := 20, ground := Go.Ground.phase }, { on := 21, ground := Go.Ground.phase }, { on := 22, ground := Go.Ground.phase }, { on := 23, ground := Go.Ground.phase }, { on := 24, ground := Go.Ground.phase }, { on := 25, ground := Go.Ground.phase }, { on := 26, ground := Go.Ground.phase }, { on := 27, ground := Go.Ground.phase }, { on := 28, ground := Go.Ground.phase }, { on := 29, ground := Go.Ground.phase }, { on := 30, ground := Go.Ground.phase }, { on := 31, ground := Go.Ground.phase }], guard := none }) (v := ?_) rfl (by kernel_rfl) (by kernel_rfl) (by kernel_rfl) (fun _ _ _ h => h) (Or.inl ⟨by rfl, ?_⟩) (by assumption) ?_
    rotate_left
    · ((intro w hSw; (try dsimp only at hSw); go_simp) <;> (with_reducible rfl))
    try simp only [Act.put, List.setIfInBounds_toArray, List.set_cons_zero, List.set_cons_succ]
    refine wpAnyH_done (by kernel_rfl) ?_ _
    all_goals
      go_wp2
      exact HO.out _ (HBB.out _ (‹Below (h + 1) w1 _ ∧ _›).1)
theorem lifted (os : Os) (started : os.Started) (H : Type) (enc : TypeId × Value → H) :
    ReturnsInHanded {} Try.checked os 6 .any (Rows.planStepsSpec.pre6 enc Try.prog Try.f6 Rows.planStepsRow.domain false) (Rows.planStepsSpec.post enc Try.prog Try.f6 false true false false) := by
  refine returnsInHanded_of_change (C := Try.checked) own started (by kernel_rfl) Try.func6
    (ChangeSpec.witness6 (enc := enc) (C := Try.checked) false ⟨#[], #[.agg #[.int .i64 0, .int .i64 0, .int .i64 0, .slice none 0 0, .slice none 0 0, .slice none 0 0], .int .i64 0, .int .i64 0, .int .i64 0], []⟩ 8 (by kernel_rfl) (by kernel_rfl) (by kernel_rfl) (by kernel_rfl)) ?_
  intro W base args ds gs before hval0 hW hcnd _
  have hval : ∀ (j : Nat) t v, Try.f6.params[j]? = some t → args[j]? = some v → Value.okWide Try.prog W .any base t v := hval0
  have hW' := hW
  obtain ⟨p, q, hA0, hV, rfl, hfz, hnd⟩ := hW
  have hA : DataW.TrodAll enc Try.prog W 0 (fun _ => true) true Try.f6.params.toList args.toList ds p := hA0
  rw [Try.params6] at hA hval
  obtain ⟨v0, vs0, d0, ds0, p0, q0, hargs, rfl, rfl, h0, r0⟩ := trodAll_cons hA
  obtain ⟨v1, vs1, d1, ds1, p1, q1, rfl, rfl, rfl, h1, r1⟩ := trodAll_cons r0
  obtain ⟨v2, vs2, d2, ds2, p2, q2, rfl, rfl, rfl, h2, r2⟩ := trodAll_cons r1
  obtain ⟨v3, vs3, d3, ds3, p3, q3, rfl, rfl, rfl, h3, r3⟩ := trodAll_cons r2
  obtain ⟨rfl, rfl, rfl⟩ := trodAll_nil r3
  obtain rfl : args = #[v0, v1, v2, v3] := by cases args; simp_all
  obtain ⟨rfl, rfl⟩ := trodVars_none hV
  have hlt0 : ∀ x ∈ p0, x.block < W.heap.size := fun x hx => hW'.lt x (by simp [hx])
  obtain ⟨c0, p1_0, k1_0, p2_0, k2_0, p3_0, k3_0, rfl, X0⟩ := open_cfg (hval 0 26 v0 rfl rfl) h0
  obtain ⟨x1, rfl, rfl, rfl, w1⟩ := open_int Try.underlying3 (hval 1 3 v1 rfl rfl) h1
  obtain ⟨x2, rfl, rfl, rfl, w2⟩ := open_int Try.underlying3 (hval 2 3 v2 rfl rfl) h2
  obtain ⟨x3, rfl, rfl, rfl, w3⟩ := open_int Try.underlying3 (hval 3 3 v3 rfl rfl) h3
  clear hA0 hval0
  simp only [List.append_nil] at hW'
  refine (walk W X0 x1 w1 x2 w2 x3 w3).mono fun e W' ⟨he, hg⟩ => ?_
  subst he
  exact ⟨_, rfl, _, _, _, [], _, [], hW', (trodAll_cons_mk (shut_bool Try.underlying4 _) trodAll_mk0), (trodAll_cons_mk (Below.trod laidOut (by kernel_rfl) (of_decide_eq_true (by kernel_rfl)) h0 hg hlt0) (trodAll_cons_mk (shut_int Try.underlying3 w1) (trodAll_cons_mk (shut_int Try.underlying3 w2) (trodAll_cons_mk (shut_int Try.underlying3 w3) trodAll_mk0)))), rfl, hg.frame _, fun h => by cases h⟩
theorem over : Rows.planStepsRow.holds Try.pinned (OpenSpec.ofChange Rows.planStepsSpec) :=
  OpenClaim.holds_of_wide 6 Try.f6 rfl rfl rfl rfl rfl rfl rfl ⟨rfl, rfl, rfl, rfl, rfl⟩ rfl rfl rfl rfl rfl (by kernel_rfl) Try.func6 (by kernel_rfl)
    (of_decide_eq_true (by kernel_rfl)) (by unfold Func.isWrapper; first | (rw [if_pos (by decide +kernel)]; kernel_rfl) | (rw [if_neg (by decide +kernel)]; exact ⟨rfl, rfl⟩))
    (fun os started H enc _ => lifted os started H enc)
/-- THE STATEMENT. -/
theorem proved : Rows.PlanStepsSaid :=
  over
end Go.Proofs.Ytnglmiihlpjelaa.planSteps
