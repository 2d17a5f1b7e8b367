/-
  Package plan: stepsBelow.
-/
import Derived.Test.YtnglmiihlpjelaaPlnB
import Derived.Deep.RegionHeld3
set_option maxRecDepth 100000
set_option linter.unusedVariables false
namespace Go.Proofs.Ytnglmiihlpjelaa.Cfg
open Go.Proofs.Ytnglmiihlpjelaa
open Go.ChangeShapes Go.WideShapes Go.ChangeAt Go.RowKit
set_option maxHeartbeats 8000000 in
theorem stepsBelow_says {w : World} {c : Cf} {p1 : Option Addr} {c1 : Nat} {p2 : Option Addr} {c2 : Nat} {p3 : Option Addr} {c3 : Nat} (X : Cx w w.heap.size c p1 c1 p2 c2 p3 c3) (vd : Vd c) (part t : Int) (ht : okT t) :
    Calls Try.prog 25 #[cfV c p1 c1 p2 c2 p3 c3, i64 part, i64 t] w fun e w' => e = .returned (i64 (belowV c part t)) ∧ Below w.heap.size w w' := by
  obtain ⟨p, hp⟩ : ∃ p : Ending → World → Prop, p = fun e w' => e = .returned (i64 (belowV c part t)) ∧ Below w.heap.size w w' := ⟨_, rfl⟩
  rw [← hp]
  have HO := Lib.hid (fun w' (hw : Below w.heap.size w w') => (by rw [hp]; exact ⟨rfl, hw⟩ : p (.returned (i64 (belowV c part t))) w'))
  clear hp
  obtain ⟨h, hhz⟩ : ∃ h, w.heap.size = h := ⟨_, rfl⟩
  rw [hhz] at HO
  have hA0 := aheadV_bd vd part c.major
  have hD0 := aheadV_bd vd part (t % c.major)
  have hmj := vd.mj
  have HA := Lib.hid (fun (u : World) (hu : Below h w u) => stepsAhead_says (X.later hu (Nat.le_of_eq hhz) (by omega)) vd part c.major ⟨by omega, hmj.2⟩)
  have hu0 : 0 ≤ t % c.major := Int.emod_nonneg _ (by omega)
  have hu1 : t % c.major < c.major := Int.emod_lt_of_pos _ (by omega)
  have HD := Lib.hid (fun (u : World) (hu : Below h w u) => stepsAhead_says (X.later hu (Nat.le_of_eq hhz) (by omega)) vd part (t % c.major) ⟨hu0, by omega⟩)
  have hV := belowV_eq vd part t
  have ht0 := ht.1
  have ht1 := ht.2
  have eq1 := Lib.hid (by rw [Int.tdiv_eq_ediv_of_nonneg ht.1] : t.tdiv c.major = t / c.major)
  have eu1 := Lib.hid (by rw [Int.tmod_eq_emod_of_nonneg ht.1] : t.tmod c.major = t % c.major)
  rw [← eq1.out, ← eu1.out] at hV
  rw [← eu1.out] at hD0 HD hu0 hu1
  have hq0 : 0 ≤ t.tdiv c.major := by rw [eq1.out]; exact Int.ediv_nonneg ht.1 (by omega)
  have hq1 : t.tdiv c.major ≤ 1099511627776 := by
    have h2 : t.tdiv c.major ≤ t := by rw [eq1.out]; exact Int.ediv_le_self _ ht.1
    omega
  clear eq1 eu1
  obtain ⟨A, hA⟩ : ∃ A, aheadV c part c.major = A := ⟨_, rfl⟩
  obtain ⟨D, hD⟩ : ∃ D, aheadV c part (t.tmod c.major) = D := ⟨_, rfl⟩
  rw [hA] at hA0 HA hV
  rw [hD] at hD0 HD hV
  rw [← hV] at HO
  clear hA hD hV vd
  simp only [cfV] at HA HD ⊢
  obtain ⟨pg, qpg⟩ : ∃ pg, c.pages = pg := ⟨_, rfl⟩
  obtain ⟨mj, qmj⟩ : ∃ mj, c.major = mj := ⟨_, rfl⟩
  obtain ⟨sw, qsw⟩ : ∃ sw, c.switch = sw := ⟨_, rfl⟩
  obtain ⟨n1, qn1⟩ : ∃ n1, c.parts.length = n1 := ⟨_, rfl⟩
  obtain ⟨n2, qn2⟩ : ∃ n2, c.chans.length = n2 := ⟨_, rfl⟩
  obtain ⟨m, qm⟩ : ∃ m, c.wins.length = m := ⟨_, rfl⟩
  rw [qpg, qmj, qsw, qn1, qn2, qm] at HA HD
  rw [qmj] at hmj hu0 hu1 hq0 hq1 HO
  rw [qpg, qmj, qsw, qn1, qn2, qm]
  clear qpg qmj qsw qn1 qn2 qm X
  have hP0 : 0 ≤ t.tdiv mj * A := Int.mul_nonneg hq0 hA0.1
  have hP1 : t.tdiv mj * A ≤ 3518437208883200000 := by
    have := Int.mul_le_mul hq1 hA0.2 hA0.1 (by omega)
    omega
  have hmz : ¬ mj = 0 := by omega
  have hWW := Lib.hid (by
    have e1 : IntKind.i64.wrap (t.tdiv mj) = t.tdiv mj := by rw [IntKind.wrap_i64]; omega
    have e2 : IntKind.i64.wrap (t.tdiv mj * A) = t.tdiv mj * A := by rw [IntKind.wrap_i64]; omega
    rw [e1, e2, IntKind.wrap_i64]; omega : IntKind.i64.wrap (IntKind.i64.wrap (IntKind.i64.wrap (t.tdiv mj) * A) + D) = t.tdiv mj * A + D)
  obtain ⟨w1, hw1⟩ : ∃ w1, w1 = w.alloc (.cells #[i64 pg, i64 mj, i64 sw, .slice p1 n1 c1, .slice p2 n2 c2, .slice p3 m c3] 26) := ⟨_, rfl⟩
  have b1 := Lib.hid (by rw [hw1]; exact (Below.refl _ _).alloc (Nat.le_of_eq hhz.symm) _ : Below h w w1)
  have hg1 : w1.heap.size = h + 1 := by rw [hw1, ← hhz]; simp
  have hZ := Lib.hid (fun k v hv => by
    rw [hw1, ← hhz, cell_of_row _ _ k _ _ _ (heap_alloc_new _ _), ← Array.getElem?_toList]; exact hv : ∀ (k : Nat) (v : Value), [i64 pg, i64 mj, i64 sw, Value.slice p1 n1 c1, .slice p2 n2 c2, .slice p3 m c3][k]? = some v → w1.cell? ⟨h, k, none⟩ = some v)
  go_enter Try.func25, Try.ntmps25
  go_upto_region 1 with fail
  try simp only [hhz]
  rw [← hw1]
  clear hw1
  have hS := Lib.hid (fun u (b : Below (h + 1) w1 u) => (by
    have hZ2 := fun k v hv => (World.cell?_of_block (b.block h (Nat.lt_succ_self _))).trans (hZ.out k v hv)
    exact ⟨b, hZ2 0 _ rfl, hZ2 1 _ rfl, hZ2 2 _ rfl, hZ2 3 _ rfl, hZ2 4 _ rfl, hZ2 5 _ rfl⟩ : (fun u => Below (h + 1) w1 u ∧ u.cell? ⟨h, 0, none⟩ = some (i64 pg) ∧ u.cell? ⟨h, 1, none⟩ = some (i64 mj) ∧ u.cell? ⟨h, 2, none⟩ = some (i64 sw) ∧ u.cell? ⟨h, 3, none⟩ = some (.slice p1 n1 c1) ∧ u.cell? ⟨h, 4, none⟩ = some (.slice p2 n2 c2) ∧ u.cell? ⟨h, 5, none⟩ = some (.slice p3 m c3)) u))
  have hw2 := Lib.hid (Below.refl (h + 1) w1)
  have HA2 := Lib.hid (fun u (b : Below (h + 1) w1 u) => HA.out u (b1.out.trans (b.mono (Nat.le_succ _))))
  have HD2 := Lib.hid (fun u (b : Below (h + 1) w1 u) => HD.out u (b1.out.trans (b.mono (Nat.le_succ _))))
  clear hZ HA HD
  go_wp2
  refine wp_region_held_drew (S := (fun u => Below (h + 1) w1 u ∧ u.cell? ⟨h, 0, none⟩ = some (i64 pg) ∧ u.cell? ⟨h, 1, none⟩ = some (i64 mj) ∧ u.cell? ⟨h, 2, none⟩ = some (i64 sw) ∧ u.cell? ⟨h, 3, none⟩ = some (.slice p1 n1 c1) ∧ u.cell? ⟨h, 4, none⟩ = some (.slice p2 n2 c2) ∧ u.cell? ⟨h, 5, none⟩ = some (.slice p3 m c3))) (by kernel_rfl) ?_ (fun hH0 => ?_)
  · ((try dsimp only); (first | assumption | exact hS.out _ (Below.refl _ _) | exact hS.out _ (Below.refl _ _).drew | exact hS.out _ hw2.out | exact hS.out _ hw2.out.drew | exact hS.out _ ((‹Below (h + 1) w1 _ ∧ _›).1.trans ((‹Below (World.heap _).size _ _›).mono (Nat.le_trans (Nat.le_of_eq hg1.symm) (‹Below (h + 1) w1 _ ∧ _›).1.size)))))
  refine wpAnyH_take (i := 0) (oi := { dst := some 7, op := Go.Op.move (Go.Operand.tmp 2), type := 3, pos := "plan.go:54", after := #[], guard := none }) (v := ?_) rfl (by kernel_rfl) (by kernel_rfl) (by kernel_rfl) (fun _ _ _ h => h) (Or.inl ⟨by rfl, ?_⟩) (by assumption) ?_
  rotate_left
  · ((intro w hSw; (try dsimp only at hSw); go_simp) <;> (with_reducible rfl))
  try simp only [Act.put, List.setIfInBounds_toArray, List.set_cons_zero, List.set_cons_succ]
  refine wpAnyH_take (i := 1) (oi := { dst := some 8, op := Go.Op.fieldAddr 26 (Go.Operand.tmp 3) 1, type := 0, pos := "plan.go:54", after := #[], guard := none }) (v := ?_) rfl (by kernel_rfl) (by kernel_rfl) (by kernel_rfl) (fun _ _ _ h => h) (Or.inl ⟨by rfl, ?_⟩) (by assumption) ?_
  rotate_left
  · ((intro w hSw; (try dsimp only at hSw); go_simp) <;> (with_reducible rfl))
  try simp only [Act.put, List.setIfInBounds_toArray, List.set_cons_zero, List.set_cons_succ]
  refine wpAnyH_take (i := 2) (oi := { dst := some 9, op := Go.Op.load 3 (Go.Operand.tmp 8), type := 3, pos := "plan.go:54", after := #[{ on := 1, ground := Go.Ground.data }], guard := none }) (v := ?_) rfl (by kernel_rfl) (by kernel_rfl) (by kernel_rfl) (fun _ _ _ h => h) (Or.inl ⟨by rfl, ?_⟩) (by assumption) ?_
  rotate_left
  · ((intro w hSw; (try dsimp only at hSw); go_simp) <;> (with_reducible rfl))
  try simp only [Act.put, List.setIfInBounds_toArray, List.set_cons_zero, List.set_cons_succ]
  refine wpAnyH_take (i := 3) (oi := { dst := some 10, op := Go.Op.binOp Go.BinOp.quo 3 (Go.Operand.tmp 7) (Go.Operand.tmp 9) 3, type := 3, pos := "plan.go:54", after := #[{ on := 0, ground := Go.Ground.data }, { on := 2, ground := Go.Ground.data }], guard := none }) (v := ?_) rfl (by kernel_rfl) (by kernel_rfl) (by kernel_rfl) (fun _ _ _ h => h) (Or.inl ⟨by rfl, ?_⟩) (by assumption) ?_
  rotate_left
  · ((intro w hSw; (try dsimp only at hSw); go_simp) <;> (with_reducible rfl))
  try simp only [Act.put, List.setIfInBounds_toArray, List.set_cons_zero, List.set_cons_succ]
  refine wpAnyH_take (i := 4) (oi := { dst := some 11, op := Go.Op.load 26 (Go.Operand.tmp 3), type := 26, pos := "plan.go:54", after := #[], guard := none }) (v := ?_) rfl (by kernel_rfl) (by kernel_rfl) (by kernel_rfl) (fun _ _ _ h => h) (Or.inl ⟨by rfl, ?_⟩) (by assumption) ?_
  rotate_left
  · ((intro w hSw; (try dsimp only at hSw); go_simp) <;> (with_reducible rfl))
  try simp only [Act.put, List.setIfInBounds_toArray, List.set_cons_zero, List.set_cons_succ]
  refine wpAnyH_take (i := 5) (oi := { dst := some 12, op := Go.Op.move (Go.Operand.tmp 1), type := 3, pos := "plan.go:54", after := #[], guard := none }) (v := ?_) rfl (by kernel_rfl) (by kernel_rfl) (by kernel_rfl) (fun _ _ _ h => h) (Or.inl ⟨by rfl, ?_⟩) (by assumption) ?_
  rotate_left
  · ((intro w hSw; (try dsimp only at hSw); go_simp) <;> (with_reducible rfl))
  try simp only [Act.put, List.setIfInBounds_toArray, List.set_cons_zero, List.set_cons_succ]
  refine wpAnyH_take (i := 6) (oi := { dst := some 13, op := Go.Op.fieldAddr 26 (Go.Operand.tmp 3) 1, type := 0, pos := "plan.go:54", after := #[], guard := none }) (v := ?_) rfl (by kernel_rfl) (by kernel_rfl) (by kernel_rfl) (fun _ _ _ h => h) (Or.inl ⟨by rfl, ?_⟩) (by assumption) ?_
  rotate_left
  · ((intro w hSw; (try dsimp only at hSw); go_simp) <;> (with_reducible rfl))
  try simp only [Act.put, List.setIfInBounds_toArray, List.set_cons_zero, List.set_cons_succ]
  refine wpAnyH_take (i := 7) (oi := { dst := some 14, op := Go.Op.load 3 (Go.Operand.tmp 13), type := 3, pos := "plan.go:54", after := #[{ on := 6, ground := Go.Ground.data }], guard := none }) (v := ?_) rfl (by kernel_rfl) (by kernel_rfl) (by kernel_rfl) (fun _ _ _ h => h) (Or.inl ⟨by rfl, ?_⟩) (by assumption) ?_
  rotate_left
  · ((intro w hSw; (try dsimp only at hSw); go_simp) <;> (with_reducible rfl))
  try simp only [Act.put, List.setIfInBounds_toArray, List.set_cons_zero, List.set_cons_succ]
  refine wpAnyH_take (i := 10) (oi := { dst := some 17, op := Go.Op.load 26 (Go.Operand.tmp 3), type := 26, pos := "plan.go:54", after := #[], guard := none }) (v := ?_) rfl (by kernel_rfl) (by kernel_rfl) (by kernel_rfl) (fun _ _ _ h => h) (Or.inl ⟨by rfl, ?_⟩) (by assumption) ?_
  rotate_left
  · ((intro w hSw; (try dsimp only at hSw); go_simp) <;> (with_reducible rfl))
  try simp only [Act.put, List.setIfInBounds_toArray, List.set_cons_zero, List.set_cons_succ]
  refine wpAnyH_take (i := 11) (oi := { dst := some 18, op := Go.Op.move (Go.Operand.tmp 1), type := 3, pos := "plan.go:54", after := #[], guard := none }) (v := ?_) rfl (by kernel_rfl) (by kernel_rfl) (by kernel_rfl) (fun _ _ _ h => h) (Or.inl ⟨by rfl, ?_⟩) (by assumption) ?_
  rotate_left
  · ((intro w hSw; (try dsimp only at hSw); go_simp) <;> (with_reducible rfl))
  try simp only [Act.put, List.setIfInBounds_toArray, List.set_cons_zero, List.set_cons_succ]
  refine wpAnyH_take (i := 12) (oi := { dst := some 19, op := Go.Op.move (Go.Operand.tmp 2), type := 3, pos := "plan.go:54", after := #[], guard := none }) (v := ?_) rfl (by kernel_rfl) (by kernel_rfl) (by kernel_rfl) (fun _ _ _ h => h) (Or.inl ⟨by rfl, ?_⟩) (by assumption) ?_
  rotate_left
  · ((intro w hSw; (try dsimp only at hSw); go_simp) <;> (with_reducible rfl))
  try simp only [Act.put, List.setIfInBounds_toArray, List.set_cons_zero, List.set_cons_succ]
  refine wpAnyH_take (i := 13) (oi := { dst := some 20, op := Go.Op.fieldAddr 26 (Go.Operand.tmp 3) 1, type := 0, pos := "plan.go:54", after := #[], guard := none }) (v := ?_) rfl (by kernel_rfl) (by kernel_rfl) (by kernel_rfl) (fun _ _ _ h => h) (Or.inl ⟨by rfl, ?_⟩) (by assumption) ?_
  rotate_left
  · ((intro w hSw; (try dsimp only at hSw); go_simp) <;> (with_reducible rfl))
  try simp only [Act.put, List.setIfInBounds_toArray, List.set_cons_zero, List.set_cons_succ]
  refine wpAnyH_take (i := 14) (oi := { dst := some 21, op := Go.Op.load 3 (Go.Operand.tmp 20), type := 3, pos := "plan.go:54", after := #[{ on := 13, ground := Go.Ground.data }], guard := none }) (v := ?_) rfl (by kernel_rfl) (by kernel_rfl) (by kernel_rfl) (fun _ _ _ h => h) (Or.inl ⟨by rfl, ?_⟩) (by assumption) ?_
  rotate_left
  · ((intro w hSw; (try dsimp only at hSw); go_simp) <;> (with_reducible rfl))
  try simp only [Act.put, List.setIfInBounds_toArray, List.set_cons_zero, List.set_cons_succ]
  refine wpAnyH_take (i := 15) (oi := { dst := some 22, op := Go.Op.binOp Go.BinOp.rem 3 (Go.Operand.tmp 19) (Go.Operand.tmp 21) 3, type := 3, pos := "plan.go:54", after := #[{ on := 12, ground := Go.Ground.data }, { on := 14, ground := Go.Ground.data }], guard := none }) (v := ?_) rfl (by kernel_rfl) (by kernel_rfl) (by kernel_rfl) (fun _ _ _ h => h) (Or.inl ⟨by rfl, ?_⟩) (by assumption) ?_
  rotate_left
  · ((intro w hSw; (try dsimp only at hSw); go_simp) <;> (with_reducible rfl))
  try simp only [Act.put, List.setIfInBounds_toArray, List.set_cons_zero, List.set_cons_succ]
  refine wpAnyH_ready (rs := [8]) (by kernel_rfl) (by simp) ?_
  refine AllReadyH.cons (o := { dst := some 15, op := Go.Op.call { callee := Go.Callee.value (Go.Operand.func 27), args := #[Go.Operand.tmp 11, Go.Operand.tmp 12, Go.Operand.tmp 14], argTypes := #[26, 3, 3] }, type := 3, pos := "plan.go:54", after := #[{ on := 4, ground := Go.Ground.data }, { on := 5, ground := Go.Ground.data }, { on := 7, ground := Go.Ground.data }], guard := none }) rfl (fun K hK => ?_) AllReadyH.nil
  go_simp
  (go_at_call 27; (first | (with_reducible refine (HD2.out _ (‹Below (h + 1) w1 _ ∧ _›).1).mono ?_) | (with_reducible refine (HA2.out _ (‹Below (h + 1) w1 _ ∧ _›).1).mono ?_)); rintro e t2 ⟨rfl, hb2⟩)
  refine hK.out _ _ ?_ (fun hH1 => ?_)
  · ((try dsimp only); (first | assumption | exact hS.out _ (Below.refl _ _) | exact hS.out _ (Below.refl _ _).drew | exact hS.out _ hw2.out | exact hS.out _ hw2.out.drew | exact hS.out _ ((‹Below (h + 1) w1 _ ∧ _›).1.trans ((‹Below (World.heap _).size _ _›).mono (Nat.le_trans (Nat.le_of_eq hg1.symm) (‹Below (h + 1) w1 _ ∧ _›).1.size)))))
  clear hK K hH0
  try simp only [Act.put, List.setIfInBounds_toArray, List.set_cons_zero, List.set_cons_succ]
  refine wpAnyH_take (i := 9) (oi := { dst := some 16, op := Go.Op.binOp Go.BinOp.mul 3 (Go.Operand.tmp 10) (Go.Operand.tmp 15) 3, type := 3, pos := "plan.go:54", after := #[{ on := 3, ground := Go.Ground.data }, { on := 8, ground := Go.Ground.data }], guard := none }) (v := ?_) rfl (by kernel_rfl) (by kernel_rfl) (by kernel_rfl) (fun _ _ _ h => h) (Or.inl ⟨by rfl, ?_⟩) (by assumption) ?_
  rotate_left
  · ((intro w hSw; (try dsimp only at hSw); go_simp) <;> (with_reducible rfl))
  try simp only [Act.put, List.setIfInBounds_toArray, List.set_cons_zero, List.set_cons_succ]
  refine wpAnyH_ready (rs := [16]) (by kernel_rfl) (by simp) ?_
  refine AllReadyH.cons (o := { dst := some 23, op := Go.Op.call { callee := Go.Callee.value (Go.Operand.func 27), args := #[Go.Operand.tmp 17, Go.Operand.tmp 18, Go.Operand.tmp 22], argTypes := #[26, 3, 3] }, type := 3, pos := "plan.go:54", after := #[{ on := 10, ground := Go.Ground.data }, { on := 11, ground := Go.Ground.data }, { on := 15, ground := Go.Ground.data }, { on := 8, ground := Go.Ground.chain }], guard := none }) rfl (fun K hK => ?_) AllReadyH.nil
  go_simp
  (go_at_call 27; (first | (with_reducible refine (HD2.out _ (‹Below (h + 1) w1 _ ∧ _›).1).mono ?_) | (with_reducible refine (HA2.out _ (‹Below (h + 1) w1 _ ∧ _›).1).mono ?_)); rintro e t2 ⟨rfl, hb2⟩)
  refine hK.out _ _ ?_ (fun hH2 => ?_)
  · ((try dsimp only); (first | assumption | exact hS.out _ (Below.refl _ _) | exact hS.out _ (Below.refl _ _).drew | exact hS.out _ hw2.out | exact hS.out _ hw2.out.drew | exact hS.out _ ((‹Below (h + 1) w1 _ ∧ _›).1.trans ((‹Below (World.heap _).size _ _›).mono (Nat.le_trans (Nat.le_of_eq hg1.symm) (‹Below (h + 1) w1 _ ∧ _›).1.size)))))
  clear hK K hH1
  try simp only [Act.put, List.setIfInBounds_toArray, List.set_cons_zero, List.set_cons_succ]
  refine wpAnyH_take (i := 17) (oi := { dst := some 24, op := Go.Op.binOp Go.BinOp.add 3 (Go.Operand.tmp 16) (Go.Operand.tmp 23) 3, type := 3, pos := "plan.go:54", after := #[{ on := 9, ground := Go.Ground.data }, { on := 16, ground := Go.Ground.data }], guard := none }) (v := ?_) rfl (by kernel_rfl) (by kernel_rfl) (by kernel_rfl) (fun _ _ _ h => h) (Or.inl ⟨by rfl, ?_⟩) (by assumption) ?_
  rotate_left
  · ((intro w hSw; (try dsimp only at hSw); go_simp) <;> (with_reducible rfl))
  try simp only [Act.put, List.setIfInBounds_toArray, List.set_cons_zero, List.set_cons_succ]
  refine wpAnyH_take (i := 18) (oi := { dst := some 6, op := Go.Op.assign (Go.Operand.tmp 24), type := 3, pos := "plan.go:54", after := #[{ on := 17, ground := Go.Ground.data }, { on := 16, ground := Go.Ground.chain }, { on := 0, ground := Go.Ground.phase }, { on := 1, ground := Go.Ground.phase }, { on := 2, ground := Go.Ground.phase }, { on := 3, ground := Go.Ground.phase }, { on := 4, ground := Go.Ground.phase }, { on := 5, ground := Go.Ground.phase }, { on := 6, ground := Go.Ground.phase }, { on := 7, ground := Go.Ground.phase }, { on := 8, ground := Go.Ground.phase }, { on := 9, ground := Go.Ground.phase }, { on := 10, ground := Go.Ground.phase }, { on := 11, ground := Go.Ground.phase }, { on := 12, ground := Go.Ground.phase }, { on := 13, ground := Go.Ground.phase }, { on := 14, ground := Go.Ground.phase }, { on := 15, ground := Go.Ground.phase }, { on := 16, ground := Go.Ground.phase }, { on := 17, ground := Go.Ground.phase }], guard := none }) (v := ?_) rfl (by kernel_rfl) (by kernel_rfl) (by kernel_rfl) (fun _ _ _ h => h) (Or.inl ⟨by rfl, ?_⟩) (by assumption) ?_
  rotate_left
  · ((intro w hSw; (try dsimp only at hSw); go_simp) <;> (with_reducible rfl))
  try simp only [Act.put, List.setIfInBounds_toArray, List.set_cons_zero, List.set_cons_succ]
  refine wpAnyH_done (by kernel_rfl) ?_ _
  all_goals
    go_wp2
    rw [hWW.out]
    exact HO.out _ (b1.out.trans ((‹Below (h + 1) w1 _ ∧ _›).1.mono (Nat.le_succ _)))
end Go.Proofs.Ytnglmiihlpjelaa.Cfg
