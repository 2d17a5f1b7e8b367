/-
  Package plan: Steps.
-/
import Derived.Test.YtnglmiihlpjelaaPlnD
set_option maxRecDepth 100000
set_option linter.unusedVariables false
namespace Go.Proofs.Ytnglmiihlpjelaa.Cfg
open Go.Proofs.Ytnglmiihlpjelaa
open Go.ChangeShapes Go.WideShapes Go.ChangeAt Go.RowKit
/-- A row of ints in a new block. -/
theorem ints_new (w : World) (l : List Int) (ty : TypeId) : LieS 1 (w.alloc (.cells (l.map fun t => i64 t).toArray ty)) (w.alloc (.cells (l.map fun t => i64 t).toArray ty)).heap.size (some ⟨w.heap.size, 0, none⟩) l.length l.length (l.map fun t => [i64 t]) := by
  refine ⟨by simp, Nat.le_refl _, fun e => (by cases e), fun hn => ⟨w.heap.size, 0, rfl, by simp, fun i x hx k v hv => ?_⟩⟩
  rw [List.getElem?_map] at hx
  obtain ⟨y, hy, rfl⟩ := Option.map_eq_some_iff.1 hx
  cases k with
  | zero =>
    simp only [List.getElem?_cons_zero, Option.some.injEq] at hv
    subst hv
    rw [cell_of_row _ w.heap.size _ _ _ _ (heap_alloc_new w _), ← Array.getElem?_toList]
    show (l.map fun t => i64 t)[0 + i * 1 + 0]? = _
    rw [Nat.zero_add, Nat.mul_one, Nat.add_zero, List.getElem?_map, hy]; rfl
  | succ k => simp at hv
theorem asked2 {w : World} {c : Cf} {p1 : Option Addr} {c1 : Nat} {p2 : Option Addr} {c2 : Nat} {p3 : Option Addr} {c3 : Nat} (X : Cx w w.heap.size c p1 c1 p2 c2 p3 c3) (f t : Int) (b : Bool) (hb : b = true ↔ (okT f ∧ okT t) ∧ chk c = 0) :
    Calls Try.prog 24 #[cfV c p1 c1 p2 c2 p3 c3, .slice (some ⟨w.heap.size, 0, none⟩) 2 2] (w.alloc (.cells #[i64 f, i64 t] 3)) fun e w' => e = .returned (.bool b) ∧ Below (w.alloc (.cells #[i64 f, i64 t] 3)).heap.size (w.alloc (.cells #[i64 f, i64 t] 3)) w' :=
  isAsked_says (X.later ((Below.refl w.heap.size w).alloc (Nat.le_refl _) (.cells #[i64 f, i64 t] 3)) (Nat.le_refl _) (Nat.le_refl _)) [f, t] (ints_new w [f, t] 3) (Nat.le_refl _) b (hb.trans ⟨fun g => ⟨fun k x hx => by
    match k, hx with
    | 0, hx => injection hx with hx; subst hx; exact g.1.1
    | 1, hx => injection hx with hx; subst hx; exact g.1.2
    | k + 2, hx => simp at hx, g.2⟩, fun g => ⟨⟨g.1 0 f rfl, g.1 1 t rfl⟩, g.2⟩⟩)
theorem asked1 {w : World} {c : Cf} {p1 : Option Addr} {c1 : Nat} {p2 : Option Addr} {c2 : Nat} {p3 : Option Addr} {c3 : Nat} (X : Cx w w.heap.size c p1 c1 p2 c2 p3 c3) (t : Int) (b : Bool) (hb : b = true ↔ okT t ∧ chk c = 0) :
    Calls Try.prog 24 #[cfV c p1 c1 p2 c2 p3 c3, .slice (some ⟨w.heap.size, 0, none⟩) 1 1] (w.alloc (.cells #[i64 t] 3)) fun e w' => e = .returned (.bool b) ∧ Below (w.alloc (.cells #[i64 t] 3)).heap.size (w.alloc (.cells #[i64 t] 3)) w' :=
  isAsked_says (X.later ((Below.refl w.heap.size w).alloc (Nat.le_refl _) (.cells #[i64 t] 3)) (Nat.le_refl _) (Nat.le_refl _)) [t] (ints_new w [t] 3) (Nat.le_succ _) b (hb.trans ⟨fun g => ⟨fun k x hx => by
    match k, hx with
    | 0, hx => injection hx with hx; subst hx; exact g.1
    | k + 1, hx => simp at hx, g.2⟩, fun g => ⟨g.1 0 t rfl, g.2⟩⟩)
theorem asked0 {w : World} {c : Cf} {p1 : Option Addr} {c1 : Nat} {p2 : Option Addr} {c2 : Nat} {p3 : Option Addr} {c3 : Nat} (X : Cx w w.heap.size c p1 c1 p2 c2 p3 c3) (b : Bool) (hb : b = true ↔ chk c = 0) :
    Calls Try.prog 24 #[cfV c p1 c1 p2 c2 p3 c3, .slice none 0 0] w fun e w' => e = .returned (.bool b) ∧ Below w.heap.size w w' :=
  isAsked_says X [] (lieS_nil 1 w w.heap.size 0 (fun _ => rfl)) (Nat.zero_le _) b (hb.trans ⟨fun g => ⟨fun k x hx => (by simp at hx), g⟩, fun g => g.2⟩)
theorem belowV_bd {c : Cf} (v : Vd c) (part : Int) {t : Int} (ht : okT t) : 0 ≤ belowV c part t ∧ belowV c part t ≤ 3518437212083200000 := by
  have h1 := aheadV_bd v part c.major
  have h2 := aheadV_bd v part (t % c.major)
  have hm := v.mj
  have q0 : 0 ≤ t / c.major := Int.ediv_nonneg ht.1 (by omega)
  have q1 : t / c.major ≤ 1099511627776 := by
    have := Int.ediv_le_self c.major ht.1
    have := ht.2
    omega
  have p0 : 0 ≤ t / c.major * aheadV c part c.major := Int.mul_nonneg q0 h1.1
  have p1 := Int.mul_le_mul q1 h1.2 h1.1 (by omega : (0 : Int) ≤ 1099511627776)
  rw [← belowV_eq v]
  omega
set_option maxHeartbeats 8000000 in
theorem steps_says {w : World} {c : Cf} {p1 : Option Addr} {c1 : Nat} {p2 : Option Addr} {c2 : Nat} {p3 : Option Addr} {c3 : Nat} (X : Cx w w.heap.size c p1 c1 p2 c2 p3 c3) (part f t : Int) :
    Calls Try.prog 15 #[cfV c p1 c1 p2 c2 p3 c3, i64 part, i64 f, i64 t] w fun e w' => e = .returned (i64 (stepV c part f t)) ∧ Below w.heap.size w w' := by
  obtain ⟨p, hp⟩ : ∃ p : Ending → World → Prop, p = fun e w' => e = .returned (i64 (stepV c part f t)) ∧ Below w.heap.size w w' := ⟨_, rfl⟩
  rw [← hp]
  have HO := Lib.hid (fun w' (hw : Below w.heap.size w w') => (by rw [hp]; exact ⟨rfl, hw⟩ : p (.returned (i64 (stepV c part f t))) w'))
  clear hp
  obtain ⟨h, hhz⟩ : ∃ h, w.heap.size = h := ⟨_, rfl⟩
  rw [hhz] at HO
  have HI := Lib.hid (fun (u : World) (hu : Below h w u) => asked2 (X.later hu (Nat.le_of_eq hhz) (by omega)) f t)
  have HB := Lib.hid (fun (hc : chk c = 0) (u : World) (hu : Below h w u) (t : Int) (ht : okT t) => stepsBelow_says (X.later hu (Nat.le_of_eq hhz) (by omega)) (vd_of hc) part t ht)
  have h1 := Lib.hid (fun (g : (okT f ∧ okT t) ∧ chk c = 0) (gl : f ≤ t) w' (hw : Below h w w') => (by have := HO.out w' hw; unfold stepV at this; rw [if_pos ⟨g.1.1, g.1.2, gl, g.2⟩] at this; exact this : p (.returned (i64 (belowV c part t - belowV c part f))) w'))
  have h0 := Lib.hid (fun (g : ¬ ((okT f ∧ okT t) ∧ f ≤ t ∧ chk c = 0)) w' (hw : Below h w w') => (by have := HO.out w' hw; unfold stepV at this; rw [if_neg (fun x => g ⟨⟨x.1, x.2.1⟩, x.2.2.1, x.2.2.2⟩)] at this; exact this : p (.returned (i64 0)) w'))
  have hbd := Lib.hid (fun (g : chk c = 0) (x : Int) (hx : okT x) => belowV_bd (vd_of g) part hx)
  clear HO
  simp only [cfV] at HI HB ⊢
  obtain ⟨pg, qpg⟩ : ∃ pg, c.pages = pg := ⟨_, rfl⟩
  obtain ⟨mj, qmj⟩ : ∃ mj, c.major = mj := ⟨_, rfl⟩
  obtain ⟨sw, qsw⟩ : ∃ sw, c.switch = sw := ⟨_, rfl⟩
  obtain ⟨n1, qn1⟩ : ∃ n1, c.parts.length = n1 := ⟨_, rfl⟩
  obtain ⟨n2, qn2⟩ : ∃ n2, c.chans.length = n2 := ⟨_, rfl⟩
  obtain ⟨m, qm⟩ : ∃ m, c.wins.length = m := ⟨_, rfl⟩
  rw [qpg, qmj, qsw, qn1, qn2, qm] at HI HB
  rw [qpg, qmj, qsw, qn1, qn2, qm]
  clear qpg qmj qsw qn1 qn2 qm X
  obtain ⟨w1, hw1⟩ : ∃ w1, w1 = w.alloc (.cells #[i64 pg, i64 mj, i64 sw, .slice p1 n1 c1, .slice p2 n2 c2, .slice p3 m c3] 26) := ⟨_, rfl⟩
  have b1 := Lib.hid (by rw [hw1]; exact (Below.refl _ _).alloc (Nat.le_of_eq hhz.symm) _ : Below h w w1)
  have hg1 : w1.heap.size = h + 1 := by rw [hw1, ← hhz]; simp
  have hZ := Lib.hid (fun k v hv => by
    rw [hw1, ← hhz, cell_of_row _ _ k _ _ _ (heap_alloc_new _ _), ← Array.getElem?_toList]; exact hv : ∀ (k : Nat) (v : Value), [i64 pg, i64 mj, i64 sw, Value.slice p1 n1 c1, .slice p2 n2 c2, .slice p3 m c3][k]? = some v → w1.cell? ⟨h, k, none⟩ = some v)
  go_enter Try.func15, Try.ntmps15
  go_upto_region 1 with fail
  try simp only [hhz]
  rw [← hw1]
  clear hw1
  have hS := Lib.hid (fun u (b : Below (h + 1) w1 u) => (by
    have hZ2 := fun k v hv => (World.cell?_of_block (b.block h (Nat.lt_succ_self _))).trans (hZ.out k v hv)
    exact ⟨b, hZ2 0 _ rfl, hZ2 1 _ rfl, hZ2 2 _ rfl, hZ2 3 _ rfl, hZ2 4 _ rfl, hZ2 5 _ rfl⟩ : (fun u => Below (h + 1) w1 u ∧ u.cell? ⟨h, 0, none⟩ = some (i64 pg) ∧ u.cell? ⟨h, 1, none⟩ = some (i64 mj) ∧ u.cell? ⟨h, 2, none⟩ = some (i64 sw) ∧ u.cell? ⟨h, 3, none⟩ = some (.slice p1 n1 c1) ∧ u.cell? ⟨h, 4, none⟩ = some (.slice p2 n2 c2) ∧ u.cell? ⟨h, 5, none⟩ = some (.slice p3 m c3)) u))
  have z0 := hZ.out 0 _ rfl
  have z1 := hZ.out 1 _ rfl
  have z2 := hZ.out 2 _ rfl
  have z3 := hZ.out 3 _ rfl
  have z4 := hZ.out 4 _ rfl
  have z5 := hZ.out 5 _ rfl
  have bt : Below h w (w1.alloc (.cells #[i64 f, i64 t] 3)) := b1.out.alloc (by omega) _
  have hg2 : (w1.alloc (.cells #[i64 f, i64 t] 3)).heap.size = h + 1 + 1 := by simp [hg1]
  replace bt := Lib.hid bt
  replace hg2 := Lib.hid hg2
  by_cases g : (okT f ∧ okT t) ∧ chk c = 0
  · have hi := HI.out w1 b1.out true ⟨fun _ => g, fun _ => rfl⟩
    rw [hg1] at hi
    replace hi := Lib.hid hi
    clear HI
    by_cases gl : t < f
    · have hr := Lib.hid (fun w' hw => h0.out (fun x => absurd x.2.1 (by omega)) w' hw)
      clear h1 h0 HB hS hZ
      go_wp2_with (go_at_call 24; (with_reducible refine hi.out.mono ?_); rintro e w2 ⟨rfl, hb⟩)
      exact hr.out _ (bt.out.trans (hb.mono (by have := hg2.out; omega)))
    · have HF := Lib.hid (fun (u : World) (hu : Below (h + 1) w1 u) => HB.out g.2 u (b1.out.trans (hu.mono (Nat.le_succ _))) f g.1.1)
      have HT := Lib.hid (fun (u : World) (hu : Below (h + 1) w1 u) => HB.out g.2 u (b1.out.trans (hu.mono (Nat.le_succ _))) t g.1.2)
      have hr := Lib.hid (fun w' hw => h1.out g (by omega) w' hw)
      have d1 := hbd.out g.2 f g.1.1
      have d2 := hbd.out g.2 t g.1.2
      clear h1 h0 HB hbd hZ
      obtain ⟨F, hF⟩ : ∃ F, belowV c part f = F := ⟨_, rfl⟩
      obtain ⟨T, hT⟩ : ∃ T, belowV c part t = T := ⟨_, rfl⟩
      rw [hF] at HF hr d1
      rw [hT] at HT hr d2
      go_upto_region 3 with (go_at_call 24; (with_reducible refine hi.out.mono ?_); rintro e w2 ⟨rfl, hb⟩; have hw2 := Lib.hid (((below_alloc w1 _).mono (Nat.le_of_eq hg1.symm)).trans (hb.mono (by have := hg2.out; omega))); clear hb)
      clear z0 z1 z2 z3 z4 z5
      refine wp_region_held_drew (S := (fun u => Below (h + 1) w1 u ∧ u.cell? ⟨h, 0, none⟩ = some (i64 pg) ∧ u.cell? ⟨h, 1, none⟩ = some (i64 mj) ∧ u.cell? ⟨h, 2, none⟩ = some (i64 sw) ∧ u.cell? ⟨h, 3, none⟩ = some (.slice p1 n1 c1) ∧ u.cell? ⟨h, 4, none⟩ = some (.slice p2 n2 c2) ∧ u.cell? ⟨h, 5, none⟩ = some (.slice p3 m c3))) (by kernel_rfl) ?_ (fun hH0 => ?_)
      · ((try dsimp only); (first | assumption | exact hS.out _ (Below.refl _ _) | exact hS.out _ (Below.refl _ _).drew | exact hS.out _ hw2.out | exact hS.out _ hw2.out.drew | exact hS.out _ ((‹Below (h + 1) w1 _ ∧ _›).1.trans ((‹Below (World.heap _).size _ _›).mono (Nat.le_trans (Nat.le_of_eq hg1.symm) (‹Below (h + 1) w1 _ ∧ _›).1.size)))))
      refine wpAnyH_take (i := 0) (oi := { dst := some 20, op := Go.Op.load 26 (Go.Operand.tmp 4), type := 26, pos := "plan.go:49", after := #[], guard := none }) (v := ?_) rfl (by kernel_rfl) (by kernel_rfl) (by kernel_rfl) (fun _ _ _ h => h) (Or.inl ⟨by rfl, ?_⟩) (by assumption) ?_
      rotate_left
      · ((intro w hSw; (try dsimp only at hSw); go_simp) <;> (with_reducible rfl))
      try simp only [Act.put, List.setIfInBounds_toArray, List.set_cons_zero, List.set_cons_succ]
      refine wpAnyH_take (i := 1) (oi := { dst := some 21, op := Go.Op.move (Go.Operand.tmp 1), type := 3, pos := "plan.go:49", after := #[], guard := none }) (v := ?_) rfl (by kernel_rfl) (by kernel_rfl) (by kernel_rfl) (fun _ _ _ h => h) (Or.inl ⟨by rfl, ?_⟩) (by assumption) ?_
      rotate_left
      · ((intro w hSw; (try dsimp only at hSw); go_simp) <;> (with_reducible rfl))
      try simp only [Act.put, List.setIfInBounds_toArray, List.set_cons_zero, List.set_cons_succ]
      refine wpAnyH_take (i := 2) (oi := { dst := some 22, op := Go.Op.move (Go.Operand.tmp 3), type := 3, pos := "plan.go:49", after := #[], guard := none }) (v := ?_) rfl (by kernel_rfl) (by kernel_rfl) (by kernel_rfl) (fun _ _ _ h => h) (Or.inl ⟨by rfl, ?_⟩) (by assumption) ?_
      rotate_left
      · ((intro w hSw; (try dsimp only at hSw); go_simp) <;> (with_reducible rfl))
      try simp only [Act.put, List.setIfInBounds_toArray, List.set_cons_zero, List.set_cons_succ]
      refine wpAnyH_take (i := 4) (oi := { dst := some 24, op := Go.Op.load 26 (Go.Operand.tmp 4), type := 26, pos := "plan.go:49", after := #[], guard := none }) (v := ?_) rfl (by kernel_rfl) (by kernel_rfl) (by kernel_rfl) (fun _ _ _ h => h) (Or.inl ⟨by rfl, ?_⟩) (by assumption) ?_
      rotate_left
      · ((intro w hSw; (try dsimp only at hSw); go_simp) <;> (with_reducible rfl))
      try simp only [Act.put, List.setIfInBounds_toArray, List.set_cons_zero, List.set_cons_succ]
      refine wpAnyH_take (i := 5) (oi := { dst := some 25, op := Go.Op.move (Go.Operand.tmp 1), type := 3, pos := "plan.go:49", after := #[], guard := none }) (v := ?_) rfl (by kernel_rfl) (by kernel_rfl) (by kernel_rfl) (fun _ _ _ h => h) (Or.inl ⟨by rfl, ?_⟩) (by assumption) ?_
      rotate_left
      · ((intro w hSw; (try dsimp only at hSw); go_simp) <;> (with_reducible rfl))
      try simp only [Act.put, List.setIfInBounds_toArray, List.set_cons_zero, List.set_cons_succ]
      refine wpAnyH_take (i := 6) (oi := { dst := some 26, op := Go.Op.move (Go.Operand.tmp 2), type := 3, pos := "plan.go:49", after := #[], guard := none }) (v := ?_) rfl (by kernel_rfl) (by kernel_rfl) (by kernel_rfl) (fun _ _ _ h => h) (Or.inl ⟨by rfl, ?_⟩) (by assumption) ?_
      rotate_left
      · ((intro w hSw; (try dsimp only at hSw); go_simp) <;> (with_reducible rfl))
      try simp only [Act.put, List.setIfInBounds_toArray, List.set_cons_zero, List.set_cons_succ]
      refine wpAnyH_ready (rs := [3]) (by kernel_rfl) (by simp) ?_
      refine AllReadyH.cons (o := { dst := some 23, op := Go.Op.call { callee := Go.Callee.value (Go.Operand.func 25), args := #[Go.Operand.tmp 20, Go.Operand.tmp 21, Go.Operand.tmp 22], argTypes := #[26, 3, 3] }, type := 3, pos := "plan.go:49", after := #[{ on := 0, ground := Go.Ground.data }, { on := 1, ground := Go.Ground.data }, { on := 2, ground := Go.Ground.data }], guard := none }) rfl (fun K hK => ?_) AllReadyH.nil
      go_simp
      (go_at_call 25; (first | (with_reducible refine (HF.out _ (‹Below (h + 1) w1 _ ∧ _›).1).mono ?_) | (with_reducible refine (HT.out _ (‹Below (h + 1) w1 _ ∧ _›).1).mono ?_)); rintro e t2 ⟨rfl, hb2⟩)
      refine hK.out _ _ ?_ (fun hH1 => ?_)
      · ((try dsimp only); (first | assumption | exact hS.out _ (Below.refl _ _) | exact hS.out _ (Below.refl _ _).drew | exact hS.out _ hw2.out | exact hS.out _ hw2.out.drew | exact hS.out _ ((‹Below (h + 1) w1 _ ∧ _›).1.trans ((‹Below (World.heap _).size _ _›).mono (Nat.le_trans (Nat.le_of_eq hg1.symm) (‹Below (h + 1) w1 _ ∧ _›).1.size)))))
      clear hK K hH0
      try simp only [Act.put, List.setIfInBounds_toArray, List.set_cons_zero, List.set_cons_succ]
      refine wpAnyH_ready (rs := [7]) (by kernel_rfl) (by simp) ?_
      refine AllReadyH.cons (o := { dst := some 27, op := Go.Op.call { callee := Go.Callee.value (Go.Operand.func 25), args := #[Go.Operand.tmp 24, Go.Operand.tmp 25, Go.Operand.tmp 26], argTypes := #[26, 3, 3] }, type := 3, pos := "plan.go:49", after := #[{ on := 4, ground := Go.Ground.data }, { on := 5, ground := Go.Ground.data }, { on := 6, ground := Go.Ground.data }, { on := 3, ground := Go.Ground.chain }], guard := none }) rfl (fun K hK => ?_) AllReadyH.nil
      go_simp
      (go_at_call 25; (first | (with_reducible refine (HF.out _ (‹Below (h + 1) w1 _ ∧ _›).1).mono ?_) | (with_reducible refine (HT.out _ (‹Below (h + 1) w1 _ ∧ _›).1).mono ?_)); rintro e t2 ⟨rfl, hb2⟩)
      refine hK.out _ _ ?_ (fun hH2 => ?_)
      · ((try dsimp only); (first | assumption | exact hS.out _ (Below.refl _ _) | exact hS.out _ (Below.refl _ _).drew | exact hS.out _ hw2.out | exact hS.out _ hw2.out.drew | exact hS.out _ ((‹Below (h + 1) w1 _ ∧ _›).1.trans ((‹Below (World.heap _).size _ _›).mono (Nat.le_trans (Nat.le_of_eq hg1.symm) (‹Below (h + 1) w1 _ ∧ _›).1.size)))))
      clear hK K hH1
      try simp only [Act.put, List.setIfInBounds_toArray, List.set_cons_zero, List.set_cons_succ]
      refine wpAnyH_take (i := 8) (oi := { dst := some 28, op := Go.Op.binOp Go.BinOp.sub 3 (Go.Operand.tmp 23) (Go.Operand.tmp 27) 3, type := 3, pos := "plan.go:49", after := #[{ on := 3, ground := Go.Ground.data }, { on := 7, ground := Go.Ground.data }], guard := none }) (v := ?_) rfl (by kernel_rfl) (by kernel_rfl) (by kernel_rfl) (fun _ _ _ h => h) (Or.inl ⟨by rfl, ?_⟩) (by assumption) ?_
      rotate_left
      · ((intro w hSw; (try dsimp only at hSw); go_simp) <;> (with_reducible rfl))
      try simp only [Act.put, List.setIfInBounds_toArray, List.set_cons_zero, List.set_cons_succ]
      refine wpAnyH_take (i := 9) (oi := { dst := some 8, op := Go.Op.assign (Go.Operand.tmp 28), type := 3, pos := "plan.go:49", after := #[{ on := 8, ground := Go.Ground.data }, { on := 7, ground := Go.Ground.chain }, { on := 0, ground := Go.Ground.phase }, { on := 1, ground := Go.Ground.phase }, { on := 2, ground := Go.Ground.phase }, { on := 3, ground := Go.Ground.phase }, { on := 4, ground := Go.Ground.phase }, { on := 5, ground := Go.Ground.phase }, { on := 6, ground := Go.Ground.phase }, { on := 7, ground := Go.Ground.phase }, { on := 8, ground := Go.Ground.phase }], guard := none }) (v := ?_) rfl (by kernel_rfl) (by kernel_rfl) (by kernel_rfl) (fun _ _ _ h => h) (Or.inl ⟨by rfl, ?_⟩) (by assumption) ?_
      rotate_left
      · ((intro w hSw; (try dsimp only at hSw); go_simp) <;> (with_reducible rfl))
      try simp only [Act.put, List.setIfInBounds_toArray, List.set_cons_zero, List.set_cons_succ]
      refine wpAnyH_done (by kernel_rfl) ?_ _
      all_goals
        have hWW : IntKind.i64.wrap (T - F) = T - F := by rw [IntKind.wrap_i64]; omega
        replace hWW := Lib.hid hWW
        go_wp2
        rw [hWW.out]
        exact hr.out _ (b1.out.trans ((‹Below (h + 1) w1 _ ∧ _›).1.mono (Nat.le_succ _)))
  · have hi := HI.out w1 b1.out false ⟨fun x => (by cases x), fun x => absurd x g⟩
    rw [hg1] at hi
    replace hi := Lib.hid hi
    have hr := Lib.hid (fun w' hw => h0.out (fun x => g ⟨x.1, x.2.2⟩) w' hw)
    clear h1 h0 HB hS hZ HI
    go_wp2_with (go_at_call 24; (with_reducible refine hi.out.mono ?_); rintro e w2 ⟨rfl, hb⟩)
    exact hr.out _ (bt.out.trans (hb.mono (by have := hg2.out; omega)))
end Go.Proofs.Ytnglmiihlpjelaa.Cfg
