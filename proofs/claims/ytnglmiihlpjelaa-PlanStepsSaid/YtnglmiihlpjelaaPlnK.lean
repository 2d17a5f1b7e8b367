/-
  The reference: Steps.
-/
import Derived.Test.YtnglmiihlpjelaaPlnC
import Derived.Test.YtnglmiihlpjelaaPlnE
set_option maxRecDepth 100000
set_option linter.unusedVariables false
namespace Go.Proofs.Ytnglmiihlpjelaa.Cfg
open Go.Proofs.Ytnglmiihlpjelaa
open Go.ChangeShapes Go.WideShapes Go.ChangeAt Go.RowKit
set_option maxHeartbeats 8000000 in
theorem rsteps_says {w : World} {c : Cf} {p1 : Option Addr} {c1 : Nat} {p2 : Option Addr} {c2 : Nat} {p3 : Option Addr} {c3 : Nat} (X : Cx w w.heap.size c p1 c1 p2 c2 p3 c3) (part f t : Int) :
    Calls Try.prog 20 #[cfV c p1 c1 p2 c2 p3 c3, i64 part, i64 f, i64 t] w fun e w' => e = .returned (i64 (stepV c part f t)) ∧ Below w.heap.size w w' := by
  obtain ⟨p, hp⟩ : ∃ p : Ending → World → Prop, p = fun e w' => e = .returned (i64 (stepV c part f t)) ∧ Below w.heap.size w w' := ⟨_, rfl⟩
  rw [← hp]
  have HO := Lib.hid (fun w' (hw : Below w.heap.size w w') => (by rw [hp]; exact ⟨rfl, hw⟩ : p (.returned (i64 (stepV c part f t))) w'))
  clear hp
  obtain ⟨h, hhz⟩ : ∃ h, w.heap.size = h := ⟨_, rfl⟩
  rw [hhz] at HO
  have HI := Lib.hid (fun (u : World) (hu : Below h w u) => rcheck_cx (X.later hu (Nat.le_of_eq hhz) (by omega)))
  have HB := Lib.hid (fun (hc : chk c = 0) (u : World) (hu : Below h w u) (t : Int) (ht : okT t) => rbelow_says (X.later hu (Nat.le_of_eq hhz) (by omega)) (vd_of hc) part t ht)
  have h1 := Lib.hid (fun (g : (okT f ∧ okT t) ∧ chk c = 0) (gl : f ≤ t) w' (hw : Below h w w') => (by have := HO.out w' hw; unfold stepV at this; rw [if_pos ⟨g.1.1, g.1.2, gl, g.2⟩] at this; exact this : p (.returned (i64 (belowV c part t - belowV c part f))) w'))
  have h0 := Lib.hid (fun (g : ¬ ((okT f ∧ okT t) ∧ f ≤ t ∧ chk c = 0)) w' (hw : Below h w w') => (by have := HO.out w' hw; unfold stepV at this; rw [if_neg (fun x => g ⟨⟨x.1, x.2.1⟩, x.2.2.1, x.2.2.2⟩)] at this; exact this : p (.returned (i64 0)) w'))
  have hbd := Lib.hid (fun (g : chk c = 0) (x : Int) (hx : okT x) => belowV_bd (vd_of g) part hx)
  clear HO
  obtain ⟨F, hF⟩ : ∃ F, belowV c part f = F := ⟨_, rfl⟩
  obtain ⟨T, hT⟩ : ∃ T, belowV c part t = T := ⟨_, rfl⟩
  have HF := Lib.hid (fun (hc : chk c = 0) (u : World) (hu : Below h w u) (hf : okT f) => HB.out hc u hu f hf)
  have HT := Lib.hid (fun (hc : chk c = 0) (u : World) (hu : Below h w u) (ht : okT t) => HB.out hc u hu t ht)
  have d1 := Lib.hid (fun (hc : chk c = 0) (hf : okT f) => hbd.out hc f hf)
  have d2 := Lib.hid (fun (hc : chk c = 0) (ht : okT t) => hbd.out hc t ht)
  obtain ⟨kk, hkk⟩ : ∃ kk, chk c = kk := ⟨_, rfl⟩
  simp only [hF, hT, hkk] at HF HT h1 h0 HI d1 d2
  simp only [cfV] at HI HF HT ⊢
  clear hF hT hkk hbd HB
  obtain ⟨pg, qpg⟩ : ∃ pg, c.pages = pg := ⟨_, rfl⟩
  obtain ⟨mj, qmj⟩ : ∃ mj, c.major = mj := ⟨_, rfl⟩
  obtain ⟨sw, qsw⟩ : ∃ sw, c.switch = sw := ⟨_, rfl⟩
  obtain ⟨n1, qn1⟩ : ∃ n1, c.parts.length = n1 := ⟨_, rfl⟩
  obtain ⟨n2, qn2⟩ : ∃ n2, c.chans.length = n2 := ⟨_, rfl⟩
  obtain ⟨m, qm⟩ : ∃ m, c.wins.length = m := ⟨_, rfl⟩
  simp only [qpg, qmj, qsw, qn1, qn2, qm] at HI HF HT
  simp only [qpg, qmj, qsw, qn1, qn2, qm]
  clear qpg qmj qsw qn1 qn2 qm X
  obtain ⟨w1, hw1⟩ : ∃ w1, w1 = w.alloc (.cells #[i64 pg, i64 mj, i64 sw, .slice p1 n1 c1, .slice p2 n2 c2, .slice p3 m c3] 26) := ⟨_, rfl⟩
  have b1 := Lib.hid (by rw [hw1]; exact (Below.refl _ _).alloc (Nat.le_of_eq hhz.symm) _ : Below h w w1)
  have hg1 : w1.heap.size = h + 1 := by rw [hw1, ← hhz]; simp
  have hZ := Lib.hid (fun k v hv => by
    rw [hw1, ← hhz, cell_of_row _ _ k _ _ _ (heap_alloc_new _ _), ← Array.getElem?_toList]; exact hv : ∀ (k : Nat) (v : Value), [i64 pg, i64 mj, i64 sw, Value.slice p1 n1 c1, .slice p2 n2 c2, .slice p3 m c3][k]? = some v → w1.cell? ⟨h, k, none⟩ = some v)
  go_enter Try.func20, Try.ntmps20
  go_upto_region 1 with fail
  try simp only [hhz]
  rw [← hw1]
  clear hw1
  have hS := Lib.hid (fun u (b : Below (h + 1) w1 u) => (by
    have hZ2 := fun k v hv => (World.cell?_of_block (b.block h (Nat.lt_succ_self _))).trans (hZ.out k v hv)
    exact ⟨b, hZ2 0 _ rfl, hZ2 1 _ rfl, hZ2 2 _ rfl, hZ2 3 _ rfl, hZ2 4 _ rfl, hZ2 5 _ rfl⟩ : (fun u => Below (h + 1) w1 u ∧ u.cell? ⟨h, 0, none⟩ = some (i64 pg) ∧ u.cell? ⟨h, 1, none⟩ = some (i64 mj) ∧ u.cell? ⟨h, 2, none⟩ = some (i64 sw) ∧ u.cell? ⟨h, 3, none⟩ = some (.slice p1 n1 c1) ∧ u.cell? ⟨h, 4, none⟩ = some (.slice p2 n2 c2) ∧ u.cell? ⟨h, 5, none⟩ = some (.slice p3 m c3)) u))
  have z0 := hZ.out 0 _ rfl
  have z1 := hZ.out 1 _ rfl
  have z2 := hZ.out 2 _ rfl
  have z3 := hZ.out 3 _ rfl
  have z4 := hZ.out 4 _ rfl
  have z5 := hZ.out 5 _ rfl
  have hi := HI.out w1 b1.out
  rw [hg1] at hi
  replace hi := Lib.hid hi
  by_cases k0 : kk = 0
  · subst k0
    have bad := Lib.hid (fun (g : ¬ ((okT f ∧ okT t) ∧ f ≤ t)) w' (hw : Below (h + 1) w1 w') => h0.out (fun x => g ⟨x.1, x.2.1⟩) w' (b1.out.trans (hw.mono (Nat.le_succ _))))
    by_cases k1 : f < 0
    · have hr := Lib.hid (fun w' hw => bad.out (fun x => absurd x.1.1.1 (by omega)) w' hw)
      clear h1 h0 bad HI HF HT d1 d2 hS hZ
      go_wp2_with (go_at_call 12; (with_reducible refine hi.out.mono ?_); rintro e w2 ⟨rfl, hb⟩)
      exact hr.out _ hb
    by_cases k2 : t < f
    · have hr := Lib.hid (fun w' hw => bad.out (fun x => absurd x.2 (by omega)) w' hw)
      clear h1 h0 bad HI HF HT d1 d2 hS hZ
      go_wp2_with (go_at_call 12; (with_reducible refine hi.out.mono ?_); rintro e w2 ⟨rfl, hb⟩)
      exact hr.out _ hb
    by_cases k3 : f > 1099511627776
    · have hr := Lib.hid (fun w' hw => bad.out (fun x => absurd x.1.1.2 (by omega)) w' hw)
      clear h1 h0 bad HI HF HT d1 d2 hS hZ
      go_wp2_with (go_at_call 12; (with_reducible refine hi.out.mono ?_); rintro e w2 ⟨rfl, hb⟩)
      exact hr.out _ hb
    by_cases k4 : t > 1099511627776
    · have hr := Lib.hid (fun w' hw => bad.out (fun x => absurd x.1.2.2 (by omega)) w' hw)
      clear h1 h0 bad HI HF HT d1 d2 hS hZ
      go_wp2_with (go_at_call 12; (with_reducible refine hi.out.mono ?_); rintro e w2 ⟨rfl, hb⟩)
      exact hr.out _ hb
    have gf : okT f := ⟨by omega, by omega⟩
    have gt : okT t := ⟨by omega, by omega⟩
    have HF2 := Lib.hid (fun (u : World) (hu : Below (h + 1) w1 u) => HF.out rfl u (b1.out.trans (hu.mono (Nat.le_succ _))) gf)
    have HT2 := Lib.hid (fun (u : World) (hu : Below (h + 1) w1 u) => HT.out rfl u (b1.out.trans (hu.mono (Nat.le_succ _))) gt)
    have hr := Lib.hid (fun w' hw => h1.out ⟨⟨gf, gt⟩, rfl⟩ (by omega) w' hw)
    have e1 := d1.out rfl gf
    have e2 := d2.out rfl gt
    clear h1 h0 bad HI HF HT d1 d2 hZ gf gt
    go_upto_region 3 with (go_at_call 12; (with_reducible refine hi.out.mono ?_); rintro e w2 ⟨rfl, hb⟩; have hw2 := Lib.hid hb; clear hb)
    clear z0 z1 z2 z3 z4 z5
    have hWW := Lib.hid (by rw [IntKind.wrap_i64]; omega : IntKind.i64.wrap (T - F) = T - F)
    refine wp_region_held_drew (S := (fun u => Below (h + 1) w1 u ∧ u.cell? ⟨h, 0, none⟩ = some (i64 pg) ∧ u.cell? ⟨h, 1, none⟩ = some (i64 mj) ∧ u.cell? ⟨h, 2, none⟩ = some (i64 sw) ∧ u.cell? ⟨h, 3, none⟩ = some (.slice p1 n1 c1) ∧ u.cell? ⟨h, 4, none⟩ = some (.slice p2 n2 c2) ∧ u.cell? ⟨h, 5, none⟩ = some (.slice p3 m c3))) (by kernel_rfl) ?_ (fun hH0 => ?_)
    · ((try dsimp only); (first | assumption | exact hS.out _ (Below.refl _ _) | exact hS.out _ (Below.refl _ _).drew | exact hS.out _ hw2.out | exact hS.out _ hw2.out.drew | exact hS.out _ ((‹Below (h + 1) w1 _ ∧ _›).1.trans ((‹Below (World.heap _).size _ _›).mono (Nat.le_trans (Nat.le_of_eq hg1.symm) (‹Below (h + 1) w1 _ ∧ _›).1.size)))))
    refine wpAnyH_take (i := 0) (oi := { dst := some 29, op := Go.Op.load 26 (Go.Operand.tmp 4), type := 26, pos := "config.go:253", after := #[], guard := none }) (v := ?_) rfl (by kernel_rfl) (by kernel_rfl) (by kernel_rfl) (fun _ _ _ h => h) (Or.inl ⟨by rfl, ?_⟩) (by assumption) ?_
    rotate_left
    · ((intro w hSw; (try dsimp only at hSw); go_simp) <;> (with_reducible rfl))
    try simp only [Act.put, List.setIfInBounds_toArray, List.set_cons_zero, List.set_cons_succ]
    refine wpAnyH_take (i := 1) (oi := { dst := some 30, op := Go.Op.move (Go.Operand.tmp 1), type := 3, pos := "config.go:253", after := #[], guard := none }) (v := ?_) rfl (by kernel_rfl) (by kernel_rfl) (by kernel_rfl) (fun _ _ _ h => h) (Or.inl ⟨by rfl, ?_⟩) (by assumption) ?_
    rotate_left
    · ((intro w hSw; (try dsimp only at hSw); go_simp) <;> (with_reducible rfl))
    try simp only [Act.put, List.setIfInBounds_toArray, List.set_cons_zero, List.set_cons_succ]
    refine wpAnyH_take (i := 2) (oi := { dst := some 31, op := Go.Op.move (Go.Operand.tmp 3), type := 3, pos := "config.go:253", after := #[], guard := none }) (v := ?_) rfl (by kernel_rfl) (by kernel_rfl) (by kernel_rfl) (fun _ _ _ h => h) (Or.inl ⟨by rfl, ?_⟩) (by assumption) ?_
    rotate_left
    · ((intro w hSw; (try dsimp only at hSw); go_simp) <;> (with_reducible rfl))
    try simp only [Act.put, List.setIfInBounds_toArray, List.set_cons_zero, List.set_cons_succ]
    refine wpAnyH_take (i := 4) (oi := { dst := some 33, op := Go.Op.load 26 (Go.Operand.tmp 4), type := 26, pos := "config.go:253", after := #[], guard := none }) (v := ?_) rfl (by kernel_rfl) (by kernel_rfl) (by kernel_rfl) (fun _ _ _ h => h) (Or.inl ⟨by rfl, ?_⟩) (by assumption) ?_
    rotate_left
    · ((intro w hSw; (try dsimp only at hSw); go_simp) <;> (with_reducible rfl))
    try simp only [Act.put, List.setIfInBounds_toArray, List.set_cons_zero, List.set_cons_succ]
    refine wpAnyH_take (i := 5) (oi := { dst := some 34, op := Go.Op.move (Go.Operand.tmp 1), type := 3, pos := "config.go:253", after := #[], guard := none }) (v := ?_) rfl (by kernel_rfl) (by kernel_rfl) (by kernel_rfl) (fun _ _ _ h => h) (Or.inl ⟨by rfl, ?_⟩) (by assumption) ?_
    rotate_left
    · ((intro w hSw; (try dsimp only at hSw); go_simp) <;> (with_reducible rfl))
    try simp only [Act.put, List.setIfInBounds_toArray, List.set_cons_zero, List.set_cons_succ]
    refine wpAnyH_take (i := 6) (oi := { dst := some 35, op := Go.Op.move (Go.Operand.tmp 2), type := 3, pos := "config.go:253", after := #[], guard := none }) (v := ?_) rfl (by kernel_rfl) (by kernel_rfl) (by kernel_rfl) (fun _ _ _ h => h) (Or.inl ⟨by rfl, ?_⟩) (by assumption) ?_
    rotate_left
    · ((intro w hSw; (try dsimp only at hSw); go_simp) <;> (with_reducible rfl))
    try simp only [Act.put, List.setIfInBounds_toArray, List.set_cons_zero, List.set_cons_succ]
    refine wpAnyH_ready (rs := [3]) (by kernel_rfl) (by simp) ?_
    refine AllReadyH.cons (o := { dst := some 32, op := Go.Op.call { callee := Go.Callee.value (Go.Operand.func 26), args := #[Go.Operand.tmp 29, Go.Operand.tmp 30, Go.Operand.tmp 31], argTypes := #[26, 3, 3] }, type := 3, pos := "config.go:253", after := #[{ on := 0, ground := Go.Ground.data }, { on := 1, ground := Go.Ground.data }, { on := 2, ground := Go.Ground.data }], guard := none }) rfl (fun K hK => ?_) AllReadyH.nil
    go_simp
    (go_at_call 26; (first | (with_reducible refine (HF2.out _ (‹Below (h + 1) w1 _ ∧ _›).1).mono ?_) | (with_reducible refine (HT2.out _ (‹Below (h + 1) w1 _ ∧ _›).1).mono ?_)); rintro e t2 ⟨rfl, hb2⟩)
    refine hK.out _ _ ?_ (fun hH1 => ?_)
    · ((try dsimp only); (first | assumption | exact hS.out _ (Below.refl _ _) | exact hS.out _ (Below.refl _ _).drew | exact hS.out _ hw2.out | exact hS.out _ hw2.out.drew | exact hS.out _ ((‹Below (h + 1) w1 _ ∧ _›).1.trans ((‹Below (World.heap _).size _ _›).mono (Nat.le_trans (Nat.le_of_eq hg1.symm) (‹Below (h + 1) w1 _ ∧ _›).1.size)))))
    clear hK K hH0
    try simp only [Act.put, List.setIfInBounds_toArray, List.set_cons_zero, List.set_cons_succ]
    refine wpAnyH_ready (rs := [7]) (by kernel_rfl) (by simp) ?_
    refine AllReadyH.cons (o := { dst := some 36, op := Go.Op.call { callee := Go.Callee.value (Go.Operand.func 26), args := #[Go.Operand.tmp 33, Go.Operand.tmp 34, Go.Operand.tmp 35], argTypes := #[26, 3, 3] }, type := 3, pos := "config.go:253", after := #[{ on := 4, ground := Go.Ground.data }, { on := 5, ground := Go.Ground.data }, { on := 6, ground := Go.Ground.data }, { on := 3, ground := Go.Ground.chain }], guard := none }) rfl (fun K hK => ?_) AllReadyH.nil
    go_simp
    (go_at_call 26; (first | (with_reducible refine (HF2.out _ (‹Below (h + 1) w1 _ ∧ _›).1).mono ?_) | (with_reducible refine (HT2.out _ (‹Below (h + 1) w1 _ ∧ _›).1).mono ?_)); rintro e t2 ⟨rfl, hb2⟩)
    refine hK.out _ _ ?_ (fun hH2 => ?_)
    · ((try dsimp only); (first | assumption | exact hS.out _ (Below.refl _ _) | exact hS.out _ (Below.refl _ _).drew | exact hS.out _ hw2.out | exact hS.out _ hw2.out.drew | exact hS.out _ ((‹Below (h + 1) w1 _ ∧ _›).1.trans ((‹Below (World.heap _).size _ _›).mono (Nat.le_trans (Nat.le_of_eq hg1.symm) (‹Below (h + 1) w1 _ ∧ _›).1.size)))))
    clear hK K hH1
    try simp only [Act.put, List.setIfInBounds_toArray, List.set_cons_zero, List.set_cons_succ]
    refine wpAnyH_take (i := 8) (oi := { dst := some 37, op := Go.Op.binOp Go.BinOp.sub 3 (Go.Operand.tmp 32) (Go.Operand.tmp 36) 3, type := 3, pos := "config.go:253", after := #[{ on := 3, ground := Go.Ground.data }, { on := 7, ground := Go.Ground.data }], guard := none }) (v := ?_) rfl (by kernel_rfl) (by kernel_rfl) (by kernel_rfl) (fun _ _ _ h => h) (Or.inl ⟨by rfl, ?_⟩) (by assumption) ?_
    rotate_left
    · ((intro w hSw; (try dsimp only at hSw); go_simp) <;> (with_reducible rfl))
    try simp only [Act.put, List.setIfInBounds_toArray, List.set_cons_zero, List.set_cons_succ]
    refine wpAnyH_take (i := 9) (oi := { dst := some 8, op := Go.Op.assign (Go.Operand.tmp 37), type := 3, pos := "config.go:253", after := #[{ on := 8, ground := Go.Ground.data }, { on := 7, ground := Go.Ground.chain }, { on := 0, ground := Go.Ground.phase }, { on := 1, ground := Go.Ground.phase }, { on := 2, ground := Go.Ground.phase }, { on := 3, ground := Go.Ground.phase }, { on := 4, ground := Go.Ground.phase }, { on := 5, ground := Go.Ground.phase }, { on := 6, ground := Go.Ground.phase }, { on := 7, ground := Go.Ground.phase }, { on := 8, ground := Go.Ground.phase }], guard := none }) (v := ?_) rfl (by kernel_rfl) (by kernel_rfl) (by kernel_rfl) (fun _ _ _ h => h) (Or.inl ⟨by rfl, ?_⟩) (by assumption) ?_
    rotate_left
    · ((intro w hSw; (try dsimp only at hSw); go_simp) <;> (with_reducible rfl))
    try simp only [Act.put, List.setIfInBounds_toArray, List.set_cons_zero, List.set_cons_succ]
    refine wpAnyH_done (by kernel_rfl) ?_ _
    all_goals
      go_wp2
      rw [hWW.out]
      exact hr.out _ (b1.out.trans ((‹Below (h + 1) w1 _ ∧ _›).1.mono (Nat.le_succ _)))
  · have hr := Lib.hid (fun w' hw => h0.out (fun x => k0 x.2.2) w' hw)
    have k3 : (kk != 0) = true := by simpa using k0
    clear h1 h0 HI HF HT d1 d2 hS hZ
    go_wp2_with (go_at_call 12; (with_reducible refine hi.out.mono ?_); rintro e w2 ⟨rfl, hb⟩)
    exact hr.out _ (b1.out.trans (hb.mono (Nat.le_succ _)))
end Go.Proofs.Ytnglmiihlpjelaa.Cfg
