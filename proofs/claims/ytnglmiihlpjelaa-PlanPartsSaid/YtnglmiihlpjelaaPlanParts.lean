/-
  Steps from a tick to a later one are those to a tick between and from there on, and those of all partitions together are at most all ticks (law PlanParts returns true, and each argument reads as it read).
  No condition: whatever the arguments are.
-/
import Derived.Test.YtnglmiihlpjelaaPlnO
import Derived.Test.YtnglmiihlpjelaaPlnP
import Derived.Test.YtnglmiihlpjelaaPlnQ
namespace Go.Proofs.Ytnglmiihlpjelaa.planParts
open Go.Proofs.Ytnglmiihlpjelaa Go.Proofs.Ytnglmiihlpjelaa.Cfg
open Go.ChangeShapes Go.WideShapes Go.ChangeAt Go.RowKit
set_option maxRecDepth 100000
set_option linter.unusedVariables false

set_option maxHeartbeats 8000000 in
theorem walk (W : World) {c0 : Cf} {p1_0 : Option Addr} {k1_0 : Nat} {p2_0 : Option Addr} {k2_0 : Nat} {p3_0 : Option Addr} {k3_0 : Nat} (X0 : Cx W W.heap.size c0 p1_0 k1_0 p2_0 k2_0 p3_0 k3_0) (x1 : Int) (w1 : (Lit.int .i64 x1).wf = true) (x2 : Int) (w2 : (Lit.int .i64 x2).wf = true) (x3 : Int) (w3 : (Lit.int .i64 x3).wf = true) :
    Calls Try.prog 4 #[cfV c0 p1_0 k1_0 p2_0 k2_0 p3_0 k3_0, i64 x1, i64 x2, i64 x3] W fun e w' => e = .returned (.bool true) ∧ Below W.heap.size W w' := by
  obtain ⟨r, hr⟩ : ∃ r : Ending → World → Prop, r = fun e w' => e = .returned (.bool true) ∧ Below W.heap.size W w' := ⟨_, rfl⟩
  rw [← hr]
  obtain ⟨h, hhz⟩ : ∃ h, W.heap.size = h := ⟨_, rfl⟩
  have HO := Lib.hid (fun u (b : Below h W u) => (by rw [hr]; exact ⟨rfl, hhz ▸ b⟩ : r (.returned (.bool true)) u))
  clear hr
  have hx := Lib.hid (fun (u : World) (hu : Below h W u) => X0.later hu (Nat.le_of_eq hhz) (by omega))
  have HG := Lib.hid (fun (u : World) (hu : Below h W u) => big_says (hx.out u hu))
  have HK := Lib.hid (fun (u : World) (hu : Below h W u) => rcheck_cx (hx.out u hu))
  have hvd := Lib.hid (fun (g : chk c0 = 0) => vd_of g)
  have hmm := Lib.hid (fun (g : chk c0 = 0) => (show c0.parts.length ≤ 8 from parts_of g))
  have HU := Lib.hid (fun (u : World) (hu : Below h W u) (j f t : Int) => steps_says (hx.out u hu) j f t)
  have hD := Lib.hid (fun (g : chk c0 = 0) (h0 : 0 ≤ x1) (h1 : x1 ≤ x2) (h2 : x2 ≤ x3) (h3 : x3 ≤ 274877906944) => And.intro (fun (j : Int) => stepV_add g j h0 h1 h2 (by omega)) (And.intro (fun (j : Nat) => allV_next g (a := x1) (d := x3) j h0 (by omega) (by omega)) (And.intro (allV_zero (vd_of g) x1 x3) (And.intro (fun (j : Nat) => allV_bd (vd_of g) (a := x1) (d := x3) j h0 (by omega)) (And.intro (fun (j : Int) => stepV_bd g j h0 h1 (by omega)) (fun (j : Int) => stepV_bd g j (show 0 ≤ x2 by omega) h2 (by omega)))))))
  obtain ⟨F, hF⟩ : ∃ F, stepV c0 = F := ⟨_, rfl⟩
  obtain ⟨A, hA⟩ : ∃ A, allV c0 x1 x3 = A := ⟨_, rfl⟩
  obtain ⟨kk, hkk⟩ : ∃ kk, chk c0 = kk := ⟨_, rfl⟩
  simp only [hF, hA, hkk] at HU HK hD hmm
  clear hF hA hkk hvd
  obtain ⟨pg, qpg⟩ : ∃ pg, c0.pages = pg := ⟨_, rfl⟩
  obtain ⟨mj, qmj⟩ : ∃ mj, c0.major = mj := ⟨_, rfl⟩
  obtain ⟨sw, qsw⟩ : ∃ sw, c0.switch = sw := ⟨_, rfl⟩
  obtain ⟨n1, qn1⟩ : ∃ n1, c0.parts.length = n1 := ⟨_, rfl⟩
  obtain ⟨n2, qn2⟩ : ∃ n2, c0.chans.length = n2 := ⟨_, rfl⟩
  obtain ⟨m, qm⟩ : ∃ m, c0.wins.length = m := ⟨_, rfl⟩
  simp only [cfV, qpg, qmj, qsw, qn1, qn2, qm] at HG HU HK hmm
  simp only [cfV, qpg, qmj, qsw, qn1, qn2, qm]
  clear hx
  obtain ⟨w1, hw1⟩ : ∃ w1, w1 = W.alloc (.cells #[i64 pg, i64 mj, i64 sw, .slice p1_0 n1 k1_0, .slice p2_0 n2 k2_0, .slice p3_0 m k3_0] 26) := ⟨_, rfl⟩
  have b1 := Lib.hid (by rw [hw1]; exact (Below.refl _ _).alloc (Nat.le_of_eq hhz.symm) _ : Below h W w1)
  have hg1 : w1.heap.size = h + 1 := by rw [hw1, ← hhz]; simp
  have hZ := Lib.hid (fun k v hv => by
    rw [hw1, ← hhz, cell_of_row _ _ k _ _ _ (heap_alloc_new _ _), ← Array.getElem?_toList]; exact hv : ∀ (k : Nat) (v : Value), [i64 pg, i64 mj, i64 sw, Value.slice p1_0 n1 k1_0, .slice p2_0 n2 k2_0, .slice p3_0 m k3_0][k]? = some v → w1.cell? ⟨h, k, none⟩ = some v)
  have hS := Lib.hid (fun u (b : Below (h + 1) w1 u) => (by
    have hZ2 := fun k v hv => (World.cell?_of_block (b.block h (Nat.lt_succ_self _))).trans (hZ.out k v hv)
    exact ⟨b, hZ2 0 _ rfl, hZ2 1 _ rfl, hZ2 2 _ rfl, hZ2 3 _ rfl, hZ2 4 _ rfl, hZ2 5 _ rfl⟩ : (fun u => Below (h + 1) w1 u ∧ u.cell? ⟨h, 0, none⟩ = some (i64 pg) ∧ u.cell? ⟨h, 1, none⟩ = some (i64 mj) ∧ u.cell? ⟨h, 2, none⟩ = some (i64 sw) ∧ u.cell? ⟨h, 3, none⟩ = some (.slice p1_0 n1 k1_0) ∧ u.cell? ⟨h, 4, none⟩ = some (.slice p2_0 n2 k2_0) ∧ u.cell? ⟨h, 5, none⟩ = some (.slice p3_0 m k3_0)) u))
  have HBB := Lib.hid (fun u (hu : Below (h + 1) w1 u) => b1.out.trans (hu.mono (Nat.le_succ _)))
  clear hZ
  go_enter Try.func4, Try.ntmps4
  go_upto_region 1 with fail
  try simp only [hhz]
  rw [← hw1]
  clear hw1
  go_upto_region 2 with (go_at_call 10; (with_reducible refine (alive15 _).mono ?_); rintro e w2 ⟨rfl, hb⟩; have hw2 := Lib.hid (hb.mono (Nat.le_of_eq hg1.symm)); clear hb)
  obtain ⟨-, z0, z1, z2, z3, z4, z5⟩ := hS.out w2 hw2.out
  have hc := Lib.hid (HG.out w2 (HBB.out _ hw2.out))
  go_upto_region 3 with (go_at_call 11; (with_reducible refine hc.out.mono ?_); rintro e w3 ⟨big, rfl, hb⟩; have hw3 := Lib.hid (hw2.out.trans (hb.mono (by have := hw2.out.size; omega))); clear hb)
  clear z0 z1 z2 z3 z4 z5 hc HG
  obtain ⟨-, z0, z1, z2, z3, z4, z5⟩ := hS.out w3 hw3.out
  cases big with
  | true =>
    go_wp2
    exact HO.out _ (HBB.out _ hw3.out)
  | false =>
    have hc := Lib.hid (HK.out w3 (HBB.out _ hw3.out))
    by_cases hk : kk = 0
    · subst hk
      by_cases q0 : x1 < 0
      · go_wp2_with (go_at_call 12; (with_reducible refine hc.out.mono ?_); rintro e w4 ⟨rfl, hb⟩)
        exact HO.out _ (HBB.out _ (hw3.out.trans (hb.mono (by have := hw3.out.size; omega))))
      by_cases q1 : x2 < x1
      · go_wp2_with (go_at_call 12; (with_reducible refine hc.out.mono ?_); rintro e w4 ⟨rfl, hb⟩)
        exact HO.out _ (HBB.out _ (hw3.out.trans (hb.mono (by have := hw3.out.size; omega))))
      by_cases q2 : x3 < x2
      · go_wp2_with (go_at_call 12; (with_reducible refine hc.out.mono ?_); rintro e w4 ⟨rfl, hb⟩)
        exact HO.out _ (HBB.out _ (hw3.out.trans (hb.mono (by have := hw3.out.size; omega))))
      by_cases q3 : x3 > 274877906944
      · go_wp2_with (go_at_call 12; (with_reducible refine hc.out.mono ?_); rintro e w4 ⟨rfl, hb⟩)
        exact HO.out _ (HBB.out _ (hw3.out.trans (hb.mono (by have := hw3.out.size; omega))))
      obtain ⟨d1, d2, d3, d4, d5, d6⟩ := hD.out rfl (by omega) (by omega) (by omega) (by omega)
      have hn8 := hmm.out rfl
      replace d1 := Lib.hid d1
      replace d2 := Lib.hid d2
      replace d3 := Lib.hid d3
      replace d4 := Lib.hid d4
      replace d5 := Lib.hid d5
      replace d6 := Lib.hid d6
      clear hD hmm HK
      go_upto_region 5 with (go_at_call 12; (with_reducible refine hc.out.mono ?_); rintro e w4 ⟨rfl, hb⟩; have hw4 := Lib.hid (hw3.out.trans (hb.mono (by have := hw3.out.size; omega))); clear hb)
      clear z0 z1 z2 z3 z4 z5 hc
      have z3 := (hS.out w4 hw4.out).2.2.2.2.1
      go_wp2
      go_loopw [11, 12] (fun s i wr => Below (h + 1) w1 wr ∧ ∃ j : Nat, j ≤ n1 ∧ i = .int .i64 j ∧ s = .int .i64 (A j)) (fun _ i _ => n1 - (intOf i).toNat)
      case atStart => exact ⟨hw4.out, 0, Nat.zero_le _, rfl, by rw [d3.out]⟩
      case round =>
        obtain ⟨b2, j, hj, rfl, rfl⟩ := hrel
        have hcs := hS.out wr b2
        have hw5 := Lib.hid b2
        obtain ⟨-, z0, z1, z2, z3, z4, z5⟩ := hcs
        have hA1 := d4.out j
        by_cases hjl : j < n1
        · have hjI : (j : Int) < (n1 : Int) := by omega
          have hjb : j < 8 := by omega
          have hs := d1.out j
          have hnx := Lib.hid (d2.out j)
          have hA2 := d4.out (j + 1)
          have g1 := d5.out j
          have g2 := d6.out j
          rw [hnx.out] at hA2
          obtain ⟨f1, hf1⟩ : ∃ f1, F j x1 x3 = f1 := ⟨_, rfl⟩
          obtain ⟨f2, hf2⟩ : ∃ f2, F j x1 x2 = f2 := ⟨_, rfl⟩
          obtain ⟨f3, hf3⟩ : ∃ f3, F j x2 x3 = f3 := ⟨_, rfl⟩
          have H1 := Lib.hid (fun (u : World) (hu : Below h W u) => HU.out u hu j x1 x3)
          have H2 := Lib.hid (fun (u : World) (hu : Below h W u) => HU.out u hu j x1 x2)
          have H3 := Lib.hid (fun (u : World) (hu : Below h W u) => HU.out u hu j x2 x3)
          rw [hf1] at H1 hs hnx hA2
          rw [hf2] at H2 hs g1
          rw [hf3] at H3 hs g2
          obtain ⟨s0, hs0⟩ : ∃ s0, A j = s0 := ⟨_, rfl⟩
          rw [hs0] at hA1 hA2 hnx ⊢
          have hne : (f1 != IntKind.i64.wrap (f2 + f3)) = false := by rw [IntKind.wrap_i64]; simp; omega
          have e2 : IntKind.i64.wrap (s0 + f1) = s0 + f1 := by rw [IntKind.wrap_i64]; omega
          replace hs := Lib.hid hs
          clear hf1 hf2 hf3 hs0 d1 d2 d3 d4 d5 d6 z0 z1 z2 z4 z5 b2
          go_wp2
          clear z3
          refine wp_region_held_drew (S := (fun u => Below (h + 1) w1 u ∧ u.cell? ⟨h, 0, none⟩ = some (i64 pg) ∧ u.cell? ⟨h, 1, none⟩ = some (i64 mj) ∧ u.cell? ⟨h, 2, none⟩ = some (i64 sw) ∧ u.cell? ⟨h, 3, none⟩ = some (.slice p1_0 n1 k1_0) ∧ u.cell? ⟨h, 4, none⟩ = some (.slice p2_0 n2 k2_0) ∧ u.cell? ⟨h, 5, none⟩ = some (.slice p3_0 m k3_0))) (by kernel_rfl) ?_ (fun hH0 => ?_)
          · ((try dsimp only); (first | assumption | exact hS.out _ hw5.out | exact hS.out _ hw5.out.drew | exact hS.out _ ((‹Below (h + 1) w1 _ ∧ _›).1.trans ((‹Below (World.heap _).size _ _›).mono (Nat.le_trans (Nat.le_of_eq hg1.symm) (‹Below (h + 1) w1 _ ∧ _›).1.size)))))
          refine wpAnyH_take (i := 0) (oi := { dst := some 52, op := Go.Op.load 26 (Go.Operand.tmp 4), type := 26, pos := "later.go:36", after := #[], guard := none }) (v := ?_) rfl (by kernel_rfl) (by kernel_rfl) (by kernel_rfl) (fun _ _ _ h => h) (Or.inl ⟨by rfl, ?_⟩) (by assumption) ?_
          rotate_left
          · ((intro w hSw; (try dsimp only at hSw); go_simp) <;> (with_reducible rfl))
          try simp only [Act.put, List.setIfInBounds_toArray, List.set_cons_zero, List.set_cons_succ]
          refine wpAnyH_take (i := 1) (oi := { dst := some 53, op := Go.Op.move (Go.Operand.tmp 12), type := 3, pos := "later.go:36", after := #[], guard := none }) (v := ?_) rfl (by kernel_rfl) (by kernel_rfl) (by kernel_rfl) (fun _ _ _ h => h) (Or.inl ⟨by rfl, ?_⟩) (by assumption) ?_
          rotate_left
          · ((intro w hSw; (try dsimp only at hSw); go_simp) <;> (with_reducible rfl))
          try simp only [Act.put, List.setIfInBounds_toArray, List.set_cons_zero, List.set_cons_succ]
          refine wpAnyH_take (i := 2) (oi := { dst := some 54, op := Go.Op.move (Go.Operand.tmp 1), type := 3, pos := "later.go:36", after := #[], guard := none }) (v := ?_) rfl (by kernel_rfl) (by kernel_rfl) (by kernel_rfl) (fun _ _ _ h => h) (Or.inl ⟨by rfl, ?_⟩) (by assumption) ?_
          rotate_left
          · ((intro w hSw; (try dsimp only at hSw); go_simp) <;> (with_reducible rfl))
          try simp only [Act.put, List.setIfInBounds_toArray, List.set_cons_zero, List.set_cons_succ]
          refine wpAnyH_take (i := 3) (oi := { dst := some 55, op := Go.Op.move (Go.Operand.tmp 3), type := 3, pos := "later.go:36", after := #[], guard := none }) (v := ?_) rfl (by kernel_rfl) (by kernel_rfl) (by kernel_rfl) (fun _ _ _ h => h) (Or.inl ⟨by rfl, ?_⟩) (by assumption) ?_
          rotate_left
          · ((intro w hSw; (try dsimp only at hSw); go_simp) <;> (with_reducible rfl))
          try simp only [Act.put, List.setIfInBounds_toArray, List.set_cons_zero, List.set_cons_succ]
          refine wpAnyH_take (i := 5) (oi := { dst := some 57, op := Go.Op.load 26 (Go.Operand.tmp 4), type := 26, pos := "later.go:36", after := #[], guard := none }) (v := ?_) rfl (by kernel_rfl) (by kernel_rfl) (by kernel_rfl) (fun _ _ _ h => h) (Or.inl ⟨by rfl, ?_⟩) (by assumption) ?_
          rotate_left
          · ((intro w hSw; (try dsimp only at hSw); go_simp) <;> (with_reducible rfl))
          try simp only [Act.put, List.setIfInBounds_toArray, List.set_cons_zero, List.set_cons_succ]
          refine wpAnyH_take (i := 6) (oi := { dst := some 58, op := Go.Op.move (Go.Operand.tmp 12), type := 3, pos := "later.go:36", after := #[], guard := none }) (v := ?_) rfl (by kernel_rfl) (by kernel_rfl) (by kernel_rfl) (fun _ _ _ h => h) (Or.inl ⟨by rfl, ?_⟩) (by assumption) ?_
          rotate_left
          · ((intro w hSw; (try dsimp only at hSw); go_simp) <;> (with_reducible rfl))
          try simp only [Act.put, List.setIfInBounds_toArray, List.set_cons_zero, List.set_cons_succ]
          refine wpAnyH_take (i := 7) (oi := { dst := some 59, op := Go.Op.move (Go.Operand.tmp 1), type := 3, pos := "later.go:36", after := #[], guard := none }) (v := ?_) rfl (by kernel_rfl) (by kernel_rfl) (by kernel_rfl) (fun _ _ _ h => h) (Or.inl ⟨by rfl, ?_⟩) (by assumption) ?_
          rotate_left
          · ((intro w hSw; (try dsimp only at hSw); go_simp) <;> (with_reducible rfl))
          try simp only [Act.put, List.setIfInBounds_toArray, List.set_cons_zero, List.set_cons_succ]
          refine wpAnyH_take (i := 8) (oi := { dst := some 60, op := Go.Op.move (Go.Operand.tmp 2), type := 3, pos := "later.go:36", after := #[], guard := none }) (v := ?_) rfl (by kernel_rfl) (by kernel_rfl) (by kernel_rfl) (fun _ _ _ h => h) (Or.inl ⟨by rfl, ?_⟩) (by assumption) ?_
          rotate_left
          · ((intro w hSw; (try dsimp only at hSw); go_simp) <;> (with_reducible rfl))
          try simp only [Act.put, List.setIfInBounds_toArray, List.set_cons_zero, List.set_cons_succ]
          refine wpAnyH_take (i := 10) (oi := { dst := some 62, op := Go.Op.load 26 (Go.Operand.tmp 4), type := 26, pos := "later.go:36", after := #[], guard := none }) (v := ?_) rfl (by kernel_rfl) (by kernel_rfl) (by kernel_rfl) (fun _ _ _ h => h) (Or.inl ⟨by rfl, ?_⟩) (by assumption) ?_
          rotate_left
          · ((intro w hSw; (try dsimp only at hSw); go_simp) <;> (with_reducible rfl))
          try simp only [Act.put, List.setIfInBounds_toArray, List.set_cons_zero, List.set_cons_succ]
          refine wpAnyH_take (i := 11) (oi := { dst := some 63, op := Go.Op.move (Go.Operand.tmp 12), type := 3, pos := "later.go:36", after := #[], guard := none }) (v := ?_) rfl (by kernel_rfl) (by kernel_rfl) (by kernel_rfl) (fun _ _ _ h => h) (Or.inl ⟨by rfl, ?_⟩) (by assumption) ?_
          rotate_left
          · ((intro w hSw; (try dsimp only at hSw); go_simp) <;> (with_reducible rfl))
          try simp only [Act.put, List.setIfInBounds_toArray, List.set_cons_zero, List.set_cons_succ]
          refine wpAnyH_take (i := 12) (oi := { dst := some 64, op := Go.Op.move (Go.Operand.tmp 2), type := 3, pos := "later.go:36", after := #[], guard := none }) (v := ?_) rfl (by kernel_rfl) (by kernel_rfl) (by kernel_rfl) (fun _ _ _ h => h) (Or.inl ⟨by rfl, ?_⟩) (by assumption) ?_
          rotate_left
          · ((intro w hSw; (try dsimp only at hSw); go_simp) <;> (with_reducible rfl))
          try simp only [Act.put, List.setIfInBounds_toArray, List.set_cons_zero, List.set_cons_succ]
          refine wpAnyH_take (i := 13) (oi := { dst := some 65, op := Go.Op.move (Go.Operand.tmp 3), type := 3, pos := "later.go:36", after := #[], guard := none }) (v := ?_) rfl (by kernel_rfl) (by kernel_rfl) (by kernel_rfl) (fun _ _ _ h => h) (Or.inl ⟨by rfl, ?_⟩) (by assumption) ?_
          rotate_left
          · ((intro w hSw; (try dsimp only at hSw); go_simp) <;> (with_reducible rfl))
          try simp only [Act.put, List.setIfInBounds_toArray, List.set_cons_zero, List.set_cons_succ]
          refine wpAnyH_ready (rs := [4]) (by kernel_rfl) (by simp) ?_
          refine AllReadyH.cons (o := { dst := some 56, op := Go.Op.call { callee := Go.Callee.value (Go.Operand.func 15), args := #[Go.Operand.tmp 52, Go.Operand.tmp 53, Go.Operand.tmp 54, Go.Operand.tmp 55], argTypes := #[26, 3, 3, 3] }, type := 3, pos := "later.go:36", after := #[{ on := 0, ground := Go.Ground.data }, { on := 1, ground := Go.Ground.data }, { on := 2, ground := Go.Ground.data }, { on := 3, ground := Go.Ground.data }], guard := none }) rfl (fun K hK => ?_) AllReadyH.nil
          go_simp
          (first | (go_at_call 15; (with_reducible refine (H1.out _ (HBB.out _ (‹Below (h + 1) w1 _ ∧ _›).1)).mono ?_); rintro e t2 ⟨rfl, hb2⟩) | (go_at_call 15; (with_reducible refine (H2.out _ (HBB.out _ (‹Below (h + 1) w1 _ ∧ _›).1)).mono ?_); rintro e t2 ⟨rfl, hb2⟩) | (go_at_call 15; (with_reducible refine (H3.out _ (HBB.out _ (‹Below (h + 1) w1 _ ∧ _›).1)).mono ?_); rintro e t2 ⟨rfl, hb2⟩))
          refine hK.out _ _ ?_ (fun hH1 => ?_)
          · ((try dsimp only); (first | assumption | exact hS.out _ hw5.out | exact hS.out _ hw5.out.drew | exact hS.out _ ((‹Below (h + 1) w1 _ ∧ _›).1.trans ((‹Below (World.heap _).size _ _›).mono (Nat.le_trans (Nat.le_of_eq hg1.symm) (‹Below (h + 1) w1 _ ∧ _›).1.size)))))
          clear hK K hH0
          try simp only [Act.put, List.setIfInBounds_toArray, List.set_cons_zero, List.set_cons_succ]
          refine wpAnyH_ready (rs := [9]) (by kernel_rfl) (by simp) ?_
          refine AllReadyH.cons (o := { dst := some 61, op := Go.Op.call { callee := Go.Callee.value (Go.Operand.func 15), args := #[Go.Operand.tmp 57, Go.Operand.tmp 58, Go.Operand.tmp 59, Go.Operand.tmp 60], argTypes := #[26, 3, 3, 3] }, type := 3, pos := "later.go:36", after := #[{ on := 5, ground := Go.Ground.data }, { on := 6, ground := Go.Ground.data }, { on := 7, ground := Go.Ground.data }, { on := 8, ground := Go.Ground.data }, { on := 4, ground := Go.Ground.chain }], guard := none }) rfl (fun K hK => ?_) AllReadyH.nil
          go_simp
          (first | (go_at_call 15; (with_reducible refine (H1.out _ (HBB.out _ (‹Below (h + 1) w1 _ ∧ _›).1)).mono ?_); rintro e t2 ⟨rfl, hb2⟩) | (go_at_call 15; (with_reducible refine (H2.out _ (HBB.out _ (‹Below (h + 1) w1 _ ∧ _›).1)).mono ?_); rintro e t2 ⟨rfl, hb2⟩) | (go_at_call 15; (with_reducible refine (H3.out _ (HBB.out _ (‹Below (h + 1) w1 _ ∧ _›).1)).mono ?_); rintro e t2 ⟨rfl, hb2⟩))
          refine hK.out _ _ ?_ (fun hH2 => ?_)
          · ((try dsimp only); (first | assumption | exact hS.out _ hw5.out | exact hS.out _ hw5.out.drew | exact hS.out _ ((‹Below (h + 1) w1 _ ∧ _›).1.trans ((‹Below (World.heap _).size _ _›).mono (Nat.le_trans (Nat.le_of_eq hg1.symm) (‹Below (h + 1) w1 _ ∧ _›).1.size)))))
          clear hK K hH1
          try simp only [Act.put, List.setIfInBounds_toArray, List.set_cons_zero, List.set_cons_succ]
          refine wpAnyH_ready (rs := [14]) (by kernel_rfl) (by simp) ?_
          refine AllReadyH.cons (o := { dst := some 66, op := Go.Op.call { callee := Go.Callee.value (Go.Operand.func 15), args := #[Go.Operand.tmp 62, Go.Operand.tmp 63, Go.Operand.tmp 64, Go.Operand.tmp 65], argTypes := #[26, 3, 3, 3] }, type := 3, pos := "later.go:36", after := #[{ on := 10, ground := Go.Ground.data }, { on := 11, ground := Go.Ground.data }, { on := 12, ground := Go.Ground.data }, { on := 13, ground := Go.Ground.data }, { on := 9, ground := Go.Ground.chain }], guard := none }) rfl (fun K hK => ?_) AllReadyH.nil
          go_simp
          (first | (go_at_call 15; (with_reducible refine (H1.out _ (HBB.out _ (‹Below (h + 1) w1 _ ∧ _›).1)).mono ?_); rintro e t2 ⟨rfl, hb2⟩) | (go_at_call 15; (with_reducible refine (H2.out _ (HBB.out _ (‹Below (h + 1) w1 _ ∧ _›).1)).mono ?_); rintro e t2 ⟨rfl, hb2⟩) | (go_at_call 15; (with_reducible refine (H3.out _ (HBB.out _ (‹Below (h + 1) w1 _ ∧ _›).1)).mono ?_); rintro e t2 ⟨rfl, hb2⟩))
          refine hK.out _ _ ?_ (fun hH3 => ?_)
          · ((try dsimp only); (first | assumption | exact hS.out _ hw5.out | exact hS.out _ hw5.out.drew | exact hS.out _ ((‹Below (h + 1) w1 _ ∧ _›).1.trans ((‹Below (World.heap _).size _ _›).mono (Nat.le_trans (Nat.le_of_eq hg1.symm) (‹Below (h + 1) w1 _ ∧ _›).1.size)))))
          clear hK K hH2
          try simp only [Act.put, List.setIfInBounds_toArray, List.set_cons_zero, List.set_cons_succ]
          refine wpAnyH_take (i := 15) (oi := { dst := some 67, op := Go.Op.binOp Go.BinOp.add 3 (Go.Operand.tmp 61) (Go.Operand.tmp 66) 3, type := 3, pos := "later.go:36", after := #[{ on := 9, ground := Go.Ground.data }, { on := 14, ground := Go.Ground.data }], guard := none }) (v := ?_) rfl (by kernel_rfl) (by kernel_rfl) (by kernel_rfl) (fun _ _ _ h => h) (Or.inl ⟨by rfl, ?_⟩) (by assumption) ?_
          rotate_left
          · ((intro w hSw; (try dsimp only at hSw); go_simp) <;> (with_reducible rfl))
          try simp only [Act.put, List.setIfInBounds_toArray, List.set_cons_zero, List.set_cons_succ]
          refine wpAnyH_take (i := 16) (oi := { dst := some 68, op := Go.Op.binOp Go.BinOp.neq 3 (Go.Operand.tmp 56) (Go.Operand.tmp 67) 3, type := 4, pos := "later.go:36", after := #[{ on := 4, ground := Go.Ground.data }, { on := 15, ground := Go.Ground.data }], guard := none }) (v := ?_) rfl (by kernel_rfl) (by kernel_rfl) (by kernel_rfl) (fun _ _ _ h => h) (Or.inl ⟨by rfl, ?_⟩) (by assumption) ?_
          rotate_left
          · ((intro w hSw; (try dsimp only at hSw); go_simp) <;> (with_reducible rfl))
          try simp only [Act.put, List.setIfInBounds_toArray, List.set_cons_zero, List.set_cons_succ]
          refine wpAnyH_done (by kernel_rfl) ?_ _
          all_goals
            have hw6 := Lib.hid ((‹Below (h + 1) w1 _ ∧ _›).1)
            rename World => wl
            have H4 := Lib.hid (H1.out _ (HBB.out _ hw6.out))
            obtain ⟨-, z0, z1, z2, z3, z4, z5⟩ := hS.out _ hw6.out
            go_wp2_with (go_at_call 15; (with_reducible refine H4.out.mono ?_); rintro e w7 ⟨rfl, hb⟩; have hw7 := Lib.hid (hw6.out.trans (hb.mono (by have := hw6.out.size; omega))); clear hb)
            go_roundw
            case rel => exact ⟨hw7.out, j + 1, hjl, by go_num, by first | rw [hnx.out] | rw [hnx.out, hs.out]⟩
            case measure => simp [intOf]; omega
        · have hjm : j = n1 := by omega
          subst hjm
          obtain ⟨s0, hs0⟩ : ∃ s0, A j = s0 := ⟨_, rfl⟩
          rw [hs0] at hA1 ⊢
          have e1 : IntKind.i64.wrap (x3 - x1) = x3 - x1 := by rw [IntKind.wrap_i64]; omega
          have e2 : (decide (s0 ≤ x3 - x1)) = true := by simp; omega
          clear d1 d2 d3 d4 d5 d6 hs0
          go_wp2
          exact HO.out _ (HBB.out _ hw5.out)
    · have k3 : (kk != 0) = true := by simpa using hk
      go_wp2_with (go_at_call 12; (with_reducible refine hc.out.mono ?_); rintro e w4 ⟨rfl, hb⟩)
      exact HO.out _ (HBB.out _ (hw3.out.trans (hb.mono (by have := hw3.out.size; omega))))
theorem lifted (os : Os) (started : os.Started) (H : Type) (enc : TypeId × Value → H) :
    ReturnsInHanded {} Try.checked os 4 .any (Rows.planPartsSpec.pre6 enc Try.prog Try.f4 Rows.planPartsRow.domain false) (Rows.planPartsSpec.post enc Try.prog Try.f4 false true false false) := by
  refine returnsInHanded_of_change (C := Try.checked) own started (by kernel_rfl) Try.func4
    (ChangeSpec.witness6 (enc := enc) (C := Try.checked) false ⟨#[], #[.agg #[.int .i64 0, .int .i64 0, .int .i64 0, .slice none 0 0, .slice none 0 0, .slice none 0 0], .int .i64 0, .int .i64 0, .int .i64 0], []⟩ 8 (by kernel_rfl) (by kernel_rfl) (by kernel_rfl) (by kernel_rfl)) ?_
  intro W base args ds gs before hval0 hW hcnd _
  have hval : ∀ (j : Nat) t v, Try.f4.params[j]? = some t → args[j]? = some v → Value.okWide Try.prog W .any base t v := hval0
  have hW' := hW
  obtain ⟨p, q, hA0, hV, rfl, hfz, hnd⟩ := hW
  have hA : DataW.TrodAll enc Try.prog W 0 (fun _ => true) true Try.f4.params.toList args.toList ds p := hA0
  rw [Try.params4] at hA hval
  obtain ⟨v0, vs0, d0, ds0, p0, q0, hargs, rfl, rfl, h0, r0⟩ := trodAll_cons hA
  obtain ⟨v1, vs1, d1, ds1, p1, q1, rfl, rfl, rfl, h1, r1⟩ := trodAll_cons r0
  obtain ⟨v2, vs2, d2, ds2, p2, q2, rfl, rfl, rfl, h2, r2⟩ := trodAll_cons r1
  obtain ⟨v3, vs3, d3, ds3, p3, q3, rfl, rfl, rfl, h3, r3⟩ := trodAll_cons r2
  obtain ⟨rfl, rfl, rfl⟩ := trodAll_nil r3
  obtain rfl : args = #[v0, v1, v2, v3] := by cases args; simp_all
  obtain ⟨rfl, rfl⟩ := trodVars_none hV
  have hlt0 : ∀ x ∈ p0, x.block < W.heap.size := fun x hx => hW'.lt x (by simp [hx])
  obtain ⟨c0, p1_0, k1_0, p2_0, k2_0, p3_0, k3_0, rfl, X0⟩ := open_cfg (hval 0 26 v0 rfl rfl) h0
  obtain ⟨x1, rfl, rfl, rfl, w1⟩ := open_int Try.underlying3 (hval 1 3 v1 rfl rfl) h1
  obtain ⟨x2, rfl, rfl, rfl, w2⟩ := open_int Try.underlying3 (hval 2 3 v2 rfl rfl) h2
  obtain ⟨x3, rfl, rfl, rfl, w3⟩ := open_int Try.underlying3 (hval 3 3 v3 rfl rfl) h3
  clear hA0 hval0
  simp only [List.append_nil] at hW'
  refine (walk W X0 x1 w1 x2 w2 x3 w3).mono fun e W' ⟨he, hg⟩ => ?_
  subst he
  exact ⟨_, rfl, _, _, _, [], _, [], hW', (trodAll_cons_mk (shut_bool Try.underlying4 _) trodAll_mk0), (trodAll_cons_mk (Below.trod laidOut (by kernel_rfl) (of_decide_eq_true (by kernel_rfl)) h0 hg hlt0) (trodAll_cons_mk (shut_int Try.underlying3 w1) (trodAll_cons_mk (shut_int Try.underlying3 w2) (trodAll_cons_mk (shut_int Try.underlying3 w3) trodAll_mk0)))), rfl, hg.frame _, fun h => by cases h⟩
theorem over : Rows.planPartsRow.holds Try.pinned (OpenSpec.ofChange Rows.planPartsSpec) :=
  OpenClaim.holds_of_wide 4 Try.f4 rfl rfl rfl rfl rfl rfl rfl ⟨rfl, rfl, rfl, rfl, rfl⟩ rfl rfl rfl rfl rfl (by kernel_rfl) Try.func4 (by kernel_rfl)
    (of_decide_eq_true (by kernel_rfl)) (by unfold Func.isWrapper; first | (rw [if_pos (by decide +kernel)]; kernel_rfl) | (rw [if_neg (by decide +kernel)]; exact ⟨rfl, rfl⟩))
    (fun os started H enc _ => lifted os started H enc)
/-- THE STATEMENT. -/
theorem proved : Rows.PlanPartsSaid :=
  over
end Go.Proofs.Ytnglmiihlpjelaa.planParts
