/-
  whether every image is one, its bytes, and that these are read again: law ImagePacks returns true.
  No condition: whatever the arguments are.
-/
import Derived.Test.YthiaibpalnlbiaaImgOpen
namespace Go.Proofs.Ythiaibpalnlbiaa.imagePacks
open Go.Proofs.Ythiaibpalnlbiaa Go.Proofs.Ythiaibpalnlbiaa.Ser Go.Proofs.Ythiaibpalnlbiaa.Img
open Go.ChangeShapes Go.WideShapes Go.ChangeAt Go.RowKit
set_option maxRecDepth 100000
set_option linter.unusedVariables false

set_option maxHeartbeats 8000000 in
theorem walk (W : World) (e0 : Int) (he0 : -9223372036854775808 ≤ e0 ∧ e0 ≤ 9223372036854775807) {p0 : Option Addr} {n0 c0 : Nat} {xs0 : List Int} (L0 : Lie .u8 W W.heap.size p0 n0 c0 xs0) (H0 : Byt xs0) (m0 : n0 ≤ 9223372036854775807) (mc0 : c0 ≤ 9223372036854775807) (e1 : Int) (he1 : -9223372036854775808 ≤ e1 ∧ e1 ≤ 9223372036854775807) {p1 : Option Addr} {n1 c1 : Nat} {xs1 : List Int} (L1 : Lie .u8 W W.heap.size p1 n1 c1 xs1) (H1 : Byt xs1) (m1 : n1 ≤ 9223372036854775807) (mc1 : c1 ≤ 9223372036854775807) :
    Calls Try.prog 3 #[imgV e0 p0 n0 c0, imgV e1 p1 n1 c1] W fun e w' => e = .returned (.bool true) ∧ Below W.heap.size W w' := by
  obtain ⟨r, hr⟩ : ∃ r : Ending → World → Prop, r = fun e w' => e = .returned (.bool true) ∧ Below W.heap.size W w' := ⟨_, rfl⟩
  rw [← hr]
  have HO := Lib.hid (fun u (b : Below W.heap.size W u) => (by rw [hr]; exact ⟨rfl, b⟩ : r (.returned (.bool true)) u))
  clear hr
  have nn : (0 : Int) ≤ (n0 : Int) := Int.natCast_nonneg n0
  have nn1 : (0 : Int) ≤ (n1 : Int) := Int.natCast_nonneg n1
  obtain ⟨h0, hh0⟩ : ∃ h0, W.heap.size = h0 := ⟨_, rfl⟩
  obtain ⟨v1, hv1⟩ : ∃ v1, v1 = W.alloc (.cells #[i64 e0, .slice p0 n0 c0] 24) := ⟨_, rfl⟩
  obtain ⟨v2, hv2⟩ : ∃ v2, v2 = v1.alloc (.cells #[i64 e1, .slice p1 n1 c1] 24) := ⟨_, rfl⟩
  have s1 : v1.heap.size = h0 + 1 := by rw [hv1, ← hh0]; simp
  have s2 : v2.heap.size = h0 + 2 := by rw [hv2]; simp [s1]
  have Xa1 : BoxI W v1 h0 e0 p0 n0 c0 := by rw [hv1, ← hh0]; exact BoxI.new
  have Xa2 := Lib.hid (by rw [hv2]; exact Xa1.kept ((Below.refl _ _).alloc (Nat.le_refl _) _) Xa1.lt (Nat.le_refl _) : BoxI W v2 h0 e0 p0 n0 c0)
  have Xb2 := Lib.hid (by rw [hv2, ← s1]; exact BoxI.new : BoxI v1 v2 (h0 + 1) e1 p1 n1 c1)
  have HL := Lib.hid L0
  have HX := Lib.hid H0
  have HN := Lib.hid L0.len
  have HL1 := Lib.hid L1
  have HX1 := Lib.hid H1
  have HA := Lib.hid (alive13 v2)
  have hv2' : v2 = (W.alloc (.cells #[i64 e0, .slice p0 n0 c0] 24)).alloc (.cells #[i64 e1, .slice p1 n1 c1] 24) := by rw [hv2, hv1]
  clear L0 H0 L1 H1 hv1 hv2 Xa1
  have ways : 20000 < n0 ∨ (¬ 20000 < n0 ∧ 20000 < n1) ∨ (¬ 20000 < n0 ∧ ¬ 20000 < n1) := by omega
  rcases ways with a0 | ⟨a0, a1⟩ | ⟨a0, a1⟩
  · have a0' : (20000 : Int) < (n0 : Int) := by omega
    go_enter Try.func3, Try.ntmps3
    go_upto_region 1 with fail
    rw [← hv2']
    clear hv2'
    go_upto_region 2 with (go_at_call 6; refine HA.out.mono ?_; rintro e w3 ⟨rfl, hb⟩; have Xa3 := Lib.hid (Xa2.out.kept hb Xa2.out.lt (Nat.le_refl _)); clear hb)
    have ca1 := Xa3.out.c1
    go_wp2_with fail
    exact HO.out _ (by rw [hh0]; exact Xa3.out.b)
  · have a0' : ¬ (20000 : Int) < (n0 : Int) := by omega
    have a1' : (20000 : Int) < (n1 : Int) := by omega
    go_enter Try.func3, Try.ntmps3
    go_upto_region 1 with fail
    rw [← hv2']
    clear hv2'
    go_upto_region 2 with (go_at_call 6; refine HA.out.mono ?_; rintro e w3 ⟨rfl, hb⟩; have Xa3 := Lib.hid (Xa2.out.kept hb Xa2.out.lt (Nat.le_refl _)); have Xb3 := Lib.hid (Xb2.out.kept hb Xb2.out.lt (Nat.le_refl _)); clear hb)
    have ca1 := Xa3.out.c1
    have cb1 := Xb3.out.c1
    go_wp2_with fail
    exact HO.out _ (by rw [hh0]; exact Xa3.out.b)
  · have a0' : ¬ (20000 : Int) < (n0 : Int) := by omega
    have a1' : ¬ (20000 : Int) < (n1 : Int) := by omega
    have HC := Lib.hid (fun u => check_says e0 p0 n0 c0 m0 u)
    have HCr := Lib.hid (fun u => rcheck_says e0 p0 n0 c0 m0 u)
    have HP := Lib.hid (fun u (b : Below h0 W u) => pack_says e0 he0 ((HL.out.kept (by rw [hh0]; exact b) (Nat.le_refl _)).wide (by rw [hh0]; have := b.size; rw [hh0] at this; exact this)) HX.out (by omega))
    have HPr := Lib.hid (fun u (b : Below h0 W u) => rpack_says e0 he0 ((HL.out.kept (by rw [hh0]; exact b) (Nat.le_refl _)).wide (by rw [hh0]; have := b.size; rw [hh0] at this; exact this)) HX.out (by omega))
    have HP1 := Lib.hid (fun u (b : Below h0 W u) => pack_says e1 he1 ((HL1.out.kept (by rw [hh0]; exact b) (Nat.le_refl _)).wide (by rw [hh0]; have := b.size; rw [hh0] at this; exact this)) HX1.out (by omega))
    obtain ⟨P, hP⟩ : ∃ P, P = packO e0 xs0 := ⟨_, rfl⟩
    obtain ⟨D, hD⟩ : ∃ D, D = packO e1 xs1 := ⟨_, rfl⟩
    obtain ⟨q, hq⟩ : ∃ q, q = chk e0 n0 := ⟨_, rfl⟩
    obtain ⟨q1, hq1⟩ : ∃ q1, q1 = chk e1 n1 := ⟨_, rfl⟩
    rw [← hP, ← hq] at HP HPr
    rw [← hD, ← hq1] at HP1
    rw [← hq] at HC HCr
    have HPq := Lib.hid (show q = 0 → P = packL e0 xs0 by intro h; rw [hP]; unfold packO; rw [HN.out, ← hq, if_pos h])
    have HPg := Lib.hid (show q = 0 → good P by intro h; rw [HPq.out h]; exact good_pack (by rw [HN.out, ← hq]; exact h))
    have HPb := Lib.hid (show Byt P by rw [hP]; unfold packO; split; exact pack_byt e0 HX.out; (intro x hx; cases hx))
    have HPl := Lib.hid (show P.length ≤ 20016 by rw [hP]; unfold packO; split; (rw [pack_len, HN.out]; omega); simp)
    have HDlen := Lib.hid (show D.length ≤ 20016 by rw [hD]; unfold packO; split; (rw [pack_len, HL1.out.len]; omega); simp)
    have HPu := Lib.hid (show q = 0 → unpE P = e0 ∧ unpB P = xs0 by
      intro h
      have hc := chk_of (hq.symm.trans h)
      obtain ⟨u1, u2, -⟩ := unp_yes (HPg.out h)
      rw [u1, u2, HPq.out h]
      exact ⟨num4_pack e0 xs0 hc.1 hc.2.1, mid_pack e0 xs0⟩)
    clear hP hD hq hq1
    go_enter Try.func3, Try.ntmps3
    go_upto_region 1 with fail
    rw [← hv2']
    clear hv2'
    go_upto_region 2 with (go_at_call 6; refine HA.out.mono ?_; rintro e w3 ⟨rfl, hb⟩; have Xa3 := Lib.hid (Xa2.out.kept hb Xa2.out.lt (Nat.le_refl _)); have Xb3 := Lib.hid (Xb2.out.kept hb Xb2.out.lt (Nat.le_refl _)); clear hb)
    have ca0 := Xa3.out.c0
    have ca1 := Xa3.out.c1
    have cb1 := Xb3.out.c1
    go_upto_region 5 with (go_at_call 7; refine (HC.out _).mono ?_; rintro e w4 ⟨rfl, hb⟩; have Xa4 := Lib.hid (Xa3.out.kept hb Xa3.out.lt (Nat.le_refl _)); have Xb4 := Lib.hid (Xb3.out.kept hb Xb3.out.lt (Nat.le_refl _)); clear hb)
    clear ca0 ca1 cb1
    have ca0 := Xa4.out.c0
    have ca1 := Xa4.out.c1
    go_upto_region 6 with (go_at_call 8; refine (HP.out _ Xa4.out.b).mono ?_; rintro e w5 ⟨pA, mA, cA, rfl, hmA, oA, hb⟩; have Xa5 := Lib.hid (Xa4.out.kept hb Xa4.out.lt (Nat.le_refl _)); have Xb5 := Lib.hid (Xb4.out.kept hb Xb4.out.lt (Nat.le_refl _)); have LA := Lib.hid (lie_of oA); clear hb oA hmA)
    clear ca0 ca1
    have cb0 := Xb5.out.c0
    have cb1 := Xb5.out.c1
    go_upto_region 7 with (go_at_call 8; refine (HP1.out _ Xa5.out.b).mono ?_; rintro e w6 ⟨pD, mD, cD, rfl, hmD, oD, hb⟩; replace hmD := Lib.hid hmD; replace oD := Lib.hid oD; have B6 := Lib.hid hb; clear hb)
    clear cb0 cb1
    obtain ⟨B, hB⟩ : ∃ B, w5.heap.size = B := ⟨_, rfl⟩
    rw [hB] at oD B6
    have hBl : h0 + 1 < B := by have := Xb5.out.lt; omega
    have hmDl : mD ≤ 20016 := by rw [hmD.out]; exact HDlen.out
    go_wp2_with fail
    go_loopw [11] (fun s11 wr => ∃ (k : Nat) (ds : List Int), k ≤ mD ∧ s11 = i64 (k : Int) ∧ OwnK 5 .u8 wr B (.slice pD mD cD) ds ∧ ds.length = mD ∧ Below B w5 wr) (fun s11 _ => mD - (intOf s11).toNat)
    case atStart => exact ⟨0, _, Nat.zero_le _, rfl, oD.out, hmD.out.symm, B6.out⟩
    case round =>
      obtain ⟨k, ds, hk, rfl, hds, hdl, hbr⟩ := hrel
      have k0 : (0 : Int) ≤ (k : Int) := Int.natCast_nonneg k
      have DS := Lib.hid hds
      have BR := Lib.hid hbr
      have DL := Lib.hid hdl
      clear hds hbr hdl
      by_cases hkm : k < mD
      · have hkI : (k : Int) < (mD : Int) := by omega
        obtain ⟨g, cc, ec, hc1, hc2, hg1, hg2, hcell, hfr, hset⟩ := ownK_cell (j := k) DS.out (by rw [DL.out]; exact hkm)
        injection ec with e1 e2 e3
        subst e1 e3
        have HSet := Lib.hid hset
        clear hset e2
        go_wp2_with fail
        go_roundw
        case rel => exact ⟨k + 1, _, hkm, by go_num, HSet.out _, by rw [List.length_set]; exact DL.out, below_set BR.out _ _ hg1 _⟩
        case measure => simp [intOf]; omega
      · obtain rfl : k = mD := by omega
        have Xa6 := Lib.hid (Xa5.out.kept BR.out (by omega) (by omega))
        have LA6 := Lib.hid (LA.out.kept BR.out (Nat.le_of_eq hB))
        have ca0 := Xa6.out.c0
        have ca1 := Xa6.out.c1
        go_upto_region 12 with (go_at_call 9; refine (HPr.out _ Xa6.out.b).mono ?_; rintro e w8 ⟨pC, mC, cC, rfl, hmC, oC, hb⟩; have Xa8 := Lib.hid (Xa6.out.kept hb Xa6.out.lt (Nat.le_refl _)); have LA8 := Lib.hid (((LA6.out.wide (by have := BR.out.size; omega)).kept hb (Nat.le_refl _)).wide hb.size); have LC := Lib.hid (lie_of oC); clear hb oC hmC)
        obtain ⟨A, hA⟩ : ∃ A, A = strOfNums P := ⟨_, rfl⟩
        have HS := Lib.hid (fun u (b : Below w8.heap.size w8 u) => (by rw [hA]; exact ⟨(World.cell?_of_block (b.block h0 Xa8.out.lt)).trans Xa8.out.c0, (World.cell?_of_block (b.block h0 Xa8.out.lt)).trans Xa8.out.c1, conv_lie (LA8.out.kept b (Nat.le_refl _)), conv_lie (LC.out.kept b (Nat.le_refl _)), b⟩ : (u.cell? ⟨h0, 0, none⟩ = some (i64 e0) ∧ u.cell? ⟨h0, 1, none⟩ = some (.slice p0 n0 c0) ∧ (convert 22 9 (.slice pA mA cA)).run Try.prog u = .ok (.string A) u ∧ (convert 22 9 (.slice pC mC cC)).run Try.prog u = .ok (.string A) u ∧ Below w8.heap.size w8 u)))
        have HK := Lib.hid (fun u u' (s : u.cell? ⟨h0, 0, none⟩ = some (i64 e0) ∧ u.cell? ⟨h0, 1, none⟩ = some (.slice p0 n0 c0) ∧ (convert 22 9 (.slice pA mA cA)).run Try.prog u = .ok (.string A) u ∧ (convert 22 9 (.slice pC mC cC)).run Try.prog u = .ok (.string A) u ∧ Below w8.heap.size w8 u) (b : Below u.heap.size u u') => HS.out u' (s.2.2.2.2.trans (b.mono s.2.2.2.2.size)))
        have S0 := HS.out w8.drew ⟨rfl, rfl, rfl, Nat.le_refl _, fun _ _ => rfl⟩
        clear hA ca0 ca1
        have hqq : (q != q) = false := by simp
        refine wp_region_held_drew (S := (fun u => u.cell? ⟨h0, 0, none⟩ = some (i64 e0) ∧ u.cell? ⟨h0, 1, none⟩ = some (.slice p0 n0 c0) ∧ (convert 22 9 (.slice pA mA cA)).run Try.prog u = .ok (.string A) u ∧ (convert 22 9 (.slice pC mC cC)).run Try.prog u = .ok (.string A) u ∧ Below w8.heap.size w8 u)) (by kernel_rfl) ?_ (fun hH0 => ?_)
        · ((try dsimp only); first | assumption | exact HK.out _ _ (by assumption) (by assumption))
        refine wpAnyH_take (i := 0) (oi := { dst := some 63, op := Go.Op.move (Go.Operand.tmp 6), type := 26, pos := "law.go:31", after := #[], guard := none }) (v := ?_) rfl (by kernel_rfl) (by kernel_rfl) (by kernel_rfl) (fun _ _ _ h => h) (Or.inl ⟨by rfl, ?_⟩) (by assumption) ?_
        rotate_left
        · ((intro w hSw; (try dsimp only at hSw); go_simp) <;> (with_reducible rfl))
        try simp only [Act.put, List.setIfInBounds_toArray, List.set_cons_zero, List.set_cons_succ]
        refine wpAnyH_take (i := 2) (oi := { dst := some 65, op := Go.Op.load 24 (Go.Operand.tmp 2), type := 24, pos := "law.go:31", after := #[], guard := none }) (v := ?_) rfl (by kernel_rfl) (by kernel_rfl) (by kernel_rfl) (fun _ _ _ h => h) (Or.inl ⟨by rfl, ?_⟩) (by assumption) ?_
        rotate_left
        · ((intro w hSw; (try dsimp only at hSw); go_simp) <;> (with_reducible rfl))
        try simp only [Act.put, List.setIfInBounds_toArray, List.set_cons_zero, List.set_cons_succ]
        refine wpAnyH_ready (rs := [1]) (by kernel_rfl) (by simp) ?_
        refine AllReadyH.cons (o := { dst := some 64, op := Go.Op.call { callee := Go.Callee.value (Go.Operand.func 10), args := #[Go.Operand.tmp 63], argTypes := #[26] }, type := 3, pos := "law.go:31", after := #[{ on := 0, ground := Go.Ground.data }], guard := none }) rfl (fun K hK => ?_) AllReadyH.nil
        go_simp
        (first | (go_at_call 10; refine (num_says13 _ _).mono ?_; rintro e t' ⟨rfl, rfl⟩) | (go_at_call 11; refine (HCr.out _).mono ?_; rintro e t' ⟨rfl, ht'⟩))
        refine hK.out _ _ ?_ (fun hH1 => ?_)
        · ((try dsimp only); first | assumption | exact HK.out _ _ (by assumption) (by assumption))
        clear hK K hH0
        try simp only [Act.put, List.setIfInBounds_toArray, List.set_cons_zero, List.set_cons_succ]
        refine wpAnyH_ready (rs := [3]) (by kernel_rfl) (by simp) ?_
        refine AllReadyH.cons (o := { dst := some 66, op := Go.Op.call { callee := Go.Callee.value (Go.Operand.func 11), args := #[Go.Operand.tmp 65], argTypes := #[24] }, type := 3, pos := "law.go:31", after := #[{ on := 2, ground := Go.Ground.data }, { on := 1, ground := Go.Ground.chain }], guard := none }) rfl (fun K hK => ?_) AllReadyH.nil
        go_simp
        (first | (go_at_call 10; refine (num_says13 _ _).mono ?_; rintro e t' ⟨rfl, rfl⟩) | (go_at_call 11; refine (HCr.out _).mono ?_; rintro e t' ⟨rfl, ht'⟩))
        refine hK.out _ _ ?_ (fun hH2 => ?_)
        · ((try dsimp only); first | assumption | exact HK.out _ _ (by assumption) (by assumption))
        clear hK K hH1
        try simp only [Act.put, List.setIfInBounds_toArray, List.set_cons_zero, List.set_cons_succ]
        refine wpAnyH_take (i := 4) (oi := { dst := some 67, op := Go.Op.binOp Go.BinOp.neq 3 (Go.Operand.tmp 64) (Go.Operand.tmp 66) 3, type := 4, pos := "law.go:31", after := #[{ on := 1, ground := Go.Ground.data }, { on := 3, ground := Go.Ground.data }], guard := none }) (v := ?_) rfl (by kernel_rfl) (by kernel_rfl) (by kernel_rfl) (fun _ _ _ h => h) (Or.inl ⟨by rfl, ?_⟩) (by assumption) ?_
        rotate_left
        · ((intro w hSw; (try dsimp only at hSw); go_simp) <;> (with_reducible rfl))
        try simp only [Act.put, List.setIfInBounds_toArray, List.set_cons_zero, List.set_cons_succ]
        refine wpAnyH_take (i := 5) (oi := { dst := some 68, op := Go.Op.move (Go.Operand.tmp 67), type := 4, pos := "law.go:31", after := #[{ on := 4, ground := Go.Ground.data }, { on := 3, ground := Go.Ground.chain }], guard := none }) (v := ?_) rfl (by kernel_rfl) (by kernel_rfl) (by kernel_rfl) (fun _ _ _ h => h) (Or.inl ⟨by rfl, ?_⟩) (by assumption) ?_
        rotate_left
        · ((intro w hSw; (try dsimp only at hSw); go_simp) <;> (with_reducible rfl))
        try simp only [Act.put, List.setIfInBounds_toArray, List.set_cons_zero, List.set_cons_succ]
        refine wpAnyH_take (i := 6) (oi := { dst := some 69, op := Go.Op.move (Go.Operand.tmp 8), type := 26, pos := "law.go:31", after := #[{ on := 5, ground := Go.Ground.guard }], guard := some (5, false) }) (v := ?_) rfl (by kernel_rfl) (by kernel_rfl) (by kernel_rfl) (fun _ _ _ h => h) (Or.inl ⟨by rfl, ?_⟩) (by assumption) ?_
        rotate_left
        · ((intro w hSw; (try dsimp only at hSw); go_simp) <;> (with_reducible rfl))
        try simp only [Act.put, List.setIfInBounds_toArray, List.set_cons_zero, List.set_cons_succ]
        refine wpAnyH_take (i := 8) (oi := { dst := some 71, op := Go.Op.move (Go.Operand.tmp 13), type := 3, pos := "law.go:31", after := #[{ on := 5, ground := Go.Ground.guard }], guard := some (5, false) }) (v := ?_) rfl (by kernel_rfl) (by kernel_rfl) (by kernel_rfl) (fun _ _ _ h => h) (Or.inl ⟨by rfl, ?_⟩) (by assumption) ?_
        rotate_left
        · ((intro w hSw; (try dsimp only at hSw); go_simp) <;> (with_reducible rfl))
        try simp only [Act.put, List.setIfInBounds_toArray, List.set_cons_zero, List.set_cons_succ]
        refine wpAnyH_ready (rs := [7]) (by kernel_rfl) (by simp) ?_
        refine AllReadyH.cons (o := { dst := some 70, op := Go.Op.call { callee := Go.Callee.value (Go.Operand.func 10), args := #[Go.Operand.tmp 69], argTypes := #[26] }, type := 3, pos := "law.go:31", after := #[{ on := 6, ground := Go.Ground.data }, { on := 5, ground := Go.Ground.chain }, { on := 5, ground := Go.Ground.guard }], guard := some (5, false) }) rfl (fun K hK => ?_) AllReadyH.nil
        go_simp
        (first | (go_at_call 10; refine (num_says13 _ _).mono ?_; rintro e t' ⟨rfl, rfl⟩) | (go_at_call 11; refine (HCr.out _).mono ?_; rintro e t' ⟨rfl, ht'⟩))
        refine hK.out _ _ ?_ (fun hH3 => ?_)
        · ((try dsimp only); first | assumption | exact HK.out _ _ (by assumption) (by assumption))
        clear hK K hH2
        try simp only [Act.put, List.setIfInBounds_toArray, List.set_cons_zero, List.set_cons_succ]
        refine wpAnyH_take (i := 9) (oi := { dst := some 72, op := Go.Op.binOp Go.BinOp.neq 3 (Go.Operand.tmp 70) (Go.Operand.tmp 71) 3, type := 4, pos := "law.go:31", after := #[{ on := 7, ground := Go.Ground.data }, { on := 8, ground := Go.Ground.data }, { on := 5, ground := Go.Ground.guard }], guard := some (5, false) }) (v := ?_) rfl (by kernel_rfl) (by kernel_rfl) (by kernel_rfl) (fun _ _ _ h => h) (Or.inl ⟨by rfl, ?_⟩) (by assumption) ?_
        rotate_left
        · ((intro w hSw; (try dsimp only at hSw); go_simp) <;> (with_reducible rfl))
        try simp only [Act.put, List.setIfInBounds_toArray, List.set_cons_zero, List.set_cons_succ]
        refine wpAnyH_take (i := 10) (oi := { dst := some 73, op := Go.Op.pick (Go.Operand.tmp 68) (Go.Operand.const (Go.Value.bool true)) (Go.Operand.tmp 72), type := 4, pos := "law.go:31", after := #[{ on := 5, ground := Go.Ground.data }, { on := 9, ground := Go.Ground.data }], guard := none }) (v := ?_) rfl (by kernel_rfl) (by kernel_rfl) (by kernel_rfl) (fun _ _ _ h => h) (Or.inl ⟨by rfl, ?_⟩) (by assumption) ?_
        rotate_left
        · ((intro w hSw; (try dsimp only at hSw); go_simp) <;> (with_reducible rfl))
        try simp only [Act.put, List.setIfInBounds_toArray, List.set_cons_zero, List.set_cons_succ]
        refine wpAnyH_take (i := 11) (oi := { dst := some 74, op := Go.Op.move (Go.Operand.tmp 73), type := 4, pos := "law.go:31", after := #[{ on := 10, ground := Go.Ground.data }, { on := 7, ground := Go.Ground.chain }], guard := none }) (v := ?_) rfl (by kernel_rfl) (by kernel_rfl) (by kernel_rfl) (fun _ _ _ h => h) (Or.inl ⟨by rfl, ?_⟩) (by assumption) ?_
        rotate_left
        · ((intro w hSw; (try dsimp only at hSw); go_simp) <;> (with_reducible rfl))
        try simp only [Act.put, List.setIfInBounds_toArray, List.set_cons_zero, List.set_cons_succ]
        refine wpAnyH_take (i := 12) (oi := { dst := some 75, op := Go.Op.move (Go.Operand.tmp 7), type := 22, pos := "law.go:31", after := #[{ on := 11, ground := Go.Ground.guard }], guard := some (11, false) }) (v := ?_) rfl (by kernel_rfl) (by kernel_rfl) (by kernel_rfl) (fun _ _ _ h => h) (Or.inl ⟨by rfl, ?_⟩) (by assumption) ?_
        rotate_left
        · ((intro w hSw; (try dsimp only at hSw); go_simp) <;> (with_reducible rfl))
        try simp only [Act.put, List.setIfInBounds_toArray, List.set_cons_zero, List.set_cons_succ]
        refine wpAnyH_take (i := 13) (oi := { dst := some 76, op := Go.Op.convert 22 9 (Go.Operand.tmp 75), type := 9, pos := "law.go:31", after := #[{ on := 12, ground := Go.Ground.data }, { on := 11, ground := Go.Ground.guard }], guard := some (11, false) }) (v := ?_) rfl (by kernel_rfl) (by kernel_rfl) (by kernel_rfl) (fun _ _ _ h => h) (Or.inl ⟨by rfl, ?_⟩) (by assumption) ?_
        rotate_left
        · ((intro w hSw; (try dsimp only at hSw); go_simp) <;> (with_reducible rfl))
        try simp only [Act.put, List.setIfInBounds_toArray, List.set_cons_zero, List.set_cons_succ]
        refine wpAnyH_take (i := 14) (oi := { dst := some 77, op := Go.Op.move (Go.Operand.tmp 12), type := 22, pos := "law.go:31", after := #[{ on := 11, ground := Go.Ground.guard }], guard := some (11, false) }) (v := ?_) rfl (by kernel_rfl) (by kernel_rfl) (by kernel_rfl) (fun _ _ _ h => h) (Or.inl ⟨by rfl, ?_⟩) (by assumption) ?_
        rotate_left
        · ((intro w hSw; (try dsimp only at hSw); go_simp) <;> (with_reducible rfl))
        try simp only [Act.put, List.setIfInBounds_toArray, List.set_cons_zero, List.set_cons_succ]
        refine wpAnyH_take (i := 15) (oi := { dst := some 78, op := Go.Op.convert 22 9 (Go.Operand.tmp 77), type := 9, pos := "law.go:31", after := #[{ on := 14, ground := Go.Ground.data }, { on := 11, ground := Go.Ground.guard }], guard := some (11, false) }) (v := ?_) rfl (by kernel_rfl) (by kernel_rfl) (by kernel_rfl) (fun _ _ _ h => h) (Or.inl ⟨by rfl, ?_⟩) (by assumption) ?_
        rotate_left
        · ((intro w hSw; (try dsimp only at hSw); go_simp) <;> (with_reducible rfl))
        try simp only [Act.put, List.setIfInBounds_toArray, List.set_cons_zero, List.set_cons_succ]
        refine wpAnyH_take (i := 16) (oi := { dst := some 79, op := Go.Op.binOp Go.BinOp.neq 9 (Go.Operand.tmp 76) (Go.Operand.tmp 78) 9, type := 4, pos := "law.go:31", after := #[{ on := 13, ground := Go.Ground.data }, { on := 15, ground := Go.Ground.data }, { on := 11, ground := Go.Ground.guard }], guard := some (11, false) }) (v := ?_) rfl (by kernel_rfl) (by kernel_rfl) (by kernel_rfl) (fun _ _ _ h => h) (Or.inl ⟨by rfl, ?_⟩) (by assumption) ?_
        rotate_left
        · ((intro w hSw; (try dsimp only at hSw); go_simp) <;> (with_reducible rfl))
        try simp only [Act.put, List.setIfInBounds_toArray, List.set_cons_zero, List.set_cons_succ]
        refine wpAnyH_take (i := 17) (oi := { dst := some 80, op := Go.Op.pick (Go.Operand.tmp 74) (Go.Operand.const (Go.Value.bool true)) (Go.Operand.tmp 79), type := 4, pos := "law.go:31", after := #[{ on := 11, ground := Go.Ground.data }, { on := 16, ground := Go.Ground.data }], guard := none }) (v := ?_) rfl (by kernel_rfl) (by kernel_rfl) (by kernel_rfl) (fun _ _ _ h => h) (Or.inl ⟨by rfl, ?_⟩) (by assumption) ?_
        rotate_left
        · ((intro w hSw; (try dsimp only at hSw); go_simp) <;> (with_reducible rfl))
        try simp only [Act.put, List.setIfInBounds_toArray, List.set_cons_zero, List.set_cons_succ]
        refine wpAnyH_done (by kernel_rfl) ?_ _
        have hSt := Lib.hid (HK.out _ t' (by assumption) (Below.refl _ _))
        have Xa9 := Lib.hid (Xa8.out.kept hSt.out.2.2.2.2 Xa8.out.lt (Nat.le_refl _))
        have LA9 := Lib.hid (LA8.out.kept hSt.out.2.2.2.2 (Nat.le_refl _))
        have s9 := hSt.out.2.2.2.2.size
        by_cases hq0 : q = 0
        · have hq1 : (q != 0) = false := by simp [hq0]
          have PU := HPu.out hq0
          have HPx := Lib.hid (show unpX P = 0 from (unp_yes (HPg.out hq0)).2.2)
          have HPE := Lib.hid PU.1
          have HPB := Lib.hid PU.2
          clear PU hq0
          go_upto_region 16 with fail
          go_upto_region 17 with (first
            | (at_builtin; refine wpList_appK kdB rfl _ _ rfl (Nat.le_refl _) (R1 := []) rfl (ownK_nil _ _ _ _) P rfl LA9.out.len LA9.out.nil LA9.out.src (by have h3 : ([] : List Int).length = 0 := rfl; have := LA9.out.len; have := HPl.out; omega) ?_; intro v10 w10 o10 b10 _; rw [List.nil_append] at o10; obtain ⟨pE, mE, cE, rfl, hmE⟩ := own_told o10; have hmE' : mE ≤ 20016 := (by have := HPl.out; omega); have Xa10 := Lib.hid (Xa9.out.kept b10 Xa9.out.lt (Nat.le_refl _)); have R10 := Lib.hid o10; clear o10 b10 hmE)
            | (go_at_call 12; refine (unpack_says (lie_of R10.out) HPb.out (by omega) (by obtain ⟨_, _, e, hc, _⟩ := ownK_lie R10.out; injection e with _ _ e3; rw [e3]; unfold maxLen at hc; omega)).mono ?_; rw [HPx.out, HPE.out, HPB.out]; rintro e w11 ⟨pF, mF, cF, rfl, hmF, oF, b11⟩; have Xa11 := Lib.hid (Xa10.out.kept b11 Xa10.out.lt (Nat.le_refl _)); have LF := Lib.hid (lie_of oF); clear oF b11 hmF))
          obtain ⟨hF, hhF⟩ : ∃ hF, w11.heap.size = hF := ⟨_, rfl⟩
          obtain ⟨w12, hw12⟩ : ∃ w12, w12 = w11.alloc (.cells #[i64 e0, .slice pF mF cF] 24) := ⟨_, rfl⟩
          have b12 : Below w11.heap.size w11 w12 := by rw [hw12]; exact (Below.refl _ _).alloc (Nat.le_refl _) _
          have Y12 := Lib.hid (by rw [hw12, ← hhF]; exact BoxO.new _ _ _ : BoxO w12 hF (i64 e0) (.slice pF mF cF))
          have Xa12 := Lib.hid (Xa11.out.kept b12 Xa11.out.lt (Nat.le_refl _))
          have cv1 := conv_lie (LF.out.kept b12 (Nat.le_refl _))
          have cv2 := conv_lie (HL.out.kept (by rw [hh0]; exact Xa12.out.b) (Nat.le_refl _))
          rw [hhF, ← hw12]
          obtain ⟨C, hC⟩ : ∃ C, C = strOfNums xs0 := ⟨_, rfl⟩
          rw [← hC] at cv1 cv2
          clear hC hw12 hhF b12
          have ca0 := Xa12.out.c0
          have ca1 := Xa12.out.c1
          have cb0 := Y12.out.c0
          have cb1 := Y12.out.c1
          go_wp2_with (first | (go_at_call 10; refine (num_says13 _ _).mono ?_; rintro e t'' ⟨rfl, rfl⟩))
          exact HO.out _ (by rw [hh0]; exact Xa12.out.b)
        · have hq1 : (q != 0) = true := by simpa using hq0
          clear hq0
          go_wp2_with fail
          exact HO.out _ (by rw [hh0]; exact Xa9.out.b)
theorem lifted (os : Os) (started : os.Started) (H : Type) (enc : TypeId × Value → H) :
    ReturnsInHanded {} Try.checked os 3 .any (Rows.imagePacksSpec.pre6 enc Try.prog Try.f3 Rows.imagePacksRow.domain false) (Rows.imagePacksSpec.post enc Try.prog Try.f3 false true false false) := by
  refine returnsInHanded_of_change (C := Try.checked) own started (by kernel_rfl) Try.func3
    (ChangeSpec.witness6 (enc := enc) (C := Try.checked) false ⟨#[], #[.agg #[.int .i64 0, .slice none 0 0], .agg #[.int .i64 0, .slice none 0 0]], []⟩ 8 (by kernel_rfl) (by kernel_rfl) (by kernel_rfl) (by kernel_rfl)) ?_
  intro W base args ds gs before hval0 hW hcnd _
  have hval : ∀ (j : Nat) t v, Try.f3.params[j]? = some t → args[j]? = some v → Value.okWide Try.prog W .any base t v := hval0
  have hW' := hW
  obtain ⟨p, q, hA0, hV, rfl, hfz, hnd⟩ := hW
  have hA : DataW.TrodAll enc Try.prog W 0 (fun _ => true) true Try.f3.params.toList args.toList ds p := hA0
  rw [Try.params3] at hA hval
  obtain ⟨v0, vs0, d0, ds0, p0, q0, hargs, rfl, rfl, h0, r0⟩ := trodAll_cons hA
  obtain ⟨v1, vs1, d1, ds1, p1, q1, rfl, rfl, rfl, h1, r1⟩ := trodAll_cons r0
  obtain ⟨rfl, rfl, rfl⟩ := trodAll_nil r1
  obtain rfl : args = #[v0, v1] := by cases args; simp_all
  obtain ⟨rfl, rfl⟩ := trodVars_none hV
  have hlt0 : ∀ x ∈ p0, x.block < W.heap.size := fun x hx => hW'.lt x (by simp [hx])
  have hlt1 : ∀ x ∈ p1, x.block < W.heap.size := fun x hx => hW'.lt x (by simp [hx])
  obtain ⟨e0, p0, n0, c0, xs0, rfl, he0, L0, H0, m0, mc0⟩ := open_img (hval 0 24 v0 rfl rfl) h0
  obtain ⟨e1, p1, n1, c1, xs1, rfl, he1, L1, H1, m1, mc1⟩ := open_img (hval 1 24 v1 rfl rfl) h1
  clear hA0 hval0
  simp only [List.append_nil] at hW'
  refine (walk W e0 he0 L0 H0 m0 mc0 e1 he1 L1 H1 m1 mc1).mono fun e W' ⟨he, hg⟩ => ?_
  subst he
  exact ⟨_, rfl, _, _, _, [], _, [], hW', (trodAll_cons_mk (shut_bool Try.underlying4 _) trodAll_mk0), (trodAll_cons_mk (Below.trod laidOut (by kernel_rfl) (of_decide_eq_true (by kernel_rfl)) h0 hg hlt0) (trodAll_cons_mk (Below.trod laidOut (by kernel_rfl) (of_decide_eq_true (by kernel_rfl)) h1 hg hlt1) trodAll_mk0)), rfl, hg.frame _, fun h => by cases h⟩
theorem over : Rows.imagePacksRow.holds Try.pinned (OpenSpec.ofChange Rows.imagePacksSpec) :=
  OpenClaim.holds_of_wide 3 Try.f3 rfl rfl rfl rfl rfl rfl rfl ⟨rfl, rfl, rfl, rfl, rfl⟩ rfl rfl rfl rfl rfl (by kernel_rfl) Try.func3 (by kernel_rfl)
    (of_decide_eq_true (by kernel_rfl)) (by unfold Func.isWrapper; first | (rw [if_pos (by decide +kernel)]; kernel_rfl) | (rw [if_neg (by decide +kernel)]; exact ⟨rfl, rfl⟩))
    (fun os started H enc _ => lifted os started H enc)
/-- THE STATEMENT. -/
theorem proved : Rows.ImagePacksSaid :=
  over
end Go.Proofs.Ythiaibpalnlbiaa.imagePacks
