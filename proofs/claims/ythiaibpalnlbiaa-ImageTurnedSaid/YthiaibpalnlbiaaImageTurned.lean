/-
  no byte of a packed image may be another one: law ImageTurned returns true.
  No condition: whatever the arguments are.
-/
import Derived.Test.YthiaibpalnlbiaaImgOpen
namespace Go.Proofs.Ythiaibpalnlbiaa.imageTurned
open Go.Proofs.Ythiaibpalnlbiaa Go.Proofs.Ythiaibpalnlbiaa.Ser Go.Proofs.Ythiaibpalnlbiaa.Img
open Go.ChangeShapes Go.WideShapes Go.ChangeAt Go.RowKit
set_option maxRecDepth 100000
set_option linter.unusedVariables false
theorem xor8 (a b : Int) (ha : 0 ≤ a ∧ a < 256) (hb : 0 < b ∧ b < 256) : (0 ≤ bits .xor .u8 a b ∧ bits .xor .u8 a b < 256) ∧ bits .xor .u8 a b ≠ a := by
  obtain ⟨A, rfl⟩ := Int.eq_ofNat_of_zero_le ha.1
  obtain ⟨B, rfl⟩ := Int.eq_ofNat_of_zero_le (by omega : 0 ≤ b)
  have hA : A < 256 := by omega
  have hB : B < 256 := by omega
  have hx : A ^^^ B < 256 := Nat.xor_lt_two_pow (n := 8) hA hB
  have e : bits .xor .u8 (A : Int) (B : Int) = ((A ^^^ B : Nat) : Int) := by
    show IntKind.u8.wrap ((BitVec.ofInt 8 (A : Int) ^^^ BitVec.ofInt 8 (B : Int)).toNat : Int) = _
    rw [BitVec.toNat_xor, ofInt_toNat, ofInt_toNat]
    have h1 : ((A : Int) % ((2 ^ 8 : Nat) : Int)).toNat = A := by show ((A : Int) % 256).toNat = A; omega
    have h2 : ((B : Int) % ((2 ^ 8 : Nat) : Int)).toNat = B := by show ((B : Int) % 256).toNat = B; omega
    rw [h1, h2]
    have : ∀ n : Int, 0 ≤ n → n < 256 → IntKind.u8.wrap n = n := fun n h0 h1 => by simp [IntKind.wrap, IntKind.bits, IntKind.signed]; omega
    exact this _ (by omega) (by omega)
  rw [e]
  refine ⟨⟨by omega, by omega⟩, fun h => ?_⟩
  have h' : A ^^^ B = A := by omega
  have h2 : A ^^^ (A ^^^ B) = 0 := by rw [h', Nat.xor_self]
  rw [← Nat.xor_assoc, Nat.xor_self, Nat.zero_xor] at h2
  omega
set_option maxHeartbeats 8000000 in
theorem walk (W : World) (e0 : Int) (he0 : -9223372036854775808 ≤ e0 ∧ e0 ≤ 9223372036854775807) {p0 : Option Addr} {n0 c0 : Nat} {xs0 : List Int} (L0 : Lie .u8 W W.heap.size p0 n0 c0 xs0) (H0 : Byt xs0) (m0 : n0 ≤ 9223372036854775807) (mc0 : c0 ≤ 9223372036854775807) (x1 : Int) (w1 : (Lit.int .i64 x1).wf = true) (x2 : Int) (w2 : (Lit.int .u8 x2).wf = true) :
    Calls Try.prog 5 #[imgV e0 p0 n0 c0, i64 x1, .int .u8 x2] W fun e w' => e = .returned (.bool true) ∧ Below W.heap.size W w' := by
  obtain ⟨r, hr⟩ : ∃ r : Ending → World → Prop, r = fun e w' => e = .returned (.bool true) ∧ Below W.heap.size W w' := ⟨_, rfl⟩
  rw [← hr]
  have HO := Lib.hid (fun u (b : Below W.heap.size W u) => (by rw [hr]; exact ⟨rfl, b⟩ : r (.returned (.bool true)) u))
  clear hr
  have nn : (0 : Int) ≤ (n0 : Int) := Int.natCast_nonneg n0
  have x2b : 0 ≤ x2 ∧ x2 ≤ 255 := by
    have := w2
    simp [Lit.wf, show IntKind.u8.min = 0 by decide, show IntKind.u8.max = 255 by decide] at this
    omega
  obtain ⟨h0, hh0⟩ : ∃ h0, W.heap.size = h0 := ⟨_, rfl⟩
  obtain ⟨v1, hv1⟩ : ∃ v1, v1 = W.alloc (.cells #[i64 e0, .slice p0 n0 c0] 24) := ⟨_, rfl⟩
  have X1 := Lib.hid (by rw [hv1, ← hh0]; exact BoxI.new : BoxI W v1 h0 e0 p0 n0 c0)
  have HL := Lib.hid L0
  have HX := Lib.hid H0
  have HN := Lib.hid L0.len
  have HA := Lib.hid (alive13 v1)
  have HR := Lib.hid (fun u => rcheck_says e0 p0 n0 c0 m0 u)
  have ways : 5000 < n0 ∨ (¬ 5000 < n0 ∧ ¬ chk e0 n0 = 0) ∨ (¬ 5000 < n0 ∧ chk e0 n0 = 0 ∧ x1 < 0) ∨ (¬ 5000 < n0 ∧ chk e0 n0 = 0 ∧ ¬ x1 < 0 ∧ x2 = 0) ∨ (¬ 5000 < n0 ∧ chk e0 n0 = 0 ∧ ¬ x1 < 0 ∧ 0 < x2) := by omega
  clear L0 H0
  rcases ways with a0 | ⟨a0, a1⟩ | ⟨a0, a1, a2⟩ | ⟨a0, a1, a2, a3⟩ | ⟨a0, a1, a2, a3⟩
  · have a0' : (5000 : Int) < (n0 : Int) := by omega
    go_enter Try.func5, Try.ntmps5
    go_upto_region 1 with fail
    rw [← hv1]
    clear hv1
    go_upto_region 2 with (go_at_call 6; refine HA.out.mono ?_; rintro e w1 ⟨rfl, hb⟩; have X2 := Lib.hid (X1.out.kept hb X1.out.lt (Nat.le_refl _)); clear hb)
    have c0' := X2.out.c0
    have c1' := X2.out.c1
    go_wp2_with fail
    exact HO.out _ (by rw [hh0]; exact X2.out.b)
  · have a0' : ¬ (5000 : Int) < (n0 : Int) := by omega
    obtain ⟨q, hq⟩ : ∃ q, q = chk e0 n0 := ⟨_, rfl⟩
    rw [← hq] at a1 HR
    clear hq
    have a1' : (q != 0) = true := by simpa using a1
    go_enter Try.func5, Try.ntmps5
    go_upto_region 1 with fail
    rw [← hv1]
    clear hv1
    go_upto_region 2 with (go_at_call 6; refine HA.out.mono ?_; rintro e w1 ⟨rfl, hb⟩; have X2 := Lib.hid (X1.out.kept hb X1.out.lt (Nat.le_refl _)); clear hb)
    have c0' := X2.out.c0
    have c1' := X2.out.c1
    go_wp2_with (go_at_call 11; refine (HR.out _).mono ?_; rintro e t2 ⟨rfl, hb⟩; have X3 := Lib.hid (X2.out.kept hb X2.out.lt (Nat.le_refl _)); have d0' := X3.out.c0; have d1' := X3.out.c1; clear hb)
    exact HO.out _ (by rw [hh0]; exact X3.out.b)
  · have a0' : ¬ (5000 : Int) < (n0 : Int) := by omega
    rw [a1] at HR
    go_enter Try.func5, Try.ntmps5
    go_upto_region 1 with fail
    rw [← hv1]
    clear hv1
    go_upto_region 2 with (go_at_call 6; refine HA.out.mono ?_; rintro e w1 ⟨rfl, hb⟩; have X2 := Lib.hid (X1.out.kept hb X1.out.lt (Nat.le_refl _)); clear hb)
    have c0' := X2.out.c0
    have c1' := X2.out.c1
    go_wp2_with (go_at_call 11; refine (HR.out _).mono ?_; rintro e t2 ⟨rfl, hb⟩; have X3 := Lib.hid (X2.out.kept hb X2.out.lt (Nat.le_refl _)); have d0' := X3.out.c0; have d1' := X3.out.c1; clear hb)
    exact HO.out _ (by rw [hh0]; exact X3.out.b)
  · have a0' : ¬ (5000 : Int) < (n0 : Int) := by omega
    rw [a1] at HR
    have a3' : (x2 == 0) = true := by simp [a3]
    clear a3
    go_enter Try.func5, Try.ntmps5
    go_upto_region 1 with fail
    rw [← hv1]
    clear hv1
    go_upto_region 2 with (go_at_call 6; refine HA.out.mono ?_; rintro e w1 ⟨rfl, hb⟩; have X2 := Lib.hid (X1.out.kept hb X1.out.lt (Nat.le_refl _)); clear hb)
    have c0' := X2.out.c0
    have c1' := X2.out.c1
    go_wp2_with (go_at_call 11; refine (HR.out _).mono ?_; rintro e t2 ⟨rfl, hb⟩; have X3 := Lib.hid (X2.out.kept hb X2.out.lt (Nat.le_refl _)); have d0' := X3.out.c0; have d1' := X3.out.c1; clear hb)
    exact HO.out _ (by rw [hh0]; exact X3.out.b)
  · have a0' : ¬ (5000 : Int) < (n0 : Int) := by omega
    have a3' : (x2 == 0) = false := by simp; omega
    rw [a1] at HR
    have HP := Lib.hid (fun u (b : Below h0 W u) => pack_says e0 he0 ((HL.out.kept (by rw [hh0]; exact b) (Nat.le_refl _)).wide (by rw [hh0]; have := b.size; rw [hh0] at this; exact this)) HX.out (by omega))
    rw [show packO e0 xs0 = packL e0 xs0 by unfold packO; rw [HN.out, if_pos a1], a1] at HP
    go_enter Try.func5, Try.ntmps5
    go_upto_region 1 with fail
    rw [← hv1]
    clear hv1
    go_upto_region 2 with (go_at_call 6; refine HA.out.mono ?_; rintro e w1 ⟨rfl, hb⟩; have X2 := Lib.hid (X1.out.kept hb X1.out.lt (Nat.le_refl _)); clear hb)
    have c0' := X2.out.c0
    have c1' := X2.out.c1
    go_upto_region 5 with (first
      | (go_at_call 11; refine (HR.out _).mono ?_; rintro e t2 ⟨rfl, hb⟩; have X3 := Lib.hid (X2.out.kept hb X2.out.lt (Nat.le_refl _)); have d0' := X3.out.c0; have d1' := X3.out.c1; clear hb)
      | (go_at_call 8; refine (HP.out _ X3.out.b).mono ?_; rintro e w4 ⟨p4, m4, c4, rfl, hm4, o4, b4⟩; have B4 := Lib.hid (X3.out.b.trans (b4.mono (by have := X3.out.lt; omega))); have R4 := Lib.hid o4; rw [pack_len, HN.out] at hm4; have M4 := Lib.hid hm4; have s4 : h0 < t2.heap.size := X3.out.lt; clear o4 b4 hm4))
    have hq := M4.out
    obtain ⟨K, hK⟩ : ∃ K, (packL e0 xs0).length = K := ⟨_, rfl⟩
    have hK2 : K = 16 + n0 := by rw [← hK, pack_len, HN.out]
    have hmK : m4 = K := by omega
    subst hmK
    have n1 : ((m4 : Int) == 0) = false := by simp; omega
    have n2 : (0 : Int) < (m4 : Int) := by omega
    have n3 : (0 : Int) ≤ (m4 : Int) := by omega
    obtain ⟨j, hj⟩ : ∃ j : Nat, x1 % (m4 : Int) = (j : Int) := ⟨(x1 % (m4 : Int)).toNat, by have := Int.emod_nonneg x1 (show (m4 : Int) ≠ 0 by omega); omega⟩
    have hj2 : j < m4 := by have := Int.emod_lt_of_pos x1 n2; omega
    have hjI : (j : Int) < (m4 : Int) := by omega
    have hj0 : (0 : Int) ≤ (j : Int) := Int.natCast_nonneg j
    have x1n : 0 ≤ x1 := by omega
    obtain ⟨g, cc, ec, hc1, hc2, hg1, hg2, hcell, hfr, hset⟩ := ownK_cell (j := j) R4.out (by omega)
    injection ec with e1 e2 e3
    subst e1 e3
    obtain ⟨y, hy⟩ : ∃ y, y = (packL e0 xs0).getD j 0 := ⟨_, rfl⟩
    rw [← hy] at hcell
    have hyb := byt_getD (pack_byt e0 HX.out) j
    rw [← hy] at hyb
    obtain ⟨⟨z0, z1⟩, z2⟩ := xor8 y x2 hyb (by omega)
    obtain ⟨z, hz⟩ : ∃ z, bits .xor .u8 y x2 = z := ⟨_, rfl⟩
    rw [hz] at z0 z1 z2
    obtain ⟨w5, hw5⟩ : ∃ w5, w5 = w4.setCell ⟨g, j, none⟩ (.int .u8 z) := ⟨_, rfl⟩
    have R5 := Lib.hid (by have := hset z; rw [← hw5] at this; exact this : OwnK 5 .u8 w5 t2.heap.size (.slice (some ⟨g, 0, none⟩) m4 c4) ((packL e0 xs0).set j z))
    have B5 := Lib.hid (by rw [hw5]; exact below_set B4.out _ _ (by omega) _ : Below h0 W w5)
    have HU := Lib.hid (unpack_says (lie_of R5.out) (byt_set (pack_byt e0 HX.out) j z ⟨z0, z1⟩) (by omega) (by unfold maxLen at hc1; omega))
    rw [(unp_no (good_turn HX.out (by rw [HN.out]; omega) j (by omega) z ⟨z0, z1⟩ (by rw [← hy]; exact z2))).2.2] at HU
    clear d0' d1' c0' c1' hq hset R5 hy hyb z0 z1 z2 hK hK2 M4 R4 e2
    go_upto_region 9 with (first | (go_at_call 10; refine (num_says13 _ _).mono ?_; rintro e t' ⟨rfl, rfl⟩))
    rw [← hw5]
    clear hw5 hcell hfr
    go_upto_region 10 with (go_at_call 12; refine HU.out.mono ?_; rintro e w6 ⟨p6, m6, c6, rfl, hm6, o6, b6⟩; have B6 := Lib.hid (B5.out.trans (b6.mono (by have := B5.out.size; rw [hh0] at this; exact this))); clear o6 b6 hm6)
    go_wp2_with (first | (go_at_call 10; refine (num_says13 _ _).mono ?_; rintro e t' ⟨rfl, rfl⟩))
    exact HO.out _ (by rw [hh0]; exact B6.out.alloc (by have := B6.out.size; rw [hh0] at this; exact this) _)
theorem lifted (os : Os) (started : os.Started) (H : Type) (enc : TypeId × Value → H) :
    ReturnsInHanded {} Try.checked os 5 .any (Rows.imageTurnedSpec.pre6 enc Try.prog Try.f5 Rows.imageTurnedRow.domain false) (Rows.imageTurnedSpec.post enc Try.prog Try.f5 false true false false) := by
  refine returnsInHanded_of_change (C := Try.checked) own started (by kernel_rfl) Try.func5
    (ChangeSpec.witness6 (enc := enc) (C := Try.checked) false ⟨#[], #[.agg #[.int .i64 0, .slice none 0 0], .int .i64 0, .int .u8 0], []⟩ 8 (by kernel_rfl) (by kernel_rfl) (by kernel_rfl) (by kernel_rfl)) ?_
  intro W base args ds gs before hval0 hW hcnd _
  have hval : ∀ (j : Nat) t v, Try.f5.params[j]? = some t → args[j]? = some v → Value.okWide Try.prog W .any base t v := hval0
  have hW' := hW
  obtain ⟨p, q, hA0, hV, rfl, hfz, hnd⟩ := hW
  have hA : DataW.TrodAll enc Try.prog W 0 (fun _ => true) true Try.f5.params.toList args.toList ds p := hA0
  rw [Try.params5] at hA hval
  obtain ⟨v0, vs0, d0, ds0, p0, q0, hargs, rfl, rfl, h0, r0⟩ := trodAll_cons hA
  obtain ⟨v1, vs1, d1, ds1, p1, q1, rfl, rfl, rfl, h1, r1⟩ := trodAll_cons r0
  obtain ⟨v2, vs2, d2, ds2, p2, q2, rfl, rfl, rfl, h2, r2⟩ := trodAll_cons r1
  obtain ⟨rfl, rfl, rfl⟩ := trodAll_nil r2
  obtain rfl : args = #[v0, v1, v2] := by cases args; simp_all
  obtain ⟨rfl, rfl⟩ := trodVars_none hV
  have hlt0 : ∀ x ∈ p0, x.block < W.heap.size := fun x hx => hW'.lt x (by simp [hx])
  obtain ⟨e0, p0, n0, c0, xs0, rfl, he0, L0, H0, m0, mc0⟩ := open_img (hval 0 24 v0 rfl rfl) h0
  obtain ⟨x1, rfl, rfl, rfl, w1⟩ := open_int Try.underlying3 (hval 1 3 v1 rfl rfl) h1
  obtain ⟨x2, rfl, rfl, rfl, w2⟩ := open_int Try.underlying5 (hval 2 5 v2 rfl rfl) h2
  clear hA0 hval0
  simp only [List.append_nil] at hW'
  refine (walk W e0 he0 L0 H0 m0 mc0 x1 w1 x2 w2).mono fun e W' ⟨he, hg⟩ => ?_
  subst he
  exact ⟨_, rfl, _, _, _, [], _, [], hW', (trodAll_cons_mk (shut_bool Try.underlying4 _) trodAll_mk0), (trodAll_cons_mk (Below.trod laidOut (by kernel_rfl) (of_decide_eq_true (by kernel_rfl)) h0 hg hlt0) (trodAll_cons_mk (shut_int Try.underlying3 w1) (trodAll_cons_mk (shut_int Try.underlying5 w2) trodAll_mk0))), rfl, hg.frame _, fun h => by cases h⟩
theorem over : Rows.imageTurnedRow.holds Try.pinned (OpenSpec.ofChange Rows.imageTurnedSpec) :=
  OpenClaim.holds_of_wide 5 Try.f5 rfl rfl rfl rfl rfl rfl rfl ⟨rfl, rfl, rfl, rfl, rfl⟩ rfl rfl rfl rfl rfl (by kernel_rfl) Try.func5 (by kernel_rfl)
    (of_decide_eq_true (by kernel_rfl)) (by unfold Func.isWrapper; first | (rw [if_pos (by decide +kernel)]; kernel_rfl) | (rw [if_neg (by decide +kernel)]; exact ⟨rfl, rfl⟩))
    (fun os started H enc _ => lifted os started H enc)
/-- THE STATEMENT. -/
theorem proved : Rows.ImageTurnedSaid :=
  over
end Go.Proofs.Ythiaibpalnlbiaa.imageTurned
