/-
  what all bytes are as an image, or that they are none: law ImageReads returns true.
  No condition: whatever the arguments are.
-/
import Derived.Test.YthiaibpalnlbiaaImgOpen
namespace Go.Proofs.Ythiaibpalnlbiaa.imageReads
open Go.Proofs.Ythiaibpalnlbiaa Go.Proofs.Ythiaibpalnlbiaa.Ser Go.Proofs.Ythiaibpalnlbiaa.Img
open Go.ChangeShapes Go.WideShapes Go.ChangeAt Go.RowKit
set_option maxRecDepth 100000
set_option linter.unusedVariables false

set_option maxHeartbeats 8000000 in
theorem walk (W : World) {p0 : Option Addr} {n0 c0 : Nat} {xs0 : List Int} (L0 : Lie .u8 W W.heap.size p0 n0 c0 xs0) (H0 : Byt xs0) (m0 : n0 ≤ 9223372036854775807) (mc0 : c0 ≤ 9223372036854775807) :
    Calls Try.prog 4 #[.slice p0 n0 c0] W fun e w' => e = .returned (.bool true) ∧ Below W.heap.size W w' := by
  obtain ⟨r, hr⟩ : ∃ r : Ending → World → Prop, r = fun e w' => e = .returned (.bool true) ∧ Below W.heap.size W w' := ⟨_, rfl⟩
  rw [← hr]
  have HO := Lib.hid (fun u (b : Below W.heap.size W u) => (by rw [hr]; exact ⟨rfl, b⟩ : r (.returned (.bool true)) u))
  clear hr
  have nn : (0 : Int) ≤ (n0 : Int) := Int.natCast_nonneg n0
  by_cases hl : n0 ≤ 20000
  · have hl' : ¬ (20000 : Int) < (n0 : Int) := by omega
    have HL := Lib.hid L0
    have HX := Lib.hid H0
    have HN := Lib.hid L0.len
    have HNil := Lib.hid L0.nil
    clear L0 H0
    go_enter Try.func4, Try.ntmps4
    go_upto_region 4 with (go_at_call 6; refine (alive13 _).mono ?_; rintro e w1 ⟨rfl, hb⟩; have B1 := Lib.hid hb; clear hb)
    have HS := Lib.hid ((HL.out.kept B1.out (Nat.le_refl _)).src)
    have s1 := B1.out.size
    go_upto_region 5 with (first
      | (at_builtin; refine wpList_appK kdB rfl _ _ rfl (Nat.le_refl _) (R1 := []) rfl (ownK_nil _ _ _ _) xs0 rfl HN.out HNil.out HS.out (by have h3 : ([] : List Int).length = 0 := rfl; omega) ?_; intro v2 w2 o2 b2 _; rw [List.nil_append] at o2; obtain ⟨p2, q2, c2, rfl, hm2⟩ := own_told o2; have hm2' : q2 ≤ 20000 := (by have := HN.out; omega); have B2 := Lib.hid (B1.out.trans (b2.mono s1)); have R2 := Lib.hid o2; clear o2 b2 hm2)
      | (go_at_call 12; refine (unpack_says (lie_of R2.out) HX.out (by omega) (by obtain ⟨_, _, e, hc, _⟩ := ownK_lie R2.out; injection e with _ _ e3; rw [e3]; unfold maxLen at hc; omega)).mono ?_; rintro e w3 ⟨p3, q3, c3, rfl, hm3, o3, b3⟩; have B3 := Lib.hid (B2.out.trans (b3.mono B2.out.size)); have R3 := Lib.hid o3; clear o3 b3 hm3))
    obtain ⟨E, hE⟩ : ∃ E, E = unpE xs0 := ⟨_, rfl⟩
    obtain ⟨ys, hys⟩ : ∃ ys, ys = unpB xs0 := ⟨_, rfl⟩
    obtain ⟨x, hx⟩ : ∃ x, x = unpX xs0 := ⟨_, rfl⟩
    rw [← hE, ← hx]
    rw [← hys] at R3
    obtain ⟨h4, hh4⟩ : ∃ h4, w3.heap.size = h4 := ⟨_, rfl⟩
    obtain ⟨w4, hw4⟩ : ∃ w4, w4 = w3.alloc (.cells #[i64 E, .slice p3 q3 c3] 24) := ⟨_, rfl⟩
    have Y4 := Lib.hid (by rw [hw4, ← hh4]; exact BoxO.new _ _ _ : BoxO w4 h4 (i64 E) (.slice p3 q3 c3))
    have B4 := Lib.hid (B3.out.trans (by rw [hw4]; exact (Below.refl _ _).alloc B3.out.size _ : Below W.heap.size w3 w4))
    have R4 := Lib.hid (by rw [hw4]; exact ownK_below R3.out ((Below.refl _ _).alloc (Nat.le_refl _) _) : OwnK 5 .u8 w4 w2.heap.size (.slice p3 q3 c3) ys)
    have L4 := Lib.hid (lie_of R4.out)
    rw [hh4, ← hw4]
    clear hw4 hh4 R3
    have HR := Lib.hid (rread_says (HL.out.kept B4.out (Nat.le_refl _) |>.wide B4.out.size) HX.out (by omega) mc0)
    rw [← hE, ← hys, ← hx] at HR
    clear hE hys hx
    go_upto_region 6 with (go_at_call 13; refine HR.out.mono ?_; rintro e w5 ⟨p5, q5, c5, rfl, hm5, o5, b5⟩; have B5 := Lib.hid (B4.out.trans (b5.mono B4.out.size)); have Y5 := Lib.hid (Y4.out.kept b5 Y4.out.lt); have L5 := Lib.hid (L4.out.kept b5 (Nat.le_refl _) |>.wide b5.size); have M5 := Lib.hid (lie_of o5); clear o5 b5 hm5)
    obtain ⟨h6, hh6⟩ : ∃ h6, w5.heap.size = h6 := ⟨_, rfl⟩
    obtain ⟨w6, hw6⟩ : ∃ w6, w6 = w5.alloc (.cells #[i64 E, .slice p5 q5 c5] 24) := ⟨_, rfl⟩
    have b6 : Below w5.heap.size w5 w6 := by rw [hw6]; exact (Below.refl _ _).alloc (Nat.le_refl _) _
    have Y6 := Lib.hid (Y5.out.kept b6 Y5.out.lt)
    have Z6 := Lib.hid (by rw [hw6, ← hh6]; exact BoxO.new _ _ _ : BoxO w6 h6 (i64 E) (.slice p5 q5 c5))
    have B6 := Lib.hid (B5.out.trans (b6.mono B5.out.size))
    have cv1 := conv_lie (L5.out.kept b6 (Nat.le_refl _))
    have cv2 := conv_lie (M5.out.kept b6 (Nat.le_refl _))
    rw [hh6, ← hw6]
    obtain ⟨A, hA⟩ : ∃ A, A = strOfNums ys := ⟨_, rfl⟩
    rw [← hA] at cv1 cv2
    clear hA hw6 hh6 b6
    have c0 := Y6.out.c0
    have c1 := Y6.out.c1
    have d0 := Z6.out.c0
    have d1 := Z6.out.c1
    go_wp2_with (go_at_call 10; refine (num_says13 _ _).mono ?_; rintro e t' ⟨rfl, rfl⟩)
    exact HO.out _ B6.out
  · have hl' : (20000 : Int) < (n0 : Int) := by omega
    clear L0 H0
    go_enter Try.func4, Try.ntmps4
    go_wp2_with (go_at_call 6; refine (alive13 _).mono ?_; rintro e w1 ⟨rfl, hb⟩; have B1 := Lib.hid hb; clear hb)
    exact HO.out _ B1.out
theorem lifted (os : Os) (started : os.Started) (H : Type) (enc : TypeId × Value → H) :
    ReturnsInHanded {} Try.checked os 4 .any (Rows.imageReadsSpec.pre6 enc Try.prog Try.f4 Rows.imageReadsRow.domain false) (Rows.imageReadsSpec.post enc Try.prog Try.f4 false true false false) := by
  refine returnsInHanded_of_change (C := Try.checked) own started (by kernel_rfl) Try.func4
    (ChangeSpec.witness6 (enc := enc) (C := Try.checked) false ⟨#[], #[.slice none 0 0], []⟩ 8 (by kernel_rfl) (by kernel_rfl) (by kernel_rfl) (by kernel_rfl)) ?_
  intro W base args ds gs before hval0 hW hcnd _
  have hval : ∀ (j : Nat) t v, Try.f4.params[j]? = some t → args[j]? = some v → Value.okWide Try.prog W .any base t v := hval0
  have hW' := hW
  obtain ⟨p, q, hA0, hV, rfl, hfz, hnd⟩ := hW
  have hA : DataW.TrodAll enc Try.prog W 0 (fun _ => true) true Try.f4.params.toList args.toList ds p := hA0
  rw [Try.params4] at hA hval
  obtain ⟨v0, vs0, d0, ds0, p0, q0, hargs, rfl, rfl, h0, r0⟩ := trodAll_cons hA
  obtain ⟨rfl, rfl, rfl⟩ := trodAll_nil r0
  obtain rfl : args = #[v0] := by cases args; simp_all
  obtain ⟨rfl, rfl⟩ := trodVars_none hV
  have hlt0 : ∀ x ∈ p0, x.block < W.heap.size := fun x hx => hW'.lt x (by simp [hx])
  obtain ⟨p0, n0, c0, xs0, rfl, L0, H0, m0, mc0⟩ := open_bytesI (hval 0 22 v0 rfl rfl) h0
  clear hA0 hval0
  simp only [List.append_nil] at hW'
  refine (walk W L0 H0 m0 mc0).mono fun e W' ⟨he, hg⟩ => ?_
  subst he
  exact ⟨_, rfl, _, _, _, [], _, [], hW', (trodAll_cons_mk (shut_bool Try.underlying4 _) trodAll_mk0), (trodAll_cons_mk (Below.trod laidOut (by kernel_rfl) (of_decide_eq_true (by kernel_rfl)) h0 hg hlt0) trodAll_mk0), rfl, hg.frame _, fun h => by cases h⟩
theorem over : Rows.imageReadsRow.holds Try.pinned (OpenSpec.ofChange Rows.imageReadsSpec) :=
  OpenClaim.holds_of_wide 4 Try.f4 rfl rfl rfl rfl rfl rfl rfl ⟨rfl, rfl, rfl, rfl, rfl⟩ rfl rfl rfl rfl rfl (by kernel_rfl) Try.func4 (by kernel_rfl)
    (of_decide_eq_true (by kernel_rfl)) (by unfold Func.isWrapper; first | (rw [if_pos (by decide +kernel)]; kernel_rfl) | (rw [if_neg (by decide +kernel)]; exact ⟨rfl, rfl⟩))
    (fun os started H enc _ => lifted os started H enc)
/-- THE STATEMENT. -/
theorem proved : Rows.ImageReadsSaid :=
  over
end Go.Proofs.Ythiaibpalnlbiaa.imageReads
