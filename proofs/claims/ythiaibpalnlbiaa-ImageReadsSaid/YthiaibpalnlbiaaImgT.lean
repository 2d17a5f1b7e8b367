/-
  The document's own images: the contract of ReadImage.
-/
import Derived.Test.YthiaibpalnlbiaaImgS
set_option maxRecDepth 100000
namespace Go.Proofs.Ythiaibpalnlbiaa.Img
open Go.Proofs.Ythiaibpalnlbiaa Go.Proofs.Ythiaibpalnlbiaa.Ser
open Go.ChangeShapes Go.WideShapes Go.ChangeAt Go.RowKit
set_option linter.unusedVariables false
set_option maxHeartbeats 4000000 in
theorem rread_says {w : World} {p : Option Addr} {m c : Nat} {b : List Int} (L : Lie .u8 w w.heap.size p m c b) (hx : Byt b) (hm : m ≤ 700000) (hcc : c ≤ 9223372036854775807) :
    Calls Try.prog 13 #[.slice p m c] w (ToldI w (unpE b) (unpB b) (unpX b)) := by
  obtain ⟨r, hr⟩ : ∃ r, r = ToldI w (unpE b) (unpB b) (unpX b) := ⟨_, rfl⟩
  rw [← hr]
  have K0 := Lib.hid (fun (hg : ¬ good b) u (bl : Below w.heap.size w u) => (by rw [hr]; exact toldI_no hg bl : r (.returned (.tuple #[.agg #[i64 0, .slice none 0 0], i64 4])) u))
  have K1 := Lib.hid (fun (hg : good b) p' m' c' u (o : OwnK 5 .u8 u w.heap.size (.slice p' m' c') (mid b)) (bl : Below w.heap.size w u) => (by rw [hr]; exact toldI_yes hg o bl : r (.returned (.tuple #[.agg #[i64 (num4 b 4), .slice p' m' c'], i64 0])) u))
  obtain ⟨h, hh⟩ : ∃ h, w.heap.size = h := ⟨_, rfl⟩
  obtain ⟨w1, hw1⟩ : ∃ w1, w1 = w.alloc (.cells #[i64 0, .slice none 0 0] 24) := ⟨_, rfl⟩
  have X1 := Lib.hid (by rw [hw1, ← hh]; exact BoxO.new _ _ _ : BoxO w1 h (i64 0) (.slice none 0 0))
  have B1 := Lib.hid (by rw [hw1]; exact (Below.refl _ _).alloc (Nat.le_of_eq hh.symm) _ : Below h w w1)
  rw [hh] at K0 K1
  have f0 := X1.out.fr 0
  have f1 := X1.out.fr 1
  have c0 := X1.out.c0
  have c1 := X1.out.c1
  have m0 : (0 : Int) ≤ (m : Int) := Int.natCast_nonneg m
  by_cases h16 : m < 16
  · replace K0 := Lib.hid (K0.out (fun hg => by have := hg.1; rw [L.len] at this; omega))
    have h16' : (m : Int) < 16 := by omega
    clear hr hx L K1
    go_enter Try.func13, Try.ntmps13
    go_upto_region 1 with fail
    rw [← hw1]
    clear hw1
    go_wp2_with fail
    have X9 := (X1.out.set0 (i64 0)).set1 (.slice none 0 0)
    have d0 := X9.c0
    have d1 := X9.c1
    exact bodyPost_ret (v := .tuple #[.agg #[i64 0, .slice none 0 0], i64 4]) (by simp [results, Try.results13, go_sem, d0, d1]) rfl (K0.out _ (below_set (below_set B1.out _ _ (Nat.le_refl _) _) _ _ (Nat.le_refl _) _))
  · obtain ⟨k, rfl⟩ : ∃ k, m = k + 16 := ⟨m - 16, by omega⟩
    obtain ⟨d, rfl⟩ : ∃ d, c = k + 16 + d := ⟨c - (k + 16), by have := L.cap; omega⟩
    obtain ⟨g, off, rfl, hlt, -⟩ := L.cell (i := 0) (by omega)
    obtain ⟨E, hE⟩ : ∃ E, E = num4 b 4 := ⟨_, rfl⟩
    obtain ⟨ys, hys⟩ : ∃ ys, ys = mid b := ⟨_, rfl⟩
    have L12 := Lie.part L 12 (k + 16 - 4 - 12) (k + 16 + d - 12) (by omega) (by omega)
    have hy12 : (b.drop 12).take (k + 16 - 4 - 12) = ys := by rw [hys]; unfold mid; rw [L.len]; rfl
    rw [hy12] at L12
    have HF := Lib.hid (fun u (bl : Below h w u) => (by have := num_says4 (L.kept bl (Nat.le_of_eq hh)) hx (by omega); rw [← hE] at this; exact this : Calls Try.prog 20 #[.slice (some ⟨g, off, none⟩) (k + 16) (k + 16 + d), i64 4] u fun e w' => e = .returned (i64 E) ∧ ∃ n, w' = u.drewN n))
    have k0 : (0 : Int) ≤ (k : Int) := Int.natCast_nonneg k
    have d0 : (0 : Int) ≤ (d : Int) := Int.natCast_nonneg d
    have HY := Lib.hid (show Byt ys by rw [hys]; exact byt_take (byt_drop hx 12) _)
    have HEb := Lib.hid (show 0 ≤ E ∧ E ≤ 4294967295 by rw [hE]; exact num4_bd hx 4)
    have HG := Lib.hid (show packO E ys = b ↔ good b by rw [hE, hys]; exact good_iff b (by rw [L.len]; omega))
    have HCG := Lib.hid (fun hg : good b => (by have := hg.2.1; rw [← hE, L.len] at this; rw [show k + 16 - 4 - 12 = k + 16 - 16 by omega]; exact this : chk E (k + 16 - 4 - 12) = 0))
    rw [← hE, ← hys] at K1
    have HX := Lib.hid hx
    have HL := Lib.hid L
    have HL12 := Lib.hid L12
    clear hr hx L L12 hy12 hE hys
    go_enter Try.func13, Try.ntmps13
    go_upto_region 1 with fail
    rw [← hw1]
    clear hw1
    have HN := Lib.hid HL12.out.len
    have HS := Lib.hid (fun u (bl : Below h w u) => (HL12.out.kept bl (Nat.le_of_eq hh)).src)
    obtain ⟨q, hq⟩ : ∃ q, k + 16 - 4 - 12 = q := ⟨_, rfl⟩
    obtain ⟨qc, hqc⟩ : ∃ qc, k + 16 + d - 12 = qc := ⟨_, rfl⟩
    rw [hq] at HN HCG
    go_upto_region 3 with fail
    obtain ⟨h1, hh1⟩ : ∃ h1, w1.heap.size = h1 := ⟨_, rfl⟩
    have hlt1 : h < h1 := by rw [← hh1]; exact X1.out.lt
    have B1d := Lib.hid (⟨B1.out.os, B1.out.tape, B1.out.output, B1.out.size, B1.out.block⟩ : Below h w w1.drew)
    have B1z := Lib.hid (B1d.out.alloc (by show h ≤ w1.heap.size; omega) (.cells #[i64 0, .slice none 0 0] 24))
    have X1d := Lib.hid (⟨X1.out.row⟩ : BoxO w1.drew h (i64 0) (.slice none 0 0))
    have X1z := Lib.hid (X1d.out.kept (w' := w1.drew.alloc (.cells #[i64 0, .slice none 0 0] 24)) ((Below.refl _ _).alloc (Nat.le_refl _) _) X1d.out.lt)
    have Z1z := Lib.hid (by have := BoxO.new w1.drew (i64 0) (.slice none 0 0); rw [show w1.drew.heap.size = h1 from hh1] at this; exact this : BoxO (w1.drew.alloc (.cells #[i64 0, .slice none 0 0] 24)) h1 (i64 0) (.slice none 0 0))
    have q1 : (4 : Int) ≤ (k : Int) + 16 := by omega
    have q2 : (k : Int) + 16 - 4 ≤ (k : Int) + 16 + (d : Int) := by omega
    have q3 : (12 : Int) ≤ max ((k : Int) + 16 - 4) 0 := by omega
    have q4 : ¬ (k + 16 + d = 12) := by omega
    have q5 : ((k : Int) + 16 - 4).toNat - 12 = q := by omega
    have w16 : IntKind.i64.wrap ((k : Int) + 16 - 4) = (k : Int) + 16 - 4 := by rw [IntKind.wrap_i64]; omega
    go_region_law (first
      | (rw [if_pos (by simp [Region.wanted])]; go_simp; go_at_call 20; refine (HF.out _ (by first | exact B1d.out | exact B1z.out)).mono ?_; rintro en w2 ⟨rfl, nq, hw2⟩; have B2 := Lib.hid (by rw [hw2]; first | exact ⟨B1d.out.os, B1d.out.tape, B1d.out.output, B1d.out.size, B1d.out.block⟩ | exact ⟨B1z.out.os, B1z.out.tape, B1z.out.output, B1z.out.size, B1z.out.block⟩ : Below h w w2); have X2 := Lib.hid (by rw [hw2]; first | exact ⟨X1d.out.row⟩ | exact ⟨X1z.out.row⟩ : BoxO w2 h (i64 0) (.slice none 0 0)); (first | have Z2 := Lib.hid (by rw [hw2]; exact ⟨Z1z.out.row⟩ : BoxO w2 h1 (i64 0) (.slice none 0 0)) | skip); clear hw2)
      | (refine step_appK kdB rfl _ _ rfl (Nat.le_refl _) (v1 := .slice none 0 0) (R1 := []) rfl (ownK_nil _ _ _ _) ys (p := some ⟨g, off + 12, none⟩) rfl HN.out (fun e => by cases e) (HS.out _ (by first | exact B2.out | exact B2.out.alloc (by have := X2.out.lt; omega) _)) (by have h3 : ([] : List Int).length = 0 := rfl; omega) ?_; intro v3 w3 o3 b3 _; obtain ⟨p3, m3, c3, rfl, hm3⟩ := own_told o3; replace hm3 := Lib.hid hm3; have X3 := Lib.hid (by first | exact X2.out.kept b3 X2.out.lt | exact (X2.out.kept ((Below.refl _ _).alloc (Nat.le_refl _) _) X2.out.lt).kept b3 (by have := X2.out.lt; simp; omega) : BoxO w3 h (i64 0) (.slice none 0 0)); have B3 := Lib.hid (by first | exact B2.out.trans (b3.mono (by have := X2.out.lt; omega)) | exact (B2.out.alloc (by have := X2.out.lt; omega) _).trans (b3.mono (by have := X2.out.lt; simp; omega)) : Below h w w3); have R3 := Lib.hid (ownK_mono (B' := h + 1) o3 (by have := X2.out.lt; first | omega | (simp; omega))); (first | (have Z3 := Lib.hid (Z2.out.kept b3 Z2.out.lt); have N3 := Lib.hid (show (Value.slice p3 m3 c3).ownBlock ≠ some h1 from fun e => by have := (o3.lt h1 e).1; have := Z2.out.lt; omega); have z0 := Z3.out.c0; have z1 := Z3.out.c1; have z2 := Z3.out.fr 0; have z3 := Z3.out.fr 1) | (have Z3 := Lib.hid ((BoxO.new w2 (i64 0) (.slice none 0 0)).kept b3 (by simp)); have N3 := Lib.hid (show (Value.slice p3 m3 c3).ownBlock ≠ some w2.heap.size from fun e => by have := (o3.lt _ e).1; simp at this; omega); have z0 := Z3.out.c0; have z1 := Z3.out.c1; have z2 := Z3.out.fr 0; have z3 := Z3.out.fr 1) | skip); clear o3 b3))
    all_goals
      first
        | (obtain ⟨w5, hw5⟩ : ∃ w5, w5 = (w3.setCell ⟨h1, 0, none⟩ (i64 E)).setCell ⟨h1, 1, none⟩ (.slice p3 m3 c3) := ⟨_, rfl⟩; have Y5 : BoxO w5 (h1) (i64 E) (.slice p3 m3 c3) := (by rw [hw5]; exact (Z3.out.set0 _).set1 _); have X5 : BoxO w5 h (i64 0) (.slice none 0 0) := (by rw [hw5]; exact (X3.out.off (by omega) _ _).off (by omega) _ _); have B5 : Below h w w5 := (by rw [hw5]; exact below_set (below_set B3.out _ _ (by omega) _) _ _ (by omega) _); have R5 : OwnK 5 .u8 w5 (h + 1) (.slice p3 m3 c3) ([] ++ ys) := (by rw [hw5]; exact ownK_off (ownK_off R3.out N3.out _ _) N3.out _ _); have hlt2 : h < h1 := hlt1; rw [← hw5]; clear hw5; obtain ⟨h2, hh2⟩ : ∃ h2, h2 = h1 := ⟨_, rfl⟩; rw [← hh2] at Y5 hlt2 ⊢; clear hh2)
        | (obtain ⟨w5, hw5⟩ : ∃ w5, w5 = (w3.setCell ⟨w2.heap.size, 0, none⟩ (i64 E)).setCell ⟨w2.heap.size, 1, none⟩ (.slice p3 m3 c3) := ⟨_, rfl⟩; have Y5 : BoxO w5 (w2.heap.size) (i64 E) (.slice p3 m3 c3) := (by rw [hw5]; exact (Z3.out.set0 _).set1 _); have X5 : BoxO w5 h (i64 0) (.slice none 0 0) := (by rw [hw5]; exact (X3.out.off (by have := X2.out.lt; omega) _ _).off (by have := X2.out.lt; omega) _ _); have B5 : Below h w w5 := (by rw [hw5]; exact below_set (below_set B3.out _ _ (by have := X2.out.lt; omega) _) _ _ (by have := X2.out.lt; omega) _); have R5 : OwnK 5 .u8 w5 (h + 1) (.slice p3 m3 c3) ([] ++ ys) := (by rw [hw5]; exact ownK_off (ownK_off R3.out N3.out _ _) N3.out _ _); have hlt2 : h < w2.heap.size := X2.out.lt; rw [← hw5]; clear hw5; obtain ⟨h2, hh2⟩ : ∃ h2, h2 = w2.heap.size := ⟨_, rfl⟩; rw [← hh2] at Y5 hlt2 ⊢; clear hh2)
        | (obtain ⟨w5, hw5⟩ : ∃ w5, w5 = w3.alloc (.cells #[i64 E, .slice p3 m3 c3] 24) := ⟨_, rfl⟩; have Y5 : BoxO w5 (w3.heap.size) (i64 E) (.slice p3 m3 c3) := (by rw [hw5]; exact BoxO.new _ _ _); have X5 : BoxO w5 h (i64 0) (.slice none 0 0) := (by rw [hw5]; exact X3.out.kept ((Below.refl _ _).alloc (Nat.le_refl _) _) X3.out.lt); have B5 : Below h w w5 := (by rw [hw5]; exact B3.out.alloc (by have := X3.out.lt; omega) _); have R5 : OwnK 5 .u8 w5 (h + 1) (.slice p3 m3 c3) ([] ++ ys) := (by rw [hw5]; exact ownK_below R3.out ((Below.refl _ _).alloc (Nat.le_refl _) _)); have hlt2 : h < w3.heap.size := X3.out.lt; rw [← hw5]; clear hw5; obtain ⟨h2, hh2⟩ : ∃ h2, h2 = w3.heap.size := ⟨_, rfl⟩; rw [← hh2] at Y5 hlt2 ⊢; clear hh2)
      have R5 := Lib.hid R5
      have L5 := Lib.hid (lie_of R5.out)
      have hm5 := hm3.out
      rw [List.nil_append] at hm5
      have hm6 : m3 = q := by rw [hm5, HN.out]
      have Y5' := Lib.hid Y5
      have X5' := Lib.hid X5
      have B5' := Lib.hid B5
      have s5 := Y5.lt
      have c0 := Y5.c0
      have c1 := Y5.c1
      have HP := Lib.hid (rpack_says E (by have := HEb.out; omega) L5.out (by rw [List.nil_append]; exact HY.out) (by omega))
      rw [List.nil_append] at HP
      rw [← hm6] at HCG
      obtain ⟨x, hx⟩ : ∃ x, x = chk E m3 := ⟨_, rfl⟩
      rw [← hx] at HCG HP
      clear hm5 hm6 Y5 X5 B5 hx
      go_upto_region 5 with (go_at_call 9; go_loud (with_reducible refine HP.out.mono ?_); rintro en w6 ⟨p6, m6, c6, rfl, hm6, o6, b6⟩; go_loud (have Y6 := Lib.hid (Y5'.out.kept b6 s5)); go_loud (have X6 := Lib.hid (X5'.out.kept b6 X5'.out.lt)); have B6 := Lib.hid (B5'.out.trans (b6.mono (by have := X5'.out.lt; omega))); have R6 := Lib.hid (ownK_below R5.out b6); have L6 := Lib.hid (lie_of o6); clear o6 b6 hm6 c0 c1)
      have cv1 := conv_lie L6.out
      have cv2 := conv_lie (HL.out.kept B6.out (Nat.le_of_eq hh))
      have hse := strOf_eq (show Byt (packO E ys) by unfold packO; split; exact pack_byt E HY.out; (intro x hx; cases hx)) HX.out
      obtain ⟨A, hA⟩ : ∃ A, A = strOfNums (packO E ys) := ⟨_, rfl⟩
      obtain ⟨C, hC⟩ : ∃ C, C = strOfNums b := ⟨_, rfl⟩
      rw [← hA] at cv1 hse
      rw [← hC] at cv2 hse
      clear hA hC
      have d0 := X6.out.c0
      have d1 := X6.out.c1
      have f0 := X6.out.fr 0
      have f1 := X6.out.fr 1
      by_cases hg : good b
      · have hx0 : (x != 0) = false := by simp [HCG.out hg]
        rw [decide_eq_true (HG.out.2 hg)] at hse
        have KK := Lib.hid (K1.out hg)
        have c0 := Y6.out.c0
        have c1 := Y6.out.c1
        clear hg
        go_wp2_with fail
        have X9 := (X6.out.set0 (i64 E)).set1 (.slice p3 m3 c3)
        have d0 := X9.c0
        have d1 := X9.c1
        have hne : (Value.slice p3 m3 c3).ownBlock ≠ some h := fun e => by have := (R6.out.lt h e).1; omega
        have R9 : OwnK 5 .u8 ((w6.setCell ⟨h, 0, none⟩ (i64 E)).setCell ⟨h, 1, none⟩ (.slice p3 m3 c3)) h (.slice p3 m3 c3) ys := by
          have := ownK_off (ownK_off R6.out hne 0 (i64 E)) hne 1 (.slice p3 m3 c3)
          rw [List.nil_append] at this
          exact ownK_mono this (by omega)
        exact bodyPost_ret (v := .tuple #[.agg #[i64 E, .slice p3 m3 c3], i64 0]) (by simp [results, Try.results13, go_sem, d0, d1]) rfl (KK.out _ _ _ _ R9 (below_set (below_set B6.out _ _ (Nat.le_refl _) _) _ _ (Nat.le_refl _) _))
      · rw [decide_eq_false (fun h => hg (HG.out.1 h))] at hse
        have KK := Lib.hid (K0.out hg)
        clear hg
        by_cases hx : x = 0
        · have hx0 : (x != 0) = false := by simp [hx]
          clear hx
          go_wp2_with fail
          have X9 := (X6.out.set0 (i64 0)).set1 (.slice none 0 0)
          have d0 := X9.c0
          have d1 := X9.c1
          exact bodyPost_ret (v := .tuple #[.agg #[i64 0, .slice none 0 0], i64 4]) (by simp [results, Try.results13, go_sem, d0, d1]) rfl (KK.out _ (below_set (below_set B6.out _ _ (Nat.le_refl _) _) _ _ (Nat.le_refl _) _))
        · have hx0 : (x != 0) = true := by simpa using hx
          clear hx
          go_wp2_with fail
          have X9 := (X6.out.set0 (i64 0)).set1 (.slice none 0 0)
          have d0 := X9.c0
          have d1 := X9.c1
          exact bodyPost_ret (v := .tuple #[.agg #[i64 0, .slice none 0 0], i64 4]) (by simp [results, Try.results13, go_sem, d0, d1]) rfl (KK.out _ (below_set (below_set B6.out _ _ (Nat.le_refl _) _) _ _ (Nat.le_refl _) _))
end Go.Proofs.Ythiaibpalnlbiaa.Img
