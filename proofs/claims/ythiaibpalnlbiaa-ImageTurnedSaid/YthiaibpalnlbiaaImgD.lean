/-
  Package image: the contract of Unpack.
-/
import Derived.Test.YthiaibpalnlbiaaImgC
set_option maxRecDepth 100000
namespace Go.Proofs.Ythiaibpalnlbiaa.Img
open Go.Proofs.Ythiaibpalnlbiaa Go.Proofs.Ythiaibpalnlbiaa.Ser
open Go.ChangeShapes Go.WideShapes Go.ChangeAt Go.RowKit
set_option linter.unusedVariables false
instance (b : List Int) : Decidable (good b) := by unfold good; infer_instance
def unpE (b : List Int) : Int := if good b then num4 b 4 else 0
def unpB (b : List Int) : List Int := if good b then mid b else []
def unpX (b : List Int) : Int := if good b then 0 else 4
/-- An image and a number are told. -/
def ToldI (w : World) (e : Int) (xs : List Int) (x : Int) (en : Ending) (w' : World) : Prop := ∃ p m c, en = .returned (.tuple #[imgV e p m c, i64 x]) ∧ m = xs.length ∧ OwnK 5 .u8 w' w.heap.size (.slice p m c) xs ∧ Below w.heap.size w w'
theorem good_iff (b : List Int) (h : 16 ≤ b.length) : packO (num4 b 4) (mid b) = b ↔ good b := by
  unfold packO good
  rw [mid_len]
  by_cases hc : chk (num4 b 4) (b.length - 16) = 0
  · rw [if_pos hc]; exact ⟨fun e => ⟨h, hc, e⟩, fun e => e.2.2⟩
  · rw [if_neg hc]
    exact ⟨fun e => by rw [← e] at h; simp at h, fun e => absurd e.2.1 hc⟩
/-- A part of a row that lies. -/
theorem Lie.part {k : IntKind} {w : World} {B n c : Nat} {b off : Nat} {xs : List Int} (L : Lie k w B (some ⟨b, off, none⟩) n c xs) (i m c' : Nat) (h : i + m ≤ n) (hc : m ≤ c') : Lie k w B (some ⟨b, off + i, none⟩) m c' ((xs.drop i).take m) :=
  ⟨by rw [List.length_take, List.length_drop, L.len]; omega, hc, (fun e => by cases e), fun hm => by
    obtain ⟨b', off', e, hlt, ha⟩ := L.at_ (by omega)
    injection e with e; injection e with e1 e2; subst e1 e2
    refine ⟨b, off + i, rfl, hlt, fun j x hx => ?_⟩
    have hj : j < m := by have := (List.getElem?_eq_some_iff.1 hx).1; rw [List.length_take] at this; omega
    rw [List.getElem?_take_of_lt hj, List.getElem?_drop] at hx
    rw [Nat.add_assoc]; exact ha _ _ hx⟩
/-- A box of one's own with an image in it. -/
structure BoxO (w : World) (g : Nat) (v0 v1 : Value) : Prop where
  row : ∃ fr, w.heap[g]? = some (.cells #[v0, v1] 24 fr) ∧ fr = (0, 0)
section
variable {w w' : World} {g g' : Nat} {v0 v1 : Value}
theorem BoxO.new (w : World) (v0 v1 : Value) : BoxO (w.alloc (.cells #[v0, v1] 24)) w.heap.size v0 v1 := ⟨_, heap_alloc_new w _, rfl⟩
theorem BoxO.c0 (b : BoxO w g v0 v1) : w.cell? ⟨g, 0, none⟩ = some v0 := by obtain ⟨fr, h, -⟩ := b.row; rw [cell_of_row w g 0 _ _ _ h]; rfl
theorem BoxO.c1 (b : BoxO w g v0 v1) : w.cell? ⟨g, 1, none⟩ = some v1 := by obtain ⟨fr, h, -⟩ := b.row; rw [cell_of_row w g 1 _ _ _ h]; rfl
theorem BoxO.fr (b : BoxO w g v0 v1) (o : Nat) : w.frozen? ⟨g, o, none⟩ = false := by obtain ⟨fr, h, rfl⟩ := b.row; simp [World.frozen?, h]
theorem BoxO.lt (b : BoxO w g v0 v1) : g < w.heap.size := by obtain ⟨fr, h, -⟩ := b.row; exact (Array.getElem?_eq_some_iff.1 h).1
theorem BoxO.kept {B : Nat} (b : BoxO w g v0 v1) (hb : Below B w w') (h : g < B) : BoxO w' g v0 v1 := by obtain ⟨fr, h1, h2⟩ := b.row; exact ⟨fr, (hb.block g h).trans h1, h2⟩
theorem BoxO.set0 (b : BoxO w g v0 v1) (x : Value) : BoxO (w.setCell ⟨g, 0, none⟩ x) g x v1 := by obtain ⟨fr, h1, h2⟩ := b.row; exact ⟨fr, by rw [setCell_row h1]; rfl, h2⟩
theorem BoxO.set1 (b : BoxO w g v0 v1) (x : Value) : BoxO (w.setCell ⟨g, 1, none⟩ x) g v0 x := by obtain ⟨fr, h1, h2⟩ := b.row; exact ⟨fr, by rw [setCell_row h1]; rfl, h2⟩
theorem BoxO.off (b : BoxO w g v0 v1) (h : g ≠ g') (o : Nat) (x : Value) : BoxO (w.setCell ⟨g', o, none⟩ x) g v0 v1 := by obtain ⟨fr, h1, h2⟩ := b.row; exact ⟨fr, by rw [Below.heap_setCell _ _ _ _ h]; exact h1, h2⟩
end
theorem below_set {B : Nat} {w u : World} (h : Below B w u) (g o : Nat) (hg : B ≤ g) (v : Value) : Below B w (u.setCell ⟨g, o, none⟩ v) :=
  h.trans ⟨rfl, rfl, rfl, by simp [World.setCell], fun k hk => Below.heap_setCell _ _ _ _ (by show k ≠ g; omega)⟩
theorem unp_no {b : List Int} (h : ¬ good b) : unpE b = 0 ∧ unpB b = [] ∧ unpX b = 4 := by unfold unpE unpB unpX; rw [if_neg h, if_neg h, if_neg h]; exact ⟨rfl, rfl, rfl⟩
theorem unp_yes {b : List Int} (h : good b) : unpE b = num4 b 4 ∧ unpB b = mid b ∧ unpX b = 0 := by unfold unpE unpB unpX; rw [if_pos h, if_pos h, if_pos h]; exact ⟨rfl, rfl, rfl⟩
theorem toldI_no {w u : World} {b : List Int} (h : ¬ good b) (bl : Below w.heap.size w u) : ToldI w (unpE b) (unpB b) (unpX b) (.returned (.tuple #[.agg #[i64 0, .slice none 0 0], i64 4])) u := by
  obtain ⟨h1, h2, h3⟩ := unp_no h
  rw [h1, h2, h3]
  exact ⟨none, 0, 0, rfl, rfl, ownK_nil _ _ _ _, bl⟩
theorem toldI_yes {w u : World} {b : List Int} (h : good b) {p : Option Addr} {m c : Nat} (o : OwnK 5 .u8 u w.heap.size (.slice p m c) (mid b)) (bl : Below w.heap.size w u) : ToldI w (unpE b) (unpB b) (unpX b) (.returned (.tuple #[.agg #[i64 (num4 b 4), .slice p m c], i64 0])) u := by
  obtain ⟨h1, h2, h3⟩ := unp_yes h
  rw [h1, h2, h3]
  obtain ⟨p2, c2, e2, -⟩ := ownK_lie o
  injection e2 with _ e3 _
  exact ⟨p, m, c, rfl, e3, o, bl⟩
set_option maxHeartbeats 4000000 in
theorem unpack_says {w : World} {p : Option Addr} {m c : Nat} {b : List Int} (L : Lie .u8 w w.heap.size p m c b) (hx : Byt b) (hm : m ≤ 700000) (hcc : c ≤ 9223372036854775807) :
    Calls Try.prog 12 #[.slice p m c] w (ToldI w (unpE b) (unpB b) (unpX b)) := by
  obtain ⟨r, hr⟩ : ∃ r, r = ToldI w (unpE b) (unpB b) (unpX b) := ⟨_, rfl⟩
  rw [← hr]
  have K0 := Lib.hid (fun (hg : ¬ good b) u (bl : Below w.heap.size w u) => (by rw [hr]; exact toldI_no hg bl : r (.returned (.tuple #[.agg #[i64 0, .slice none 0 0], i64 4])) u))
  have K1 := Lib.hid (fun (hg : good b) p' m' c' u (o : OwnK 5 .u8 u w.heap.size (.slice p' m' c') (mid b)) (bl : Below w.heap.size w u) => (by rw [hr]; exact toldI_yes hg o bl : r (.returned (.tuple #[.agg #[i64 (num4 b 4), .slice p' m' c'], i64 0])) u))
  obtain ⟨h, hh⟩ : ∃ h, w.heap.size = h := ⟨_, rfl⟩
  obtain ⟨w1, hw1⟩ : ∃ w1, w1 = w.alloc (.cells #[i64 0, .slice none 0 0] 24) := ⟨_, rfl⟩
  have X1 := Lib.hid (by rw [hw1, ← hh]; exact BoxO.new _ _ _ : BoxO w1 h (i64 0) (.slice none 0 0))
  have B1 := Lib.hid (by rw [hw1]; exact (Below.refl _ _).alloc (Nat.le_of_eq hh.symm) _ : Below h w w1)
  rw [hh] at K0 K1
  have f0 := X1.out.fr 0
  have f1 := X1.out.fr 1
  have c0 := X1.out.c0
  have c1 := X1.out.c1
  have m0 : (0 : Int) ≤ (m : Int) := Int.natCast_nonneg m
  by_cases h16 : m < 16
  · replace K0 := Lib.hid (K0.out (fun hg => by have := hg.1; rw [L.len] at this; omega))
    have h16' : (m : Int) < 16 := by omega
    clear hr hx L K1
    go_enter Try.func12, Try.ntmps12
    go_upto_region 1 with fail
    rw [← hw1]
    clear hw1
    go_wp2_with fail
    have X9 := (X1.out.set0 (i64 0)).set1 (.slice none 0 0)
    have d0 := X9.c0
    have d1 := X9.c1
    exact bodyPost_ret (v := .tuple #[.agg #[i64 0, .slice none 0 0], i64 4]) (by simp [results, Try.results12, go_sem, d0, d1]) rfl (K0.out _ (below_set (below_set B1.out _ _ (Nat.le_refl _) _) _ _ (Nat.le_refl _) _))
  · obtain ⟨k, rfl⟩ : ∃ k, m = k + 16 := ⟨m - 16, by omega⟩
    obtain ⟨d, rfl⟩ : ∃ d, c = k + 16 + d := ⟨c - (k + 16), by have := L.cap; omega⟩
    obtain ⟨g, off, rfl, hlt, -⟩ := L.cell (i := 0) (by omega)
    obtain ⟨E, hE⟩ : ∃ E, E = num4 b 4 := ⟨_, rfl⟩
    obtain ⟨ys, hys⟩ : ∃ ys, ys = mid b := ⟨_, rfl⟩
    have L4 := Lie.part L 4 (k + 12) (k + 16 + d - 4) (by omega) (by omega)
    have L12 := Lie.part L 12 (k + 16 - 4 - 12) (k + 16 + d - 12) (by omega) (by omega)
    have hy12 : (b.drop 12).take (k + 16 - 4 - 12) = ys := by rw [hys]; unfold mid; rw [L.len]; rfl
    rw [hy12] at L12
    have HF := Lib.hid (show Calls Try.prog 18 #[.slice (some ⟨g, off + 4, none⟩) (k + 12) (k + 16 + d - 4)] w1 _ from firstWord_says (L4.kept B1.out (Nat.le_of_eq hh)) (byt_take (byt_drop hx 4) _) (by omega) (by omega))
    rw [List.take_take, show min 4 (k + 12) = 4 by omega] at HF
    change Hid (Calls _ _ _ _ fun e w' => e = .returned (i64 (num4 b 4)) ∧ w1 = w') at HF
    rw [← hE] at HF
    have k0 : (0 : Int) ≤ (k : Int) := Int.natCast_nonneg k
    have d0 : (0 : Int) ≤ (d : Int) := Int.natCast_nonneg d
    have HY := Lib.hid (show Byt ys by rw [hys]; exact byt_take (byt_drop hx 12) _)
    have HEb := Lib.hid (show 0 ≤ E ∧ E ≤ 4294967295 by rw [hE]; exact num4_bd hx 4)
    have HG := Lib.hid (show packO E ys = b ↔ good b by rw [hE, hys]; exact good_iff b (by rw [L.len]; omega))
    rw [← hE, ← hys] at K1
    have HX := Lib.hid hx
    have HL := Lib.hid L
    have HL12 := Lib.hid L12
    clear hr hx L L4 L12 hy12 hE hys
    go_enter Try.func12, Try.ntmps12
    go_upto_region 1 with fail
    rw [← hw1]
    clear hw1
    go_upto_region 4 with fail
    obtain ⟨q, hq⟩ : ∃ q, k + 16 - 4 - 12 = q := ⟨_, rfl⟩
    obtain ⟨qc, hqc⟩ : ∃ qc, k + 16 + d - 12 = qc := ⟨_, rfl⟩
    rw [hq, hqc]
    rw [hq, hqc] at HL12
    go_upto_region 5 with (go_at_call 18; with_reducible refine HF.out.mono ?_; rintro en t' ⟨rfl, rfl⟩)
    obtain ⟨h2, hh2⟩ : ∃ h2, w1.heap.size = h2 := ⟨_, rfl⟩
    obtain ⟨w2, hw2⟩ : ∃ w2, w2 = w1.alloc (.cells #[i64 E, .slice (some ⟨g, off + 12, none⟩) q qc] 24) := ⟨_, rfl⟩
    have Y2 := Lib.hid (by rw [hw2, ← hh2]; exact BoxO.new _ _ _ : BoxO w2 h2 (i64 E) (.slice (some ⟨g, off + 12, none⟩) q qc))
    have hlt2 : h < h2 := by rw [← hh2]; exact X1.out.lt
    have X2 := Lib.hid (X1.out.kept (w' := w2) (B := h2) (by rw [hw2]; exact (Below.refl _ _).alloc (Nat.le_of_eq hh2.symm) _) hlt2)
    have B2 := Lib.hid (B1.out.trans (by rw [hw2]; exact (Below.refl _ _).alloc (by omega) _ : Below h w1 w2))
    have s2 : h2 < w2.heap.size := Y2.out.lt
    rw [hh2, ← hw2]
    clear hw2 hh2 c0 c1 f0 f1 HF
    have c0 := Y2.out.c0
    have c1 := Y2.out.c1
    have HP := Lib.hid (pack_says E (by have := HEb.out; omega) ((HL12.out.kept B2.out (Nat.le_of_eq hh)).wide (by have := B2.out.size; omega)) HY.out (by omega))
    go_upto_region 6 with (go_at_call 8; go_loud (with_reducible refine HP.out.mono ?_); rintro en w3 ⟨p3, m3, c3, rfl, hm3, o3, b3⟩; go_loud (have Y3 := Lib.hid (Y2.out.kept b3 s2)); have X3 := Lib.hid (X2.out.kept b3 (Nat.lt_trans hlt2 s2)); go_loud (have B3 := Lib.hid (B2.out.trans (b3.mono (by omega)))); have R3 := Lib.hid o3; have M3 := Lib.hid hm3; have s3 := b3.size; clear o3 b3 hm3 c0 c1)
    obtain ⟨p4, c4, e4, -, L4⟩ := ownK_lie R3.out
    injection e4 with ea eb ec
    subst ea ec
    rw [← eb] at L4
    have HQ := Lib.hid (equal_says L4 (HL.out.kept B3.out (Nat.le_of_eq hh)) (by unfold packO; split; exact pack_byt E HY.out; (intro x hx; cases hx)) HX.out)
    clear eb L4 R3 M3 X2 Y2 HP
    have c0 := Y3.out.c0
    have c1 := Y3.out.c1
    have d0 := X3.out.c0
    have d1 := X3.out.c1
    have f0 := X3.out.fr 0
    have f1 := X3.out.fr 1
    have e0 := Y3.out.fr 0
    have e1 := Y3.out.fr 1
    by_cases hg : good b
    · rw [decide_eq_true (HG.out.2 hg)] at HQ
      replace K1 := Lib.hid (K1.out hg)
      go_upto_region 8 with (go_at_call 19; with_reducible refine HQ.out.mono ?_; rintro en t' ⟨rfl, rfl⟩)
      have HS := Lib.hid ((HL12.out.kept B3.out (Nat.le_of_eq hh)).src)
      have HN := Lib.hid HL12.out.len
      clear d0 d1
      go_upto_region 9 with (at_builtin; refine wpList_appK kdB rfl _ _ rfl (Nat.le_refl _) (R1 := []) rfl (ownK_nil _ _ _ _) ys rfl HN.out (fun e => by cases e) HS.out (by have h3 : ([] : List Int).length = 0 := rfl; omega) ?_; intro v' w4 o4 b4 _; obtain ⟨p5, m5, c5, rfl, hm5⟩ := own_told o4; replace hm5 := Lib.hid hm5; have Y4 := Lib.hid (Y3.out.kept b4 Y3.out.lt); have X4 := Lib.hid (X3.out.kept b4 X3.out.lt); have B4 := Lib.hid (B3.out.trans (b4.mono (by omega))); have R4 := Lib.hid o4; clear o4 b4 c0 c1 e0 e1 f0 f1; have c0 := Y4.out.c0; have c1 := Y4.out.c1; have e0 := Y4.out.fr 0; have e1 := Y4.out.fr 1; have f0 := X4.out.fr 0; have f1 := X4.out.fr 1)
      obtain ⟨w5, hw5⟩ : ∃ w5, w5 = w4.setCell ⟨h2, 1, none⟩ (.slice p5 m5 c5) := ⟨_, rfl⟩
      have Y5 := by have := Y4.out.set1 (.slice p5 m5 c5); rw [← hw5] at this; exact this
      have X5 := by have := X4.out.off (by omega : h ≠ h2) 1 (.slice p5 m5 c5); rw [← hw5] at this; exact this
      have B5 := Lib.hid (by rw [hw5]; exact below_set B4.out _ _ (by omega) _ : Below h w w5)
      have R5 := Lib.hid (by rw [hw5]; exact ownK_off R4.out (by intro e; have := (R4.out.lt h2 e).1; omega) _ _ : OwnK 5 .u8 w5 w3.heap.size (.slice p5 m5 c5) ([] ++ ys))
      have hR5 := Lib.hid (fun g hg => (R5.out.lt g hg).1)
      rw [← hw5]
      clear hw5 c0 c1 e0 e1 f0 f1
      have c0 := Y5.c0
      have c1 := Y5.c1
      have d0 := X5.c0
      have d1 := X5.c1
      have f0 := X5.fr 0
      have f1 := X5.fr 1
      go_wp2_with fail
      have X9 := (X5.set0 (i64 E)).set1 (.slice p5 m5 c5)
      have d0 := X9.c0
      have d1 := X9.c1
      have R9 : OwnK 5 .u8 ((w5.setCell ⟨h, 0, none⟩ (i64 E)).setCell ⟨h, 1, none⟩ (.slice p5 m5 c5)) h (.slice p5 m5 c5) ys := by
        have hne : (Value.slice p5 m5 c5).ownBlock ≠ some h := fun e => by have := hR5.out h e; omega
        have := ownK_off (ownK_off R5.out hne 0 (i64 E)) hne 1 (.slice p5 m5 c5)
        rw [List.nil_append] at this
        exact ownK_mono this (by omega)
      exact bodyPost_ret (v := .tuple #[.agg #[i64 E, .slice p5 m5 c5], i64 0]) (by simp [results, Try.results12, go_sem, d0, d1]) rfl (K1.out _ _ _ _ R9 (below_set (below_set B5.out _ _ (Nat.le_refl _) _) _ _ (Nat.le_refl _) _))
    · rw [decide_eq_false (fun h => hg (HG.out.1 h))] at HQ
      replace K0 := Lib.hid (K0.out hg)
      clear c0 c1 e0 e1
      go_wp2_with (go_at_call 19; with_reducible refine HQ.out.mono ?_; rintro en t' ⟨rfl, rfl⟩)
      have X9 := (X3.out.set0 (i64 0)).set1 (.slice none 0 0)
      have d0 := X9.c0
      have d1 := X9.c1
      exact bodyPost_ret (v := .tuple #[.agg #[i64 0, .slice none 0 0], i64 4]) (by simp [results, Try.results12, go_sem, d0, d1]) rfl (K0.out _ (below_set (below_set B3.out _ _ (Nat.le_refl _) _) _ _ (Nat.le_refl _) _))
end Go.Proofs.Ythiaibpalnlbiaa.Img
