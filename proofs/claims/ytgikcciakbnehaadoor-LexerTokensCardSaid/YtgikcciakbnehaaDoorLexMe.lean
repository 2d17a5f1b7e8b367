
/-
  Package lexer: meant.
-/
import Derived.Test.YtgikcciakbnehaaDoorLexRe
set_option maxRecDepth 100000
namespace Go.Proofs.YtgikcciakbnehaaDoor.Lex
open Go.Proofs.YtgikcciakbnehaaDoor Go.Proofs.YtgikcciakbnehaaDoor.Ser
open Go.ChangeShapes Go.WideShapes Go.ChangeAt Go.RowKit
/-- What meant answers: the rune and no fault; or the fault. -/
def meA (T : List Int) (q l c fl fc : Int) : Ending :=
  if (meant q T).2.2 then .returned (.tuple #[i32 (meant q T).1, .agg #[i64 0, i64 0, i64 0]])
  else .returned (.tuple #[i32 0, fV (wrong (T.drop (meant q T).2.1) l (c + (meant q T).2.1) fl fc)])
/-- A place in block P, a fault in block Z. -/
structure BoxQ (Z P : Nat) (wr : World) (l c : Int) : Prop where
  z : wr.heap[Z]? = some (.cells #[i64 0, i64 0, i64 0] 45 (0, 0))
  p : wr.heap[P]? = some (.cells #[i64 l, i64 c] 40 (0, 0))
section
variable {wr w' : World} {l c : Int} {Z P : Nat}
theorem BoxQ.kept {S : Nat → Prop} (b : BoxQ Z P wr l c) (h : But S wr w') (h1 : ∀ i, S i → i ≠ Z ∧ i ≠ P) : BoxQ Z P w' l c := by
  have l1 := (Array.getElem?_eq_some_iff.1 b.z).1
  have l2 := (Array.getElem?_eq_some_iff.1 b.p).1
  exact ⟨(h.block _ l1 fun hs => (h1 _ hs).1 rfl).trans b.z, (h.block _ l2 fun hs => (h1 _ hs).2 rfl).trans b.p⟩
theorem BoxQ.z0 (b : BoxQ Z P wr l c) : wr.cell? ⟨Z, 0, none⟩ = some (i64 0) := by rw [cell_of_row _ Z 0 _ _ _ b.z]; rfl
theorem BoxQ.z1 (b : BoxQ Z P wr l c) : wr.cell? ⟨Z, 1, none⟩ = some (i64 0) := by rw [cell_of_row _ Z 1 _ _ _ b.z]; rfl
theorem BoxQ.z2 (b : BoxQ Z P wr l c) : wr.cell? ⟨Z, 2, none⟩ = some (i64 0) := by rw [cell_of_row _ Z 2 _ _ _ b.z]; rfl
theorem BoxQ.zf (b : BoxQ Z P wr l c) (i : Nat) : wr.frozen? ⟨Z, i, none⟩ = false := by simp [World.frozen?, b.z]
theorem BoxQ.p0 (b : BoxQ Z P wr l c) : wr.cell? ⟨P, 0, none⟩ = some (i64 l) := by rw [cell_of_row _ P 0 _ _ _ b.p]; rfl
theorem BoxQ.p1 (b : BoxQ Z P wr l c) : wr.cell? ⟨P, 1, none⟩ = some (i64 c) := by rw [cell_of_row _ P 1 _ _ _ b.p]; rfl
/-- The cells of both. -/
structure BoxF (Z P : Nat) (wr : World) (l c : Int) : Prop where
  z0 : wr.cell? ⟨Z, 0, none⟩ = some (i64 0)
  z1 : wr.cell? ⟨Z, 1, none⟩ = some (i64 0)
  z2 : wr.cell? ⟨Z, 2, none⟩ = some (i64 0)
  f0 : wr.frozen? ⟨Z, 0, none⟩ = false
  f1 : wr.frozen? ⟨Z, 1, none⟩ = false
  f2 : wr.frozen? ⟨Z, 2, none⟩ = false
  p0 : wr.cell? ⟨P, 0, none⟩ = some (i64 l)
  p1 : wr.cell? ⟨P, 1, none⟩ = some (i64 c)
theorem BoxQ.all (b : BoxQ Z P wr l c) : BoxF Z P wr l c := ⟨b.z0, b.z1, b.z2, b.zf 0, b.zf 1, b.zf 2, b.p0, b.p1⟩
end
/-- What is left behind a store into the block Z. -/
theorem Rd.finZ {w wX wf : World} {B h g q k : Nat} {L : List Int} {l c : Int} {v : Value} {T : List Tok} {Z : Nat} (R : Rd wX B h g q L k l c v T) (hG : g ≠ Z ∧ h ≠ Z ∧ ∀ i, v.ownBlock = some i → i ≠ Z) (hZ : w.heap.size ≤ Z) (bX : But (fun i => i = h) w wX) (bz : But (fun i => i = Z) wX wf) : Rd wf B h g q L k l c v T ∧ But (fun i => i = h) w wf :=
  ⟨R.kept bz hG.2.1 hG.1 hG.2.2, bX.then bz (fun _ h => h) (fun i hi hs => by omega)⟩
theorem BoxQ.begin (w : World) (l c : Int) : BoxQ (w.heap.size + 1) w.heap.size ((w.alloc (.cells #[i64 l, i64 c] 40)).alloc (.cells #[i64 0, i64 0, i64 0] 45)) l c := by
  have h1 := (MapKept.heap_alloc w (.cells #[i64 l, i64 c] 40)).1
  have h2 := (MapKept.heap_alloc (w.alloc (.cells #[i64 l, i64 c] 40)) (.cells #[i64 0, i64 0, i64 0] 45)).1
  rw [World.size_alloc] at h2
  refine ⟨h2, ?_⟩
  rw [Below.heap_alloc _ _ _ (by simp)]
  exact h1
section
variable {w : World} {B h g q k : Nat} {L : List Int} {l c : Int} {v : Value} {T : List Tok}
theorem fV_wrong (T : List Int) (l c fl fc : Int) : ∃ a b d, fV (wrong T l c fl fc) = .agg #[i64 a, i64 b, i64 d] := ⟨_, _, _, rfl⟩
set_option maxRecDepth 100000 in
set_option maxHeartbeats 4000000 in
theorem meant_says (R : Rd w B h g q L k l c v T) (fl fc qu : Int) (hq : qu = 39 ∨ qu = 34) : Calls Tryd.prog 41 #[.pointer (some ⟨h, 0, none⟩), .agg #[i64 fl, i64 fc], i32 qu] w fun e w' => e = meA (L.drop k) qu l c fl fc ∧ Rd w' B h g q L (k + (meant qu (L.drop k)).2.1) l (c + (meant qu (L.drop k)).2.1) v T ∧ But (fun i => i = h) w w' := by
  obtain ⟨r, hr⟩ : ∃ r : Ending → World → Prop, r = fun e w' => e = meA (L.drop k) qu l c fl fc ∧ Rd w' B h g q L (k + (meant qu (L.drop k)).2.1) l (c + (meant qu (L.drop k)).2.1) v T ∧ But (fun i => i = h) w w' := ⟨_, rfl⟩
  rw [← hr]
  have HR := Lib.hid R
  have hz := R.lt.1
  have hW0 := Lib.hid (fun (u : World) (R' : Rd u B h g q L k l c v T) => wrong_says R' fl fc)
  have hbd := R.hd_bd
  obtain ⟨w2, hw2⟩ : ∃ w2, w2 = (w.alloc (.cells #[i64 fl, i64 fc] 40)).alloc (.cells #[i64 0, i64 0, i64 0] 45) := ⟨_, rfl⟩
  have b0 : But (fun _ => False) w w2 := by rw [hw2]; exact ((But.refl _ w).alloc _).alloc _
  have HX := Lib.hid (show BoxQ (w.heap.size + 1) w.heap.size w2 fl fc by rw [hw2]; exact BoxQ.begin w fl fc)
  have NZ := Lib.hid (show ∀ i, i = h → i ≠ w.heap.size + 1 ∧ i ≠ w.heap.size by intro i hi; omega)
  have hfin : ∀ {m : Nat} {u uf : World}, Rd u B h g q L (k + m) l (c + m) v T → But (fun i => i = h) w u → But (fun i => i = w.heap.size + 1) u uf → (∀ w', But (fun i => i = h) w w' → Rd w' B h g q L (k + m) l (c + m) v T → r (.returned (.tuple #[i32 0, .agg #[i64 0, i64 0, i64 0]])) w') → True := fun _ _ _ _ => trivial
  have HR0 := Lib.hid R
  have HR := Lib.hid (R.later b0)
  have Hb := Lib.hid b0
  have HG := Lib.hid (show g ≠ w.heap.size + 1 ∧ h ≠ w.heap.size + 1 ∧ ∀ i, v.ownBlock = some i → i ≠ w.heap.size + 1 from ⟨by have := R.lt.2.1; omega, by omega, fun i hi => by have := R.lt.2.2 i hi; omega⟩)
  clear hfin b0
  obtain ⟨x, hx⟩ : ∃ x, hd (L.drop k) = x := ⟨_, rfl⟩
  rw [hx] at hbd
  by_cases hbad : x = -1 ∨ x = -2 ∨ x = 10 ∨ x = qu
  · have hm : meant qu (L.drop k) = (0, 0, false) := by unfold meant; rw [hx, if_pos hbad]
    have hout : ∀ w', Rd w' B h g q L k l c v T → But (fun i => i = h) w w' → r (.returned (.tuple #[i32 0, fV (wrong (L.drop k) l c fl fc)])) w' := by
      intro w' R' b
      rw [hr]
      unfold meA
      rw [hm]
      exact ⟨by simp, by simpa using R', b⟩
    obtain ⟨a, b, d, hf⟩ := fV_wrong (L.drop k) l c fl fc
    rw [hf] at hout
    have HO := Lib.hid hout
    clear hr R hout hm hW0 hz
    rcases hq with rfl | rfl <;> (rcases hbad with rfl | rfl | rfl | rfl <;> (
      go_enter Tryd.func41, Tryd.ntmps41
      go_upto_region 1 with fail
      rw [← hw2]
      clear hw2
      obtain ⟨z0, z1, z2, f0, f1, f2, p0, p1⟩ := HX.out.all
      go_wp2_with (first
        | (go_at_call 11; refine (now_says (K1.out.later (by first | exact But.refl _ _ | exact (But.refl _ _).drew | exact (But.refl _ _).drew.drew | exact (But.refl _ _).drew.drew.drew))).mono ?_; rintro e w1 ⟨rfl, rfl⟩; rw [hy])
        | (go_at_call 11; refine (now_says (HR.out.later (by first | exact But.refl _ _ | exact (But.refl _ _).drew | exact (But.refl _ _).drew.drew | exact (But.refl _ _).drew.drew.drew))).mono ?_; rintro e w1 ⟨rfl, rfl⟩; rw [hx])
        | (go_at_call 24; refine (next_says (K1.out.later (by first | exact But.refl _ _ | exact (But.refl _ _).drew | exact (But.refl _ _).drew.drew | exact (But.refl _ _).drew.drew.drew)) h1.out).mono ?_; rintro e w6 ⟨rfl, R2, b2⟩; obtain ⟨z0, z1, z2, f0, f1, f2, p0, p1⟩ := (HX2.out.kept ((But.refl _ _).drew.trans b2) NZ.out).all; have K2 := Lib.hid R2; have B2 := Lib.hid b2; clear R2 b2)
        | (go_at_call 24; refine (next_says (HR.out.later (by first | exact But.refl _ _ | exact (But.refl _ _).drew | exact (But.refl _ _).drew.drew | exact (But.refl _ _).drew.drew.drew)) h0.out).mono ?_; rintro e w5 ⟨rfl, R1, b1⟩; have HX2 := Lib.hid (HX.out.kept ((But.refl _ _).drew.trans b1) NZ.out); obtain ⟨z0, z1, z2, f0, f1, f2, p0, p1⟩ := HX2.out.all; have K1 := Lib.hid R1; have B1 := Lib.hid b1; clear R1 b1)
        | (go_at_call 34; refine (wrong_says (K1.out.later (by first | exact But.refl _ _ | exact (But.refl _ _).drew | exact (But.refl _ _).drew.drew | exact (But.refl _ _).drew.drew.drew)) fl fc).mono ?_; rintro e w6 ⟨rfl, b2⟩; rw [hf]; obtain ⟨z0, z1, z2, f0, f1, f2, p0, p1⟩ := (HX2.out.kept ((But.refl _ _).drew.trans b2) (fun _ h => h.elim)).all; have B2 := Lib.hid b2; clear b2)
        | (go_at_call 34; refine (wrong_says (HR.out.later (by first | exact But.refl _ _ | exact (But.refl _ _).drew | exact (But.refl _ _).drew.drew | exact (But.refl _ _).drew.drew.drew)) fl fc).mono ?_; rintro e w5 ⟨rfl, b1⟩; rw [hf]; obtain ⟨z0, z1, z2, f0, f1, f2, p0, p1⟩ := (HX.out.kept ((But.refl _ _).drew.trans b1) (fun _ h => h.elim)).all; have B1 := Lib.hid b1; clear b1))
      exact bodyPost_ret (v := .tuple #[i32 0, .agg #[i64 a, i64 b, i64 d]]) (by simp [results, Tryd.results41, go_sem, z0, z1, z2]) rfl (HO.out _ (((HR.out.later (But.refl _ w2).drew).later B1.out).finZ HG.out (Nat.le_succ _) ((Hb.out.drew.trans B1.out).mono fun _ h => h.elim) (zset _ _ _ _ _)).1 (((HR.out.later (But.refl _ w2).drew).later B1.out).finZ HG.out (Nat.le_succ _) ((Hb.out.drew.trans B1.out).mono fun _ h => h.elim) (zset _ _ _ _ _)).2)))
  · have h0 := Lib.hid (show 0 ≤ hd (L.drop k) by rw [hx]; omega)
    have w0 := Lib.hid hbad
    have e1 : (x == -1) = false := by simp; omega
    have e2 : (x == -2) = false := by simp; omega
    have e3 : (x == 10) = false := by simp; omega
    have e4 : (x == qu) = false := by simp; omega
    by_cases h92 : x = 92
    · have hd1 := hd (L.drop (k + 1))
      have hbd1 := (R.good.drop (k + 1) (R.good.more k R.kl h0.out)).hd_bd
      have hm0 : meant qu (L.drop k) = if hd (L.drop (k + 1)) = 92 ∨ hd (L.drop (k + 1)) = qu then (hd (L.drop (k + 1)), 2, true) else if hd (L.drop (k + 1)) = 110 then (10, 2, true) else (0, 1, false) := by
        unfold meant
        rw [hx, if_neg hbad, if_neg (by simp [h92]), List.drop_drop]
      obtain ⟨y, hy⟩ : ∃ y, hd (L.drop (k + 1)) = y := ⟨_, rfl⟩
      rw [hy] at hm0 hbd1
      have hgoodv : ∀ yy, meant qu (L.drop k) = (yy, 2, true) → ∀ w', Rd w' B h g q L (k + 1 + 1) l (c + 1 + 1) v T → But (fun i => i = h) w w' → r (.returned (.tuple #[i32 yy, .agg #[i64 0, i64 0, i64 0]])) w' := by
        intro yy hm w' R' b
        rw [hr]
        unfold meA
        rw [hm]
        exact ⟨by simp, R'.cast rfl (by simp; omega), b⟩
      have hbadv : meant qu (L.drop k) = (0, 1, false) → ∀ w', Rd w' B h g q L (k + 1) l (c + 1) v T → But (fun i => i = h) w w' → r (.returned (.tuple #[i32 0, fV (wrong (L.drop (k + 1)) l (c + 1) fl fc)])) w' := by
        intro hm w' R' b
        rw [hr]
        unfold meA
        rw [hm]
        exact ⟨by simp, R'.cast rfl (by simp), b⟩
      clear hr R hW0 hz hd1 hbad hbd
      have hx92 : hd (L.drop k) = 92 := by rw [hx]; exact h92
      subst h92
      by_cases y1 : y = 92 ∨ y = qu ∨ y = 110
      · have h1 := Lib.hid (show 0 ≤ hd (L.drop (k + 1)) by rw [hy]; omega)
        have hq2 : qu = 39 ∨ qu = 34 := hq
        clear hbadv hbd1
        rcases hq with rfl | rfl <;> (rcases y1 with rfl | rfl | rfl <;> (
          have HO := Lib.hid (hgoodv _ (hm0.trans (by first | rw [if_pos (by decide)] | rw [if_neg (by decide), if_pos rfl])))
          clear hgoodv hm0
          go_enter Tryd.func41, Tryd.ntmps41
          go_upto_region 1 with fail
          rw [← hw2]
          clear hw2
          obtain ⟨z0, z1, z2, f0, f1, f2, p0, p1⟩ := HX.out.all
          go_wp2_with (first
            | (go_at_call 11; refine (now_says (K1.out.later (by first | exact But.refl _ _ | exact (But.refl _ _).drew | exact (But.refl _ _).drew.drew | exact (But.refl _ _).drew.drew.drew))).mono ?_; rintro e w1 ⟨rfl, rfl⟩; rw [hy])
            | (go_at_call 11; refine (now_says (HR.out.later (by first | exact But.refl _ _ | exact (But.refl _ _).drew | exact (But.refl _ _).drew.drew | exact (But.refl _ _).drew.drew.drew))).mono ?_; rintro e w1 ⟨rfl, rfl⟩; rw [hx])
            | (go_at_call 24; refine (next_says (K1.out.later (by first | exact But.refl _ _ | exact (But.refl _ _).drew | exact (But.refl _ _).drew.drew | exact (But.refl _ _).drew.drew.drew)) h1.out).mono ?_; rintro e w6 ⟨rfl, R2, b2⟩; obtain ⟨z0, z1, z2, f0, f1, f2, p0, p1⟩ := (HX2.out.kept ((But.refl _ _).drew.trans b2) NZ.out).all; have K2 := Lib.hid R2; have B2 := Lib.hid b2; clear R2 b2)
            | (go_at_call 24; refine (next_says (HR.out.later (by first | exact But.refl _ _ | exact (But.refl _ _).drew | exact (But.refl _ _).drew.drew | exact (But.refl _ _).drew.drew.drew)) h0.out).mono ?_; rintro e w5 ⟨rfl, R1, b1⟩; have HX2 := Lib.hid (HX.out.kept ((But.refl _ _).drew.trans b1) NZ.out); obtain ⟨z0, z1, z2, f0, f1, f2, p0, p1⟩ := HX2.out.all; have K1 := Lib.hid R1; have B1 := Lib.hid b1; clear R1 b1)
            | (go_at_call 34; refine (wrong_says (K1.out.later (by first | exact But.refl _ _ | exact (But.refl _ _).drew | exact (But.refl _ _).drew.drew | exact (But.refl _ _).drew.drew.drew)) fl fc).mono ?_; rintro e w6 ⟨rfl, b2⟩; rw [hf]; obtain ⟨z0, z1, z2, f0, f1, f2, p0, p1⟩ := (HX2.out.kept ((But.refl _ _).drew.trans b2) (fun _ h => h.elim)).all; have B2 := Lib.hid b2; clear b2)
            | (go_at_call 34; refine (wrong_says (HR.out.later (by first | exact But.refl _ _ | exact (But.refl _ _).drew | exact (But.refl _ _).drew.drew | exact (But.refl _ _).drew.drew.drew)) fl fc).mono ?_; rintro e w5 ⟨rfl, b1⟩; rw [hf]; obtain ⟨z0, z1, z2, f0, f1, f2, p0, p1⟩ := (HX.out.kept ((But.refl _ _).drew.trans b1) (fun _ h => h.elim)).all; have B1 := Lib.hid b1; clear b1))
          exact bodyPost_ret (v := .tuple #[i32 _, .agg #[i64 0, i64 0, i64 0]]) (by simp [results, Tryd.results41, go_sem, z0, z1, z2]) rfl (HO.out _ (K2.out.finZ HG.out (Nat.le_succ _) (((Hb.out.drew.mono fun _ h => h.elim).trans B1.out).drew.trans B2.out) (zset _ _ _ _ _)).1 (K2.out.finZ HG.out (Nat.le_succ _) (((Hb.out.drew.mono fun _ h => h.elim).trans B1.out).drew.trans B2.out) (zset _ _ _ _ _)).2)))
      · have hm : meant qu (L.drop k) = (0, 1, false) := by rw [hm0, if_neg (by omega), if_neg (by omega)]
        have HO0 := hbadv hm
        obtain ⟨a, b, d, hf⟩ := fV_wrong (L.drop (k + 1)) l (c + 1) fl fc
        rw [hf] at HO0
        have HO := Lib.hid HO0
        have y2 : (y == 92) = false := by simp; omega
        have y3 : (y == qu) = false := by simp; omega
        have y4 : (y == 110) = false := by simp; omega
        clear hgoodv hbadv hm0 hm HO0 y1 hbd1
        rcases hq with rfl | rfl <;> (
          go_enter Tryd.func41, Tryd.ntmps41
          go_upto_region 1 with fail
          rw [← hw2]
          clear hw2
          obtain ⟨z0, z1, z2, f0, f1, f2, p0, p1⟩ := HX.out.all
          go_wp2_with (first
            | (go_at_call 11; refine (now_says (K1.out.later (by first | exact But.refl _ _ | exact (But.refl _ _).drew | exact (But.refl _ _).drew.drew | exact (But.refl _ _).drew.drew.drew))).mono ?_; rintro e w1 ⟨rfl, rfl⟩; rw [hy])
            | (go_at_call 11; refine (now_says (HR.out.later (by first | exact But.refl _ _ | exact (But.refl _ _).drew | exact (But.refl _ _).drew.drew | exact (But.refl _ _).drew.drew.drew))).mono ?_; rintro e w1 ⟨rfl, rfl⟩; rw [hx])
            | (go_at_call 24; refine (next_says (K1.out.later (by first | exact But.refl _ _ | exact (But.refl _ _).drew | exact (But.refl _ _).drew.drew | exact (But.refl _ _).drew.drew.drew)) h1.out).mono ?_; rintro e w6 ⟨rfl, R2, b2⟩; obtain ⟨z0, z1, z2, f0, f1, f2, p0, p1⟩ := (HX2.out.kept ((But.refl _ _).drew.trans b2) NZ.out).all; have K2 := Lib.hid R2; have B2 := Lib.hid b2; clear R2 b2)
            | (go_at_call 24; refine (next_says (HR.out.later (by first | exact But.refl _ _ | exact (But.refl _ _).drew | exact (But.refl _ _).drew.drew | exact (But.refl _ _).drew.drew.drew)) h0.out).mono ?_; rintro e w5 ⟨rfl, R1, b1⟩; have HX2 := Lib.hid (HX.out.kept ((But.refl _ _).drew.trans b1) NZ.out); obtain ⟨z0, z1, z2, f0, f1, f2, p0, p1⟩ := HX2.out.all; have K1 := Lib.hid R1; have B1 := Lib.hid b1; clear R1 b1)
            | (go_at_call 34; refine (wrong_says (K1.out.later (by first | exact But.refl _ _ | exact (But.refl _ _).drew | exact (But.refl _ _).drew.drew | exact (But.refl _ _).drew.drew.drew)) fl fc).mono ?_; rintro e w6 ⟨rfl, b2⟩; rw [hf]; obtain ⟨z0, z1, z2, f0, f1, f2, p0, p1⟩ := (HX2.out.kept ((But.refl _ _).drew.trans b2) (fun _ h => h.elim)).all; have B2 := Lib.hid b2; clear b2)
            | (go_at_call 34; refine (wrong_says (HR.out.later (by first | exact But.refl _ _ | exact (But.refl _ _).drew | exact (But.refl _ _).drew.drew | exact (But.refl _ _).drew.drew.drew)) fl fc).mono ?_; rintro e w5 ⟨rfl, b1⟩; rw [hf]; obtain ⟨z0, z1, z2, f0, f1, f2, p0, p1⟩ := (HX.out.kept ((But.refl _ _).drew.trans b1) (fun _ h => h.elim)).all; have B1 := Lib.hid b1; clear b1))
          exact bodyPost_ret (v := .tuple #[i32 0, .agg #[i64 a, i64 b, i64 d]]) (by simp [results, Tryd.results41, go_sem, z0, z1, z2]) rfl (HO.out _ (((K1.out.later (But.refl _ _).drew).later B2.out).finZ HG.out (Nat.le_succ _) (((Hb.out.drew.mono fun _ h => h.elim).trans B1.out).drew.trans (B2.out.mono fun _ h => h.elim)) (zset _ _ _ _ _)).1 (((K1.out.later (But.refl _ _).drew).later B2.out).finZ HG.out (Nat.le_succ _) (((Hb.out.drew.mono fun _ h => h.elim).trans B1.out).drew.trans (B2.out.mono fun _ h => h.elim)) (zset _ _ _ _ _)).2))
    · have hm : meant qu (L.drop k) = (x, 1, true) := by unfold meant; rw [hx, if_neg hbad, if_pos h92]
      have hout : ∀ w', Rd w' B h g q L (k + 1) l (c + 1) v T → But (fun i => i = h) w w' → r (.returned (.tuple #[i32 x, .agg #[i64 0, i64 0, i64 0]])) w' := by
        intro w' R' b
        rw [hr]
        unfold meA
        rw [hm]
        exact ⟨by simp, R'.cast rfl (by simp), b⟩
      have HO := Lib.hid hout
      have e5 : (x != 92) = true := by simpa using h92
      clear hr R hout hm hW0 hz hbad h92 hbd
      rcases hq with rfl | rfl <;> (
        go_enter Tryd.func41, Tryd.ntmps41
        go_upto_region 1 with fail
        rw [← hw2]
        clear hw2
        obtain ⟨z0, z1, z2, f0, f1, f2, p0, p1⟩ := HX.out.all
        go_wp2_with (first
          | (go_at_call 11; refine (now_says (K1.out.later (by first | exact But.refl _ _ | exact (But.refl _ _).drew | exact (But.refl _ _).drew.drew | exact (But.refl _ _).drew.drew.drew))).mono ?_; rintro e w1 ⟨rfl, rfl⟩; rw [hy])
          | (go_at_call 11; refine (now_says (HR.out.later (by first | exact But.refl _ _ | exact (But.refl _ _).drew | exact (But.refl _ _).drew.drew | exact (But.refl _ _).drew.drew.drew))).mono ?_; rintro e w1 ⟨rfl, rfl⟩; rw [hx])
          | (go_at_call 24; refine (next_says (K1.out.later (by first | exact But.refl _ _ | exact (But.refl _ _).drew | exact (But.refl _ _).drew.drew | exact (But.refl _ _).drew.drew.drew)) h1.out).mono ?_; rintro e w6 ⟨rfl, R2, b2⟩; obtain ⟨z0, z1, z2, f0, f1, f2, p0, p1⟩ := (HX2.out.kept ((But.refl _ _).drew.trans b2) NZ.out).all; have K2 := Lib.hid R2; have B2 := Lib.hid b2; clear R2 b2)
          | (go_at_call 24; refine (next_says (HR.out.later (by first | exact But.refl _ _ | exact (But.refl _ _).drew | exact (But.refl _ _).drew.drew | exact (But.refl _ _).drew.drew.drew)) h0.out).mono ?_; rintro e w5 ⟨rfl, R1, b1⟩; have HX2 := Lib.hid (HX.out.kept ((But.refl _ _).drew.trans b1) NZ.out); obtain ⟨z0, z1, z2, f0, f1, f2, p0, p1⟩ := HX2.out.all; have K1 := Lib.hid R1; have B1 := Lib.hid b1; clear R1 b1)
          | (go_at_call 34; refine (wrong_says (K1.out.later (by first | exact But.refl _ _ | exact (But.refl _ _).drew | exact (But.refl _ _).drew.drew | exact (But.refl _ _).drew.drew.drew)) fl fc).mono ?_; rintro e w6 ⟨rfl, b2⟩; rw [hf]; obtain ⟨z0, z1, z2, f0, f1, f2, p0, p1⟩ := (HX2.out.kept ((But.refl _ _).drew.trans b2) (fun _ h => h.elim)).all; have B2 := Lib.hid b2; clear b2)
          | (go_at_call 34; refine (wrong_says (HR.out.later (by first | exact But.refl _ _ | exact (But.refl _ _).drew | exact (But.refl _ _).drew.drew | exact (But.refl _ _).drew.drew.drew)) fl fc).mono ?_; rintro e w5 ⟨rfl, b1⟩; rw [hf]; obtain ⟨z0, z1, z2, f0, f1, f2, p0, p1⟩ := (HX.out.kept ((But.refl _ _).drew.trans b1) (fun _ h => h.elim)).all; have B1 := Lib.hid b1; clear b1))
        exact bodyPost_ret (v := .tuple #[i32 x, .agg #[i64 0, i64 0, i64 0]]) (by simp [results, Tryd.results41, go_sem, z0, z1, z2]) rfl (HO.out _ (K1.out.finZ HG.out (Nat.le_succ _) ((Hb.out.drew.mono fun _ h => h.elim).trans B1.out) (zset _ _ _ _ _)).1 (K1.out.finZ HG.out (Nat.le_succ _) ((Hb.out.drew.mono fun _ h => h.elim).trans B1.out) (zset _ _ _ _ _)).2))
end
end Go.Proofs.YtgikcciakbnehaaDoor.Lex
