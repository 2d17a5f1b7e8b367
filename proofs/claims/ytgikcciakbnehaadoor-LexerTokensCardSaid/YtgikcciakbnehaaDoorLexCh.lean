
/-
  Package lexer: lineEnd, character.
-/
import Derived.Test.YtgikcciakbnehaaDoorLexMe
import Derived.Test.YtgikcciakbnehaaDoorLexNm
set_option maxRecDepth 100000
namespace Go.Proofs.YtgikcciakbnehaaDoor.Lex
open Go.Proofs.YtgikcciakbnehaaDoor Go.Proofs.YtgikcciakbnehaaDoor.Ser
open Go.ChangeShapes Go.WideShapes Go.ChangeAt Go.RowKit
section
variable {w : World} {B h g q k : Nat} {L : List Int} {l c : Int} {v : Value} {T : List Tok}
set_option maxRecDepth 100000 in
set_option maxHeartbeats 2000000 in
theorem lineEnd_says (R : Rd w B h g q L k l c v T) (h10 : hd (L.drop k) = 10) (hT : T.length ≤ 1000000) (hB : B ≤ w.heap.size) : Calls Tryd.prog 26 #[.pointer (some ⟨h, 0, none⟩)] w fun e w' =>
    e = .returned (fV (if 8000 < l then errO 2 l c else ⟨0, 0, 0, 1, true, [⟨5, txt [], 0, l, c⟩]⟩)) ∧ Did w w' B h g q L k l c v T (if 8000 < l then errO 2 l c else ⟨0, 0, 0, 1, true, [⟨5, txt [], 0, l, c⟩]⟩) := by
  obtain ⟨r, hr⟩ : ∃ r : Ending → World → Prop, r = fun e w' => e = .returned (fV (if 8000 < l then errO 2 l c else ⟨0, 0, 0, 1, true, [⟨5, txt [], 0, l, c⟩]⟩)) ∧ Did w w' B h g q L k l c v T (if 8000 < l then errO 2 l c else ⟨0, 0, 0, 1, true, [⟨5, txt [], 0, l, c⟩]⟩) := ⟨_, rfl⟩
  rw [← hr]
  have hz := R.lt
  by_cases hl : 8000 < l
  · have hout : ∀ w', But (fun _ => False) w w' → r (.returned (.agg #[i64 l, i64 c, i64 2])) w' := by
      intro w' b
      rw [hr, if_pos hl]
      exact ⟨rfl, (b.mono fun _ h => h.elim), fun e => by simp [errO] at e⟩
    have c2 := cell1 R.c2 (.cells #[i64 0, i64 0, i64 0] 45)
    have c3 := cell1 R.c3 (.cells #[i64 0, i64 0, i64 0] 45)
    have HO := Lib.hid hout
    clear hr hout R
    go_enter Tryd.func26, Tryd.ntmps26
    go_wp2
    exact bodyPost_ret (v := .agg #[i64 l, i64 c, i64 2]) (by simp [results, Tryd.results26, go_sem]) rfl (HO.out _ ((But.refl _ w).alloc _))
  · have hout : ∀ v' w', Rd w' B h g q L (k + 1) (l + 1) 1 v' (T ++ [⟨5, txt [], 0, l, c⟩]) → But (fun i => (i = h ∨ v.ownBlock = some i) ∨ w.heap.size ≤ i) w w' → r (.returned (.agg #[i64 0, i64 0, i64 0])) w' := by
      intro v' w' R' b
      rw [hr, if_neg hl]
      exact ⟨rfl, b, fun _ => ⟨v', R'⟩⟩
    have hz1 := hz.1
    have hne : ¬ h = w.heap.size := by omega
    have hne2 : ¬ w.heap.size = h := by omega
    have hfin : ∀ v4 w4 wf, Rd w4 B h g q L k l c v4 (T ++ [⟨5, txt [], 0, l, c⟩]) → But (fun i => i = h ∨ v.ownBlock = some i) (w.alloc (.cells #[i64 0, i64 0, i64 0] 45)) w4 → NewOwn (w.alloc (.cells #[i64 0, i64 0, i64 0] 45)) v v4 → But (fun i => i = w.heap.size) (((w4.setCell ⟨h, 1, none⟩ (i64 (k + 1))).setCell ⟨h, 2, none⟩ (i64 (l + 1))).setCell ⟨h, 3, none⟩ (i64 1)) wf → r (.returned (.agg #[i64 0, i64 0, i64 0])) wf := by
      intro v4 w4 wf R4 b4 o4 bz
      have hd := setCell_row (setCell_row (setCell_row R4.hd 1 (i64 (k + 1))) 2 (i64 (l + 1))) 3 (i64 1)
      have b5 : But (fun i => i = h) w4 (((w4.setCell ⟨h, 1, none⟩ (i64 (k + 1))).setCell ⟨h, 2, none⟩ (i64 (l + 1))).setCell ⟨h, 3, none⟩ (i64 1)) := ((((But.refl (fun i => i = h) w4).setCell ⟨h, 1, none⟩ rfl _).setCell ⟨h, 2, none⟩ rfl _).setCell ⟨h, 3, none⟩ rfl _)
      have R5 := R4.line (by rw [h10]; decide) (by omega) hd b5
      have b6 : But (fun i => i = h ∨ v.ownBlock = some i) (w.alloc (.cells #[i64 0, i64 0, i64 0] 45)) _ := b4.then b5 (fun _ h => h) (fun _ _ h => .inl h)
      have hw0 : But (fun i => i = h) w (w.alloc (.cells #[i64 0, i64 0, i64 0] 45)) := (But.refl _ w).alloc _
      obtain ⟨R7, b7⟩ := Rd.fin hz (Nat.le_refl _) (by simp) hw0 R5 b6 o4 bz
      exact hout v4 wf R7 b7
    have HF := Lib.hid hfin
    have HR := Lib.hid R
    have HT := Lib.hid hT
    have HB := Lib.hid (show B ≤ (w.alloc (.cells #[i64 0, i64 0, i64 0] 45)).heap.size by simp; omega)
    have c2 := cell1 R.c2 (.cells #[i64 0, i64 0, i64 0] 45)
    have c3 := cell1 R.c3 (.cells #[i64 0, i64 0, i64 0] 45)
    have hk1 : (k : Int) ≤ 65537 := by have := R.lm; have := R.kl; omega
    have hk0 : (0 : Int) ≤ (k : Int) := Int.natCast_nonneg k
    have hl1 := R.lb
    obtain ⟨hl2, hl3⟩ := hl1
    have HZ := Lib.hid (show ∀ (u : World) (S : Nat → Prop), But S (w.alloc (.cells #[i64 0, i64 0, i64 0] 45)) u → ¬ S w.heap.size → Fin6 w u from fun u S b hs => by
      have e := (b.block w.heap.size (by simp) hs).trans (MapKept.heap_alloc w (.cells #[i64 0, i64 0, i64 0] 45)).1
      refine ⟨?_, ?_, ?_, ?_, ?_, ?_⟩
      · rw [cell_of_row _ w.heap.size 0 _ _ _ e]; rfl
      · rw [cell_of_row _ w.heap.size 1 _ _ _ e]; rfl
      · rw [cell_of_row _ w.heap.size 2 _ _ _ e]; rfl
      · simp [World.frozen?, e]
      · simp [World.frozen?, e]
      · simp [World.frozen?, e])
    have HV := Lib.hid hz.2.2
    clear hr hout hfin R hz hT hB
    go_enter Tryd.func26, Tryd.ntmps26
    go_wp2_with (go_at_call 13; refine (add_says (HR.out.later (by exact (But.refl _ w).alloc _)) l c 5 0 ⟨#[]⟩ HT.out HB.out).mono ?_; rintro e w4 ⟨rfl, v4, R4, b4, o4⟩; obtain ⟨z0, z1, z2, f0, f1, f2⟩ := HZ.out _ _ b4 (by intro hs; rcases hs with hs | hs; omega; have := HV.out _ hs; omega); have c1 := R4.c1; have c2 := R4.c2; have c3 := R4.c3; have f4 := R4.fr 1; have f5 := R4.fr 2; have f6 := R4.fr 3; have K4 := Lib.hid R4; have K5 := Lib.hid b4; have K6 := Lib.hid o4; clear R4 b4 o4)
    exact bodyPost_ret (v := .agg #[i64 0, i64 0, i64 0]) (by simp [results, Tryd.results26, go_sem, z0, z1, z2]) rfl (HF.out v4 w4 _ K4.out K5.out K6.out (zset _ _ _ _ _))
theorem add_fin0 {w w3 : World} {B h g q k : Nat} {L : List Int} {l c l0 c0 : Int} {v : Value} {T : List Tok} (R : Rd w3 B h g q L k l c v T) (b : Box2 w w3 l0 c0) (hz : h < w.heap.size ∧ g < w.heap.size ∧ ∀ i, v.ownBlock = some i → i < w.heap.size) (Hb : But (fun i => i = h) w w3) (hB : B ≤ w3.heap.size) (hT : T.length ≤ 1000000) (kind n : Int) (s : ByteArray) :
    Calls Tryd.prog 13 #[.pointer (some ⟨h, 0, none⟩), .agg #[i64 l0, i64 c0], i64 kind, .string s, i64 n] w3 fun e w4 => e = .returned (.tuple #[]) ∧ ∃ v', Fin6 w w4 ∧ ∀ wf, But (fun i => i = w.heap.size) w4 wf → Rd wf B h g q L k l c v' (T ++ [⟨kind, s, n, l0, c0⟩]) ∧ But (fun i => (i = h ∨ v.ownBlock = some i) ∨ w.heap.size ≤ i) w wf := by
  refine (add_says R l0 c0 kind n s hT hB).mono ?_
  rintro e w4 ⟨rfl, v4, R4, b4, o4⟩
  refine ⟨rfl, v4, (b.kept b4 fun i hi => ?_).fin, fun wf bz => Rd.fin hz (Nat.le_refl _) (Nat.lt_of_succ_lt b.lt) Hb R4 b4 o4 bz⟩
  have h1 := hz.1
  have h2 := hz.2.2 i
  rcases hi with hi | hi
  · omega
  · have := h2 hi; omega
theorem meant_bd {T : List Int} (hG : Good T) {q : Int} (hq : q = 39 ∨ q = 34) (hm : (meant q T).2.2 = true) : 0 ≤ (meant q T).1 ∧ (meant q T).1 ≤ 1114111 := by
  have hb := hG.hd_bd
  have hb2 : -2 ≤ hd (T.drop 1) ∧ hd (T.drop 1) ≤ 1114111 := by
    by_cases h1 : 1 < T.length
    · exact (hG.drop 1 h1).hd_bd
    · rw [List.drop_of_length_le (by omega)]; decide
  unfold meant at hm ⊢
  split
  · rename_i h1; rw [if_pos h1] at hm; cases hm
  · rename_i h1; rw [if_neg h1] at hm
    split
    · simp only; omega
    · rename_i h2; rw [if_neg h2] at hm
      split
      · rename_i h3; simp only
        rcases h3 with h3 | h3
        · omega
        · omega
      · rename_i h3; rw [if_neg h3] at hm
        split
        · simp only; omega
        · rename_i h4; rw [if_neg h4] at hm; cases hm
theorem wrong_ne (T : List Int) (l c fl fc : Int) : ((wrong T l c fl fc).e != 0) = true := by unfold wrong errO; split <;> rfl
set_option maxRecDepth 100000 in
set_option maxHeartbeats 4000000 in
theorem character_says (R : Rd w B h g q L k l c v T) (h0 : 0 ≤ hd (L.drop k)) (hT : T.length ≤ 1000000) (hB : B ≤ w.heap.size) : Calls Tryd.prog 31 #[.pointer (some ⟨h, 0, none⟩)] w fun e w' => e = .returned (fV (charO (L.drop k) l c)) ∧ Did w w' B h g q L k l c v T (charO (L.drop k) l c) := by
  obtain ⟨r, hr⟩ : ∃ r : Ending → World → Prop, r = fun e w' => e = .returned (fV (charO (L.drop k) l c)) ∧ Did w w' B h g q L k l c v T (charO (L.drop k) l c) := ⟨_, rfl⟩
  rw [← hr]
  have c2 := cell1 R.c2 (.cells #[i64 0, i64 0, i64 0] 45)
  have c3 := cell1 R.c3 (.cells #[i64 0, i64 0, i64 0] 45)
  have HZ := Lib.hid R.lt
  have hz := R.lt.1
  have HT := Lib.hid hT
  have HB := Lib.hid hB
  have H0 := Lib.hid h0
  obtain ⟨w2, hw2⟩ : ∃ w2, w2 = (w.alloc (.cells #[i64 0, i64 0, i64 0] 45)).alloc (.cells #[i64 l, i64 c] 40) := ⟨_, rfl⟩
  have b0 : But (fun _ => False) w w2 := by rw [hw2]; exact ((But.refl _ w).alloc _).alloc _
  have HX := Lib.hid (show Box2 w w2 l c by rw [hw2]; exact ⟨(Box2.begin w l c).z, (Box2.begin w l c).p⟩)
  have HR := Lib.hid (R.later b0)
  have Hb := Lib.hid (b0.mono (T := fun i => i = h) fun _ h => h.elim)
  have NZ := Lib.hid (show ∀ i, i = h → i ≠ w.heap.size ∧ i ≠ w.heap.size + 1 by intro i hi; omega)
  have m1 := R.good.more k R.kl h0
  have hG1 := R.good.drop (k + 1) m1
  have hch : charO (L.drop k) l c = if (meant 39 (L.drop (k + 1))).2.2 = false then wrong (L.drop (k + 1 + (meant 39 (L.drop (k + 1))).2.1)) l (c + 1 + (meant 39 (L.drop (k + 1))).2.1) l c
      else if hd (L.drop (k + 1 + (meant 39 (L.drop (k + 1))).2.1)) ≠ 39 then wrong (L.drop (k + 1 + (meant 39 (L.drop (k + 1))).2.1)) l (c + 1 + (meant 39 (L.drop (k + 1))).2.1) l c
      else okO (2 + (meant 39 (L.drop (k + 1))).2.1) [⟨2, txt [], (meant 39 (L.drop (k + 1))).1, l, c⟩] := by
    unfold charO
    simp only [List.drop_drop, Nat.add_assoc]
  have hmb := fun hm => meant_bd (q := 39) hG1 (.inl rfl) hm
  have HM := Lib.hid (fun (u : World) (R' : Rd u B h g q L (k + 1) l (c + 1) v T) => meant_says R' l c 39 (.inl rfl))
  have hmA : meA (L.drop (k + 1)) 39 l (c + 1) l c = if (meant 39 (L.drop (k + 1))).2.2 then .returned (.tuple #[i32 (meant 39 (L.drop (k + 1))).1, .agg #[i64 0, i64 0, i64 0]]) else .returned (.tuple #[i32 0, fV (wrong (L.drop (k + 1 + (meant 39 (L.drop (k + 1))).2.1)) l (c + 1 + (meant 39 (L.drop (k + 1))).2.1) l c)]) := by
    unfold meA; rw [List.drop_drop]
  obtain ⟨⟨mv, mk, mo⟩, hm⟩ : ∃ m, meant 39 (L.drop (k + 1)) = m := ⟨_, rfl⟩
  rw [hm] at hch hmb hmA
  have HM' : Hid (∀ (u : World), Rd u B h g q L (k + 1) l (c + 1) v T → Calls Tryd.prog 41 #[.pointer (some ⟨h, 0, none⟩), .agg #[i64 l, i64 c], i32 39] u fun e w' => e = meA (L.drop (k + 1)) 39 l (c + 1) l c ∧ Rd w' B h g q L (k + 1 + mk) l (c + 1 + mk) v T ∧ But (fun i => i = h) u w') := Lib.hid (by have := HM.out; rw [hm] at this; exact this)
  clear HM hm hG1
  simp only at hch hmb hmA
  have hbadF : ∀ o : Out, charO (L.drop k) l c = o → o.e ≠ 0 → ∀ w', But (fun i => i = h ∨ w.heap.size ≤ i) w w' → r (.returned (fV o)) w' := by
    intro o ho he w' b
    rw [hr, ho]
    exact ⟨rfl, (b.mono fun i hi => hi.elim (fun e => .inl (.inl e)) .inr), fun e => absurd e he⟩
  cases mo with
  | false =>
    rw [if_pos rfl] at hch
    rw [if_neg (by decide)] at hmA
    have hne := wrong_ne (L.drop (k + 1 + mk)) l (c + 1 + mk) l c
    have HF0 := hbadF _ hch (by simpa using hne)
    obtain ⟨o, ho⟩ : ∃ o, wrong (L.drop (k + 1 + mk)) l (c + 1 + mk) l c = o := ⟨_, rfl⟩
    rw [ho] at HF0 hne hmA
    obtain ⟨a, ha⟩ : ∃ a, o.el = a := ⟨_, rfl⟩
    obtain ⟨b, hb⟩ : ∃ b, o.ec = b := ⟨_, rfl⟩
    obtain ⟨d, hd'⟩ : ∃ d, o.e = d := ⟨_, rfl⟩
    unfold fV at HF0 hmA
    rw [ha, hb, hd'] at HF0 hmA
    rw [hd'] at hne
    have HF := Lib.hid HF0
    clear hr hbadF HF0 hch ho ha hb hd' R hmb hT hB h0 m1
    go_enter Tryd.func31, Tryd.ntmps31
    go_upto_region 2 with fail
    rw [← hw2]
    clear hw2
    have p0 := HX.out.p0
    have p1 := HX.out.p1
    go_wp2_with (first
      | (go_at_call 13; refine (HA.out _ K6.out HX6.out B6.out).mono ?_; rintro e w7 ⟨rfl, ⟨z0, z1, z2, f0, f1, f2⟩, K⟩; have K := Lib.hid K)
      | (go_at_call 24; refine (next_says (K4.out.later (by first | exact But.refl _ _ | exact (But.refl _ _).drew | exact (But.refl _ _).alloc _ | exact ((But.refl _ _).alloc _).drew | exact ((But.refl _ _).alloc _).drew.drew)) HN.out).mono ?_; rintro e w6 ⟨rfl, R6, b6⟩; have K6 := Lib.hid R6; have B6 := Lib.hid (((B4.out.alloc (.cells #[i64 a, i64 b, i64 d] 45)).drew).trans b6); have HX6 := Lib.hid (HX4.out.kept ((((But.refl _ _).alloc (.cells #[i64 a, i64 b, i64 d] 45)).drew).trans b6) NZ.out); have p0 := HX6.out.p0; have p1 := HX6.out.p1; clear R6 b6)
      | (go_at_call 34; refine (wrong_says (K4.out.later (by first | exact But.refl _ _ | exact (But.refl _ _).drew | exact (But.refl _ _).alloc _ | exact ((But.refl _ _).alloc _).drew | exact ((But.refl _ _).alloc _).drew.drew)) l c).mono ?_; rintro e w6 ⟨rfl, b6⟩; rw [hf]; have B6 := Lib.hid (((B4.out.alloc (.cells #[i64 a, i64 b, i64 d] 45)).drew).trans (b6.mono fun _ h => h.elim)); obtain ⟨z0, z1, z2, f0, f1, f2⟩ := (HX4.out.kept ((((But.refl _ _).alloc (.cells #[i64 a, i64 b, i64 d] 45)).drew).trans b6) (fun _ h => h.elim)).fin; clear b6)
      | (go_at_call 11; refine (now_says (K4.out.later (by first | exact But.refl _ _ | exact (But.refl _ _).drew | exact (But.refl _ _).alloc _ | exact ((But.refl _ _).alloc _).drew | exact ((But.refl _ _).alloc _).drew.drew))).mono ?_; rintro e w1 ⟨rfl, rfl⟩; rw [hx])
      | (go_at_call 41; refine (HM'.out _ K1.out).mono ?_; rintro e w4 ⟨rfl, R4, b4⟩; rw [hmA]; have K4 := Lib.hid R4; have B4 := Lib.hid (B1.out.trans b4); have HX4 := Lib.hid (HX1.out.kept b4 NZ.out); obtain ⟨z0, z1, z2, f0, f1, f2⟩ := (HX4.out.kept ((But.refl (fun _ => False) _).alloc (.cells #[i64 a, i64 b, i64 d] 45)) (fun _ h => h.elim)).fin; have p0 := cell1 HX4.out.p0 (.cells #[i64 a, i64 b, i64 d] 45); have p1 := cell1 HX4.out.p1 (.cells #[i64 a, i64 b, i64 d] 45); clear R4 b4)
      | (go_at_call 24; refine (next_says HR.out H0.out).mono ?_; rintro e w3 ⟨rfl, R1, b1⟩; have K1 := Lib.hid R1; have B1 := Lib.hid (Hb.out.trans b1); have HX1 := Lib.hid (HX.out.kept b1 NZ.out); have p0 := HX1.out.p0; have p1 := HX1.out.p1; clear R1 b1))
    exact bodyPost_ret (v := .agg #[i64 a, i64 b, i64 d]) (by simp [results, Tryd.results31, go_sem, z0, z1, z2]) rfl (HF.out _ (But.setCell (But.setCell (But.setCell ((B4.out.alloc (.cells #[i64 a, i64 b, i64 d] 45)).mono fun i hi => Or.inl hi) ⟨w.heap.size, 0, none⟩ (.inr (Nat.le_refl _)) _) ⟨w.heap.size, 1, none⟩ (.inr (Nat.le_refl _)) _) ⟨w.heap.size, 2, none⟩ (.inr (Nat.le_refl _)) _))
  | true =>
    rw [if_pos rfl] at hmA
    rw [if_neg (by decide)] at hch
    obtain ⟨v0, v1⟩ := hmb rfl
    obtain ⟨x, hx⟩ : ∃ x, hd (L.drop (k + 1 + mk)) = x := ⟨_, rfl⟩
    rw [hx] at hch
    by_cases hx39 : x = 39
    · subst hx39
      rw [if_neg (by simp)] at hch
      have HN := Lib.hid (show 0 ≤ hd (L.drop (k + 1 + mk)) by rw [hx]; decide)
      have hgood : ∀ v' w', Rd w' B h g q L (k + 1 + mk + 1) l (c + 1 + mk + 1) v' (T ++ [⟨2, txt [], mv, l, c⟩]) → But (fun i => (i = h ∨ v.ownBlock = some i) ∨ w.heap.size ≤ i) w w' → r (.returned (.agg #[i64 0, i64 0, i64 0])) w' := by
        intro v' w' R' b
        rw [hr, hch]
        refine ⟨rfl, b, fun _ => ⟨v', ?_⟩⟩
        have e1 : k + (okO (2 + mk) [⟨2, txt [], mv, l, c⟩]).k = k + 1 + mk + 1 := by show k + (2 + mk) = _; omega
        have e2 : (okO (2 + mk) [⟨2, txt [], mv, l, c⟩]).col c = c + 1 + mk + 1 := by show c + ((2 + mk : Nat) : Int) = _; omega
        rw [e1, e2]
        exact R'
      have HA := Lib.hid (fun (u : World) (R' : Rd u B h g q L (k + 1 + mk + 1) l (c + 1 + mk + 1) v T) (X' : Box2 w u l c) (b' : But (fun i => i = h) w u) => (add_fin0 R' X' HZ.out b' (Nat.le_trans HB.out b'.size) HT.out 2 mv ⟨#[]⟩).mono fun e w4 => And.imp_right fun ⟨v', z, k1⟩ => (⟨z, (k1 _ (zset w4 w.heap.size (i64 0) (i64 0) (i64 0))).elim fun R b => hgood v' _ R b⟩ : Fin6 w w4 ∧ r (.returned (.agg #[i64 0, i64 0, i64 0])) (((w4.setCell ⟨w.heap.size, 0, none⟩ (i64 0)).setCell ⟨w.heap.size, 1, none⟩ (i64 0)).setCell ⟨w.heap.size, 2, none⟩ (i64 0))))
      clear hr hbadF hgood hch R hmb hT hB h0 m1
      go_enter Tryd.func31, Tryd.ntmps31
      go_upto_region 2 with fail
      rw [← hw2]
      clear hw2
      have p0 := HX.out.p0
      have p1 := HX.out.p1
      go_wp2_with (first
        | (go_at_call 13; refine (HA.out _ K6.out HX6.out B6.out).mono ?_; rintro e w7 ⟨rfl, ⟨z0, z1, z2, f0, f1, f2⟩, K⟩; have K := Lib.hid K)
        | (go_at_call 24; refine (next_says (K4.out.later (by first | exact But.refl _ _ | exact (But.refl _ _).drew | exact (But.refl _ _).alloc _ | exact ((But.refl _ _).alloc _).drew | exact ((But.refl _ _).alloc _).drew.drew)) HN.out).mono ?_; rintro e w6 ⟨rfl, R6, b6⟩; have K6 := Lib.hid R6; have B6 := Lib.hid (((B4.out.alloc (.cells #[i64 0, i64 0, i64 0] 45)).drew).trans b6); have HX6 := Lib.hid (HX4.out.kept ((((But.refl _ _).alloc (.cells #[i64 0, i64 0, i64 0] 45)).drew).trans b6) NZ.out); have p0 := HX6.out.p0; have p1 := HX6.out.p1; clear R6 b6)
        | (go_at_call 34; refine (wrong_says (K4.out.later (by first | exact But.refl _ _ | exact (But.refl _ _).drew | exact (But.refl _ _).alloc _ | exact ((But.refl _ _).alloc _).drew | exact ((But.refl _ _).alloc _).drew.drew)) l c).mono ?_; rintro e w6 ⟨rfl, b6⟩; rw [hf]; have B6 := Lib.hid (((B4.out.alloc (.cells #[i64 0, i64 0, i64 0] 45)).drew).trans (b6.mono fun _ h => h.elim)); obtain ⟨z0, z1, z2, f0, f1, f2⟩ := (HX4.out.kept ((((But.refl _ _).alloc (.cells #[i64 0, i64 0, i64 0] 45)).drew).trans b6) (fun _ h => h.elim)).fin; clear b6)
        | (go_at_call 11; refine (now_says (K4.out.later (by first | exact But.refl _ _ | exact (But.refl _ _).drew | exact (But.refl _ _).alloc _ | exact ((But.refl _ _).alloc _).drew | exact ((But.refl _ _).alloc _).drew.drew))).mono ?_; rintro e w1 ⟨rfl, rfl⟩; rw [hx])
        | (go_at_call 41; refine (HM'.out _ K1.out).mono ?_; rintro e w4 ⟨rfl, R4, b4⟩; rw [hmA]; have K4 := Lib.hid R4; have B4 := Lib.hid (B1.out.trans b4); have HX4 := Lib.hid (HX1.out.kept b4 NZ.out); obtain ⟨z0, z1, z2, f0, f1, f2⟩ := (HX4.out.kept ((But.refl (fun _ => False) _).alloc (.cells #[i64 0, i64 0, i64 0] 45)) (fun _ h => h.elim)).fin; have p0 := cell1 HX4.out.p0 (.cells #[i64 0, i64 0, i64 0] 45); have p1 := cell1 HX4.out.p1 (.cells #[i64 0, i64 0, i64 0] 45); clear R4 b4)
        | (go_at_call 24; refine (next_says HR.out H0.out).mono ?_; rintro e w3 ⟨rfl, R1, b1⟩; have K1 := Lib.hid R1; have B1 := Lib.hid (Hb.out.trans b1); have HX1 := Lib.hid (HX.out.kept b1 NZ.out); have p0 := HX1.out.p0; have p1 := HX1.out.p1; clear R1 b1))
      exact bodyPost_ret (v := .agg #[i64 0, i64 0, i64 0]) (by simp [results, Tryd.results31, go_sem, z0, z1, z2]) rfl K.out
    · rw [if_pos hx39] at hch
      have hne := wrong_ne (L.drop (k + 1 + mk)) l (c + 1 + mk) l c
      have HF0 := hbadF _ hch (by simpa using hne)
      obtain ⟨a, b, d, hf⟩ := fV_wrong (L.drop (k + 1 + mk)) l (c + 1 + mk) l c
      rw [hf] at HF0
      have HF := Lib.hid HF0
      have hn39 : (x != 39) = true := by simpa using hx39
      clear hr hbadF HF0 hch hne R hmb hT hB h0 m1 hx39
      go_enter Tryd.func31, Tryd.ntmps31
      go_upto_region 2 with fail
      rw [← hw2]
      clear hw2
      have p0 := HX.out.p0
      have p1 := HX.out.p1
      go_wp2_with (first
        | (go_at_call 13; refine (HA.out _ K6.out HX6.out B6.out).mono ?_; rintro e w7 ⟨rfl, ⟨z0, z1, z2, f0, f1, f2⟩, K⟩; have K := Lib.hid K)
        | (go_at_call 24; refine (next_says (K4.out.later (by first | exact But.refl _ _ | exact (But.refl _ _).drew | exact (But.refl _ _).alloc _ | exact ((But.refl _ _).alloc _).drew | exact ((But.refl _ _).alloc _).drew.drew)) HN.out).mono ?_; rintro e w6 ⟨rfl, R6, b6⟩; have K6 := Lib.hid R6; have B6 := Lib.hid (((B4.out.alloc (.cells #[i64 0, i64 0, i64 0] 45)).drew).trans b6); have HX6 := Lib.hid (HX4.out.kept ((((But.refl _ _).alloc (.cells #[i64 0, i64 0, i64 0] 45)).drew).trans b6) NZ.out); have p0 := HX6.out.p0; have p1 := HX6.out.p1; clear R6 b6)
        | (go_at_call 34; refine (wrong_says (K4.out.later (by first | exact But.refl _ _ | exact (But.refl _ _).drew | exact (But.refl _ _).alloc _ | exact ((But.refl _ _).alloc _).drew | exact ((But.refl _ _).alloc _).drew.drew)) l c).mono ?_; rintro e w6 ⟨rfl, b6⟩; rw [hf]; have B6 := Lib.hid (((B4.out.alloc (.cells #[i64 0, i64 0, i64 0] 45)).drew).trans (b6.mono fun _ h => h.elim)); obtain ⟨z0, z1, z2, f0, f1, f2⟩ := (HX4.out.kept ((((But.refl _ _).alloc (.cells #[i64 0, i64 0, i64 0] 45)).drew).trans b6) (fun _ h => h.elim)).fin; clear b6)
        | (go_at_call 11; refine (now_says (K4.out.later (by first | exact But.refl _ _ | exact (But.refl _ _).drew | exact (But.refl _ _).alloc _ | exact ((But.refl _ _).alloc _).drew | exact ((But.refl _ _).alloc _).drew.drew))).mono ?_; rintro e w1 ⟨rfl, rfl⟩; rw [hx])
        | (go_at_call 41; refine (HM'.out _ K1.out).mono ?_; rintro e w4 ⟨rfl, R4, b4⟩; rw [hmA]; have K4 := Lib.hid R4; have B4 := Lib.hid (B1.out.trans b4); have HX4 := Lib.hid (HX1.out.kept b4 NZ.out); obtain ⟨z0, z1, z2, f0, f1, f2⟩ := (HX4.out.kept ((But.refl (fun _ => False) _).alloc (.cells #[i64 0, i64 0, i64 0] 45)) (fun _ h => h.elim)).fin; have p0 := cell1 HX4.out.p0 (.cells #[i64 0, i64 0, i64 0] 45); have p1 := cell1 HX4.out.p1 (.cells #[i64 0, i64 0, i64 0] 45); clear R4 b4)
        | (go_at_call 24; refine (next_says HR.out H0.out).mono ?_; rintro e w3 ⟨rfl, R1, b1⟩; have K1 := Lib.hid R1; have B1 := Lib.hid (Hb.out.trans b1); have HX1 := Lib.hid (HX.out.kept b1 NZ.out); have p0 := HX1.out.p0; have p1 := HX1.out.p1; clear R1 b1))
      exact bodyPost_ret (v := .agg #[i64 a, i64 b, i64 d]) (by simp [results, Tryd.results31, go_sem, z0, z1, z2]) rfl (HF.out _ (But.setCell (But.setCell (But.setCell (B6.out.mono fun i hi => Or.inl hi) ⟨w.heap.size, 0, none⟩ (.inr (Nat.le_refl _)) _) ⟨w.heap.size, 1, none⟩ (.inr (Nat.le_refl _)) _) ⟨w.heap.size, 2, none⟩ (.inr (Nat.le_refl _)) _))
end
end Go.Proofs.YtgikcciakbnehaaDoor.Lex
