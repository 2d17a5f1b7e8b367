
/-
  Package lexer: quoted.
-/
import Derived.Test.YtgikcciakbnehaaDoorLexCh
import Derived.Test.YtgikcciakbnehaaDoorLexBd
set_option maxRecDepth 100000
namespace Go.Proofs.YtgikcciakbnehaaDoor.Lex
open Go.Proofs.YtgikcciakbnehaaDoor Go.Proofs.YtgikcciakbnehaaDoor.Ser
open Go.ChangeShapes Go.WideShapes Go.ChangeAt Go.RowKit
/-- In the midst of a string: the reader, the blocks, the builder in block b that holds ns. -/
structure Qu (w wr : World) (B h g q : Nat) (L : List Int) (p : Nat) (l c d : Int) (v : Value) (T : List Tok) (b : Nat) (ns : List Int) : Prop where
  R : Rd wr B h g q L p l d v T
  bb : But (fun i => i = h) w wr
  X : Box2 w wr l c
  D : Bld b (Lib.byteCells (ns.flatMap Lib.encodeRune)) wr
  lo : w.heap.size + 1 < b ∧ h < w.heap.size ∧ g < w.heap.size ∧ ∀ i, v.ownBlock = some i → i < w.heap.size
section
variable {w wr wx : World} {B h g q p p' : Nat} {L : List Int} {l c d d' : Int} {v : Value} {T : List Tok} {b : Nat} {ns : List Int}
theorem Qu.move (Q : Qu w wr B h g q L p l c d v T b ns) (R' : Rd wx B h g q L p' l d' v T) (bx : But (fun i => i = h) wr wx) : Qu w wx B h g q L p' l c d' v T b ns :=
  ⟨R', Q.bb.trans bx, Q.X.kept bx (fun i hi => by have := Q.lo; omega), bld_kept Q.D bx (fun i hi => by have := Q.lo; omega), Q.lo⟩
theorem Qu.still (Q : Qu w wr B h g q L p l c d v T b ns) (bx : But (fun _ => False) wr wx) : Qu w wx B h g q L p l c d v T b ns :=
  Q.move (Q.R.later bx) (bx.mono fun _ h => h.elim)
theorem but_low (hb : Below b wr wx) : But (fun i => b ≤ i) wr wx := ⟨hb.os, hb.tape, hb.output, hb.size, fun i _ hn => hb.block i (by omega)⟩
theorem Qu.low (Q : Qu w wr B h g q L p l c d v T b ns) (hb : Below b wr wx) : Rd wx B h g q L p l d v T ∧ But (fun i => i = h) w wx ∧ Box2 w wx l c := by
  obtain ⟨h1, h2, h3, h4⟩ := Q.lo
  have bl := but_low hb
  exact ⟨Q.R.kept bl (by omega) (by omega) (fun i hi => by have := h4 i hi; omega), Q.bb.then bl (fun _ h => h) (fun i hi hs => by omega), Q.X.kept bl (fun i hi => by omega)⟩
theorem Qu.write (Q : Qu w wr B h g q L p l c d v T b ns) (hb : Below b wr wx) {ns' : List Int} (D' : Bld b (Lib.byteCells (ns'.flatMap Lib.encodeRune)) wx) : Qu w wx B h g q L p l c d v T b ns' := by
  obtain ⟨R, bb, X⟩ := Q.low hb
  exact ⟨R, bb, X, D', Q.lo⟩
end
theorem meant_k (q : Int) (T : List Int) (hm : (meant q T).2.2 = true) : 1 ≤ (meant q T).2.1 := by
  unfold meant at hm ⊢
  repeat' split
  all_goals simp_all
theorem flat_len : ∀ ns : List Int, (ns.flatMap Lib.encodeRune).length ≤ 4 * ns.length
  | [] => by simp
  | n :: ns => by
    have := flat_len ns
    have h4 : (Lib.encodeRune n).length ≤ 4 := by
      have := (Lib.runeCells_le n).2
      unfold Lib.runeCells at this
      unfold Lib.encodeRune
      simpa using this
    rw [List.flatMap_cons, List.length_append, List.length_cons]
    omega
theorem byte_snoc (ns : List Int) (x : Int) : Lib.byteCells (ns.flatMap Lib.encodeRune) ++ Lib.runeCells x = Lib.byteCells ((ns ++ [x]).flatMap Lib.encodeRune) := by
  rw [List.flatMap_append, List.flatMap_cons, List.flatMap_nil, List.append_nil, ← Lib.byteCells_encodeRune]
  unfold Lib.byteCells
  rw [List.map_append]
section
variable {w : World} {B h g q k : Nat} {L : List Int} {l c : Int} {v : Value} {T : List Tok}
set_option maxRecDepth 100000 in
set_option maxHeartbeats 4000000 in
theorem quoted_says (R : Rd w B h g q L k l c v T) (h0 : 0 ≤ hd (L.drop k)) (hT : T.length ≤ 1000000) (hB : B ≤ w.heap.size) : Calls Tryd.prog 32 #[.pointer (some ⟨h, 0, none⟩)] w fun e w' => e = .returned (fV (strO (L.drop k) l c)) ∧ Did w w' B h g q L k l c v T (strO (L.drop k) l c) := by
  obtain ⟨r, hr⟩ : ∃ r : Ending → World → Prop, r = fun e w' => e = .returned (fV (strO (L.drop k) l c)) ∧ Did w w' B h g q L k l c v T (strO (L.drop k) l c) := ⟨_, rfl⟩
  rw [← hr]
  have c2 := cell1 R.c2 (.cells #[i64 0, i64 0, i64 0] 45)
  have c3 := cell1 R.c3 (.cells #[i64 0, i64 0, i64 0] 45)
  have HZ := Lib.hid R.lt
  have hz := R.lt
  have HT := Lib.hid hT
  have HB := Lib.hid hB
  have H0 := Lib.hid h0
  have HG := Lib.hid R.good
  have HM := Lib.hid R.lm
  obtain ⟨w2, hw2⟩ : ∃ w2, w2 = (w.alloc (.cells #[i64 0, i64 0, i64 0] 45)).alloc (.cells #[i64 l, i64 c] 40) := ⟨_, rfl⟩
  have b0 : But (fun _ => False) w w2 := by rw [hw2]; exact ((But.refl _ w).alloc _).alloc _
  have HX := Lib.hid (show Box2 w w2 l c by rw [hw2]; exact ⟨(Box2.begin w l c).z, (Box2.begin w l c).p⟩)
  have HR := Lib.hid (R.later b0)
  have Hb := Lib.hid (b0.mono (T := fun i => i = h) fun _ h => h.elim)
  have NZ := Lib.hid (show ∀ i, i = h → i ≠ w.heap.size ∧ i ≠ w.heap.size + 1 by intro i hi; have := hz.1; omega)
  have m1 := R.good.more k R.kl h0
  have hbadF : ∀ o : Out, strO (L.drop k) l c = o → o.e ≠ 0 → ∀ w', But (fun i => i = h ∨ w.heap.size ≤ i) w w' → r (.returned (fV o)) w' := by
    intro o ho he w' b
    rw [hr, ho]
    exact ⟨rfl, (b.mono fun i hi => hi.elim (fun e => .inl (.inl e)) .inr), fun e => absurd e he⟩
  have hgood : ∀ j ns, strGo (L.drop k).length (L.drop k) 1 [] = (ns, j + 1, true) → ∀ v' w', Rd w' B h g q L (k + j + 1) l (c + j + 1) v' (T ++ [⟨3, txt ns, 0, l, c⟩]) → But (fun i => (i = h ∨ v.ownBlock = some i) ∨ w.heap.size ≤ i) w w' → r (.returned (.agg #[i64 0, i64 0, i64 0])) w' := by
    intro j ns hs v' w' R' b
    have ho : strO (L.drop k) l c = okO (j + 1) [⟨3, txt ns, 0, l, c⟩] := by unfold strO; rw [hs]; rfl
    rw [hr, ho]
    refine ⟨rfl, b, fun _ => ⟨v', ?_⟩⟩
    have e1 : k + (okO (j + 1) [⟨3, txt ns, 0, l, c⟩]).k = k + j + 1 := by show k + (j + 1) = _; omega
    have e2 : (okO (j + 1) [⟨3, txt ns, 0, l, c⟩]).col c = c + j + 1 := by show c + ((j + 1 : Nat) : Int) = _; omega
    rw [e1, e2]
    exact R'
  have hbad : ∀ j ns, strGo (L.drop k).length (L.drop k) 1 [] = (ns, j, false) → strO (L.drop k) l c = wrong (L.drop (k + j)) l (c + j) l c := by
    intro j ns hs
    unfold strO
    rw [hs]
    simp [List.drop_drop]
  have HBF := Lib.hid hbadF; have HGF := Lib.hid hgood; have HBD := Lib.hid hbad
  clear hbadF hgood hbad hr b0
  go_enter Tryd.func32, Tryd.ntmps32
  go_upto_region 2 with fail
  rw [← hw2]
  clear hw2 c2 c3
  go_upto_region 4 with (go_at_call 24; refine (next_says HR.out H0.out).mono ?_; rintro e w3 ⟨rfl, R1, b1⟩)
  have Q0 : Qu w (w3.alloc (.cells #[.pointer none, .slice none 0 0] 72)) B h g q L (k + 1) l c (c + 1) v T w3.heap.size [] :=
    ⟨R1.later ((But.refl _ w3).alloc _), (Hb.out.trans b1).alloc _, HX.out.kept (b1.alloc _) NZ.out, bld_new w3, by have := (HX.out.kept b1 NZ.out).lt; exact ⟨this, HZ.out⟩⟩
  obtain ⟨b, hbb⟩ : ∃ b, w3.heap.size = b := ⟨_, rfl⟩
  rw [hbb] at Q0 ⊢
  obtain ⟨w4, hw4⟩ : ∃ w4, w4 = (w3.alloc (.cells #[.pointer none, .slice none 0 0] 72)) := ⟨_, rfl⟩
  rw [← hw4] at Q0 ⊢
  have HQ0 := Lib.hid Q0
  clear hw4 Q0 R1 b1 HR Hb HX R
  go_wp2_with fail
  go_loopw [] (fun wr => ∃ (j : Nat) (ns : List Int) (f : Nat), strGo f (L.drop k) j ns = strGo (L.drop k).length (L.drop k) 1 [] ∧ (L.drop k).length ≤ f + j ∧ k + j < L.length ∧ ns.length ≤ j ∧ Qu w wr B h g q L (k + j) l c (c + j) v T b ns) (fun wr => Lex.left h L.length wr)
  case atStart => exact ⟨1, [], (L.drop k).length, rfl, by omega, m1, by simp, HQ0.out⟩
  case round =>
    obtain ⟨j, ns, f, hs, hf, hj, hns, Q⟩ := hrel
    have HQ := Lib.hid Q
    have HR := Lib.hid Q.R
    have HL := Lib.hid Q.R.left
    have hlL : (L.drop k).length = L.length - k := by rw [List.length_drop]
    obtain ⟨f, rfl⟩ : ∃ f', f = f' + 1 := ⟨f - 1, by omega⟩
    have p0 := Q.X.p0
    have p1 := Q.X.p1
    have hs1 : strGo (L.drop k).length (L.drop k) 1 [] = if hd (L.drop (k + j)) = 34 then (ns, j + 1, true) else if (meant 34 (L.drop (k + j))).2.2 then strGo f (L.drop k) (j + (meant 34 (L.drop (k + j))).2.1) (ns ++ [(meant 34 (L.drop (k + j))).1]) else (ns, j + (meant 34 (L.drop (k + j))).2.1, false) := by
      rw [← hs]
      show (if hd ((L.drop k).drop j) = 34 then _ else _) = _
      rw [List.drop_drop]
    have hG1 := HG.out.drop (k + j) hj
    have hmb := fun hm => meant_bd (q := 34) hG1 (.inr rfl) hm
    have hmk := meant_k 34 (L.drop (k + j))
    have HME := Lib.hid (meant_says HR.out l c 34 (.inr rfl))
    have hmA : meA (L.drop (k + j)) 34 l (c + j) l c = if (meant 34 (L.drop (k + j))).2.2 then .returned (.tuple #[i32 (meant 34 (L.drop (k + j))).1, .agg #[i64 0, i64 0, i64 0]]) else .returned (.tuple #[i32 0, fV (wrong (L.drop (k + j + (meant 34 (L.drop (k + j))).2.1)) l (c + j + (meant 34 (L.drop (k + j))).2.1) l c)]) := by
      unfold meA; rw [List.drop_drop]
    clear Q hs hG1
    obtain ⟨x, hx⟩ : ∃ x, hd (L.drop (k + j)) = x := ⟨_, rfl⟩
    rw [hx] at hs1
    by_cases h34 : x = 34
    · subst h34
      rw [if_pos rfl] at hs1
      have HN := Lib.hid (show 0 ≤ hd (L.drop (k + j)) by rw [hx]; decide)
      have HF := Lib.hid (HGF.out j ns hs1)
      have HS := Lib.hid (fun (u : World) (Q : Qu w u B h g q L (k + j + 1) l c (c + j + 1) v T b ns) => string_says Q.D)
      have HA := Lib.hid (fun (u : World) (R' : Rd u B h g q L (k + j + 1) l (c + j + 1) v T) (X' : Box2 w u l c) (b' : But (fun i => i = h) w u) => (add_fin0 R' X' HZ.out b' (Nat.le_trans HB.out b'.size) HT.out 3 0 (txt ns)).mono fun e w4 => And.imp_right fun ⟨v', z, k1⟩ => (⟨z, (k1 _ (zset w4 w.heap.size (i64 0) (i64 0) (i64 0))).elim fun R b => HF.out v' _ R b⟩ : Fin6 w w4 ∧ r (.returned (.agg #[i64 0, i64 0, i64 0])) (((w4.setCell ⟨w.heap.size, 0, none⟩ (i64 0)).setCell ⟨w.heap.size, 1, none⟩ (i64 0)).setCell ⟨w.heap.size, 2, none⟩ (i64 0))))
      clear hs1 HF hmb hmk HME hmA HGF HBD HBF
      go_upto_region 10 with (first
        | (go_at_call 24; refine (next_says (HR.out.later (by first | exact But.refl _ _ | exact (But.refl _ _).drew | exact (But.refl _ _).alloc _ | exact ((But.refl _ _).alloc _).drew | exact ((But.refl _ _).alloc _).drew.drew)) HN.out).mono ?_; rintro e w6 ⟨rfl, R6, b6⟩)
        | (go_at_call 11; refine (now_says (HR.out.later (by first | exact But.refl _ _ | exact (But.refl _ _).drew | exact (But.refl _ _).alloc _ | exact ((But.refl _ _).alloc _).drew | exact ((But.refl _ _).alloc _).drew.drew))).mono ?_; rintro e w1 ⟨rfl, rfl⟩; rw [hx]))
      have HQ6 := Lib.hid ((HQ.out.still (But.refl _ wr).drew).move R6 b6)
      have p0 := HQ6.out.X.p0
      have p1 := HQ6.out.X.p1
      clear R6 b6 HQ HR HL
      go_region_with (first
        | (go_at_call 13; refine (HA.out _ K8.out.1 K8.out.2.2 K8.out.2.1).mono ?_; rintro e w9 ⟨rfl, ⟨z0, z1, z2, f0, f1, f2⟩, K⟩; have K := Lib.hid K)
        | (go_at_call 43; refine (HS.out _ (HQ6.out.still (But.refl _ _).drew)).mono ?_; rintro e w8 ⟨rfl, b8⟩; have K8 := Lib.hid ((HQ6.out.still (But.refl _ _).drew).low b8); have p0 := K8.out.2.2.p0; have p1 := K8.out.2.2.p1; clear b8))
      all_goals
        go_wp2
        exact bodyPost_ret (v := .agg #[i64 0, i64 0, i64 0]) (by simp [results, Tryd.results32, go_sem, z0, z1, z2]) rfl K.out
    · rw [if_neg h34] at hs1
      have hn34 : (x != 34) = true := by simpa using h34
      obtain ⟨⟨mv, mk, mo⟩, hm⟩ : ∃ m, meant 34 (L.drop (k + j)) = m := ⟨_, rfl⟩
      rw [hm] at hs1 hmb hmk hmA
      have HME' : Hid (∀ (u : World), Rd u B h g q L (k + j) l (c + j) v T → Calls Tryd.prog 41 #[.pointer (some ⟨h, 0, none⟩), .agg #[i64 l, i64 c], i32 34] u fun e w' => e = meA (L.drop (k + j)) 34 l (c + j) l c ∧ Rd w' B h g q L (k + j + mk) l (c + j + mk) v T ∧ But (fun i => i = h) u w') := Lib.hid (by intro u R'; have := meant_says R' l c 34 (.inr rfl); rw [hm] at this; exact this)
      clear HME hm h34
      simp only at hs1 hmb hmk hmA
      cases mo with
      | false =>
        rw [if_neg (by decide)] at hs1 hmA
        have hch := HBD.out _ _ hs1
        rw [show k + (j + mk) = k + j + mk by omega, show c + ((j + mk : Nat) : Int) = c + j + mk by omega] at hch
        have hne := wrong_ne (L.drop (k + j + mk)) l (c + j + mk) l c
        have HF0 := HBF.out _ hch (by simpa using hne)
        obtain ⟨o, ho⟩ : ∃ o, wrong (L.drop (k + j + mk)) l (c + j + mk) l c = o := ⟨_, rfl⟩
        rw [ho] at HF0 hne hmA
        obtain ⟨a, ha⟩ : ∃ a, o.el = a := ⟨_, rfl⟩
        obtain ⟨b', hb⟩ : ∃ b, o.ec = b := ⟨_, rfl⟩
        obtain ⟨d, hd'⟩ : ∃ d, o.e = d := ⟨_, rfl⟩
        unfold fV at HF0 hmA
        rw [ha, hb, hd'] at HF0 hmA
        rw [hd'] at hne
        have HF := Lib.hid HF0
        clear HF0 hch ho ha hb hd' hmb hmk hs1 HBF HBD HGF
        go_wp2_with (first
          | (go_at_call 41; refine (HME'.out _ (HR.out.later (by first | exact But.refl _ _ | exact (But.refl _ _).drew | exact (But.refl _ _).alloc _ | exact ((But.refl _ _).alloc _).drew | exact ((But.refl _ _).alloc _).drew.drew))).mono ?_; rintro e w4 ⟨rfl, R4, b4⟩; rw [hmA]; have HQ4 := Lib.hid ((HQ.out.still (But.refl _ wr).drew).move R4 b4); obtain ⟨z0, z1, z2, f0, f1, f2⟩ := (HQ4.out.still ((But.refl _ _).alloc (.cells #[i64 a, i64 b', i64 d] 45))).X.fin; clear R4 b4)
          | (go_at_call 11; refine (now_says (HR.out.later (by first | exact But.refl _ _ | exact (But.refl _ _).drew | exact (But.refl _ _).alloc _ | exact ((But.refl _ _).alloc _).drew | exact ((But.refl _ _).alloc _).drew.drew))).mono ?_; rintro e w1 ⟨rfl, rfl⟩; rw [hx]))
        exact bodyPost_ret (v := .agg #[i64 a, i64 b', i64 d]) (by simp [results, Tryd.results32, go_sem, z0, z1, z2]) rfl (HF.out _ (But.setCell (But.setCell (But.setCell ((HQ4.out.bb.alloc (.cells #[i64 a, i64 b', i64 d] 45)).mono fun i hi => Or.inl hi) ⟨w.heap.size, 0, none⟩ (.inr (Nat.le_refl _)) _) ⟨w.heap.size, 1, none⟩ (.inr (Nat.le_refl _)) _) ⟨w.heap.size, 2, none⟩ (.inr (Nat.le_refl _)) _))
      | true =>
        rw [if_pos rfl] at hs1 hmA
        obtain ⟨v0, v1⟩ := hmb rfl
        have hk1 := hmk rfl
        have HS := Lib.hid hs1
        clear hs1 hmb hmk HBF HBD HGF
        go_wp2_with (first
          | (go_at_call 42; refine (writeRune_says HQ5.out.D mv (by omega) (by omega) (by have := HNL.out; omega)).mono ?_; rintro e w7 ⟨⟨nn, rfl⟩, D7, b7⟩; rw [byte_snoc] at D7; have HQ7 := Lib.hid (HQ5.out.write b7 D7); clear D7 b7)
          | (go_at_call 41; refine (HME'.out _ (HR.out.later (by first | exact But.refl _ _ | exact (But.refl _ _).drew | exact (But.refl _ _).alloc _ | exact ((But.refl _ _).alloc _).drew | exact ((But.refl _ _).alloc _).drew.drew))).mono ?_; rintro e w4 ⟨rfl, R4, b4⟩; rw [hmA]; have HQ5 := Lib.hid (((HQ.out.still (But.refl _ wr).drew).move R4 b4).still ((But.refl _ _).alloc (.cells #[i64 0, i64 0, i64 0] 45))); have HNL := Lib.hid (show (Lib.byteCells (ns.flatMap Lib.encodeRune)).length ≤ 1000000 from by unfold Lib.byteCells; rw [List.length_map]; have := flat_len ns; have := HM.out; omega); clear R4 b4)
          | (go_at_call 11; refine (now_says (HR.out.later (by first | exact But.refl _ _ | exact (But.refl _ _).drew | exact (But.refl _ _).alloc _ | exact ((But.refl _ _).alloc _).drew | exact ((But.refl _ _).alloc _).drew.drew))).mono ?_; rintro e w1 ⟨rfl, rfl⟩; rw [hx]))
        go_roundw
        case rel => exact ⟨j + mk, ns ++ [mv], f, HS.out.symm, by omega, by have := HQ7.out.R.kl; omega, by simp; omega, by have := HQ7.out; exact ⟨this.R.cast (by omega) (by omega), this.bb, this.X, this.D, this.lo⟩⟩
        case measure => rw [HL.out, HQ7.out.R.left]; have := HQ7.out.R.kl; omega
end
end Go.Proofs.YtgikcciakbnehaaDoor.Lex
