
/-
  The document's own lexer: char with a backslash (written by wip/bin/mkxchar.py).
-/
import Derived.Test.YtgikcciakbnehaaDoorLexXc
set_option maxRecDepth 100000
namespace Go.Proofs.YtgikcciakbnehaaDoor.Lex
open Go.Proofs.YtgikcciakbnehaaDoor Go.Proofs.YtgikcciakbnehaaDoor.Ser
open Go.ChangeShapes Go.WideShapes Go.ChangeAt Go.RowKit
set_option linter.unusedVariables false
section
variable {w0 w w' : World} {h g k : Nat} {s : ByteArray} {l c x : Int} {t : Tok} {M : List Int}
set_option maxRecDepth 100000 in
set_option maxHeartbeats 4000000 in
theorem char_esc2_bad (S : St w0 w h g s k l c t) (hs : s.size ≤ 65536) {v y : Int} (hv : (v = 110 ∧ y = 10) ∨ (v = 92 ∧ y = 92) ∨ (v = 39 ∧ y = 39)) (hM : rsAt s k = 39 :: 92 :: v :: -2 :: M) (ht : t.line = l ∧ t.col = c) :
    Calls Tryd.prog 20 #[.pointer (some ⟨h, 0, none⟩), .pointer (some ⟨g, 0, none⟩)] w fun e' w' => e' = .returned (.tuple #[]) ∧ Dn w0 w' h g s k l c (charO (rsAt s k) l c) := by
  obtain ⟨p, hp⟩ : ∃ p : Ending → World → Prop, p = fun e' w' => e' = .returned (.tuple #[]) ∧ Dn w0 w' h g s k l c (charO (rsAt s k) l c) := ⟨_, rfl⟩
  rw [← hp]
  have hO : charO (rsAt s k) l c = errO 4 l (c + 1 + 2) := by rw [hM]; unfold charO meant wrong; rcases hv with ⟨rfl, rfl⟩ | ⟨rfl, rfl⟩ | ⟨rfl, rfl⟩ <;> simp [hd]
  have HF := Lib.hid (fun w' (E : Er w0 w' h g s (errO 4 l (c + 1 + 2)).el (c + 1 + 1 + 1) (errO 4 l (c + 1 + 2)).e) => (by rw [hp]; exact ⟨rfl, .inr ⟨by rw [hO]; simp [errO], by rw [hO]; exact (show (c + 1 + 1 + 1) = (errO 4 l (c + 1 + 2)).ec by simp only [errO] <;> omega) ▸ E⟩⟩ : p (.returned (.tuple #[])) w'))
  clear hO
  have x1 : (v == -2) = false := beq_false_of_ne (by omega)
  have x2 : ¬ y < 0 := by omega
  have H0 := Lib.hid (show 0 ≤ v ∧ v ≠ 10 by omega)
  have HE := Lib.hid (show escV v 39 = y by unfold escV; rcases hv with ⟨rfl, rfl⟩ | ⟨rfl, rfl⟩ | ⟨rfl, rfl⟩ <;> simp)
  clear hv
  have HS := Lib.hid (S.kind 2)
  have f0 := S.tk.fr 0
  have y0 := S.tk.c0
  have HM := Lib.hid hM
  have k0 : (0 : Int) ≤ (k : Int) := Int.natCast_nonneg k
  obtain ⟨ht1, ht2⟩ := ht
  clear S hp hM
  go_enter Tryd.func20, Tryd.ntmps20
  go_upto_region 1 with fail
  obtain ⟨w2, hw2⟩ : ∃ w2, w2 = w.setCell ⟨g, 0, none⟩ (i64 2) := ⟨_, rfl⟩
  rw [← hw2] at HS ⊢
  clear hw2 f0 y0
  have z0 := HS.out.x.text
  have z1 := HS.out.x.at_
  have z2 := HS.out.x.line
  have z3 := HS.out.x.col
  have y3 := HS.out.tk.c3
  have y4 := HS.out.tk.c4
  have f1 := HS.out.tk.fr 1
  have f2 := HS.out.tk.fr 2
  go_upto_region 3 with (go_at_call 15; refine (pass_m (HS.out.later (by first | exact But.refl _ _ | exact (But.refl _ _).drew | exact (But.refl _ _).drew.drew)) hs HM.out (by first | decide | exact H0.out.1 | exact H1.out.1) (by first | decide | exact H0.out.2 | exact H1.out.2)).mono ?_; rintro e w1 ⟨rfl, k1, hk1, hM1, P1, S1⟩; have HK := Lib.hid hk1; have HP := Lib.hid P1; replace HM := Lib.hid hM1; replace HS := Lib.hid S1; clear hk1 hM1 P1 S1; replace z0 := HS.out.x.text; replace z1 := HS.out.x.at_; replace z2 := HS.out.x.line; replace z3 := HS.out.x.col; replace y3 := HS.out.tk.c3; replace y4 := HS.out.tk.c4; replace f1 := HS.out.tk.fr 1; replace f2 := HS.out.tk.fr 2)
  simp only [ht1, ht2] at y3 y4
  go_wp2_with (first | (go_at_call 15; refine (pass_m (HS.out.later (by first | exact But.refl _ _ | exact (But.refl _ _).drew | exact (But.refl _ _).drew.drew)) hs HM.out (by first | decide | exact H0.out.1 | exact H1.out.1) (by first | decide | exact H0.out.2 | exact H1.out.2)).mono ?_; rintro e w1 ⟨rfl, k1, hk1, hM1, P1, S1⟩; replace HK := Lib.hid (Nat.lt_trans HK.out hk1); replace HP := Lib.hid (HP.out.trans P1); replace HM := Lib.hid hM1; replace HS := Lib.hid S1; clear hk1 hM1 P1 S1; replace z0 := HS.out.x.text; replace z1 := HS.out.x.at_; replace z2 := HS.out.x.line; replace z3 := HS.out.x.col; replace y3 := HS.out.tk.c3; replace y4 := HS.out.tk.c4; replace f1 := HS.out.tk.fr 1; replace f2 := HS.out.tk.fr 2) | (go_at_call 14; refine (peek_m (HS.out.later (by first | exact But.refl _ _ | exact (But.refl _ _).drew | exact (But.refl _ _).drew.drew)) hs HM.out).mono ?_; rintro e w1 ⟨rfl, S1⟩; replace HS := Lib.hid S1; clear S1; replace z0 := HS.out.x.text; replace z1 := HS.out.x.at_; replace z2 := HS.out.x.line; replace z3 := HS.out.x.col; replace y3 := HS.out.tk.c3; replace y4 := HS.out.tk.c4; replace f1 := HS.out.tk.fr 1; replace f2 := HS.out.tk.fr 2) | (go_at_call 37; refine (escape_says _ _ _).mono ?_; rintro e w1 ⟨rfl, rfl⟩; rw [HE.out]) | (go_at_call 16; refine (fail_st (HS.out.later (by first | exact But.refl _ _ | exact (But.refl _ _).drew | exact (But.refl _ _).drew.drew)) _ _ _).mono ?_; rintro e w1 ⟨rfl, R1⟩; have HR := Lib.hid R1; clear R1))
  go_region_with (go_at_call 16; refine (fail_st (HS.out.later (by first | exact But.refl _ _ | exact (But.refl _ _).drew | exact (But.refl _ _).drew.drew)) _ _ _).mono ?_; rintro e w1 ⟨rfl, R1⟩; have HR := Lib.hid R1; clear R1)
  all_goals go_wp2_with fail
  all_goals first | exact HF.out _ HR.out | (go_end0; exact HF.out _ HR.out) | (go_ret; exact HF.out _ HR.out)
set_option maxRecDepth 100000 in
set_option maxHeartbeats 4000000 in
theorem char_esc_more (S : St w0 w h g s k l c t) (hs : s.size ≤ 65536) {v y : Int} (hv : (v = 110 ∧ y = 10) ∨ (v = 92 ∧ y = 92) ∨ (v = 39 ∧ y = 39)) {q : Int} (hq : q ≠ -2 ∧ q ≠ 39) (hM : rsAt s k = 39 :: 92 :: v :: q :: M) (ht : t.line = l ∧ t.col = c) :
    Calls Tryd.prog 20 #[.pointer (some ⟨h, 0, none⟩), .pointer (some ⟨g, 0, none⟩)] w fun e' w' => e' = .returned (.tuple #[]) ∧ Dn w0 w' h g s k l c (charO (rsAt s k) l c) := by
  obtain ⟨p, hp⟩ : ∃ p : Ending → World → Prop, p = fun e' w' => e' = .returned (.tuple #[]) ∧ Dn w0 w' h g s k l c (charO (rsAt s k) l c) := ⟨_, rfl⟩
  rw [← hp]
  have hO : charO (rsAt s k) l c = errO 3 l c := by rw [hM]; unfold charO meant wrong; rcases hv with ⟨rfl, rfl⟩ | ⟨rfl, rfl⟩ | ⟨rfl, rfl⟩ <;> simp [hd, hq]
  have HF := Lib.hid (fun w' (E : Er w0 w' h g s (errO 3 l c).el (errO 3 l c).ec (errO 3 l c).e) => (by rw [hp]; exact ⟨rfl, .inr ⟨by rw [hO]; simp [errO], by rw [hO]; exact E⟩⟩ : p (.returned (.tuple #[])) w'))
  clear hO
  have x1 : (v == -2) = false := beq_false_of_ne (by omega)
  have x2 : ¬ y < 0 := by omega
  have H0 := Lib.hid (show 0 ≤ v ∧ v ≠ 10 by omega)
  have HE := Lib.hid (show escV v 39 = y by unfold escV; rcases hv with ⟨rfl, rfl⟩ | ⟨rfl, rfl⟩ | ⟨rfl, rfl⟩ <;> simp)
  clear hv
  have q1 : (q == -2) = false := beq_false_of_ne hq.1
  have q2 : (q != 39) = true := by simpa using hq.2
  clear hq
  have HS := Lib.hid (S.kind 2)
  have f0 := S.tk.fr 0
  have y0 := S.tk.c0
  have HM := Lib.hid hM
  have k0 : (0 : Int) ≤ (k : Int) := Int.natCast_nonneg k
  obtain ⟨ht1, ht2⟩ := ht
  clear S hp hM
  go_enter Tryd.func20, Tryd.ntmps20
  go_upto_region 1 with fail
  obtain ⟨w2, hw2⟩ : ∃ w2, w2 = w.setCell ⟨g, 0, none⟩ (i64 2) := ⟨_, rfl⟩
  rw [← hw2] at HS ⊢
  clear hw2 f0 y0
  have z0 := HS.out.x.text
  have z1 := HS.out.x.at_
  have z2 := HS.out.x.line
  have z3 := HS.out.x.col
  have y3 := HS.out.tk.c3
  have y4 := HS.out.tk.c4
  have f1 := HS.out.tk.fr 1
  have f2 := HS.out.tk.fr 2
  go_upto_region 3 with (go_at_call 15; refine (pass_m (HS.out.later (by first | exact But.refl _ _ | exact (But.refl _ _).drew | exact (But.refl _ _).drew.drew)) hs HM.out (by first | decide | exact H0.out.1 | exact H1.out.1) (by first | decide | exact H0.out.2 | exact H1.out.2)).mono ?_; rintro e w1 ⟨rfl, k1, hk1, hM1, P1, S1⟩; have HK := Lib.hid hk1; have HP := Lib.hid P1; replace HM := Lib.hid hM1; replace HS := Lib.hid S1; clear hk1 hM1 P1 S1; replace z0 := HS.out.x.text; replace z1 := HS.out.x.at_; replace z2 := HS.out.x.line; replace z3 := HS.out.x.col; replace y3 := HS.out.tk.c3; replace y4 := HS.out.tk.c4; replace f1 := HS.out.tk.fr 1; replace f2 := HS.out.tk.fr 2)
  simp only [ht1, ht2] at y3 y4
  go_wp2_with (first | (go_at_call 15; refine (pass_m (HS.out.later (by first | exact But.refl _ _ | exact (But.refl _ _).drew | exact (But.refl _ _).drew.drew)) hs HM.out (by first | decide | exact H0.out.1 | exact H1.out.1) (by first | decide | exact H0.out.2 | exact H1.out.2)).mono ?_; rintro e w1 ⟨rfl, k1, hk1, hM1, P1, S1⟩; replace HK := Lib.hid (Nat.lt_trans HK.out hk1); replace HP := Lib.hid (HP.out.trans P1); replace HM := Lib.hid hM1; replace HS := Lib.hid S1; clear hk1 hM1 P1 S1; replace z0 := HS.out.x.text; replace z1 := HS.out.x.at_; replace z2 := HS.out.x.line; replace z3 := HS.out.x.col; replace y3 := HS.out.tk.c3; replace y4 := HS.out.tk.c4; replace f1 := HS.out.tk.fr 1; replace f2 := HS.out.tk.fr 2) | (go_at_call 14; refine (peek_m (HS.out.later (by first | exact But.refl _ _ | exact (But.refl _ _).drew | exact (But.refl _ _).drew.drew)) hs HM.out).mono ?_; rintro e w1 ⟨rfl, S1⟩; replace HS := Lib.hid S1; clear S1; replace z0 := HS.out.x.text; replace z1 := HS.out.x.at_; replace z2 := HS.out.x.line; replace z3 := HS.out.x.col; replace y3 := HS.out.tk.c3; replace y4 := HS.out.tk.c4; replace f1 := HS.out.tk.fr 1; replace f2 := HS.out.tk.fr 2) | (go_at_call 37; refine (escape_says _ _ _).mono ?_; rintro e w1 ⟨rfl, rfl⟩; rw [HE.out]) | (go_at_call 16; refine (fail_st (HS.out.later (by first | exact But.refl _ _ | exact (But.refl _ _).drew | exact (But.refl _ _).drew.drew)) _ _ _).mono ?_; rintro e w1 ⟨rfl, R1⟩; have HR := Lib.hid R1; clear R1))
  go_region_with (go_at_call 16; refine (fail_st (HS.out.later (by first | exact But.refl _ _ | exact (But.refl _ _).drew | exact (But.refl _ _).drew.drew)) _ _ _).mono ?_; rintro e w1 ⟨rfl, R1⟩; have HR := Lib.hid R1; clear R1)
  all_goals go_wp2_with fail
  all_goals first | exact HF.out _ HR.out | (go_end0; exact HF.out _ HR.out) | (go_ret; exact HF.out _ HR.out)
set_option maxRecDepth 100000 in
set_option maxHeartbeats 4000000 in
theorem char_esc_ok (S : St w0 w h g s k l c t) (hs : s.size ≤ 65536) {v y : Int} (hv : (v = 110 ∧ y = 10) ∨ (v = 92 ∧ y = 92) ∨ (v = 39 ∧ y = 39)) (hM : rsAt s k = 39 :: 92 :: v :: 39 :: M) (ht : t.line = l ∧ t.col = c) :
    Calls Tryd.prog 20 #[.pointer (some ⟨h, 0, none⟩), .pointer (some ⟨g, 0, none⟩)] w fun e' w' => e' = .returned (.tuple #[]) ∧ Dn w0 w' h g s k l c (charO (rsAt s k) l c) := by
  obtain ⟨p, hp⟩ : ∃ p : Ending → World → Prop, p = fun e' w' => e' = .returned (.tuple #[]) ∧ Dn w0 w' h g s k l c (charO (rsAt s k) l c) := ⟨_, rfl⟩
  rw [← hp]
  have hO : charO (rsAt s k) l c = okO (2 + 2) [⟨2, txt [], y, l, c⟩] := by rw [hM]; unfold charO meant wrong; rcases hv with ⟨rfl, rfl⟩ | ⟨rfl, rfl⟩ | ⟨rfl, rfl⟩ <;> simp [hd]
  have hdrop : (rsAt s k).drop (2 + 2) = M := by rw [hM]; rfl
  have HF := Lib.hid (fun w' (k' : Nat) (xt : ByteArray) (hk : k < k') (hM' : rsAt s k' = M) (E : St w0 w' h g s k' l (c + ((2 + 2 : Nat) : Int)) ⟨2, xt, y, t.line, t.col⟩) => (by rw [hp]; exact ⟨rfl, .inl ⟨by rw [hO]; rfl, by rw [hO]; rfl, k', ⟨2, xt, y, t.line, t.col⟩, ⟨2, txt [], y, l, c⟩, hk, by rw [hO, hM']; exact hdrop.symm, by rw [hO]; exact E, by rw [hO]; rfl, rfl, rfl, ht.1, ht.2, .inl rfl⟩⟩ : p (.returned (.tuple #[])) w'))
  clear hO hdrop
  have x1 : (v == -2) = false := beq_false_of_ne (by omega)
  have x2 : ¬ y < 0 := by omega
  have H0 := Lib.hid (show 0 ≤ v ∧ v ≠ 10 by omega)
  have HE := Lib.hid (show escV v 39 = y by unfold escV; rcases hv with ⟨rfl, rfl⟩ | ⟨rfl, rfl⟩ | ⟨rfl, rfl⟩ <;> simp)
  clear hv
  have HS := Lib.hid (S.kind 2)
  have f0 := S.tk.fr 0
  have y0 := S.tk.c0
  have HM := Lib.hid hM
  have k0 : (0 : Int) ≤ (k : Int) := Int.natCast_nonneg k
  obtain ⟨ht1, ht2⟩ := ht
  clear S hp hM
  go_enter Tryd.func20, Tryd.ntmps20
  go_upto_region 1 with fail
  obtain ⟨w2, hw2⟩ : ∃ w2, w2 = w.setCell ⟨g, 0, none⟩ (i64 2) := ⟨_, rfl⟩
  rw [← hw2] at HS ⊢
  clear hw2 f0 y0
  have z0 := HS.out.x.text
  have z1 := HS.out.x.at_
  have z2 := HS.out.x.line
  have z3 := HS.out.x.col
  have y3 := HS.out.tk.c3
  have y4 := HS.out.tk.c4
  have f1 := HS.out.tk.fr 1
  have f2 := HS.out.tk.fr 2
  go_upto_region 3 with (go_at_call 15; refine (pass_m (HS.out.later (by first | exact But.refl _ _ | exact (But.refl _ _).drew | exact (But.refl _ _).drew.drew)) hs HM.out (by first | decide | exact H0.out.1 | exact H1.out.1) (by first | decide | exact H0.out.2 | exact H1.out.2)).mono ?_; rintro e w1 ⟨rfl, k1, hk1, hM1, P1, S1⟩; have HK := Lib.hid hk1; have HP := Lib.hid P1; replace HM := Lib.hid hM1; replace HS := Lib.hid S1; clear hk1 hM1 P1 S1; replace z0 := HS.out.x.text; replace z1 := HS.out.x.at_; replace z2 := HS.out.x.line; replace z3 := HS.out.x.col; replace y3 := HS.out.tk.c3; replace y4 := HS.out.tk.c4; replace f1 := HS.out.tk.fr 1; replace f2 := HS.out.tk.fr 2)
  simp only [ht1, ht2] at y3 y4
  go_upto_region 23 with (first | (go_at_call 15; refine (pass_m (HS.out.later (by first | exact But.refl _ _ | exact (But.refl _ _).drew | exact (But.refl _ _).drew.drew)) hs HM.out (by first | decide | exact H0.out.1 | exact H1.out.1) (by first | decide | exact H0.out.2 | exact H1.out.2)).mono ?_; rintro e w1 ⟨rfl, k1, hk1, hM1, P1, S1⟩; replace HK := Lib.hid (Nat.lt_trans HK.out hk1); replace HP := Lib.hid (HP.out.trans P1); replace HM := Lib.hid hM1; replace HS := Lib.hid S1; clear hk1 hM1 P1 S1; replace z0 := HS.out.x.text; replace z1 := HS.out.x.at_; replace z2 := HS.out.x.line; replace z3 := HS.out.x.col; replace y3 := HS.out.tk.c3; replace y4 := HS.out.tk.c4; replace f1 := HS.out.tk.fr 1; replace f2 := HS.out.tk.fr 2) | (go_at_call 14; refine (peek_m (HS.out.later (by first | exact But.refl _ _ | exact (But.refl _ _).drew | exact (But.refl _ _).drew.drew)) hs HM.out).mono ?_; rintro e w1 ⟨rfl, S1⟩; replace HS := Lib.hid S1; clear S1; replace z0 := HS.out.x.text; replace z1 := HS.out.x.at_; replace z2 := HS.out.x.line; replace z3 := HS.out.x.col; replace y3 := HS.out.tk.c3; replace y4 := HS.out.tk.c4; replace f1 := HS.out.tk.fr 1; replace f2 := HS.out.tk.fr 2) | (go_at_call 37; refine (escape_says _ _ _).mono ?_; rintro e w1 ⟨rfl, rfl⟩; rw [HE.out]) | (go_at_call 16; refine (fail_st (HS.out.later (by first | exact But.refl _ _ | exact (But.refl _ _).drew | exact (But.refl _ _).drew.drew)) _ _ _).mono ?_; rintro e w1 ⟨rfl, R1⟩; have HR := Lib.hid R1; clear R1))
  have hz1 : (k : Int) ≤ (k1 : Int) := by have := HK.out; omega
  have hz2 : (k1 : Int) ≤ (s.size : Int) := by have := HS.out.kl; omega
  have c2 := HS.out.tk.c2
  go_upto_region 24 with fail
  obtain ⟨w3, hw3⟩ : ∃ w3, w3 = w1.setCell ⟨g, 2, none⟩ (i64 y) := ⟨_, rfl⟩
  replace HS := Lib.hid (HS.out.num y)
  rw [← hw3] at HS ⊢
  clear hw3 c2
  replace z0 := HS.out.x.text; replace z1 := HS.out.x.at_; replace z2 := HS.out.x.line; replace z3 := HS.out.x.col; replace y3 := HS.out.tk.c3; replace y4 := HS.out.tk.c4; replace f1 := HS.out.tk.fr 1; replace f2 := HS.out.tk.fr 2
  have y1 := HS.out.tk.c1
  go_region_with fail
  all_goals (go_wp2_with fail; go_end0; exact HF.out _ k1 _ HK.out HM.out (((HS.out.text _).later (But.refl _ _).drew).cast (by omega)))

theorem char_says (S : St w0 w h g s k l c t) (hs : s.size ≤ 65536) (h39 : hd (rsAt s k) = 39) (ht : t.line = l ∧ t.col = c) :
    Calls Tryd.prog 20 #[.pointer (some ⟨h, 0, none⟩), .pointer (some ⟨g, 0, none⟩)] w fun e' w' => e' = .returned (.tuple #[]) ∧ Dn w0 w' h g s k l c (charO (rsAt s k) l c) := by
  obtain ⟨T, hT⟩ : ∃ T, rsAt s k = 39 :: T := by
    cases e : rsAt s k with
    | nil => exact absurd e (rsAt_ne s k)
    | cons a T => rw [e] at h39; exact ⟨T, by rw [show a = 39 from h39]⟩
  obtain ⟨x, M, rfl, hx1, hx2⟩ := rsAt_more hT (by decide)
  by_cases a1 : x = -2
  · subst a1; exact char_bad S hs hT ht
  by_cases a2 : x = -1
  · subst a2; exact char_end S hs hT ht
  by_cases a3 : x = 10
  · subst a3; exact char_line S hs hT ht
  by_cases a4 : x = 39
  · subst a4; exact char_none S hs hT ht
  have hP := pathOne hT (by decide)
  obtain ⟨k1, e1⟩ := hP
  obtain ⟨q, M1, rfl, hq1, hq2⟩ := rsAt_more e1 (by omega)
  by_cases a5 : x = 92
  · subst a5
    obtain ⟨k2, e2⟩ := pathOne e1 (by decide)
    by_cases b1 : q = -2
    · subst b1; exact char_esc_bad S hs hT ht
    by_cases b2 : q ≠ 110 ∧ q ≠ 92 ∧ q ≠ 39
    · exact char_esc S hs ⟨b1, b2⟩ hT ht
    have b3 : (q = 110 ∧ (if q = 110 then (10 : Int) else q) = 10) ∨ (q = 92 ∧ (if q = 110 then (10 : Int) else q) = 92) ∨ (q = 39 ∧ (if q = 110 then (10 : Int) else q) = 39) := by
      by_cases c1 : q = 110
      · subst c1; simp
      · by_cases c2 : q = 92
        · subst c2; simp
        · by_cases c3 : q = 39
          · subst c3; simp
          · exact absurd ⟨c1, c2, c3⟩ b2
    obtain ⟨q2, M2, rfl, hr1, hr2⟩ := rsAt_more e2 (by omega)
    by_cases d1 : q2 = -2
    · subst d1; exact char_esc2_bad S hs b3 hT ht
    by_cases d2 : q2 = 39
    · subst d2; exact char_esc_ok S hs b3 hT ht
    · exact char_esc_more S hs b3 ⟨d1, d2⟩ hT ht
  · have hx : 0 ≤ x ∧ x ≠ 10 ∧ x ≠ 39 ∧ x ≠ 92 := ⟨by omega, a3, a4, a5⟩
    by_cases d1 : q = -2
    · subst d1; exact char_plain_bad S hs hx hT ht
    by_cases d2 : q = 39
    · subst d2; exact char_plain_ok S hs hx hT ht
    · exact char_plain_more S hs hx ⟨d1, d2⟩ hT ht
end
end Go.Proofs.YtgikcciakbnehaaDoor.Lex
