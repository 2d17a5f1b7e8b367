
/-
  The document's own lexer: char (written by wip/bin/mkxchar.py).
-/
import Derived.Test.YtgikcciakbnehaaDoorLexPt
import Derived.Test.YtgikcciakbnehaaDoorLexPl
set_option maxRecDepth 100000
namespace Go.Proofs.YtgikcciakbnehaaDoor.Lex
open Go.Proofs.YtgikcciakbnehaaDoor Go.Proofs.YtgikcciakbnehaaDoor.Ser
open Go.ChangeShapes Go.WideShapes Go.ChangeAt Go.RowKit
set_option linter.unusedVariables false
/-- Tokens are one (the text of numbers is not looked at). -/
def Same1 (t u : Tok) : Prop := t.kind = u.kind ∧ t.n = u.n ∧ t.line = u.line ∧ t.col = u.col ∧ (t.kind = 2 ∨ t.text = u.text)
/-- What a step of the document's lexer leaves. -/
def Dn (w0 w' : World) (h g : Nat) (s : ByteArray) (k : Nat) (l c : Int) (o : Out) : Prop :=
  (o.e = 0 ∧ o.nl = false ∧ ∃ k' t u, k < k' ∧ rsAt s k' = (rsAt s k).drop o.k ∧ St w0 w' h g s k' l (c + o.k) t ∧ o.ts = [u] ∧ Same1 t u) ∨ (o.e ≠ 0 ∧ Er w0 w' h g s o.el o.ec o.e)
theorem rsAt_ne (s : ByteArray) (k : Nat) : rsAt s k ≠ [] := by
  intro h
  have := (good (s.data.toList.drop k)).pos
  unfold rsAt at h
  rw [h] at this
  exact absurd this (by decide)
/-- More behind a rune. -/
theorem rsAt_more {s : ByteArray} {k : Nat} {x : Int} {M : List Int} (hM : rsAt s k = x :: M) (h0 : 0 ≤ x) : ∃ y N, M = y :: N ∧ -2 ≤ y ∧ y ≤ 1114111 := by
  have hg := good (s.data.toList.drop k)
  have e : rs (s.data.toList.drop k) = x :: M := hM
  rw [e] at hg
  cases hg with
  | fin => exact absurd h0 (by decide)
  | bad => exact absurd h0 (by decide)
  | cons r L h hL =>
    have h1 := hL.hd_bd
    have h2 := hL.pos
    cases M with
    | nil => exact absurd h2 (by decide)
    | cons y N => exact ⟨y, N, rfl, by simpa [hd] using h1.1, by simpa [hd] using h1.2⟩
theorem pathOne {s : ByteArray} {k : Nat} {x : Int} {M : List Int} (hM : rsAt s k = x :: M) (h0 : 0 ≤ x) : ∃ k', rsAt s k' = M := by
  have hk : k ≤ s.size := by
    rcases Nat.lt_or_ge s.size k with h | h
    · rw [rsAt_end (by omega)] at hM
      have := (List.cons.inj hM).1
      omega
    · exact h
  obtain ⟨_, n, _, _, _, P⟩ := path_hd hk (by rw [hM]; exact h0)
  have := P.drop (n := 1) rfl
  rw [hM] at this
  exact ⟨k + n, this⟩
section
variable {w0 w w' : World} {h g k : Nat} {s : ByteArray} {l c x : Int} {t : Tok} {M : List Int}
theorem peek_m (S : St w0 w h g s k l c t) (hs : s.size ≤ 65536) (hM : rsAt s k = x :: M) : Calls Tryd.prog 14 #[.pointer (some ⟨h, 0, none⟩)] w fun e w' => e = .returned (i64 x) ∧ St w0 w' h g s k l c t := by
  have := peek_st S hs
  rw [hM] at this
  exact this
theorem St.cast {c' : Int} (S : St w0 w h g s k l c t) (e : c = c') : St w0 w h g s k l c' t := e ▸ S
theorem pass_m (S : St w0 w h g s k l c t) (hs : s.size ≤ 65536) (hM : rsAt s k = x :: M) (h0 : 0 ≤ x) (h10 : x ≠ 10) :
    Calls Tryd.prog 15 #[.pointer (some ⟨h, 0, none⟩)] w fun e w' => e = .returned (.tuple #[]) ∧ ∃ k', k < k' ∧ rsAt s k' = M ∧ Path s k [x] k' ∧ St w0 w' h g s k' l (c + 1) t := by
  have e : hd (rsAt s k) = x := by rw [hM]; rfl
  refine (pass_st S hs (by rw [e]; exact h0) (by rw [e]; exact h10)).mono ?_
  rintro e1 w1 ⟨rfl, k', P, hk, S1⟩
  rw [e] at P
  refine ⟨rfl, k', hk, ?_, P, S1⟩
  have := P.drop (n := 1) rfl
  rw [hM] at this
  exact this
set_option maxRecDepth 100000 in
set_option maxHeartbeats 4000000 in
theorem char_bad (S : St w0 w h g s k l c t) (hs : s.size ≤ 65536)  (hM : rsAt s k = 39 :: -2 :: M) (ht : t.line = l ∧ t.col = c) :
    Calls Tryd.prog 20 #[.pointer (some ⟨h, 0, none⟩), .pointer (some ⟨g, 0, none⟩)] w fun e' w' => e' = .returned (.tuple #[]) ∧ Dn w0 w' h g s k l c (charO (rsAt s k) l c) := by
  obtain ⟨p, hp⟩ : ∃ p : Ending → World → Prop, p = fun e' w' => e' = .returned (.tuple #[]) ∧ Dn w0 w' h g s k l c (charO (rsAt s k) l c) := ⟨_, rfl⟩
  rw [← hp]
  have hO : charO (rsAt s k) l c = errO 4 l (c + 1) := by rw [hM]; unfold charO meant wrong; simp [hd]
  have HF := Lib.hid (fun w' (E : Er w0 w' h g s (errO 4 l (c + 1)).el (errO 4 l (c + 1)).ec (errO 4 l (c + 1)).e) => (by rw [hp]; exact ⟨rfl, .inr ⟨by rw [hO]; simp [errO], by rw [hO]; exact E⟩⟩ : p (.returned (.tuple #[])) w'))
  clear hO
  have HS := Lib.hid (S.kind 2)
  have f0 := S.tk.fr 0
  have y0 := S.tk.c0
  have HM := Lib.hid hM
  have k0 : (0 : Int) ≤ (k : Int) := Int.natCast_nonneg k
  obtain ⟨ht1, ht2⟩ := ht
  clear S hp hM
  go_enter Tryd.func20, Tryd.ntmps20
  go_upto_region 1 with fail
  obtain ⟨w2, hw2⟩ : ∃ w2, w2 = w.setCell ⟨g, 0, none⟩ (i64 2) := ⟨_, rfl⟩
  rw [← hw2] at HS ⊢
  clear hw2 f0 y0
  have z0 := HS.out.x.text
  have z1 := HS.out.x.at_
  have z2 := HS.out.x.line
  have z3 := HS.out.x.col
  have y3 := HS.out.tk.c3
  have y4 := HS.out.tk.c4
  have f1 := HS.out.tk.fr 1
  have f2 := HS.out.tk.fr 2
  go_upto_region 3 with (go_at_call 15; refine (pass_m (HS.out.later (by first | exact But.refl _ _ | exact (But.refl _ _).drew | exact (But.refl _ _).drew.drew)) hs HM.out (by first | decide | exact H0.out.1 | exact H1.out.1) (by first | decide | exact H0.out.2 | exact H1.out.2)).mono ?_; rintro e w1 ⟨rfl, k1, hk1, hM1, P1, S1⟩; have HK := Lib.hid hk1; have HP := Lib.hid P1; replace HM := Lib.hid hM1; replace HS := Lib.hid S1; clear hk1 hM1 P1 S1; replace z0 := HS.out.x.text; replace z1 := HS.out.x.at_; replace z2 := HS.out.x.line; replace z3 := HS.out.x.col; replace y3 := HS.out.tk.c3; replace y4 := HS.out.tk.c4; replace f1 := HS.out.tk.fr 1; replace f2 := HS.out.tk.fr 2)
  simp only [ht1, ht2] at y3 y4
  go_wp2_with (first | (go_at_call 15; refine (pass_m (HS.out.later (by first | exact But.refl _ _ | exact (But.refl _ _).drew | exact (But.refl _ _).drew.drew)) hs HM.out (by first | decide | exact H0.out.1 | exact H1.out.1) (by first | decide | exact H0.out.2 | exact H1.out.2)).mono ?_; rintro e w1 ⟨rfl, k1, hk1, hM1, P1, S1⟩; replace HK := Lib.hid (Nat.lt_trans HK.out hk1); replace HP := Lib.hid (HP.out.trans P1); replace HM := Lib.hid hM1; replace HS := Lib.hid S1; clear hk1 hM1 P1 S1; replace z0 := HS.out.x.text; replace z1 := HS.out.x.at_; replace z2 := HS.out.x.line; replace z3 := HS.out.x.col; replace y3 := HS.out.tk.c3; replace y4 := HS.out.tk.c4; replace f1 := HS.out.tk.fr 1; replace f2 := HS.out.tk.fr 2) | (go_at_call 14; refine (peek_m (HS.out.later (by first | exact But.refl _ _ | exact (But.refl _ _).drew | exact (But.refl _ _).drew.drew)) hs HM.out).mono ?_; rintro e w1 ⟨rfl, S1⟩; replace HS := Lib.hid S1; clear S1; replace z0 := HS.out.x.text; replace z1 := HS.out.x.at_; replace z2 := HS.out.x.line; replace z3 := HS.out.x.col; replace y3 := HS.out.tk.c3; replace y4 := HS.out.tk.c4; replace f1 := HS.out.tk.fr 1; replace f2 := HS.out.tk.fr 2) | (go_at_call 37; refine (escape_says _ _ _).mono ?_; rintro e w1 ⟨rfl, rfl⟩; rw [HE.out]) | (go_at_call 16; refine (fail_st (HS.out.later (by first | exact But.refl _ _ | exact (But.refl _ _).drew | exact (But.refl _ _).drew.drew)) _ _ _).mono ?_; rintro e w1 ⟨rfl, R1⟩; have HR := Lib.hid R1; clear R1))
  go_region_with (go_at_call 16; refine (fail_st (HS.out.later (by first | exact But.refl _ _ | exact (But.refl _ _).drew | exact (But.refl _ _).drew.drew)) _ _ _).mono ?_; rintro e w1 ⟨rfl, R1⟩; have HR := Lib.hid R1; clear R1)
  all_goals go_wp2_with fail
  all_goals first | exact HF.out _ HR.out | (go_end0; exact HF.out _ HR.out) | (go_ret; exact HF.out _ HR.out)
set_option maxRecDepth 100000 in
set_option maxHeartbeats 4000000 in
theorem char_end (S : St w0 w h g s k l c t) (hs : s.size ≤ 65536)  (hM : rsAt s k = 39 :: -1 :: M) (ht : t.line = l ∧ t.col = c) :
    Calls Tryd.prog 20 #[.pointer (some ⟨h, 0, none⟩), .pointer (some ⟨g, 0, none⟩)] w fun e' w' => e' = .returned (.tuple #[]) ∧ Dn w0 w' h g s k l c (charO (rsAt s k) l c) := by
  obtain ⟨p, hp⟩ : ∃ p : Ending → World → Prop, p = fun e' w' => e' = .returned (.tuple #[]) ∧ Dn w0 w' h g s k l c (charO (rsAt s k) l c) := ⟨_, rfl⟩
  rw [← hp]
  have hO : charO (rsAt s k) l c = errO 3 l c := by rw [hM]; unfold charO meant wrong; simp [hd]
  have HF := Lib.hid (fun w' (E : Er w0 w' h g s (errO 3 l c).el (errO 3 l c).ec (errO 3 l c).e) => (by rw [hp]; exact ⟨rfl, .inr ⟨by rw [hO]; simp [errO], by rw [hO]; exact E⟩⟩ : p (.returned (.tuple #[])) w'))
  clear hO
  have HS := Lib.hid (S.kind 2)
  have f0 := S.tk.fr 0
  have y0 := S.tk.c0
  have HM := Lib.hid hM
  have k0 : (0 : Int) ≤ (k : Int) := Int.natCast_nonneg k
  obtain ⟨ht1, ht2⟩ := ht
  clear S hp hM
  go_enter Tryd.func20, Tryd.ntmps20
  go_upto_region 1 with fail
  obtain ⟨w2, hw2⟩ : ∃ w2, w2 = w.setCell ⟨g, 0, none⟩ (i64 2) := ⟨_, rfl⟩
  rw [← hw2] at HS ⊢
  clear hw2 f0 y0
  have z0 := HS.out.x.text
  have z1 := HS.out.x.at_
  have z2 := HS.out.x.line
  have z3 := HS.out.x.col
  have y3 := HS.out.tk.c3
  have y4 := HS.out.tk.c4
  have f1 := HS.out.tk.fr 1
  have f2 := HS.out.tk.fr 2
  go_upto_region 3 with (go_at_call 15; refine (pass_m (HS.out.later (by first | exact But.refl _ _ | exact (But.refl _ _).drew | exact (But.refl _ _).drew.drew)) hs HM.out (by first | decide | exact H0.out.1 | exact H1.out.1) (by first | decide | exact H0.out.2 | exact H1.out.2)).mono ?_; rintro e w1 ⟨rfl, k1, hk1, hM1, P1, S1⟩; have HK := Lib.hid hk1; have HP := Lib.hid P1; replace HM := Lib.hid hM1; replace HS := Lib.hid S1; clear hk1 hM1 P1 S1; replace z0 := HS.out.x.text; replace z1 := HS.out.x.at_; replace z2 := HS.out.x.line; replace z3 := HS.out.x.col; replace y3 := HS.out.tk.c3; replace y4 := HS.out.tk.c4; replace f1 := HS.out.tk.fr 1; replace f2 := HS.out.tk.fr 2)
  simp only [ht1, ht2] at y3 y4
  go_wp2_with (first | (go_at_call 15; refine (pass_m (HS.out.later (by first | exact But.refl _ _ | exact (But.refl _ _).drew | exact (But.refl _ _).drew.drew)) hs HM.out (by first | decide | exact H0.out.1 | exact H1.out.1) (by first | decide | exact H0.out.2 | exact H1.out.2)).mono ?_; rintro e w1 ⟨rfl, k1, hk1, hM1, P1, S1⟩; replace HK := Lib.hid (Nat.lt_trans HK.out hk1); replace HP := Lib.hid (HP.out.trans P1); replace HM := Lib.hid hM1; replace HS := Lib.hid S1; clear hk1 hM1 P1 S1; replace z0 := HS.out.x.text; replace z1 := HS.out.x.at_; replace z2 := HS.out.x.line; replace z3 := HS.out.x.col; replace y3 := HS.out.tk.c3; replace y4 := HS.out.tk.c4; replace f1 := HS.out.tk.fr 1; replace f2 := HS.out.tk.fr 2) | (go_at_call 14; refine (peek_m (HS.out.later (by first | exact But.refl _ _ | exact (But.refl _ _).drew | exact (But.refl _ _).drew.drew)) hs HM.out).mono ?_; rintro e w1 ⟨rfl, S1⟩; replace HS := Lib.hid S1; clear S1; replace z0 := HS.out.x.text; replace z1 := HS.out.x.at_; replace z2 := HS.out.x.line; replace z3 := HS.out.x.col; replace y3 := HS.out.tk.c3; replace y4 := HS.out.tk.c4; replace f1 := HS.out.tk.fr 1; replace f2 := HS.out.tk.fr 2) | (go_at_call 37; refine (escape_says _ _ _).mono ?_; rintro e w1 ⟨rfl, rfl⟩; rw [HE.out]) | (go_at_call 16; refine (fail_st (HS.out.later (by first | exact But.refl _ _ | exact (But.refl _ _).drew | exact (But.refl _ _).drew.drew)) _ _ _).mono ?_; rintro e w1 ⟨rfl, R1⟩; have HR := Lib.hid R1; clear R1))
  go_region_with (go_at_call 16; refine (fail_st (HS.out.later (by first | exact But.refl _ _ | exact (But.refl _ _).drew | exact (But.refl _ _).drew.drew)) _ _ _).mono ?_; rintro e w1 ⟨rfl, R1⟩; have HR := Lib.hid R1; clear R1)
  all_goals go_wp2_with fail
  all_goals first | exact HF.out _ HR.out | (go_end0; exact HF.out _ HR.out) | (go_ret; exact HF.out _ HR.out)
set_option maxRecDepth 100000 in
set_option maxHeartbeats 4000000 in
theorem char_line (S : St w0 w h g s k l c t) (hs : s.size ≤ 65536)  (hM : rsAt s k = 39 :: 10 :: M) (ht : t.line = l ∧ t.col = c) :
    Calls Tryd.prog 20 #[.pointer (some ⟨h, 0, none⟩), .pointer (some ⟨g, 0, none⟩)] w fun e' w' => e' = .returned (.tuple #[]) ∧ Dn w0 w' h g s k l c (charO (rsAt s k) l c) := by
  obtain ⟨p, hp⟩ : ∃ p : Ending → World → Prop, p = fun e' w' => e' = .returned (.tuple #[]) ∧ Dn w0 w' h g s k l c (charO (rsAt s k) l c) := ⟨_, rfl⟩
  rw [← hp]
  have hO : charO (rsAt s k) l c = errO 3 l c := by rw [hM]; unfold charO meant wrong; simp [hd]
  have HF := Lib.hid (fun w' (E : Er w0 w' h g s (errO 3 l c).el (errO 3 l c).ec (errO 3 l c).e) => (by rw [hp]; exact ⟨rfl, .inr ⟨by rw [hO]; simp [errO], by rw [hO]; exact E⟩⟩ : p (.returned (.tuple #[])) w'))
  clear hO
  have HS := Lib.hid (S.kind 2)
  have f0 := S.tk.fr 0
  have y0 := S.tk.c0
  have HM := Lib.hid hM
  have k0 : (0 : Int) ≤ (k : Int) := Int.natCast_nonneg k
  obtain ⟨ht1, ht2⟩ := ht
  clear S hp hM
  go_enter Tryd.func20, Tryd.ntmps20
  go_upto_region 1 with fail
  obtain ⟨w2, hw2⟩ : ∃ w2, w2 = w.setCell ⟨g, 0, none⟩ (i64 2) := ⟨_, rfl⟩
  rw [← hw2] at HS ⊢
  clear hw2 f0 y0
  have z0 := HS.out.x.text
  have z1 := HS.out.x.at_
  have z2 := HS.out.x.line
  have z3 := HS.out.x.col
  have y3 := HS.out.tk.c3
  have y4 := HS.out.tk.c4
  have f1 := HS.out.tk.fr 1
  have f2 := HS.out.tk.fr 2
  go_upto_region 3 with (go_at_call 15; refine (pass_m (HS.out.later (by first | exact But.refl _ _ | exact (But.refl _ _).drew | exact (But.refl _ _).drew.drew)) hs HM.out (by first | decide | exact H0.out.1 | exact H1.out.1) (by first | decide | exact H0.out.2 | exact H1.out.2)).mono ?_; rintro e w1 ⟨rfl, k1, hk1, hM1, P1, S1⟩; have HK := Lib.hid hk1; have HP := Lib.hid P1; replace HM := Lib.hid hM1; replace HS := Lib.hid S1; clear hk1 hM1 P1 S1; replace z0 := HS.out.x.text; replace z1 := HS.out.x.at_; replace z2 := HS.out.x.line; replace z3 := HS.out.x.col; replace y3 := HS.out.tk.c3; replace y4 := HS.out.tk.c4; replace f1 := HS.out.tk.fr 1; replace f2 := HS.out.tk.fr 2)
  simp only [ht1, ht2] at y3 y4
  go_wp2_with (first | (go_at_call 15; refine (pass_m (HS.out.later (by first | exact But.refl _ _ | exact (But.refl _ _).drew | exact (But.refl _ _).drew.drew)) hs HM.out (by first | decide | exact H0.out.1 | exact H1.out.1) (by first | decide | exact H0.out.2 | exact H1.out.2)).mono ?_; rintro e w1 ⟨rfl, k1, hk1, hM1, P1, S1⟩; replace HK := Lib.hid (Nat.lt_trans HK.out hk1); replace HP := Lib.hid (HP.out.trans P1); replace HM := Lib.hid hM1; replace HS := Lib.hid S1; clear hk1 hM1 P1 S1; replace z0 := HS.out.x.text; replace z1 := HS.out.x.at_; replace z2 := HS.out.x.line; replace z3 := HS.out.x.col; replace y3 := HS.out.tk.c3; replace y4 := HS.out.tk.c4; replace f1 := HS.out.tk.fr 1; replace f2 := HS.out.tk.fr 2) | (go_at_call 14; refine (peek_m (HS.out.later (by first | exact But.refl _ _ | exact (But.refl _ _).drew | exact (But.refl _ _).drew.drew)) hs HM.out).mono ?_; rintro e w1 ⟨rfl, S1⟩; replace HS := Lib.hid S1; clear S1; replace z0 := HS.out.x.text; replace z1 := HS.out.x.at_; replace z2 := HS.out.x.line; replace z3 := HS.out.x.col; replace y3 := HS.out.tk.c3; replace y4 := HS.out.tk.c4; replace f1 := HS.out.tk.fr 1; replace f2 := HS.out.tk.fr 2) | (go_at_call 37; refine (escape_says _ _ _).mono ?_; rintro e w1 ⟨rfl, rfl⟩; rw [HE.out]) | (go_at_call 16; refine (fail_st (HS.out.later (by first | exact But.refl _ _ | exact (But.refl _ _).drew | exact (But.refl _ _).drew.drew)) _ _ _).mono ?_; rintro e w1 ⟨rfl, R1⟩; have HR := Lib.hid R1; clear R1))
  go_region_with (go_at_call 16; refine (fail_st (HS.out.later (by first | exact But.refl _ _ | exact (But.refl _ _).drew | exact (But.refl _ _).drew.drew)) _ _ _).mono ?_; rintro e w1 ⟨rfl, R1⟩; have HR := Lib.hid R1; clear R1)
  all_goals go_wp2_with fail
  all_goals first | exact HF.out _ HR.out | (go_end0; exact HF.out _ HR.out) | (go_ret; exact HF.out _ HR.out)
set_option maxRecDepth 100000 in
set_option maxHeartbeats 4000000 in
theorem char_none (S : St w0 w h g s k l c t) (hs : s.size ≤ 65536)  (hM : rsAt s k = 39 :: 39 :: M) (ht : t.line = l ∧ t.col = c) :
    Calls Tryd.prog 20 #[.pointer (some ⟨h, 0, none⟩), .pointer (some ⟨g, 0, none⟩)] w fun e' w' => e' = .returned (.tuple #[]) ∧ Dn w0 w' h g s k l c (charO (rsAt s k) l c) := by
  obtain ⟨p, hp⟩ : ∃ p : Ending → World → Prop, p = fun e' w' => e' = .returned (.tuple #[]) ∧ Dn w0 w' h g s k l c (charO (rsAt s k) l c) := ⟨_, rfl⟩
  rw [← hp]
  have hO : charO (rsAt s k) l c = errO 3 l c := by rw [hM]; unfold charO meant wrong; simp [hd]
  have HF := Lib.hid (fun w' (E : Er w0 w' h g s (errO 3 l c).el (errO 3 l c).ec (errO 3 l c).e) => (by rw [hp]; exact ⟨rfl, .inr ⟨by rw [hO]; simp [errO], by rw [hO]; exact E⟩⟩ : p (.returned (.tuple #[])) w'))
  clear hO
  have HS := Lib.hid (S.kind 2)
  have f0 := S.tk.fr 0
  have y0 := S.tk.c0
  have HM := Lib.hid hM
  have k0 : (0 : Int) ≤ (k : Int) := Int.natCast_nonneg k
  obtain ⟨ht1, ht2⟩ := ht
  clear S hp hM
  go_enter Tryd.func20, Tryd.ntmps20
  go_upto_region 1 with fail
  obtain ⟨w2, hw2⟩ : ∃ w2, w2 = w.setCell ⟨g, 0, none⟩ (i64 2) := ⟨_, rfl⟩
  rw [← hw2] at HS ⊢
  clear hw2 f0 y0
  have z0 := HS.out.x.text
  have z1 := HS.out.x.at_
  have z2 := HS.out.x.line
  have z3 := HS.out.x.col
  have y3 := HS.out.tk.c3
  have y4 := HS.out.tk.c4
  have f1 := HS.out.tk.fr 1
  have f2 := HS.out.tk.fr 2
  go_upto_region 3 with (go_at_call 15; refine (pass_m (HS.out.later (by first | exact But.refl _ _ | exact (But.refl _ _).drew | exact (But.refl _ _).drew.drew)) hs HM.out (by first | decide | exact H0.out.1 | exact H1.out.1) (by first | decide | exact H0.out.2 | exact H1.out.2)).mono ?_; rintro e w1 ⟨rfl, k1, hk1, hM1, P1, S1⟩; have HK := Lib.hid hk1; have HP := Lib.hid P1; replace HM := Lib.hid hM1; replace HS := Lib.hid S1; clear hk1 hM1 P1 S1; replace z0 := HS.out.x.text; replace z1 := HS.out.x.at_; replace z2 := HS.out.x.line; replace z3 := HS.out.x.col; replace y3 := HS.out.tk.c3; replace y4 := HS.out.tk.c4; replace f1 := HS.out.tk.fr 1; replace f2 := HS.out.tk.fr 2)
  simp only [ht1, ht2] at y3 y4
  go_wp2_with (first | (go_at_call 15; refine (pass_m (HS.out.later (by first | exact But.refl _ _ | exact (But.refl _ _).drew | exact (But.refl _ _).drew.drew)) hs HM.out (by first | decide | exact H0.out.1 | exact H1.out.1) (by first | decide | exact H0.out.2 | exact H1.out.2)).mono ?_; rintro e w1 ⟨rfl, k1, hk1, hM1, P1, S1⟩; replace HK := Lib.hid (Nat.lt_trans HK.out hk1); replace HP := Lib.hid (HP.out.trans P1); replace HM := Lib.hid hM1; replace HS := Lib.hid S1; clear hk1 hM1 P1 S1; replace z0 := HS.out.x.text; replace z1 := HS.out.x.at_; replace z2 := HS.out.x.line; replace z3 := HS.out.x.col; replace y3 := HS.out.tk.c3; replace y4 := HS.out.tk.c4; replace f1 := HS.out.tk.fr 1; replace f2 := HS.out.tk.fr 2) | (go_at_call 14; refine (peek_m (HS.out.later (by first | exact But.refl _ _ | exact (But.refl _ _).drew | exact (But.refl _ _).drew.drew)) hs HM.out).mono ?_; rintro e w1 ⟨rfl, S1⟩; replace HS := Lib.hid S1; clear S1; replace z0 := HS.out.x.text; replace z1 := HS.out.x.at_; replace z2 := HS.out.x.line; replace z3 := HS.out.x.col; replace y3 := HS.out.tk.c3; replace y4 := HS.out.tk.c4; replace f1 := HS.out.tk.fr 1; replace f2 := HS.out.tk.fr 2) | (go_at_call 37; refine (escape_says _ _ _).mono ?_; rintro e w1 ⟨rfl, rfl⟩; rw [HE.out]) | (go_at_call 16; refine (fail_st (HS.out.later (by first | exact But.refl _ _ | exact (But.refl _ _).drew | exact (But.refl _ _).drew.drew)) _ _ _).mono ?_; rintro e w1 ⟨rfl, R1⟩; have HR := Lib.hid R1; clear R1))
  go_region_with (go_at_call 16; refine (fail_st (HS.out.later (by first | exact But.refl _ _ | exact (But.refl _ _).drew | exact (But.refl _ _).drew.drew)) _ _ _).mono ?_; rintro e w1 ⟨rfl, R1⟩; have HR := Lib.hid R1; clear R1)
  all_goals go_wp2_with fail
  all_goals first | exact HF.out _ HR.out | (go_end0; exact HF.out _ HR.out) | (go_ret; exact HF.out _ HR.out)
set_option maxRecDepth 100000 in
set_option maxHeartbeats 4000000 in
theorem char_esc_bad (S : St w0 w h g s k l c t) (hs : s.size ≤ 65536)  (hM : rsAt s k = 39 :: 92 :: -2 :: M) (ht : t.line = l ∧ t.col = c) :
    Calls Tryd.prog 20 #[.pointer (some ⟨h, 0, none⟩), .pointer (some ⟨g, 0, none⟩)] w fun e' w' => e' = .returned (.tuple #[]) ∧ Dn w0 w' h g s k l c (charO (rsAt s k) l c) := by
  obtain ⟨p, hp⟩ : ∃ p : Ending → World → Prop, p = fun e' w' => e' = .returned (.tuple #[]) ∧ Dn w0 w' h g s k l c (charO (rsAt s k) l c) := ⟨_, rfl⟩
  rw [← hp]
  have hO : charO (rsAt s k) l c = errO 4 l (c + 1 + 1) := by rw [hM]; unfold charO meant wrong; simp [hd]
  have HF := Lib.hid (fun w' (E : Er w0 w' h g s (errO 4 l (c + 1 + 1)).el (errO 4 l (c + 1 + 1)).ec (errO 4 l (c + 1 + 1)).e) => (by rw [hp]; exact ⟨rfl, .inr ⟨by rw [hO]; simp [errO], by rw [hO]; exact E⟩⟩ : p (.returned (.tuple #[])) w'))
  clear hO
  have HS := Lib.hid (S.kind 2)
  have f0 := S.tk.fr 0
  have y0 := S.tk.c0
  have HM := Lib.hid hM
  have k0 : (0 : Int) ≤ (k : Int) := Int.natCast_nonneg k
  obtain ⟨ht1, ht2⟩ := ht
  clear S hp hM
  go_enter Tryd.func20, Tryd.ntmps20
  go_upto_region 1 with fail
  obtain ⟨w2, hw2⟩ : ∃ w2, w2 = w.setCell ⟨g, 0, none⟩ (i64 2) := ⟨_, rfl⟩
  rw [← hw2] at HS ⊢
  clear hw2 f0 y0
  have z0 := HS.out.x.text
  have z1 := HS.out.x.at_
  have z2 := HS.out.x.line
  have z3 := HS.out.x.col
  have y3 := HS.out.tk.c3
  have y4 := HS.out.tk.c4
  have f1 := HS.out.tk.fr 1
  have f2 := HS.out.tk.fr 2
  go_upto_region 3 with (go_at_call 15; refine (pass_m (HS.out.later (by first | exact But.refl _ _ | exact (But.refl _ _).drew | exact (But.refl _ _).drew.drew)) hs HM.out (by first | decide | exact H0.out.1 | exact H1.out.1) (by first | decide | exact H0.out.2 | exact H1.out.2)).mono ?_; rintro e w1 ⟨rfl, k1, hk1, hM1, P1, S1⟩; have HK := Lib.hid hk1; have HP := Lib.hid P1; replace HM := Lib.hid hM1; replace HS := Lib.hid S1; clear hk1 hM1 P1 S1; replace z0 := HS.out.x.text; replace z1 := HS.out.x.at_; replace z2 := HS.out.x.line; replace z3 := HS.out.x.col; replace y3 := HS.out.tk.c3; replace y4 := HS.out.tk.c4; replace f1 := HS.out.tk.fr 1; replace f2 := HS.out.tk.fr 2)
  simp only [ht1, ht2] at y3 y4
  go_wp2_with (first | (go_at_call 15; refine (pass_m (HS.out.later (by first | exact But.refl _ _ | exact (But.refl _ _).drew | exact (But.refl _ _).drew.drew)) hs HM.out (by first | decide | exact H0.out.1 | exact H1.out.1) (by first | decide | exact H0.out.2 | exact H1.out.2)).mono ?_; rintro e w1 ⟨rfl, k1, hk1, hM1, P1, S1⟩; replace HK := Lib.hid (Nat.lt_trans HK.out hk1); replace HP := Lib.hid (HP.out.trans P1); replace HM := Lib.hid hM1; replace HS := Lib.hid S1; clear hk1 hM1 P1 S1; replace z0 := HS.out.x.text; replace z1 := HS.out.x.at_; replace z2 := HS.out.x.line; replace z3 := HS.out.x.col; replace y3 := HS.out.tk.c3; replace y4 := HS.out.tk.c4; replace f1 := HS.out.tk.fr 1; replace f2 := HS.out.tk.fr 2) | (go_at_call 14; refine (peek_m (HS.out.later (by first | exact But.refl _ _ | exact (But.refl _ _).drew | exact (But.refl _ _).drew.drew)) hs HM.out).mono ?_; rintro e w1 ⟨rfl, S1⟩; replace HS := Lib.hid S1; clear S1; replace z0 := HS.out.x.text; replace z1 := HS.out.x.at_; replace z2 := HS.out.x.line; replace z3 := HS.out.x.col; replace y3 := HS.out.tk.c3; replace y4 := HS.out.tk.c4; replace f1 := HS.out.tk.fr 1; replace f2 := HS.out.tk.fr 2) | (go_at_call 37; refine (escape_says _ _ _).mono ?_; rintro e w1 ⟨rfl, rfl⟩; rw [HE.out]) | (go_at_call 16; refine (fail_st (HS.out.later (by first | exact But.refl _ _ | exact (But.refl _ _).drew | exact (But.refl _ _).drew.drew)) _ _ _).mono ?_; rintro e w1 ⟨rfl, R1⟩; have HR := Lib.hid R1; clear R1))
  go_region_with (go_at_call 16; refine (fail_st (HS.out.later (by first | exact But.refl _ _ | exact (But.refl _ _).drew | exact (But.refl _ _).drew.drew)) _ _ _).mono ?_; rintro e w1 ⟨rfl, R1⟩; have HR := Lib.hid R1; clear R1)
  all_goals go_wp2_with fail
  all_goals first | exact HF.out _ HR.out | (go_end0; exact HF.out _ HR.out) | (go_ret; exact HF.out _ HR.out)
set_option maxRecDepth 100000 in
set_option maxHeartbeats 4000000 in
theorem char_esc (S : St w0 w h g s k l c t) (hs : s.size ≤ 65536) {v : Int} (hv : v ≠ -2 ∧ v ≠ 110 ∧ v ≠ 92 ∧ v ≠ 39) (hM : rsAt s k = 39 :: 92 :: v :: M) (ht : t.line = l ∧ t.col = c) :
    Calls Tryd.prog 20 #[.pointer (some ⟨h, 0, none⟩), .pointer (some ⟨g, 0, none⟩)] w fun e' w' => e' = .returned (.tuple #[]) ∧ Dn w0 w' h g s k l c (charO (rsAt s k) l c) := by
  obtain ⟨p, hp⟩ : ∃ p : Ending → World → Prop, p = fun e' w' => e' = .returned (.tuple #[]) ∧ Dn w0 w' h g s k l c (charO (rsAt s k) l c) := ⟨_, rfl⟩
  rw [← hp]
  have hO : charO (rsAt s k) l c = errO 3 l c := by rw [hM]; unfold charO meant wrong; simp [hd, hv]
  have HF := Lib.hid (fun w' (E : Er w0 w' h g s (errO 3 l c).el (errO 3 l c).ec (errO 3 l c).e) => (by rw [hp]; exact ⟨rfl, .inr ⟨by rw [hO]; simp [errO], by rw [hO]; exact E⟩⟩ : p (.returned (.tuple #[])) w'))
  clear hO
  have v1 : (v == -2) = false := beq_false_of_ne hv.1
  have HE := Lib.hid (show escV v 39 = -1 by unfold escV; simp [hv])
  clear hv
  have HS := Lib.hid (S.kind 2)
  have f0 := S.tk.fr 0
  have y0 := S.tk.c0
  have HM := Lib.hid hM
  have k0 : (0 : Int) ≤ (k : Int) := Int.natCast_nonneg k
  obtain ⟨ht1, ht2⟩ := ht
  clear S hp hM
  go_enter Tryd.func20, Tryd.ntmps20
  go_upto_region 1 with fail
  obtain ⟨w2, hw2⟩ : ∃ w2, w2 = w.setCell ⟨g, 0, none⟩ (i64 2) := ⟨_, rfl⟩
  rw [← hw2] at HS ⊢
  clear hw2 f0 y0
  have z0 := HS.out.x.text
  have z1 := HS.out.x.at_
  have z2 := HS.out.x.line
  have z3 := HS.out.x.col
  have y3 := HS.out.tk.c3
  have y4 := HS.out.tk.c4
  have f1 := HS.out.tk.fr 1
  have f2 := HS.out.tk.fr 2
  go_upto_region 3 with (go_at_call 15; refine (pass_m (HS.out.later (by first | exact But.refl _ _ | exact (But.refl _ _).drew | exact (But.refl _ _).drew.drew)) hs HM.out (by first | decide | exact H0.out.1 | exact H1.out.1) (by first | decide | exact H0.out.2 | exact H1.out.2)).mono ?_; rintro e w1 ⟨rfl, k1, hk1, hM1, P1, S1⟩; have HK := Lib.hid hk1; have HP := Lib.hid P1; replace HM := Lib.hid hM1; replace HS := Lib.hid S1; clear hk1 hM1 P1 S1; replace z0 := HS.out.x.text; replace z1 := HS.out.x.at_; replace z2 := HS.out.x.line; replace z3 := HS.out.x.col; replace y3 := HS.out.tk.c3; replace y4 := HS.out.tk.c4; replace f1 := HS.out.tk.fr 1; replace f2 := HS.out.tk.fr 2)
  simp only [ht1, ht2] at y3 y4
  go_wp2_with (first | (go_at_call 15; refine (pass_m (HS.out.later (by first | exact But.refl _ _ | exact (But.refl _ _).drew | exact (But.refl _ _).drew.drew)) hs HM.out (by first | decide | exact H0.out.1 | exact H1.out.1) (by first | decide | exact H0.out.2 | exact H1.out.2)).mono ?_; rintro e w1 ⟨rfl, k1, hk1, hM1, P1, S1⟩; replace HK := Lib.hid (Nat.lt_trans HK.out hk1); replace HP := Lib.hid (HP.out.trans P1); replace HM := Lib.hid hM1; replace HS := Lib.hid S1; clear hk1 hM1 P1 S1; replace z0 := HS.out.x.text; replace z1 := HS.out.x.at_; replace z2 := HS.out.x.line; replace z3 := HS.out.x.col; replace y3 := HS.out.tk.c3; replace y4 := HS.out.tk.c4; replace f1 := HS.out.tk.fr 1; replace f2 := HS.out.tk.fr 2) | (go_at_call 14; refine (peek_m (HS.out.later (by first | exact But.refl _ _ | exact (But.refl _ _).drew | exact (But.refl _ _).drew.drew)) hs HM.out).mono ?_; rintro e w1 ⟨rfl, S1⟩; replace HS := Lib.hid S1; clear S1; replace z0 := HS.out.x.text; replace z1 := HS.out.x.at_; replace z2 := HS.out.x.line; replace z3 := HS.out.x.col; replace y3 := HS.out.tk.c3; replace y4 := HS.out.tk.c4; replace f1 := HS.out.tk.fr 1; replace f2 := HS.out.tk.fr 2) | (go_at_call 37; refine (escape_says _ _ _).mono ?_; rintro e w1 ⟨rfl, rfl⟩; rw [HE.out]) | (go_at_call 16; refine (fail_st (HS.out.later (by first | exact But.refl _ _ | exact (But.refl _ _).drew | exact (But.refl _ _).drew.drew)) _ _ _).mono ?_; rintro e w1 ⟨rfl, R1⟩; have HR := Lib.hid R1; clear R1))
  go_region_with (go_at_call 16; refine (fail_st (HS.out.later (by first | exact But.refl _ _ | exact (But.refl _ _).drew | exact (But.refl _ _).drew.drew)) _ _ _).mono ?_; rintro e w1 ⟨rfl, R1⟩; have HR := Lib.hid R1; clear R1)
  all_goals go_wp2_with fail
  all_goals first | exact HF.out _ HR.out | (go_end0; exact HF.out _ HR.out) | (go_ret; exact HF.out _ HR.out)
set_option maxRecDepth 100000 in
set_option maxHeartbeats 4000000 in
theorem char_plain_bad (S : St w0 w h g s k l c t) (hs : s.size ≤ 65536) (hx : 0 ≤ x ∧ x ≠ 10 ∧ x ≠ 39 ∧ x ≠ 92) (hM : rsAt s k = 39 :: x :: -2 :: M) (ht : t.line = l ∧ t.col = c) :
    Calls Tryd.prog 20 #[.pointer (some ⟨h, 0, none⟩), .pointer (some ⟨g, 0, none⟩)] w fun e' w' => e' = .returned (.tuple #[]) ∧ Dn w0 w' h g s k l c (charO (rsAt s k) l c) := by
  obtain ⟨p, hp⟩ : ∃ p : Ending → World → Prop, p = fun e' w' => e' = .returned (.tuple #[]) ∧ Dn w0 w' h g s k l c (charO (rsAt s k) l c) := ⟨_, rfl⟩
  rw [← hp]
  have hO : charO (rsAt s k) l c = errO 4 l (c + 1 + 1) := by rw [hM]; unfold charO meant wrong; simp [hd, hx, show ¬ (x = -1) by omega, show ¬ (x = -2) by omega]
  have HF := Lib.hid (fun w' (E : Er w0 w' h g s (errO 4 l (c + 1 + 1)).el (c + 1 + 1) (errO 4 l (c + 1 + 1)).e) => (by rw [hp]; exact ⟨rfl, .inr ⟨by rw [hO]; simp [errO], by rw [hO]; exact (show (c + 1 + 1) = (errO 4 l (c + 1 + 1)).ec by simp only [errO] <;> omega) ▸ E⟩⟩ : p (.returned (.tuple #[])) w'))
  clear hO
  have x1 : (x == -2) = false := beq_false_of_ne (by omega)
  have x2 : ¬ x < 0 := by omega
  have x3 : (x == 10) = false := beq_false_of_ne hx.2.1
  have x4 : (x == 39) = false := beq_false_of_ne hx.2.2.1
  have x5 : (x == 92) = false := beq_false_of_ne hx.2.2.2
  have H0 := Lib.hid (show 0 ≤ x ∧ x ≠ 10 from ⟨hx.1, hx.2.1⟩)
  clear hx
  have HS := Lib.hid (S.kind 2)
  have f0 := S.tk.fr 0
  have y0 := S.tk.c0
  have HM := Lib.hid hM
  have k0 : (0 : Int) ≤ (k : Int) := Int.natCast_nonneg k
  obtain ⟨ht1, ht2⟩ := ht
  clear S hp hM
  go_enter Tryd.func20, Tryd.ntmps20
  go_upto_region 1 with fail
  obtain ⟨w2, hw2⟩ : ∃ w2, w2 = w.setCell ⟨g, 0, none⟩ (i64 2) := ⟨_, rfl⟩
  rw [← hw2] at HS ⊢
  clear hw2 f0 y0
  have z0 := HS.out.x.text
  have z1 := HS.out.x.at_
  have z2 := HS.out.x.line
  have z3 := HS.out.x.col
  have y3 := HS.out.tk.c3
  have y4 := HS.out.tk.c4
  have f1 := HS.out.tk.fr 1
  have f2 := HS.out.tk.fr 2
  go_upto_region 3 with (go_at_call 15; refine (pass_m (HS.out.later (by first | exact But.refl _ _ | exact (But.refl _ _).drew | exact (But.refl _ _).drew.drew)) hs HM.out (by first | decide | exact H0.out.1 | exact H1.out.1) (by first | decide | exact H0.out.2 | exact H1.out.2)).mono ?_; rintro e w1 ⟨rfl, k1, hk1, hM1, P1, S1⟩; have HK := Lib.hid hk1; have HP := Lib.hid P1; replace HM := Lib.hid hM1; replace HS := Lib.hid S1; clear hk1 hM1 P1 S1; replace z0 := HS.out.x.text; replace z1 := HS.out.x.at_; replace z2 := HS.out.x.line; replace z3 := HS.out.x.col; replace y3 := HS.out.tk.c3; replace y4 := HS.out.tk.c4; replace f1 := HS.out.tk.fr 1; replace f2 := HS.out.tk.fr 2)
  simp only [ht1, ht2] at y3 y4
  go_wp2_with (first | (go_at_call 15; refine (pass_m (HS.out.later (by first | exact But.refl _ _ | exact (But.refl _ _).drew | exact (But.refl _ _).drew.drew)) hs HM.out (by first | decide | exact H0.out.1 | exact H1.out.1) (by first | decide | exact H0.out.2 | exact H1.out.2)).mono ?_; rintro e w1 ⟨rfl, k1, hk1, hM1, P1, S1⟩; replace HK := Lib.hid (Nat.lt_trans HK.out hk1); replace HP := Lib.hid (HP.out.trans P1); replace HM := Lib.hid hM1; replace HS := Lib.hid S1; clear hk1 hM1 P1 S1; replace z0 := HS.out.x.text; replace z1 := HS.out.x.at_; replace z2 := HS.out.x.line; replace z3 := HS.out.x.col; replace y3 := HS.out.tk.c3; replace y4 := HS.out.tk.c4; replace f1 := HS.out.tk.fr 1; replace f2 := HS.out.tk.fr 2) | (go_at_call 14; refine (peek_m (HS.out.later (by first | exact But.refl _ _ | exact (But.refl _ _).drew | exact (But.refl _ _).drew.drew)) hs HM.out).mono ?_; rintro e w1 ⟨rfl, S1⟩; replace HS := Lib.hid S1; clear S1; replace z0 := HS.out.x.text; replace z1 := HS.out.x.at_; replace z2 := HS.out.x.line; replace z3 := HS.out.x.col; replace y3 := HS.out.tk.c3; replace y4 := HS.out.tk.c4; replace f1 := HS.out.tk.fr 1; replace f2 := HS.out.tk.fr 2) | (go_at_call 37; refine (escape_says _ _ _).mono ?_; rintro e w1 ⟨rfl, rfl⟩; rw [HE.out]) | (go_at_call 16; refine (fail_st (HS.out.later (by first | exact But.refl _ _ | exact (But.refl _ _).drew | exact (But.refl _ _).drew.drew)) _ _ _).mono ?_; rintro e w1 ⟨rfl, R1⟩; have HR := Lib.hid R1; clear R1))
  go_region_with (go_at_call 16; refine (fail_st (HS.out.later (by first | exact But.refl _ _ | exact (But.refl _ _).drew | exact (But.refl _ _).drew.drew)) _ _ _).mono ?_; rintro e w1 ⟨rfl, R1⟩; have HR := Lib.hid R1; clear R1)
  all_goals go_wp2_with fail
  all_goals first | exact HF.out _ HR.out | (go_end0; exact HF.out _ HR.out) | (go_ret; exact HF.out _ HR.out)
set_option maxRecDepth 100000 in
set_option maxHeartbeats 4000000 in
theorem char_plain_more (S : St w0 w h g s k l c t) (hs : s.size ≤ 65536) (hx : 0 ≤ x ∧ x ≠ 10 ∧ x ≠ 39 ∧ x ≠ 92) {q : Int} (hq : q ≠ -2 ∧ q ≠ 39) (hM : rsAt s k = 39 :: x :: q :: M) (ht : t.line = l ∧ t.col = c) :
    Calls Tryd.prog 20 #[.pointer (some ⟨h, 0, none⟩), .pointer (some ⟨g, 0, none⟩)] w fun e' w' => e' = .returned (.tuple #[]) ∧ Dn w0 w' h g s k l c (charO (rsAt s k) l c) := by
  obtain ⟨p, hp⟩ : ∃ p : Ending → World → Prop, p = fun e' w' => e' = .returned (.tuple #[]) ∧ Dn w0 w' h g s k l c (charO (rsAt s k) l c) := ⟨_, rfl⟩
  rw [← hp]
  have hO : charO (rsAt s k) l c = errO 3 l c := by rw [hM]; unfold charO meant wrong; simp [hd, hx, show ¬ (x = -1) by omega, show ¬ (x = -2) by omega, hq]
  have HF := Lib.hid (fun w' (E : Er w0 w' h g s (errO 3 l c).el (errO 3 l c).ec (errO 3 l c).e) => (by rw [hp]; exact ⟨rfl, .inr ⟨by rw [hO]; simp [errO], by rw [hO]; exact E⟩⟩ : p (.returned (.tuple #[])) w'))
  clear hO
  have x1 : (x == -2) = false := beq_false_of_ne (by omega)
  have x2 : ¬ x < 0 := by omega
  have x3 : (x == 10) = false := beq_false_of_ne hx.2.1
  have x4 : (x == 39) = false := beq_false_of_ne hx.2.2.1
  have x5 : (x == 92) = false := beq_false_of_ne hx.2.2.2
  have H0 := Lib.hid (show 0 ≤ x ∧ x ≠ 10 from ⟨hx.1, hx.2.1⟩)
  clear hx
  have q1 : (q == -2) = false := beq_false_of_ne hq.1
  have q2 : (q != 39) = true := by simpa using hq.2
  clear hq
  have HS := Lib.hid (S.kind 2)
  have f0 := S.tk.fr 0
  have y0 := S.tk.c0
  have HM := Lib.hid hM
  have k0 : (0 : Int) ≤ (k : Int) := Int.natCast_nonneg k
  obtain ⟨ht1, ht2⟩ := ht
  clear S hp hM
  go_enter Tryd.func20, Tryd.ntmps20
  go_upto_region 1 with fail
  obtain ⟨w2, hw2⟩ : ∃ w2, w2 = w.setCell ⟨g, 0, none⟩ (i64 2) := ⟨_, rfl⟩
  rw [← hw2] at HS ⊢
  clear hw2 f0 y0
  have z0 := HS.out.x.text
  have z1 := HS.out.x.at_
  have z2 := HS.out.x.line
  have z3 := HS.out.x.col
  have y3 := HS.out.tk.c3
  have y4 := HS.out.tk.c4
  have f1 := HS.out.tk.fr 1
  have f2 := HS.out.tk.fr 2
  go_upto_region 3 with (go_at_call 15; refine (pass_m (HS.out.later (by first | exact But.refl _ _ | exact (But.refl _ _).drew | exact (But.refl _ _).drew.drew)) hs HM.out (by first | decide | exact H0.out.1 | exact H1.out.1) (by first | decide | exact H0.out.2 | exact H1.out.2)).mono ?_; rintro e w1 ⟨rfl, k1, hk1, hM1, P1, S1⟩; have HK := Lib.hid hk1; have HP := Lib.hid P1; replace HM := Lib.hid hM1; replace HS := Lib.hid S1; clear hk1 hM1 P1 S1; replace z0 := HS.out.x.text; replace z1 := HS.out.x.at_; replace z2 := HS.out.x.line; replace z3 := HS.out.x.col; replace y3 := HS.out.tk.c3; replace y4 := HS.out.tk.c4; replace f1 := HS.out.tk.fr 1; replace f2 := HS.out.tk.fr 2)
  simp only [ht1, ht2] at y3 y4
  go_wp2_with (first | (go_at_call 15; refine (pass_m (HS.out.later (by first | exact But.refl _ _ | exact (But.refl _ _).drew | exact (But.refl _ _).drew.drew)) hs HM.out (by first | decide | exact H0.out.1 | exact H1.out.1) (by first | decide | exact H0.out.2 | exact H1.out.2)).mono ?_; rintro e w1 ⟨rfl, k1, hk1, hM1, P1, S1⟩; replace HK := Lib.hid (Nat.lt_trans HK.out hk1); replace HP := Lib.hid (HP.out.trans P1); replace HM := Lib.hid hM1; replace HS := Lib.hid S1; clear hk1 hM1 P1 S1; replace z0 := HS.out.x.text; replace z1 := HS.out.x.at_; replace z2 := HS.out.x.line; replace z3 := HS.out.x.col; replace y3 := HS.out.tk.c3; replace y4 := HS.out.tk.c4; replace f1 := HS.out.tk.fr 1; replace f2 := HS.out.tk.fr 2) | (go_at_call 14; refine (peek_m (HS.out.later (by first | exact But.refl _ _ | exact (But.refl _ _).drew | exact (But.refl _ _).drew.drew)) hs HM.out).mono ?_; rintro e w1 ⟨rfl, S1⟩; replace HS := Lib.hid S1; clear S1; replace z0 := HS.out.x.text; replace z1 := HS.out.x.at_; replace z2 := HS.out.x.line; replace z3 := HS.out.x.col; replace y3 := HS.out.tk.c3; replace y4 := HS.out.tk.c4; replace f1 := HS.out.tk.fr 1; replace f2 := HS.out.tk.fr 2) | (go_at_call 37; refine (escape_says _ _ _).mono ?_; rintro e w1 ⟨rfl, rfl⟩; rw [HE.out]) | (go_at_call 16; refine (fail_st (HS.out.later (by first | exact But.refl _ _ | exact (But.refl _ _).drew | exact (But.refl _ _).drew.drew)) _ _ _).mono ?_; rintro e w1 ⟨rfl, R1⟩; have HR := Lib.hid R1; clear R1))
  go_region_with (go_at_call 16; refine (fail_st (HS.out.later (by first | exact But.refl _ _ | exact (But.refl _ _).drew | exact (But.refl _ _).drew.drew)) _ _ _).mono ?_; rintro e w1 ⟨rfl, R1⟩; have HR := Lib.hid R1; clear R1)
  all_goals go_wp2_with fail
  all_goals first | exact HF.out _ HR.out | (go_end0; exact HF.out _ HR.out) | (go_ret; exact HF.out _ HR.out)
set_option maxRecDepth 100000 in
set_option maxHeartbeats 4000000 in
theorem char_plain_ok (S : St w0 w h g s k l c t) (hs : s.size ≤ 65536) (hx : 0 ≤ x ∧ x ≠ 10 ∧ x ≠ 39 ∧ x ≠ 92) (hM : rsAt s k = 39 :: x :: 39 :: M) (ht : t.line = l ∧ t.col = c) :
    Calls Tryd.prog 20 #[.pointer (some ⟨h, 0, none⟩), .pointer (some ⟨g, 0, none⟩)] w fun e' w' => e' = .returned (.tuple #[]) ∧ Dn w0 w' h g s k l c (charO (rsAt s k) l c) := by
  obtain ⟨p, hp⟩ : ∃ p : Ending → World → Prop, p = fun e' w' => e' = .returned (.tuple #[]) ∧ Dn w0 w' h g s k l c (charO (rsAt s k) l c) := ⟨_, rfl⟩
  rw [← hp]
  have hO : charO (rsAt s k) l c = okO (2 + 1) [⟨2, txt [], x, l, c⟩] := by rw [hM]; unfold charO meant wrong; simp [hd, hx, show ¬ (x = -1) by omega, show ¬ (x = -2) by omega]
  have hdrop : (rsAt s k).drop (2 + 1) = M := by rw [hM]; rfl
  have HF := Lib.hid (fun w' (k' : Nat) (xt : ByteArray) (hk : k < k') (hM' : rsAt s k' = M) (E : St w0 w' h g s k' l (c + ((2 + 1 : Nat) : Int)) ⟨2, xt, x, t.line, t.col⟩) => (by rw [hp]; exact ⟨rfl, .inl ⟨by rw [hO]; rfl, by rw [hO]; rfl, k', ⟨2, xt, x, t.line, t.col⟩, ⟨2, txt [], x, l, c⟩, hk, by rw [hO, hM']; exact hdrop.symm, by rw [hO]; exact E, by rw [hO]; rfl, rfl, rfl, ht.1, ht.2, .inl rfl⟩⟩ : p (.returned (.tuple #[])) w'))
  clear hO hdrop
  have x1 : (x == -2) = false := beq_false_of_ne (by omega)
  have x2 : ¬ x < 0 := by omega
  have x3 : (x == 10) = false := beq_false_of_ne hx.2.1
  have x4 : (x == 39) = false := beq_false_of_ne hx.2.2.1
  have x5 : (x == 92) = false := beq_false_of_ne hx.2.2.2
  have H0 := Lib.hid (show 0 ≤ x ∧ x ≠ 10 from ⟨hx.1, hx.2.1⟩)
  clear hx
  have HS := Lib.hid (S.kind 2)
  have f0 := S.tk.fr 0
  have y0 := S.tk.c0
  have HM := Lib.hid hM
  have k0 : (0 : Int) ≤ (k : Int) := Int.natCast_nonneg k
  obtain ⟨ht1, ht2⟩ := ht
  clear S hp hM
  go_enter Tryd.func20, Tryd.ntmps20
  go_upto_region 1 with fail
  obtain ⟨w2, hw2⟩ : ∃ w2, w2 = w.setCell ⟨g, 0, none⟩ (i64 2) := ⟨_, rfl⟩
  rw [← hw2] at HS ⊢
  clear hw2 f0 y0
  have z0 := HS.out.x.text
  have z1 := HS.out.x.at_
  have z2 := HS.out.x.line
  have z3 := HS.out.x.col
  have y3 := HS.out.tk.c3
  have y4 := HS.out.tk.c4
  have f1 := HS.out.tk.fr 1
  have f2 := HS.out.tk.fr 2
  go_upto_region 3 with (go_at_call 15; refine (pass_m (HS.out.later (by first | exact But.refl _ _ | exact (But.refl _ _).drew | exact (But.refl _ _).drew.drew)) hs HM.out (by first | decide | exact H0.out.1 | exact H1.out.1) (by first | decide | exact H0.out.2 | exact H1.out.2)).mono ?_; rintro e w1 ⟨rfl, k1, hk1, hM1, P1, S1⟩; have HK := Lib.hid hk1; have HP := Lib.hid P1; replace HM := Lib.hid hM1; replace HS := Lib.hid S1; clear hk1 hM1 P1 S1; replace z0 := HS.out.x.text; replace z1 := HS.out.x.at_; replace z2 := HS.out.x.line; replace z3 := HS.out.x.col; replace y3 := HS.out.tk.c3; replace y4 := HS.out.tk.c4; replace f1 := HS.out.tk.fr 1; replace f2 := HS.out.tk.fr 2)
  simp only [ht1, ht2] at y3 y4
  go_upto_region 23 with (first | (go_at_call 15; refine (pass_m (HS.out.later (by first | exact But.refl _ _ | exact (But.refl _ _).drew | exact (But.refl _ _).drew.drew)) hs HM.out (by first | decide | exact H0.out.1 | exact H1.out.1) (by first | decide | exact H0.out.2 | exact H1.out.2)).mono ?_; rintro e w1 ⟨rfl, k1, hk1, hM1, P1, S1⟩; replace HK := Lib.hid (Nat.lt_trans HK.out hk1); replace HP := Lib.hid (HP.out.trans P1); replace HM := Lib.hid hM1; replace HS := Lib.hid S1; clear hk1 hM1 P1 S1; replace z0 := HS.out.x.text; replace z1 := HS.out.x.at_; replace z2 := HS.out.x.line; replace z3 := HS.out.x.col; replace y3 := HS.out.tk.c3; replace y4 := HS.out.tk.c4; replace f1 := HS.out.tk.fr 1; replace f2 := HS.out.tk.fr 2) | (go_at_call 14; refine (peek_m (HS.out.later (by first | exact But.refl _ _ | exact (But.refl _ _).drew | exact (But.refl _ _).drew.drew)) hs HM.out).mono ?_; rintro e w1 ⟨rfl, S1⟩; replace HS := Lib.hid S1; clear S1; replace z0 := HS.out.x.text; replace z1 := HS.out.x.at_; replace z2 := HS.out.x.line; replace z3 := HS.out.x.col; replace y3 := HS.out.tk.c3; replace y4 := HS.out.tk.c4; replace f1 := HS.out.tk.fr 1; replace f2 := HS.out.tk.fr 2) | (go_at_call 37; refine (escape_says _ _ _).mono ?_; rintro e w1 ⟨rfl, rfl⟩; rw [HE.out]) | (go_at_call 16; refine (fail_st (HS.out.later (by first | exact But.refl _ _ | exact (But.refl _ _).drew | exact (But.refl _ _).drew.drew)) _ _ _).mono ?_; rintro e w1 ⟨rfl, R1⟩; have HR := Lib.hid R1; clear R1))
  have hz1 : (k : Int) ≤ (k1 : Int) := by have := HK.out; omega
  have hz2 : (k1 : Int) ≤ (s.size : Int) := by have := HS.out.kl; omega
  have c2 := HS.out.tk.c2
  go_upto_region 24 with fail
  obtain ⟨w3, hw3⟩ : ∃ w3, w3 = w1.setCell ⟨g, 2, none⟩ (i64 x) := ⟨_, rfl⟩
  replace HS := Lib.hid (HS.out.num x)
  rw [← hw3] at HS ⊢
  clear hw3 c2
  replace z0 := HS.out.x.text; replace z1 := HS.out.x.at_; replace z2 := HS.out.x.line; replace z3 := HS.out.x.col; replace y3 := HS.out.tk.c3; replace y4 := HS.out.tk.c4; replace f1 := HS.out.tk.fr 1; replace f2 := HS.out.tk.fr 2
  have y1 := HS.out.tk.c1
  go_region_with fail
  all_goals (go_wp2_with fail; go_end0; exact HF.out _ k1 _ HK.out HM.out (((HS.out.text _).later (But.refl _ _).drew).cast (by omega)))

end
end Go.Proofs.YtgikcciakbnehaaDoor.Lex
