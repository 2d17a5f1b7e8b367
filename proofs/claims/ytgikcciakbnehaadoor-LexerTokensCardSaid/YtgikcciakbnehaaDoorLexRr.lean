
/-
  Package lexer: read (written by wip/bin/mkread.py).
-/
import Derived.Test.YtgikcciakbnehaaDoorLexNb
import Derived.Test.YtgikcciakbnehaaDoorLexQu
set_option maxRecDepth 100000
namespace Go.Proofs.YtgikcciakbnehaaDoor.Lex
open Go.Proofs.YtgikcciakbnehaaDoor Go.Proofs.YtgikcciakbnehaaDoor.Ser
open Go.ChangeShapes Go.WideShapes Go.ChangeAt Go.RowKit
/-- The world with the fault that read answers. -/
abbrev wF (w : World) : World := w.alloc (.cells #[i64 0, i64 0, i64 0] 45)
section
variable {w w' wf : World} {B h g q k : Nat} {L : List Int} {l c : Int} {v : Value} {T : List Tok} {o : Out}
theorem zF {S : Nat → Prop} (b : But S (wF w) w') (hs : ¬ S w.heap.size) : w'.heap[w.heap.size]? = some (.cells #[i64 0, i64 0, i64 0] 45 (0, 0)) :=
  (b.block w.heap.size (by simp) hs).trans (MapKept.heap_alloc w _).1
theorem finF (e : w'.heap[w.heap.size]? = some (.cells #[i64 0, i64 0, i64 0] 45 (0, 0))) : Fin6 w w' := by
  refine ⟨?_, ?_, ?_, ?_, ?_, ?_⟩
  · rw [cell_of_row _ w.heap.size 0 _ _ _ e]; rfl
  · rw [cell_of_row _ w.heap.size 1 _ _ _ e]; rfl
  · rw [cell_of_row _ w.heap.size 2 _ _ _ e]; rfl
  · simp [World.frozen?, e]
  · simp [World.frozen?, e]
  · simp [World.frozen?, e]
theorem own_neF {v' : Value} {T' : List Tok} (ht : OwnT w' B v' T') (e : w'.heap[w.heap.size]? = some (.cells #[i64 0, i64 0, i64 0] 45 (0, 0))) : v'.ownBlock ≠ some w.heap.size := by
  intro hv
  obtain ⟨h0, ⟨rfl, h1⟩ | ⟨gg, cap, cur, rfl, h2, h3, -⟩⟩ := ht
  · cases hv
  · have hv' : gg = w.heap.size := Option.some.inj hv
    rw [hv', e] at h3
    injection h3 with h3
    injection h3 with h4 h5
    exact absurd h5 (by decide)
theorem did_fin (hz : h < w.heap.size ∧ g < w.heap.size ∧ ∀ i, v.ownBlock = some i → i < w.heap.size) (D : Did (wF w).drew w' B h g q L k l c v T o) : Fin6 w w' ∧ ∀ wf, But (fun i => i = w.heap.size) w' wf → Did w wf B h g q L k l c v T o := by
  obtain ⟨b, hR⟩ := D
  have ns : ¬ ((w.heap.size = h ∨ v.ownBlock = some w.heap.size) ∨ ((wF w).drew).heap.size ≤ w.heap.size) := by
    rintro ((h1 | h1) | h1)
    · omega
    · have := hz.2.2 _ h1; omega
    · have : ((wF w).drew).heap.size = w.heap.size + 1 := by show (wF w).heap.size = _; simp
      omega
  have b' : But (fun i => (i = h ∨ v.ownBlock = some i) ∨ ((wF w).drew).heap.size ≤ i) (wF w) w' := (But.refl _ (wF w)).drew.trans b
  have e := zF b' ns
  refine ⟨finF e, fun wf bz => ⟨?_, fun he => ?_⟩⟩
  · have b0 : But (fun i => (i = h ∨ v.ownBlock = some i) ∨ w.heap.size ≤ i) w (wF w) := (But.refl _ w).alloc _
    refine (b0.then b' (fun _ h => h) (fun i hi hs => ?_)).then bz (fun _ h => h) (fun i hi hs => .inr (by omega))
    rcases hs with hs | hs
    · exact .inl hs
    · have : ((wF w).drew).heap.size = w.heap.size + 1 := by show (wF w).heap.size = _; simp
      exact .inr (by omega)
  · obtain ⟨v', R'⟩ := hR he
    exact ⟨v', R'.kept bz (by omega) (by omega) fun i hi hs => own_neF R'.tk e (by rw [hi, hs])⟩
theorem did_of {v' : Value} (b : But (fun i => (i = h ∨ v.ownBlock = some i) ∨ (wF w).heap.size ≤ i) (wF w) w') (R' : Rd w' B h g q L (k + o.k) (o.line l) (o.col c) v' (T ++ o.ts)) : Did (wF w).drew w' B h g q L k l c v T o :=
  ⟨⟨b.os, b.tape, b.output, b.size, b.block⟩, fun _ => ⟨v', R'⟩⟩
end
theorem blank_ne {x : Int} (h : blank x = true) : 0 ≤ x := by unfold blank at h; simp at h; omega
theorem sgn_pos {x : Int} (h : sgn x = true) : 0 ≤ x := by unfold sgn at h; simp at h; omega
theorem dig_pos {x : Int} (h : dig x = true) : 0 ≤ x := by unfold dig at h; simp at h; omega
theorem txt_one (x : Int) : Utf8.encode x = txt [x] := by rw [encode_eq]; simp [txt]
section
variable {w : World} {B h g q k : Nat} {L : List Int} {l c : Int} {v : Value} {T : List Tok}
set_option maxRecDepth 100000 in
set_option maxHeartbeats 4000000 in
theorem read_says (R : Rd w B h g q L k l c v T) (hT : T.length ≤ 1000000) (hB : B ≤ w.heap.size) : Calls Tryd.prog 12 #[.pointer (some ⟨h, 0, none⟩)] w fun e w' => e = .returned (fV (stepO (L.drop k) l c)) ∧ Did w w' B h g q L k l c v T (stepO (L.drop k) l c) := by
  obtain ⟨r, hr⟩ : ∃ r : Ending → World → Prop, r = fun e w' => e = .returned (fV (stepO (L.drop k) l c)) ∧ Did w w' B h g q L k l c v T (stepO (L.drop k) l c) := ⟨_, rfl⟩
  rw [← hr]
  have hz := R.lt
  have HR0 := Lib.hid (R.later ((But.refl _ w).alloc (.cells #[i64 0, i64 0, i64 0] 45)))
  have HR := Lib.hid (HR0.out.later (But.refl _ (wF w)).drew)
  have HT := Lib.hid hT
  have HB := Lib.hid (show B ≤ ((wF w).drew).heap.size from Nat.le_trans hB ((But.refl (fun _ => False) w).alloc _).size)
  have c2 := HR0.out.c2
  have c3 := HR0.out.c3
  have hbd := R.hd_bd
  have hout : ∀ o wf, stepO (L.drop k) l c = o → Did w wf B h g q L k l c v T o → r (.returned (.agg #[i64 o.el, i64 o.ec, i64 o.e])) wf := by
    intro o wf ho D; rw [hr, ho]; exact ⟨rfl, D⟩
  have hF : ∀ o, stepO (L.drop k) l c = o → ∀ w', Did (wF w).drew w' B h g q L k l c v T o → Fin6 w w' ∧ r (.returned (.agg #[i64 o.el, i64 o.ec, i64 o.e])) (((w'.setCell ⟨w.heap.size, 0, none⟩ (i64 o.el)).setCell ⟨w.heap.size, 1, none⟩ (i64 o.ec)).setCell ⟨w.heap.size, 2, none⟩ (i64 o.e)) := by
    intro o ho w' D
    obtain ⟨f, k1⟩ := did_fin hz D
    exact ⟨f, hout o _ ho (k1 _ (zset _ _ _ _ _))⟩
  have HF := Lib.hid hF
  have HZ := Lib.hid hz
  have hG := R.good.drop k R.kl
  clear hr hout hF hz hT hB
  obtain ⟨x, hx⟩ : ∃ x, hd (L.drop k) = x := ⟨_, rfl⟩
  rw [hx] at hbd
  cases yb : blank x with
  | true =>
    have hst : stepO (L.drop k) l c = okO 1 [] := by unfold stepO; rw [hx, if_pos yb]
    have HF1 := HF.out _ hst
    have H0 := Lib.hid (show 0 ≤ hd (L.drop k) by rw [hx]; exact blank_ne yb)
    have HF2 := Lib.hid HF1
    clear HF1 hst HF hbd hG R
    go_enter Tryd.func12, Tryd.ntmps12
    go_wp2_with (first
      | (go_at_call 24; refine (next_says HR.out H0.out).mono ?_; rintro e w1 ⟨rfl, R1, b1⟩; obtain ⟨⟨z0, z1, z2, f0, f1, f2⟩, K⟩ := HF2.out w1 (did_of (v' := v) (((But.refl _ (wF w)).drew.trans b1).mono fun i hi => .inl (.inl hi)) (by rw [show T ++ (okO 1 []).ts = T by simp [okO]]; exact R1)); have K := Lib.hid K; clear R1 b1)
      | (go_at_call 11; refine (now_says HR0.out).mono ?_; rintro e w1 ⟨rfl, rfl⟩; rw [hx])
      | (go_at_call 23; refine (isBlank_says _ _).mono ?_; rintro e t' ⟨rfl, rfl⟩; rw [yb]))
    exact bodyPost_ret (v := .agg #[i64 0, i64 0, i64 0]) (by simp [results, Tryd.results12, go_sem, z0, z1, z2]) rfl K.out
  | false =>
    by_cases h59 : x = 59
    · subst h59
      have hst : stepO (L.drop k) l c = okO (remLen (L.drop k)) [] := by unfold stepO; rw [hx, if_neg (by simp [yb]), if_pos rfl]
      have HF1 := HF.out _ hst
      have HF2 := Lib.hid HF1
      clear HF1 hst HF hbd hG R
      go_enter Tryd.func12, Tryd.ntmps12
      go_wp2_with (first
        | (go_at_call 25; refine (remark_says HR.out).mono ?_; rintro e w1 ⟨rfl, R1, b1⟩; obtain ⟨⟨z0, z1, z2, f0, f1, f2⟩, K⟩ := HF2.out w1 (did_of (v' := v) (((But.refl _ (wF w)).drew.trans b1).mono fun i hi => .inl (.inl hi)) (by rw [show T ++ (okO (remLen (L.drop k)) []).ts = T by simp [okO]]; exact R1)); have K := Lib.hid K; clear R1 b1)
        | (go_at_call 11; refine (now_says HR0.out).mono ?_; rintro e w1 ⟨rfl, rfl⟩; rw [hx])
        | (go_at_call 23; refine (isBlank_says _ _).mono ?_; rintro e t' ⟨rfl, rfl⟩; rw [yb]))
      exact bodyPost_ret (v := .agg #[i64 0, i64 0, i64 0]) (by simp [results, Tryd.results12, go_sem, z0, z1, z2]) rfl K.out
    have y59 : (x == 59) = false := by simpa using h59
    by_cases h10 : x = 10
    · subst h10
      have hst : stepO (L.drop k) l c = if 8000 < l then errO 2 l c else ⟨0, 0, 0, 1, true, [⟨5, txt [], 0, l, c⟩]⟩ := by unfold stepO; rw [hx, if_neg (by simp [yb]), if_neg h59, if_pos rfl]
      have HS := lineEnd_says HR.out hx HT.out HB.out
      obtain ⟨o, ho⟩ : ∃ o, (if 8000 < l then errO 2 l c else ⟨0, 0, 0, 1, true, [⟨5, txt [], 0, l, c⟩]⟩ : Out) = o := ⟨_, rfl⟩
      rw [ho] at hst HS
      have HF1 := HF.out o hst
      have hfo : fV o = .agg #[i64 o.el, i64 o.ec, i64 o.e] := rfl
      rw [hfo] at HS
      obtain ⟨a, ha⟩ : ∃ a, o.el = a := ⟨_, rfl⟩
      obtain ⟨b, hb⟩ : ∃ b, o.ec = b := ⟨_, rfl⟩
      obtain ⟨d, hd'⟩ : ∃ d, o.e = d := ⟨_, rfl⟩
      rw [ha, hb, hd'] at HF1 HS
      have HF2 := Lib.hid HF1
      have HS2 := Lib.hid HS
      clear HF1 HS ho ha hb hd' hfo hst HF hbd hG R
      go_enter Tryd.func12, Tryd.ntmps12
      go_wp2_with (first
        | (go_at_call 26; refine HS2.out.mono ?_; rintro e w1 ⟨rfl, D⟩; obtain ⟨⟨z0, z1, z2, f0, f1, f2⟩, K⟩ := HF2.out w1 D; have K := Lib.hid K; clear D)
        | (go_at_call 11; refine (now_says HR0.out).mono ?_; rintro e w1 ⟨rfl, rfl⟩; rw [hx])
        | (go_at_call 23; refine (isBlank_says _ _).mono ?_; rintro e t' ⟨rfl, rfl⟩; rw [yb]))
      exact bodyPost_ret (v := .agg #[i64 a, i64 b, i64 d]) (by simp [results, Tryd.results12, go_sem, z0, z1, z2]) rfl K.out
    have y10 : (x == 10) = false := by simpa using h10
    cases yl : letter x with
    | true =>
      have hst : stepO (L.drop k) l c = nameO (L.drop k) l c := by unfold stepO; rw [hx, if_neg (by simp [yb]), if_neg h59, if_neg h10, if_pos yl]
      have HS := name_says HR.out HT.out HB.out
      obtain ⟨o, ho⟩ : ∃ o, nameO (L.drop k) l c = o := ⟨_, rfl⟩
      rw [ho] at hst HS
      have HF1 := HF.out o hst
      have hfo : fV o = .agg #[i64 o.el, i64 o.ec, i64 o.e] := rfl
      rw [hfo] at HS
      obtain ⟨a, ha⟩ : ∃ a, o.el = a := ⟨_, rfl⟩
      obtain ⟨b, hb⟩ : ∃ b, o.ec = b := ⟨_, rfl⟩
      obtain ⟨d, hd'⟩ : ∃ d, o.e = d := ⟨_, rfl⟩
      rw [ha, hb, hd'] at HF1 HS
      have HF2 := Lib.hid HF1
      have HS2 := Lib.hid HS
      clear HF1 HS ho ha hb hd' hfo hst HF hbd hG R
      go_enter Tryd.func12, Tryd.ntmps12
      go_wp2_with (first
        | (go_at_call 28; refine HS2.out.mono ?_; rintro e w1 ⟨rfl, D⟩; obtain ⟨⟨z0, z1, z2, f0, f1, f2⟩, K⟩ := HF2.out w1 D; have K := Lib.hid K; clear D)
        | (go_at_call 11; refine (now_says HR0.out).mono ?_; rintro e w1 ⟨rfl, rfl⟩; rw [hx])
        | (go_at_call 23; refine (isBlank_says _ _).mono ?_; rintro e t' ⟨rfl, rfl⟩; rw [yb])
        | (go_at_call 27; refine (isLetter_says _ _).mono ?_; rintro e t' ⟨rfl, rfl⟩; rw [yl]))
      exact bodyPost_ret (v := .agg #[i64 a, i64 b, i64 d]) (by simp [results, Tryd.results12, go_sem, z0, z1, z2]) rfl K.out
    | false =>
      cases yd : dig x with
      | true =>
        have hst : stepO (L.drop k) l c = numO (L.drop k) l c := by unfold stepO; rw [hx, if_neg (by simp [yb]), if_neg h59, if_neg h10, if_neg (by simp [yl]), if_pos yd]
        have HS := number_says HR.out HT.out HB.out
        obtain ⟨o, ho⟩ : ∃ o, numO (L.drop k) l c = o := ⟨_, rfl⟩
        rw [ho] at hst HS
        have HF1 := HF.out o hst
        have hfo : fV o = .agg #[i64 o.el, i64 o.ec, i64 o.e] := rfl
        rw [hfo] at HS
        obtain ⟨a, ha⟩ : ∃ a, o.el = a := ⟨_, rfl⟩
        obtain ⟨b, hb⟩ : ∃ b, o.ec = b := ⟨_, rfl⟩
        obtain ⟨d, hd'⟩ : ∃ d, o.e = d := ⟨_, rfl⟩
        rw [ha, hb, hd'] at HF1 HS
        have HF2 := Lib.hid HF1
        have HS2 := Lib.hid HS
        clear HF1 HS ho ha hb hd' hfo hst HF hbd hG R
        go_enter Tryd.func12, Tryd.ntmps12
        go_wp2_with (first
          | (go_at_call 30; refine HS2.out.mono ?_; rintro e w1 ⟨rfl, D⟩; obtain ⟨⟨z0, z1, z2, f0, f1, f2⟩, K⟩ := HF2.out w1 D; have K := Lib.hid K; clear D)
          | (go_at_call 11; refine (now_says HR0.out).mono ?_; rintro e w1 ⟨rfl, rfl⟩; rw [hx])
          | (go_at_call 23; refine (isBlank_says _ _).mono ?_; rintro e t' ⟨rfl, rfl⟩; rw [yb])
          | (go_at_call 27; refine (isLetter_says _ _).mono ?_; rintro e t' ⟨rfl, rfl⟩; rw [yl])
          | (go_at_call 29; refine (isDigit_says _ _).mono ?_; rintro e t' ⟨rfl, rfl⟩; rw [yd]))
        exact bodyPost_ret (v := .agg #[i64 a, i64 b, i64 d]) (by simp [results, Tryd.results12, go_sem, z0, z1, z2]) rfl K.out
      | false =>
        by_cases h39 : x = 39
        · subst h39
          have hst : stepO (L.drop k) l c = charO (L.drop k) l c := by unfold stepO; rw [hx, if_neg (by simp [yb]), if_neg h59, if_neg h10, if_neg (by simp [yl]), if_neg (by simp [yd]), if_pos rfl]
          have HS := character_says HR.out (by rw [hx]; decide) HT.out HB.out
          obtain ⟨o, ho⟩ : ∃ o, charO (L.drop k) l c = o := ⟨_, rfl⟩
          rw [ho] at hst HS
          have HF1 := HF.out o hst
          have hfo : fV o = .agg #[i64 o.el, i64 o.ec, i64 o.e] := rfl
          rw [hfo] at HS
          obtain ⟨a, ha⟩ : ∃ a, o.el = a := ⟨_, rfl⟩
          obtain ⟨b, hb⟩ : ∃ b, o.ec = b := ⟨_, rfl⟩
          obtain ⟨d, hd'⟩ : ∃ d, o.e = d := ⟨_, rfl⟩
          rw [ha, hb, hd'] at HF1 HS
          have HF2 := Lib.hid HF1
          have HS2 := Lib.hid HS
          clear HF1 HS ho ha hb hd' hfo hst HF hbd hG R
          go_enter Tryd.func12, Tryd.ntmps12
          go_wp2_with (first
            | (go_at_call 31; refine HS2.out.mono ?_; rintro e w1 ⟨rfl, D⟩; obtain ⟨⟨z0, z1, z2, f0, f1, f2⟩, K⟩ := HF2.out w1 D; have K := Lib.hid K; clear D)
            | (go_at_call 11; refine (now_says HR0.out).mono ?_; rintro e w1 ⟨rfl, rfl⟩; rw [hx])
            | (go_at_call 23; refine (isBlank_says _ _).mono ?_; rintro e t' ⟨rfl, rfl⟩; rw [yb])
            | (go_at_call 27; refine (isLetter_says _ _).mono ?_; rintro e t' ⟨rfl, rfl⟩; rw [yl])
            | (go_at_call 29; refine (isDigit_says _ _).mono ?_; rintro e t' ⟨rfl, rfl⟩; rw [yd]))
          exact bodyPost_ret (v := .agg #[i64 a, i64 b, i64 d]) (by simp [results, Tryd.results12, go_sem, z0, z1, z2]) rfl K.out
        have y39 : (x == 39) = false := by simpa using h39
        by_cases h34 : x = 34
        · subst h34
          have hst : stepO (L.drop k) l c = strO (L.drop k) l c := by unfold stepO; rw [hx, if_neg (by simp [yb]), if_neg h59, if_neg h10, if_neg (by simp [yl]), if_neg (by simp [yd]), if_neg h39, if_pos rfl]
          have HS := quoted_says HR.out (by rw [hx]; decide) HT.out HB.out
          obtain ⟨o, ho⟩ : ∃ o, strO (L.drop k) l c = o := ⟨_, rfl⟩
          rw [ho] at hst HS
          have HF1 := HF.out o hst
          have hfo : fV o = .agg #[i64 o.el, i64 o.ec, i64 o.e] := rfl
          rw [hfo] at HS
          obtain ⟨a, ha⟩ : ∃ a, o.el = a := ⟨_, rfl⟩
          obtain ⟨b, hb⟩ : ∃ b, o.ec = b := ⟨_, rfl⟩
          obtain ⟨d, hd'⟩ : ∃ d, o.e = d := ⟨_, rfl⟩
          rw [ha, hb, hd'] at HF1 HS
          have HF2 := Lib.hid HF1
          have HS2 := Lib.hid HS
          clear HF1 HS ho ha hb hd' hfo hst HF hbd hG R
          go_enter Tryd.func12, Tryd.ntmps12
          go_wp2_with (first
            | (go_at_call 32; refine HS2.out.mono ?_; rintro e w1 ⟨rfl, D⟩; obtain ⟨⟨z0, z1, z2, f0, f1, f2⟩, K⟩ := HF2.out w1 D; have K := Lib.hid K; clear D)
            | (go_at_call 11; refine (now_says HR0.out).mono ?_; rintro e w1 ⟨rfl, rfl⟩; rw [hx])
            | (go_at_call 23; refine (isBlank_says _ _).mono ?_; rintro e t' ⟨rfl, rfl⟩; rw [yb])
            | (go_at_call 27; refine (isLetter_says _ _).mono ?_; rintro e t' ⟨rfl, rfl⟩; rw [yl])
            | (go_at_call 29; refine (isDigit_says _ _).mono ?_; rintro e t' ⟨rfl, rfl⟩; rw [yd]))
          exact bodyPost_ret (v := .agg #[i64 a, i64 b, i64 d]) (by simp [results, Tryd.results12, go_sem, z0, z1, z2]) rfl K.out
        have y34 : (x == 34) = false := by simpa using h34
        cases ys : sgn x with
        | true =>
          have hst : stepO (L.drop k) l c = okO 1 [⟨4, txt [x], 0, l, c⟩] := by unfold stepO; rw [hx, if_neg (by simp [yb]), if_neg h59, if_neg h10, if_neg (by simp [yl]), if_neg (by simp [yd]), if_neg h39, if_neg h34, if_pos ys]
          have HF1 := HF.out _ hst
          have H0 := Lib.hid (show 0 ≤ hd (L.drop k) by rw [hx]; exact sgn_pos ys)
          have hen := txt_one x
          obtain ⟨s, hs⟩ : ∃ s, txt [x] = s := ⟨_, rfl⟩
          rw [hs] at HF1 hen
          have HF2 := Lib.hid HF1
          clear HF1 hst HF hbd hG R hs
          go_enter Tryd.func12, Tryd.ntmps12
          go_wp2_with (first
            | (go_at_call 24; refine (next_says K4.out H0.out).mono ?_; rintro e w1 ⟨rfl, R1, b1⟩; obtain ⟨⟨z0, z1, z2, f0, f1, f2⟩, K⟩ := HF2.out w1 (did_of (v' := v4) ((((But.refl _ (wF w)).drew.trans B4.out).then b1 (fun _ h => h) (fun _ _ h => .inl h)).mono fun i hi => .inl hi) R1); have K := Lib.hid K; clear R1 b1)
            | (go_at_call 13; refine (add_says HR.out l c 4 0 s HT.out HB.out).mono ?_; rintro e w4 ⟨rfl, v4, R4, b4, o4⟩; have K4 := Lib.hid R4; have B4 := Lib.hid b4; clear R4 b4 o4)
            | (go_at_call 11; refine (now_says HR0.out).mono ?_; rintro e w1 ⟨rfl, rfl⟩; rw [hx])
            | (go_at_call 23; refine (isBlank_says _ _).mono ?_; rintro e t' ⟨rfl, rfl⟩; rw [yb])
            | (go_at_call 27; refine (isLetter_says _ _).mono ?_; rintro e t' ⟨rfl, rfl⟩; rw [yl])
            | (go_at_call 29; refine (isDigit_says _ _).mono ?_; rintro e t' ⟨rfl, rfl⟩; rw [yd])
            | (go_at_call 33; refine (isSign_says _ _).mono ?_; rintro e t' ⟨rfl, rfl⟩; rw [ys]))
          exact bodyPost_ret (v := .agg #[i64 0, i64 0, i64 0]) (by simp [results, Tryd.results12, go_sem, z0, z1, z2]) rfl K.out
        | false =>
          have hst : stepO (L.drop k) l c = wrong (L.drop k) l c l c := by unfold stepO; rw [hx, if_neg (by simp [yb]), if_neg h59, if_neg h10, if_neg (by simp [yl]), if_neg (by simp [yd]), if_neg h39, if_neg h34, if_neg (by simp [ys])]
          have HS0 := wrong_says HR.out l c
          have hwe := wrong_ne (L.drop k) l c l c
          have HS : Calls Tryd.prog 34 #[.pointer (some ⟨h, 0, none⟩), .agg #[i64 l, i64 c]] (wF w).drew fun e w' => e = .returned (fV (wrong (L.drop k) l c l c)) ∧ Did (wF w).drew w' B h g q L k l c v T (wrong (L.drop k) l c l c) := HS0.mono fun e w' hh => ⟨hh.1, hh.2.mono (fun _ h => h.elim), fun h0 => by rw [h0] at hwe; cases hwe⟩
          clear HS0 hwe
          obtain ⟨o, ho⟩ : ∃ o, wrong (L.drop k) l c l c = o := ⟨_, rfl⟩
          rw [ho] at hst HS
          have HF1 := HF.out o hst
          have hfo : fV o = .agg #[i64 o.el, i64 o.ec, i64 o.e] := rfl
          rw [hfo] at HS
          obtain ⟨a, ha⟩ : ∃ a, o.el = a := ⟨_, rfl⟩
          obtain ⟨b, hb⟩ : ∃ b, o.ec = b := ⟨_, rfl⟩
          obtain ⟨d, hd'⟩ : ∃ d, o.e = d := ⟨_, rfl⟩
          rw [ha, hb, hd'] at HF1 HS
          have HF2 := Lib.hid HF1
          have HS2 := Lib.hid HS
          clear HF1 HS ho ha hb hd' hfo hst HF hbd hG R
          go_enter Tryd.func12, Tryd.ntmps12
          go_wp2_with (first
            | (go_at_call 34; refine HS2.out.mono ?_; rintro e w1 ⟨rfl, D⟩; obtain ⟨⟨z0, z1, z2, f0, f1, f2⟩, K⟩ := HF2.out w1 D; have K := Lib.hid K; clear D)
            | (go_at_call 11; refine (now_says HR0.out).mono ?_; rintro e w1 ⟨rfl, rfl⟩; rw [hx])
            | (go_at_call 23; refine (isBlank_says _ _).mono ?_; rintro e t' ⟨rfl, rfl⟩; rw [yb])
            | (go_at_call 27; refine (isLetter_says _ _).mono ?_; rintro e t' ⟨rfl, rfl⟩; rw [yl])
            | (go_at_call 29; refine (isDigit_says _ _).mono ?_; rintro e t' ⟨rfl, rfl⟩; rw [yd])
            | (go_at_call 33; refine (isSign_says _ _).mono ?_; rintro e t' ⟨rfl, rfl⟩; rw [ys]))
          exact bodyPost_ret (v := .agg #[i64 a, i64 b, i64 d]) (by simp [results, Tryd.results12, go_sem, z0, z1, z2]) rfl K.out
end
end Go.Proofs.YtgikcciakbnehaaDoor.Lex
