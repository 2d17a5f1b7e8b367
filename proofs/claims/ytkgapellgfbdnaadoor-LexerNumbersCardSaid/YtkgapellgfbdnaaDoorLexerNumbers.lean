/-
  a number's text, decimal or hexadecimal, with noughts ahead, is that number, or the error of one that is too big: law LexerNumbers returns true.
  No condition on the arguments: whatever they are. The card ties the three listed tables of Go's library to the program's text.
-/
import Derived.Test.YtkgapellgfbdnaaDoorLexAl
import Derived.Carry
import Derived.Lay
import Derived.LaidOnce
import Derived.OpenShut
import Derived.Deep.Slices
import Derived.Test.YtkgapellgfbdnaaDoorCards
import Derived.Test.YtkgapellgfbdnaaDoorTie
import Derived.SevenTiedAt
import Derived.Test.YtkgapellgfbdnaaDoorLexHx
namespace Go.Proofs.YtkgapellgfbdnaaDoor.lexerNumbers
open Go Go.Proofs.YtkgapellgfbdnaaDoor Go.Proofs.YtkgapellgfbdnaaDoor.Ser Go.Proofs.YtkgapellgfbdnaaDoor.Lex Go.ChangeShapes Go.WideShapes Go.ChangeAt Go.RowKit
set_option linter.unusedVariables false
theorem rs_num (l : List UInt8) (h : ∀ b ∈ l, b.toNat < 128) : rs l = rn l ++ [-1] := by
  have := rs_all l [] h
  rw [List.append_nil, rs_nil] at this
  exact this
theorem isd_hxb (d : Nat) (h : d ≤ 15) : isd 16 ((hxb d).toNat : Int) = true := by
  unfold isd; rw [(hxb_val d h).1]; simp; omega
theorem lex_dec {l : List UInt8} (hl : Dec l) (hne : l ≠ []) (hs : l.length ≤ 65536) :
    lexS ⟨l.toArray⟩ = if 4294967295 < cap 10 (rn l) then ([], 1, 1, 6) else ([⟨2, txt [], cap 10 (rn l), 1, 1⟩, ⟨6, txt [], 0, 1, 1 + (l.length : Int)⟩], 0, 0, 0) := by
  have hst := step_dec (ln := 1) (c := 1) hl hne (t := [-1]) (by decide) (by simp) (by decide)
  have hlen : (rn l ++ [-1]).length = (l.length - 1) + 1 + 1 := by
    have : 0 < l.length := List.length_pos_iff.2 hne
    unfold rn; rw [List.length_append, List.length_map]; simp; omega
  obtain ⟨b, l', rfl⟩ := List.exists_cons_of_ne_nil hne
  have hb := hl b (by simp)
  have h1 : hd (rn (b :: l') ++ [-1]) ≠ -1 := by
    show (b.toNat : Int) ≠ -1; omega
  have hdr : (rn (b :: l') ++ [-1]).drop (b :: l').length = [-1] := by
    have : (rn (b :: l')).length = (b :: l').length := by unfold rn; rw [List.length_map]
    rw [← this, List.drop_left]
  unfold lexS
  rw [if_neg (by show ¬ 65536 < (b :: l').toArray.size; rw [List.size_toArray]; omega)]
  show goO (rs (b :: l')).length (rs (b :: l')) 1 1 [] = _
  rw [rs_num _ (fun x hx => by have := hl x hx; omega), hlen]
  rw [if_neg (by decide)] at hst
  by_cases hc : 4294967295 < cap 10 (rn (b :: l'))
  · rw [if_pos hc] at hst ⊢
    rw [go_err h1 (by rw [hst]; decide), hst]
    rfl
  · rw [if_neg hc] at hst ⊢
    rw [go_ok h1 (by rw [hst]; rfl), hst]
    show goO _ ((rn (b :: l') ++ [-1]).drop (b :: l').length) 1 (1 + ((b :: l').length : Int)) _ = _
    rw [hdr, go_end rfl]
    rfl
theorem lex_hex {l : List UInt8} (hl : ∀ b ∈ l, isd 16 (b.toNat : Int) = true ∧ b.toNat < 128) (hne : l ≠ []) (hs : l.length ≤ 65000) :
    lexS ⟨(48 :: 120 :: l).toArray⟩ = if 4294967295 < cap 16 (rn l) then ([], 1, 1, 6) else ([⟨2, txt [], cap 16 (rn l), 1, 1⟩, ⟨6, txt [], 0, 1, 1 + ((2 + l.length : Nat) : Int)⟩], 0, 0, 0) := by
  have hst := step_hex (ln := 1) (c := 1) (fun b hb => (hl b hb).1) hne
  have hrl : (rn l).length = l.length := by unfold rn; rw [List.length_map]
  have e : rn (48 :: 120 :: l) = 48 :: 120 :: rn l := rfl
  have hlen : (48 :: 120 :: (rn l ++ [-1])).length = (l.length + 1) + 1 + 1 := by
    rw [List.length_cons, List.length_cons, List.length_append, hrl]; rfl
  have hdr : (48 :: 120 :: (rn l ++ [-1])).drop (2 + l.length) = [-1] := by
    rw [Nat.add_comm]
    show (rn l ++ [-1]).drop l.length = [-1]
    rw [← hrl, List.drop_left]
  unfold lexS
  rw [if_neg (by show ¬ 65536 < (48 :: 120 :: l).toArray.size; rw [List.size_toArray, List.length_cons, List.length_cons]; omega)]
  show goO (rs (48 :: 120 :: l)).length (rs (48 :: 120 :: l)) 1 1 [] = _
  rw [rs_num _ (by intro x hx; rcases List.mem_cons.1 hx with rfl | hx; decide; rcases List.mem_cons.1 hx with rfl | hx; decide; exact (hl x hx).2), e, List.cons_append, List.cons_append]
  rw [hlen]
  by_cases hc : 4294967295 < cap 16 (rn l)
  · rw [if_pos hc] at hst ⊢
    rw [go_err (by show (48 : Int) ≠ -1; decide) (by rw [hst]; decide), hst]
    rfl
  · rw [if_neg hc] at hst ⊢
    rw [go_ok (by show (48 : Int) ≠ -1; decide) (by rw [hst]; rfl), hst]
    show goO _ ((48 :: 120 :: (rn l ++ [-1])).drop (2 + l.length)) 1 (1 + ((2 + l.length : Nat) : Int)) _ = _
    rw [hdr, go_end rfl]
    rfl
/-- The noughts, the number's digits. -/
def pd (m : Nat) : ByteArray := ⟨(List.replicate m 48).toArray⟩
def nb (n : Nat) : ByteArray := ⟨(dcl 12 n).toArray⟩
theorem pd_size (m : Nat) : (pd m).size = m := by
  show (List.replicate m (48 : UInt8)).toArray.size = m
  rw [List.size_toArray, List.length_replicate]
theorem nb_size (n : Nat) : (nb n).size ≤ 13 := by
  have := dcl_len 12 n
  show (dcl 12 n).toArray.size ≤ 13
  rw [List.size_toArray]; exact this
theorem pd_succ (m : Nat) : pd (m + 1) = pd m ++ ⟨#[48]⟩ := by
  have e : (⟨#[48]⟩ : ByteArray) = ⟨[48].toArray⟩ := rfl
  unfold pd
  rw [e, txt_join, List.replicate_succ']
theorem says_dec (n m : Nat) (h : n < 10 ^ 13) (hm : m ≤ 10) : lexS (pd m ++ nb n) = if 4294967295 < n then ([], 1, 1, 6) else ([⟨2, txt [], n, 1, 1⟩, ⟨6, txt [], 0, 1, 1 + ((m + (dcl 12 n).length : Nat) : Int)⟩], 0, 0, 0) := by
  have hl : Dec (List.replicate m 48 ++ dcl 12 n) := Dec.app (fun b hb => by rw [(List.mem_replicate.1 hb).2]; decide) (dec_dcl 12 n)
  have hlen : (List.replicate m (48 : UInt8) ++ dcl 12 n).length = m + (dcl 12 n).length := by rw [List.length_append, List.length_replicate]
  have hd := dcl_len 12 n
  have := lex_dec hl (by simp [dcl_ne]) (by omega)
  unfold pd nb
  rw [txt_join, this, cap_zeros, cap_dcl 12 n h, hlen]
  by_cases hc : 4294967295 < n
  · rw [if_pos hc, if_pos (by omega)]
  · rw [if_neg hc, if_neg (by omega), show min (n : Int) 4294967296 = n by omega]
theorem says_hex (n m : Nat) (h : n < 16 ^ 11) (hm : m ≤ 10) : lexS (⟨#[48, 120]⟩ ++ pd m ++ hxs 11 n) = if 4294967295 < n then ([], 1, 1, 6) else ([⟨2, txt [], n, 1, 1⟩, ⟨6, txt [], 0, 1, 1 + ((2 + (m + 11) : Nat) : Int)⟩], 0, 0, 0) := by
  have hlen : (List.replicate m (48 : UInt8) ++ hx 11 n).length = m + 11 := by rw [List.length_append, List.length_replicate, hx_len]
  have := lex_hex (l := List.replicate m 48 ++ hx 11 n) (by
    intro b hb
    rcases List.mem_append.1 hb with hb | hb
    · rw [(List.mem_replicate.1 hb).2]; decide
    · obtain ⟨d, hd, rfl⟩ := hx_all 11 n b hb
      exact ⟨isd_hxb d hd, (hxb_val d hd).2⟩) (by rw [← List.length_pos_iff, hlen]; omega) (by omega)
  have e : (⟨#[48, 120]⟩ : ByteArray) ++ pd m ++ hxs 11 n = ⟨(48 :: 120 :: (List.replicate m 48 ++ hx 11 n)).toArray⟩ := by
    have e0 : (⟨#[48, 120]⟩ : ByteArray) = ⟨[48, 120].toArray⟩ := rfl
    unfold pd hxs
    rw [e0, txt_join, txt_join]
    rfl
  rw [e, this, cap_zeros, cap_hx 11 n h, hlen]
  by_cases hc : 4294967295 < n
  · rw [if_pos hc, if_pos (by omega)]
  · rw [if_neg hc, if_neg (by omega), show min (n : Int) 4294967296 = n by omega]
/-- What the call does. -/
def Fine (W : World) (e : Ending) (W' : World) : Prop := e = .returned (.bool true) ∧ Below W.heap.size W W'
set_option maxHeartbeats 8000000 in
theorem walk (x0 : Int) (w0 : (Lit.int .i64 x0).wf = true) (x1 : Int) (w1 : (Lit.int .i64 x1).wf = true) (W : World) (hT : U8 W) :
    Calls Tryd.prog 5 #[.int .i64 x0, .int .i64 x1] W (Fine W) := by
  have HU := Lib.hid (fun u (hb : Below W.heap.size W u) => hT.later hb)
  clear hT
  obtain ⟨p, hp⟩ : ∃ p : Ending → World → Prop, p = Fine W := ⟨_, rfl⟩
  rw [← hp]
  have hout : ∀ u, Below W.heap.size W u → p (.returned (.bool true)) u := by intro u hb; rw [hp]; exact ⟨rfl, hb⟩
  have HO := Lib.hid hout
  clear hp hout
  by_cases hr : 0 ≤ x0 ∧ x0 ≤ 1099511627776 ∧ 0 ≤ x1 ∧ x1 ≤ 10
  · obtain ⟨a0, a1, a2, a3⟩ := hr
    obtain ⟨n, rfl⟩ := Int.eq_ofNat_of_zero_le a0
    obtain ⟨m, rfl⟩ := Int.eq_ofNat_of_zero_le a2
    have y0 : ¬ (n : Int) < 0 := by omega
    have y1 : ¬ (1099511627776 : Int) < (n : Int) := by omega
    have y2 : ¬ (m : Int) < 0 := by omega
    have y3 : ¬ (10 : Int) < (m : Int) := by omega
    have hn : n < 10 ^ 13 := by omega
    have hx1 := says_dec n m hn (by omega)
    have hx2 := says_hex n m (by omega) (by omega)
    have hD := nb_size n
    have hP := pd_size m
    have hX := hxs_size 11 n
    have hm10 : m ≤ 10 := by omega
    have HN := Lib.hid (fun u : World => show Calls Tryd.prog 14 #[i64 n] u fun e w' => e = .returned (.string (nb n)) ∧ u = w' from number_says11 12 n u hn (by omega) (by omega))
    have HX := Lib.hid (fun u : World => hex_says n u (by omega))
    have HK1 := Lib.hid (fun (u : World) (hb : Below W.heap.size W u) => tokens_says (pd m ++ nb n) u (HU.out _ hb))
    have HK2 := Lib.hid (fun (u : World) (hb : Below W.heap.size W u) => tokens_says (⟨#[48, 120]⟩ ++ pd m ++ hxs 11 n) u (HU.out _ hb))
    rw [hx1] at HK1
    rw [hx2] at HK2
    have q1 : ∀ u : World, (Op.stringOp .add (pd m) (nb n)).run Tryd.prog u = .ok (.string (pd m ++ nb n)) u := fun u => run_string_add_sum u _ _ (by omega)
    have q2 : ∀ u : World, (Op.stringOp .add ⟨#[48, 120]⟩ (pd m)).run Tryd.prog u = .ok (.string (⟨#[48, 120]⟩ ++ pd m)) u := fun u => run_string_add_sum u _ _ (by have : (⟨#[48, 120]⟩ : ByteArray).size = 2 := rfl; omega)
    have q3 : ∀ u : World, (Op.stringOp .add (⟨#[48, 120]⟩ ++ pd m) (hxs 11 n)).run Tryd.prog u = .ok (.string (⟨#[48, 120]⟩ ++ pd m ++ hxs 11 n)) u := fun u => run_string_add_sum u _ _ (by rw [ByteArray.size_append]; have : (⟨#[48, 120]⟩ : ByteArray).size = 2 := rfl; omega)
    clear hx1 hx2 hD hX hP
    obtain ⟨B1, hB1⟩ : ∃ B, pd m ++ nb n = B := ⟨_, rfl⟩
    obtain ⟨B2, hB2⟩ : ∃ B, (⟨#[48, 120]⟩ : ByteArray) ++ pd m ++ hxs 11 n = B := ⟨_, rfl⟩
    obtain ⟨A2, hA2⟩ : ∃ B, (⟨#[48, 120]⟩ : ByteArray) ++ pd m = B := ⟨_, rfl⟩
    rw [hB1] at q1 HK1
    rw [hB2] at q3 HK2
    rw [hA2] at q2 q3
    obtain ⟨D, hDD⟩ : ∃ B, nb n = B := ⟨_, rfl⟩
    rw [hDD] at q1 HN
    obtain ⟨X, hXX⟩ : ∃ B, hxs 11 n = B := ⟨_, rfl⟩
    rw [hXX] at q3 HX
    clear hB1 hB2 hA2 hDD hXX hn
    go_enter Tryd.func5, Tryd.ntmps5
    go_wp2_with (go_at_call 9; refine (alive_says _ (HU.out _ (Below.refl _ _))).mono ?_; rintro e w1 ⟨rfl, hb1⟩; have HB1 := Lib.hid hb1; clear hb1)
    go_loopw [6, 7] (fun sv iv wr => ∃ k : Nat, k ≤ m ∧ sv = .string (pd k) ∧ iv = .int .i64 k ∧ Below W.heap.size W wr) (fun _ iv _ => m - (intOf iv).toNat)
    case atStart => exact ⟨0, Nat.zero_le _, rfl, rfl, HB1.out⟩
    case round =>
      clear HB1
      obtain ⟨k, hk1, rfl, rfl, hb⟩ := hrel
      have HB := Lib.hid hb
      clear hb
      have hk0 : (0 : Int) ≤ (k : Int) := Int.natCast_nonneg k
      by_cases hkn : k < m
      · have hkI : (k : Int) < (m : Int) := by omega
        have hcat : ∀ u : World, (Op.stringOp .add (pd k) ⟨#[48]⟩).run Tryd.prog u = .ok (.string (pd (k + 1))) u := fun u => by
          rw [pd_succ]; exact run_string_add_sum u _ _ (by rw [pd_size]; have : (⟨#[48]⟩ : ByteArray).size = 1 := rfl; omega)
        clear HK1 HK2 q1 q2 q3 HN HX
        go_wp2
        go_roundw
        case rel => exact ⟨k + 1, hkn, rfl, by go_num, HB.out⟩
        case measure => simp [intOf]; omega
      · obtain rfl : k = m := by omega
        by_cases hc : 4294967295 < n
        · have hcI : (4294967295 : Int) < (n : Int) := by omega
          rw [if_pos hc] at HK1 HK2
          go_upto_region 13 with (first
            | (go_at_call 14; refine (HN.out _).mono ?_; rintro e w9 ⟨rfl, rfl⟩)
            | (go_at_call 10; refine (HK1.out _ HB.out).mono ?_; rintro e w4 ⟨v4, rfl, ho4, hb4⟩; obtain ⟨p4, q4, rfl, hq4⟩ := ownT_len ho4; have HB4 := Lib.hid (HB.out.trans (hb4.mono HB.out.size)); clear hb4 ho4))
          go_upto_region 14 with (first
            | (go_at_call 15; refine (HX.out _).mono ?_; rintro e w9 ⟨rfl, rfl⟩)
            | (go_at_call 10; refine (HK2.out _ HB4.out).mono ?_; rintro e w5 ⟨v5, rfl, ho5, hb5⟩; obtain ⟨p5, q5, rfl, hq5⟩ := ownT_len ho5; have HB5 := Lib.hid (HB4.out.trans (hb5.mono HB4.out.size)); clear hb5 ho5))
          clear HK1 HK2 HN HX q1 q2 q3
          go_wp2_with (go_at_call 12; refine (num_says _ _).mono ?_; rintro e t' ⟨rfl, rfl⟩)
          exact HO.out _ HB5.out
        · have hcI : ¬ (4294967295 : Int) < (n : Int) := by omega
          rw [if_neg hc] at HK1 HK2
          go_upto_region 13 with (first
            | (go_at_call 14; refine (HN.out _).mono ?_; rintro e w9 ⟨rfl, rfl⟩)
            | (go_at_call 10; refine (HK1.out _ HB.out).mono ?_; rintro e w4 ⟨v4, rfl, ho4, hb4⟩; obtain ⟨p4, q4, rfl, hq4⟩ := ownT_len ho4; have HB4 := Lib.hid (HB.out.trans (hb4.mono HB.out.size)); obtain ⟨g4, rfl, t4⟩ := ownT_at (i := 0) ho4 rfl; have HT4 := Lib.hid t4; clear hb4 ho4 t4))
          go_upto_region 14 with (first
            | (go_at_call 15; refine (HX.out _).mono ?_; rintro e w9 ⟨rfl, rfl⟩)
            | (go_at_call 10; refine (HK2.out _ HB4.out).mono ?_; rintro e w5 ⟨v5, rfl, ho5, hb5⟩; obtain ⟨p5, q5, rfl, hq5⟩ := ownT_len ho5; have HB5 := Lib.hid (HB4.out.trans (hb5.mono HB4.out.size)); obtain ⟨g5, rfl, t5⟩ := ownT_at (i := 0) ho5 rfl; have t4 := HT4.out.later hb5; have z1 := t4.kind; have z2 := t4.n; have z3 := t5.n; clear hb5 ho5 t5 t4))
          have z4 : w5.cell? ⟨_, 0, none⟩ = some (i64 2) := z1
          have z5 : w5.cell? ⟨_, 2, none⟩ = some (i64 n) := z2
          have z6 : w5.cell? ⟨_, 2, none⟩ = some (i64 n) := z3
          clear z1 z2 z3 HT4
          clear HK1 HK2 HN HX q1 q2 q3
          go_wp2_with (go_at_call 12; refine (num_says _ _).mono ?_; rintro e t' ⟨rfl, rfl⟩)
          exact HO.out _ HB5.out
  · have ways : x0 < 0 ∨ (0 ≤ x0 ∧ 1099511627776 < x0) ∨ (0 ≤ x0 ∧ x0 ≤ 1099511627776 ∧ x1 < 0) ∨ (0 ≤ x0 ∧ x0 ≤ 1099511627776 ∧ 0 ≤ x1 ∧ 10 < x1) := by omega
    rcases ways with a0 | ⟨a0, a1⟩ | ⟨a0, a1, a2⟩ | ⟨a0, a1, a2, a3⟩ <;> (
      clear hr
      go_enter Tryd.func5, Tryd.ntmps5
      go_wp2_with (go_at_call 9; refine (alive_says _ (HU.out _ (Below.refl _ _))).mono ?_; rintro e w1 ⟨rfl, hb1⟩; have HB1 := Lib.hid hb1; clear hb1)
      exact HO.out _ HB1.out)
set_option maxRecDepth 100000 in
theorem lifted (os : Os) (started : os.Started) (H : Type) (enc : TypeId × Value → H) :
    ReturnsInHanded {} Tryd.checked os 5 .any (fun w args => (Rows.lexerNumbersSpec.pre enc Tryd.prog Tryd.f5 [] false w args ∧ laidMetH Tryd.prog laid2 w) ∧ sizedMet enc Tryd.prog Tryd.f5 (OpenSpec.ofChange Rows.lexerNumbersSpec) false w args)
      (Rows.lexerNumbersSpec.post enc Tryd.prog Tryd.f5 false true false false) := by
  refine returnsInHanded_of_change_and (C := Tryd.checked) (X := fun w _ => laidMetH Tryd.prog laid2 w) (fun _ _ _ hh h => h.of_heap hh) Lex.own started (by kernel_rfl) Tryd.func5
    (ChangeSpec.witness_shaped (enc := enc) (C := Tryd.checked) (os := os) (X := fun w _ => laidMetH Tryd.prog laid2 w) false (World.laidAll Tryd.prog os laid2) #[.int .i64 0, .int .i64 0] 8 (World.laidAll_os _ _ _) (World.shaped_of_ZipB (by kernel_rfl) (by kernel_rfl)) (by kernel_rfl) (by kernel_rfl) (by kernel_rfl)
      (by rw [MakeChecks.laidMetH_plain _ _ _ (by kernel_rfl)]; exact laidMet_laidAll _ (by kernel_rfl) (by kernel_rfl))) ?_
  intro W base args ds gs before hval0 hW _ _ hL _
  have hval : ∀ (j : Nat) t v, Tryd.f5.params[j]? = some t → args[j]? = some v → Value.okWide Tryd.prog W .any base t v := hval0
  have hW' := hW
  obtain ⟨p, q, hA0, hV, rfl, hfz, hnd⟩ := hW
  have hA : DataW.TrodAll enc Tryd.prog W 0 (fun _ => true) true Tryd.f5.params.toList args.toList ds p := hA0
  rw [Tryd.params5] at hA hval
  obtain ⟨v0, vs0, d0, ds0, p0, q0, hargs, rfl, rfl, h0, r0⟩ := trodAll_cons hA
  obtain ⟨v1, vs1, d1, ds1, p1, q1, rfl, rfl, rfl, h1, r1⟩ := trodAll_cons r0
  obtain ⟨rfl, rfl, rfl⟩ := trodAll_nil r1
  obtain rfl : args = #[v0, v1] := by cases args; simp_all
  obtain ⟨rfl, rfl⟩ := trodVars_none hV
  obtain ⟨x0, rfl, rfl, rfl, w0⟩ := open_int Tryd.underlying3 (hval 0 3 v0 rfl rfl) h0
  obtain ⟨x1, rfl, rfl, rfl, w1⟩ := open_int Tryd.underlying3 (hval 1 3 v1 rfl rfl) h1
  have hT := tab_of_laid hL
  clear hA0 hval0
  simp only [List.append_nil] at hW'
  refine (walk x0 w0 x1 w1 W hT).mono fun e W' ⟨he, hb⟩ => ?_
  subst he
  exact ⟨_, rfl, _, _, _, [], [], [], hW', trodAll_cons_mk (shut_bool Tryd.underlying4 _) trodAll_mk0, (trodAll_cons_mk (shut_int Tryd.underlying3 w0) (trodAll_cons_mk (shut_int Tryd.underlying3 w1) trodAll_mk0)), rfl, hb.frame _, fun h => by cases h⟩
theorem over : Rows.LexerNumbersSaid :=
  OpenClaim.holds_of_wide 5 Tryd.f5 rfl rfl rfl rfl rfl rfl rfl ⟨rfl, rfl, rfl, rfl, rfl⟩ rfl rfl rfl rfl rfl (by kernel_rfl) Tryd.func5 (by kernel_rfl)
    (of_decide_eq_true (by kernel_rfl)) (by unfold Func.isWrapper; first | (rw [if_pos (by decide +kernel)]; kernel_rfl) | (rw [if_neg (by decide +kernel)]; exact ⟨rfl, rfl⟩))
    (fun os started H enc _ => lifted os started H enc)
/-- THE STATEMENT: the tied card. -/
theorem proved : Rows.LexerNumbersCardSaid :=
  Claim7.holds_tied_plain_at .later [] [.data, .pinned] true (true, "09660570d19ad61ea6fcc418b4fa2f246f51f27fdcf28e094159d75741c40f88") false
    over (fun _ h => by cases h) (by kernel_rfl) (fun _ h => by cases h) lexerNumbers_row_tie rfl ⟨rfl, rfl⟩ (by kernel_rfl) rfl
    (fun f fn hf hfn => by
      obtain rfl : f = 5 := Option.some.inj ((show Tryd.prog.funcNamed "trunnion/trunnionlaw11.LexerNumbers" = some 5 by kernel_rfl).symm.trans hf) |>.symm
      obtain rfl : fn = Tryd.f5 := (Option.some.inj (Tryd.func5.symm.trans hfn)).symm
      exact ⟨by kernel_rfl, fun j t ht => by
        rw [Tryd.params5] at ht
        have hm : t ∈ [3, 3] := by simpa using Array.mem_of_getElem? ht
        have hall : ([3, 3].all fun u => !Tryd.prog.wantsStandIn u) = true := by kernel_rfl
        exact (show Tryd.prog.wantsStandIn t = false by simpa using List.all_eq_true.1 hall t hm)⟩)
    (by kernel_rfl)
end Go.Proofs.YtkgapellgfbdnaaDoor.lexerNumbers
