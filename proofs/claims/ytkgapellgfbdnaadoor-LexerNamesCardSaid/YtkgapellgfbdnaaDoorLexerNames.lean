/-
  a name has at most forty runes, whatever bytes these have, and digits may stand in it, not ahead: law LexerNames returns true.
  No condition on the arguments: whatever they are. The card ties the three listed tables of Go's library to the program's text.
-/
import Derived.Test.YtkgapellgfbdnaaDoorLexAl
import Derived.Carry
import Derived.Lay
import Derived.LaidOnce
import Derived.OpenShut
import Derived.Deep.Slices
import Derived.Test.YtkgapellgfbdnaaDoorCards
import Derived.Test.YtkgapellgfbdnaaDoorTie
import Derived.SevenTiedAt
import Derived.Test.YtkgapellgfbdnaaDoorLexNp
namespace Go.Proofs.YtkgapellgfbdnaaDoor.lexerNames
open Go Go.Proofs.YtkgapellgfbdnaaDoor Go.Proofs.YtkgapellgfbdnaaDoor.Ser Go.Proofs.YtkgapellgfbdnaaDoor.Lex Go.ChangeShapes Go.WideShapes Go.ChangeAt Go.RowKit
set_option linter.unusedVariables false

/-- What the call does. -/
def Fine (W : World) (e : Ending) (W' : World) : Prop := e = .returned (.bool true) ∧ Below W.heap.size W W'
set_option maxHeartbeats 8000000 in
theorem walk (x0 : Int) (w0 : (Lit.int .i64 x0).wf = true) (b1 : Bool) (W : World) (hT : U8 W) :
    Calls Tryd.prog 8 #[.int .i64 x0, .bool b1] W (Fine W) := by
  have HU := Lib.hid (fun u (hb : Below W.heap.size W u) => hT.later hb)
  clear hT
  obtain ⟨p, hp⟩ : ∃ p : Ending → World → Prop, p = Fine W := ⟨_, rfl⟩
  rw [← hp]
  have hout : ∀ u, Below W.heap.size W u → p (.returned (.bool true)) u := by intro u hb; rw [hp]; exact ⟨rfl, hb⟩
  have HO := Lib.hid hout
  clear hp hout
  by_cases hr : 1 ≤ x0 ∧ x0 ≤ 60
  · obtain ⟨a0, a1⟩ := hr
    obtain ⟨n, rfl⟩ := Int.eq_ofNat_of_zero_le (by omega : 0 ≤ x0)
    have y0 : ¬ (n : Int) < 1 := by omega
    have y1 : ¬ (60 : Int) < (n : Int) := by omega
    have n0 : (0 : Int) ≤ (n : Int) := Int.natCast_nonneg n
    have n60 : n ≤ 60 := by omega
    obtain ⟨k1, k2, k3⟩ := chk_at (n := n) (by omega) (by omega) b1
    obtain ⟨T1, l1, c1, e1, hx1, ha, hz⟩ := chkA_says k1
    obtain ⟨l2, c2, ta, tb, tc, hx2, hk⟩ := chkB_says k2
    obtain ⟨T3, l3, hx3⟩ := chkC_says k3
    have hD := nb_size n
    have hN : ∀ u : World, Calls Tryd.prog 14 #[i64 n] u fun e w' => e = .returned (.string (nb n)) ∧ u = w' := fun u => number_says11 1 n u (by omega) (by omega) (by omega)
    have HK2 := Lib.hid (fun (u : World) (hb : Below W.heap.size W u) => tokens_says (s2 n) u (HU.out _ hb))
    have HK3 := Lib.hid (fun (u : World) (hb : Below W.heap.size W u) => tokens_says (s3 n) u (HU.out _ hb))
    rw [hx2] at HK2
    rw [hx3] at HK3
    obtain ⟨A2, hA2⟩ : ∃ A2, (⟨#[97]⟩ ++ nb n : ByteArray) = A2 := ⟨_, rfl⟩
    have q1 : ∀ u : World, (Op.stringOp .add ⟨#[97]⟩ (nb n)).run Tryd.prog u = .ok (.string A2) u := fun u => by
      rw [← hA2]; exact run_string_add_sum u _ _ (by have : (⟨#[97]⟩ : ByteArray).size = 1 := rfl; omega)
    have h2 : A2.size ≤ 3 := by rw [← hA2, ByteArray.size_append]; have : (⟨#[97]⟩ : ByteArray).size = 1 := rfl; omega
    have q2 : ∀ u : World, (Op.stringOp .add A2 ⟨#[32, 44]⟩).run Tryd.prog u = .ok (.string (s2 n)) u := fun u => by
      unfold s2; rw [hA2]; exact run_string_add_sum u _ _ (by have : (⟨#[32, 44]⟩ : ByteArray).size = 2 := rfl; omega)
    have q3 : ∀ u : World, (Op.stringOp .add (nb n) ⟨#[97]⟩).run Tryd.prog u = .ok (.string (s3 n)) u := fun u => by
      unfold s3; exact run_string_add_sum u _ _ (by have : (⟨#[97]⟩ : ByteArray).size = 1 := rfl; omega)
    obtain ⟨B2, hB2⟩ : ∃ B2, s2 n = B2 := ⟨_, rfl⟩
    obtain ⟨B3, hB3⟩ : ∃ B3, s3 n = B3 := ⟨_, rfl⟩
    obtain ⟨D, hDD⟩ : ∃ D, nb n = D := ⟨_, rfl⟩
    rw [hB2] at q2 HK2
    rw [hB3] at q3 HK3
    rw [hDD] at q1 q3 hN hD HK3
    have HN := Lib.hid hN
    clear hN k1 k2 k3 hx2 hx3 hA2 hB2 hB3 hDD h2
    have hD0 : (0 : Int) ≤ (D.size : Int) := Int.natCast_nonneg _
    have hD2 : (D.size : Int) ≤ 2 := by omega
    have e0 : (⟨#[]⟩ : ByteArray) = nm b1 0 := rfl
    go_enter Tryd.func8, Tryd.ntmps8
    go_wp2_with (go_at_call 9; refine (alive_says _ (HU.out _ (Below.refl _ _))).mono ?_; rintro e w1 ⟨rfl, hb1⟩; have HB1 := Lib.hid hb1; clear hb1)
    go_loopw [6, 7] (fun sv iv wr => ∃ k : Nat, k ≤ n ∧ sv = .string (nm b1 k) ∧ iv = .int .i64 k ∧ Below W.heap.size W wr) (fun _ iv _ => n - (intOf iv).toNat)
    case atStart => exact ⟨0, Nat.zero_le _, rfl, rfl, HB1.out⟩
    case round =>
      clear HB1
      obtain ⟨k, hk1, rfl, rfl, hb⟩ := hrel
      have HB := Lib.hid hb
      have hk0 : (0 : Int) ≤ (k : Int) := Int.natCast_nonneg k
      by_cases hkn : k < n
      · have hkI : (k : Int) < (n : Int) := by omega
        have hsz := nm_size b1 k
        have hstep : nm b1 (k + 1) = nm b1 k ++ (if b1 then ⟨#[228, 184, 173]⟩ else ⟨#[95]⟩) := rfl
        obtain ⟨sv, hsv⟩ : ∃ sv, nm b1 k = sv := ⟨_, rfl⟩
        obtain ⟨sw, hsw⟩ : ∃ sw, nm b1 (k + 1) = sw := ⟨_, rfl⟩
        rw [hsv] at hsz hstep ⊢
        rw [hsw] at hstep
        clear HK2 HK3 q1 q2 q3 HN ha hz hk
        cases b1 with
        | true =>
          have hcat : ∀ u : World, (Op.stringOp .add sv ⟨#[228, 184, 173]⟩).run Tryd.prog u = .ok (.string sw) u := fun u => by
            rw [hstep]; exact run_string_add_sum u _ _ (by have : (⟨#[228, 184, 173]⟩ : ByteArray).size = 3 := rfl; omega)
          go_wp2
          go_roundw
          case rel => exact ⟨k + 1, hkn, by rw [← hsv]; rfl, by go_num, HB.out⟩
          case measure => simp [intOf]; omega
        | false =>
          have hcat : ∀ u : World, (Op.stringOp .add sv ⟨#[95]⟩).run Tryd.prog u = .ok (.string sw) u := fun u => by
            rw [hstep]; exact run_string_add_sum u _ _ (by have : (⟨#[95]⟩ : ByteArray).size = 1 := rfl; omega)
          go_wp2
          go_roundw
          case rel => exact ⟨k + 1, hkn, by rw [← hsv]; rfl, by go_num, HB.out⟩
          case measure => simp [intOf]; omega
      · obtain rfl : k = n := by omega
        have htk := tokens_says (nm b1 k) wr (HU.out _ hb)
        rw [hx1] at htk
        have HK1 := Lib.hid htk
        obtain ⟨A1, hA1⟩ : ∃ A1, nm b1 k = A1 := ⟨_, rfl⟩
        rw [hA1] at HK1 hz ⊢
        clear htk hx1 hA1 hb
        by_cases h40 : 40 < k
        · have h40I : (40 : Int) < (k : Int) := by omega
          obtain rfl := ha h40
          clear hz
          go_upto_region 12 with (go_at_call 10; refine HK1.out.mono ?_; rintro e w4 ⟨v4, rfl, ho4, hb4⟩; obtain ⟨p4, q4, rfl, hq4⟩ := ownT_len ho4; have HB4 := Lib.hid (HB.out.trans (hb4.mono HB.out.size)); clear hb4 ho4)
          go_upto_region 13 with (first
            | (go_at_call 14; refine (HN.out _).mono ?_; rintro e w9 ⟨rfl, rfl⟩)
            | (go_at_call 10; refine (HK2.out w4 HB4.out).mono ?_; rintro e w5 ⟨v5, rfl, ho5, hb5⟩; obtain ⟨p5, q5, rfl, hq5⟩ := ownT_len ho5; have HB5 := Lib.hid (HB4.out.trans (hb5.mono HB4.out.size)); obtain ⟨g5, rfl, t5⟩ := ownT_at (i := 0) ho5 rfl; have HT5 := Lib.hid t5; clear hb5 ho5 t5))
          go_upto_region 14 with (first
            | (go_at_call 14; refine (HN.out _).mono ?_; rintro e w9 ⟨rfl, rfl⟩)
            | (go_at_call 10; refine (HK3.out w5 HB5.out).mono ?_; rintro e w6 ⟨v6, rfl, ho6, hb6⟩; obtain ⟨p6, q6, rfl, hq6⟩ := ownT_len ho6; have HB6 := Lib.hid (HB5.out.trans (hb6.mono HB5.out.size)); have t6 := HT5.out.later hb6; have z1 := t6.kind; rw [hk] at z1; clear hb6 ho6 t6))
          have z0 : w6.cell? ⟨g5, 0, none⟩ = some (i64 1) := z1
          clear z1
          have hN := HN.out
          clear HT5 HK2 HK3 HK1 HN q1 q2 q3
          go_wp2_with (first | (go_at_call 12; refine (num_says _ _).mono ?_; rintro e t' ⟨rfl, rfl⟩) | (go_at_call 14; refine (hN _).mono ?_; rintro e t' ⟨rfl, rfl⟩))
          exact HO.out _ HB6.out
        · have h40I : ¬ (40 : Int) < (k : Int) := by omega
          obtain ⟨rfl, t1, u1, rfl, ht1, hu1⟩ := hz h40
          clear ha
          go_upto_region 12 with (go_at_call 10; refine HK1.out.mono ?_; rintro e w4 ⟨v4, rfl, ho4, hb4⟩; obtain ⟨p4, q4, rfl, hq4⟩ := ownT_len ho4; have HB4 := Lib.hid (HB.out.trans (hb4.mono HB.out.size)); obtain ⟨g4, rfl, t4⟩ := ownT_at (i := 0) ho4 rfl; have HT4 := Lib.hid t4; obtain ⟨g4', e4, s4⟩ := ownT_at (i := 1) ho4 rfl; injection e4 with e4; injection e4 with e4; subst e4; have HS4 := Lib.hid s4; clear hb4 ho4 t4 s4)
          go_upto_region 13 with (first
            | (go_at_call 14; refine (HN.out _).mono ?_; rintro e w9 ⟨rfl, rfl⟩)
            | (go_at_call 10; refine (HK2.out w4 HB4.out).mono ?_; rintro e w5 ⟨v5, rfl, ho5, hb5⟩; obtain ⟨p5, q5, rfl, hq5⟩ := ownT_len ho5; have HB5 := Lib.hid (HB4.out.trans (hb5.mono HB4.out.size)); obtain ⟨g5, rfl, t5⟩ := ownT_at (i := 0) ho5 rfl; have HT5 := Lib.hid t5; have HT45 := Lib.hid (HT4.out.later hb5); have HS45 := Lib.hid (HS4.out.later hb5); clear hb5 ho5 t5))
          go_upto_region 14 with (first
            | (go_at_call 14; refine (HN.out _).mono ?_; rintro e w9 ⟨rfl, rfl⟩)
            | (go_at_call 10; refine (HK3.out w5 HB5.out).mono ?_; rintro e w6 ⟨v6, rfl, ho6, hb6⟩; obtain ⟨p6, q6, rfl, hq6⟩ := ownT_len ho6; have HB6 := Lib.hid (HB5.out.trans (hb6.mono HB5.out.size)); have t6 := HT5.out.later hb6; have z1 := t6.kind; rw [hk] at z1; have r6 := HT45.out.later hb6; have z2 := r6.text; rw [ht1] at z2; have s6 := HS45.out.later hb6; have z3 := s6.col; rw [hu1] at z3; clear hb6 ho6 t6 r6 s6))
          have z0 : w6.cell? ⟨g5, 0, none⟩ = some (i64 1) := z1
          have z5 : w6.cell? ⟨_, 1, none⟩ = some (.string A1) := z2
          have z6 : w6.cell? ⟨_, 9, none⟩ = some (i64 ((k : Int) + 1)) := z3
          clear z1 z2 z3 HT4 HS4 HT45 HS45
          have hN := HN.out
          clear HT5 HK2 HK3 HK1 HN q1 q2 q3
          go_wp2_with (first | (go_at_call 12; refine (num_says _ _).mono ?_; rintro e t' ⟨rfl, rfl⟩) | (go_at_call 14; refine (hN _).mono ?_; rintro e t' ⟨rfl, rfl⟩))
          exact HO.out _ HB6.out
  · have ways : x0 < 1 ∨ (1 ≤ x0 ∧ 60 < x0) := by omega
    rcases ways with a0 | ⟨a0, a1⟩ <;> (
      clear hr
      go_enter Tryd.func8, Tryd.ntmps8
      go_wp2_with (go_at_call 9; refine (alive_says _ (HU.out _ (Below.refl _ _))).mono ?_; rintro e w1 ⟨rfl, hb1⟩; have HB1 := Lib.hid hb1; clear hb1)
      exact HO.out _ HB1.out)
set_option maxRecDepth 100000 in
theorem lifted (os : Os) (started : os.Started) (H : Type) (enc : TypeId × Value → H) :
    ReturnsInHanded {} Tryd.checked os 8 .any (fun w args => (Rows.lexerNamesSpec.pre enc Tryd.prog Tryd.f8 [] false w args ∧ laidMetH Tryd.prog laid2 w) ∧ sizedMet enc Tryd.prog Tryd.f8 (OpenSpec.ofChange Rows.lexerNamesSpec) false w args)
      (Rows.lexerNamesSpec.post enc Tryd.prog Tryd.f8 false true false false) := by
  refine returnsInHanded_of_change_and (C := Tryd.checked) (X := fun w _ => laidMetH Tryd.prog laid2 w) (fun _ _ _ hh h => h.of_heap hh) Lex.own started (by kernel_rfl) Tryd.func8
    (ChangeSpec.witness_shaped (enc := enc) (C := Tryd.checked) (os := os) (X := fun w _ => laidMetH Tryd.prog laid2 w) false (World.laidAll Tryd.prog os laid2) #[.int .i64 0, .bool false] 8 (World.laidAll_os _ _ _) (World.shaped_of_ZipB (by kernel_rfl) (by kernel_rfl)) (by kernel_rfl) (by kernel_rfl) (by kernel_rfl)
      (by rw [MakeChecks.laidMetH_plain _ _ _ (by kernel_rfl)]; exact laidMet_laidAll _ (by kernel_rfl) (by kernel_rfl))) ?_
  intro W base args ds gs before hval0 hW _ _ hL _
  have hval : ∀ (j : Nat) t v, Tryd.f8.params[j]? = some t → args[j]? = some v → Value.okWide Tryd.prog W .any base t v := hval0
  have hW' := hW
  obtain ⟨p, q, hA0, hV, rfl, hfz, hnd⟩ := hW
  have hA : DataW.TrodAll enc Tryd.prog W 0 (fun _ => true) true Tryd.f8.params.toList args.toList ds p := hA0
  rw [Tryd.params8] at hA hval
  obtain ⟨v0, vs0, d0, ds0, p0, q0, hargs, rfl, rfl, h0, r0⟩ := trodAll_cons hA
  obtain ⟨v1, vs1, d1, ds1, p1, q1, rfl, rfl, rfl, h1, r1⟩ := trodAll_cons r0
  obtain ⟨rfl, rfl, rfl⟩ := trodAll_nil r1
  obtain rfl : args = #[v0, v1] := by cases args; simp_all
  obtain ⟨rfl, rfl⟩ := trodVars_none hV
  obtain ⟨x0, rfl, rfl, rfl, w0⟩ := open_int Tryd.underlying3 (hval 0 3 v0 rfl rfl) h0
  obtain ⟨b1, rfl, rfl, rfl⟩ := open_bool Tryd.underlying4 (hval 1 4 v1 rfl rfl) h1
  have hT := tab_of_laid hL
  clear hA0 hval0
  simp only [List.append_nil] at hW'
  refine (walk x0 w0 b1 W hT).mono fun e W' ⟨he, hb⟩ => ?_
  subst he
  exact ⟨_, rfl, _, _, _, [], [], [], hW', trodAll_cons_mk (shut_bool Tryd.underlying4 _) trodAll_mk0, (trodAll_cons_mk (shut_int Tryd.underlying3 w0) (trodAll_cons_mk (shut_bool Tryd.underlying4 _) trodAll_mk0)), rfl, hb.frame _, fun h => by cases h⟩
theorem over : Rows.LexerNamesSaid :=
  OpenClaim.holds_of_wide 8 Tryd.f8 rfl rfl rfl rfl rfl rfl rfl ⟨rfl, rfl, rfl, rfl, rfl⟩ rfl rfl rfl rfl rfl (by kernel_rfl) Tryd.func8 (by kernel_rfl)
    (of_decide_eq_true (by kernel_rfl)) (by unfold Func.isWrapper; first | (rw [if_pos (by decide +kernel)]; kernel_rfl) | (rw [if_neg (by decide +kernel)]; exact ⟨rfl, rfl⟩))
    (fun os started H enc _ => lifted os started H enc)
/-- THE STATEMENT: the tied card. -/
theorem proved : Rows.LexerNamesCardSaid :=
  Claim7.holds_tied_plain_at .later [] [.data, .pinned] true (true, "09660570d19ad61ea6fcc418b4fa2f246f51f27fdcf28e094159d75741c40f88") false
    over (fun _ h => by cases h) (by kernel_rfl) (fun _ h => by cases h) lexerNames_row_tie rfl ⟨rfl, rfl⟩ (by kernel_rfl) rfl
    (fun f fn hf hfn => by
      obtain rfl : f = 8 := Option.some.inj ((show Tryd.prog.funcNamed "trunnion/trunnionlaw11.LexerNames" = some 8 by kernel_rfl).symm.trans hf) |>.symm
      obtain rfl : fn = Tryd.f8 := (Option.some.inj (Tryd.func8.symm.trans hfn)).symm
      exact ⟨by kernel_rfl, fun j t ht => by
        rw [Tryd.params8] at ht
        have hm : t ∈ [3, 4] := by simpa using Array.mem_of_getElem? ht
        have hall : ([3, 4].all fun u => !Tryd.prog.wantsStandIn u) = true := by kernel_rfl
        exact (show Tryd.prog.wantsStandIn t = false by simpa using List.all_eq_true.1 hall t hm)⟩)
    (by kernel_rfl)
end Go.Proofs.YtkgapellgfbdnaaDoor.lexerNames
