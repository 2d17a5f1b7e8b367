/-
  the tokens of every source, or where and why it has none, are the document's own: law LexerTokens returns true.
  No condition on the arguments: whatever they are. The card ties the three listed tables of Go's library to the program's text.
-/
import Derived.Test.YtgikcciakbnehaaDoorLexAl
import Derived.Carry
import Derived.Lay
import Derived.LaidOnce
import Derived.OpenShut
import Derived.Deep.Slices
import Derived.Test.YtgikcciakbnehaaDoorCards
import Derived.Test.YtgikcciakbnehaaDoorTie
import Derived.SevenTiedAt
import Derived.Test.YtgikcciakbnehaaDoorLexSb
import Derived.ChangeMaps5
namespace Go.Proofs.YtgikcciakbnehaaDoor.lexerTokens
open Go Go.Proofs.YtgikcciakbnehaaDoor Go.Proofs.YtgikcciakbnehaaDoor.Ser Go.Proofs.YtgikcciakbnehaaDoor.Lex Go.ChangeShapes Go.WideShapes Go.ChangeAt Go.RowKit
set_option linter.unusedVariables false

/-- What the call does. -/
def Fine (W : World) (e : Ending) (W' : World) : Prop := e = .returned (.bool true) ∧ Below W.heap.size W W'
set_option maxHeartbeats 8000000 in
theorem walk (s0 : ByteArray) (w0 : s0.size ≤ maxLen) (s1 : ByteArray) (w1 : s1.size ≤ maxLen) (W : World) (hT : U8 W) :
    Calls Tryd.prog 3 #[.string s0, .string s1] W (Fine W) := by
  have HU := Lib.hid (fun u (hb : Below W.heap.size W u) => hT.later hb)
  clear hT
  obtain ⟨p, hp⟩ : ∃ p : Ending → World → Prop, p = Fine W := ⟨_, rfl⟩
  rw [← hp]
  have hout : ∀ u, Below W.heap.size W u → p (.returned (.bool true)) u := by intro u hb; rw [hp]; exact ⟨rfl, hb⟩
  have HO := Lib.hid hout
  clear hp hout w0 w1
  by_cases hr : ¬ (70000 : Int) < (s0.size : Int) ∧ ¬ (70000 : Int) < (s1.size : Int)
  · obtain ⟨y0, y1⟩ := hr
    obtain ⟨Z, hZ⟩ : ∃ Z, lexS s0 = Z := ⟨_, rfl⟩
    have HK0 := Lib.hid (fun (u : World) (hb : Below W.heap.size W u) => tokens_says s0 u (HU.out _ hb))
    have HK1 := Lib.hid (fun (u : World) (hb : Below W.heap.size W u) => tokens_says s1 u (HU.out _ hb))
    have HKR := Lib.hid (fun (u : World) => rtokens_says s0 u)
    rw [hZ] at HK0 HKR
    obtain ⟨ZT, zl, zc, ze⟩ := Z
    have HLZ := Lib.hid (show ZT.length ≤ 100000 by have := lex_len s0; rw [hZ] at this; exact this)
    have HL1 := Lib.hid (lex_len s1)
    obtain ⟨Z1, hZ1⟩ : ∃ Z1, lexS s1 = Z1 := ⟨_, rfl⟩
    rw [hZ1] at HK1 HL1
    obtain ⟨YT, yl, yc, ye⟩ := Z1
    clear hZ hZ1
    go_enter Tryd.func3, Tryd.ntmps3
    go_upto_region 4 with (go_at_call 5; refine (alive_says _ (HU.out _ (Below.refl _ _))).mono ?_; rintro e w3 ⟨rfl, hb3⟩; have HB3 := Lib.hid hb3; clear hb3)
    go_upto_region 5 with (go_at_call 6; refine (HK0.out _ HB3.out).mono ?_; rintro e w4 ⟨v4, rfl, ho4, hb4⟩; obtain ⟨p4, q4, rfl, hq4⟩ := ownT_len ho4; have HB4 := Lib.hid (HB3.out.trans (hb4.mono HB3.out.size)); have HO4 := Lib.hid ho4; clear hb4 ho4)
    go_upto_region 6 with (go_at_call 6; refine (HK1.out _ HB4.out).mono ?_; rintro e w5 ⟨v5, rfl, ho5, hb5⟩; obtain ⟨p5, q5, rfl, hq5⟩ := ownT_len ho5; have HB5 := Lib.hid hb5; have HZ5 := Lib.hid (zr_new ho5); clear hb5 ho5)
    obtain ⟨n5, hn5⟩ : ∃ n5, YT.length = n5 := ⟨_, rfl⟩
    have hl5 : n5 ≤ 100000 := by rw [← hn5]; exact HL1.out
    rw [hn5] at HZ5 hq5 ⊢
    obtain ⟨n4, hn4⟩ : ∃ n4, ZT.length = n4 := ⟨_, rfl⟩
    have HN4 := Lib.hid hn4
    rw [hn4] at HO4 hq4 ⊢
    clear hn4 hn5 HK0 HK1 HL1
    go_wp2_with fail
    go_loopw [14] (fun s14 wr => ∃ i : Nat, i ≤ n5 ∧ s14 = i64 (i : Int) ∧ Below w4.heap.size w4 wr ∧ (n5 = 0 ∨ ∃ g, p5 = some ⟨g, 0, none⟩ ∧ w4.heap.size ≤ g ∧ Zr w5 wr g n5)) (fun s14 _ => n5 - (intOf s14).toNat)
    case atStart => exact ⟨0, Nat.zero_le _, rfl, HB5.out, HZ5.out⟩
    case round =>
      clear HZ5
      obtain ⟨i, hi, rfl, hb, hz⟩ := hrel
      have HB := Lib.hid hb
      have i0 : (0 : Int) ≤ (i : Int) := Int.natCast_nonneg i
      by_cases hin : i < n5
      · have hinI : (i : Int) < (n5 : Int) := by omega
        rcases hz with hz | ⟨g, rfl, hg, Z⟩
        · omega
        have HZ := Lib.hid Z
        have HG := Lib.hid hg
        obtain ⟨c0, k0⟩ := Z.cell hin 0 (by decide)
        obtain ⟨c1, k1⟩ := Z.cell hin 1 (by decide)
        obtain ⟨c2, k2⟩ := Z.cell hin 2 (by decide)
        obtain ⟨c3, k3⟩ := Z.cell hin 3 (by decide)
        obtain ⟨c4, k4⟩ := Z.cell hin 4 (by decide)
        rw [Nat.add_zero] at k0
        have f0 := Z.fr (i * 5)
        have f1 := Z.fr (i * 5 + 1)
        have f2 := Z.fr (i * 5 + 2)
        have f3 := Z.fr (i * 5 + 3)
        have f4 := Z.fr (i * 5 + 4)
        clear Z hb hg HKR
        go_wp2_with fail
        go_roundw
        case rel =>
          have hZ : Zr w5 (((((wr.setCell ⟨g, i * 5, none⟩ (i64 0)).setCell ⟨g, i * 5 + 1, none⟩ (.string ⟨#[]⟩)).setCell ⟨g, i * 5 + 2, none⟩ (i64 0)).setCell ⟨g, i * 5 + 3, none⟩ (i64 0)).setCell ⟨g, i * 5 + 4, none⟩ (i64 0)) g n5 := ((((HZ.out.set _ _).set _ _).set _ _).set _ _).set _ _
          exact ⟨i + 1, hin, by simp, HB5.out.trans (hZ.b.below HB5.out.size (fun i e => by rw [e]; exact HG.out)), .inr ⟨g, rfl, HG.out, hZ⟩⟩
        case measure => simp [intOf]; omega
      · obtain rfl : i = n5 := by omega
        clear hz hb hin hi
        have HKW := Lib.hid (HKR.out wr)
        have HO5 := Lib.hid (ownT_kept HO4.out fun g hg => HB.out.block g (HO4.out.lt g hg).2)
        go_upto_region 11 with (go_at_call 7; refine HKW.out.mono ?_; rintro e w7 ⟨v7, T7, rfl, ho7, hs7, hb7⟩; obtain ⟨p7, q7, rfl, hq7⟩ := ownT_len ho7; have HO7 := Lib.hid ho7; have HS7 := Lib.hid hs7; have HB7 := Lib.hid hb7; clear ho7 hs7 hb7)
        have HOA := Lib.hid (ownT_kept HO5.out fun g hg => HB7.out.block g (HO5.out.lt g hg).2)
        have HBW := Lib.hid (HB4.out.trans ((HB.out.trans (HB7.out.mono HB.out.size)).mono HB4.out.size))
        have h7 : T7.length = n4 := by rw [HS7.out.1]; exact HN4.out
        rw [h7] at HO7 hq7 ⊢
        have HSS := Lib.hid (fun (u : World) (b : Below w7.heap.size w7 u) => (by
          have h1 := ownT_kept HOA.out fun g hg => b.block g (HOA.out.lt g hg).2
          have h2 := ownT_kept HO7.out fun g hg => b.block g (HO7.out.lt g hg).2
          have hn := HN4.out
          rw [← hn] at h1 h2 ⊢
          exact same_says h1 h2 HS7.out HLZ.out : Calls Tryd.prog 9 #[.slice p4 n4 q4, .slice p7 n4 q7] u fun e w' => e = .returned (.bool true) ∧ Below u.heap.size u w'))
        clear HKW HO5 HOA HO7 HS7 h7 HB5 HO4 HKR HB
        go_wp2_with (first | (go_at_call 8; refine (num_says _ _).mono ?_; rintro e t' ⟨rfl, rfl⟩) | (go_at_call 9; refine (HSS.out _ (Below.refl _ _)).mono ?_; rintro e t' ⟨rfl, hbS⟩))
        exact HO.out _ (HBW.out.trans (hbS.mono HBW.out.size))
  · have ways : (70000 : Int) < (s0.size : Int) ∨ (¬ (70000 : Int) < (s0.size : Int) ∧ (70000 : Int) < (s1.size : Int)) := by omega
    rcases ways with a0 | ⟨a0, a1⟩ <;> (
      clear hr
      go_enter Tryd.func3, Tryd.ntmps3
      go_wp2_with (go_at_call 5; refine (alive_says _ (HU.out _ (Below.refl _ _))).mono ?_; rintro e w1 ⟨rfl, hb1⟩; have HB1 := Lib.hid hb1; clear hb1)
      exact HO.out _ HB1.out)
set_option maxRecDepth 100000 in
theorem lifted (os : Os) (started : os.Started) (H : Type) (enc : TypeId × Value → H) :
    ReturnsInHanded {} Tryd.checked os 3 .any (fun w args => (Rows.lexerTokensSpec.pre enc Tryd.prog Tryd.f3 [] false w args ∧ laidMetH Tryd.prog laid2 w) ∧ sizedMet enc Tryd.prog Tryd.f3 (OpenSpec.ofChange Rows.lexerTokensSpec) false w args)
      (Rows.lexerTokensSpec.post enc Tryd.prog Tryd.f3 false true false false) := by
  refine returnsInHanded_of_change_and (C := Tryd.checked) (X := fun w _ => laidMetH Tryd.prog laid2 w) (fun _ _ _ hh h => h.of_heap hh) Lex.own started (by kernel_rfl) Tryd.func3
    (ChangeSpec.witness_shaped (enc := enc) (C := Tryd.checked) (os := os) (X := fun w _ => laidMetH Tryd.prog laid2 w) false (World.laidAll Tryd.prog os laid2) #[.string ⟨#[]⟩, .string ⟨#[]⟩] 8 (World.laidAll_os _ _ _) (World.shaped_of_ZipB (by kernel_rfl) (by kernel_rfl)) (by kernel_rfl) (by kernel_rfl) (by kernel_rfl)
      (by rw [MakeChecks.laidMetH_plain _ _ _ (by kernel_rfl)]; exact laidMet_laidAll _ (by kernel_rfl) (by kernel_rfl))) ?_
  intro W base args ds gs before hval0 hW _ _ hL _
  have hval : ∀ (j : Nat) t v, Tryd.f3.params[j]? = some t → args[j]? = some v → Value.okWide Tryd.prog W .any base t v := hval0
  have hW' := hW
  obtain ⟨p, q, hA0, hV, rfl, hfz, hnd⟩ := hW
  have hA : DataW.TrodAll enc Tryd.prog W 0 (fun _ => true) true Tryd.f3.params.toList args.toList ds p := hA0
  rw [Tryd.params3] at hA hval
  obtain ⟨v0, vs0, d0, ds0, p0, q0, hargs, rfl, rfl, h0, r0⟩ := trodAll_cons hA
  obtain ⟨v1, vs1, d1, ds1, p1, q1, rfl, rfl, rfl, h1, r1⟩ := trodAll_cons r0
  obtain ⟨rfl, rfl, rfl⟩ := trodAll_nil r1
  obtain rfl : args = #[v0, v1] := by cases args; simp_all
  obtain ⟨rfl, rfl⟩ := trodVars_none hV
  obtain ⟨s0, rfl, rfl, rfl, w0⟩ := Go.ChangeMaps.open_string Tryd.underlying9 (hval 0 9 v0 rfl rfl) h0
  obtain ⟨s1, rfl, rfl, rfl, w1⟩ := Go.ChangeMaps.open_string Tryd.underlying9 (hval 1 9 v1 rfl rfl) h1
  have hT := tab_of_laid hL
  clear hA0 hval0
  simp only [List.append_nil] at hW'
  refine (walk s0 w0 s1 w1 W hT).mono fun e W' ⟨he, hb⟩ => ?_
  subst he
  exact ⟨_, rfl, _, _, _, [], [], [], hW', trodAll_cons_mk (shut_bool Tryd.underlying4 _) trodAll_mk0, (trodAll_cons_mk (Go.ChangeMaps.shut_string Tryd.underlying9 w0) (trodAll_cons_mk (Go.ChangeMaps.shut_string Tryd.underlying9 w1) trodAll_mk0)), rfl, hb.frame _, fun h => by cases h⟩
theorem over : Rows.LexerTokensSaid :=
  OpenClaim.holds_of_wide 3 Tryd.f3 rfl rfl rfl rfl rfl rfl rfl ⟨rfl, rfl, rfl, rfl, rfl⟩ rfl rfl rfl rfl rfl (by kernel_rfl) Tryd.func3 (by kernel_rfl)
    (of_decide_eq_true (by kernel_rfl)) (by unfold Func.isWrapper; first | (rw [if_pos (by decide +kernel)]; kernel_rfl) | (rw [if_neg (by decide +kernel)]; exact ⟨rfl, rfl⟩))
    (fun os started H enc _ => lifted os started H enc)
/-- THE STATEMENT: the tied card. -/
theorem proved : Rows.LexerTokensCardSaid :=
  Claim7.holds_tied_plain_at .later [] [.data, .pinned] true (true, "bac8bcb955bbbea02558342b38c72a27f4af13cef2c52444ce76051470a32a5a") false
    over (fun _ h => by cases h) (by kernel_rfl) (fun _ h => by cases h) lexerTokens_row_tie rfl ⟨rfl, rfl⟩ (by kernel_rfl) rfl
    (fun f fn hf hfn => by
      obtain rfl : f = 3 := Option.some.inj ((show Tryd.prog.funcNamed "trunnion/trunnionlaw11.LexerTokens" = some 3 by kernel_rfl).symm.trans hf) |>.symm
      obtain rfl : fn = Tryd.f3 := (Option.some.inj (Tryd.func3.symm.trans hfn)).symm
      exact ⟨by kernel_rfl, fun j t ht => by
        rw [Tryd.params3] at ht
        have hm : t ∈ [9, 9] := by simpa using Array.mem_of_getElem? ht
        have hall : ([9, 9].all fun u => !Tryd.prog.wantsStandIn u) = true := by kernel_rfl
        exact (show Tryd.prog.wantsStandIn t = false by simpa using List.all_eq_true.1 hall t hm)⟩)
    (by kernel_rfl)
end Go.Proofs.YtgikcciakbnehaaDoor.lexerTokens
