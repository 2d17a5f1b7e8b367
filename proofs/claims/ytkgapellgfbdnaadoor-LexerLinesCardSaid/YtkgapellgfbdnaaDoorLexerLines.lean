/-
  lines are counted by their ends, and at most eight thousand of these may be: law LexerLines returns true.
  No condition on the arguments: whatever they are. The card ties the three listed tables of Go's library to the program's text.
-/
import Derived.Test.YtkgapellgfbdnaaDoorLexAl
import Derived.Carry
import Derived.Lay
import Derived.LaidOnce
import Derived.OpenShut
import Derived.Deep.Slices
import Derived.Test.YtkgapellgfbdnaaDoorCards
import Derived.Test.YtkgapellgfbdnaaDoorTie
import Derived.SevenTiedAt
import Derived.Test.YtkgapellgfbdnaaDoorLexLw
import Derived.Lib.AppendZeros
import Derived.Laws.OwnMore
namespace Go.Proofs.YtkgapellgfbdnaaDoor.lexerLines
open Go Go.Proofs.YtkgapellgfbdnaaDoor Go.Proofs.YtkgapellgfbdnaaDoor.Ser Go.Proofs.YtkgapellgfbdnaaDoor.Lex Go.ChangeShapes Go.WideShapes Go.ChangeAt Go.RowKit
set_option linter.unusedVariables false
/-- What the law writes: n bytes 10, m blanks. -/
def tg (n m : Nat) : List Int := List.replicate n 10 ++ List.replicate m 32
theorem tg_length (n m : Nat) : (tg n m).length = n + m := by simp [tg]
def so (n m i : Nat) : List Int := (tg n m).take i ++ List.replicate (n + m - i) 0
theorem so_length (n m i : Nat) (hi : i ≤ n + m) : (so n m i).length = n + m := by
  unfold so; rw [List.length_append, List.length_take, tg_length, List.length_replicate]; omega
theorem so_set (n m i : Nat) (hi : i < n + m) (v : Int) (hv : (tg n m)[i]? = some v) : (so n m i).set i v = so n m (i + 1) := by
  unfold so
  have hl : ((tg n m).take i).length = i := by rw [List.length_take, tg_length]; omega
  have e1 : n + m - i = (n + m - (i + 1)) + 1 := by omega
  rw [List.set_append_right _ _ (by omega), hl, Nat.sub_self, e1, List.replicate_succ, List.set_cons_zero, List.take_add_one, hv]
  simp
theorem so_all (n m : Nat) : so n m (n + m) = tg n m := by
  unfold so; rw [Nat.sub_self, List.replicate_zero, List.append_nil, List.take_of_length_le (by rw [tg_length]; exact Nat.le_refl _)]
theorem tg_low {n m i : Nat} (h : i < n) : (tg n m)[i]? = some 10 := by
  unfold tg; rw [List.getElem?_append_left (by simpa using h), List.getElem?_replicate_of_lt h]
theorem tg_high {n m i : Nat} (h : ¬ i < n) (h2 : i < n + m) : (tg n m)[i]? = some 32 := by
  unfold tg; rw [List.getElem?_append_right (by simpa using Nat.le_of_not_lt h), List.length_replicate, List.getElem?_replicate_of_lt (by omega)]
theorem set_twice (xs : List Int) (i : Nat) (a b : Int) : (xs.set i a).set i b = xs.set i b := by rw [List.set_set]
/-- The source. -/
def srcB (n m : Nat) : ByteArray := strOfNums (tg n m) ++ ⟨#[120]⟩
theorem src_list (n m : Nat) : (srcB n m).data.toList = (List.replicate n (10 : UInt8) ++ List.replicate m 32) ++ [120] := by
  unfold srcB strOfNums tg
  simp
theorem src_rs (n m : Nat) : rs (srcB n m).data.toList = lineR n m := by
  rw [src_list, rs_all _ _ (by intro b hb; simp only [List.mem_append, List.mem_replicate] at hb; rcases hb with ⟨_, rfl⟩ | ⟨_, rfl⟩ <;> decide), rs_ascii _ _ (by decide)]
  unfold lineR
  simp [rs_nil]
theorem src_size (n m : Nat) (hn : n ≤ 8010) (hm : m ≤ 20) : (srcB n m).size ≤ 65536 := by
  have h1 : (srcB n m).size = (srcB n m).data.toList.length := Array.length_toList.symm
  rw [h1, src_list]; simp; omega
theorem src_good (n m : Nat) (hn : n ≤ 8000) (hm : m ≤ 20) : lexS (srcB n m) = (lineT 1 n ++ [⟨1, ⟨#[120]⟩, 0, (n : Int) + 1, (m : Int) + 1⟩, ⟨6, ⟨#[]⟩, 0, (n : Int) + 1, (m : Int) + 2⟩], 0, 0, 0) := by
  unfold lexS
  rw [if_neg (by have := src_size n m (by omega) hm; omega), src_rs]
  have hl : (lineR n m).length = n + (m + 2 + 0) := by unfold lineR; simp
  rw [hl]
  have := goO_lines n m 0 1 [] (by omega)
  rw [show ((1 : Nat) : Int) = 1 from rfl] at this
  rw [this]
  have e1 : ((1 + n : Nat) : Int) = (n : Int) + 1 := by omega
  have e2 : (1 : Int) + (m : Int) = (m : Int) + 1 := by omega
  have e3 : (m : Int) + 1 + 1 = (m : Int) + 2 := by omega
  rw [e1, e2, e3]
  rfl
theorem src_bad (n m : Nat) (hn : 8000 < n) (hn2 : n ≤ 8010) (hm : m ≤ 20) : lexS (srcB n m) = ([], 8001, 1, 2) := by
  unfold lexS
  rw [if_neg (by have := src_size n m hn2 hm; omega), src_rs]
  have hl : (lineR n m).length = n + (m + 2) := by unfold lineR; simp
  rw [hl]
  exact goO_over n (m + 2) 1 _ [] (by omega) (by omega)
theorem lineT_len (a n : Nat) : (lineT a n).length = n := by unfold lineT; simp
/-- What the call does. -/
def Fine (W : World) (e : Ending) (W' : World) : Prop := e = .returned (.bool true) ∧ Below W.heap.size W W'
set_option maxHeartbeats 8000000 in
theorem walk (x0 : Int) (w0 : (Lit.int .i64 x0).wf = true) (x1 : Int) (w1 : (Lit.int .i64 x1).wf = true) (W : World) (hT : U8 W) :
    Calls Tryd.prog 7 #[.int .i64 x0, .int .i64 x1] W (Fine W) := by
  have HU := Lib.hid (fun u (hb : Below W.heap.size W u) => hT.later hb)
  clear hT
  obtain ⟨p, hp⟩ : ∃ p : Ending → World → Prop, p = Fine W := ⟨_, rfl⟩
  rw [← hp]
  have hout : ∀ u, Below W.heap.size W u → p (.returned (.bool true)) u := by intro u hb; rw [hp]; exact ⟨rfl, hb⟩
  have HO := Lib.hid hout
  clear hp hout
  by_cases hr : 0 ≤ x0 ∧ x0 ≤ 8010 ∧ 0 ≤ x1 ∧ x1 ≤ 20
  · obtain ⟨a0, a1, a2, a3⟩ := hr
    obtain ⟨n, rfl⟩ := Int.eq_ofNat_of_zero_le a0
    obtain ⟨m, rfl⟩ := Int.eq_ofNat_of_zero_le a2
    have b0 : ¬ (n : Int) < 0 := by omega
    have b1 : ¬ (8010 : Int) < (n : Int) := by omega
    have b2 : ¬ (m : Int) < 0 := by omega
    have b3 : ¬ (20 : Int) < (m : Int) := by omega
    go_enter Tryd.func7, Tryd.ntmps7
    go_upto_region 4 with (go_at_call 9; refine (alive_says _ (HU.out _ (Below.refl _ _))).mono ?_; rintro e w1 ⟨rfl, hb1⟩)
    obtain ⟨i, hi, hz0, hz1, hz2⟩ := info_parts info_u8
    obtain ⟨w2, h1, h2, h3⟩ := run_make_full (P := Tryd.prog) w1 w1.heap.size 34 5 i _ 1 Tryd.underlying34 hi hz0 hz1 .i64 .i64 (n + m) (by rw [hz2]; omega) (by unfold maxLen; omega) (Nat.le_refl _)
    have ec : ((n + m : Nat) : Int) = (n : Int) + (m : Int) := by omega
    rw [ec] at h1
    have o0 : Own w2 W.heap.size (.slice (some ⟨w1.heap.size, 0, none⟩) (n + m) (n + m)) (so n m 0) := by
      have e : (madeCells (Value.int .u8 0).cells ((n + m) * 1)).toList = u8L (so n m 0) := by
        unfold so
        apply List.ext_getElem
        · simp [madeCells]
        · intro j a b
          simp [madeCells, Value.cells, Nat.mod_one]
      unfold Own
      rw [so_length n m 0 (Nat.zero_le _), ← e]
      obtain ⟨k0, k1 | ⟨gg, cp, cur, k1, k2, k3⟩⟩ := h2
      · exact ⟨k0, .inl k1⟩
      · exact ⟨k0, .inr ⟨gg, cp, cur, k1, Nat.le_trans hb1.size k2, k3⟩⟩
    have hb2 : Below W.heap.size W w2 := hb1.trans ⟨h3.os, h3.tape, h3.output, h3.size, fun k hk => h3.block k (by have := hb1.size; omega) (fun e => by cases e)⟩
    have H0 := Lib.hid o0
    have HB2 := Lib.hid hb2
    obtain ⟨P1, hP1⟩ : ∃ P1, w1.heap.size = P1 := ⟨_, rfl⟩
    rw [hP1] at H0 h1
    clear o0 hb2 h2 h3 hi hz0 hz1 hz2
    have b4 : (0 : Int) ≤ (n : Int) + (m : Int) := by omega
    have b5 : (n : Int) + (m : Int) ≤ 8030 := by omega
    go_upto_region 5 with fail
    clear h1
    rw [ec.symm]
    go_wp2_with fail
    go_loopw [7] (fun iv wr => ∃ k : Nat, k ≤ n + m ∧ iv = .int .i64 k ∧ Own wr W.heap.size (.slice (some ⟨P1, 0, none⟩) (n + m) (n + m)) (so n m k) ∧ Below W.heap.size W wr) (fun iv _ => n + m - (intOf iv).toNat)
    case atStart => exact ⟨0, Nat.zero_le _, rfl, H0.out, HB2.out⟩
    case round =>
      clear H0 HB2
      obtain ⟨k, hk, rfl, ho, hb⟩ := hrel
      have HB := Lib.hid hb
      by_cases hkn : k < n + m
      · have hkI : (k : Int) < (n : Int) + (m : Int) := by omega
        have hk0 : (0 : Int) ≤ (k : Int) := Int.natCast_nonneg k
        have hl := so_length n m k hk
        rw [← hl] at ho
        obtain ⟨g, hg, hBg, hc, hf, hset⟩ := own_cell (xs := so n m k) (c := (so n m k).length) (k := k) (by rw [hl] at ho ⊢; exact ho) (by omega)
        have hg' : P1 = g := by injection hg with hg; injection hg
        subst hg'
        obtain ⟨y, hy⟩ : ∃ y, (so n m k)[k]'(by omega) = y := ⟨_, rfl⟩
        rw [hy] at hc
        have o1 := hset 32
        by_cases hkl : k < n
        · have hI : (k : Int) < (n : Int) := by omega
          have o2 : Own ((wr.setCell ⟨P1, k, none⟩ (.int .u8 32)).setCell ⟨P1, k, none⟩ (.int .u8 10)) W.heap.size (.slice (some ⟨P1, 0, none⟩) (n + m) (n + m)) (so n m (k + 1)) := by
            have hl2 : ((so n m k).set k 32).length = (so n m k).length := List.length_set
            obtain ⟨g2, hg2, -, -, -, hset2⟩ := own_cell (xs := (so n m k).set k 32) (c := (so n m k).length) (k := k) (by rw [hl2]; exact o1) (by rw [hl2]; omega)
            have := hset2 10
            have hg3 : P1 = g2 := by injection hg2 with hg2; injection hg2
            subst hg3
            rw [set_twice, so_set n m k hkn 10 (tg_low hkl), hl2, hl] at this
            exact this
          have HO2 := Lib.hid o2
          clear o1 o2 hset ho hl hy hb
          go_wp2
          go_roundw
          case rel => exact ⟨k + 1, hkn, by go_num, HO2.out, (HB.out.setCell (p := ⟨P1, k, none⟩) hBg _).setCell (p := ⟨P1, k, none⟩) hBg _⟩
          case measure => simp [intOf]; omega
        · have hI : ¬ (k : Int) < (n : Int) := by omega
          have o2 : Own (wr.setCell ⟨P1, k, none⟩ (.int .u8 32)) W.heap.size (.slice (some ⟨P1, 0, none⟩) (n + m) (n + m)) (so n m (k + 1)) := by
            rw [so_set n m k hkn 32 (tg_high hkl hkn), hl] at o1
            exact o1
          have HO2 := Lib.hid o2
          clear o1 o2 hset ho hl hy hb
          go_wp2
          go_roundw
          case rel => exact ⟨k + 1, hkn, by go_num, HO2.out, HB.out.setCell (p := ⟨P1, k, none⟩) hBg _⟩
          case measure => simp [intOf]; omega
      · obtain rfl : k = n + m := by omega
        rw [so_all] at ho
        have hcv := conv_src (own_src ho) (n + m)
        rw [tg_length] at hcv
        obtain ⟨sv, hsv⟩ : ∃ sv, strOfNums (tg n m) = sv := ⟨_, rfl⟩
        have hsz : (sv ++ ⟨#[120]⟩ : ByteArray).size ≤ 65536 := by rw [← hsv]; exact src_size n m (by omega) (by omega)
        have htk := tokens_says (srcB n m) wr (HU.out _ hb)
        unfold srcB at htk
        rw [hsv] at hcv htk
        have hcat : ∀ u : World, (Op.stringOp .add sv ⟨#[120]⟩).run Tryd.prog u = .ok (.string (sv ++ ⟨#[120]⟩)) u := fun u => run_string_add_sum u sv ⟨#[120]⟩ (by rw [ByteArray.size_append] at hsz; omega)
        by_cases hn : 8000 < n
        · have hnI : (8000 : Int) < (n : Int) := by omega
          have hlx := src_bad n m hn (by omega) (by omega)
          unfold srcB at hlx
          rw [hsv] at hlx
          rw [hlx] at htk
          have HTK := Lib.hid htk
          clear htk hlx ho hb hsv
          go_wp2_with (first
            | (go_at_call 10; refine HTK.out.mono ?_; rintro e w5 ⟨v, rfl, ho, hb5⟩; obtain ⟨q5, c5, rfl, hq5⟩ := ownT_len ho; have HB5 := Lib.hid (HB.out.trans (hb5.mono HB.out.size)); clear hb5 ho)
            | (go_at_call 12; refine (num_says _ _).mono ?_; rintro e w6 ⟨rfl, rfl⟩))
          exact HO.out _ HB5.out
        · have hnI : ¬ (8000 : Int) < (n : Int) := by omega
          have hlx := src_good n m (by omega) (by omega)
          unfold srcB at hlx
          rw [hsv] at hlx
          rw [hlx] at htk
          obtain ⟨T, hT⟩ : ∃ T, lineT 1 n ++ [⟨1, ⟨#[120]⟩, 0, (n : Int) + 1, (m : Int) + 1⟩, ⟨6, ⟨#[]⟩, 0, (n : Int) + 1, (m : Int) + 2⟩] = T := ⟨_, rfl⟩
          have hT0 : T[n]? = some ⟨1, ⟨#[120]⟩, 0, (n : Int) + 1, (m : Int) + 1⟩ := by rw [← hT, List.getElem?_append_right (by rw [lineT_len]; exact Nat.le_refl _), lineT_len, Nat.sub_self]; rfl
          have hT1 : T[n + 1]? = some ⟨6, ⟨#[]⟩, 0, (n : Int) + 1, (m : Int) + 2⟩ := by rw [← hT, List.getElem?_append_right (by rw [lineT_len]; omega), lineT_len, show n + 1 - n = 1 by omega]; rfl
          have hTl : T.length = n + 2 := by rw [← hT, List.length_append, lineT_len]; rfl
          rw [hT] at htk
          have HTK := Lib.hid htk
          have HT0 := Lib.hid hT0; have HT1 := Lib.hid hT1
          clear htk hlx ho hb hsv hT hT0 hT1
          go_upto_region 12 with (go_at_call 10; refine HTK.out.mono ?_; rintro e w5 ⟨v, rfl, ho, hb5⟩)
          obtain ⟨q5, c5, rfl, hq5⟩ := ownT_len ho
          obtain ⟨g5, rfl, t0⟩ := ownT_at ho HT0.out
          obtain ⟨g6, e6, t1⟩ := ownT_at ho HT1.out
          injection e6 with e6; injection e6 with e6; subst e6
          have HB5 := Lib.hid (HB.out.trans (hb5.mono HB.out.size))
          have y1 := t0.text; have y2 := t0.line; have y3 := t0.col; have y4 := t1.kind; have y5 := t1.col
          rw [hTl] at hq5 ⊢
          have q1 : (n : Int) + 2 ≤ (c5 : Int) := by omega
          have n0 : (0 : Int) ≤ (n : Int) := Int.natCast_nonneg n
          clear t0 t1 ho hb5
          go_wp2_with (go_at_call 12; refine (num_says _ _).mono ?_; rintro e w6 ⟨rfl, rfl⟩)
          exact HO.out _ HB5.out
  · have ways : x0 < 0 ∨ (0 ≤ x0 ∧ 8010 < x0) ∨ (0 ≤ x0 ∧ x0 ≤ 8010 ∧ x1 < 0) ∨ (0 ≤ x0 ∧ x0 ≤ 8010 ∧ 0 ≤ x1 ∧ 20 < x1) := by omega
    rcases ways with a0 | ⟨a0, a1⟩ | ⟨a0, a1, a2⟩ | ⟨a0, a1, a2, a3⟩ <;> (
      clear hr
      go_enter Tryd.func7, Tryd.ntmps7
      go_wp2_with (go_at_call 9; refine (alive_says _ (HU.out _ (Below.refl _ _))).mono ?_; rintro e w1 ⟨rfl, hb1⟩; have HB1 := Lib.hid hb1; clear hb1)
      exact HO.out _ HB1.out)
set_option maxRecDepth 100000 in
theorem lifted (os : Os) (started : os.Started) (H : Type) (enc : TypeId × Value → H) :
    ReturnsInHanded {} Tryd.checked os 7 .any (fun w args => (Rows.lexerLinesSpec.pre enc Tryd.prog Tryd.f7 [] false w args ∧ laidMetH Tryd.prog laid2 w) ∧ sizedMet enc Tryd.prog Tryd.f7 (OpenSpec.ofChange Rows.lexerLinesSpec) false w args)
      (Rows.lexerLinesSpec.post enc Tryd.prog Tryd.f7 false true false false) := by
  refine returnsInHanded_of_change_and (C := Tryd.checked) (X := fun w _ => laidMetH Tryd.prog laid2 w) (fun _ _ _ hh h => h.of_heap hh) Lex.own started (by kernel_rfl) Tryd.func7
    (ChangeSpec.witness_shaped (enc := enc) (C := Tryd.checked) (os := os) (X := fun w _ => laidMetH Tryd.prog laid2 w) false (World.laidAll Tryd.prog os laid2) #[.int .i64 0, .int .i64 0] 8 (World.laidAll_os _ _ _) (World.shaped_of_ZipB (by kernel_rfl) (by kernel_rfl)) (by kernel_rfl) (by kernel_rfl) (by kernel_rfl)
      (by rw [MakeChecks.laidMetH_plain _ _ _ (by kernel_rfl)]; exact laidMet_laidAll _ (by kernel_rfl) (by kernel_rfl))) ?_
  intro W base args ds gs before hval0 hW _ _ hL _
  have hval : ∀ (j : Nat) t v, Tryd.f7.params[j]? = some t → args[j]? = some v → Value.okWide Tryd.prog W .any base t v := hval0
  have hW' := hW
  obtain ⟨p, q, hA0, hV, rfl, hfz, hnd⟩ := hW
  have hA : DataW.TrodAll enc Tryd.prog W 0 (fun _ => true) true Tryd.f7.params.toList args.toList ds p := hA0
  rw [Tryd.params7] at hA hval
  obtain ⟨v0, vs0, d0, ds0, p0, q0, hargs, rfl, rfl, h0, r0⟩ := trodAll_cons hA
  obtain ⟨v1, vs1, d1, ds1, p1, q1, rfl, rfl, rfl, h1, r1⟩ := trodAll_cons r0
  obtain ⟨rfl, rfl, rfl⟩ := trodAll_nil r1
  obtain rfl : args = #[v0, v1] := by cases args; simp_all
  obtain ⟨rfl, rfl⟩ := trodVars_none hV
  obtain ⟨x0, rfl, rfl, rfl, w0⟩ := open_int Tryd.underlying3 (hval 0 3 v0 rfl rfl) h0
  obtain ⟨x1, rfl, rfl, rfl, w1⟩ := open_int Tryd.underlying3 (hval 1 3 v1 rfl rfl) h1
  have hT := tab_of_laid hL
  clear hA0 hval0
  simp only [List.append_nil] at hW'
  refine (walk x0 w0 x1 w1 W hT).mono fun e W' ⟨he, hb⟩ => ?_
  subst he
  exact ⟨_, rfl, _, _, _, [], [], [], hW', trodAll_cons_mk (shut_bool Tryd.underlying4 _) trodAll_mk0, (trodAll_cons_mk (shut_int Tryd.underlying3 w0) (trodAll_cons_mk (shut_int Tryd.underlying3 w1) trodAll_mk0)), rfl, hb.frame _, fun h => by cases h⟩
theorem over : Rows.LexerLinesSaid :=
  OpenClaim.holds_of_wide 7 Tryd.f7 rfl rfl rfl rfl rfl rfl rfl ⟨rfl, rfl, rfl, rfl, rfl⟩ rfl rfl rfl rfl rfl (by kernel_rfl) Tryd.func7 (by kernel_rfl)
    (of_decide_eq_true (by kernel_rfl)) (by unfold Func.isWrapper; first | (rw [if_pos (by decide +kernel)]; kernel_rfl) | (rw [if_neg (by decide +kernel)]; exact ⟨rfl, rfl⟩))
    (fun os started H enc _ => lifted os started H enc)
/-- THE STATEMENT: the tied card. -/
theorem proved : Rows.LexerLinesCardSaid :=
  Claim7.holds_tied_plain_at .later [] [.data, .pinned] true (true, "09660570d19ad61ea6fcc418b4fa2f246f51f27fdcf28e094159d75741c40f88") false
    over (fun _ h => by cases h) (by kernel_rfl) (fun _ h => by cases h) lexerLines_row_tie rfl ⟨rfl, rfl⟩ (by kernel_rfl) rfl
    (fun f fn hf hfn => by
      obtain rfl : f = 7 := Option.some.inj ((show Tryd.prog.funcNamed "trunnion/trunnionlaw11.LexerLines" = some 7 by kernel_rfl).symm.trans hf) |>.symm
      obtain rfl : fn = Tryd.f7 := (Option.some.inj (Tryd.func7.symm.trans hfn)).symm
      exact ⟨by kernel_rfl, fun j t ht => by
        rw [Tryd.params7] at ht
        have hm : t ∈ [3, 3] := by simpa using Array.mem_of_getElem? ht
        have hall : ([3, 3].all fun u => !Tryd.prog.wantsStandIn u) = true := by kernel_rfl
        exact (show Tryd.prog.wantsStandIn t = false by simpa using List.all_eq_true.1 hall t hm)⟩)
    (by kernel_rfl)
end Go.Proofs.YtkgapellgfbdnaaDoor.lexerLines
