/-
  Immediates with a sign are read with it, at both ends, and those beyond are refused (law IsaSigns returns true).
  No condition on the arguments: whatever they are. The card ties the three listed tables of Go's library to the program's text.
-/
import Derived.Test.YtfhfgogiijcmbaaDoorIsaFrame
import Derived.Test.YtfhfgogiijcmbaaDoorCards
import Derived.Test.YtfhfgogiijcmbaaDoorTie
import Derived.SevenTiedAt

namespace Go.Proofs.YtfhfgogiijcmbaaDoor.isaSigns
open Go Go.ChangeShapes Go.WideShapes Go.ChangeAt Go.RowKit
set_option linter.unusedVariables false
theorem sign_out (op n : Int) (f lo hi : Int) (hF : opF op = f) (hn : f ≠ 0) (hl : fL f = lo) (hh : fH f = hi) (h : n < lo ∨ hi < n) : encE op 0 0 0 n = 6 ∧ encW op 0 0 0 n = 0 := by
  subst hF hl hh
  have hq : ¬ badQ (fR (opF op)) 0 0 0 := by unfold badQ; omega
  exact enc_range op 0 0 0 n hn hq h
theorem sign_in (op n : Int) (f lo hi : Int) (hF : opF op = f) (hn : f ≠ 0) (hl : fL f = lo) (hh : fH f = hi) (h0 : lo ≤ n) (h1 : n ≤ hi) : encE op 0 0 0 n = 0 ∧ encW op 0 0 0 n = op * 16777216 + n % 2 ^ (fB f).toNat ∧ decV (wd (encW op 0 0 0 n)) = .tuple #[insV op 0 0 0 n, i64 0] := by
  subst hF hl hh
  have hq : ¬ badQ (fR (opF op)) 0 0 0 := by unfold badQ; omega
  have hm : ¬ (n < fL (opF op) ∨ fH (opF op) < n) := by omega
  obtain ⟨e, ew⟩ := enc_ok op 0 0 0 n hn hq hm
  obtain ⟨_, _, _, _, _, h6, h7⟩ := fields_of op 0 0 0 n e
  obtain ⟨d0, d1, d2, d3, d4, d5⟩ := decode_encode op 0 0 0 n e
  refine ⟨e, by rw [ew]; omega, ?_⟩
  rw [wd_eq _ h6 h7]
  simp only [decV, insV, d0, d1, d2, d3, d4, d5]
theorem or_top (op y : Int) (k : Nat) (hk : k ≤ 20) (o0 : 0 ≤ op) (o1 : op ≤ 70) (y0 : 0 ≤ y) (y1 : y < 2 ^ k) : bits .or .i64 (op * 16777216) y = op * 16777216 + y := by
  have hp : (2 : Int) ^ k ≤ 2 ^ 20 := pow_le' hk
  have he : (2 : Int) ^ 20 = 1048576 := by decide
  exact join64 24 _ y (by omega) (by show _ % (16777216 : Int) = 0; omega) (by omega) y0 (by show _ < (16777216 : Int); omega) (by omega)
/-- What the call does. -/
def Fine (W : World) (e : Ending) (W' : World) : Prop := e = .returned (.bool true) ∧ Below W.heap.size W W'
set_option maxHeartbeats 8000000 in
theorem walk (x0 : Int) (w0 : (Lit.int .i64 x0).wf = true) (x1 : Int) (w1 : (Lit.int .i64 x1).wf = true) (W : World) (hT : Tab W) :
    Calls Tryd.prog 8 #[.int .i64 x0, .int .i64 x1] W (Fine W) := by
  have hf := opF_bd x0
  rcases f_cases (opF x0) hf.1 hf.2 with f | f | f | f | f | f | f | f | f
  · have hC : fC (opF x0) = 0 := by rw [f]; rfl
    clear f hf
    go_enter Tryd.func8, Tryd.ntmps8
    go_wp2_with (first | (go_at_call 11; refine (alive_says _ hT).mono ?_; rintro e w1 ⟨rfl, hb1⟩; have hs1 : W.heap.size ≤ w1.heap.size := hb1.size) | (go_at_call 18; refine (form_says _ _).mono ?_; rintro e w' ⟨rfl, rfl⟩))
    go_ret
    exact ⟨ret_bool rfl, hb1⟩
  · have hC : fC (opF x0) = 82 := by rw [f]; rfl
    clear f hf
    go_enter Tryd.func8, Tryd.ntmps8
    go_wp2_with (first | (go_at_call 11; refine (alive_says _ hT).mono ?_; rintro e w1 ⟨rfl, hb1⟩; have hs1 : W.heap.size ≤ w1.heap.size := hb1.size) | (go_at_call 18; refine (form_says _ _).mono ?_; rintro e w' ⟨rfl, rfl⟩))
    go_ret
    exact ⟨ret_bool rfl, hb1⟩
  · have hC : fC (opF x0) = 73 := by rw [f]; rfl
    have ho := op_of_form x0 (by omega)
    by_cases hr : x1 < -32768 ∨ 32767 < x1
    · obtain ⟨e1, e2⟩ := sign_out x0 x1 2 (-32768) 32767 f (by decide) rfl rfl hr
      have hd : Hid (decV (wd (encW x0 0 0 0 x1)) = decV (wd (encW x0 0 0 0 x1))) := Lib.hid rfl
      clear f hf
      by_cases h1 : x1 < -32768
      all_goals
        first | (have h2 : 32767 < x1 := by omega) | skip
        clear hr
        go_enter Tryd.func8, Tryd.ntmps8
        go_wp2_with (first | (go_at_call 11; refine (alive_says _ hT).mono ?_; rintro e w1 ⟨rfl, hb1⟩; have hs1 : W.heap.size ≤ w1.heap.size := hb1.size) | (go_at_call 18; refine (form_says _ _).mono ?_; rintro e w' ⟨rfl, rfl⟩) | (go_at_call 14; refine (num_says _ _).mono ?_; rintro e w' ⟨rfl, rfl⟩) | (go_at_call 12; refine (encode_says _ _ _ _ _ _).mono ?_; rintro e w2 ⟨rfl, hb2⟩; have hs2 : w1.heap.size ≤ w2.heap.size := hb2.size) | (go_at_call 15; refine (decode_says _ _).mono ?_; rw [hd.out]; rintro e w3 ⟨rfl, hb3⟩; have hs3 : w2.heap.size ≤ w3.heap.size := hb3.size))
        go_ret
        exact ⟨ret_bool rfl, hb1.trans (hb2.mono hs1)⟩
    · obtain ⟨e1, e2, e3⟩ := sign_in x0 x1 2 (-32768) 32767 f (by decide) rfl rfl (by omega) (by omega)
      have hd := Lib.hid e3
      have e4 : bits .or .i64 (x0 * 16777216) (bits .and .i64 x1 65535) = encW x0 0 0 0 x1 := by
        rw [e2, mask64_16, or_top x0 _ 16 (by decide) ho.1 ho.2 (by omega) (by show _ < (65536 : Int); omega)]; rfl
      have h1 : -32768 ≤ x1 := by omega
      have h2 : x1 ≤ 32767 := by omega
      clear e2 e3 f hf hr
      go_enter Tryd.func8, Tryd.ntmps8
      go_wp2_with (first | (go_at_call 11; refine (alive_says _ hT).mono ?_; rintro e w1 ⟨rfl, hb1⟩; have hs1 : W.heap.size ≤ w1.heap.size := hb1.size) | (go_at_call 18; refine (form_says _ _).mono ?_; rintro e w' ⟨rfl, rfl⟩) | (go_at_call 14; refine (num_says _ _).mono ?_; rintro e w' ⟨rfl, rfl⟩) | (go_at_call 12; refine (encode_says _ _ _ _ _ _).mono ?_; rintro e w2 ⟨rfl, hb2⟩; have hs2 : w1.heap.size ≤ w2.heap.size := hb2.size) | (go_at_call 15; refine (decode_says _ _).mono ?_; rw [hd.out]; rintro e w3 ⟨rfl, hb3⟩; have hs3 : w2.heap.size ≤ w3.heap.size := hb3.size))
      go_ret
      exact ⟨ret_bool rfl, ((hb1.trans (hb2.mono hs1)).trans (hb3.mono (by omega))).alloc (by omega) _⟩
  · have hC : fC (opF x0) = 85 := by rw [f]; rfl
    clear f hf
    go_enter Tryd.func8, Tryd.ntmps8
    go_wp2_with (first | (go_at_call 11; refine (alive_says _ hT).mono ?_; rintro e w1 ⟨rfl, hb1⟩; have hs1 : W.heap.size ≤ w1.heap.size := hb1.size) | (go_at_call 18; refine (form_says _ _).mono ?_; rintro e w' ⟨rfl, rfl⟩))
    go_ret
    exact ⟨ret_bool rfl, hb1⟩
  · have hC : fC (opF x0) = 72 := by rw [f]; rfl
    clear f hf
    go_enter Tryd.func8, Tryd.ntmps8
    go_wp2_with (first | (go_at_call 11; refine (alive_says _ hT).mono ?_; rintro e w1 ⟨rfl, hb1⟩; have hs1 : W.heap.size ≤ w1.heap.size := hb1.size) | (go_at_call 18; refine (form_says _ _).mono ?_; rintro e w' ⟨rfl, rfl⟩))
    go_ret
    exact ⟨ret_bool rfl, hb1⟩
  · have hC : fC (opF x0) = 76 := by rw [f]; rfl
    clear f hf
    go_enter Tryd.func8, Tryd.ntmps8
    go_wp2_with (first | (go_at_call 11; refine (alive_says _ hT).mono ?_; rintro e w1 ⟨rfl, hb1⟩; have hs1 : W.heap.size ≤ w1.heap.size := hb1.size) | (go_at_call 18; refine (form_says _ _).mono ?_; rintro e w' ⟨rfl, rfl⟩))
    go_ret
    exact ⟨ret_bool rfl, hb1⟩
  · have hC : fC (opF x0) = 74 := by rw [f]; rfl
    have ho := op_of_form x0 (by omega)
    by_cases hr : x1 < -524288 ∨ 524287 < x1
    · obtain ⟨e1, e2⟩ := sign_out x0 x1 6 (-524288) 524287 f (by decide) rfl rfl hr
      have hd : Hid (decV (wd (encW x0 0 0 0 x1)) = decV (wd (encW x0 0 0 0 x1))) := Lib.hid rfl
      clear f hf
      by_cases h1 : x1 < -524288
      all_goals
        first | (have h2 : 524287 < x1 := by omega) | skip
        clear hr
        go_enter Tryd.func8, Tryd.ntmps8
        go_wp2_with (first | (go_at_call 11; refine (alive_says _ hT).mono ?_; rintro e w1 ⟨rfl, hb1⟩; have hs1 : W.heap.size ≤ w1.heap.size := hb1.size) | (go_at_call 18; refine (form_says _ _).mono ?_; rintro e w' ⟨rfl, rfl⟩) | (go_at_call 14; refine (num_says _ _).mono ?_; rintro e w' ⟨rfl, rfl⟩) | (go_at_call 12; refine (encode_says _ _ _ _ _ _).mono ?_; rintro e w2 ⟨rfl, hb2⟩; have hs2 : w1.heap.size ≤ w2.heap.size := hb2.size) | (go_at_call 15; refine (decode_says _ _).mono ?_; rw [hd.out]; rintro e w3 ⟨rfl, hb3⟩; have hs3 : w2.heap.size ≤ w3.heap.size := hb3.size))
        go_ret
        exact ⟨ret_bool rfl, hb1.trans (hb2.mono hs1)⟩
    · obtain ⟨e1, e2, e3⟩ := sign_in x0 x1 6 (-524288) 524287 f (by decide) rfl rfl (by omega) (by omega)
      have hd := Lib.hid e3
      have e4 : bits .or .i64 (x0 * 16777216) (bits .and .i64 x1 1048575) = encW x0 0 0 0 x1 := by
        rw [e2, mask64_20, or_top x0 _ 20 (by decide) ho.1 ho.2 (by omega) (by show _ < (1048576 : Int); omega)]; rfl
      have h1 : -524288 ≤ x1 := by omega
      have h2 : x1 ≤ 524287 := by omega
      clear e2 e3 f hf hr
      go_enter Tryd.func8, Tryd.ntmps8
      go_wp2_with (first | (go_at_call 11; refine (alive_says _ hT).mono ?_; rintro e w1 ⟨rfl, hb1⟩; have hs1 : W.heap.size ≤ w1.heap.size := hb1.size) | (go_at_call 18; refine (form_says _ _).mono ?_; rintro e w' ⟨rfl, rfl⟩) | (go_at_call 14; refine (num_says _ _).mono ?_; rintro e w' ⟨rfl, rfl⟩) | (go_at_call 12; refine (encode_says _ _ _ _ _ _).mono ?_; rintro e w2 ⟨rfl, hb2⟩; have hs2 : w1.heap.size ≤ w2.heap.size := hb2.size) | (go_at_call 15; refine (decode_says _ _).mono ?_; rw [hd.out]; rintro e w3 ⟨rfl, hb3⟩; have hs3 : w2.heap.size ≤ w3.heap.size := hb3.size))
      go_ret
      exact ⟨ret_bool rfl, ((hb1.trans (hb2.mono hs1)).trans (hb3.mono (by omega))).alloc (by omega) _⟩
  · have hC : fC (opF x0) = 67 := by rw [f]; rfl
    clear f hf
    go_enter Tryd.func8, Tryd.ntmps8
    go_wp2_with (first | (go_at_call 11; refine (alive_says _ hT).mono ?_; rintro e w1 ⟨rfl, hb1⟩; have hs1 : W.heap.size ≤ w1.heap.size := hb1.size) | (go_at_call 18; refine (form_says _ _).mono ?_; rintro e w' ⟨rfl, rfl⟩))
    go_ret
    exact ⟨ret_bool rfl, hb1⟩
  · have hC : fC (opF x0) = 78 := by rw [f]; rfl
    clear f hf
    go_enter Tryd.func8, Tryd.ntmps8
    go_wp2_with (first | (go_at_call 11; refine (alive_says _ hT).mono ?_; rintro e w1 ⟨rfl, hb1⟩; have hs1 : W.heap.size ≤ w1.heap.size := hb1.size) | (go_at_call 18; refine (form_says _ _).mono ?_; rintro e w' ⟨rfl, rfl⟩))
    go_ret
    exact ⟨ret_bool rfl, hb1⟩
set_option maxRecDepth 100000 in
theorem door_met (os : Os) (args : Array Value) : laidMetH Tryd.prog laid3 ((World.doorLaid Tryd.prog 4000 os).forCall (fun _ _ => 0) ⟨#[], args, []⟩).memory := by
  rw [MakeChecks.laidMetH_plain _ _ _ (by kernel_rfl)]
  exact laidMet_of_run' 8 (by kernel_rfl) (by kernel_rfl)
set_option maxRecDepth 100000 in
theorem lifted (os : Os) (started : os.Started) (H : Type) (enc : TypeId × Value → H) :
    ReturnsInHanded {} Tryd.checked os 8 .any (fun w args => (Rows.isaSignsSpec.pre enc Tryd.prog Tryd.f8 [] false w args ∧ laidMetH Tryd.prog laid3 w) ∧ sizedMet enc Tryd.prog Tryd.f8 (OpenSpec.ofChange Rows.isaSignsSpec) false w args)
      (Rows.isaSignsSpec.post enc Tryd.prog Tryd.f8 false true false false) := by
  refine returnsInHanded_of_change_and (C := Tryd.checked) (X := fun w _ => laidMetH Tryd.prog laid3 w) (fun _ _ _ hh h => h.of_heap hh) own started (by kernel_rfl) Tryd.func8
    (ChangeSpec.witness_shaped (enc := enc) (C := Tryd.checked) (os := os) (X := fun w _ => laidMetH Tryd.prog laid3 w) false (World.doorLaid Tryd.prog 4000 os) #[.int .i64 0, .int .i64 0] 8 rfl (World.shaped_of_RefB (by kernel_rfl) (by kernel_rfl)) (by kernel_rfl) (by kernel_rfl) (by kernel_rfl) (door_met os _)) ?_
  intro W base args ds gs before hval0 hW _ _ hL _
  have hval : ∀ (j : Nat) t v, Tryd.f8.params[j]? = some t → args[j]? = some v → Value.okWide Tryd.prog W .any base t v := hval0
  have hW' := hW
  obtain ⟨p, q, hA0, hV, rfl, hfz, hnd⟩ := hW
  have hA : DataW.TrodAll enc Tryd.prog W 0 (fun _ => true) true Tryd.f8.params.toList args.toList ds p := hA0
  rw [Tryd.params8] at hA hval
  obtain ⟨v0, vs0, d0, ds0, p0, q0, hargs, rfl, rfl, h0, r0⟩ := trodAll_cons hA
  obtain ⟨v1, vs1, d1, ds1, p1, q1, rfl, rfl, rfl, h1, r1⟩ := trodAll_cons r0
  obtain ⟨rfl, rfl, rfl⟩ := trodAll_nil r1
  obtain rfl : args = #[v0, v1] := by cases args; simp_all
  obtain ⟨rfl, rfl⟩ := trodVars_none hV
  obtain ⟨x0, rfl, rfl, rfl, w0⟩ := open_int Tryd.underlying3 (hval 0 3 v0 rfl rfl) h0
  obtain ⟨x1, rfl, rfl, rfl, w1⟩ := open_int Tryd.underlying3 (hval 1 3 v1 rfl rfl) h1
  have hT := tab_of_laid hL
  clear hA0 hval0
  simp only [List.append_nil] at hW'
  refine (walk x0 w0 x1 w1 W hT).mono fun e W' ⟨he, hb⟩ => ?_
  subst he
  exact ⟨_, rfl, _, _, _, [], [], [], hW', trodAll_cons_mk (shut_bool Tryd.underlying4 _) trodAll_mk0, (trodAll_cons_mk (shut_int Tryd.underlying3 w0) (trodAll_cons_mk (shut_int Tryd.underlying3 w1) trodAll_mk0)), rfl, hb.frame _, fun h => by cases h⟩
theorem over : Rows.IsaSignsSaid :=
  OpenClaim.holds_of_wide 8 Tryd.f8 rfl rfl rfl rfl rfl rfl rfl ⟨rfl, rfl, rfl, rfl, rfl⟩ rfl rfl rfl rfl rfl (by kernel_rfl) Tryd.func8 (by kernel_rfl)
    (of_decide_eq_true (by kernel_rfl)) (by unfold Func.isWrapper; first | (rw [if_pos (by decide +kernel)]; kernel_rfl) | (rw [if_neg (by decide +kernel)]; exact ⟨rfl, rfl⟩))
    (fun os started H enc _ => lifted os started H enc)
/-- THE STATEMENT: the tied card. -/
theorem proved : Rows.IsaSignsCardSaid :=
  Claim7.holds_tied_plain_at .later [] [.data, .data, .data] true (true, "3de8ee70ca5109505f593e43bf0f8c2ff81a56a3e969041cf46611536ffbf7dc") false
    over (fun _ h => by cases h) (by kernel_rfl) (fun _ h => by cases h) isaSigns_row_tie rfl ⟨rfl, rfl⟩ (by kernel_rfl) rfl
    (fun f fn hf hfn => by
      obtain rfl : f = 8 := Option.some.inj ((show Tryd.prog.funcNamed "trunnion/trunnionlaw2.IsaSigns" = some 8 by kernel_rfl).symm.trans hf) |>.symm
      obtain rfl : fn = Tryd.f8 := (Option.some.inj (Tryd.func8.symm.trans hfn)).symm
      exact ⟨by kernel_rfl, fun j t ht => by
        rw [Tryd.params8] at ht
        have hm : t ∈ [3, 3] := by simpa using Array.mem_of_getElem? ht
        have hall : ([3, 3].all fun u => !Tryd.prog.wantsStandIn u) = true := by kernel_rfl
        exact (show Tryd.prog.wantsStandIn t = false by simpa using List.all_eq_true.1 hall t hm)⟩)
    (by kernel_rfl)
end Go.Proofs.YtfhfgogiijcmbaaDoor.isaSigns
