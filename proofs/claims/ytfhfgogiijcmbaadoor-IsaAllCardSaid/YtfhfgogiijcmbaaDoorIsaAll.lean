/-
  There are just the forty-four operations, each with a name of its own (law IsaAll returns true).
  No condition on the arguments: whatever they are. The card ties the three listed tables of Go's library to the program's text.
-/
import Derived.Test.YtfhfgogiijcmbaaDoorIsaFrame
import Derived.Test.YtfhfgogiijcmbaaDoorCards
import Derived.Test.YtfhfgogiijcmbaaDoorTie
import Derived.SevenTiedAt
import Derived.Test.YtfhfgogiijcmbaaDoorIsaOp
namespace Go.Proofs.YtfhfgogiijcmbaaDoor.isaAll
open Go Go.ChangeShapes Go.WideShapes Go.ChangeAt Go.RowKit
set_option linter.unusedVariables false
/-- Has the number a name? -/
def named (op : Int) : Bool := !(opN op).toList.isEmpty
/-- How many numbers from 0 on, below t, have one. -/
def below (t : Int) : Int := (((List.range t.toNat).countP fun j : Nat => named j : Nat) : Int)
/-- How many of the k numbers from x on have one. -/
def cnt (x : Int) : Nat → Int
  | 0 => 0
  | k + 1 => cnt x k + if named (x + k) = true then 1 else 0
theorem named_neg (t : Int) (h : t < 0) : named t = false := by unfold named; rw [opN_neg t h, ByteArray.toList_eq]; rfl
theorem named_great (t : Int) (h : 70 < t) : named t = false := by unfold named; rw [opN_great t h, ByteArray.toList_eq]; rfl
theorem below_next (t : Int) : below (t + 1) = below t + if named t = true then 1 else 0 := by
  by_cases h : t < 0
  · unfold below
    rw [named_neg t h, show (t + 1).toNat = 0 by omega, show t.toNat = 0 by omega]
    rfl
  · obtain ⟨n, rfl⟩ := Int.eq_ofNat_of_zero_le (by omega : 0 ≤ t)
    unfold below
    rw [show ((n : Int) + 1).toNat = n + 1 by omega, show ((n : Int)).toNat = n by omega, List.range_succ, List.countP_append]
    by_cases hn : named (n : Int) = true
    · rw [if_pos hn, List.countP_cons, List.countP_nil, hn]; rfl
    · rw [if_neg hn, List.countP_cons, List.countP_nil]; simp [hn]
theorem cnt_eq (x : Int) (k : Nat) : cnt x k = below (x + k) - below x := by
  induction k with
  | zero => show (0 : Int) = below (x + 0) - below x; rw [Int.add_zero]; omega
  | succ k ih => 
    show cnt x k + _ = _
    have := below_next (x + k)
    rw [show x + ((k + 1 : Nat) : Int) = x + k + 1 by omega, this, ih]
    omega
theorem below_71 (d : Nat) : below (71 + d) = 44 := by
  induction d with
  | zero => 
    have h : below 71 = 44 := by
      unfold below named
      simp only [ByteArray.toList_eq]
      kernel_rfl
    exact h
  | succ d ih => rw [show (71 : Int) + ((d + 1 : Nat) : Int) = 71 + d + 1 by omega, below_next, named_great _ (by omega), ih]; rfl
theorem cnt_all (x : Int) (h0 : -185 ≤ x) (h1 : x ≤ 1) : cnt x 256 = 44 := by
  rw [cnt_eq]
  obtain ⟨d, hd⟩ := Int.eq_ofNat_of_zero_le (by omega : 0 ≤ x + (256 : Nat) - 71)
  have h2 : below (x + (256 : Nat)) = 44 := by
    have := below_71 d
    rw [show (71 : Int) + d = x + (256 : Nat) by omega] at this
    exact this
  have h3 : below x = 0 := by
    unfold below
    have : x.toNat = 0 ∨ x.toNat = 1 := by omega
    rcases this with e | e
    · rw [e]; rfl
    · rw [e]; show (((List.countP _ [0] : Nat)) : Int) = 0
      rw [List.countP_cons, List.countP_nil]
      have : named ((0 : Nat) : Int) = false := by unfold named; rw [ByteArray.toList_eq]; decide
      rw [this]; rfl
  omega
theorem cnt_bd (x : Int) (k : Nat) : 0 ≤ cnt x k ∧ cnt x k ≤ k := by
  induction k with
  | zero => exact ⟨Int.le_refl _, Int.le_refl _⟩
  | succ k ih =>
    show 0 ≤ cnt x k + _ ∧ cnt x k + _ ≤ _
    split <;> omega
/-- What the call does. -/
def Fine (W : World) (e : Ending) (W' : World) : Prop := e = .returned (.bool true) ∧ Below W.heap.size W W'
set_option maxHeartbeats 8000000 in
theorem walk (x0 : Int) (w0 : (Lit.int .i64 x0).wf = true) (W : World) (hT : Tab W) :
    Calls Tryd.prog 6 #[.int .i64 x0] W (Fine W) := by
  by_cases hr : x0 < -1000 ∨ 1000 < x0
  · by_cases h1 : x0 < -1000
    all_goals
      first | (have h2 : 1000 < x0 := by omega) | skip
      clear hr
      go_enter Tryd.func6, Tryd.ntmps6
      go_wp2_with (first | (go_at_call 11; refine (alive_says _ hT).mono ?_; rintro e w1 ⟨rfl, hb1⟩))
      go_ret
      exact ⟨ret_bool rfl, hb1⟩
  · have h1 : -1000 ≤ x0 := by omega
    have h2 : x0 ≤ 1000 := by omega
    clear hr
    go_enter Tryd.func6, Tryd.ntmps6
    go_wp2_with (first | (go_at_call 11; refine (alive_says _ hT).mono ?_; rintro e w1 ⟨rfl, hb1⟩))
    go_loopw [4, 5] (fun n v wr => ∃ (k : Nat) (o c : Int), k ≤ 256 ∧ Hid (o = x0 + k ∧ c = cnt x0 k) ∧ x0 ≤ o ∧ o ≤ x0 + 256 ∧ 0 ≤ c ∧ c ≤ 256 ∧ v = .int .i64 o ∧ n = .int .i64 c ∧ Below W.heap.size W wr) (fun _ v _ => (x0 + 256 - intOf v).toNat)
    case atStart => exact ⟨0, x0, 0, by omega, Lib.hid ⟨by omega, rfl⟩, by omega, by omega, by omega, by omega, rfl, rfl, hb1⟩
    case round =>
      obtain ⟨k, o, c, hk, hoc, ho1, ho2, hc1, hc2, rfl, rfl, hb⟩ := hrel
      by_cases hlt : o < x0 + 256
      · have hkl : k < 256 := by have := hoc.out.1; omega
        by_cases hn : (opN o).toList.isEmpty = true
        · have hc' : Hid (cnt x0 (k + 1) = c) := Lib.hid (by
            show cnt x0 k + _ = _
            rw [← hoc.out.1, if_neg (by unfold named; rw [hn]; decide), ← hoc.out.2]; omega)
          go_wp2_with (first | (go_at_call 19; refine (name_says _ _).mono ?_; rintro e w2 ⟨rfl, hb2⟩))
          go_roundw
          case rel => exact ⟨k + 1, o + 1, c, by omega, Lib.hid ⟨by have := hoc.out.1; omega, hc'.out.symm⟩, by omega, by omega, by omega, by omega, rfl, rfl, hb.trans (hb2.mono hb.size)⟩
          case measure => simp [intOf]; omega
        · have hn' : (opN o).toList.isEmpty = false := by simpa using hn
          have hc' : Hid (cnt x0 (k + 1) = c + 1) := Lib.hid (by
            show cnt x0 k + _ = _
            rw [← hoc.out.1, if_pos (by unfold named; rw [hn']; decide), ← hoc.out.2])
          have hcb : c + 1 ≤ 256 := by have := hc'.out; have := cnt_bd x0 (k + 1); omega
          have ho : (opOf (opN o) != o) = false := by rw [op_name _ hn']; simp
          clear hn
          go_wp2_with (first | (go_at_call 19; refine (name_says _ _).mono ?_; rintro e w2 ⟨rfl, hb2⟩) | (go_at_call 20; refine (op_says _ _).mono ?_; rintro e w3 ⟨rfl, hb3⟩))
          go_roundw
          case rel => exact ⟨k + 1, o + 1, c + 1, by omega, Lib.hid ⟨by have := hoc.out.1; omega, hc'.out.symm⟩, by omega, by omega, by omega, by omega, rfl, rfl, (hb.trans (hb2.mono hb.size)).trans (hb3.mono (Nat.le_trans hb.size hb2.size))⟩
          case measure => simp [intOf]; omega
      · have hz : k = 256 := by have := hoc.out.1; omega
        have hc44 : -185 ≤ x0 → x0 ≤ 1 → c = 44 := fun a b => by rw [hoc.out.2, hz]; exact cnt_all x0 a b
        clear hoc hz
        by_cases h3 : 1 < x0
        · clear hc44
          go_wp2
          go_ret
          exact ⟨ret_bool rfl, hb⟩
        · by_cases h4 : x0 < -185
          · clear hc44
            go_wp2
            go_ret
            exact ⟨ret_bool rfl, hb⟩
          · obtain rfl : c = 44 := hc44 (by omega) (by omega)
            clear hc44
            go_wp2
            go_ret
            exact ⟨ret_bool rfl, hb⟩
set_option maxRecDepth 100000 in
theorem door_met (os : Os) (args : Array Value) : laidMetH Tryd.prog laid3 ((World.doorLaid Tryd.prog 4000 os).forCall (fun _ _ => 0) ⟨#[], args, []⟩).memory := by
  rw [MakeChecks.laidMetH_plain _ _ _ (by kernel_rfl)]
  exact laidMet_of_run' 8 (by kernel_rfl) (by kernel_rfl)
set_option maxRecDepth 100000 in
theorem lifted (os : Os) (started : os.Started) (H : Type) (enc : TypeId × Value → H) :
    ReturnsInHanded {} Tryd.checked os 6 .any (fun w args => (Rows.isaAllSpec.pre enc Tryd.prog Tryd.f6 [] false w args ∧ laidMetH Tryd.prog laid3 w) ∧ sizedMet enc Tryd.prog Tryd.f6 (OpenSpec.ofChange Rows.isaAllSpec) false w args)
      (Rows.isaAllSpec.post enc Tryd.prog Tryd.f6 false true false false) := by
  refine returnsInHanded_of_change_and (C := Tryd.checked) (X := fun w _ => laidMetH Tryd.prog laid3 w) (fun _ _ _ hh h => h.of_heap hh) own started (by kernel_rfl) Tryd.func6
    (ChangeSpec.witness_shaped (enc := enc) (C := Tryd.checked) (os := os) (X := fun w _ => laidMetH Tryd.prog laid3 w) false (World.doorLaid Tryd.prog 4000 os) #[.int .i64 0] 8 rfl (World.shaped_of_RefB (by kernel_rfl) (by kernel_rfl)) (by kernel_rfl) (by kernel_rfl) (by kernel_rfl) (door_met os _)) ?_
  intro W base args ds gs before hval0 hW _ _ hL _
  have hval : ∀ (j : Nat) t v, Tryd.f6.params[j]? = some t → args[j]? = some v → Value.okWide Tryd.prog W .any base t v := hval0
  have hW' := hW
  obtain ⟨p, q, hA0, hV, rfl, hfz, hnd⟩ := hW
  have hA : DataW.TrodAll enc Tryd.prog W 0 (fun _ => true) true Tryd.f6.params.toList args.toList ds p := hA0
  rw [Tryd.params6] at hA hval
  obtain ⟨v0, vs0, d0, ds0, p0, q0, hargs, rfl, rfl, h0, r0⟩ := trodAll_cons hA
  obtain ⟨rfl, rfl, rfl⟩ := trodAll_nil r0
  obtain rfl : args = #[v0] := by cases args; simp_all
  obtain ⟨rfl, rfl⟩ := trodVars_none hV
  obtain ⟨x0, rfl, rfl, rfl, w0⟩ := open_int Tryd.underlying3 (hval 0 3 v0 rfl rfl) h0
  have hT := tab_of_laid hL
  clear hA0 hval0
  simp only [List.append_nil] at hW'
  refine (walk x0 w0 W hT).mono fun e W' ⟨he, hb⟩ => ?_
  subst he
  exact ⟨_, rfl, _, _, _, [], [], [], hW', trodAll_cons_mk (shut_bool Tryd.underlying4 _) trodAll_mk0, (trodAll_cons_mk (shut_int Tryd.underlying3 w0) trodAll_mk0), rfl, hb.frame _, fun h => by cases h⟩
theorem over : Rows.IsaAllSaid :=
  OpenClaim.holds_of_wide 6 Tryd.f6 rfl rfl rfl rfl rfl rfl rfl ⟨rfl, rfl, rfl, rfl, rfl⟩ rfl rfl rfl rfl rfl (by kernel_rfl) Tryd.func6 (by kernel_rfl)
    (of_decide_eq_true (by kernel_rfl)) (by unfold Func.isWrapper; first | (rw [if_pos (by decide +kernel)]; kernel_rfl) | (rw [if_neg (by decide +kernel)]; exact ⟨rfl, rfl⟩))
    (fun os started H enc _ => lifted os started H enc)
/-- THE STATEMENT: the tied card. -/
theorem proved : Rows.IsaAllCardSaid :=
  Claim7.holds_tied_plain_at .later [] [.data, .data, .data] true (true, "3de8ee70ca5109505f593e43bf0f8c2ff81a56a3e969041cf46611536ffbf7dc") false
    over (fun _ h => by cases h) (by kernel_rfl) (fun _ h => by cases h) isaAll_row_tie rfl ⟨rfl, rfl⟩ (by kernel_rfl) rfl
    (fun f fn hf hfn => by
      obtain rfl : f = 6 := Option.some.inj ((show Tryd.prog.funcNamed "trunnion/trunnionlaw2.IsaAll" = some 6 by kernel_rfl).symm.trans hf) |>.symm
      obtain rfl : fn = Tryd.f6 := (Option.some.inj (Tryd.func6.symm.trans hfn)).symm
      exact ⟨by kernel_rfl, fun j t ht => by
        rw [Tryd.params6] at ht
        have hm : t ∈ [3] := by simpa using Array.mem_of_getElem? ht
        have hall : ([3].all fun u => !Tryd.prog.wantsStandIn u) = true := by kernel_rfl
        exact (show Tryd.prog.wantsStandIn t = false by simpa using List.all_eq_true.1 hall t hm)⟩)
    (by kernel_rfl)
end Go.Proofs.YtfhfgogiijcmbaaDoor.isaAll
