
/-
  The document's own Map, and the document's example of chapter 5.
-/
import Derived.Test.YtfodhmgbifeodaaWalkW
import Derived.Test.YtfodhmgbifeodaaPhysRef2
namespace Go.Proofs.Ytfodhmgbifeodaa
open Go.ChangeShapes Go.WideShapes Go.ChangeAt Go.RowKit
theorem rload_yes {w : World} {h g : Nat} {bs : List Int} (hm : Mem 63 w h g bs) (h4 : bs.length % 4 = 0) (a p : Int) (hr : rd bs a = some p) :
    Calls Try.prog 22 #[.pointer (some ⟨h, 0, none⟩), i64 a, i64 4] w fun e w' => e = .returned (.tuple #[i64 p, .bool true]) ∧ w = w' := by
  unfold rd at hr
  split at hr
  · rename_i hk
    refine (rload_says hm h4 a 4).mono ?_
    rintro e w' ⟨rfl, rfl⟩
    rw [Option.some.inj hr, decide_eq_true hk]; exact ⟨rfl, rfl⟩
  · cases hr
theorem rload_none {w : World} {h g : Nat} {bs : List Int} (hm : Mem 63 w h g bs) (h4 : bs.length % 4 = 0) (a : Int) (hr : rd bs a = none) :
    Calls Try.prog 22 #[.pointer (some ⟨h, 0, none⟩), i64 a, i64 4] w fun e w' => e = .returned (.tuple #[i64 0, .bool false]) ∧ w = w' := by
  unfold rd at hr
  split at hr
  · cases hr
  · rename_i hk
    refine (rload_says hm h4 a 4).mono ?_
    rintro e w' ⟨rfl, rfl⟩
    have e0 : ldv bs a 4 = 0 := by unfold ldv; rw [if_neg hk]
    rw [e0, decide_eq_false hk]; exact ⟨rfl, rfl⟩
theorem rmap_says {w : World} {h g : Nat} {bs : List Int} (hm : Mem 63 w h g bs) (h4 : bs.length % 4 = 0) (ptbr vpn : Int) :
    Calls Try.prog 13 #[.pointer (some ⟨h, 0, none⟩), i64 ptbr, i64 vpn] w (Mapped w (mapV bs ptbr vpn)) := by
  obtain ⟨r, hr⟩ : ∃ r, r = Mapped w (mapV bs ptbr vpn) := ⟨_, rfl⟩
  rw [← hr]
  have hout : ∀ o, o = mapV bs ptbr vpn → r (.returned (.tuple #[i64 (o.getD 0), .bool o.isSome])) w := by
    intro o h1; rw [hr, h1]; exact ⟨rfl, Below.refl _ _⟩
  clear hr
  have et := and_top ptbr
  by_cases ht : ptbr / 2147483648 % 2 = 0
  · have hv : none = mapV bs ptbr vpn := by unfold mapV; rw [if_pos ht]
    rw [ht] at et
    have HV := Lib.hid hv; clear hv ht
    go_enter Try.func13, Try.ntmps13
    go_wp2
    exact hout none HV.out
  · rw [show ptbr / 2147483648 % 2 = 1 by omega] at et
    obtain ⟨T, hT⟩ : ∃ T, T = ptbr % 1048576 := ⟨_, rfl⟩
    obtain ⟨M, hM⟩ : ∃ M, M = vpn % 1048576 := ⟨_, rfl⟩
    have e20 := and20 ptbr
    have v20 := and20 vpn
    have m10 := and10b M
    rw [← hT] at e20
    rw [← hM] at v20
    have bT : 0 ≤ T ∧ T ≤ 1048575 := by omega
    have bM : 0 ≤ M ∧ M ≤ 1048575 := by omega
    have ea : at1 ptbr (vpn % 1048576 * 4096) = T * 4096 + 4 * (M / 1024) := by unfold at1; omega
    have eb : ∀ p, at2 p (vpn % 1048576 * 4096) = p / 4096 * 4096 + 4 * (M % 1024) := fun p => by unfold at2; omega
    have hv : mapV bs ptbr vpn = match rd bs (T * 4096 + 4 * (M / 1024)) with
        | none => none
        | some p => if bad1 p then none else match rd bs (p / 4096 * 4096 + 4 * (M % 1024)) with
          | none => none
          | some e => if e % 2 = 0 then none else some e := by
      unfold mapV; rw [if_neg ht, ea]
      cases rd bs (T * 4096 + 4 * (M / 1024)) with
      | none => rfl
      | some p =>
        dsimp only; rw [eb p]
        by_cases hb : bad1 p
        · rw [if_pos hb, if_pos hb]
        · rw [if_neg hb, if_neg hb]; cases rd bs (p / 4096 * 4096 + 4 * (M % 1024)) <;> rfl
    clear ea eb
    have HT := Lib.hid hT; have HM := Lib.hid hM; clear hT hM ht
    cases h1 : rd bs (T * 4096 + 4 * (M / 1024)) with
    | none =>
      rw [h1] at hv
      have HV := Lib.hid hv; have H1 := Lib.hid h1; clear hv h1
      go_enter Try.func13, Try.ntmps13
      go_wp2_with (go_at_call 22; refine (rload_none hm h4 _ H1.out).mono ?_; rintro e t' ⟨rfl, rfl⟩)
      exact hout none HV.out.symm
    | some p =>
      rw [h1] at hv
      dsimp only at hv
      have bp := rd_bd hm.byt h1
      have ep := and1 p
      have eq := and30 p
      have H1 := Lib.hid h1; clear h1
      by_cases hb : bad1 p
      · rw [if_pos hb] at hv
        have HV := Lib.hid hv; clear hv
        unfold bad1 at hb
        by_cases h2 : p % 2 = 0
        · rw [h2] at ep
          clear hb eq h2
          go_enter Try.func13, Try.ntmps13
          go_wp2_with (go_at_call 22; refine (rload_yes hm h4 _ _ H1.out).mono ?_; rintro e t' ⟨rfl, rfl⟩)
          exact hout none HV.out.symm
        · rw [show p % 2 = 1 by omega] at ep
          have eq' : (bits .and .i64 p 30 != 0) = true := by
            have : ¬ bits .and .i64 p 30 = 0 := by rw [eq]; omega
            simpa using this
          clear hb eq h2
          go_enter Try.func13, Try.ntmps13
          go_wp2_with (go_at_call 22; refine (rload_yes hm h4 _ _ H1.out).mono ?_; rintro e t' ⟨rfl, rfl⟩)
          exact hout none HV.out.symm
      · rw [if_neg hb] at hv
        unfold bad1 at hb
        rw [show p % 2 = 1 by omega] at ep
        rw [show p / 2 % 16 = 0 by omega] at eq
        clear hb
        cases h2 : rd bs (p / 4096 * 4096 + 4 * (M % 1024)) with
        | none =>
          rw [h2] at hv
          have HV := Lib.hid hv; have H2 := Lib.hid h2; clear hv h2
          go_enter Try.func13, Try.ntmps13
          go_upto_region 7 with (go_at_call 22; refine (rload_yes hm h4 _ _ H1.out).mono ?_; rintro e t' ⟨rfl, rfl⟩)
          go_wp2_with (go_at_call 22; refine (rload_none hm h4 _ H2.out).mono ?_; rintro e t' ⟨rfl, rfl⟩)
          exact hout none HV.out.symm
        | some x =>
          rw [h2] at hv
          dsimp only at hv
          have ex := and1 x
          have H2 := Lib.hid h2; clear h2
          by_cases h3 : x % 2 = 0
          · rw [if_pos h3] at hv
            rw [h3] at ex
            have HV := Lib.hid hv; clear hv h3
            go_enter Try.func13, Try.ntmps13
            go_upto_region 7 with (go_at_call 22; refine (rload_yes hm h4 _ _ H1.out).mono ?_; rintro e t' ⟨rfl, rfl⟩)
            go_wp2_with (go_at_call 22; refine (rload_yes hm h4 _ _ H2.out).mono ?_; rintro e t' ⟨rfl, rfl⟩)
            exact hout none HV.out.symm
          · rw [if_neg h3] at hv
            rw [show x % 2 = 1 by omega] at ex
            have HV := Lib.hid hv; clear hv h3
            go_enter Try.func13, Try.ntmps13
            go_upto_region 7 with (go_at_call 22; refine (rload_yes hm h4 _ _ H1.out).mono ?_; rintro e t' ⟨rfl, rfl⟩)
            go_wp2_with (go_at_call 22; refine (rload_yes hm h4 _ _ H2.out).mono ?_; rintro e t' ⟨rfl, rfl⟩)
            exact hout (some x) HV.out.symm
theorem alive5_says (w : World) : Calls Try.prog 10 #[] w fun e w' => e = .returned (.bool true) ∧ Below w.heap.size w w' := by
  go_enter Try.func10, Try.ntmps10
  go_wp2_with (first
    | (go_at_call 17; refine (new_says _ _).mono ?_; rintro e w1 ⟨h, g, ⟨rfl, hm, hh, hg, hb⟩⟩)
    | (go_at_call 15; refine (walk_says hm _ _ _ _).mono ?_; rintro e w2 ⟨rfl, hb2⟩; rw [show walkV (List.replicate (pg 1 * 4096) 0) 5 4294967373 1 true = (77, 0) by unfold walkV; rw [if_pos (by decide)]; rfl]))
  go_ret
  exact ⟨rfl, hb.trans (hb2.mono hb.size)⟩
end Go.Proofs.Ytfodhmgbifeodaa
