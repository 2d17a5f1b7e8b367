
/-
  The document's own memory (trunnionref1), on: Store where it may not, Get, Put.
-/
import Derived.Test.YtfodhmgbifeodaaPhysRef
namespace Go.Proofs.Ytfodhmgbifeodaa
open Go.ChangeShapes Go.WideShapes Go.ChangeAt Go.RowKit
theorem rstore_no {w : World} {h g : Nat} {bs : List Int} (hm : Mem 63 w h g bs) (h4 : bs.length % 4 = 0) (a s v : Int) (hk : ¬ okc bs.length a s) :
    Calls Try.prog 19 #[.pointer (some ⟨h, 0, none⟩), i64 a, i64 s, i64 v] w (RStoreP h g bs a s v w) := by
  have hl := hm.le
  have hc := rcell hm
  have hout : RStoreP h g bs a s v w (.returned (.bool false)) w := ⟨by simp [hk], by unfold stv; rw [if_neg hk]; exact hm, Only.refl _ _⟩
  rw [okc_ref bs.length h4 a s] at hk
  obtain ⟨r, hr⟩ : ∃ r, r = RStoreP h g bs a s v w := ⟨_, rfl⟩
  rw [← hr] at hout ⊢; clear hr
  have HK := Lib.hid hk; clear hk
  go_enter Try.func19, Try.ntmps19
  go_wp2
  all_goals first
    | exact hout
    | (have h1 : s = 1 := by assumption
       subst h1
       exact (HK.out ⟨by omega, by omega, by omega, by omega⟩).elim)
    | (have h1 : s = 2 := by assumption
       subst h1
       have h : ((0 ≤ a ∧ a < ↑bs.length) ∧ (a % 2 != 0) = false) := by assumption
       have h2 := h.2
       rw [bne_eq_false_iff_eq] at h2
       exact (HK.out ⟨by omega, by omega, by omega, h2⟩).elim)
    | (have h1 : s = 4 := by assumption
       subst h1
       have h : ((0 ≤ a ∧ a < ↑bs.length) ∧ (a % 4 != 0) = false) := by assumption
       have h2 := h.2
       rw [bne_eq_false_iff_eq] at h2
       exact (HK.out ⟨by omega, by omega, by omega, h2⟩).elim)
theorem rstore_says {w : World} {h g : Nat} {bs : List Int} (hm : Mem 63 w h g bs) (h4 : bs.length % 4 = 0) (a s v : Int) :
    Calls Try.prog 19 #[.pointer (some ⟨h, 0, none⟩), i64 a, i64 s, i64 v] w (RStoreP h g bs a s v w) := by
  by_cases hk : okc bs.length a s
  · obtain ⟨o, rfl⟩ := Int.eq_ofNat_of_zero_le hk.2.2.1
    rcases hk.1 with rfl | rfl | rfl
    · exact rstore1 hm h4 o v hk
    · exact rstore2 hm h4 o v hk
    · exact rstore4 hm h4 o v hk
  · exact rstore_no hm h4 a s v hk
end Go.Proofs.Ytfodhmgbifeodaa
