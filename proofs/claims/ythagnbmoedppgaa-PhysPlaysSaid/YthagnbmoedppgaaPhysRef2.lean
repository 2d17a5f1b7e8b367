
/-
  The document's own memory (trunnionref1), on: Store where it may not, Get, Put.
-/
import Derived.Test.YthagnbmoedppgaaPhysRef
namespace Go.Proofs.Ythagnbmoedppgaa
open Go.ChangeShapes Go.WideShapes Go.ChangeAt Go.RowKit
theorem rstore_no {w : World} {h g : Nat} {bs : List Int} (hm : Mem 31 w h g bs) (h4 : bs.length % 4 = 0) (a s v : Int) (hk : ¬ okc bs.length a s) :
    Calls Try.prog 15 #[.pointer (some ⟨h, 0, none⟩), i64 a, i64 s, i64 v] w (RStoreP h g bs a s v w) := by
  have hl := hm.le
  have hc := rcell hm
  have hout : RStoreP h g bs a s v w (.returned (.bool false)) w := ⟨by simp [hk], by unfold stv; rw [if_neg hk]; exact hm, Only.refl _ _⟩
  rw [okc_ref bs.length h4 a s] at hk
  obtain ⟨r, hr⟩ : ∃ r, r = RStoreP h g bs a s v w := ⟨_, rfl⟩
  rw [← hr] at hout ⊢; clear hr
  have HK := Lib.hid hk; clear hk
  go_enter Try.func15, Try.ntmps15
  go_wp2
  all_goals first
    | exact hout
    | (have h1 : s = 1 := by assumption
       subst h1
       exact (HK.out ⟨by omega, by omega, by omega, by omega⟩).elim)
    | (have h1 : s = 2 := by assumption
       subst h1
       have h : ((0 ≤ a ∧ a < ↑bs.length) ∧ (a % 2 != 0) = false) := by assumption
       have h2 := h.2
       rw [bne_eq_false_iff_eq] at h2
       exact (HK.out ⟨by omega, by omega, by omega, h2⟩).elim)
    | (have h1 : s = 4 := by assumption
       subst h1
       have h : ((0 ≤ a ∧ a < ↑bs.length) ∧ (a % 4 != 0) = false) := by assumption
       have h2 := h.2
       rw [bne_eq_false_iff_eq] at h2
       exact (HK.out ⟨by omega, by omega, by omega, h2⟩).elim)
theorem rstore_says {w : World} {h g : Nat} {bs : List Int} (hm : Mem 31 w h g bs) (h4 : bs.length % 4 = 0) (a s v : Int) :
    Calls Try.prog 15 #[.pointer (some ⟨h, 0, none⟩), i64 a, i64 s, i64 v] w (RStoreP h g bs a s v w) := by
  by_cases hk : okc bs.length a s
  · obtain ⟨o, rfl⟩ := Int.eq_ofNat_of_zero_le hk.2.2.1
    rcases hk.1 with rfl | rfl | rfl
    · exact rstore1 hm h4 o v hk
    · exact rstore2 hm h4 o v hk
    · exact rstore4 hm h4 o v hk
  · exact rstore_no hm h4 a s v hk
theorem rget_says {w : World} {h g : Nat} {bs : List Int} (hm : Mem 31 w h g bs) (a n : Int) (ha : -9223372036854775808 ≤ a ∧ a ≤ 9223372036854775807) (hn : -9223372036854775808 ≤ n ∧ n ≤ 9223372036854775807) :
    Calls Try.prog 17 #[.pointer (some ⟨h, 0, none⟩), i64 a, i64 n] w (GetP (getL bs a n) w) := by
  obtain ⟨i, hi, hz0, hz1, hz2⟩ := info_parts info_u8
  have hl := hm.le
  have hc := rcell hm
  by_cases hk : fits bs.length a n
  · obtain ⟨h0, h1, h2⟩ := hk
    obtain ⟨o, rfl⟩ := Int.eq_ofNat_of_zero_le h0
    obtain ⟨k, rfl⟩ := Int.eq_ofNat_of_zero_le h1
    have hL : o + k ≤ bs.length := by omega
    obtain ⟨e1, e2⟩ := getL_in bs o k hL
    obtain ⟨xs, hxs⟩ : ∃ xs, xs = getL bs o k := ⟨_, rfl⟩
    have hcs := hm.cells o k
    rw [← e2, ← hxs] at hcs
    rw [← hxs] at e1 ⊢
    have hkk : k ≤ 1048576 := by omega
    obtain ⟨r, hr⟩ : ∃ r, r = GetP xs w := ⟨_, rfl⟩
    have hout : ∀ v w', w'.ownsRow w.heap.size 5 1 v k (u8L xs) → w.grownBy w' none → r (.returned v) w' := by
      intro v w' h1 h2; rw [hr]; exact ⟨v, rfl, by rw [e1]; exact h1, h2⟩
    have hnil : k = 0 → r (.returned (.slice none 0 0)) w := by
      intro h; subst h; obtain rfl := List.eq_nil_of_length_eq_zero e1; rw [hr]; exact getP_none w
    rw [← hr]
    clear hr
    have HE := Lib.hid e1; have HX := Lib.hid hxs; clear e1 hxs e2
    by_cases hz : k = 0
    · have hn0 := hnil hz
      subst hz
      clear hnil hcs hkk hn HX
      go_enter Try.func17, Try.ntmps17
      go_wp2
      all_goals exact hn0
    · clear hnil
      go_enter Try.func17, Try.ntmps17
      go_wp2_with (at_builtin; refine wpList_append_own _ rfl _ _ 29 rfl w.heap.size 5 i (.int .u8 0) 1 1 Try.underlying29 hi hz0 hz1 hz2 rfl (by decide) _ 0 [] rfl (World.ownsRow_nil _ _ _ _) _ (o + k - o) _ (u8L xs) rfl (by have := HE.out; simp [this]) hcs (u8_one _) (by unfold maxLen; omega) (by omega) (Nat.le_refl _) ?_; intro v w1 hown hgrow hn'; rw [Nat.add_sub_cancel_left, Nat.zero_add] at hown)
      exact hout _ _ (by simpa using hown) hgrow
  · have e : getL bs a n = [] := by unfold getL; rw [if_neg hk]
    rw [e]
    obtain ⟨r, hr⟩ : ∃ r, r = GetP [] w := ⟨_, rfl⟩
    have hout := getP_none w
    rw [← hr] at hout ⊢; clear hr
    have HK := Lib.hid hk; clear hk
    go_enter Try.func17, Try.ntmps17
    go_wp2_with (at_builtin; exfalso; apply HK.out; unfold fits; omega)
    all_goals first | exact hout | (exfalso; apply HK.out; unfold fits; omega)
theorem rput_says {w : World} {h g : Nat} {bs : List Int} (hm : Mem 31 w h g bs) (a : Int) (ha : -9223372036854775808 ≤ a ∧ a ≤ 9223372036854775807) (sp : Option Addr) (n c : Nat) (hn : n ≤ 9223372036854775807) (xs : List Int) (hx : xs.length = n) (hs : Src8 w sp xs) :
    Calls Try.prog 19 #[.pointer (some ⟨h, 0, none⟩), i64 a, .slice sp n c] w (PutP 31 h g bs a xs w) := by
  have hl := hm.le
  have hce := hm.ce
  have hc := rcell hm
  by_cases hk : fits bs.length a n
  · obtain ⟨h0, h1, h2⟩ := hk
    obtain ⟨o, rfl⟩ := Int.eq_ofNat_of_zero_le h0
    have hL : o + n ≤ bs.length := by omega
    obtain ⟨r, hr⟩ : ∃ r, r = PutP 31 h g bs o xs w := ⟨_, rfl⟩
    have hf : fits bs.length (o : Int) xs.length := by rw [hx]; exact ⟨h0, h1, h2⟩
    have hout : ∀ w', Mem 31 w' h g (splice bs o xs) → Only g w w' → r (.returned (.bool true)) w' := by
      intro w' h1 h2; rw [hr]; exact ⟨by simp [hf], by unfold putL; rw [if_pos hf]; exact h1, h2⟩
    rw [← hr]; clear hr
    by_cases hz : n = 0
    · have hn0 : r (.returned (.bool true)) w := hout w (by rw [hz] at hx; obtain rfl := List.eq_nil_of_length_eq_zero hx; unfold Go.splice; simpa using hm) (Only.refl _ _)
      subst hz
      clear hout
      go_enter Try.func19, Try.ntmps19
      go_wp2_with (refine wpList_copy_nothing rfl _ _ 29 29 rfl 5 Try.underlying29 size_u8 _ _ _ _ _ _ rfl rfl (Nat.zero_min _) ?_)
      all_goals exact hn0
    · obtain ⟨ad, rfl, hcs⟩ := hs.at_ (by omega)
      have hxs := hx
      have HX := Lib.hid hx; clear hx
      go_enter Try.func19, Try.ntmps19
      go_wp2_with (refine wpList_copy_own rfl _ _ 29 29 rfl 5 Try.underlying29 size_u8 g o _ _ ad n c rfl rfl _ _ hce (u8L xs) (by rw [List.length_map, hxs]; exact (Nat.min_eq_left (by omega)).symm) hcs (by rw [List.length_map, hxs]; simpa using hL) (u8_one _) ?_)
      all_goals exact hout _ (by have h := hm.put hs.byt o (by rw [HX.out]; omega); rw [List.length_map, HX.out] at h; exact h) (setRow_only _ _ _)
  · have hf : ¬ fits bs.length a xs.length := by rw [hx]; exact hk
    have hout : PutP 31 h g bs a xs w (.returned (.bool false)) w := ⟨by simp [hf], by unfold putL; rw [if_neg hf]; exact hm, Only.refl _ _⟩
    obtain ⟨r, hr⟩ : ∃ r, r = PutP 31 h g bs a xs w := ⟨_, rfl⟩
    rw [← hr] at hout ⊢; clear hr
    have HK := Lib.hid hk; clear hk
    go_enter Try.func19, Try.ntmps19
    go_wp2
    all_goals first | exact hout | (exfalso; apply HK.out; unfold fits; omega)
end Go.Proofs.Ythagnbmoedppgaa
