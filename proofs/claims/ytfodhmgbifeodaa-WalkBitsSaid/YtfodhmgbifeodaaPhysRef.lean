
/-
  The document's own memory (trunnionref1): the same answers as package phys's.
-/
import Derived.Test.YtfodhmgbifeodaaPhys
namespace Go.Proofs.Ytfodhmgbifeodaa
open Go.ChangeShapes Go.WideShapes Go.ChangeAt Go.RowKit
theorem rcell {w : World} {h g : Nat} {bs : List Int} (hm : Mem 63 w h g bs) : w.cell? ⟨h, 0, none⟩ = some (.slice (some ⟨g, 0, none⟩) bs.length bs.length) := by
  rw [cell_of_row w h 0 _ _ _ hm.hd]; rfl
theorem okc_ref (L : Nat) (hL : L % 4 = 0) (a s : Int) : okc L a s ↔ (s = 1 ∨ s = 2 ∨ s = 4) ∧ 0 ≤ a ∧ a < L ∧ a % s = 0 := by
  unfold okc fitm
  constructor
  · rintro ⟨hs, h1, h2, h3, h4⟩
    exact ⟨hs, h2, by omega, h1⟩
  · rintro ⟨hs, h2, h3, h4⟩
    refine ⟨hs, h4, h2, by omega, ?_⟩
    rcases hs with rfl | rfl | rfl <;> omega
theorem rload1 {w : World} {h g : Nat} {bs : List Int} (hm : Mem 63 w h g bs) (h4 : bs.length % 4 = 0) (o : Nat) (hk : okc bs.length (o : Int) 1) :
    Calls Try.prog 22 #[.pointer (some ⟨h, 0, none⟩), i64 o, i64 1] w (LoadP bs o 1 w) := by
  have hl := hm.le
  have hc := rcell hm
  have hb0 := byt_getD hm.byt
  have hm2 : (o : Int) % 1 = 0 := hk.2.1
  have hL : o + 1 ≤ bs.length := by have := hk.2.2.2.2; omega
  have hnl : ¬ bs.length ≤ o := by omega
  have hn0 : ¬ (o : Int) < 0 := by omega
  obtain ⟨xs, hxs⟩ : ∃ xs, xs = (bs.drop o).take 1 := ⟨_, rfl⟩
  have hxl : xs.length = 1 := by rw [hxs]; simp; omega
  have hxB : Byt xs := by rw [hxs]; exact byt_take (byt_drop hm.byt _) _
  obtain ⟨r, hr⟩ : ∃ r, r = LoadP bs o 1 w := ⟨_, rfl⟩
  have hout : r (.returned (.tuple #[i64 (lev xs), .bool true])) w := by rw [hr, hxs]; unfold LoadP ldv; rw [if_pos hk]; simp [hk]
  rw [← hr]; clear hr
  have HK := Lib.hid hk; have HX := Lib.hid hxs; have HL := Lib.hid hxl; clear hk hxs hxl
  go_enter Try.func22, Try.ntmps22
  go_wp2
  clear hm2
  go_loop [8, 9] (fun v i => (∃ j : Nat, j < 1 ∧ i = .int .i64 j ∧ v = .int .i64 (lev (xs.drop (j + 1)))) ∨ (i = .int .i64 (-1) ∧ v = .int .i64 (lev xs))) (fun _ i => (intOf i + 1).toNat)
  case atStart => exact .inl ⟨0, by omega, rfl, by rw [List.drop_of_length_le (by have := HL.out; omega)]; rfl⟩
  case round =>
    rcases hrel with ⟨j, hj, rfl, rfl⟩ | ⟨rfl, rfl⟩
    · obtain ⟨b, hb⟩ : ∃ b, b = bs.getD (o + j) 0 := ⟨_, rfl⟩
      have hcell : w.cell? ⟨g, o + j, none⟩ = some (.int .u8 b) := by rw [hb]; exact hm.cell _ (by omega)
      have hb1 := hb0 (o + j)
      rw [← hb] at hb1
      have hjl : (o : Int) + j < bs.length := by omega
      have HB := Lib.hid hb; clear hb hb0 hm
      obtain ⟨x, hx⟩ : ∃ x, x = lev (xs.drop (j + 1)) := ⟨_, rfl⟩
      have hxb : 0 ≤ x ∧ x < 16777216 := by
        have h1 := lev_bd _ (byt_drop hxB (j + 1))
        rw [List.length_drop, HL.out] at h1
        have h2 := p256_le (1 - (j + 1)) (by omega)
        omega
      rw [← hx]
      have HXX := Lib.hid hx; clear hx
      go_wp2
      have e : bits .or .i64 (x * 256) b = lev (xs.drop j) := by
        rw [or_low x b hxb.1 hxb.2 hb1.1 hb1.2, le_down xs j (by have := HL.out; omega), ← HXX.out, HB.out, HX.out, getD_drop_take _ _ _ _ hj]; omega
      rw [e]
      go_round
      case rel =>
        rcases j with _ | j
        · exact .inr ⟨rfl, rfl⟩
        · exact .inl ⟨j, by omega, by go_num, rfl⟩
      case measure => simp [intOf]
    · go_wp2
      exact hout
theorem rload2 {w : World} {h g : Nat} {bs : List Int} (hm : Mem 63 w h g bs) (h4 : bs.length % 4 = 0) (o : Nat) (hk : okc bs.length (o : Int) 2) :
    Calls Try.prog 22 #[.pointer (some ⟨h, 0, none⟩), i64 o, i64 2] w (LoadP bs o 2 w) := by
  have hl := hm.le
  have hc := rcell hm
  have hb0 := byt_getD hm.byt
  have hm2 : (o : Int) % 2 = 0 := hk.2.1
  have hL : o + 2 ≤ bs.length := by have := hk.2.2.2.2; omega
  have hnl : ¬ bs.length ≤ o := by omega
  have hn0 : ¬ (o : Int) < 0 := by omega
  obtain ⟨xs, hxs⟩ : ∃ xs, xs = (bs.drop o).take 2 := ⟨_, rfl⟩
  have hxl : xs.length = 2 := by rw [hxs]; simp; omega
  have hxB : Byt xs := by rw [hxs]; exact byt_take (byt_drop hm.byt _) _
  obtain ⟨r, hr⟩ : ∃ r, r = LoadP bs o 2 w := ⟨_, rfl⟩
  have hout : r (.returned (.tuple #[i64 (lev xs), .bool true])) w := by rw [hr, hxs]; unfold LoadP ldv; rw [if_pos hk]; simp [hk]
  rw [← hr]; clear hr
  have HK := Lib.hid hk; have HX := Lib.hid hxs; have HL := Lib.hid hxl; clear hk hxs hxl
  go_enter Try.func22, Try.ntmps22
  go_wp2
  clear hm2
  go_loop [8, 9] (fun v i => (∃ j : Nat, j < 2 ∧ i = .int .i64 j ∧ v = .int .i64 (lev (xs.drop (j + 1)))) ∨ (i = .int .i64 (-1) ∧ v = .int .i64 (lev xs))) (fun _ i => (intOf i + 1).toNat)
  case atStart => exact .inl ⟨1, by omega, rfl, by rw [List.drop_of_length_le (by have := HL.out; omega)]; rfl⟩
  case round =>
    rcases hrel with ⟨j, hj, rfl, rfl⟩ | ⟨rfl, rfl⟩
    · obtain ⟨b, hb⟩ : ∃ b, b = bs.getD (o + j) 0 := ⟨_, rfl⟩
      have hcell : w.cell? ⟨g, o + j, none⟩ = some (.int .u8 b) := by rw [hb]; exact hm.cell _ (by omega)
      have hb1 := hb0 (o + j)
      rw [← hb] at hb1
      have hjl : (o : Int) + j < bs.length := by omega
      have HB := Lib.hid hb; clear hb hb0 hm
      obtain ⟨x, hx⟩ : ∃ x, x = lev (xs.drop (j + 1)) := ⟨_, rfl⟩
      have hxb : 0 ≤ x ∧ x < 16777216 := by
        have h1 := lev_bd _ (byt_drop hxB (j + 1))
        rw [List.length_drop, HL.out] at h1
        have h2 := p256_le (2 - (j + 1)) (by omega)
        omega
      rw [← hx]
      have HXX := Lib.hid hx; clear hx
      go_wp2
      have e : bits .or .i64 (x * 256) b = lev (xs.drop j) := by
        rw [or_low x b hxb.1 hxb.2 hb1.1 hb1.2, le_down xs j (by have := HL.out; omega), ← HXX.out, HB.out, HX.out, getD_drop_take _ _ _ _ hj]; omega
      rw [e]
      go_round
      case rel =>
        rcases j with _ | j
        · exact .inr ⟨rfl, rfl⟩
        · exact .inl ⟨j, by omega, by go_num, rfl⟩
      case measure => simp [intOf]
    · go_wp2
      exact hout
theorem rload4 {w : World} {h g : Nat} {bs : List Int} (hm : Mem 63 w h g bs) (h4 : bs.length % 4 = 0) (o : Nat) (hk : okc bs.length (o : Int) 4) :
    Calls Try.prog 22 #[.pointer (some ⟨h, 0, none⟩), i64 o, i64 4] w (LoadP bs o 4 w) := by
  have hl := hm.le
  have hc := rcell hm
  have hb0 := byt_getD hm.byt
  have hm2 : (o : Int) % 4 = 0 := hk.2.1
  have hL : o + 4 ≤ bs.length := by have := hk.2.2.2.2; omega
  have hnl : ¬ bs.length ≤ o := by omega
  have hn0 : ¬ (o : Int) < 0 := by omega
  obtain ⟨xs, hxs⟩ : ∃ xs, xs = (bs.drop o).take 4 := ⟨_, rfl⟩
  have hxl : xs.length = 4 := by rw [hxs]; simp; omega
  have hxB : Byt xs := by rw [hxs]; exact byt_take (byt_drop hm.byt _) _
  obtain ⟨r, hr⟩ : ∃ r, r = LoadP bs o 4 w := ⟨_, rfl⟩
  have hout : r (.returned (.tuple #[i64 (lev xs), .bool true])) w := by rw [hr, hxs]; unfold LoadP ldv; rw [if_pos hk]; simp [hk]
  rw [← hr]; clear hr
  have HK := Lib.hid hk; have HX := Lib.hid hxs; have HL := Lib.hid hxl; clear hk hxs hxl
  go_enter Try.func22, Try.ntmps22
  go_wp2
  clear hm2
  go_loop [8, 9] (fun v i => (∃ j : Nat, j < 4 ∧ i = .int .i64 j ∧ v = .int .i64 (lev (xs.drop (j + 1)))) ∨ (i = .int .i64 (-1) ∧ v = .int .i64 (lev xs))) (fun _ i => (intOf i + 1).toNat)
  case atStart => exact .inl ⟨3, by omega, rfl, by rw [List.drop_of_length_le (by have := HL.out; omega)]; rfl⟩
  case round =>
    rcases hrel with ⟨j, hj, rfl, rfl⟩ | ⟨rfl, rfl⟩
    · obtain ⟨b, hb⟩ : ∃ b, b = bs.getD (o + j) 0 := ⟨_, rfl⟩
      have hcell : w.cell? ⟨g, o + j, none⟩ = some (.int .u8 b) := by rw [hb]; exact hm.cell _ (by omega)
      have hb1 := hb0 (o + j)
      rw [← hb] at hb1
      have hjl : (o : Int) + j < bs.length := by omega
      have HB := Lib.hid hb; clear hb hb0 hm
      obtain ⟨x, hx⟩ : ∃ x, x = lev (xs.drop (j + 1)) := ⟨_, rfl⟩
      have hxb : 0 ≤ x ∧ x < 16777216 := by
        have h1 := lev_bd _ (byt_drop hxB (j + 1))
        rw [List.length_drop, HL.out] at h1
        have h2 := p256_le (4 - (j + 1)) (by omega)
        omega
      rw [← hx]
      have HXX := Lib.hid hx; clear hx
      go_wp2
      have e : bits .or .i64 (x * 256) b = lev (xs.drop j) := by
        rw [or_low x b hxb.1 hxb.2 hb1.1 hb1.2, le_down xs j (by have := HL.out; omega), ← HXX.out, HB.out, HX.out, getD_drop_take _ _ _ _ hj]; omega
      rw [e]
      go_round
      case rel =>
        rcases j with _ | j
        · exact .inr ⟨rfl, rfl⟩
        · exact .inl ⟨j, by omega, by go_num, rfl⟩
      case measure => simp [intOf]
    · go_wp2
      exact hout
theorem rload_no {w : World} {h g : Nat} {bs : List Int} (hm : Mem 63 w h g bs) (h4 : bs.length % 4 = 0) (a s : Int) (hk : ¬ okc bs.length a s) :
    Calls Try.prog 22 #[.pointer (some ⟨h, 0, none⟩), i64 a, i64 s] w (LoadP bs a s w) := by
  have hl := hm.le
  have hc := rcell hm
  have hout : LoadP bs a s w (.returned (.tuple #[i64 0, .bool false])) w := by unfold LoadP ldv; rw [if_neg hk]; simp [hk]
  rw [okc_ref bs.length h4 a s] at hk
  obtain ⟨r, hr⟩ : ∃ r, r = LoadP bs a s w := ⟨_, rfl⟩
  rw [← hr] at hout ⊢; clear hr
  have HK := Lib.hid hk; clear hk
  go_enter Try.func22, Try.ntmps22
  go_wp2
  all_goals first
    | exact hout
    | (have h1 : s = 1 := by assumption
       subst h1
       exact (HK.out ⟨by omega, by omega, by omega, by omega⟩).elim)
    | (have h1 : s = 2 := by assumption
       subst h1
       have h : ((0 ≤ a ∧ a < ↑bs.length) ∧ (a % 2 != 0) = false) := by assumption
       have h2 := h.2
       rw [bne_eq_false_iff_eq] at h2
       exact (HK.out ⟨by omega, by omega, by omega, h2⟩).elim)
    | (have h1 : s = 4 := by assumption
       subst h1
       have h : ((0 ≤ a ∧ a < ↑bs.length) ∧ (a % 4 != 0) = false) := by assumption
       have h2 := h.2
       rw [bne_eq_false_iff_eq] at h2
       exact (HK.out ⟨by omega, by omega, by omega, h2⟩).elim)
theorem rload_says {w : World} {h g : Nat} {bs : List Int} (hm : Mem 63 w h g bs) (h4 : bs.length % 4 = 0) (a s : Int) :
    Calls Try.prog 22 #[.pointer (some ⟨h, 0, none⟩), i64 a, i64 s] w (LoadP bs a s w) := by
  by_cases hk : okc bs.length a s
  · obtain ⟨o, rfl⟩ := Int.eq_ofNat_of_zero_le hk.2.2.1
    rcases hk.1 with rfl | rfl | rfl
    · exact rload1 hm h4 o hk
    · exact rload2 hm h4 o hk
    · exact rload4 hm h4 o hk
  · exact rload_no hm h4 a s hk
def RStoreP (h g : Nat) (bs : List Int) (a s v : Int) (w : World) (e : Ending) (w' : World) : Prop :=
  e = .returned (.bool (decide (okc bs.length a s))) ∧ Mem 63 w' h g (stv bs a s v) ∧ Only g w w'
theorem b255 (x : Int) : bits .and .i64 x 255 = x % 256 := i64_mask x 8 (by decide)
theorem rstore1 {w : World} {h g : Nat} {bs : List Int} (hm : Mem 63 w h g bs) (h4 : bs.length % 4 = 0) (o : Nat) (v : Int) (hk : okc bs.length (o : Int) 1) :
    Calls Try.prog 19 #[.pointer (some ⟨h, 0, none⟩), i64 o, i64 1, i64 v] w (RStoreP h g bs o 1 v w) := by
  have hl := hm.le
  have hc := rcell hm
  have hm2 : (o : Int) % 1 = 0 := hk.2.1
  have hL : o + 1 ≤ bs.length := by have := hk.2.2.2.2; omega
  have hnl : ¬ bs.length ≤ o := by omega
  have hn0 : ¬ (o : Int) < 0 := by omega
  obtain ⟨r, hr⟩ : ∃ r, r = RStoreP h g bs o 1 v w := ⟨_, rfl⟩
  have hout : ∀ w', Mem 63 w' h g (stN bs o v 1) → Only g w w' → r (.returned (.bool true)) w' := by
    intro w' h1 h2; rw [hr]; exact ⟨by simp [hk], by unfold stv; rw [if_pos hk]; exact h1, h2⟩
  rw [← hr]; clear hr
  have HK := Lib.hid hk; clear hk
  go_enter Try.func19, Try.ntmps19
  go_wp2
  clear hm2 hc
  go_loopw [9] (fun i wr => ∃ k : Nat, k ≤ 1 ∧ i = .int .i64 k ∧ Mem 63 wr h g (stN bs o v k) ∧ Only g w wr) (fun i _ => 1 - (intOf i).toNat)
  case atStart => exact ⟨0, by omega, rfl, hm, Only.refl _ _⟩
  case round =>
    obtain ⟨k, hk, rfl, hmr, hor⟩ := hrel
    obtain ⟨b, hb⟩ : ∃ b, b = (stN bs o v k).getD (o + k) 0 := ⟨_, rfl⟩
    have hcell : (k : Int) < 1 → wr.cell? ⟨g, o + k, none⟩ = some (.int .u8 b) := fun _ => by rw [hb]; exact hmr.cell _ (by rw [stN_length]; omega)
    have hfr := hmr.frozen (o + k)
    have hc := rcell hmr
    rw [stN_length] at hc
    have hjl : (k : Int) < 1 → (o : Int) + k < bs.length := by omega
    have hv := b255
    clear hm hb
    go_wp2
    · have hlt : (k : Int) < 1 := by assumption
      go_roundw
      case rel => exact ⟨k + 1, by omega, by go_num, by rw [p256]; exact hmr.set _ _ (by omega), hor.setCell _ _⟩
      case measure => simp [intOf]; omega
    · have hkn : k = 1 := by omega
      subst hkn
      exact hout _ hmr hor
theorem rstore2 {w : World} {h g : Nat} {bs : List Int} (hm : Mem 63 w h g bs) (h4 : bs.length % 4 = 0) (o : Nat) (v : Int) (hk : okc bs.length (o : Int) 2) :
    Calls Try.prog 19 #[.pointer (some ⟨h, 0, none⟩), i64 o, i64 2, i64 v] w (RStoreP h g bs o 2 v w) := by
  have hl := hm.le
  have hc := rcell hm
  have hm2 : (o : Int) % 2 = 0 := hk.2.1
  have hL : o + 2 ≤ bs.length := by have := hk.2.2.2.2; omega
  have hnl : ¬ bs.length ≤ o := by omega
  have hn0 : ¬ (o : Int) < 0 := by omega
  obtain ⟨r, hr⟩ : ∃ r, r = RStoreP h g bs o 2 v w := ⟨_, rfl⟩
  have hout : ∀ w', Mem 63 w' h g (stN bs o v 2) → Only g w w' → r (.returned (.bool true)) w' := by
    intro w' h1 h2; rw [hr]; exact ⟨by simp [hk], by unfold stv; rw [if_pos hk]; exact h1, h2⟩
  rw [← hr]; clear hr
  have HK := Lib.hid hk; clear hk
  go_enter Try.func19, Try.ntmps19
  go_wp2
  clear hm2 hc
  go_loopw [9] (fun i wr => ∃ k : Nat, k ≤ 2 ∧ i = .int .i64 k ∧ Mem 63 wr h g (stN bs o v k) ∧ Only g w wr) (fun i _ => 2 - (intOf i).toNat)
  case atStart => exact ⟨0, by omega, rfl, hm, Only.refl _ _⟩
  case round =>
    obtain ⟨k, hk, rfl, hmr, hor⟩ := hrel
    obtain ⟨b, hb⟩ : ∃ b, b = (stN bs o v k).getD (o + k) 0 := ⟨_, rfl⟩
    have hcell : (k : Int) < 2 → wr.cell? ⟨g, o + k, none⟩ = some (.int .u8 b) := fun _ => by rw [hb]; exact hmr.cell _ (by rw [stN_length]; omega)
    have hfr := hmr.frozen (o + k)
    have hc := rcell hmr
    rw [stN_length] at hc
    have hjl : (k : Int) < 2 → (o : Int) + k < bs.length := by omega
    have hv := b255
    clear hm hb
    go_wp2
    · have hlt : (k : Int) < 2 := by assumption
      go_roundw
      case rel => exact ⟨k + 1, by omega, by go_num, by rw [p256]; exact hmr.set _ _ (by omega), hor.setCell _ _⟩
      case measure => simp [intOf]; omega
    · have hkn : k = 2 := by omega
      subst hkn
      exact hout _ hmr hor
theorem rstore4 {w : World} {h g : Nat} {bs : List Int} (hm : Mem 63 w h g bs) (h4 : bs.length % 4 = 0) (o : Nat) (v : Int) (hk : okc bs.length (o : Int) 4) :
    Calls Try.prog 19 #[.pointer (some ⟨h, 0, none⟩), i64 o, i64 4, i64 v] w (RStoreP h g bs o 4 v w) := by
  have hl := hm.le
  have hc := rcell hm
  have hm2 : (o : Int) % 4 = 0 := hk.2.1
  have hL : o + 4 ≤ bs.length := by have := hk.2.2.2.2; omega
  have hnl : ¬ bs.length ≤ o := by omega
  have hn0 : ¬ (o : Int) < 0 := by omega
  obtain ⟨r, hr⟩ : ∃ r, r = RStoreP h g bs o 4 v w := ⟨_, rfl⟩
  have hout : ∀ w', Mem 63 w' h g (stN bs o v 4) → Only g w w' → r (.returned (.bool true)) w' := by
    intro w' h1 h2; rw [hr]; exact ⟨by simp [hk], by unfold stv; rw [if_pos hk]; exact h1, h2⟩
  rw [← hr]; clear hr
  have HK := Lib.hid hk; clear hk
  go_enter Try.func19, Try.ntmps19
  go_wp2
  clear hm2 hc
  go_loopw [9] (fun i wr => ∃ k : Nat, k ≤ 4 ∧ i = .int .i64 k ∧ Mem 63 wr h g (stN bs o v k) ∧ Only g w wr) (fun i _ => 4 - (intOf i).toNat)
  case atStart => exact ⟨0, by omega, rfl, hm, Only.refl _ _⟩
  case round =>
    obtain ⟨k, hk, rfl, hmr, hor⟩ := hrel
    obtain ⟨b, hb⟩ : ∃ b, b = (stN bs o v k).getD (o + k) 0 := ⟨_, rfl⟩
    have hcell : (k : Int) < 4 → wr.cell? ⟨g, o + k, none⟩ = some (.int .u8 b) := fun _ => by rw [hb]; exact hmr.cell _ (by rw [stN_length]; omega)
    have hfr := hmr.frozen (o + k)
    have hc := rcell hmr
    rw [stN_length] at hc
    have hjl : (k : Int) < 4 → (o : Int) + k < bs.length := by omega
    have hv := b255
    clear hm hb
    go_wp2
    · have hlt : (k : Int) < 4 := by assumption
      go_roundw
      case rel => exact ⟨k + 1, by omega, by go_num, by rw [p256]; exact hmr.set _ _ (by omega), hor.setCell _ _⟩
      case measure => simp [intOf]; omega
    · have hkn : k = 4 := by omega
      subst hkn
      exact hout _ hmr hor
end Go.Proofs.Ytfodhmgbifeodaa
