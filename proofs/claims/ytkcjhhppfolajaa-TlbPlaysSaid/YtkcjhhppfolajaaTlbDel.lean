
/-
  slices.Delete of one key, and Evict.
-/
import Derived.Test.YtkcjhhppfolajaaTlbSt
namespace Go.Proofs.Ytkcjhhppfolajaa
open Go.ChangeShapes Go.WideShapes Go.ChangeAt Go.RowKit
theorem zeroCells_key (n : Nat) : (Builtin.zeroCells #[i64 0, i64 0] n).toList = kc (List.replicate n (0, 0)) := by
  apply List.ext_getElem?
  intro j
  by_cases hj : j < n * 2
  · have hi : j / 2 < (List.replicate n ((0, 0) : Key)).length := by simp; omega
    obtain ⟨b1, b2⟩ := kc_get _ _ hi
    rw [List.getElem_replicate] at b1 b2
    have h0 : (Builtin.zeroCells #[i64 0, i64 0] n).toList[j]? = some (i64 0) := by
      unfold Builtin.zeroCells
      simp
      refine ⟨j, by rw [List.getElem?_range hj], ?_⟩
      rcases Nat.mod_two_eq_zero_or_one j with he | he <;> rw [he] <;> rfl
    rcases Nat.mod_two_eq_zero_or_one j with he | he
    · have : j = j / 2 * 2 := by omega
      rw [h0, this, b1]
    · have : j = j / 2 * 2 + 1 := by omega
      rw [h0, this, b2]
  · rw [List.getElem?_eq_none, List.getElem?_eq_none (by rw [kc_length]; simp; omega)]
    unfold Builtin.zeroCells; simp; omega
/-- 'clear(s)' of n keys. -/
theorem run_clear_keys {w : World} {g cap : Nat} {ks : List Key} (hK : Keys w g cap ks) (ty : TypeId) (o n c : Nat) (h0 : 0 < n) (hn : o + n ≤ cap) :
    (Builtin.clear_ #[38] ty #[.slice (some ⟨g, o * 2, none⟩) n c]).run Try.prog w = .ok (.tuple #[]) (w.setCells g (o * 2) (kc (List.replicate n (0, 0)))) := by
  have hst := run_storeCells_cells (P := Try.prog) g (o * 2) (kc (List.replicate n (0, 0))) 0 w
    (by intro j hj; rw [kc_length, List.length_replicate] at hj; rw [Nat.add_zero]; exact hK.some _ (by omega))
    (by intro j hj; exact hK.frozen _) (kc_one _)
  simp only [Nat.add_zero] at hst
  obtain ⟨m, rfl⟩ : ∃ m, n = m + 1 := ⟨n - 1, by omega⟩
  have hz : (Builtin.zeroCells (Value.agg #[i64 0, i64 0]).cells (m + 1)).toList = kc (List.replicate (m + 1) (0, 0)) := zeroCells_key _
  simp [Builtin.clear_, run_underlying Try.underlying38, hz, hst]
set_option maxRecDepth 100000 in
set_option maxHeartbeats 4000000 in
theorem delete_says {w : World} {g cap : Nat} {ks : List Key} (hK : Keys w g cap ks) (i : Nat) (hi : i < ks.length) :
    Calls Try.prog 16 #[.slice (some ⟨g, 0, none⟩) ks.length cap, i64 i, i64 ((i : Int) + 1)] w fun e w' => e = .returned (.slice (some ⟨g, 0, none⟩) (ks.length - 1) cap) ∧ Keys w' g cap (ks.eraseIdx i) ∧ But (fun b => b = g) w w' := by
  obtain ⟨i0, hi0, hz0, hz1, hz2⟩ := info_parts info_key
  obtain ⟨n, hn⟩ : ∃ n, n = ks.length := ⟨_, rfl⟩
  have hle := hK.le
  have hcm := hK.capl
  have hcm : cap ≤ 9223372036854775807 := hcm
  obtain ⟨news, hnews⟩ : ∃ news, news = kc (ks.drop (i + 1)) := ⟨_, rfl⟩
  have hlen : news.length = (n - (i + 1)) * 2 := by rw [hnews, kc_length, List.length_drop, hn]
  have hcell : ∀ j u, news[j]? = some u → w.cell? ⟨g, (i + 1) * 2 + j, none⟩ = some u := by
    intro j u hu
    have hj : j < news.length := (List.getElem?_eq_some_iff.1 hu).1
    rw [hlen] at hj
    have hd : j / 2 < (ks.drop (i + 1)).length := by rw [List.length_drop]; omega
    obtain ⟨b1, b2⟩ := kc_get _ _ hd
    obtain ⟨c1, c2⟩ := hK.cell (i + 1 + j / 2) (by omega)
    rw [List.getElem_drop] at b1 b2
    rw [hnews] at hu
    rcases Nat.mod_two_eq_zero_or_one j with he | he
    · rw [show j = j / 2 * 2 by omega, b1] at hu
      rw [show (i + 1) * 2 + j = (i + 1 + j / 2) * 2 by omega, c1]; exact hu
    · rw [show j = j / 2 * 2 + 1 by omega, b2] at hu
      rw [show (i + 1) * 2 + j = (i + 1 + j / 2) * 2 + 1 by omega, c2]; exact hu
  obtain ⟨A, hA, hsrc⟩ : ∃ A : Addr, (if cap = i + 1 then some (⟨g, 0, none⟩ : Addr) else some ⟨g, (i + 1) * 2, none⟩) = some A ∧ Hid (∀ t u, news[t]? = some u → w.drew.cell? (A.add t) = some u) := by
    by_cases h : cap = i + 1
    · refine ⟨⟨g, 0, none⟩, by simp [h], fun t u hu => ?_⟩
      have h0 : news.length = 0 := by rw [hlen]; omega
      rw [List.length_eq_zero_iff.1 h0] at hu
      simp at hu
    · refine ⟨⟨g, (i + 1) * 2, none⟩, by simp [h], fun t u hu => ?_⟩
      rw [Addr.add_lit]
      exact hcell t u hu
  have s1 : Hid (news.length = (n - (i + 1)) * 2) := hlen
  have s2 : Hid (∀ u ∈ news, u.oneCell' = true) := by rw [hnews]; exact kc_one _
  have s3 : Hid (∀ t, t < news.length → (w.drew.cell? ⟨g, 0 + i * 2 + t, none⟩).isSome = true ∧ w.drew.frozen? ⟨g, 0 + i * 2 + t, none⟩ = false) := by
    intro t ht
    rw [hlen] at ht
    exact ⟨hK.some _ (by omega), hK.frozen _⟩
  obtain ⟨W1, hW1⟩ : ∃ W1, W1 = w.drew.setCells g (0 + i * 2) news := ⟨_, rfl⟩
  have hKd : Keys w.drew g cap ks := hK.kept rfl
  have hK1 : Keys W1 g cap (ks.eraseIdx i) := by
    rw [hW1, Nat.zero_add, hnews, List.eraseIdx_eq_take_drop_succ]
    exact hKd.over i _ (by omega) (by rw [List.length_drop]; omega)
  have hb1 : But (fun b => b = g) w W1 := by rw [hW1]; exact ((But.refl (fun b => b = g) w).drew).setCells _ _ rfl _
  have hW : Hid (W1 = w.drew.setCells g (0 + i * 2) news) := hW1
  have hel : (ks.eraseIdx i).length = n - 1 := by rw [List.length_eraseIdx, if_pos hi, hn]
  have hcl : ∀ ty, (Builtin.clear_ #[38] ty #[.slice (some ⟨g, (n - 1) * 2, none⟩) 1 (cap - (n - 1))]).run Try.prog W1 = .ok (.tuple #[]) (W1.setCells g ((n - 1) * 2) (kc (List.replicate 1 (0, 0)))) :=
    fun ty => run_clear_keys hK1 ty _ _ _ (by omega) (by omega)
  have hK2 : Keys (W1.setCells g ((n - 1) * 2) (kc (List.replicate 1 (0, 0)))) g cap (ks.eraseIdx i) := by
    have h := (hK1.over (n - 1) (List.replicate 1 (0, 0)) (by omega) (by simp; omega)).take (n - 1)
    have e : (List.take (n - 1) (ks.eraseIdx i) ++ List.replicate 1 (0, 0)).take (n - 1) = ks.eraseIdx i := by
      rw [List.take_append_of_le_length (by rw [List.length_take]; omega), List.take_take, Nat.min_self, List.take_of_length_le (by omega)]
    rw [e] at h
    exact h
  have hb2 : But (fun b => b = g) w (W1.setCells g ((n - 1) * 2) (kc (List.replicate 1 (0, 0)))) := hb1.setCells _ _ rfl _
  obtain ⟨W2, hW2⟩ : ∃ W2, W2 = W1.setCells g ((n - 1) * 2) (kc (List.replicate 1 (0, 0))) := ⟨_, rfl⟩
  rw [← hW2] at hcl hK2 hb2
  rw [← hn] at hle hi ⊢
  obtain ⟨r, hr⟩ : ∃ r : Ending → World → Prop, r = fun e w' => e = .returned (.slice (some ⟨g, 0, none⟩) (n - 1) cap) ∧ Keys w' g cap (ks.eraseIdx i) ∧ But (fun b => b = g) w w' := ⟨_, rfl⟩
  rw [← hr]
  have hout : r (.returned (.slice (some ⟨g, 0, none⟩) (n - 1) cap)) W2 := by rw [hr]; exact ⟨rfl, hK2, hb2⟩
  clear hr hW2 hb2 hK2 hb1 hK1 hKd hW1 hlen hcell hnews hK hel hn
  have e1 : i + (n - (i + 1)) = n - 1 := by omega
  have e2 : n - (n - 1) = 1 := by omega
  have hic : i ≤ cap := by omega
  have hn1 : ¬ cap = n - 1 := by omega
  have hij : ¬ (i : Int) = (i : Int) + 1 := by omega
  have hp0 : (0 : Int) ≤ (i : Int) + 1 := by omega
  have hp1 : (i : Int) + 1 ≤ (n : Int) := by omega
  have hp2 : ((i : Int) + 1).toNat = i + 1 := by omega
  go_enter Try.func16, Try.ntmps16
  go_wp2_with fail
  go_region_law (refine step_append_room rfl (.tmp 22) (.tmp 25) 38 rfl 42 i0 2 Try.underlying38 hi0 hz1 g 0 i cap (by simp [Act.eval, Act.put]) A (n - (i + 1)) (cap - (i + 1)) news (by simp [Act.eval, Act.put]) s1.out hsrc.out s2.out (by omega) s3.out ?_; rw [← hW.out])
  go_wp2
  all_goals exact hout
end Go.Proofs.Ytkcjhhppfolajaa
