
/-
  Plain: kept translations as a list, the eldest first (no program in sight), and what the laws of chapter 6 ask of it.
-/
import Derived.Test.YtkcjhhppfolajaaMath
namespace Go.Proofs.Ytkcjhhppfolajaa
open Go.RowKit
/-- A key (tag, vpn), and its entry. -/
abbrev Key := Int × Int
abbrev Ent := Key × Int
def tlook (l : List Ent) (k : Key) : Option Int := (l.find? (fun x => x.1 == k)).map (·.2)
def tput (n : Nat) (l : List Ent) (k : Key) (e : Int) : List Ent :=
  if (tlook l k).isSome then l.map (fun x => if x.1 == k then (k, e) else x)
  else if l.length < n then l ++ [(k, e)] else l.drop 1 ++ [(k, e)]
def tflush (l : List Ent) (tag : Int) : List Ent := l.filter (fun x => x.1.1 != tag)
def tevict (l : List Ent) (k : Int) : List Ent := if 0 ≤ k ∧ k < l.length then l.eraseIdx k.toNat else l
/-- No key twice. -/
def Uniq (l : List Ent) : Prop := (l.map (·.1)).Nodup
theorem look_isSome (l : List Ent) (k : Key) : (tlook l k).isSome = true ↔ k ∈ l.map (·.1) := by
  unfold tlook
  rw [Option.isSome_map, List.find?_isSome, List.mem_map]
  constructor
  · rintro ⟨x, hx, hk⟩; exact ⟨x, hx, eq_of_beq hk⟩
  · rintro ⟨x, hx, rfl⟩; exact ⟨x, hx, beq_self_eq_true _⟩
theorem look_none (l : List Ent) (k : Key) : tlook l k = none ↔ k ∉ l.map (·.1) := by
  rw [← look_isSome]; cases tlook l k <;> simp
theorem look_mem {l : List Ent} (hu : Uniq l) {k : Key} {e : Int} (h : (k, e) ∈ l) : tlook l k = some e := by
  induction l with
  | nil => cases h
  | cons x r ih =>
    unfold Uniq at hu
    rw [List.map_cons, List.nodup_cons] at hu
    unfold tlook; rw [List.find?_cons]
    rcases List.mem_cons.1 h with rfl | h'
    · rw [beq_self_eq_true]; rfl
    · have hne : (x.1 == k) = false := by
        rw [beq_eq_false_iff_ne]; intro hxk
        exact hu.1 (by rw [hxk]; exact List.mem_map.2 ⟨_, h', rfl⟩)
      rw [hne]; exact ih hu.2 h'
theorem mem_of_look {l : List Ent} {k : Key} {e : Int} (h : tlook l k = some e) : (k, e) ∈ l := by
  unfold tlook at h
  obtain ⟨x, hx, rfl⟩ := Option.map_eq_some_iff.1 h
  have h1 := List.find?_some hx
  have h2 := List.mem_of_find?_eq_some hx
  rw [← eq_of_beq h1]; exact h2
theorem look_iff {l : List Ent} (hu : Uniq l) (k : Key) (e : Int) : tlook l k = some e ↔ (k, e) ∈ l := ⟨mem_of_look, look_mem hu⟩
theorem map_put_keys (l : List Ent) (k : Key) (e : Int) : (l.map (fun x => if x.1 == k then (k, e) else x)).map (·.1) = l.map (·.1) := by
  rw [List.map_map]
  refine List.map_congr_left fun x _ => ?_
  show (if x.1 == k then (k, e) else x).1 = x.1
  by_cases h : x.1 == k
  · rw [if_pos h]; exact (eq_of_beq h).symm
  · rw [if_neg h]
/-- Put keeps keys apart. -/
theorem uniq_put {l : List Ent} (hu : Uniq l) (n : Nat) (k : Key) (e : Int) : Uniq (tput n l k e) := by
  unfold tput
  by_cases hs : (tlook l k).isSome = true
  · rw [if_pos hs]; unfold Uniq; rw [map_put_keys]; exact hu
  · rw [if_neg hs]
    rw [look_isSome] at hs
    have hd : ∀ m : List Ent, Uniq m → k ∉ m.map (·.1) → Uniq (m ++ [(k, e)]) := by
      intro m hm hk
      unfold Uniq at hm ⊢
      rw [List.map_append, List.nodup_append]
      refine ⟨hm, by simp, ?_⟩
      intro a ha b hb
      simp at hb
      rw [hb]; intro hab; exact hk (by rw [← hab]; exact ha)
    split
    · exact hd l hu hs
    · refine hd _ ?_ ?_
      · unfold Uniq at hu ⊢; rw [List.map_drop]; exact hu.sublist (List.drop_sublist _ _)
      · rw [List.map_drop]; exact fun h => hs (List.mem_of_mem_drop h)
theorem uniq_flush {l : List Ent} (hu : Uniq l) (t : Int) : Uniq (tflush l t) := by
  unfold Uniq tflush at *; exact hu.sublist ((List.filter_sublist).map _)
theorem uniq_evict {l : List Ent} (hu : Uniq l) (k : Int) : Uniq (tevict l k) := by
  unfold tevict; split
  · unfold Uniq at *; exact hu.sublist ((List.eraseIdx_sublist _ _).map _)
  · exact hu
theorem put_length (n : Nat) (hn : 1 ≤ n) (l : List Ent) (hl : l.length ≤ n) (k : Key) (e : Int) : (tput n l k e).length ≤ n := by
  unfold tput; split
  · simpa using hl
  · split <;> simp <;> omega
theorem flush_length (l : List Ent) (t : Int) : (tflush l t).length ≤ l.length := List.length_filter_le _ _
theorem evict_length (l : List Ent) (k : Int) : (tevict l k).length ≤ l.length := by
  unfold tevict; split
  · exact (List.eraseIdx_sublist _ _).length_le
  · exact Nat.le_refl _
/-! ### What Look tells behind each -/
theorem look_put_same (n : Nat) (l : List Ent) (hu : Uniq l) (k : Key) (e : Int) : tlook (tput n l k e) k = some e := by
  refine look_mem (uniq_put hu n k e) ?_
  unfold tput
  by_cases hs : (tlook l k).isSome = true
  · rw [if_pos hs, List.mem_map]
    rw [look_isSome, List.mem_map] at hs
    obtain ⟨x, hx, rfl⟩ := hs
    exact ⟨x, hx, by rw [if_pos (beq_self_eq_true _)]⟩
  · rw [if_neg hs]; split <;> simp
/-- A key that is not the eldest's, or there is room. -/
theorem look_flush (l : List Ent) (hu : Uniq l) (t : Int) (k : Key) : tlook (tflush l t) k = if k.1 = t then none else tlook l k := by
  split
  · rename_i h
    rw [look_none]; intro hk
    obtain ⟨x, hx, rfl⟩ := List.mem_map.1 hk
    have := (List.mem_filter.1 hx).2
    simp [h] at this
  · rename_i h
    cases hc : tlook l k with
    | none =>
      rw [look_none] at hc ⊢
      exact fun hk => hc (by obtain ⟨x, hx, rfl⟩ := List.mem_map.1 hk; exact List.mem_map.2 ⟨x, (List.mem_filter.1 hx).1, rfl⟩)
    | some e => exact look_mem (uniq_flush hu t) (List.mem_filter.2 ⟨mem_of_look hc, by simpa using h⟩)
/-! ### A row of puts whose keys are all different -/
def rowL (kf : Nat → Key) (ef : Nat → Int) (c : Nat) : List Ent := (List.range c).map (fun j => (kf j, ef j))
theorem rowL_succ (kf : Nat → Key) (ef : Nat → Int) (c : Nat) : rowL kf ef (c + 1) = rowL kf ef c ++ [(kf c, ef c)] := by
  unfold rowL; rw [List.range_succ, List.map_append]; rfl
theorem rowL_length (kf : Nat → Key) (ef : Nat → Int) (c : Nat) : (rowL kf ef c).length = c := by unfold rowL; simp
theorem rowL_drop_mem (kf : Nat → Key) (ef : Nat → Int) (c d : Nat) (x : Ent) : x ∈ (rowL kf ef c).drop d ↔ ∃ j, d ≤ j ∧ j < c ∧ x = (kf j, ef j) := by
  unfold rowL
  rw [← List.map_drop, List.mem_map]
  constructor
  · rintro ⟨j, hj, rfl⟩
    obtain ⟨i, hi, rfl⟩ := List.mem_iff_getElem.1 hj
    rw [List.getElem_drop, List.getElem_range]
    rw [List.length_drop, List.length_range] at hi
    exact ⟨d + i, by omega, by omega, rfl⟩
  · rintro ⟨j, h1, h2, rfl⟩
    refine ⟨j, List.mem_iff_getElem.2 ⟨j - d, by rw [List.length_drop, List.length_range]; omega, ?_⟩, rfl⟩
    rw [List.getElem_drop, List.getElem_range]; omega
theorem rowL_uniq (kf : Nat → Key) (hk : ∀ i j, kf i = kf j → i = j) (ef : Nat → Int) (c : Nat) : Uniq (rowL kf ef c) := by
  unfold Uniq rowL
  rw [List.map_map]
  show ((List.range c).map kf).Nodup
  unfold List.Nodup
  rw [List.pairwise_map]
  exact (List.nodup_range (n := c)).imp (fun hne h => hne (hk _ _ h))
theorem uniq_drop {l : List Ent} (hu : Uniq l) (d : Nat) : Uniq (l.drop d) := by
  unfold Uniq at *; rw [List.map_drop]; exact hu.sublist (List.drop_sublist _ _)
theorem rowL_look (kf : Nat → Key) (hk : ∀ i j, kf i = kf j → i = j) (ef : Nat → Int) (c d i : Nat) : tlook ((rowL kf ef c).drop d) (kf i) = if d ≤ i ∧ i < c then some (ef i) else none := by
  split
  · rename_i h
    exact look_mem (uniq_drop (rowL_uniq kf hk ef c) d) ((rowL_drop_mem kf ef c d _).2 ⟨i, h.1, h.2, rfl⟩)
  · rename_i h
    rw [look_none]; intro hm
    obtain ⟨x, hx, he⟩ := List.mem_map.1 hm
    obtain ⟨j, h1, h2, rfl⟩ := (rowL_drop_mem kf ef c d _).1 hx
    obtain rfl := hk _ _ he
    exact h ⟨h1, h2⟩
/-- One put more: the last n stay. -/
theorem rowL_put (kf : Nat → Key) (hk : ∀ i j, kf i = kf j → i = j) (ef : Nat → Int) (n c : Nat) (hn : 1 ≤ n) : tput n ((rowL kf ef c).drop (c - n)) (kf c) (ef c) = (rowL kf ef (c + 1)).drop (c + 1 - n) := by
  have hl := rowL_look kf hk ef c (c - n) c
  rw [if_neg (by omega)] at hl
  unfold tput
  rw [hl, if_neg (by simp), List.length_drop, rowL_length, rowL_succ]
  by_cases h : c < n
  · rw [if_pos (by omega), show c - n = 0 by omega, show c + 1 - n = 0 by omega]; rfl
  · rw [if_neg (by omega), List.drop_drop, List.drop_append_of_le_length (by rw [rowL_length]; omega)]
    congr 2; omega
/-- A put of what stands there changes nothing. -/
theorem put_again {l : List Ent} (hu : Uniq l) (n : Nat) (k : Key) (e : Int) (h : tlook l k = some e) : tput n l k e = l := by
  unfold tput
  rw [h, if_pos (by rfl : (some e).isSome = true)]
  refine (List.map_congr_left (g := id) fun x hx => ?_).trans (List.map_id l)
  by_cases hx' : x.1 == k
  · rw [if_pos hx']
    have hxk := eq_of_beq hx'
    have := look_mem hu (k := x.1) (e := x.2) hx
    rw [hxk, h] at this
    injection this with this
    show (k, e) = x
    rw [this, ← hxk]
  · rw [if_neg hx']; rfl
/-! ### TlbAge -/
def kA (j : Nat) : Key := (1, j)
def eA (j : Nat) : Int := 10 * j
theorem kA_inj : ∀ i j, kA i = kA j → i = j := fun i j h => by have := (Prod.mk.inj h).2; omega
def ageL (n i : Nat) : List Ent := (rowL kA eA i).drop (i - n)
theorem age_put (n i : Nat) (hn : 1 ≤ n) : tput n (ageL n i) (1, i) (10 * i) = ageL n (i + 1) := rowL_put kA kA_inj eA n i hn
theorem age_look (n m i : Nat) : tlook (ageL n m) (1, i) = if m - n ≤ i ∧ i < m then some (10 * (i : Int)) else none := rowL_look kA kA_inj eA m (m - n) i
theorem age_uniq (n m : Nat) : Uniq (ageL n m) := uniq_drop (rowL_uniq kA kA_inj eA m) _
theorem age_again (n i : Nat) (hn : 2 ≤ n) (hi : 1 ≤ i) : tput n (ageL n (i + 1)) (1, (i : Int) - 1) (10 * i - 10) = ageL n (i + 1) := by
  have h := age_look n (i + 1) (i - 1)
  rw [if_pos (by omega), show ((i - 1 : Nat) : Int) = (i : Int) - 1 by omega] at h
  refine put_again (age_uniq n (i + 1)) n _ _ ?_
  rw [h]; congr 1; omega
/-- .. and of one place. -/
def oneL (i : Nat) : List Ent := if i = 0 then [] else if i = 1 then [((1, 0), 0)] else [((1, (i : Int) - 2), 10 * (i : Int) - 20)]
theorem one_first : tput 1 (oneL 0) (1, ((0 : Nat) : Int)) (10 * ((0 : Nat) : Int)) = oneL 1 := rfl
theorem put_one (a b c d : Int) (h : ¬ a = c) : tput 1 [((1, a), b)] (1, c) d = [((1, c), d)] := by
  have hl : tlook [((1, a), b)] ((1, c) : Key) = none := by
    rw [look_none]; simp; omega
  unfold tput; rw [hl]; rfl
theorem one_put (i : Nat) (hi : 1 ≤ i) : tput 1 (tput 1 (oneL i) (1, i) (10 * i)) (1, (i : Int) - 1) (10 * i - 10) = oneL (i + 1) := by
  have h1 : tput 1 (oneL i) (1, (i : Int)) (10 * i) = [((1, (i : Int)), 10 * (i : Int))] := by
    unfold oneL
    rw [if_neg (by omega)]
    split
    · exact put_one _ _ _ _ (by omega)
    · exact put_one _ _ _ _ (by omega)
  rw [h1, put_one _ _ _ _ (by omega)]
  unfold oneL
  rw [if_neg (by omega)]
  split
  · rename_i h; have : i = 0 := by omega
    omega
  · have e1 : (i : Int) - 1 = ((i + 1 : Nat) : Int) - 2 := by omega
    have e2 : 10 * (i : Int) - 10 = 10 * ((i + 1 : Nat) : Int) - 20 := by omega
    rw [e1, e2]
theorem one_look (m i : Nat) (hi : i < m) : tlook (oneL m) (1, i) = if (i : Int) = (m : Int) - 2 ∧ 1 < m ∨ m = 1 then some (10 * (i : Int)) else none := by
  have hu : ∀ x : Ent, Uniq [x] := fun x => by unfold Uniq; simp
  unfold oneL
  rw [if_neg (by omega)]
  by_cases h1 : m = 1
  · subst h1
    obtain rfl : i = 0 := by omega
    rfl
  · rw [if_neg h1]
    by_cases h2 : (i : Int) = (m : Int) - 2
    · rw [if_pos (.inl ⟨h2, by omega⟩)]
      refine look_mem (hu _) (List.mem_singleton.2 ?_)
      have e2 : 10 * (i : Int) = 10 * (m : Int) - 20 := by omega
      rw [h2, ← e2, h2]
    · rw [if_neg (by omega), look_none]
      simp; omega
/-! ### TlbTags -/
def kT (v : Nat) (q : Nat) : Key := ((q / v : Nat), (q % v : Nat))
def eT (v : Nat) (q : Nat) : Int := 100 * (q / v : Nat) + (q % v : Nat)
theorem kT_inj (v : Nat) : ∀ i j, kT v i = kT v j → i = j := fun i j h => by
  have h1 : i / v = j / v := by have := (Prod.mk.inj h).1; omega
  have h2 : i % v = j % v := by have := (Prod.mk.inj h).2; omega
  rw [← Nat.div_add_mod i v, ← Nat.div_add_mod j v, h1, h2]
theorem kT_at (v i k : Nat) (hk : k < v) : kT v (i * v + k) = ((i : Int), (k : Int)) ∧ eT v (i * v + k) = 100 * (i : Int) + k := by
  have h1 : (i * v + k) / v = i := by
    rw [Nat.mul_comm, Nat.mul_add_div (by omega), Nat.div_eq_of_lt hk]; rfl
  have h2 : (i * v + k) % v = k := by
    rw [Nat.mul_comm, Nat.mul_add_mod]; exact Nat.mod_eq_of_lt hk
  unfold kT eT; rw [h1, h2]; exact ⟨rfl, rfl⟩
def tagL (v c : Nat) : List Ent := rowL (kT v) (eT v) c
theorem tag_put (n v i k : Nat) (hk : k < v) (hc : i * v + k < n) : tput n (tagL v (i * v + k)) ((i : Int), (k : Int)) (100 * i + k) = tagL v (i * v + k + 1) := by
  have h := rowL_put (kT v) (kT_inj v) (eT v) n (i * v + k) (by omega)
  rw [show i * v + k - n = 0 by omega, show i * v + k + 1 - n = 0 by omega] at h
  obtain ⟨e1, e2⟩ := kT_at v i k hk
  rw [e1, e2] at h
  exact h
theorem tag_length (v c : Nat) : (tagL v c).length = c := rowL_length _ _ _
theorem tag_look (v c i k : Nat) (fl : Int) (hk : k < v) (hc : i * v + k < c) : tlook (tflush (tagL v c) fl) ((i : Int), (k : Int)) = if (i : Int) = fl then none else some (100 * (i : Int) + k) := by
  obtain ⟨e1, e2⟩ := kT_at v i k hk
  unfold tagL
  rw [look_flush _ (rowL_uniq (kT v) (kT_inj v) (eT v) c)]
  split
  · rfl
  · have h := rowL_look (kT v) (kT_inj v) (eT v) c 0 (i * v + k)
    rw [if_pos ⟨Nat.zero_le _, hc⟩, e1, e2] at h
    exact h
/-! ### TlbEvicts -/
def kE (j : Nat) : Key := (0, j)
def eE (j : Nat) : Int := j
theorem kE_inj : ∀ i j, kE i = kE j → i = j := fun i j h => by have := (Prod.mk.inj h).2; omega
def evL (c : Nat) : List Ent := rowL kE eE c
theorem ev_put (n c : Nat) (hc : c < n) : tput n (evL c) (0, c) c = evL (c + 1) := by
  have h := rowL_put kE kE_inj eE n c (by omega)
  rw [show c - n = 0 by omega, show c + 1 - n = 0 by omega] at h
  exact h
theorem ev_length (n : Nat) (k : Int) : ((tevict (evL n) k).length : Int) = if 0 ≤ k ∧ k < n then (n : Int) - 1 else n := by
  unfold tevict
  have hl : (evL n).length = n := rowL_length _ _ _
  rw [hl]
  split
  · rw [List.length_eraseIdx, hl, if_pos (by omega)]; omega
  · rw [hl]
theorem ev_look (n i : Nat) (k : Int) (hi : i < n) : (tlook (tevict (evL n) k) (0, i)).isSome = !decide ((i : Int) = k) := by
  have hl : (evL n).length = n := rowL_length _ _ _
  have hu : Uniq (evL n) := rowL_uniq kE kE_inj eE n
  have hg : ∀ j, j < n → (evL n)[j]? = some (kE j, eE j) := fun j hj => by unfold evL rowL; simp [hj]
  by_cases hk : (i : Int) = k
  · subst hk
    rw [decide_eq_true rfl]
    have : tlook (tevict (evL n) i) (0, i) = none := by
      rw [look_none]; intro hm
      obtain ⟨x, hx, he⟩ := List.mem_map.1 hm
      unfold tevict at hx
      rw [hl, if_pos (by omega)] at hx
      obtain ⟨j, hj, hne, hxe⟩ := List.mem_eraseIdx_iff_getElem.1 hx
      rw [hl] at hj
      have h2 := hg j hj
      rw [List.getElem?_eq_getElem (by rw [hl]; exact hj)] at h2
      have h3 := Option.some.inj h2
      rw [hxe] at h3
      rw [h3] at he
      have := kE_inj j i he
      omega
    rw [this]; rfl
  · rw [decide_eq_false hk]
    have : (0, (i : Int)) ∈ (tevict (evL n) k).map (·.1) := by
      refine List.mem_map.2 ⟨(kE i, eE i), ?_, rfl⟩
      unfold tevict
      split
      · refine List.mem_eraseIdx_iff_getElem?.2 ⟨i, by omega, hg i hi⟩
      · exact List.mem_of_getElem? (hg i hi)
    rw [← look_isSome] at this
    exact this
/-! ### TlbPlays: what the law's own row does -/
theorem put_set {l : List Ent} (hu : Uniq l) (n k : Nat) (hk : k < l.length) (key : Key) (e : Int) (h : l[k].1 = key) : tput n l key e = l.set k (key, e) := by
  have hs : (tlook l key).isSome = true := (look_isSome l key).2 (List.mem_map.2 ⟨l[k], List.getElem_mem hk, h⟩)
  unfold tput; rw [if_pos hs]
  apply List.ext_getElem
  · simp
  · intro j h1 h2
    rw [List.length_map] at h1
    rw [List.getElem_map, List.getElem_set]
    by_cases hjk : k = j
    · subst hjk; rw [if_pos rfl, if_pos (by rw [h]; exact beq_self_eq_true _)]
    · rw [if_neg hjk, if_neg]
      intro hb
      have hj := eq_of_beq hb
      have hn := hu
      unfold Uniq List.Nodup at hn
      rw [List.pairwise_map, List.pairwise_iff_getElem] at hn
      rcases Nat.lt_or_gt_of_ne hjk with hlt | hlt
      · exact hn k j hk h1 hlt (by rw [hj, h])
      · exact hn j k h1 hk hlt (by rw [hj, h])
theorem first_look {l : List Ent} (hu : Uniq l) (k : Nat) (key : Key) (hk : k ≤ l.length) (hne : ∀ j (hj : j < l.length), j < k → ¬ l[j].1 = key) (hend : ∀ h : k < l.length, l[k].1 = key) :
    tlook l key = if h : k < l.length then some l[k].2 else none := by
  split
  · rename_i h
    refine look_mem hu ?_
    have he := hend h
    have : l[k] = (key, l[k].2) := by rw [← he]
    rw [← this]; exact List.getElem_mem h
  · rename_i h
    rw [look_none]; intro hm
    obtain ⟨x, hx, rfl⟩ := List.mem_map.1 hm
    obtain ⟨j, hj, rfl⟩ := List.mem_iff_getElem.1 hx
    exact hne j hj (by omega) rfl
theorem flush_snoc (l : List Ent) (t : Int) (j : Nat) (hj : j < l.length) : tflush (l.take (j + 1)) t = if l[j].1.1 = t then tflush (l.take j) t else tflush (l.take j) t ++ [l[j]] := by
  unfold tflush
  rw [List.take_succ_eq_append_getElem hj, List.filter_append]
  by_cases h : l[j].1.1 = t
  · rw [if_pos h]; simp [h]
  · rw [if_neg h]; simp [h]
theorem evict_parts (l : List Ent) (k : Nat) (hk : k < l.length) : tevict l k = l.take k ++ l.drop (k + 1) := by
  unfold tevict; rw [if_pos (by omega), Int.toNat_natCast, List.eraseIdx_eq_take_drop_succ]
theorem evict_none (l : List Ent) (k : Int) (hk : ¬ (0 ≤ k ∧ k < l.length)) : tevict l k = l := by unfold tevict; rw [if_neg hk]
end Go.Proofs.Ytkcjhhppfolajaa
