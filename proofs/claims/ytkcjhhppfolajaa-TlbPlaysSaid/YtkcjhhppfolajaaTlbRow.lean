
/-
  The row of keys that a Tlb keeps beside its map; the state of a Tlb; what a call on it turns.
-/
import Derived.Test.YtkcjhhppfolajaaTlb
import Derived.Deep.AppendLies
import Derived.Deep.RegionLaw
import Derived.Deep.RegionHeld3
import Derived.Laws.IdiomCopy
namespace Go.Proofs.Ytkcjhhppfolajaa
open Go.ChangeShapes Go.WideShapes Go.ChangeAt Go.RowKit
theorem info_key : (Try.prog.info? 42).map (fun i => (i.zero, i.size, i.bytes)) = some (some (.agg #[.int .i64 0, .int .i64 0]), 2, 16) := by kernel_rfl
/-- The cells of keys. -/
def kc : List Key → List Value
  | [] => []
  | k :: r => i64 k.1 :: i64 k.2 :: kc r
theorem kc_length : ∀ ks, (kc ks).length = ks.length * 2
  | [] => rfl
  | k :: r => by simp only [kc, List.length_cons, kc_length r]; omega
theorem kc_get : ∀ (ks : List Key) (i : Nat) (h : i < ks.length), (kc ks)[i * 2]? = some (i64 ks[i].1) ∧ (kc ks)[i * 2 + 1]? = some (i64 ks[i].2)
  | [], i, h => absurd h (Nat.not_lt_zero _)
  | k :: r, 0, _ => ⟨rfl, rfl⟩
  | k :: r, i + 1, h => by
    have := kc_get r i (by simpa using h)
    rw [show (i + 1) * 2 = i * 2 + 1 + 1 by omega]
    simpa [kc] using this
theorem kc_append : ∀ (a b : List Key), kc (a ++ b) = kc a ++ kc b
  | [], _ => rfl
  | k :: r, b => by simp only [kc, List.cons_append, kc_append r b]
theorem kc_one (ks : List Key) : ∀ u ∈ kc ks, u.oneCell' = true := by
  induction ks with
  | nil => intro u hu; cases hu
  | cons k r ih =>
    intro u hu
    rcases List.mem_cons.1 hu with rfl | hu
    · rfl
    rcases List.mem_cons.1 hu with rfl | hu
    · rfl
    · exact ih u hu
/-- Block g is a row of cap keys, the first of which are ks. -/
structure Keys (w : World) (g cap : Nat) (ks : List Key) : Prop where
  ex : ∃ cur, w.heap[g]? = some (.cells cur 42 (0, 0)) ∧ cur.size = cap * 2 ∧ ∀ i (h : i < ks.length), cur[i * 2]? = some (i64 ks[i].1) ∧ cur[i * 2 + 1]? = some (i64 ks[i].2)
  le : ks.length ≤ cap
  capl : cap ≤ maxLen
section
variable {w w' : World} {g cap B : Nat} {ks : List Key} {k : Key}
theorem Keys.owns (h : Keys w g cap ks) (hB : B ≤ g) : w.ownsRow B 42 2 (.slice (some ⟨g, 0, none⟩) ks.length cap) ks.length (kc ks) := by
  obtain ⟨⟨cur, h1, h2, h3⟩, h4, h5⟩ := h
  refine ⟨kc_length _, .inr ⟨g, cap, cur, rfl, hB, h1, h4, h5, h2, ?_⟩⟩
  apply List.ext_getElem?
  intro j
  by_cases hj : j < ks.length * 2
  · rw [List.getElem?_take_of_lt hj, Array.getElem?_toList]
    have hi : j / 2 < ks.length := by omega
    obtain ⟨a1, a2⟩ := h3 _ hi
    obtain ⟨b1, b2⟩ := kc_get ks _ hi
    rcases Nat.mod_two_eq_zero_or_one j with he | he
    · have : j = j / 2 * 2 := by omega
      rw [this, a1, b1]
    · have : j = j / 2 * 2 + 1 := by omega
      rw [this, a2, b2]
  · rw [List.getElem?_eq_none (by simp; omega), List.getElem?_eq_none (by rw [kc_length]; omega)]
theorem Keys.of (n : Nat) (h : w.ownsRow B 42 2 (.slice (some ⟨g, 0, none⟩) n cap) n (kc ks)) : n = ks.length ∧ Keys w g cap ks := by
  obtain ⟨h0, ⟨h, -⟩ | ⟨g', cap', cur, e, hb, h1, h2, h3, h4, h5⟩⟩ := h
  · cases h
  · injection e with e1 e2 e3
    injection e1 with e1
    injection e1 with e1
    subst e1; subst e3
    rw [kc_length] at h0
    obtain rfl : n = ks.length := by omega
    refine ⟨rfl, ⟨cur, h1, h4, fun i hi => ?_⟩, h2, h3⟩
    obtain ⟨b1, b2⟩ := kc_get ks i hi
    rw [← h5, List.getElem?_take_of_lt (by omega), Array.getElem?_toList] at b1 b2
    exact ⟨b1, b2⟩
theorem Keys.cell (h : Keys w g cap ks) (i : Nat) (hi : i < ks.length) : w.cell? ⟨g, i * 2, none⟩ = some (i64 ks[i].1) ∧ w.cell? ⟨g, i * 2 + 1, none⟩ = some (i64 ks[i].2) := by
  obtain ⟨⟨cur, h1, h2, h3⟩, -⟩ := h
  rw [cell_of_row w g _ _ _ _ h1, cell_of_row w g _ _ _ _ h1]
  exact h3 i hi
theorem Keys.some (h : Keys w g cap ks) (j : Nat) (hj : j < cap * 2) : (w.cell? ⟨g, j, none⟩).isSome = true := by
  obtain ⟨⟨cur, h1, h2, h3⟩, -⟩ := h
  rw [cell_of_row w g _ _ _ _ h1]
  simp; omega
theorem Keys.frozen (h : Keys w g cap ks) (j : Nat) : w.frozen? ⟨g, j, none⟩ = false := by
  obtain ⟨⟨cur, h1, h2, h3⟩, -⟩ := h
  simp [World.frozen?, h1]
theorem Keys.kept (h : Keys w g cap ks) (hb : w'.heap[g]? = w.heap[g]?) : Keys w' g cap ks := by
  obtain ⟨⟨cur, h1, h2, h3⟩, h4, h5⟩ := h
  exact ⟨⟨cur, hb.trans h1, h2, h3⟩, h4, h5⟩
theorem Keys.lt (h : Keys w g cap ks) : g < w.heap.size := by
  obtain ⟨⟨cur, h1, -⟩, -⟩ := h
  exact (Array.getElem?_eq_some_iff.1 h1).1
theorem Keys.take (h : Keys w g cap ks) (n : Nat) : Keys w g cap (ks.take n) := by
  obtain ⟨⟨cur, h1, h2, h3⟩, h4, h5⟩ := h
  refine ⟨⟨cur, h1, h2, fun i hi => ?_⟩, by rw [List.length_take]; omega, h5⟩
  rw [List.length_take] at hi
  rw [List.getElem_take]
  exact h3 i (by omega)
theorem setCell_row {cur : Array Value} {t : TypeId} {fr : Nat × Nat} (h : w.heap[g]? = Option.some (.cells cur t fr)) (o : Nat) (v : Value) : (w.setCell ⟨g, o, none⟩ v).heap[g]? = Option.some (.cells (cur.setIfInBounds o v) t fr) := by
  simp only [World.setCell, Array.getElem?_modify, if_true, h, Option.map_some]
  simp
theorem setCells_row {t : TypeId} {fr : Nat × Nat} : ∀ (vs : List Value) (o : Nat) (w : World) (cur : Array Value), w.heap[g]? = Option.some (.cells cur t fr) →
    ∃ cur', (w.setCells g o vs).heap[g]? = Option.some (.cells cur' t fr) ∧ cur'.size = cur.size ∧ ∀ j, cur'[j]? = if o ≤ j ∧ j < o + vs.length ∧ j < cur.size then vs[j - o]? else cur[j]?
  | [], o, w, cur, h => ⟨cur, h, rfl, fun j => by rw [if_neg (by simp; omega)]⟩
  | v :: r, o, w, cur, h => by
    obtain ⟨cur', h1, h2, h3⟩ := setCells_row r (o + 1) (w.setCell ⟨g, o, none⟩ v) (cur.setIfInBounds o v) (setCell_row h o v)
    refine ⟨cur', h1, by rw [h2]; simp, fun j => ?_⟩
    rw [h3 j]
    simp only [Array.size_setIfInBounds, List.length_cons]
    by_cases hj : j = o
    · subst hj
      rw [if_neg (by omega)]
      by_cases hc : j < cur.size
      · rw [if_pos (by omega)]; simp [hc]
      · rw [if_neg (by omega)]; simp [hc]
    · by_cases hc : o + 1 ≤ j ∧ j < o + 1 + r.length ∧ j < cur.size
      · rw [if_pos hc, if_pos (by omega), show j - o = (j - (o + 1)) + 1 by omega]; simp
      · rw [if_neg hc, if_neg (by omega), Array.getElem?_setIfInBounds_ne (fun h => hj h.symm)]
theorem setCells_other (g : Nat) : ∀ (vs : List Value) (o : Nat) (w : World) (i : Nat), i ≠ g → (w.setCells g o vs).heap[i]? = w.heap[i]?
  | [], _, _, _, _ => rfl
  | _ :: r, o, _, i, h => (setCells_other g r (o + 1) _ i h).trans (Below.heap_setCell _ _ _ _ h)
theorem setCells_same (g : Nat) : ∀ (vs : List Value) (o : Nat) (w : World), (w.setCells g o vs).os = w.os ∧ (w.setCells g o vs).tape = w.tape ∧ (w.setCells g o vs).output = w.output ∧ (w.setCells g o vs).heap.size = w.heap.size
  | [], _, _ => ⟨rfl, rfl, rfl, rfl⟩
  | v :: r, o, w => by
    obtain ⟨h1, h2, h3, h4⟩ := setCells_same g r (o + 1) (w.setCell ⟨g, o, none⟩ v)
    exact ⟨h1, h2, h3, by rw [World.setCells, h4]; simp [World.setCell]⟩
/-- A key is written. -/
theorem Keys.set (h : Keys w g cap ks) (i : Nat) (k : Key) : Keys ((w.setCell ⟨g, i * 2, none⟩ (i64 k.1)).setCell ⟨g, i * 2 + 1, none⟩ (i64 k.2)) g cap (ks.set i k) := by
  obtain ⟨⟨cur, h1, h2, h3⟩, h4, h5⟩ := h
  refine ⟨⟨_, setCell_row (setCell_row h1 _ _) _ _, by simpa using h2, fun j hj => ?_⟩, by simpa using h4, h5⟩
  rw [List.length_set] at hj
  rw [List.getElem_set]
  obtain ⟨a1, a2⟩ := h3 j hj
  have hc : j * 2 + 1 < cur.size := by omega
  by_cases hij : i = j
  · subst hij
    rw [if_pos rfl]
    constructor
    · rw [Array.getElem?_setIfInBounds_ne (by omega), Array.getElem?_setIfInBounds, if_pos rfl, if_pos (by omega)]
    · rw [Array.getElem?_setIfInBounds, if_pos rfl, if_pos (by simpa using hc)]
  · rw [if_neg hij]
    refine ⟨?_, ?_⟩ <;> rw [Array.getElem?_setIfInBounds_ne (by omega), Array.getElem?_setIfInBounds_ne (by omega)]
    · exact a1
    · exact a2
/-- What stands behind i is written over; what stands ahead of it stays. -/
theorem Keys.over (h : Keys w g cap ks) (i : Nat) (xs : List Key) (hi : i ≤ ks.length) (hx : i + xs.length ≤ cap) : Keys (w.setCells g (i * 2) (kc xs)) g cap (ks.take i ++ xs) := by
  obtain ⟨⟨cur, h1, h2, h3⟩, h4, h5⟩ := h
  obtain ⟨cur', c1, c2, c3⟩ := setCells_row (kc xs) (i * 2) w cur h1
  have hl : (ks.take i ++ xs).length = i + xs.length := by simp; omega
  refine ⟨⟨cur', c1, by rw [c2, h2], fun j hj => ?_⟩, by omega, h5⟩
  rw [hl] at hj
  rw [c3, c3, kc_length]
  by_cases hji : j < i
  · rw [if_neg (by omega), if_neg (by omega), List.getElem_append_left (by simp; omega), List.getElem_take]
    exact h3 j (by omega)
  · rw [if_pos (by omega), if_pos (by omega), List.getElem_append_right (by simp; omega), show j * 2 - i * 2 = (j - i) * 2 by omega, show j * 2 + 1 - i * 2 = (j - i) * 2 + 1 by omega]
    have hlen : (ks.take i).length = i := by simp; omega
    simp only [hlen]
    exact kc_get xs (j - i) (by omega)
end
end Go.Proofs.Ytkcjhhppfolajaa
