
/-
  Plain: what the row of law TlbPlays makes of its calls; how it begins; what a region needs.
-/
import Derived.Test.YtkcjhhppfolajaaTlbPK
namespace Go.Proofs.Ytkcjhhppfolajaa
open Go.ChangeShapes Go.WideShapes Go.ChangeAt Go.RowKit
/-- Ahead of place k none has that key. -/
structure Fst (R : List A4) (key : Key) (k : Nat) : Prop where
  le : k ≤ R.length
  no : ∀ j (hj : j < R.length), j < k → ¬ R[j].2.1 = key
theorem Fst.zero (R : List A4) (key : Key) : Fst R key 0 := ⟨Nat.zero_le _, fun _ _ h => absurd h (Nat.not_lt_zero _)⟩
theorem Fst.next {R : List A4} {key : Key} {k : Nat} (f : Fst R key k) (hk : k < R.length) (h : ¬ R[k].2.1 = key) : Fst R key (k + 1) :=
  ⟨hk, fun j hj hjk => by
    by_cases e : j = k
    · subst e; exact h
    · exact f.no j hj (by omega)⟩
/-- The search has come to its end. -/
structure Fnd (R : List A4) (key : Key) (k : Nat) : Prop where
  f : Fst R key k
  at_ : ∀ h : k < R.length, R[k].2.1 = key
abbrev ents (R : List A4) : List Ent := R.map (·.2)
theorem Fnd.look {R : List A4} {key : Key} {k : Nat} (f : Fnd R key k) (hu : Uniq (ents R)) : tlook (ents R) key = if h : k < R.length then some R[k].2.2 else none := by
  have hl : (ents R).length = R.length := List.length_map _
  have h := first_look hu k key (by rw [hl]; exact f.f.le) (fun j hj hjk => by
    have := f.f.no j (by rw [← hl]; exact hj) hjk
    simpa using this) (fun h => by
    have := f.at_ (by rw [← hl]; exact h)
    simpa using this)
  rw [h]
  by_cases hk : k < R.length
  · rw [dif_pos (by rw [hl]; exact hk), dif_pos hk]; simp
  · rw [dif_neg (by rw [hl]; exact hk), dif_neg hk]
theorem put_there {R : List A4} {key : Key} {k : Nat} (f : Fnd R key k) (hu : Uniq (ents R)) (hk : k < R.length) (n : Nat) (e : Int) : tput n (ents R) key e = ents (R.set k (R[k].1, R[k].2.1, e)) := by
  have hl : (ents R).length = R.length := List.length_map _
  have h := put_set hu n k (by rw [hl]; exact hk) key e (by have := f.at_ hk; simpa using this)
  rw [h]
  unfold ents
  rw [List.map_set]
  show List.set (R.map (·.2)) k (key, e) = List.set (R.map (·.2)) k (R[k].2.1, e)
  rw [f.at_ hk]
theorem put_new {R : List A4} {key : Key} {k : Nat} (f : Fnd R key k) (hu : Uniq (ents R)) (hk : ¬ k < R.length) (n : Nat) (hn : R.length < n) (way e : Int) : tput n (ents R) key e = ents (R ++ [(way, key, e)]) := by
  have hl : (ents R).length = R.length := List.length_map _
  have h := f.look hu
  rw [dif_neg hk] at h
  unfold tput
  rw [h, if_neg (by simp), if_pos (by rw [hl]; exact hn)]
  simp [ents]
theorem put_full' {R : List A4} {key : Key} {k : Nat} (f : Fnd R key k) (hu : Uniq (ents R)) (hk : ¬ k < R.length) (n : Nat) (hn : ¬ R.length < n) (h0 : 1 ≤ R.length) (way e : Int) : tput n (ents R) key e = ents ((R ++ [(way, key, e)]).drop 1) := by
  have hl : (ents R).length = R.length := List.length_map _
  have h := f.look hu
  rw [dif_neg hk] at h
  unfold tput
  rw [h, if_neg (by simp), if_neg (by rw [hl]; exact hn)]
  unfold ents
  rw [List.map_drop, List.map_append, List.drop_append_of_le_length (by simpa using h0)]
  rfl
/-- What a flush leaves of the row. -/
def keep (R : List A4) (t : Int) : List A4 := R.filter (fun a => a.2.1.1 != t)
theorem flush_row (R : List A4) (t : Int) : tflush (ents R) t = ents (keep R t) := by
  unfold tflush ents keep
  rw [List.filter_map]; rfl
theorem keep_snoc (R : List A4) (t : Int) (j : Nat) (hj : j < R.length) : keep (R.take (j + 1)) t = if R[j].2.1.1 = t then keep (R.take j) t else keep (R.take j) t ++ [R[j]] := by
  unfold keep
  rw [List.take_succ_eq_append_getElem hj, List.filter_append]
  by_cases h : R[j].2.1.1 = t
  · rw [if_pos h]; simp [h]
  · rw [if_neg h]; simp [h]
theorem keep_le (R : List A4) (t : Int) : (keep R t).length ≤ R.length := List.length_filter_le _ _
theorem evict_row (R : List A4) (k : Nat) (hk : k < R.length) : tevict (ents R) k = ents (R.take k ++ R.drop (k + 1)) := by
  have hl : (ents R).length = R.length := List.length_map _
  rw [evict_parts _ _ (by rw [hl]; exact hk)]
  unfold ents
  rw [List.map_append, List.map_take, List.map_drop]
theorem look_row {R : List A4} (hu : Uniq (ents R)) (i : Nat) (hi : i < R.length) : tlook (ents R) R[i].2.1 = some R[i].2.2 :=
  look_mem hu (List.mem_map.2 ⟨R[i], List.getElem_mem hi, rfl⟩)
theorem lk_of {l : List Ent} {t v : Int} {o : Option Int} (h : tlook l (t, v) = o) : lk l t v = .returned (.tuple #[i64 (o.getD 0), .bool o.isSome]) := by unfold lk; rw [h]
/-- Two have been made. -/
theorem St.begin {W w1 w2 w3 : World} {n ht mt ho mo : Nat} {e1 e2 : Ending} (hB : Below W.heap.size W w1) (h1 : NewP w1 n e1 ht mt w2) (h2 : NewP w2 n e2 ho mo w3) : St W w3 ht mt ho mo n none [] (.slice none 0 0) [] := by
  have s1 := hB.size; have s2 := h1.b.size; have s3 := h2.b.size
  have a1 := h1.lh; have a2 := h1.lm; have a3 := h2.lh; have a4 := h2.lm
  have l1 := h1.t.lt
  refine ⟨⟨ht, ho, [], h1.t.grow h2.b, h2.t, by unfold Six; omega, by omega, by omega, (fun _ h => by cases h), (fun _ _ h => by cases h)⟩, by omega, World.ownsRow_nil _ _ _ _, (fun _ _ h => by cases h), (hB.trans (h1.b.mono s1)).trans (h2.b.mono (by omega))⟩
/-- The cells of the call at hand. -/
theorem St.here {W w : World} {ht mt ho mo n A : Nat} {a : A4} {l : List Ent} {v : Value} {R : List A4} (s : St W w ht mt ho mo n (some (A, a)) l v R) :
    w.cell? ⟨A, 0, none⟩ = some (i64 a.1) ∧ w.cell? ⟨A, 1, none⟩ = some (i64 a.2.1.1) ∧ w.cell? ⟨A, 2, none⟩ = some (i64 a.2.1.2) ∧ w.cell? ⟨A, 3, none⟩ = some (i64 a.2.2) := by
  obtain ⟨x1, x2, x3⟩ := s.bx A a rfl
  rw [cell_of_row w A 0 _ _ _ x2, cell_of_row w A 1 _ _ _ x2, cell_of_row w A 2 _ _ _ x2, cell_of_row w A 3 _ _ _ x2]
  exact ⟨rfl, rfl, rfl, rfl⟩
/-- The cells of one call of the row. -/
theorem St.at_ {W w : World} {ht mt ho mo n : Nat} {q : Option (Nat × A4)} {l : List Ent} {v : Value} {R : List A4} (s : St W w ht mt ho mo n q l v R) (k : Nat) (hk : k < R.length) :
    ∃ g cap, v = .slice (some ⟨g, 0, none⟩) R.length cap ∧ R.length ≤ cap ∧ cap ≤ 9223372036854775807 ∧ w.cell? ⟨g, k * 4, none⟩ = some (i64 R[k].1) ∧ w.cell? ⟨g, k * 4 + 1, none⟩ = some (i64 R[k].2.1.1) ∧ w.cell? ⟨g, k * 4 + 2, none⟩ = some (i64 R[k].2.1.2) ∧ w.cell? ⟨g, k * 4 + 3, none⟩ = some (i64 R[k].2.2) ∧ w.frozen? ⟨g, k * 4 + 3, none⟩ = false := by
  obtain ⟨g, cap, e, h1, h2, h3, h4, h5⟩ := own_cells s.row (by omega)
  obtain ⟨b1, b2, b3, b4⟩ := rc_get R k hk
  exact ⟨g, cap, e, h2, h3, h4 _ _ b1, h4 _ _ b2, h4 _ _ b3, h4 _ _ b4, h5 _⟩
theorem St.form {W w : World} {ht mt ho mo n : Nat} {q : Option (Nat × A4)} {l : List Ent} {v : Value} {R : List A4} (s : St W w ht mt ho mo n q l v R) : ∃ p c, v = .slice p R.length c ∧ (p = none → R.length = 0 ∧ c = 0) ∧ R.length ≤ c ∧ c ≤ 9223372036854775807 := own_form s.row
/-- A row of calls that came in. -/
structure Acts6 (W : World) (lp : Option Addr) (len : Nat) (f : Nat → A4) : Prop where
  at_ : 0 < len → ∃ b off, lp = some ⟨b, off, none⟩ ∧ b < W.heap.size ∧ ∀ i, i < len →
    W.cell? ⟨b, off + i * 4, none⟩ = some (.int .i64 (f i).1) ∧ W.cell? ⟨b, off + i * 4 + 1, none⟩ = some (.int .i64 (f i).2.1.1) ∧ W.cell? ⟨b, off + i * 4 + 2, none⟩ = some (.int .i64 (f i).2.1.2) ∧ W.cell? ⟨b, off + i * 4 + 3, none⟩ = some (.int .i64 (f i).2.2)
  wf : ∀ i, i < len → KeyIn (f i).2.1 ∧ (-9223372036854775808 ≤ (f i).2.2 ∧ (f i).2.2 ≤ 9223372036854775807)
end Go.Proofs.Ytkcjhhppfolajaa
