/-
  Rows of structs of the call's own: append of one, of many; a cell that is written. | A configuration of the call's own: its box, its three rows.
-/
import Derived.Test.YtogbhgbnminpdaaDoorJnCfgMath
import Derived.Deep.Draws
import Derived.Lib.AppendStr
import Derived.Maps.AppendAt
import Derived.Lib.AppendZeros
set_option linter.unusedVariables false
set_option maxRecDepth 100000
set_option linter.unusedVariables false
namespace Go.Proofs.YtogbhgbnminpdaaDoor.Cfg
open Go.Proofs.YtogbhgbnminpdaaDoor
open Go.ChangeShapes Go.WideShapes Go.ChangeAt Go.RowKit
theorem setCell_row {w : World} {g : Nat} {cur : Array Value} {t : TypeId} {fr : Nat × Nat} (h : w.heap[g]? = Option.some (.cells cur t fr)) (o : Nat) (v : Value) : (w.setCell ⟨g, o, none⟩ v).heap[g]? = Option.some (.cells (cur.setIfInBounds o v) t fr) := by
  simp only [World.setCell, Array.getElem?_modify, if_true, h, Option.map_some]
  simp
/-- The slice's type, its elements', how many cells. -/
structure KdS (T E : TypeId) (st : Nat) : Prop where
  under : Tryd.prog.underlying T = some (.slice E)
  info : ∃ z b, b ≤ 64 ∧ z.cells.size = st ∧ (Tryd.prog.info? E).map (fun i => (i.zero, i.size, i.bytes)) = some (some z, st, b)
  pos : 0 < st
theorem kdP : KdS 22 47 3 := ⟨Tryd.underlying22, ⟨.agg #[.string ByteArray.empty, .int .i64 0, .int .i64 0], 32, by decide, rfl, by kernel_rfl⟩, by decide⟩
theorem kdC : KdS 23 49 5 := ⟨Tryd.underlying23, ⟨.agg #[.int .i64 0, .int .i64 0, .int .i64 0, .int .i64 0, .int .i64 0], 40, by decide, rfl, by kernel_rfl⟩, by decide⟩
theorem kdW : KdS 24 51 3 := ⟨Tryd.underlying24, ⟨.agg #[.int .i64 0, .int .i64 0, .int .i64 0], 24, by decide, rfl, by kernel_rfl⟩, by decide⟩
/-- All structs have so many cells, and these are single. -/
structure Even (st : Nat) (vs : List (List Value)) : Prop where
  len : ∀ x ∈ vs, x.length = st
  one : ∀ x ∈ vs, ∀ u ∈ x, u.oneCell' = true
theorem Even.flat {st : Nat} : ∀ {vs : List (List Value)}, Even st vs → vs.flatten.length = vs.length * st
  | [], _ => by simp
  | x :: r, h => by
    have ih := Even.flat (st := st) (vs := r) ⟨fun y hy => h.len y (List.mem_cons_of_mem _ hy), fun y hy => h.one y (List.mem_cons_of_mem _ hy)⟩
    rw [List.flatten_cons, List.length_append, ih, h.len x (List.mem_cons_self ..), List.length_cons, Nat.succ_mul, Nat.add_comm]
theorem Even.ones {st : Nat} {vs : List (List Value)} (h : Even st vs) : ∀ u ∈ vs.flatten, u.oneCell' = true := by
  intro u hu
  obtain ⟨x, hx, hux⟩ := List.mem_flatten.1 hu
  exact h.one x hx u hux
theorem Even.app {st : Nat} {vs us : List (List Value)} (h : Even st vs) (h' : Even st us) : Even st (vs ++ us) :=
  ⟨fun x hx => (List.mem_append.1 hx).elim (h.len x) (h'.len x), fun x hx => (List.mem_append.1 hx).elim (h.one x) (h'.one x)⟩
theorem Even.at {st : Nat} : ∀ {vs : List (List Value)} (i : Nat) (x : List Value) (k : Nat) (v : Value), Even st vs → vs[i]? = some x → x[k]? = some v → vs.flatten[i * st + k]? = some v
  | [], i, x, k, v, _, h, _ => by simp at h
  | y :: r, 0, x, k, v, h, hx, hv => by
    simp only [List.getElem?_cons_zero, Option.some.injEq] at hx
    subst hx
    rw [List.flatten_cons, Nat.zero_mul, Nat.zero_add, List.getElem?_append_left (List.getElem?_eq_some_iff.1 hv).1]
    exact hv
  | y :: r, i + 1, x, k, v, h, hx, hv => by
    have hl := h.len y (List.mem_cons_self ..)
    have ih := Even.at (st := st) (vs := r) i x k v ⟨fun z hz => h.len z (List.mem_cons_of_mem _ hz), fun z hz => h.one z (List.mem_cons_of_mem _ hz)⟩ (by simpa using hx) hv
    rw [List.flatten_cons, List.getElem?_append_right (by rw [hl, Nat.succ_mul]; omega), hl, show (i + 1) * st + k - st = i * st + k by rw [Nat.succ_mul]; omega]
    exact ih
theorem even_pt (l : List Pt) : Even 3 (l.map ptC) := ⟨fun x hx => by obtain ⟨q, -, rfl⟩ := List.mem_map.1 hx; rfl, fun x hx u hu => by obtain ⟨q, -, rfl⟩ := List.mem_map.1 hx; simp at hu; rcases hu with rfl | rfl | rfl <;> rfl⟩
theorem even_ch (l : List Ch) : Even 5 (l.map chC) := ⟨fun x hx => by obtain ⟨q, -, rfl⟩ := List.mem_map.1 hx; rfl, fun x hx u hu => by obtain ⟨q, -, rfl⟩ := List.mem_map.1 hx; simp at hu; rcases hu with rfl | rfl | rfl | rfl | rfl <;> rfl⟩
theorem even_wn (l : List Wn) : Even 3 (l.map wnC) := ⟨fun x hx => by obtain ⟨q, -, rfl⟩ := List.mem_map.1 hx; rfl, fun x hx u hu => by obtain ⟨q, -, rfl⟩ := List.mem_map.1 hx; simp at hu; rcases hu with rfl | rfl | rfl <;> rfl⟩
/-- A row of structs of one's own. -/
abbrev OwnS (E : TypeId) (st : Nat) (w : World) (B : Nat) (v : Value) (vs : List (List Value)) : Prop := w.ownsRow B E st v vs.length vs.flatten
section
variable {T E : TypeId} {st : Nat} {w w' : World} {B B' : Nat} {v : Value} {vs : List (List Value)}
theorem ownS_nil (E : TypeId) (st : Nat) (w : World) (B : Nat) : OwnS E st w B (.slice none 0 0) [] := World.ownsRow_nil _ _ _ _
theorem ownS_mono (h : OwnS E st w B v vs) (hB : B' ≤ B) : OwnS E st w B' v vs := by
  obtain ⟨h0, h1 | ⟨g, cap, cur, e1, h2, h3⟩⟩ := h
  · exact ⟨h0, .inl h1⟩
  · exact ⟨h0, .inr ⟨g, cap, cur, e1, Nat.le_trans hB h2, h3⟩⟩
theorem ownS_kept (h : OwnS E st w B v vs) (hb : ∀ g, v.ownBlock = some g → w'.heap[g]? = w.heap[g]?) : OwnS E st w' B v vs := by
  obtain ⟨h0, h1 | ⟨g, cap, cur, rfl, h2, h3, h4⟩⟩ := h
  · exact ⟨h0, .inl h1⟩
  · exact ⟨h0, .inr ⟨g, cap, cur, rfl, h2, (hb g rfl).trans h3, h4⟩⟩
theorem ownS_below (h : OwnS E st w B v vs) (hb : Below w.heap.size w w') : OwnS E st w' B v vs :=
  ownS_kept h fun g hg => hb.block g (h.lt g hg).2
theorem ownS_form (h : OwnS E st w B v vs) : ∃ p c, v = .slice p vs.length c ∧ (p = none → c = 0) ∧ vs.length ≤ c ∧ c ≤ maxLen := by
  obtain ⟨h0, ⟨rfl, h1⟩ | ⟨g, cap, cur, rfl, h2, h3, h4, h5, -⟩⟩ := h
  · exact ⟨none, 0, by rw [h1], fun _ => rfl, by omega, by unfold maxLen; omega⟩
  · exact ⟨_, _, rfl, (fun h => by cases h), h4, h5⟩
/-- A row of one's own lies. -/
theorem ownS_lie (h : OwnS E st w B v vs) (he : Even st vs) : ∃ p c, v = .slice p vs.length c ∧ c ≤ maxLen ∧ LieS st w w.heap.size p vs.length c vs := by
  obtain ⟨h0, ⟨rfl, h1⟩ | ⟨g, cap, cur, rfl, h2, h3, h4, h5, h6, h7⟩⟩ := h
  · obtain rfl := List.eq_nil_of_length_eq_zero h1
    exact ⟨none, 0, rfl, by unfold maxLen; omega, rfl, Nat.le_refl _, fun _ => rfl, fun h => by simp at h⟩
  · refine ⟨_, _, rfl, h5, rfl, h4, (fun h => by cases h), fun hn => ⟨g, 0, rfl, (Array.getElem?_eq_some_iff.1 h3).1, fun i x hx k u hu => ?_⟩⟩
    have hv := Even.at i x k u he hx hu
    rw [Nat.zero_add, cell_of_row w g _ _ _ _ h3]
    have e : (cur.toList.take (vs.length * st))[i * st + k]? = some u := by rw [h7]; exact hv
    have hi : i * st + k < vs.length * st := by have := (List.getElem?_eq_some_iff.1 hv).1; rw [he.flat] at this; exact this
    rw [List.getElem?_take_of_lt hi] at e
    rw [← Array.getElem?_toList]; exact e
theorem grown_below' (h : w.grownBy w' v.ownBlock) (hB : B ≤ w.heap.size) (hv : ∀ g, v.ownBlock = some g → B ≤ g) : Below B w w' :=
  ⟨h.os, h.tape, h.output, h.size, fun i hi => h.block i (by omega) (fun e => by have := hv i e.symm; omega)⟩
/-- What append asks of a source. -/
def SrcS (st : Nat) (w : World) (sp : Option Addr) (us : List (List Value)) : Prop := 0 < us.length → ∃ ad, sp = some ad ∧ ∀ j u, us.flatten[j]? = some u → w.cell? (ad.add j) = some u
theorem flat_cell {st : Nat} (hp : 0 < st) : ∀ {us : List (List Value)}, Even st us → ∀ j u, us.flatten[j]? = some u → ∃ i x k, us[i]? = some x ∧ x[k]? = some u ∧ j = i * st + k
  | [], _, j, u, h => by simp at h
  | x :: r, he, j, u, h => by
    have hl := he.len x (List.mem_cons_self ..)
    rw [List.flatten_cons] at h
    by_cases hj : j < st
    · rw [List.getElem?_append_left (by omega)] at h
      exact ⟨0, x, j, rfl, h, by omega⟩
    · rw [List.getElem?_append_right (by omega), hl] at h
      obtain ⟨i, y, k, h1, h2, h3⟩ := flat_cell hp (us := r) ⟨fun z hz => he.len z (List.mem_cons_of_mem _ hz), fun z hz => he.one z (List.mem_cons_of_mem _ hz)⟩ (j - st) u h
      exact ⟨i + 1, y, k, by simpa using h1, h2, by rw [Nat.succ_mul]; omega⟩
theorem LieS.src {n c : Nat} {p : Option Addr} (hp : 0 < st) (h : LieS st w B p n c vs) (he : Even st vs) : SrcS st w p vs := by
  intro hn
  obtain ⟨b, off, e, -, ha⟩ := h.at_ (by rw [← h.len]; exact hn)
  refine ⟨_, e, fun j u hu => ?_⟩
  obtain ⟨i, x, k, h1, h2, rfl⟩ := flat_cell hp he j u hu
  rw [Addr.add_lit, ← Nat.add_assoc]
  exact ha i x h1 k u h2
/-- What 'append(s, b...)' does: s a row of the call's own, b lies anywhere. -/
theorem appS_run (K : KdS T E st) (ty : TypeId) (hB : B ≤ w.heap.size) {v1 : Value} {R1 : List (List Value)} (hown : OwnS E st w B v1 R1)
    {p : Option Addr} {m c : Nat} (R2 : List (List Value)) (he2 : Even st R2) (hm : R2.length = m) (hc : p = none → c = 0) (hsrc : SrcS st w p R2) (hsz : R1.length + m ≤ 1000000) :
    ∃ v' w', (Builtin.append_ #[T, T] ty #[v1, .slice p m c]).run Tryd.prog w = .ok v' w' ∧ OwnS E st w' B v' (R1 ++ R2) ∧ Below B w w' ∧ w.grownBy w' v1.ownBlock ∧ (v'.ownBlock = v1.ownBlock ∨ v'.ownBlock = some w.heap.size) := by
  obtain ⟨z, bb, hbb, hzs, hinfo⟩ := K.info
  obtain ⟨i, hi, hz0, hz1, hz2⟩ := info_parts hinfo
  have hlt := hown.lt
  cases p with
  | none =>
    obtain rfl := hc rfl
    have h0 : R2.length = 0 := by
      rcases Nat.eq_zero_or_pos R2.length with h0 | h0
      · exact h0
      · obtain ⟨ad, e, -⟩ := hsrc h0; cases e
    obtain rfl : m = 0 := by omega
    obtain rfl := List.eq_nil_of_length_eq_zero h0
    refine ⟨v1, w, run_append_owned_none (P := Tryd.prog) (w := w) B T ty E i st K.under hi v1 R1.length R1.flatten hown, by rw [List.append_nil]; exact hown, Below.refl _ _, ⟨rfl, rfl, rfl, Nat.le_refl _, fun _ _ _ => rfl⟩, .inl rfl⟩
  | some ad =>
    have hcs : ∀ j u, R2.flatten[j]? = some u → w.cell? (ad.add j) = some u := by
      intro j u hu
      have hj : 0 < R2.length := by
        rcases Nat.eq_zero_or_pos R2.length with h0 | h0
        · rw [List.eq_nil_of_length_eq_zero h0] at hu; simp at hu
        · exact h0
      obtain ⟨ad', e, hcs⟩ := hsrc hj
      obtain rfl := Option.some.inj e
      exact hcs j u hu
    obtain ⟨v', w', hr, h2, h3, -, h5⟩ := run_append_own_at (P := Tryd.prog) w B T ty E i z st bb K.under hi hz0 hz1 hz2 hzs K.pos v1 R1.length R1.flatten hown ad m c R2.flatten (by rw [he2.flat, hm]) hcs he2.ones (by unfold maxLen; omega) (by have : (R1.length + m) * bb ≤ 1000000 * 64 := Nat.mul_le_mul hsz hbb; omega) hB
    refine ⟨v', w', hr, ?_, grown_below' h3 hB fun g hg => (hlt g hg).1, h3, h5⟩
    unfold OwnS; rw [List.length_append, List.flatten_append, hm]; exact h2
theorem wpList_appS {ops : Array Oper} {rest : List Oper} {o : Oper} {a : Act} {Q : Exit → Act → World → Prop} (K : KdS T E st) (hgd : o.guard = none) (s x : Operand)
    (ho : o.op = .call { callee := .builtin .append, args := #[s, x], argTypes := #[T, T] }) (hB : B ≤ w.heap.size) {v1 : Value} {R1 : List (List Value)} (hs : a.eval s = v1) (hown : OwnS E st w B v1 R1)
    {p : Option Addr} {m c : Nat} (R2 : List (List Value)) (he2 : Even st R2) (hx : a.eval x = .slice p m c) (hm : R2.length = m) (hc : p = none → c = 0) (hsrc : SrcS st w p R2) (hsz : R1.length + m ≤ 1000000)
    (h : ∀ v' w', OwnS E st w' B v' (R1 ++ R2) → Below B w w' → w.grownBy w' v1.ownBlock → (v'.ownBlock = v1.ownBlock ∨ v'.ownBlock = some w.heap.size) → wpList Tryd.prog ops Q rest (a.put o.dst v') w') : wpList Tryd.prog ops Q (o :: rest) a w := by
  obtain ⟨v', w', hr, h1, h2, h3, h4⟩ := appS_run K o.type hB hown R2 he2 hm hc hsrc hsz
  exact Lib.wpList_append_run w hgd s x T T ho v1 _ hs hx v' w' hr (h v' w' h1 h2 h3 h4)
theorem step_appS {ops : Array Oper} {o : Oper} {a : Act} {Q : Exit → Act → World → Prop} {X : Prop} {J : Act → World → Prop} (K : KdS T E st) (hgd : o.guard = none) (s x : Operand)
    (ho : o.op = .call { callee := .builtin .append, args := #[s, x], argTypes := #[T, T] }) (hB : B ≤ w.heap.size) {v1 : Value} {R1 : List (List Value)} (hs : a.eval s = v1) (hown : OwnS E st w B v1 R1)
    {p : Option Addr} {m c : Nat} (R2 : List (List Value)) (he2 : Even st R2) (hx : a.eval x = .slice p m c) (hm : R2.length = m) (hc : p = none → c = 0) (hsrc : SrcS st w p R2) (hsz : R1.length + m ≤ 1000000)
    (h : ∀ v' w', OwnS E st w' B v' (R1 ++ R2) → Below B w w' → w.grownBy w' v1.ownBlock → (v'.ownBlock = v1.ownBlock ∨ v'.ownBlock = some w.heap.size) → J (a.put o.dst v') w') :
    if Region.wanted o (yielded ops a.tmps) = true then Oper.wp Tryd.prog o a w J Q else X := by
  obtain ⟨v', w', hr, h1, h2, h3, h4⟩ := appS_run K o.type hB hown R2 he2 hm hc hsrc hsz
  rw [if_pos (by simp [Region.wanted, hgd])]
  exact Lib.wp_append_run w s x T T ho v1 _ hs hx v' w' hr (h v' w' h1 h2 h3 h4)
end
/-- A struct that was laid in a new block. -/
theorem src_new (w : World) (st : Nat) (x : List Value) (ty : TypeId) : SrcS st (w.alloc (.cells x.toArray ty)) (some ⟨w.heap.size, 0, none⟩) [x] := by
  intro _
  refine ⟨_, rfl, fun j u hu => ?_⟩
  rw [Addr.add_lit, Nat.zero_add, cell_of_row _ w.heap.size j _ _ _ (heap_alloc_new w _), ← hu]
  simp
theorem SrcS.kept {st : Nat} {w w' : World} {p : Option Addr} {us : List (List Value)} {g : Nat} (h : SrcS st w p us) (hp : ∀ ad, p = some ad → ad.block = g) (hg : w'.heap[g]? = w.heap[g]?) : SrcS st w' p us := by
  intro hn
  obtain ⟨ad, rfl, hc⟩ := h hn
  refine ⟨ad, rfl, fun j u hu => ?_⟩
  have := hp ad rfl
  subst this
  have hb : (ad.add j).block = ad.block := by unfold Addr.add; split <;> rfl
  exact (World.cell?_of_block (by rw [hb]; exact hg)).trans (hc j u hu)
end Go.Proofs.YtogbhgbnminpdaaDoor.Cfg
set_option maxRecDepth 100000
set_option linter.unusedVariables false
namespace Go.Proofs.YtogbhgbnminpdaaDoor.Cfg
open Go.Proofs.YtogbhgbnminpdaaDoor
open Go.ChangeShapes Go.WideShapes Go.ChangeAt Go.RowKit
section
variable {E : TypeId} {st : Nat} {w w' : World} {B : Nat} {v : Value} {vs : List (List Value)}
theorem flat_set {st : Nat} : ∀ {vs : List (List Value)} (i : Nat) (x : List Value) (k : Nat) (u : Value), Even st vs → vs[i]? = some x → k < st → vs.flatten.set (i * st + k) u = (vs.set i (x.set k u)).flatten
  | [], i, x, k, u, _, h, _ => by simp at h
  | y :: r, 0, x, k, u, h, hx, hk => by
    simp only [List.getElem?_cons_zero, Option.some.injEq] at hx
    subst hx
    have hl := h.len y (List.mem_cons_self ..)
    rw [List.flatten_cons, Nat.zero_mul, Nat.zero_add, List.set_append_left _ _ (by omega)]
    rfl
  | y :: r, i + 1, x, k, u, h, hx, hk => by
    have hl := h.len y (List.mem_cons_self ..)
    have ih := flat_set (st := st) (vs := r) i x k u ⟨fun z hz => h.len z (List.mem_cons_of_mem _ hz), fun z hz => h.one z (List.mem_cons_of_mem _ hz)⟩ (by simpa using hx) hk
    rw [List.flatten_cons, List.set_append_right _ _ (by rw [hl, Nat.succ_mul]; omega), hl, show (i + 1) * st + k - st = i * st + k by rw [Nat.succ_mul]; omega, ih]
    rfl
/-- A cell of a row of one's own, and the row with another in its place. -/
theorem ownS_set (h : OwnS E st w B v vs) (he : Even st vs) {i k : Nat} {x : List Value} (hx : vs[i]? = some x) (hk : k < st) :
    ∃ g c, v = .slice (some ⟨g, 0, none⟩) vs.length c ∧ B ≤ g ∧ g < w.heap.size ∧ w.frozen? ⟨g, i * st + k, none⟩ = false ∧ (∀ u, x[k]? = some u → w.cell? ⟨g, i * st + k, none⟩ = some u) ∧ ∀ u : Value, OwnS E st (w.setCell ⟨g, i * st + k, none⟩ u) B v (vs.set i (x.set k u)) := by
  have hi : i < vs.length := (List.getElem?_eq_some_iff.1 hx).1
  obtain ⟨h0, ⟨h1, h2⟩ | ⟨g, cap, cur, rfl, h2, h3, h4, h5, h6, h7⟩⟩ := h
  · omega
  · have hlt : i * st + k < vs.length * st := by
      have : (i + 1) * st ≤ vs.length * st := Nat.mul_le_mul_right _ hi
      rw [Nat.succ_mul] at this; omega
    refine ⟨g, cap, rfl, h2, (Array.getElem?_eq_some_iff.1 h3).1, by simp [World.frozen?, h3], fun u hu => ?_, fun u => ?_⟩
    · rw [cell_of_row w g _ _ _ _ h3, ← Array.getElem?_toList]
      have e : (cur.toList.take (vs.length * st))[i * st + k]? = some u := by rw [h7]; exact Even.at i x k u he hx hu
      rw [List.getElem?_take_of_lt hlt] at e
      exact e
    · have hfl := flat_set i x k u he hx hk
      refine ⟨by rw [List.length_set, ← hfl, List.length_set]; exact h0, .inr ⟨g, cap, cur.setIfInBounds (i * st + k) u, by rw [List.length_set], h2, setCell_row h3 _ _, by rw [List.length_set]; exact h4, h5, by simpa using h6, ?_⟩⟩
      rw [List.length_set, Array.toList_setIfInBounds, List.take_set, h7]
      exact hfl
theorem ownS_off (h : OwnS E st w B v vs) {g : Nat} (hg : v.ownBlock ≠ some g) (j : Nat) (x : Value) : OwnS E st (w.setCell ⟨g, j, none⟩ x) B v vs :=
  ownS_kept h fun _ hi => Below.heap_setCell _ _ _ _ (fun e => hg (hi.trans (congrArg some e)))
end
theorem below_setCell {B : Nat} {w u : World} (h : Below B w u) (g o : Nat) (hg : B ≤ g) (v : Value) : Below B w (u.setCell ⟨g, o, none⟩ v) :=
  h.trans ⟨rfl, rfl, rfl, by simp [World.setCell], fun k hk => Below.heap_setCell _ _ _ _ (by show k ≠ g; omega)⟩
/-- A configuration of the call's own. -/
structure Cb (w0 w : World) (hb : Nat) (c : Cf) (v1 v2 v3 : Value) : Prop where
  b : Below w0.heap.size w0 w
  hb0 : w0.heap.size ≤ hb
  hd : w.heap[hb]? = some (.cells #[i64 c.pages, i64 c.major, i64 c.switch, v1, v2, v3] 26 (0, 0))
  o1 : OwnS 47 3 w w0.heap.size v1 (c.parts.map ptC)
  o2 : OwnS 49 5 w w0.heap.size v2 (c.chans.map chC)
  o3 : OwnS 51 3 w w0.heap.size v3 (c.wins.map wnC)
  ne : v1.ownBlock ≠ some hb ∧ v2.ownBlock ≠ some hb ∧ v3.ownBlock ≠ some hb
  ap : ∀ g, (v1.ownBlock = some g → v2.ownBlock ≠ some g ∧ v3.ownBlock ≠ some g) ∧ (v2.ownBlock = some g → v3.ownBlock ≠ some g)
section
variable {w0 w w' : World} {hb : Nat} {c : Cf} {v1 v2 v3 : Value}
theorem Cb.lt (C : Cb w0 w hb c v1 v2 v3) : hb < w.heap.size := (Array.getElem?_eq_some_iff.1 C.hd).1
theorem Cb.at (C : Cb w0 w hb c v1 v2 v3) (k : Nat) (v : Value) (h : [i64 c.pages, i64 c.major, i64 c.switch, v1, v2, v3][k]? = some v) : w.cell? ⟨hb, k, none⟩ = some v := by
  rw [cell_of_row w hb k _ _ _ C.hd, ← Array.getElem?_toList]; exact h
theorem Cb.fr (C : Cb w0 w hb c v1 v2 v3) (k : Nat) : w.frozen? ⟨hb, k, none⟩ = false := by simp [World.frozen?, C.hd]
theorem Cb.kept (C : Cb w0 w hb c v1 v2 v3) (h : Below w.heap.size w w') : Cb w0 w' hb c v1 v2 v3 :=
  ⟨C.b.trans (h.mono C.b.size), C.hb0, (h.block hb C.lt).trans C.hd, ownS_below C.o1 h, ownS_below C.o2 h, ownS_below C.o3 h, C.ne, C.ap⟩
/-- The box's cell k is written. -/
theorem Cb.num (C : Cb w0 w hb c v1 v2 v3) (c' : Cf) (k : Nat) (u : Value) (h : [i64 c.pages, i64 c.major, i64 c.switch, v1, v2, v3].set k u = [i64 c'.pages, i64 c'.major, i64 c'.switch, v1, v2, v3]) (hp : c'.parts = c.parts) (hc : c'.chans = c.chans) (hw : c'.wins = c.wins) : Cb w0 (w.setCell ⟨hb, k, none⟩ u) hb c' v1 v2 v3 := by
  refine ⟨below_setCell C.b _ _ C.hb0 _, C.hb0, ?_, by rw [hp]; exact ownS_off C.o1 C.ne.1 _ _, by rw [hc]; exact ownS_off C.o2 C.ne.2.1 _ _, by rw [hw]; exact ownS_off C.o3 C.ne.2.2 _ _, C.ne, C.ap⟩
  rw [setCell_row C.hd, ← h]
  simp
theorem own_lt {E : TypeId} {st : Nat} {B g : Nat} {v : Value} {vs : List (List Value)} (h : OwnS E st w B v vs) (hg : v.ownBlock = some g) : g < w.heap.size := (h.lt g hg).2
/-- A row that has grown is stored into the box. -/
theorem Cb.app1 (C : Cb w0 w hb c v1 v2 v3) {l : List Pt} {v' : Value} (o : OwnS 47 3 w' w0.heap.size v' (l.map ptC)) (g : w.grownBy w' v1.ownBlock) (hv : v'.ownBlock = v1.ownBlock ∨ v'.ownBlock = some w.heap.size) : Cb w0 (w'.setCell ⟨hb, 3, none⟩ v') hb { c with parts := l } v' v2 v3 := by
  have hlt := C.lt
  have hn1 : v'.ownBlock ≠ some hb := by rcases hv with h | h <;> rw [h]; exact C.ne.1; intro e; injection e with e; omega
  have hk : ∀ i, i < w.heap.size → v1.ownBlock ≠ some i → w'.heap[i]? = w.heap[i]? := fun i hi hne => g.block i hi (fun e => hne e.symm)
  have hbl : Below w0.heap.size w w' := ⟨g.os, g.tape, g.output, g.size, fun i hi => hk i (by have := C.b.size; omega) (fun e => by have := (C.o1.lt i e).1; omega)⟩
  have hap : ∀ (v : Value) E st (vs : List (List Value)), OwnS E st w w0.heap.size v vs → (∀ g, v1.ownBlock = some g → v.ownBlock ≠ some g) → ∀ g, v'.ownBlock = some g → v.ownBlock ≠ some g := fun v E st vs h1 h2 g hg hg2 => by
    rcases hv with h | h
    · exact h2 g (by rw [← h]; exact hg) hg2
    · rw [h] at hg; injection hg with hg; have := own_lt h1 hg2; omega
  refine ⟨below_setCell (C.b.trans hbl) _ _ C.hb0 _, C.hb0, ?_, ownS_off o hn1 _ _, ownS_off (ownS_kept C.o2 fun i hi => hk i (own_lt C.o2 hi) (fun e => ((C.ap i).1 e).1 hi)) C.ne.2.1 _ _, ownS_off (ownS_kept C.o3 fun i hi => hk i (own_lt C.o3 hi) (fun e => ((C.ap i).1 e).2 hi)) C.ne.2.2 _ _, ⟨hn1, C.ne.2⟩, fun i => ⟨fun e => ⟨hap _ _ _ _ C.o2 (fun g hg => ((C.ap g).1 hg).1) i e, hap _ _ _ _ C.o3 (fun g hg => ((C.ap g).1 hg).2) i e⟩, (C.ap i).2⟩⟩
  rw [setCell_row ((hk hb hlt C.ne.1).trans C.hd)]; rfl
theorem Cb.app2 (C : Cb w0 w hb c v1 v2 v3) {l : List Ch} {v' : Value} (o : OwnS 49 5 w' w0.heap.size v' (l.map chC)) (g : w.grownBy w' v2.ownBlock) (hv : v'.ownBlock = v2.ownBlock ∨ v'.ownBlock = some w.heap.size) : Cb w0 (w'.setCell ⟨hb, 4, none⟩ v') hb { c with chans := l } v1 v' v3 := by
  have hlt := C.lt
  have hn1 : v'.ownBlock ≠ some hb := by rcases hv with h | h <;> rw [h]; exact C.ne.2.1; intro e; injection e with e; omega
  have hk : ∀ i, i < w.heap.size → v2.ownBlock ≠ some i → w'.heap[i]? = w.heap[i]? := fun i hi hne => g.block i hi (fun e => hne e.symm)
  have hbl : Below w0.heap.size w w' := ⟨g.os, g.tape, g.output, g.size, fun i hi => hk i (by have := C.b.size; omega) (fun e => by have := (C.o2.lt i e).1; omega)⟩
  have hap : ∀ (v : Value) E st (vs : List (List Value)), OwnS E st w w0.heap.size v vs → (∀ g, v2.ownBlock = some g → v.ownBlock ≠ some g) → ∀ g, v'.ownBlock = some g → v.ownBlock ≠ some g := fun v E st vs h1 h2 g hg hg2 => by
    rcases hv with h | h
    · exact h2 g (by rw [← h]; exact hg) hg2
    · rw [h] at hg; injection hg with hg; have := own_lt h1 hg2; omega
  refine ⟨below_setCell (C.b.trans hbl) _ _ C.hb0 _, C.hb0, ?_, ownS_off (ownS_kept C.o1 fun i hi => hk i (own_lt C.o1 hi) (fun e => ((C.ap i).1 hi).1 e)) C.ne.1 _ _, ownS_off o hn1 _ _, ownS_off (ownS_kept C.o3 fun i hi => hk i (own_lt C.o3 hi) (fun e => (C.ap i).2 e hi)) C.ne.2.2 _ _, ⟨C.ne.1, hn1, C.ne.2.2⟩, fun i => ⟨fun e => ⟨fun e2 => hap _ _ _ _ C.o1 (fun g hg e3 => ((C.ap g).1 e3).1 hg) i e2 e, ((C.ap i).1 e).2⟩, fun e => hap _ _ _ _ C.o3 (fun g hg => (C.ap g).2 hg) i e⟩⟩
  rw [setCell_row ((hk hb hlt C.ne.2.1).trans C.hd)]; rfl
theorem Cb.app3 (C : Cb w0 w hb c v1 v2 v3) {l : List Wn} {v' : Value} (o : OwnS 51 3 w' w0.heap.size v' (l.map wnC)) (g : w.grownBy w' v3.ownBlock) (hv : v'.ownBlock = v3.ownBlock ∨ v'.ownBlock = some w.heap.size) : Cb w0 (w'.setCell ⟨hb, 5, none⟩ v') hb { c with wins := l } v1 v2 v' := by
  have hlt := C.lt
  have hn1 : v'.ownBlock ≠ some hb := by rcases hv with h | h <;> rw [h]; exact C.ne.2.2; intro e; injection e with e; omega
  have hk : ∀ i, i < w.heap.size → v3.ownBlock ≠ some i → w'.heap[i]? = w.heap[i]? := fun i hi hne => g.block i hi (fun e => hne e.symm)
  have hbl : Below w0.heap.size w w' := ⟨g.os, g.tape, g.output, g.size, fun i hi => hk i (by have := C.b.size; omega) (fun e => by have := (C.o3.lt i e).1; omega)⟩
  have hap : ∀ (v : Value) E st (vs : List (List Value)), OwnS E st w w0.heap.size v vs → (∀ g, v3.ownBlock = some g → v.ownBlock ≠ some g) → ∀ g, v'.ownBlock = some g → v.ownBlock ≠ some g := fun v E st vs h1 h2 g hg hg2 => by
    rcases hv with h | h
    · exact h2 g (by rw [← h]; exact hg) hg2
    · rw [h] at hg; injection hg with hg; have := own_lt h1 hg2; omega
  refine ⟨below_setCell (C.b.trans hbl) _ _ C.hb0 _, C.hb0, ?_, ownS_off (ownS_kept C.o1 fun i hi => hk i (own_lt C.o1 hi) (fun e => ((C.ap i).1 hi).2 e)) C.ne.1 _ _, ownS_off (ownS_kept C.o2 fun i hi => hk i (own_lt C.o2 hi) (fun e => (C.ap i).2 hi e)) C.ne.2.1 _ _, ownS_off o hn1 _ _, ⟨C.ne.1, C.ne.2.1, hn1⟩, fun i => ⟨fun e => ⟨((C.ap i).1 e).1, fun e2 => hap _ _ _ _ C.o1 (fun g hg e3 => ((C.ap g).1 e3).2 hg) i e2 e⟩, fun e e2 => hap _ _ _ _ C.o2 (fun g hg e3 => (C.ap g).2 e3 hg) i e2 e⟩⟩
  rw [setCell_row ((hk hb hlt C.ne.2.2).trans C.hd)]; rfl
/-- A cell of the windows' row is written. -/
theorem Cb.put3 (C : Cb w0 w hb c v1 v2 v3) {i k : Nat} {x : Wn} (hx : c.wins[i]? = some x) (hk : k < 3) :
    ∃ g q, v3 = .slice (some ⟨g, 0, none⟩) c.wins.length q ∧ w.frozen? ⟨g, i * 3 + k, none⟩ = false ∧ (∀ u, (wnC x)[k]? = some u → w.cell? ⟨g, i * 3 + k, none⟩ = some u) ∧ ∀ (u : Value) (y : Wn), (wnC x).set k u = wnC y → Cb w0 (w.setCell ⟨g, i * 3 + k, none⟩ u) hb { c with wins := c.wins.set i y } v1 v2 v3 := by
  have hm : (c.wins.map wnC)[i]? = some (wnC x) := by rw [List.getElem?_map, hx]; rfl
  obtain ⟨g, q, hv, h1, h2, h3, h4, h5⟩ := ownS_set C.o3 (even_wn _) hm hk
  rw [List.length_map] at hv
  have hob : v3.ownBlock = some g := by rw [hv]; rfl
  refine ⟨g, q, hv, h3, h4, fun u y hy => ?_⟩
  have hg : g ≠ hb := fun e => C.ne.2.2 (by rw [hob, e])
  refine ⟨below_setCell C.b _ _ h1 _, C.hb0, ?_, ownS_off C.o1 (fun e => ((C.ap g).1 e).2 hob) _ _, ownS_off C.o2 (fun e => (C.ap g).2 e hob) _ _, ?_, C.ne, C.ap⟩
  · rw [Below.heap_setCell _ _ _ _ (Ne.symm hg)]; exact C.hd
  · have := h5 u
    rw [hy] at this
    show OwnS _ 3 _ _ _ ((c.wins.set i y).map wnC)
    rw [List.map_set]; exact this
theorem Cb.put1 (C : Cb w0 w hb c v1 v2 v3) {i k : Nat} {x : Pt} (hx : c.parts[i]? = some x) (hk : k < 3) :
    ∃ g q, v1 = .slice (some ⟨g, 0, none⟩) c.parts.length q ∧ w.frozen? ⟨g, i * 3 + k, none⟩ = false ∧ (∀ u, (ptC x)[k]? = some u → w.cell? ⟨g, i * 3 + k, none⟩ = some u) ∧ ∀ (u : Value) (y : Pt), (ptC x).set k u = ptC y → Cb w0 (w.setCell ⟨g, i * 3 + k, none⟩ u) hb { c with parts := c.parts.set i y } v1 v2 v3 := by
  have hm : (c.parts.map ptC)[i]? = some (ptC x) := by rw [List.getElem?_map, hx]; rfl
  obtain ⟨g, q, hv, h1, h2, h3, h4, h5⟩ := ownS_set C.o1 (even_pt _) hm hk
  rw [List.length_map] at hv
  have hob : v1.ownBlock = some g := by rw [hv]; rfl
  refine ⟨g, q, hv, h3, h4, fun u y hy => ?_⟩
  have hg : g ≠ hb := fun e => C.ne.1 (by rw [hob, e])
  refine ⟨below_setCell C.b _ _ h1 _, C.hb0, ?_, ?_, ownS_off C.o2 (fun e => ((C.ap g).1 hob).1 e) _ _, ownS_off C.o3 (fun e => ((C.ap g).1 hob).2 e) _ _, C.ne, C.ap⟩
  · rw [Below.heap_setCell _ _ _ _ (Ne.symm hg)]; exact C.hd
  · have := h5 u
    rw [hy] at this
    show OwnS _ 3 _ _ _ ((c.parts.set i y).map ptC)
    rw [List.map_set]; exact this
theorem Cb.put2 (C : Cb w0 w hb c v1 v2 v3) {i k : Nat} {x : Ch} (hx : c.chans[i]? = some x) (hk : k < 5) :
    ∃ g q, v2 = .slice (some ⟨g, 0, none⟩) c.chans.length q ∧ w.frozen? ⟨g, i * 5 + k, none⟩ = false ∧ (∀ u, (chC x)[k]? = some u → w.cell? ⟨g, i * 5 + k, none⟩ = some u) ∧ ∀ (u : Value) (y : Ch), (chC x).set k u = chC y → Cb w0 (w.setCell ⟨g, i * 5 + k, none⟩ u) hb { c with chans := c.chans.set i y } v1 v2 v3 := by
  have hm : (c.chans.map chC)[i]? = some (chC x) := by rw [List.getElem?_map, hx]; rfl
  obtain ⟨g, q, hv, h1, h2, h3, h4, h5⟩ := ownS_set C.o2 (even_ch _) hm hk
  rw [List.length_map] at hv
  have hob : v2.ownBlock = some g := by rw [hv]; rfl
  refine ⟨g, q, hv, h3, h4, fun u y hy => ?_⟩
  have hg : g ≠ hb := fun e => C.ne.2.1 (by rw [hob, e])
  refine ⟨below_setCell C.b _ _ h1 _, C.hb0, ?_, ownS_off C.o1 (fun e => ((C.ap g).1 e).1 hob) _ _, ?_, ownS_off C.o3 (fun e => (C.ap g).2 hob e) _ _, C.ne, C.ap⟩
  · rw [Below.heap_setCell _ _ _ _ (Ne.symm hg)]; exact C.hd
  · have := h5 u
    rw [hy] at this
    show OwnS _ 5 _ _ _ ((c.chans.set i y).map chC)
    rw [List.map_set]; exact this
/-- What a reader of it finds. -/
theorem Cb.lies (C : Cb w0 w hb c v1 v2 v3) : ∃ p1 c1 p2 c2 p3 c3, v1 = .slice p1 c.parts.length c1 ∧ v2 = .slice p2 c.chans.length c2 ∧ v3 = .slice p3 c.wins.length c3 ∧ (c1 ≤ maxLen ∧ c2 ≤ maxLen ∧ c3 ≤ maxLen) ∧
    LieS 3 w w.heap.size p1 c.parts.length c1 (c.parts.map ptC) ∧ LieS 5 w w.heap.size p2 c.chans.length c2 (c.chans.map chC) ∧ LieS 3 w w.heap.size p3 c.wins.length c3 (c.wins.map wnC) := by
  obtain ⟨p1, c1, e1, m1, L1⟩ := ownS_lie C.o1 (even_pt _)
  obtain ⟨p2, c2, e2, m2, L2⟩ := ownS_lie C.o2 (even_ch _)
  obtain ⟨p3, c3, e3, m3, L3⟩ := ownS_lie C.o3 (even_wn _)
  rw [List.length_map] at e1 e2 e3 L1 L2 L3
  exact ⟨p1, c1, p2, c2, p3, c3, e1, e2, e3, ⟨m1, m2, m3⟩, L1, L2, L3⟩
end
end Go.Proofs.YtogbhgbnminpdaaDoor.Cfg
