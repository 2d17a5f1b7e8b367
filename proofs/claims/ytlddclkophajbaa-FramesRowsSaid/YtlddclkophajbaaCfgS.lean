
/-
  Rows of structs of the call's own: append of one, of many; a cell that is written.
-/
import Derived.Test.YtlddclkophajbaaCfgMath
import Derived.Deep.Draws
import Derived.Lib.AppendStr
import Derived.Maps.AppendAt
import Derived.Lib.AppendZeros
set_option maxRecDepth 100000
set_option linter.unusedVariables false
namespace Go.Proofs.Ytlddclkophajbaa.Cfg
open Go.Proofs.Ytlddclkophajbaa
open Go.ChangeShapes Go.WideShapes Go.ChangeAt Go.RowKit
theorem setCell_row {w : World} {g : Nat} {cur : Array Value} {t : TypeId} {fr : Nat × Nat} (h : w.heap[g]? = Option.some (.cells cur t fr)) (o : Nat) (v : Value) : (w.setCell ⟨g, o, none⟩ v).heap[g]? = Option.some (.cells (cur.setIfInBounds o v) t fr) := by
  simp only [World.setCell, Array.getElem?_modify, if_true, h, Option.map_some]
  simp
/-- The slice's type, its elements', how many cells. -/
structure KdS (T E : TypeId) (st : Nat) : Prop where
  under : Try.prog.underlying T = some (.slice E)
  info : ∃ z b, b ≤ 64 ∧ z.cells.size = st ∧ (Try.prog.info? E).map (fun i => (i.zero, i.size, i.bytes)) = some (some z, st, b)
  pos : 0 < st
theorem kdP : KdS 22 38 3 := ⟨Try.underlying22, ⟨.agg #[.string ByteArray.empty, .int .i64 0, .int .i64 0], 32, by decide, rfl, by kernel_rfl⟩, by decide⟩
theorem kdC : KdS 23 48 5 := ⟨Try.underlying23, ⟨.agg #[.int .i64 0, .int .i64 0, .int .i64 0, .int .i64 0, .int .i64 0], 40, by decide, rfl, by kernel_rfl⟩, by decide⟩
theorem kdW : KdS 24 41 3 := ⟨Try.underlying24, ⟨.agg #[.int .i64 0, .int .i64 0, .int .i64 0], 24, by decide, rfl, by kernel_rfl⟩, by decide⟩
/-- All structs have so many cells, and these are single. -/
structure Even (st : Nat) (vs : List (List Value)) : Prop where
  len : ∀ x ∈ vs, x.length = st
  one : ∀ x ∈ vs, ∀ u ∈ x, u.oneCell' = true
theorem Even.flat {st : Nat} : ∀ {vs : List (List Value)}, Even st vs → vs.flatten.length = vs.length * st
  | [], _ => by simp
  | x :: r, h => by
    have ih := Even.flat (st := st) (vs := r) ⟨fun y hy => h.len y (List.mem_cons_of_mem _ hy), fun y hy => h.one y (List.mem_cons_of_mem _ hy)⟩
    rw [List.flatten_cons, List.length_append, ih, h.len x (List.mem_cons_self ..), List.length_cons, Nat.succ_mul, Nat.add_comm]
theorem Even.ones {st : Nat} {vs : List (List Value)} (h : Even st vs) : ∀ u ∈ vs.flatten, u.oneCell' = true := by
  intro u hu
  obtain ⟨x, hx, hux⟩ := List.mem_flatten.1 hu
  exact h.one x hx u hux
theorem Even.app {st : Nat} {vs us : List (List Value)} (h : Even st vs) (h' : Even st us) : Even st (vs ++ us) :=
  ⟨fun x hx => (List.mem_append.1 hx).elim (h.len x) (h'.len x), fun x hx => (List.mem_append.1 hx).elim (h.one x) (h'.one x)⟩
theorem Even.at {st : Nat} : ∀ {vs : List (List Value)} (i : Nat) (x : List Value) (k : Nat) (v : Value), Even st vs → vs[i]? = some x → x[k]? = some v → vs.flatten[i * st + k]? = some v
  | [], i, x, k, v, _, h, _ => by simp at h
  | y :: r, 0, x, k, v, h, hx, hv => by
    simp only [List.getElem?_cons_zero, Option.some.injEq] at hx
    subst hx
    rw [List.flatten_cons, Nat.zero_mul, Nat.zero_add, List.getElem?_append_left (List.getElem?_eq_some_iff.1 hv).1]
    exact hv
  | y :: r, i + 1, x, k, v, h, hx, hv => by
    have hl := h.len y (List.mem_cons_self ..)
    have ih := Even.at (st := st) (vs := r) i x k v ⟨fun z hz => h.len z (List.mem_cons_of_mem _ hz), fun z hz => h.one z (List.mem_cons_of_mem _ hz)⟩ (by simpa using hx) hv
    rw [List.flatten_cons, List.getElem?_append_right (by rw [hl, Nat.succ_mul]; omega), hl, show (i + 1) * st + k - st = i * st + k by rw [Nat.succ_mul]; omega]
    exact ih
theorem even_pt (l : List Pt) : Even 3 (l.map ptC) := ⟨fun x hx => by obtain ⟨q, -, rfl⟩ := List.mem_map.1 hx; rfl, fun x hx u hu => by obtain ⟨q, -, rfl⟩ := List.mem_map.1 hx; simp at hu; rcases hu with rfl | rfl | rfl <;> rfl⟩
theorem even_ch (l : List Ch) : Even 5 (l.map chC) := ⟨fun x hx => by obtain ⟨q, -, rfl⟩ := List.mem_map.1 hx; rfl, fun x hx u hu => by obtain ⟨q, -, rfl⟩ := List.mem_map.1 hx; simp at hu; rcases hu with rfl | rfl | rfl | rfl | rfl <;> rfl⟩
theorem even_wn (l : List Wn) : Even 3 (l.map wnC) := ⟨fun x hx => by obtain ⟨q, -, rfl⟩ := List.mem_map.1 hx; rfl, fun x hx u hu => by obtain ⟨q, -, rfl⟩ := List.mem_map.1 hx; simp at hu; rcases hu with rfl | rfl | rfl <;> rfl⟩
/-- A row of structs of one's own. -/
abbrev OwnS (E : TypeId) (st : Nat) (w : World) (B : Nat) (v : Value) (vs : List (List Value)) : Prop := w.ownsRow B E st v vs.length vs.flatten
section
variable {T E : TypeId} {st : Nat} {w w' : World} {B B' : Nat} {v : Value} {vs : List (List Value)}
theorem ownS_nil (E : TypeId) (st : Nat) (w : World) (B : Nat) : OwnS E st w B (.slice none 0 0) [] := World.ownsRow_nil _ _ _ _
theorem ownS_mono (h : OwnS E st w B v vs) (hB : B' ≤ B) : OwnS E st w B' v vs := by
  obtain ⟨h0, h1 | ⟨g, cap, cur, e1, h2, h3⟩⟩ := h
  · exact ⟨h0, .inl h1⟩
  · exact ⟨h0, .inr ⟨g, cap, cur, e1, Nat.le_trans hB h2, h3⟩⟩
theorem ownS_kept (h : OwnS E st w B v vs) (hb : ∀ g, v.ownBlock = some g → w'.heap[g]? = w.heap[g]?) : OwnS E st w' B v vs := by
  obtain ⟨h0, h1 | ⟨g, cap, cur, rfl, h2, h3, h4⟩⟩ := h
  · exact ⟨h0, .inl h1⟩
  · exact ⟨h0, .inr ⟨g, cap, cur, rfl, h2, (hb g rfl).trans h3, h4⟩⟩
theorem ownS_below (h : OwnS E st w B v vs) (hb : Below w.heap.size w w') : OwnS E st w' B v vs :=
  ownS_kept h fun g hg => hb.block g (h.lt g hg).2
theorem ownS_form (h : OwnS E st w B v vs) : ∃ p c, v = .slice p vs.length c ∧ (p = none → c = 0) ∧ vs.length ≤ c ∧ c ≤ maxLen := by
  obtain ⟨h0, ⟨rfl, h1⟩ | ⟨g, cap, cur, rfl, h2, h3, h4, h5, -⟩⟩ := h
  · exact ⟨none, 0, by rw [h1], fun _ => rfl, by omega, by unfold maxLen; omega⟩
  · exact ⟨_, _, rfl, (fun h => by cases h), h4, h5⟩
/-- A row of one's own lies. -/
theorem ownS_lie (h : OwnS E st w B v vs) (he : Even st vs) : ∃ p c, v = .slice p vs.length c ∧ c ≤ maxLen ∧ LieS st w w.heap.size p vs.length c vs := by
  obtain ⟨h0, ⟨rfl, h1⟩ | ⟨g, cap, cur, rfl, h2, h3, h4, h5, h6, h7⟩⟩ := h
  · obtain rfl := List.eq_nil_of_length_eq_zero h1
    exact ⟨none, 0, rfl, by unfold maxLen; omega, rfl, Nat.le_refl _, fun _ => rfl, fun h => by simp at h⟩
  · refine ⟨_, _, rfl, h5, rfl, h4, (fun h => by cases h), fun hn => ⟨g, 0, rfl, (Array.getElem?_eq_some_iff.1 h3).1, fun i x hx k u hu => ?_⟩⟩
    have hv := Even.at i x k u he hx hu
    rw [Nat.zero_add, cell_of_row w g _ _ _ _ h3]
    have e : (cur.toList.take (vs.length * st))[i * st + k]? = some u := by rw [h7]; exact hv
    have hi : i * st + k < vs.length * st := by have := (List.getElem?_eq_some_iff.1 hv).1; rw [he.flat] at this; exact this
    rw [List.getElem?_take_of_lt hi] at e
    rw [← Array.getElem?_toList]; exact e
theorem grown_below' (h : w.grownBy w' v.ownBlock) (hB : B ≤ w.heap.size) (hv : ∀ g, v.ownBlock = some g → B ≤ g) : Below B w w' :=
  ⟨h.os, h.tape, h.output, h.size, fun i hi => h.block i (by omega) (fun e => by have := hv i e.symm; omega)⟩
/-- What append asks of a source. -/
def SrcS (st : Nat) (w : World) (sp : Option Addr) (us : List (List Value)) : Prop := 0 < us.length → ∃ ad, sp = some ad ∧ ∀ j u, us.flatten[j]? = some u → w.cell? (ad.add j) = some u
theorem flat_cell {st : Nat} (hp : 0 < st) : ∀ {us : List (List Value)}, Even st us → ∀ j u, us.flatten[j]? = some u → ∃ i x k, us[i]? = some x ∧ x[k]? = some u ∧ j = i * st + k
  | [], _, j, u, h => by simp at h
  | x :: r, he, j, u, h => by
    have hl := he.len x (List.mem_cons_self ..)
    rw [List.flatten_cons] at h
    by_cases hj : j < st
    · rw [List.getElem?_append_left (by omega)] at h
      exact ⟨0, x, j, rfl, h, by omega⟩
    · rw [List.getElem?_append_right (by omega), hl] at h
      obtain ⟨i, y, k, h1, h2, h3⟩ := flat_cell hp (us := r) ⟨fun z hz => he.len z (List.mem_cons_of_mem _ hz), fun z hz => he.one z (List.mem_cons_of_mem _ hz)⟩ (j - st) u h
      exact ⟨i + 1, y, k, by simpa using h1, h2, by rw [Nat.succ_mul]; omega⟩
theorem LieS.src {n c : Nat} {p : Option Addr} (hp : 0 < st) (h : LieS st w B p n c vs) (he : Even st vs) : SrcS st w p vs := by
  intro hn
  obtain ⟨b, off, e, -, ha⟩ := h.at_ (by rw [← h.len]; exact hn)
  refine ⟨_, e, fun j u hu => ?_⟩
  obtain ⟨i, x, k, h1, h2, rfl⟩ := flat_cell hp he j u hu
  rw [Addr.add_lit, ← Nat.add_assoc]
  exact ha i x h1 k u h2
/-- What 'append(s, b...)' does: s a row of the call's own, b lies anywhere. -/
theorem appS_run (K : KdS T E st) (ty : TypeId) (hB : B ≤ w.heap.size) {v1 : Value} {R1 : List (List Value)} (hown : OwnS E st w B v1 R1)
    {p : Option Addr} {m c : Nat} (R2 : List (List Value)) (he2 : Even st R2) (hm : R2.length = m) (hc : p = none → c = 0) (hsrc : SrcS st w p R2) (hsz : R1.length + m ≤ 1000000) :
    ∃ v' w', (Builtin.append_ #[T, T] ty #[v1, .slice p m c]).run Try.prog w = .ok v' w' ∧ OwnS E st w' B v' (R1 ++ R2) ∧ Below B w w' ∧ w.grownBy w' v1.ownBlock ∧ (v'.ownBlock = v1.ownBlock ∨ v'.ownBlock = some w.heap.size) := by
  obtain ⟨z, bb, hbb, hzs, hinfo⟩ := K.info
  obtain ⟨i, hi, hz0, hz1, hz2⟩ := info_parts hinfo
  have hlt := hown.lt
  cases p with
  | none =>
    obtain rfl := hc rfl
    have h0 : R2.length = 0 := by
      rcases Nat.eq_zero_or_pos R2.length with h0 | h0
      · exact h0
      · obtain ⟨ad, e, -⟩ := hsrc h0; cases e
    obtain rfl : m = 0 := by omega
    obtain rfl := List.eq_nil_of_length_eq_zero h0
    refine ⟨v1, w, run_append_owned_none (P := Try.prog) (w := w) B T ty E i st K.under hi v1 R1.length R1.flatten hown, by rw [List.append_nil]; exact hown, Below.refl _ _, ⟨rfl, rfl, rfl, Nat.le_refl _, fun _ _ _ => rfl⟩, .inl rfl⟩
  | some ad =>
    have hcs : ∀ j u, R2.flatten[j]? = some u → w.cell? (ad.add j) = some u := by
      intro j u hu
      have hj : 0 < R2.length := by
        rcases Nat.eq_zero_or_pos R2.length with h0 | h0
        · rw [List.eq_nil_of_length_eq_zero h0] at hu; simp at hu
        · exact h0
      obtain ⟨ad', e, hcs⟩ := hsrc hj
      obtain rfl := Option.some.inj e
      exact hcs j u hu
    obtain ⟨v', w', hr, h2, h3, -, h5⟩ := run_append_own_at (P := Try.prog) w B T ty E i z st bb K.under hi hz0 hz1 hz2 hzs K.pos v1 R1.length R1.flatten hown ad m c R2.flatten (by rw [he2.flat, hm]) hcs he2.ones (by unfold maxLen; omega) (by have : (R1.length + m) * bb ≤ 1000000 * 64 := Nat.mul_le_mul hsz hbb; omega) hB
    refine ⟨v', w', hr, ?_, grown_below' h3 hB fun g hg => (hlt g hg).1, h3, h5⟩
    unfold OwnS; rw [List.length_append, List.flatten_append, hm]; exact h2
theorem wpList_appS {ops : Array Oper} {rest : List Oper} {o : Oper} {a : Act} {Q : Exit → Act → World → Prop} (K : KdS T E st) (hgd : o.guard = none) (s x : Operand)
    (ho : o.op = .call { callee := .builtin .append, args := #[s, x], argTypes := #[T, T] }) (hB : B ≤ w.heap.size) {v1 : Value} {R1 : List (List Value)} (hs : a.eval s = v1) (hown : OwnS E st w B v1 R1)
    {p : Option Addr} {m c : Nat} (R2 : List (List Value)) (he2 : Even st R2) (hx : a.eval x = .slice p m c) (hm : R2.length = m) (hc : p = none → c = 0) (hsrc : SrcS st w p R2) (hsz : R1.length + m ≤ 1000000)
    (h : ∀ v' w', OwnS E st w' B v' (R1 ++ R2) → Below B w w' → w.grownBy w' v1.ownBlock → (v'.ownBlock = v1.ownBlock ∨ v'.ownBlock = some w.heap.size) → wpList Try.prog ops Q rest (a.put o.dst v') w') : wpList Try.prog ops Q (o :: rest) a w := by
  obtain ⟨v', w', hr, h1, h2, h3, h4⟩ := appS_run K o.type hB hown R2 he2 hm hc hsrc hsz
  exact Lib.wpList_append_run w hgd s x T T ho v1 _ hs hx v' w' hr (h v' w' h1 h2 h3 h4)
theorem step_appS {ops : Array Oper} {o : Oper} {a : Act} {Q : Exit → Act → World → Prop} {X : Prop} {J : Act → World → Prop} (K : KdS T E st) (hgd : o.guard = none) (s x : Operand)
    (ho : o.op = .call { callee := .builtin .append, args := #[s, x], argTypes := #[T, T] }) (hB : B ≤ w.heap.size) {v1 : Value} {R1 : List (List Value)} (hs : a.eval s = v1) (hown : OwnS E st w B v1 R1)
    {p : Option Addr} {m c : Nat} (R2 : List (List Value)) (he2 : Even st R2) (hx : a.eval x = .slice p m c) (hm : R2.length = m) (hc : p = none → c = 0) (hsrc : SrcS st w p R2) (hsz : R1.length + m ≤ 1000000)
    (h : ∀ v' w', OwnS E st w' B v' (R1 ++ R2) → Below B w w' → w.grownBy w' v1.ownBlock → (v'.ownBlock = v1.ownBlock ∨ v'.ownBlock = some w.heap.size) → J (a.put o.dst v') w') :
    if Region.wanted o (yielded ops a.tmps) = true then Oper.wp Try.prog o a w J Q else X := by
  obtain ⟨v', w', hr, h1, h2, h3, h4⟩ := appS_run K o.type hB hown R2 he2 hm hc hsrc hsz
  rw [if_pos (by simp [Region.wanted, hgd])]
  exact Lib.wp_append_run w s x T T ho v1 _ hs hx v' w' hr (h v' w' h1 h2 h3 h4)
end
/-- A struct that was laid in a new block. -/
theorem src_new (w : World) (st : Nat) (x : List Value) (ty : TypeId) : SrcS st (w.alloc (.cells x.toArray ty)) (some ⟨w.heap.size, 0, none⟩) [x] := by
  intro _
  refine ⟨_, rfl, fun j u hu => ?_⟩
  rw [Addr.add_lit, Nat.zero_add, cell_of_row _ w.heap.size j _ _ _ (heap_alloc_new w _), ← hu]
  simp
theorem SrcS.kept {st : Nat} {w w' : World} {p : Option Addr} {us : List (List Value)} {g : Nat} (h : SrcS st w p us) (hp : ∀ ad, p = some ad → ad.block = g) (hg : w'.heap[g]? = w.heap[g]?) : SrcS st w' p us := by
  intro hn
  obtain ⟨ad, rfl, hc⟩ := h hn
  refine ⟨ad, rfl, fun j u hu => ?_⟩
  have := hp ad rfl
  subst this
  have hb : (ad.add j).block = ad.block := by unfold Addr.add; split <;> rfl
  exact (World.cell?_of_block (by rw [hb]; exact hg)).trans (hc j u hu)
end Go.Proofs.Ytlddclkophajbaa.Cfg
