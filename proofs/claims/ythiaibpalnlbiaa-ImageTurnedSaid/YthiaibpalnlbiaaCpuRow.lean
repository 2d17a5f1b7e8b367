
/-
  Rows of ints and of bytes alike: what lies somewhere (Lie), what is the call's own (OwnK); append; no call of any package.
-/
import Derived.Test.YthiaibpalnlbiaaBytes
import Derived.Test.YthiaibpalnlbiaaCpuMath
import Derived.Lib.SliceRun
import Derived.Lib.AppendZeros
import Derived.OneCell
set_option maxRecDepth 100000
namespace Go.Proofs.Ythiaibpalnlbiaa.Ser
open Go.Proofs.Ythiaibpalnlbiaa
open Go.ChangeShapes Go.WideShapes Go.ChangeAt Go.RowKit
/-- The cells of numbers. -/
abbrev kL (k : IntKind) (xs : List Int) : List Value := xs.map (.int k)
theorem kL_one (k : IntKind) (xs : List Int) : ∀ u ∈ kL k xs, u.oneCell' = true := by
  intro u hu; obtain ⟨_, _, rfl⟩ := List.mem_map.1 hu; rfl
/-- The kinds of rows: the slice's type, its elements', the numbers' kind. -/
structure Kd (T E : TypeId) (k : IntKind) : Prop where
  under : Try.prog.underlying T = some (.slice E)
  info : ∃ b, b ≤ 8 ∧ (Try.prog.info? E).map (fun i => (i.zero, i.size, i.bytes)) = some (some (.int k 0), 1, b)
theorem kdB : Kd 22 5 .u8 := ⟨Try.underlying22, 1, by decide, by kernel_rfl⟩
/-- Numbers that lie somewhere, in a block below B. -/
structure Lie (k : IntKind) (w : World) (B : Nat) (p : Option Addr) (n c : Nat) (xs : List Int) : Prop where
  len : xs.length = n
  cap : n ≤ c
  nil : p = none → c = 0
  at_ : 0 < n → ∃ b off, p = some ⟨b, off, none⟩ ∧ b < B ∧ ∀ i x, xs[i]? = some x → w.cell? ⟨b, off + i, none⟩ = some (.int k x)
/-- A row of the call's own. -/
abbrev OwnK (E : TypeId) (k : IntKind) (w : World) (B : Nat) (v : Value) (xs : List Int) : Prop := w.ownsRow B E 1 v xs.length (kL k xs)
section
variable {k : IntKind} {T E : TypeId} {w w' : World} {B B' n c : Nat} {p : Option Addr} {v : Value} {xs : List Int}
theorem Lie.kept (h : Lie k w B p n c xs) (hb : Below B' w w') (hB : B ≤ B') : Lie k w' B p n c xs :=
  ⟨h.len, h.cap, h.nil, fun hn => by
    obtain ⟨b, off, e, hl, hc⟩ := h.at_ hn
    exact ⟨b, off, e, hl, fun i x hx => (World.cell?_of_block (hb.block b (by omega))).trans (hc i x hx)⟩⟩
theorem Lie.wide (h : Lie k w B p n c xs) (hB : B ≤ B') : Lie k w B' p n c xs :=
  ⟨h.len, h.cap, h.nil, fun hn => by
    obtain ⟨b, off, e, hl, hc⟩ := h.at_ hn
    exact ⟨b, off, e, by omega, hc⟩⟩
/-- What append asks of a source. -/
def SrcK (k : IntKind) (w : World) (sp : Option Addr) (xs : List Int) : Prop := 0 < xs.length → ∃ ad, sp = some ad ∧ ∀ j u, (kL k xs)[j]? = some u → w.cell? (ad.add j) = some u
theorem Lie.src (h : Lie k w B p n c xs) : SrcK k w p xs := by
  intro hn
  obtain ⟨b, off, e, hl, hc⟩ := h.at_ (by rw [← h.len]; exact hn)
  refine ⟨_, e, fun j u hu => ?_⟩
  obtain ⟨x, hx, rfl⟩ : ∃ x, xs[j]? = some x ∧ Value.int k x = u := by
    rw [List.getElem?_map] at hu
    exact Option.map_eq_some_iff.1 hu
  rw [Addr.add_lit]
  exact hc j x hx
theorem Lie.cell (h : Lie k w B p n c xs) {i : Nat} (hi : i < n) : ∃ b off, p = some ⟨b, off, none⟩ ∧ b < B ∧ w.cell? ⟨b, off + i, none⟩ = some (.int k (xs.getD i 0)) := by
  obtain ⟨b, off, e, hl, hc⟩ := h.at_ (by omega)
  have hx : i < xs.length := by rw [h.len]; exact hi
  exact ⟨b, off, e, hl, by rw [hc i xs[i] (List.getElem?_eq_getElem hx)]; simp [List.getD, hx]⟩
theorem ownK_nil (E : TypeId) (k : IntKind) (w : World) (B : Nat) : OwnK E k w B (.slice none 0 0) [] := World.ownsRow_nil _ _ _ _
theorem ownK_none (E : TypeId) (k : IntKind) (w : World) : OwnK E k (w.alloc (.cells #[] E)) w.heap.size (.slice (some ⟨w.heap.size, 0, none⟩) 0 0) [] :=
  ⟨rfl, .inr ⟨w.heap.size, 0, #[], rfl, Nat.le_refl _, heap_alloc_new _ _, Nat.le_refl _, by unfold maxLen; omega, rfl, rfl⟩⟩
theorem ownK_mono (h : OwnK E k w B v xs) (hB : B' ≤ B) : OwnK E k w B' v xs := by
  obtain ⟨h0, h1 | ⟨g, cap, cur, e1, h2, h3⟩⟩ := h
  · exact ⟨h0, .inl h1⟩
  · exact ⟨h0, .inr ⟨g, cap, cur, e1, Nat.le_trans hB h2, h3⟩⟩
theorem ownK_kept (h : OwnK E k w B v xs) (hb : ∀ g, v.ownBlock = some g → w'.heap[g]? = w.heap[g]?) : OwnK E k w' B v xs := by
  obtain ⟨h0, h1 | ⟨g, cap, cur, rfl, h2, h3, h4⟩⟩ := h
  · exact ⟨h0, .inl h1⟩
  · exact ⟨h0, .inr ⟨g, cap, cur, rfl, h2, (hb g rfl).trans h3, h4⟩⟩
theorem ownK_below (h : OwnK E k w B v xs) (hb : Below w.heap.size w w') : OwnK E k w' B v xs :=
  ownK_kept h fun g hg => hb.block g (h.lt g hg).2
theorem ownK_lie (h : OwnK E k w B v xs) : ∃ p c, v = .slice p xs.length c ∧ c ≤ maxLen ∧ Lie k w w.heap.size p xs.length c xs := by
  obtain ⟨h0, ⟨rfl, h1⟩ | ⟨g, cap, cur, rfl, h2, h3, h4, h5, h6, h7⟩⟩ := h
  · obtain rfl := List.eq_nil_of_length_eq_zero h1
    exact ⟨none, 0, rfl, by unfold maxLen; omega, rfl, Nat.le_refl _, fun _ => rfl, fun h => by simp at h⟩
  · refine ⟨_, _, rfl, h5, rfl, h4, (fun h => by cases h), fun hn => ⟨g, 0, rfl, (Array.getElem?_eq_some_iff.1 h3).1, fun i x hx => ?_⟩⟩
    have hi : i < xs.length := (List.getElem?_eq_some_iff.1 hx).1
    rw [Nat.zero_add, cell_of_row w g i _ _ _ h3]
    have e : (cur.toList.take (xs.length * 1))[i]? = (kL k xs)[i]? := by rw [h7]
    rw [Nat.mul_one, List.getElem?_take_of_lt hi] at e
    rw [← Array.getElem?_toList, e, List.getElem?_map, hx]; rfl
/-- A cell of a row of one's own, and the row with another number in it. -/
theorem ownK_cell {j : Nat} (h : OwnK E k w B v xs) (hj : j < xs.length) : ∃ g c, v = .slice (some ⟨g, 0, none⟩) xs.length c ∧ c ≤ maxLen ∧ xs.length ≤ c ∧ B ≤ g ∧ g < w.heap.size ∧ w.cell? ⟨g, j, none⟩ = some (.int k (xs.getD j 0)) ∧ w.frozen? ⟨g, j, none⟩ = false ∧ ∀ x : Int, OwnK E k (w.setCell ⟨g, j, none⟩ (.int k x)) B v (xs.set j x) := by
  obtain ⟨h0, ⟨h1, h2⟩ | ⟨g, cap, cur, rfl, h2, h3, h4, h5, h6, h7⟩⟩ := h
  · omega
  · have hv : cur[j]? = some (.int k (xs.getD j 0)) := by
      have e : (cur.toList.take (xs.length * 1))[j]? = (kL k xs)[j]? := by rw [h7]
      rw [Nat.mul_one, List.getElem?_take_of_lt hj] at e
      simpa [hj] using e
    refine ⟨g, cap, rfl, h5, h4, h2, (Array.getElem?_eq_some_iff.1 h3).1, by rw [cell_of_row w g j _ _ _ h3]; exact hv, by simp [World.frozen?, h3], fun x => ?_⟩
    refine ⟨by simp, .inr ⟨g, cap, cur.setIfInBounds j (.int k x), by rw [List.length_set], h2, setCell_row h3 _ _, by simpa using h4, h5, by simpa using h6, ?_⟩⟩
    rw [List.length_set, Array.toList_setIfInBounds, List.take_set, h7]
    simp
theorem ownK_off (h : OwnK E k w B v xs) {g : Nat} (hg : v.ownBlock ≠ some g) (j : Nat) (x : Value) : OwnK E k (w.setCell ⟨g, j, none⟩ x) B v xs :=
  ownK_kept h fun _ hi => Below.heap_setCell _ _ _ _ (fun e => hg (hi.trans (congrArg some e)))
theorem grown_below (h : w.grownBy w' v.ownBlock) (hB : B ≤ w.heap.size) (hv : ∀ g, v.ownBlock = some g → B ≤ g) : Below B w w' :=
  ⟨h.os, h.tape, h.output, h.size, fun i hi => h.block i (by omega) (fun e => by have := hv i e.symm; omega)⟩
/-- What 'append(s, b...)' does: s a row of the call's own, b lies anywhere. -/
theorem app_run (K : Kd T E k) (ty : TypeId) (hB : B ≤ w.heap.size) {v1 : Value} {R1 : List Int} (hown : OwnK E k w B v1 R1)
    {p : Option Addr} {m c : Nat} (R2 : List Int) (hm : R2.length = m) (hc : p = none → c = 0) (hsrc : SrcK k w p R2) (hsz : R1.length + m ≤ 1000000) :
    ∃ v' w', (Builtin.append_ #[T, T] ty #[v1, .slice p m c]).run Try.prog w = .ok v' w' ∧ OwnK E k w' B v' (R1 ++ R2) ∧ Below B w w' ∧ ∀ g, v'.ownBlock = some g → v1.ownBlock = some g ∨ w.heap.size ≤ g := by
  obtain ⟨bb, hbb, hinfo⟩ := K.info
  obtain ⟨i, hi, hz0, hz1, hz2⟩ := info_parts hinfo
  have hlt := hown.lt
  cases p with
  | none =>
    obtain rfl := hc rfl
    have h0 : R2.length = 0 := by
      rcases Nat.eq_zero_or_pos R2.length with h0 | h0
      · exact h0
      · obtain ⟨ad, e, -⟩ := hsrc h0; cases e
    obtain rfl : m = 0 := by omega
    obtain rfl := List.eq_nil_of_length_eq_zero h0
    exact ⟨v1, w, run_append_owned_none (P := Try.prog) (w := w) B T ty E i 1 K.under hi v1 R1.length (kL k R1) hown, by rw [List.append_nil]; exact hown, Below.refl _ _, fun g hg => .inl hg⟩
  | some ad =>
    have hcs : ∀ j u, (kL k R2)[j]? = some u → w.cell? (ad.add j) = some u := by
      intro j u hu
      have hj : j < R2.length := by have := (List.getElem?_eq_some_iff.1 hu).1; simpa using this
      obtain ⟨ad', e, hcs⟩ := hsrc (by omega)
      obtain rfl := Option.some.inj e
      exact hcs j u hu
    obtain ⟨v', w', hr, h2, h3, -, h5⟩ := run_append_own_at (P := Try.prog) w B T ty E i _ 1 bb K.under hi hz0 hz1 hz2 rfl (by decide) v1 R1.length (kL k R1) hown ad m c (kL k R2) (by rw [List.length_map, hm, Nat.mul_one]) hcs (kL_one _ _) (by unfold maxLen; omega) (by have : (R1.length + m) * bb ≤ 1000000 * 8 := Nat.mul_le_mul hsz hbb; omega) hB
    refine ⟨v', w', hr, ?_, grown_below h3 hB fun g hg => (hlt g hg).1, ?_⟩
    · have e : kL k (R1 ++ R2) = kL k R1 ++ kL k R2 := List.map_append
      unfold OwnK; rw [List.length_append, e, hm]; exact h2
    · intro g hg
      rcases h5 with h5 | h5
      · exact .inl (by rw [← h5]; exact hg)
      · rw [h5] at hg; injection hg with hg; exact .inr (by omega)
theorem wpList_appK {ops : Array Oper} {rest : List Oper} {o : Oper} {a : Act} {Q : Exit → Act → World → Prop} (K : Kd T E k) (hgd : o.guard = none) (s x : Operand)
    (ho : o.op = .call { callee := .builtin .append, args := #[s, x], argTypes := #[T, T] }) (hB : B ≤ w.heap.size) {v1 : Value} {R1 : List Int} (hs : a.eval s = v1) (hown : OwnK E k w B v1 R1)
    {p : Option Addr} {m c : Nat} (R2 : List Int) (hx : a.eval x = .slice p m c) (hm : R2.length = m) (hc : p = none → c = 0) (hsrc : SrcK k w p R2) (hsz : R1.length + m ≤ 1000000)
    (h : ∀ v' w', OwnK E k w' B v' (R1 ++ R2) → Below B w w' → (∀ g, v'.ownBlock = some g → v1.ownBlock = some g ∨ w.heap.size ≤ g) → wpList Try.prog ops Q rest (a.put o.dst v') w') : wpList Try.prog ops Q (o :: rest) a w := by
  obtain ⟨v', w', hr, h1, h2, h3⟩ := app_run K o.type hB hown R2 hm hc hsrc hsz
  exact Lib.wpList_append_run w hgd s x T T ho v1 _ hs hx v' w' hr (h v' w' h1 h2 h3)
/-- The same step where a region draws its order. -/
theorem step_appK {ops : Array Oper} {o : Oper} {a : Act} {Q : Exit → Act → World → Prop} {X : Prop} {J : Act → World → Prop} (K : Kd T E k) (hgd : o.guard = none) (s x : Operand)
    (ho : o.op = .call { callee := .builtin .append, args := #[s, x], argTypes := #[T, T] }) (hB : B ≤ w.heap.size) {v1 : Value} {R1 : List Int} (hs : a.eval s = v1) (hown : OwnK E k w B v1 R1)
    {p : Option Addr} {m c : Nat} (R2 : List Int) (hx : a.eval x = .slice p m c) (hm : R2.length = m) (hc : p = none → c = 0) (hsrc : SrcK k w p R2) (hsz : R1.length + m ≤ 1000000)
    (h : ∀ v' w', OwnK E k w' B v' (R1 ++ R2) → Below B w w' → (∀ g, v'.ownBlock = some g → v1.ownBlock = some g ∨ w.heap.size ≤ g) → J (a.put o.dst v') w') :
    if Region.wanted o (yielded ops a.tmps) = true then Oper.wp Try.prog o a w J Q else X := by
  obtain ⟨v', w', hr, h1, h2, h3⟩ := app_run K o.type hB hown R2 hm hc hsrc hsz
  rw [if_pos (by simp [Region.wanted, hgd])]
  exact Lib.wp_append_run w s x T T ho v1 _ hs hx v' w' hr (h v' w' h1 h2 h3)
end
end Go.Proofs.Ythiaibpalnlbiaa.Ser
