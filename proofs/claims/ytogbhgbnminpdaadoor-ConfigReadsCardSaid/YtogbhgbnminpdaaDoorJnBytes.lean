/-
  Kit of worlds and bytes: what is kept (But), rows of bytes, things that lie apart (Thing, Sep); no call of any package. | Rows of ints and of bytes alike: what lies somewhere (Lie), what is the call's own (OwnK); append; no call of any package.
-/
import Derived.Test.YtogbhgbnminpdaaDoorJnWord
import Derived.Test.YtogbhgbnminpdaaDoorJnNum
import Derived.Laws.CopyOwn
import Derived.Laws.AppendOwnNone
import Derived.Laws.BytesArg
import Derived.Deep.AppendLies
import Derived.Deep.RegionHeld3
import Derived.Deep.Cut
import Derived.Shelf.Abstract
import Derived.Laws.EntriesVeiled
import Derived.LoopTactic
import Derived.Lib.SliceRun
import Derived.Lib.AppendZeros
import Derived.OneCell
set_option linter.unusedVariables false
set_option maxRecDepth 100000
set_option linter.unusedVariables false
namespace Go.Proofs.YtogbhgbnminpdaaDoor.Ser
open Go.Proofs.YtogbhgbnminpdaaDoor
open Go.ChangeShapes Go.WideShapes Go.ChangeAt Go.RowKit
/-- The cells of bytes. -/
abbrev u8L (bs : List Int) : List Value := bs.map (.int .u8)
theorem u8_one (xs : List Int) : ∀ u ∈ u8L xs, u.oneCell' = true := by
  intro u hu; obtain ⟨_, _, rfl⟩ := List.mem_map.1 hu; rfl
theorem info_u8 : (Tryd.prog.info? 5).map (fun i => (i.zero, i.size, i.bytes)) = some (some (.int .u8 0), 1, 1) := by kernel_rfl
/-- All that lay lies as it did, but for blocks of S. -/
structure But (S : Nat → Prop) (w w' : World) : Prop where
  os : w'.os = w.os
  tape : w'.tape = w.tape
  output : w'.output = w.output
  size : w.heap.size ≤ w'.heap.size
  block : ∀ k, k < w.heap.size → ¬ S k → w'.heap[k]? = w.heap[k]?
section
variable {S S' T : Nat → Prop} {w w' w'' : World}
theorem But.refl (S : Nat → Prop) (w : World) : But S w w := ⟨rfl, rfl, rfl, Nat.le_refl _, fun _ _ _ => rfl⟩
theorem But.then (h : But S w w') (h' : But S' w' w'') (hT : ∀ i, S i → T i) (hT' : ∀ i, i < w.heap.size → S' i → T i) : But T w w'' :=
  ⟨h'.os.trans h.os, h'.tape.trans h.tape, h'.output.trans h.output, Nat.le_trans h.size h'.size, fun k hk hn =>
    (h'.block k (Nat.lt_of_lt_of_le hk h.size) (fun hs => hn (hT' k hk hs))).trans (h.block k hk (fun hs => hn (hT k hs)))⟩
theorem But.trans (h : But S w w') (h' : But S w' w'') : But S w w'' := h.then h' (fun _ h => h) (fun _ _ h => h)
theorem But.mono (h : But S w w') (hT : ∀ i, S i → T i) : But T w w' := ⟨h.os, h.tape, h.output, h.size, fun k hk hn => h.block k hk (fun hs => hn (hT k hs))⟩
theorem But.drew (h : But S w w') : But S w w'.drew := ⟨h.os, h.tape, h.output, h.size, h.block⟩
theorem But.alloc (h : But S w w') (o : Obj) : But S w (w'.alloc o) :=
  h.trans ⟨rfl, rfl, rfl, by simp, fun k hk _ => Below.heap_alloc _ _ _ hk⟩
theorem But.setCell (h : But S w w') (a : Addr) (ha : S a.block) (v : Value) : But S w (w'.setCell a v) :=
  h.trans ⟨rfl, rfl, rfl, by simp [World.setCell], fun k _ hn => Below.heap_setCell _ _ _ _ (fun e => hn (e ▸ ha))⟩
theorem But.grown {row : Option Nat} (h : But S w w') (hg : w'.grownBy w'' row) (hr : ∀ k, row = some k → S k) : But S w w'' :=
  h.trans ⟨hg.os, hg.tape, hg.output, hg.size, fun k hk hn => hg.block k hk (fun e => hn (hr k e.symm))⟩
theorem But.below (h : But S w w') {B : Nat} (hB : B ≤ w.heap.size) (hS : ∀ i, S i → B ≤ i) : Below B w w' :=
  ⟨h.os, h.tape, h.output, h.size, fun k hk => h.block k (by omega) (fun hs => by have := hS k hs; omega)⟩
theorem But.of {B : Nat} (h : Below B w w') (hB : w.heap.size ≤ B) : But S w w' := ⟨h.os, h.tape, h.output, h.size, fun k hk _ => h.block k (by omega)⟩
theorem But.cell (h : But S w w') {a : Addr} {v : Value} (hc : w.cell? a = some v) (hn : ¬ S a.block) : w'.cell? a = some v :=
  (World.cell?_of_block (h.block a.block (World.block_lt_of_cell? w a hc) hn)).trans hc
theorem setCell_row {g : Nat} {cur : Array Value} {t : TypeId} {fr : Nat × Nat} (h : w.heap[g]? = Option.some (.cells cur t fr)) (o : Nat) (v : Value) : (w.setCell ⟨g, o, none⟩ v).heap[g]? = Option.some (.cells (cur.setIfInBounds o v) t fr) := by
  simp only [World.setCell, Array.getElem?_modify, if_true, h, Option.map_some]
  simp
end
/-- Bytes that lie somewhere. -/
def Src (w : World) (sp : Option Addr) (xs : List Int) : Prop := 0 < xs.length → ∃ ad, sp = some ad ∧ ∀ j u, (u8L xs)[j]? = some u → w.cell? (ad.add j) = some u
/-- Bytes, as Go's text. -/
theorem conv_src {w : World} {sp : Option Addr} {xs : List Int} (h : Src w sp xs) (c : Nat) : (convert 32 9 (.slice sp xs.length c)).run Tryd.prog w = .ok (.string (strOfNums xs)) w := by
  by_cases hz : xs.length = 0
  · obtain rfl := List.eq_nil_of_length_eq_zero hz
    cases sp with
    | none => rw [run_convert_bytes_nil w 32 5 Tryd.underlying32 Tryd.underlying5 _ _ 9 Tryd.underlying9]; rfl
    | some ad =>
      have hl : (loadCells ad 0).run Tryd.prog w = .ok (([] : List Int).map (Value.int .u8)).toArray w := by simpa using run_loadCells_list (P := Tryd.prog) w ad [] (by simp)
      rw [run_convert_bytes_string w 32 9 5 _ _ c Tryd.underlying32 Tryd.underlying5 Tryd.underlying9, List.length_nil, run_bytesToString w _ _ c [] hl]; rfl
  · obtain ⟨ad, rfl, hc⟩ := h (by omega)
    have hl : (loadCells ad xs.length).run Tryd.prog w = .ok (xs.map (Value.int .u8)).toArray w := by
      have := run_loadCells_list (P := Tryd.prog) w ad (xs.map (Value.int .u8)) hc
      simpa using this
    rw [run_convert_bytes_string w 32 9 5 _ _ c Tryd.underlying32 Tryd.underlying5 Tryd.underlying9, run_bytesToString w _ _ c xs hl, foldl_push_bytes]
    simp [strOfNums, ByteArray.empty, ByteArray.emptyWithCapacity]
    rfl
/-- A row of bytes of the call's own: the slice v holds xs. -/
abbrev Own (w : World) (B : Nat) (v : Value) (xs : List Int) : Prop := w.ownsRow B 5 1 v xs.length (u8L xs)
section
variable {w w' : World} {B B' : Nat} {v : Value} {xs : List Int}
theorem own_nil (w : World) (B : Nat) : Own w B (.slice none 0 0) [] := World.ownsRow_nil _ _ _ _
theorem own_mono (h : Own w B v xs) (hB : B' ≤ B) : Own w B' v xs := by
  obtain ⟨h0, h1 | ⟨g, cap, cur, e1, h2, h3⟩⟩ := h
  · exact ⟨h0, .inl h1⟩
  · exact ⟨h0, .inr ⟨g, cap, cur, e1, Nat.le_trans hB h2, h3⟩⟩
theorem own_kept (h : Own w B v xs) (hb : ∀ g, v.ownBlock = some g → w'.heap[g]? = w.heap[g]?) : Own w' B v xs := by
  obtain ⟨h0, h1 | ⟨g, cap, cur, rfl, h2, h3, h4⟩⟩ := h
  · exact ⟨h0, .inl h1⟩
  · exact ⟨h0, .inr ⟨g, cap, cur, rfl, h2, (hb g rfl).trans h3, h4⟩⟩
theorem own_form (h : Own w B v xs) : ∃ p c, v = .slice p xs.length c ∧ (p = none → xs = [] ∧ c = 0) ∧ xs.length ≤ c ∧ c ≤ maxLen := by
  obtain ⟨h0, ⟨rfl, h1⟩ | ⟨g, cap, cur, rfl, h2, h3, h4, h5, -⟩⟩ := h
  · obtain rfl := List.eq_nil_of_length_eq_zero h1
    exact ⟨none, 0, rfl, fun _ => ⟨rfl, rfl⟩, Nat.le_refl _, by unfold maxLen; omega⟩
  · exact ⟨_, _, rfl, (fun h => by cases h), h4, h5⟩
theorem own_src {p : Option Addr} {n c : Nat} (h : Own w B (.slice p n c) xs) : Src w p xs := by
  intro hp
  obtain ⟨h0, ⟨h1, h2⟩ | ⟨g, cap, cur, e, h2, h3, h4, h5, h6, h7⟩⟩ := h
  · omega
  · injection e with e1 e2 e3
    refine ⟨_, e1, fun j u hu => ?_⟩
    have hj : j < xs.length := by have := (List.getElem?_eq_some_iff.1 hu).1; simpa using this
    rw [Addr.add_lit, Nat.zero_add, cell_of_row w g j _ _ _ h3]
    rw [← h7, Nat.mul_one, List.getElem?_take_of_lt hj, Array.getElem?_toList] at hu
    exact hu
/-- The cell of a byte, and what is known of its block. -/
theorem own_cell {p : Option Addr} {c k : Nat} (h : Own w B (.slice p xs.length c) xs) (hk : k < xs.length) : ∃ g, p = some ⟨g, 0, none⟩ ∧ B ≤ g ∧ w.cell? ⟨g, k, none⟩ = some (.int .u8 xs[k]) ∧ w.frozen? ⟨g, k, none⟩ = false ∧ ∀ b : Int, Own (w.setCell ⟨g, k, none⟩ (.int .u8 b)) B (.slice p xs.length c) (xs.set k b) := by
  obtain ⟨h0, ⟨h1, h2⟩ | ⟨g, cap, cur, e, h2, h3, h4, h5, h6, h7⟩⟩ := h
  · omega
  · injection e with e1 e2 e3
    subst e1; subst e3
    have hv : cur[k]? = some (.int .u8 xs[k]) := by
      have e : (cur.toList.take (xs.length * 1))[k]? = (u8L xs)[k]? := by rw [h7]
      rw [Nat.mul_one, List.getElem?_take_of_lt hk] at e
      simpa [hk] using e
    refine ⟨g, rfl, h2, by rw [cell_of_row w g k _ _ _ h3]; exact hv, by simp [World.frozen?, h3], fun b => ⟨by simp, .inr ⟨g, c, cur.setIfInBounds k (.int .u8 b), by rw [List.length_set], h2, setCell_row h3 _ _, by simpa using h4, h5, by simpa using h6, ?_⟩⟩⟩
    rw [List.length_set, Array.toList_setIfInBounds, List.take_set, h7]
    simp
theorem below_grown (h : w.grownBy w' v.ownBlock) (hB : B ≤ w.heap.size) (hv : ∀ g, v.ownBlock = some g → B ≤ g) : Below B w w' :=
  ⟨h.os, h.tape, h.output, h.size, fun k hk => h.block k (by omega) (fun e => by have := hv k e.symm; omega)⟩
/-- 'append(s, b...)': s a row of the call's own, b lies anywhere. -/
theorem wpList_app {ops : Array Oper} {rest : List Oper} {o : Oper} {a : Act} {Q : Exit → Act → World → Prop} (hgd : o.guard = none) (s x : Operand)
    (ho : o.op = .call { callee := .builtin .append, args := #[s, x], argTypes := #[32, 32] }) (hB : B ≤ w.heap.size) {v1 : Value} {R1 : List Int} (hs : a.eval s = v1) (hown : Own w B v1 R1)
    {p : Option Addr} {m c : Nat} (R2 : List Int) (hx : a.eval x = .slice p m c) (hm : R2.length = m) (hc : p = none → c = 0) (hsrc : Src w p R2) (hsz : R1.length + m ≤ 1000000)
    (h : ∀ v' w', Own w' B v' (R1 ++ R2) → w.grownBy w' v1.ownBlock → (∀ g, v'.ownBlock = some g → v1.ownBlock = some g ∨ w.heap.size ≤ g) → wpList Tryd.prog ops Q rest (a.put o.dst v') w') : wpList Tryd.prog ops Q (o :: rest) a w := by
  obtain ⟨i, hi, hz0, hz1, hz2⟩ := info_parts info_u8
  cases p with
  | none =>
    obtain rfl := hc rfl
    have h0 : R2.length = 0 := by
      rcases Nat.eq_zero_or_pos R2.length with h0 | h0
      · exact h0
      · obtain ⟨ad, e, -⟩ := hsrc h0; cases e
    obtain rfl : m = 0 := by omega
    obtain rfl := List.eq_nil_of_length_eq_zero h0
    refine wpList_append_own_none hgd s x 32 ho B 5 i 1 Tryd.underlying32 hi v1 R1.length (u8L R1) hs hown hx (h v1 w ?_ ⟨rfl, rfl, rfl, Nat.le_refl _, fun _ _ _ => rfl⟩ (fun g hg => .inl hg))
    rw [List.append_nil]; exact hown
  | some ad =>
    have hcs : ∀ j u, (u8L R2)[j]? = some u → w.cell? (ad.add j) = some u := by
      intro j u hu
      have hj : j < R2.length := by have := (List.getElem?_eq_some_iff.1 hu).1; simpa using this
      obtain ⟨ad', e, hcs⟩ := hsrc (by omega)
      obtain rfl := Option.some.inj e
      exact hcs j u hu
    obtain ⟨v', w', hr, h2, h3, -, h5⟩ := run_append_own_at (P := Tryd.prog) w B 32 o.type 5 i _ 1 1 Tryd.underlying32 hi hz0 hz1 hz2 rfl (by decide) v1 R1.length (u8L R1) hown ad m c (u8L R2) (by rw [List.length_map, hm, Nat.mul_one]) hcs (u8_one _) (by unfold maxLen; omega) (by omega) hB
    refine wpList_plain hgd fun K hK => ?_
    unfold Oper.wp execOp
    simp only [ho, resolve, invoke, builtin, Sem.run_bind, Sem.run_pure, Result.andThen_ok, List.map_toArray, List.map_cons, List.map_nil, hs, hx, hr]
    refine hK _ _ (h v' w' ?_ h3 ?_)
    · have e : u8L (R1 ++ R2) = u8L R1 ++ u8L R2 := List.map_append
      unfold Own; rw [List.length_append, e, hm]; exact h2
    · intro g hg
      rcases h5 with h5 | h5
      · exact .inl (by rw [← h5]; exact hg)
      · rw [h5] at hg; injection hg with hg; exact .inr (by omega)
end
/-- Something that lies in blocks of its own: what it is, in which blocks. -/
structure Thing where
  is : World → (Nat → Prop) → Prop
  firm : ∀ w w' F, is w F → (∀ i, F i → w'.heap[i]? = w.heap[i]?) → is w' F
  lt : ∀ w F, is w F → ∀ i, F i → i < w.heap.size
/-- Nothing at all. -/
def nought : Thing := ⟨fun _ F => ∀ i, ¬ F i, fun _ _ _ h _ => h, fun _ _ h i hi => absurd hi (h i)⟩
/-- A step makes P' of it, which lay in F. -/
def Step (F : Nat → Prop) (P' : Thing) (w w' : World) : Prop := ∃ F', P'.is w' F' ∧ (∀ i, F' i → F i ∨ w.heap.size ≤ i) ∧ But F w w'
def Turned (P P' : Thing) (w w' : World) : Prop := ∀ F, P.is w F → Step F P' w w'
def Turns (f : Nat) (args : Array Value) (E : Ending) (P P' : Thing) : Prop := ∀ w F, P.is w F → Calls Tryd.prog f args w fun e w' => e = E ∧ Step F P' w w'
/-- Four things that lie apart, behind all that came in. -/
structure Sep (W w : World) (P Q R X : Thing) : Prop where
  ex : ∃ F G H J, P.is w F ∧ Q.is w G ∧ R.is w H ∧ X.is w J ∧ (∀ i, F i → ¬ G i ∧ ¬ H i ∧ ¬ J i) ∧ (∀ i, G i → ¬ H i ∧ ¬ J i) ∧ (∀ i, H i → ¬ J i) ∧ ∀ i, (F i ∨ G i ∨ H i ∨ J i) → W.heap.size ≤ i
  b : Below W.heap.size W w
section
variable {W w w' : World} {P Q R X P' Q' R' X' : Thing}
theorem Sep.s12 (s : Sep W w P Q R X) : Sep W w Q P R X := by
  obtain ⟨⟨F, G, H, J, p, q, r, x, d1, d2, d3, d4⟩, b⟩ := s
  exact ⟨⟨G, F, H, J, q, p, r, x, fun i h => ⟨fun h' => (d1 i h').1 h, (d2 i h).1, (d2 i h).2⟩, fun i h => ⟨(d1 i h).2.1, (d1 i h).2.2⟩, d3, fun i h => d4 i (by rcases h with h | h | h | h; exact .inr (.inl h); exact .inl h; exact .inr (.inr (.inl h)); exact .inr (.inr (.inr h)))⟩, b⟩
theorem Sep.s13 (s : Sep W w P Q R X) : Sep W w R Q P X := by
  obtain ⟨⟨F, G, H, J, p, q, r, x, d1, d2, d3, d4⟩, b⟩ := s
  exact ⟨⟨H, G, F, J, r, q, p, x, fun i h => ⟨fun h' => (d2 i h').1 h, fun h' => (d1 i h').2.1 h, d3 i h⟩, fun i h => ⟨fun h' => (d1 i h').1 h, (d2 i h).2⟩, fun i h => (d1 i h).2.2, fun i h => d4 i (by rcases h with h | h | h | h; exact .inr (.inr (.inl h)); exact .inr (.inl h); exact .inl h; exact .inr (.inr (.inr h)))⟩, b⟩
theorem Sep.s14 (s : Sep W w P Q R X) : Sep W w X Q R P := by
  obtain ⟨⟨F, G, H, J, p, q, r, x, d1, d2, d3, d4⟩, b⟩ := s
  exact ⟨⟨J, G, H, F, x, q, r, p, fun i h => ⟨fun h' => (d2 i h').2 h, fun h' => d3 i h' h, fun h' => (d1 i h').2.2 h⟩, fun i h => ⟨(d2 i h).1, fun h' => (d1 i h').1 h⟩, fun i h h' => (d1 i h').2.1 h, fun i h => d4 i (by rcases h with h | h | h | h; exact .inr (.inr (.inr h)); exact .inr (.inl h); exact .inr (.inr (.inl h)); exact .inl h)⟩, b⟩
theorem Sep.step1 (s : Sep W w P Q R X) : ∃ F, P.is w F ∧ ∀ P' w', Step F P' w w' → Sep W w' P' Q R X := by
  obtain ⟨⟨F, G, H, J, p, q, r, x, d1, d2, d3, d4⟩, b⟩ := s
  refine ⟨F, p, ?_⟩
  rintro P' w' ⟨F', p', n, b'⟩
  have kG : ∀ i, G i → w'.heap[i]? = w.heap[i]? := fun i hi => b'.block i (Q.lt _ _ q i hi) fun h' => (d1 i h').1 hi
  have kH : ∀ i, H i → w'.heap[i]? = w.heap[i]? := fun i hi => b'.block i (R.lt _ _ r i hi) fun h' => (d1 i h').2.1 hi
  have kJ : ∀ i, J i → w'.heap[i]? = w.heap[i]? := fun i hi => b'.block i (X.lt _ _ x i hi) fun h' => (d1 i h').2.2 hi
  have l1 := b.size
  refine ⟨⟨F', G, H, J, p', Q.firm _ _ _ q kG, R.firm _ _ _ r kH, X.firm _ _ _ x kJ, fun i h' => ?_, d2, d3, fun i h' => ?_⟩, b.trans (b'.below l1 fun i hi => d4 i (.inl hi))⟩
  · rcases n i h' with h' | h'
    · exact d1 i h'
    · have a1 := Q.lt _ _ q i; have a2 := R.lt _ _ r i; have a3 := X.lt _ _ x i
      exact ⟨fun h => by have := a1 h; omega, fun h => by have := a2 h; omega, fun h => by have := a3 h; omega⟩
  · rcases h' with h' | h'
    · rcases n i h' with h' | h'
      · exact d4 i (.inl h')
      · omega
    · exact d4 i (.inr h')
theorem Sep.turn1 (s : Sep W w P Q R X) (h : Turned P P' w w') : Sep W w' P' Q R X := by
  obtain ⟨F, p, k⟩ := s.step1; exact k _ _ (h F p)
theorem Sep.turn2 (s : Sep W w P Q R X) (h : Turned Q Q' w w') : Sep W w' P Q' R X := (s.s12.turn1 h).s12
theorem Sep.turn3 (s : Sep W w P Q R X) (h : Turned R R' w w') : Sep W w' P Q R' X := (s.s13.turn1 h).s13
theorem Sep.turn4 (s : Sep W w P Q R X) (h : Turned X X' w w') : Sep W w' P Q R X' := (s.s14.turn1 h).s14
theorem Sep.call1 {f : Nat} {args : Array Value} {E : Ending} (s : Sep W w P Q R X) (h : Turns f args E P P') : Calls Tryd.prog f args w fun e w' => e = E ∧ Sep W w' P' Q R X := by
  obtain ⟨F, p, k⟩ := s.step1
  exact (h w F p).mono fun e w' ⟨he, hx⟩ => ⟨he, k _ _ hx⟩
theorem Sep.call2 {f : Nat} {args : Array Value} {E : Ending} (s : Sep W w P Q R X) (h : Turns f args E Q Q') : Calls Tryd.prog f args w fun e w' => e = E ∧ Sep W w' P Q' R X :=
  (s.s12.call1 h).mono fun _ _ ⟨he, hx⟩ => ⟨he, hx.s12⟩
theorem Sep.call3 {f : Nat} {args : Array Value} {E : Ending} (s : Sep W w P Q R X) (h : Turns f args E R R') : Calls Tryd.prog f args w fun e w' => e = E ∧ Sep W w' P Q R' X :=
  (s.s13.call1 h).mono fun _ _ ⟨he, hx⟩ => ⟨he, hx.s13⟩
theorem Step.still {F : Nat → Prop} (h : Below w.heap.size w w') (p : P.is w F) : Step F P w w' :=
  ⟨F, P.firm _ _ _ p fun i hi => h.block i (P.lt _ _ p i hi), fun _ h => .inl h, But.of h (Nat.le_refl _)⟩
theorem Sep.still (s : Sep W w P Q R X) (h : Below w.heap.size w w') : Sep W w' P Q R X := s.turn1 fun _ p => .still h p
/-- The fourth is forgotten, or another one that was laid since. -/
theorem Sep.lay4 (s : Sep W w P Q R X) (h : Below w.heap.size w w') {J : Nat → Prop} (hx : X'.is w' J) (hj : ∀ i, J i → w.heap.size ≤ i) : Sep W w' P Q R X' :=
  s.turn4 fun _ _ => ⟨J, hx, fun i hi => .inr (hj i hi), But.of h (Nat.le_refl _)⟩
theorem Sep.drop4 (s : Sep W w P Q R X) : Sep W w P Q R nought := s.lay4 (X' := nought) (J := fun _ => False) (Below.refl _ _) (fun _ => id) (fun _ h => h.elim)
theorem Sep.lay1 (s : Sep W w P Q R X) (h : Below w.heap.size w w') {J : Nat → Prop} (hx : P'.is w' J) (hj : ∀ i, J i → w.heap.size ≤ i) : Sep W w' P' Q R X :=
  s.turn1 fun _ _ => ⟨J, hx, fun i hi => .inr (hj i hi), But.of h (Nat.le_refl _)⟩
theorem Sep.lay2 (s : Sep W w P Q R X) (h : Below w.heap.size w w') {J : Nat → Prop} (hx : Q'.is w' J) (hj : ∀ i, J i → w.heap.size ≤ i) : Sep W w' P Q' R X := (s.s12.lay1 h hx hj).s12
theorem Sep.lay3 (s : Sep W w P Q R X) (h : Below w.heap.size w w') {J : Nat → Prop} (hx : R'.is w' J) (hj : ∀ i, J i → w.heap.size ≤ i) : Sep W w' P Q R' X := (s.s13.lay1 h hx hj).s13
theorem Sep.begin (h : Below W.heap.size W w) : Sep W w nought nought nought nought :=
  ⟨⟨fun _ => False, fun _ => False, fun _ => False, fun _ => False, fun _ => id, fun _ => id, fun _ => id, fun _ => id, fun _ h => h.elim, fun _ h => h.elim, fun _ h => h.elim, fun _ h => by rcases h with h | h | h | h <;> exact h.elim⟩, h⟩
theorem Sep.get1 (s : Sep W w P Q R X) : ∃ F, P.is w F := by obtain ⟨F, p, -⟩ := s.step1; exact ⟨F, p⟩
theorem Sep.get2 (s : Sep W w P Q R X) : ∃ F, Q.is w F := s.s12.get1
theorem Sep.get3 (s : Sep W w P Q R X) : ∃ F, R.is w F := s.s13.get1
theorem Sep.get4 (s : Sep W w P Q R X) : ∃ F, X.is w F := s.s14.get1
end
end Go.Proofs.YtogbhgbnminpdaaDoor.Ser
set_option maxRecDepth 100000
set_option linter.unusedVariables false
namespace Go.Proofs.YtogbhgbnminpdaaDoor.Ser
open Go.Proofs.YtogbhgbnminpdaaDoor
open Go.ChangeShapes Go.WideShapes Go.ChangeAt Go.RowKit
/-- The cells of numbers. -/
abbrev kL (k : IntKind) (xs : List Int) : List Value := xs.map (.int k)
theorem kL_one (k : IntKind) (xs : List Int) : ∀ u ∈ kL k xs, u.oneCell' = true := by
  intro u hu; obtain ⟨_, _, rfl⟩ := List.mem_map.1 hu; rfl
/-- The kinds of rows: the slice's type, its elements', the numbers' kind. -/
structure Kd (T E : TypeId) (k : IntKind) : Prop where
  under : Tryd.prog.underlying T = some (.slice E)
  info : ∃ b, b ≤ 8 ∧ (Tryd.prog.info? E).map (fun i => (i.zero, i.size, i.bytes)) = some (some (.int k 0), 1, b)
theorem kdI : Kd 84 3 .i64 := ⟨Tryd.underlying84, 8, by decide, by kernel_rfl⟩
theorem kdB : Kd 32 5 .u8 := ⟨Tryd.underlying32, 1, by decide, by kernel_rfl⟩
/-- Numbers that lie somewhere, in a block below B. -/
structure Lie (k : IntKind) (w : World) (B : Nat) (p : Option Addr) (n c : Nat) (xs : List Int) : Prop where
  len : xs.length = n
  cap : n ≤ c
  nil : p = none → c = 0
  at_ : 0 < n → ∃ b off, p = some ⟨b, off, none⟩ ∧ b < B ∧ ∀ i x, xs[i]? = some x → w.cell? ⟨b, off + i, none⟩ = some (.int k x)
/-- A row of the call's own. -/
abbrev OwnK (E : TypeId) (k : IntKind) (w : World) (B : Nat) (v : Value) (xs : List Int) : Prop := w.ownsRow B E 1 v xs.length (kL k xs)
section
variable {k : IntKind} {T E : TypeId} {w w' : World} {B B' n c : Nat} {p : Option Addr} {v : Value} {xs : List Int}
theorem Lie.kept (h : Lie k w B p n c xs) (hb : Below B' w w') (hB : B ≤ B') : Lie k w' B p n c xs :=
  ⟨h.len, h.cap, h.nil, fun hn => by
    obtain ⟨b, off, e, hl, hc⟩ := h.at_ hn
    exact ⟨b, off, e, hl, fun i x hx => (World.cell?_of_block (hb.block b (by omega))).trans (hc i x hx)⟩⟩
theorem Lie.wide (h : Lie k w B p n c xs) (hB : B ≤ B') : Lie k w B' p n c xs :=
  ⟨h.len, h.cap, h.nil, fun hn => by
    obtain ⟨b, off, e, hl, hc⟩ := h.at_ hn
    exact ⟨b, off, e, by omega, hc⟩⟩
/-- What append asks of a source. -/
def SrcK (k : IntKind) (w : World) (sp : Option Addr) (xs : List Int) : Prop := 0 < xs.length → ∃ ad, sp = some ad ∧ ∀ j u, (kL k xs)[j]? = some u → w.cell? (ad.add j) = some u
theorem Lie.src (h : Lie k w B p n c xs) : SrcK k w p xs := by
  intro hn
  obtain ⟨b, off, e, hl, hc⟩ := h.at_ (by rw [← h.len]; exact hn)
  refine ⟨_, e, fun j u hu => ?_⟩
  obtain ⟨x, hx, rfl⟩ : ∃ x, xs[j]? = some x ∧ Value.int k x = u := by
    rw [List.getElem?_map] at hu
    exact Option.map_eq_some_iff.1 hu
  rw [Addr.add_lit]
  exact hc j x hx
theorem Lie.cell (h : Lie k w B p n c xs) {i : Nat} (hi : i < n) : ∃ b off, p = some ⟨b, off, none⟩ ∧ b < B ∧ w.cell? ⟨b, off + i, none⟩ = some (.int k (xs.getD i 0)) := by
  obtain ⟨b, off, e, hl, hc⟩ := h.at_ (by omega)
  have hx : i < xs.length := by rw [h.len]; exact hi
  exact ⟨b, off, e, hl, by rw [hc i xs[i] (List.getElem?_eq_getElem hx)]; simp [List.getD, hx]⟩
theorem ownK_nil (E : TypeId) (k : IntKind) (w : World) (B : Nat) : OwnK E k w B (.slice none 0 0) [] := World.ownsRow_nil _ _ _ _
theorem ownK_none (E : TypeId) (k : IntKind) (w : World) : OwnK E k (w.alloc (.cells #[] E)) w.heap.size (.slice (some ⟨w.heap.size, 0, none⟩) 0 0) [] :=
  ⟨rfl, .inr ⟨w.heap.size, 0, #[], rfl, Nat.le_refl _, heap_alloc_new _ _, Nat.le_refl _, by unfold maxLen; omega, rfl, rfl⟩⟩
theorem ownK_mono (h : OwnK E k w B v xs) (hB : B' ≤ B) : OwnK E k w B' v xs := by
  obtain ⟨h0, h1 | ⟨g, cap, cur, e1, h2, h3⟩⟩ := h
  · exact ⟨h0, .inl h1⟩
  · exact ⟨h0, .inr ⟨g, cap, cur, e1, Nat.le_trans hB h2, h3⟩⟩
theorem ownK_kept (h : OwnK E k w B v xs) (hb : ∀ g, v.ownBlock = some g → w'.heap[g]? = w.heap[g]?) : OwnK E k w' B v xs := by
  obtain ⟨h0, h1 | ⟨g, cap, cur, rfl, h2, h3, h4⟩⟩ := h
  · exact ⟨h0, .inl h1⟩
  · exact ⟨h0, .inr ⟨g, cap, cur, rfl, h2, (hb g rfl).trans h3, h4⟩⟩
theorem ownK_below (h : OwnK E k w B v xs) (hb : Below w.heap.size w w') : OwnK E k w' B v xs :=
  ownK_kept h fun g hg => hb.block g (h.lt g hg).2
theorem ownK_lie (h : OwnK E k w B v xs) : ∃ p c, v = .slice p xs.length c ∧ c ≤ maxLen ∧ Lie k w w.heap.size p xs.length c xs := by
  obtain ⟨h0, ⟨rfl, h1⟩ | ⟨g, cap, cur, rfl, h2, h3, h4, h5, h6, h7⟩⟩ := h
  · obtain rfl := List.eq_nil_of_length_eq_zero h1
    exact ⟨none, 0, rfl, by unfold maxLen; omega, rfl, Nat.le_refl _, fun _ => rfl, fun h => by simp at h⟩
  · refine ⟨_, _, rfl, h5, rfl, h4, (fun h => by cases h), fun hn => ⟨g, 0, rfl, (Array.getElem?_eq_some_iff.1 h3).1, fun i x hx => ?_⟩⟩
    have hi : i < xs.length := (List.getElem?_eq_some_iff.1 hx).1
    rw [Nat.zero_add, cell_of_row w g i _ _ _ h3]
    have e : (cur.toList.take (xs.length * 1))[i]? = (kL k xs)[i]? := by rw [h7]
    rw [Nat.mul_one, List.getElem?_take_of_lt hi] at e
    rw [← Array.getElem?_toList, e, List.getElem?_map, hx]; rfl
/-- A cell of a row of one's own, and the row with another number in it. -/
theorem ownK_cell {j : Nat} (h : OwnK E k w B v xs) (hj : j < xs.length) : ∃ g c, v = .slice (some ⟨g, 0, none⟩) xs.length c ∧ c ≤ maxLen ∧ xs.length ≤ c ∧ B ≤ g ∧ g < w.heap.size ∧ w.cell? ⟨g, j, none⟩ = some (.int k (xs.getD j 0)) ∧ w.frozen? ⟨g, j, none⟩ = false ∧ ∀ x : Int, OwnK E k (w.setCell ⟨g, j, none⟩ (.int k x)) B v (xs.set j x) := by
  obtain ⟨h0, ⟨h1, h2⟩ | ⟨g, cap, cur, rfl, h2, h3, h4, h5, h6, h7⟩⟩ := h
  · omega
  · have hv : cur[j]? = some (.int k (xs.getD j 0)) := by
      have e : (cur.toList.take (xs.length * 1))[j]? = (kL k xs)[j]? := by rw [h7]
      rw [Nat.mul_one, List.getElem?_take_of_lt hj] at e
      simpa [hj] using e
    refine ⟨g, cap, rfl, h5, h4, h2, (Array.getElem?_eq_some_iff.1 h3).1, by rw [cell_of_row w g j _ _ _ h3]; exact hv, by simp [World.frozen?, h3], fun x => ?_⟩
    refine ⟨by simp, .inr ⟨g, cap, cur.setIfInBounds j (.int k x), by rw [List.length_set], h2, setCell_row h3 _ _, by simpa using h4, h5, by simpa using h6, ?_⟩⟩
    rw [List.length_set, Array.toList_setIfInBounds, List.take_set, h7]
    simp
theorem ownK_off (h : OwnK E k w B v xs) {g : Nat} (hg : v.ownBlock ≠ some g) (j : Nat) (x : Value) : OwnK E k (w.setCell ⟨g, j, none⟩ x) B v xs :=
  ownK_kept h fun _ hi => Below.heap_setCell _ _ _ _ (fun e => hg (hi.trans (congrArg some e)))
theorem grown_below (h : w.grownBy w' v.ownBlock) (hB : B ≤ w.heap.size) (hv : ∀ g, v.ownBlock = some g → B ≤ g) : Below B w w' :=
  ⟨h.os, h.tape, h.output, h.size, fun i hi => h.block i (by omega) (fun e => by have := hv i e.symm; omega)⟩
/-- What 'append(s, b...)' does: s a row of the call's own, b lies anywhere. -/
theorem app_run (K : Kd T E k) (ty : TypeId) (hB : B ≤ w.heap.size) {v1 : Value} {R1 : List Int} (hown : OwnK E k w B v1 R1)
    {p : Option Addr} {m c : Nat} (R2 : List Int) (hm : R2.length = m) (hc : p = none → c = 0) (hsrc : SrcK k w p R2) (hsz : R1.length + m ≤ 1000000) :
    ∃ v' w', (Builtin.append_ #[T, T] ty #[v1, .slice p m c]).run Tryd.prog w = .ok v' w' ∧ OwnK E k w' B v' (R1 ++ R2) ∧ Below B w w' ∧ ∀ g, v'.ownBlock = some g → v1.ownBlock = some g ∨ w.heap.size ≤ g := by
  obtain ⟨bb, hbb, hinfo⟩ := K.info
  obtain ⟨i, hi, hz0, hz1, hz2⟩ := info_parts hinfo
  have hlt := hown.lt
  cases p with
  | none =>
    obtain rfl := hc rfl
    have h0 : R2.length = 0 := by
      rcases Nat.eq_zero_or_pos R2.length with h0 | h0
      · exact h0
      · obtain ⟨ad, e, -⟩ := hsrc h0; cases e
    obtain rfl : m = 0 := by omega
    obtain rfl := List.eq_nil_of_length_eq_zero h0
    exact ⟨v1, w, run_append_owned_none (P := Tryd.prog) (w := w) B T ty E i 1 K.under hi v1 R1.length (kL k R1) hown, by rw [List.append_nil]; exact hown, Below.refl _ _, fun g hg => .inl hg⟩
  | some ad =>
    have hcs : ∀ j u, (kL k R2)[j]? = some u → w.cell? (ad.add j) = some u := by
      intro j u hu
      have hj : j < R2.length := by have := (List.getElem?_eq_some_iff.1 hu).1; simpa using this
      obtain ⟨ad', e, hcs⟩ := hsrc (by omega)
      obtain rfl := Option.some.inj e
      exact hcs j u hu
    obtain ⟨v', w', hr, h2, h3, -, h5⟩ := run_append_own_at (P := Tryd.prog) w B T ty E i _ 1 bb K.under hi hz0 hz1 hz2 rfl (by decide) v1 R1.length (kL k R1) hown ad m c (kL k R2) (by rw [List.length_map, hm, Nat.mul_one]) hcs (kL_one _ _) (by unfold maxLen; omega) (by have : (R1.length + m) * bb ≤ 1000000 * 8 := Nat.mul_le_mul hsz hbb; omega) hB
    refine ⟨v', w', hr, ?_, grown_below h3 hB fun g hg => (hlt g hg).1, ?_⟩
    · have e : kL k (R1 ++ R2) = kL k R1 ++ kL k R2 := List.map_append
      unfold OwnK; rw [List.length_append, e, hm]; exact h2
    · intro g hg
      rcases h5 with h5 | h5
      · exact .inl (by rw [← h5]; exact hg)
      · rw [h5] at hg; injection hg with hg; exact .inr (by omega)
theorem wpList_appK {ops : Array Oper} {rest : List Oper} {o : Oper} {a : Act} {Q : Exit → Act → World → Prop} (K : Kd T E k) (hgd : o.guard = none) (s x : Operand)
    (ho : o.op = .call { callee := .builtin .append, args := #[s, x], argTypes := #[T, T] }) (hB : B ≤ w.heap.size) {v1 : Value} {R1 : List Int} (hs : a.eval s = v1) (hown : OwnK E k w B v1 R1)
    {p : Option Addr} {m c : Nat} (R2 : List Int) (hx : a.eval x = .slice p m c) (hm : R2.length = m) (hc : p = none → c = 0) (hsrc : SrcK k w p R2) (hsz : R1.length + m ≤ 1000000)
    (h : ∀ v' w', OwnK E k w' B v' (R1 ++ R2) → Below B w w' → (∀ g, v'.ownBlock = some g → v1.ownBlock = some g ∨ w.heap.size ≤ g) → wpList Tryd.prog ops Q rest (a.put o.dst v') w') : wpList Tryd.prog ops Q (o :: rest) a w := by
  obtain ⟨v', w', hr, h1, h2, h3⟩ := app_run K o.type hB hown R2 hm hc hsrc hsz
  exact Lib.wpList_append_run w hgd s x T T ho v1 _ hs hx v' w' hr (h v' w' h1 h2 h3)
/-- The same step where a region draws its order. -/
theorem step_appK {ops : Array Oper} {o : Oper} {a : Act} {Q : Exit → Act → World → Prop} {X : Prop} {J : Act → World → Prop} (K : Kd T E k) (hgd : o.guard = none) (s x : Operand)
    (ho : o.op = .call { callee := .builtin .append, args := #[s, x], argTypes := #[T, T] }) (hB : B ≤ w.heap.size) {v1 : Value} {R1 : List Int} (hs : a.eval s = v1) (hown : OwnK E k w B v1 R1)
    {p : Option Addr} {m c : Nat} (R2 : List Int) (hx : a.eval x = .slice p m c) (hm : R2.length = m) (hc : p = none → c = 0) (hsrc : SrcK k w p R2) (hsz : R1.length + m ≤ 1000000)
    (h : ∀ v' w', OwnK E k w' B v' (R1 ++ R2) → Below B w w' → (∀ g, v'.ownBlock = some g → v1.ownBlock = some g ∨ w.heap.size ≤ g) → J (a.put o.dst v') w') :
    if Region.wanted o (yielded ops a.tmps) = true then Oper.wp Tryd.prog o a w J Q else X := by
  obtain ⟨v', w', hr, h1, h2, h3⟩ := app_run K o.type hB hown R2 hm hc hsrc hsz
  rw [if_pos (by simp [Region.wanted, hgd])]
  exact Lib.wp_append_run w s x T T ho v1 _ hs hx v' w' hr (h v' w' h1 h2 h3)
end
end Go.Proofs.YtogbhgbnminpdaaDoor.Ser
