
/-
  Three memories side by side (law PhysPlays): what keeps them; a slice of the call's own that is written; a slice of calls that came in.
-/
import Derived.Test.YthagnbmoedppgaaPhysRows
import Derived.Test.YthagnbmoedppgaaPhysRef2
namespace Go.Proofs.Ythagnbmoedppgaa
open Go.ChangeShapes Go.WideShapes Go.ChangeAt Go.RowKit
structure Three (W w : World) (hm gm ho go hr gr : Nat) (bs bo cs : List Int) : Prop where
  m : Mem 46 w hm gm bs
  o : Mem 46 w ho go bo
  r : Mem 31 w hr gr cs
  d : gm ≠ go ∧ gm ≠ gr ∧ go ≠ gr ∧ gm ≠ ho ∧ gm ≠ hr ∧ go ≠ hm ∧ go ≠ hr ∧ gr ≠ hm ∧ gr ≠ ho
  b : Below W.heap.size W w
  bd : W.heap.size ≤ gm ∧ W.heap.size ≤ go ∧ W.heap.size ≤ gr
variable {W w w' : World} {hm gm ho go hr gr : Nat} {bs bo cs xs : List Int}
theorem Three.grow (h : Three W w hm gm ho go hr gr bs bo cs) (hb : Below w.heap.size w w') : Three W w' hm gm ho go hr gr bs bo cs :=
  ⟨h.m.grow hb, h.o.grow hb, h.r.grow hb, h.d, h.b.trans (hb.mono h.b.size), h.bd⟩
theorem Three.stM (h : Three W w hm gm ho go hr gr bs bo cs) (hx : Mem 46 w' hm gm xs) (ho' : Only gm w w') : Three W w' hm gm ho go hr gr xs bo cs := by
  obtain ⟨d1, d2, d3, d4, d5, d6, d7, d8, d9⟩ := h.d
  exact ⟨hx, h.o.only ho' (Ne.symm d4) (Ne.symm d1), h.r.only ho' (Ne.symm d5) (Ne.symm d2), h.d, h.b.trans (ho'.below h.bd.1), h.bd⟩
theorem Three.stO (h : Three W w hm gm ho go hr gr bs bo cs) (hx : Mem 46 w' ho go xs) (ho' : Only go w w') : Three W w' hm gm ho go hr gr bs xs cs := by
  obtain ⟨d1, d2, d3, d4, d5, d6, d7, d8, d9⟩ := h.d
  exact ⟨h.m.only ho' (Ne.symm d6) d1, hx, h.r.only ho' (Ne.symm d7) (Ne.symm d3), h.d, h.b.trans (ho'.below h.bd.2.1), h.bd⟩
theorem Three.stR (h : Three W w hm gm ho go hr gr bs bo cs) (hx : Mem 31 w' hr gr xs) (ho' : Only gr w w') : Three W w' hm gm ho go hr gr bs bo xs := by
  obtain ⟨d1, d2, d3, d4, d5, d6, d7, d8, d9⟩ := h.d
  exact ⟨h.m.only ho' (Ne.symm d8) d2, h.o.only ho' (Ne.symm d9) d3, hx, h.d, h.b.trans (ho'.below h.bd.2.2), h.bd⟩
/-- A block number that is none of theirs, nor of what was there. -/
def Fresh (W : World) (hm gm ho go hr gr g' : Nat) : Prop := hm < g' ∧ gm < g' ∧ ho < g' ∧ go < g' ∧ hr < g' ∧ gr < g' ∧ W.heap.size ≤ g'
theorem Three.fresh (h : Three W w hm gm ho go hr gr bs bo cs) {g' : Nat} (hg : w.heap.size ≤ g') : Fresh W hm gm ho go hr gr g' := by
  have := h.m.lt; have := h.o.lt; have := h.r.lt; have := h.b.size
  unfold Fresh; omega
theorem Three.oth (h : Three W w hm gm ho go hr gr bs bo cs) {g' : Nat} (hf : Fresh W hm gm ho go hr gr g') (ho' : Only g' w w') : Three W w' hm gm ho go hr gr bs bo cs := by
  obtain ⟨f1, f2, f3, f4, f5, f6, f7⟩ := hf
  exact ⟨h.m.only ho' (by omega) (by omega), h.o.only ho' (by omega) (by omega), h.r.only ho' (by omega) (by omega), h.d, h.b.trans (ho'.below f7), h.bd⟩
theorem Three.begin {W w1 w2 w3 w4 : World} (hB : Below W.heap.size W w1) {n : Nat} {e1 e2 e3 : Ending} (h1 : MadeAt 46 w1 n hm gm e1 w2) (h2 : MadeAt 46 w2 n ho go e2 w3) (h3 : MadeAt 31 w3 n hr gr e3 w4) :
    Three W w4 hm gm ho go hr gr (List.replicate n 0) (List.replicate n 0) (List.replicate n 0) := by
  have l1 := h1.m.lt; have l2 := h2.m.lt
  have a1 := h1.lh; have a2 := h1.lg; have a3 := h2.lh; have a4 := h2.lg; have a5 := h3.lh; have a6 := h3.lg
  have s1 := hB.size; have s2 := h1.b.size; have s3 := h2.b.size
  refine ⟨(h1.m.grow h2.b).grow h3.b, h2.m.grow h3.b, h3.m, by omega, ?_, by omega⟩
  exact ((hB.trans (h1.b.mono hB.size)).trans (h2.b.mono (by omega))).trans (h3.b.mono (by omega))
/-- A slice of bytes of the call's own, n of them, whatever they are. -/
def OwnN (B : Nat) (w : World) (p : Option Addr) (n : Nat) : Prop := ∃ ys : List Int, ys.length = n ∧ Own8 B w p ys
theorem OwnN.later {B : Nat} {p : Option Addr} {n : Nat} (h : OwnN B w p n) (hb : Below w.heap.size w w') : OwnN B w' p n := by
  obtain ⟨ys, hl, h⟩ := h; exact ⟨ys, hl, h.later hb⟩
theorem OwnN.only {B : Nat} {p : Option Addr} {n g : Nat} (h : OwnN B w p n) (hg : g < B) (ho : Only g w w') : OwnN B w' p n := by
  obtain ⟨ys, hl, ⟨rfl, rfl⟩ | ⟨k, cur, rfl, hk, hc, h1, h2⟩⟩ := h
  · exact ⟨[], hl, .inl ⟨rfl, rfl⟩⟩
  · exact ⟨ys, hl, .inr ⟨k, cur, rfl, hk, by rw [ho.block k (by omega)]; exact hc, h1, h2⟩⟩
/-- Where there is a byte: its cell, and what a write leaves. -/
theorem OwnN.cell {B : Nat} {p : Option Addr} {n k : Nat} (h : OwnN B w p n) (hk : k < n) : ∃ g y, p = some ⟨g, 0, none⟩ ∧ B ≤ g ∧ w.cell? ⟨g, k, none⟩ = some (.int .u8 y) ∧ w.frozen? ⟨g, k, none⟩ = false ∧ ∀ b : Int, OwnN B (w.setCell ⟨g, k, none⟩ (.int .u8 b)) p n := by
  obtain ⟨ys, hl, ⟨rfl, rfl⟩ | ⟨g, cur, rfl, hg, hc, h1, h2⟩⟩ := h
  · simp at hl; omega
  · have hky : k < ys.length := by omega
    have hv : cur[k]? = some (.int .u8 ys[k]) := by
      have e : (cur.toList.take ys.length)[k]? = (u8L ys)[k]? := by rw [h2]
      rw [List.getElem?_take_of_lt hky] at e
      simpa [hky] using e
    refine ⟨g, ys[k], rfl, hg, by rw [cell_of_row w g k _ _ _ hc]; exact hv, by simp [World.frozen?, hc], fun b => ⟨ys.set k b, by simpa using hl, .inr ⟨g, cur.setIfInBounds k (.int .u8 b), rfl, hg, ?_, by simpa using h1, ?_⟩⟩⟩
    · simp only [World.setCell, Array.getElem?_modify, if_true, hc, Option.map_some]
      simp
    · rw [List.length_set, Array.toList_setIfInBounds, List.take_set, h2]
      simp
theorem only_set (w : World) (g k : Nat) (v : Value) : Only g w (w.setCell ⟨g, k, none⟩ v) := (Only.refl g w).setCell k v
/-- A call that came in. -/
structure ActV where
  way : Int
  addr : Int
  size : Int
  v : Int
  bp : Option Addr
  bl : Nat
  bc : Nat
  bs : List Int
structure Acts (W : World) (lp : Option Addr) (len : Nat) (f : Nat → ActV) : Prop where
  at_ : 0 < len → ∃ b off, lp = some ⟨b, off, none⟩ ∧ b < W.heap.size ∧ ∀ i, i < len →
    W.cell? ⟨b, off + i * 5, none⟩ = some (.int .i64 (f i).way) ∧ W.cell? ⟨b, off + i * 5 + 1, none⟩ = some (.int .i64 (f i).addr) ∧ W.cell? ⟨b, off + i * 5 + 2, none⟩ = some (.int .i64 (f i).size) ∧
    W.cell? ⟨b, off + i * 5 + 3, none⟩ = some (.int .i64 (f i).v) ∧ W.cell? ⟨b, off + i * 5 + 4, none⟩ = some (.slice (f i).bp (f i).bl (f i).bc)
  arg : ∀ i, i < len → Arg8 W (f i).bp (f i).bl (f i).bc (f i).bs ∧ (-9223372036854775808 ≤ (f i).addr ∧ (f i).addr ≤ 9223372036854775807) ∧ (-9223372036854775808 ≤ (f i).size ∧ (f i).size ≤ 9223372036854775807) ∧ ((f i).bp = none → (f i).bc = 0)
/-- The call at hand, in a block of its own. -/
def Box (w : World) (A : Nat) (way addr size v : Int) (bp : Option Addr) (bl bc : Nat) : Prop :=
  w.heap[A]? = some (.cells #[.int .i64 way, .int .i64 addr, .int .i64 size, .int .i64 v, .slice bp bl bc] 33 (0, 0))
variable {A : Nat} {way addr size v : Int} {bp : Option Addr} {bl bc : Nat}
theorem Box.lt (h : Box w A way addr size v bp bl bc) : A < w.heap.size := (Array.getElem?_eq_some_iff.1 h).1
theorem Box.grow (h : Box w A way addr size v bp bl bc) (hb : Below w.heap.size w w') : Box w' A way addr size v bp bl bc := by
  unfold Box; rw [hb.block A h.lt]; exact h
theorem Box.only (h : Box w A way addr size v bp bl bc) {g : Nat} (ho : Only g w w') (hg : A ≠ g) : Box w' A way addr size v bp bl bc := by
  unfold Box; rw [ho.block A hg]; exact h
theorem Box.c0 (h : Box w A way addr size v bp bl bc) : w.cell? ⟨A, 0, none⟩ = some (.int .i64 way) := by rw [cell_of_row w A 0 _ _ _ h]; rfl
theorem Box.c1 (h : Box w A way addr size v bp bl bc) : w.cell? ⟨A, 1, none⟩ = some (.int .i64 addr) := by rw [cell_of_row w A 1 _ _ _ h]; rfl
theorem Box.c2 (h : Box w A way addr size v bp bl bc) : w.cell? ⟨A, 2, none⟩ = some (.int .i64 size) := by rw [cell_of_row w A 2 _ _ _ h]; rfl
theorem Box.c3 (h : Box w A way addr size v bp bl bc) : w.cell? ⟨A, 3, none⟩ = some (.int .i64 v) := by rw [cell_of_row w A 3 _ _ _ h]; rfl
theorem Box.c4 (h : Box w A way addr size v bp bl bc) : w.cell? ⟨A, 4, none⟩ = some (.slice bp bl bc) := by rw [cell_of_row w A 4 _ _ _ h]; rfl
theorem putL_length (bs : List Int) (a : Int) (xs : List Int) : (putL bs a xs).length = bs.length := by
  unfold putL; split
  · rename_i h
    exact length_splice _ _ _ (by have h1 := h.1; have h2 := h.2.2; omega)
  · rfl
theorem Mem.src {t : TypeId} {h g : Nat} (hm : Mem t w h g bs) : Src8 w (some ⟨g, 0, none⟩) bs := by
  refine ⟨hm.byt, fun _ => ⟨_, rfl, ?_⟩⟩
  have h := hm.cells 0 bs.length
  rw [List.drop_zero, List.take_of_length_le (Nat.le_refl _)] at h
  exact h
theorem getL_all (bs : List Int) : getL bs 0 bs.length = bs := by
  have h := (getL_in bs 0 bs.length (by omega)).2
  rw [List.drop_zero, List.take_of_length_le (Nat.le_refl _)] at h
  exact h
/-- 'append([]byte(nil), b...)': a row of the call's own. -/
theorem wpList_append_bytes {ops : Array Oper} {rest : List Oper} {o : Oper} {a : Act} {Q : Exit → Act → World → Prop} (hgd : o.guard = none) (s x : Operand)
    (ho : o.op = .call { callee := .builtin .append, args := #[s, x], argTypes := #[29, 29] }) (hs : a.eval s = .slice none 0 0) (sp : Option Addr) (n c : Nat) (hx : a.eval x = .slice sp n c)
    (xs : List Int) (hl : xs.length = n) (hS : Src8 w sp xs) (hc : sp = none → c = 0) (hle : n ≤ c) (hn : n ≤ 1000000)
    (h : ∀ p c' w', Own8 w.heap.size w' p xs → Below w.heap.size w w' → wpList Try.prog ops Q rest (a.put o.dst (.slice p n c')) w') : wpList Try.prog ops Q (o :: rest) a w := by
  obtain ⟨i, hi, hz0, hz1, hz2⟩ := info_parts info_u8
  cases sp with
  | none =>
    obtain rfl := hc rfl
    obtain rfl : n = 0 := by omega
    obtain rfl := List.eq_nil_of_length_eq_zero hl
    exact wpList_append_own_none hgd s x 29 ho w.heap.size 5 i 1 Try.underlying29 hi _ 0 [] hs (World.ownsRow_nil _ _ _ _) hx (h none 0 w (.inl ⟨rfl, rfl⟩) (Below.refl _ _))
  | some ad =>
    have hcs : ∀ j u, (u8L xs)[j]? = some u → w.cell? (ad.add j) = some u := by
      intro j u hu
      have hj : j < xs.length := by have := (List.getElem?_eq_some_iff.1 hu).1; simpa using this
      obtain ⟨ad', e, hcc⟩ := hS.at_ (by omega)
      obtain rfl := Option.some.inj e
      exact hcc j u hu
    refine wpList_append_own w hgd s x 29 ho w.heap.size 5 i (.int .u8 0) 1 1 Try.underlying29 hi hz0 hz1 hz2 rfl (by decide) _ 0 [] hs (World.ownsRow_nil _ _ _ _) ad n c (u8L xs) hx (by simp [hl]) hcs (u8_one _) (by unfold maxLen; omega) (by omega) (Nat.le_refl _) ?_
    intro v w1 hown hgrow _
    rw [Nat.zero_add, List.nil_append] at hown
    obtain ⟨p, c', e, h1, h2, -⟩ := getQ2 (xs := xs) (w := w) (w' := w1) (e := .returned v) ⟨v, rfl, by rw [hl]; exact hown, hgrow⟩
    injection e with e
    rw [hl] at e
    rw [e]; exact h p c' w1 h1 h2
end Go.Proofs.Ythagnbmoedppgaa
