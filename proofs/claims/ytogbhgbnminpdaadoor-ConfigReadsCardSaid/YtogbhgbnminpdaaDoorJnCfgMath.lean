/-
  A configuration, plainly: what is wrong with one; its rows in memory.
-/
import Derived.Test.YtogbhgbnminpdaaDoorJnWord
import Derived.Laws.CopyOwn
import Derived.Laws.AppendOwnNone
import Derived.Deep.RegionHeld3
import Derived.Deep.Cut
import Derived.Shelf.Abstract
import Derived.Laws.EntriesVeiled
import Derived.LoopTactic
set_option linter.unusedVariables false
set_option maxRecDepth 100000
set_option linter.unusedVariables false
namespace Go.Proofs.YtogbhgbnminpdaaDoor.Cfg
open Go.Proofs.YtogbhgbnminpdaaDoor
open Go.ChangeShapes Go.WideShapes Go.ChangeAt Go.RowKit
/-- A partition. -/
structure Pt where
  name : ByteArray
  pages : Int
  act : Int
/-- A channel. -/
structure Ch where
  kind : Int
  frm : Int
  to : Int
  size : Int
  depth : Int
/-- A window. -/
structure Wn where
  start : Int
  len : Int
  part : Int
/-- A configuration. -/
structure Cf where
  pages : Int
  major : Int
  switch : Int
  parts : List Pt
  chans : List Ch
  wins : List Wn
/-- A byte that a name may have. -/
def okB (b : Int) : Prop := (97 ≤ b ∧ b ≤ 122) ∨ (48 ≤ b ∧ b ≤ 57)
/-- A name that can be. -/
def okN (s : ByteArray) : Prop := 1 ≤ s.size ∧ s.size ≤ 20 ∧ ∀ (k : Nat) (h : k < s.size), okB s[k].toNat
def okP (l : List Pt) (k : Nat) (p : Pt) : Prop := okN p.name ∧ (0 ≤ p.act ∧ p.act ≤ 1) ∧ ∀ (j : Nat) (q : Pt), j < k → l[j]? = some q → q.name ≠ p.name
def partsOk (l : List Pt) : Prop := (1 ≤ l.length ∧ l.length ≤ 8) ∧ ∀ (k : Nat) (p : Pt), l[k]? = some p → okP l k p
def sumTo (l : List Pt) (k : Nat) : Int := ((l.take k).map (·.pages)).sum
def memOk (pages : Int) (l : List Pt) : Prop := (∀ (k : Nat) (p : Pt), l[k]? = some p → 1 ≤ p.pages ∧ p.pages ≤ 64) ∧ sumTo l l.length ≤ pages - 4
def okC (n : Int) (x : Ch) : Prop := (0 ≤ x.kind ∧ x.kind ≤ 1) ∧ (0 ≤ x.frm ∧ x.frm < n) ∧ (0 ≤ x.to ∧ x.to < n) ∧ x.frm ≠ x.to ∧ (1 ≤ x.size ∧ x.size ≤ 64) ∧ (1 ≤ x.depth ∧ x.depth ≤ 16) ∧ (x.kind = 0 → x.depth = 1)
def chansOk (n : Int) (l : List Ch) : Prop := l.length ≤ 16 ∧ ∀ (k : Nat) (x : Ch), l[k]? = some x → okC n x
/-- Where the window ahead ends. -/
def endTo (l : List Wn) : Nat → Int
  | 0 => 0
  | k + 1 => match l[k]? with | some x => x.start + x.len | none => 0
def okW (major switch n e : Int) (x : Wn) : Prop := e ≤ x.start ∧ switch < x.len ∧ x.len ≤ major - x.start ∧ (0 ≤ x.part ∧ x.part < n)
def planOk (c : Cf) : Prop := (1 ≤ c.major ∧ c.major ≤ 100000) ∧ (0 ≤ c.switch ∧ c.switch ≤ 1000) ∧ (1 ≤ c.wins.length ∧ c.wins.length ≤ 32) ∧ ∀ (k : Nat) (x : Wn), c.wins[k]? = some x → okW c.major c.switch c.parts.length (endTo c.wins k) x
def hostOk (c : Cf) : Prop := 5 ≤ c.pages ∧ c.pages ≤ 256
/-- What is wrong, out of five answers. -/
def chkB (b1 b2 b3 b4 b5 : Bool) : Int := if b1 = false then 11 else if b2 = false then 10 else if b3 = false then 11 else if b4 = false then 13 else if b5 = false then 12 else 0
open Classical in
noncomputable def chk (c : Cf) : Int := chkB (decide (hostOk c)) (decide (partsOk c.parts)) (decide (memOk c.pages c.parts)) (decide (chansOk c.parts.length c.chans)) (decide (planOk c))
/-- The cells of rows of structs. -/
abbrev ptC (p : Pt) : List Value := [.string p.name, .int .i64 p.pages, .int .i64 p.act]
abbrev chC (x : Ch) : List Value := [.int .i64 x.kind, .int .i64 x.frm, .int .i64 x.to, .int .i64 x.size, .int .i64 x.depth]
abbrev wnC (x : Wn) : List Value := [.int .i64 x.start, .int .i64 x.len, .int .i64 x.part]
/-- Structs that lie somewhere, in a block below B. -/
structure LieS (st : Nat) (w : World) (B : Nat) (p : Option Addr) (n c : Nat) (vs : List (List Value)) : Prop where
  len : vs.length = n
  cap : n ≤ c
  nil : p = none → c = 0
  at_ : 0 < n → ∃ b off, p = some ⟨b, off, none⟩ ∧ b < B ∧ ∀ (i : Nat) (x : List Value), vs[i]? = some x → ∀ (k : Nat) (v : Value), x[k]? = some v → w.cell? ⟨b, off + i * st + k, none⟩ = some v
section
variable {st : Nat} {w w' : World} {B B' n c : Nat} {p : Option Addr} {vs : List (List Value)}
theorem LieS.kept (h : LieS st w B p n c vs) (hb : Below B' w w') (hB : B ≤ B') : LieS st w' B p n c vs :=
  ⟨h.len, h.cap, h.nil, fun hn => by
    obtain ⟨b, off, e, hl, hc⟩ := h.at_ hn
    exact ⟨b, off, e, hl, fun i x hx k v hv => (World.cell?_of_block (hb.block b (by omega))).trans (hc i x hx k v hv)⟩⟩
theorem LieS.wide (h : LieS st w B p n c vs) (hB : B ≤ B') : LieS st w B' p n c vs :=
  ⟨h.len, h.cap, h.nil, fun hn => by
    obtain ⟨b, off, e, hl, hc⟩ := h.at_ hn
    exact ⟨b, off, e, by omega, hc⟩⟩
theorem lieS_nil (st : Nat) (w : World) (B c : Nat) (hc : p = none → c = 0) : LieS st w B p 0 c [] := ⟨rfl, Nat.zero_le _, hc, fun h => by omega⟩
/-- A part of the row, from its beginning. -/
theorem LieS.take (h : LieS st w B p n c vs) {m c' : Nat} (hm : m ≤ n) (hc : m ≤ c') (hn : p = none → c' = 0) : LieS st w B p m c' (vs.take m) :=
  ⟨by rw [List.length_take, h.len]; omega, hc, hn, fun h0 => by
    obtain ⟨b, off, e, hl, ha⟩ := h.at_ (by omega)
    refine ⟨b, off, e, hl, fun i x hx => ?_⟩
    have hi : i < m := by have := (List.getElem?_eq_some_iff.1 hx).1; rw [List.length_take] at this; omega
    rw [List.getElem?_take_of_lt hi] at hx
    exact ha i x hx⟩
end
/-- A configuration that lies: its value, and its rows below B. -/
structure At (w : World) (B : Nat) (v : Value) (c : Cf) : Prop where
  lies : ∃ p1 c1 p2 c2 p3 c3, v = .agg #[.int .i64 c.pages, .int .i64 c.major, .int .i64 c.switch, .slice p1 c.parts.length c1, .slice p2 c.chans.length c2, .slice p3 c.wins.length c3] ∧
    LieS 3 w B p1 c.parts.length c1 (c.parts.map ptC) ∧ LieS 5 w B p2 c.chans.length c2 (c.chans.map chC) ∧ LieS 3 w B p3 c.wins.length c3 (c.wins.map wnC)
/-- All its numbers are ints; its rows are no longer than rows are. -/
structure Wf (c : Cf) : Prop where
  pages : -9223372036854775808 ≤ c.pages ∧ c.pages ≤ 9223372036854775807
  major : -9223372036854775808 ≤ c.major ∧ c.major ≤ 9223372036854775807
  switch : -9223372036854775808 ≤ c.switch ∧ c.switch ≤ 9223372036854775807
  nums : (∀ (k : Nat) (p : Pt), c.parts[k]? = some p → p.name.size ≤ 9223372036854775807 ∧ (-9223372036854775808 ≤ p.pages ∧ p.pages ≤ 9223372036854775807)) ∧ (∀ (k : Nat) (x : Wn), c.wins[k]? = some x → (-9223372036854775808 ≤ x.start ∧ x.start ≤ 9223372036854775807) ∧ (-9223372036854775808 ≤ x.len ∧ x.len ≤ 9223372036854775807))
  len : c.parts.length ≤ 9223372036854775807 ∧ c.chans.length ≤ 9223372036854775807 ∧ c.wins.length ≤ 9223372036854775807
theorem At.kept {w w' : World} {B B' : Nat} {v : Value} {c : Cf} (h : At w B v c) (hb : Below B' w w') (hB : B ≤ B') : At w' B v c := by
  obtain ⟨p1, c1, p2, c2, p3, c3, e, h1, h2, h3⟩ := h.lies
  exact ⟨p1, c1, p2, c2, p3, c3, e, h1.kept hb hB, h2.kept hb hB, h3.kept hb hB⟩
theorem At.wide {w : World} {B B' : Nat} {v : Value} {c : Cf} (h : At w B v c) (hB : B ≤ B') : At w B' v c := by
  obtain ⟨p1, c1, p2, c2, p3, c3, e, h1, h2, h3⟩ := h.lies
  exact ⟨p1, c1, p2, c2, p3, c3, e, h1.wide hB, h2.wide hB, h3.wide hB⟩
theorem sumTo_succ (l : List Pt) (k : Nat) (p : Pt) (h : l[k]? = some p) : sumTo l (k + 1) = sumTo l k + p.pages := by
  have hk := (List.getElem?_eq_some_iff.1 h)
  obtain ⟨hk, rfl⟩ := hk
  unfold sumTo
  rw [List.take_add_one, List.getElem?_eq_getElem hk, List.map_append, List.sum_append]
  simp
theorem sumTo_le (l : List Pt) (k : Nat) (h : ∀ (j : Nat) (p : Pt), j < k → l[j]? = some p → 1 ≤ p.pages ∧ p.pages ≤ 64) (hk : k ≤ l.length) : 0 ≤ sumTo l k ∧ sumTo l k ≤ 64 * k := by
  induction k with
  | zero => simp [sumTo]
  | succ k ih =>
    have h1 := ih (fun j p hj => h j p (by omega)) (by omega)
    have h2 := List.getElem?_eq_getElem (show k < l.length by omega)
    have h3 := h k _ (by omega) h2
    rw [sumTo_succ l k _ h2]
    omega
/-- The cells of one struct. -/
theorem LieS.cell3 {α : Type} {f : α → List Value} {w : World} {B n c : Nat} {p : Option Addr} {l : List α} (h : LieS 3 w B p n c (l.map f)) (i : Nat) (x : α) {v0 v1 v2 : Value} (hx : l[i]? = some x) (hf : f x = [v0, v1, v2]) :
    ∃ b off, p = some ⟨b, off, none⟩ ∧ b < B ∧ w.cell? ⟨b, off + i * 3, none⟩ = some v0 ∧ w.cell? ⟨b, off + i * 3 + 1, none⟩ = some v1 ∧ w.cell? ⟨b, off + i * 3 + 2, none⟩ = some v2 := by
  have hi : i < n := by have := (List.getElem?_eq_some_iff.1 hx).1; have := h.len; rw [List.length_map] at this; omega
  obtain ⟨b, off, e, hl, ha⟩ := h.at_ (by omega)
  have hm : (l.map f)[i]? = some [v0, v1, v2] := by rw [List.getElem?_map, hx, ← hf]; rfl
  exact ⟨b, off, e, hl, ha i _ hm 0 _ rfl, ha i _ hm 1 _ rfl, ha i _ hm 2 _ rfl⟩
theorem LieS.cell5 {α : Type} {f : α → List Value} {w : World} {B n c : Nat} {p : Option Addr} {l : List α} (h : LieS 5 w B p n c (l.map f)) (i : Nat) (x : α) {v0 v1 v2 v3 v4 : Value} (hx : l[i]? = some x) (hf : f x = [v0, v1, v2, v3, v4]) :
    ∃ b off, p = some ⟨b, off, none⟩ ∧ b < B ∧ w.cell? ⟨b, off + i * 5, none⟩ = some v0 ∧ w.cell? ⟨b, off + i * 5 + 1, none⟩ = some v1 ∧ w.cell? ⟨b, off + i * 5 + 2, none⟩ = some v2 ∧ w.cell? ⟨b, off + i * 5 + 3, none⟩ = some v3 ∧ w.cell? ⟨b, off + i * 5 + 4, none⟩ = some v4 := by
  have hi : i < n := by have := (List.getElem?_eq_some_iff.1 hx).1; have := h.len; rw [List.length_map] at this; omega
  obtain ⟨b, off, e, hl, ha⟩ := h.at_ (by omega)
  have hm : (l.map f)[i]? = some [v0, v1, v2, v3, v4] := by rw [List.getElem?_map, hx, ← hf]; rfl
  exact ⟨b, off, e, hl, ha i _ hm 0 _ rfl, ha i _ hm 1 _ rfl, ha i _ hm 2 _ rfl, ha i _ hm 3 _ rfl, ha i _ hm 4 _ rfl⟩
end Go.Proofs.YtogbhgbnminpdaaDoor.Cfg
