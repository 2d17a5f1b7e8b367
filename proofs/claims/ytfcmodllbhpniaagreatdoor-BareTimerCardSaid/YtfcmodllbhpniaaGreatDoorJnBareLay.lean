/-
  A machine of package bare: its parts, what a walk sees of it, what single stores make of it.
-/
import Derived.Test.YtfcmodllbhpniaaGreatDoorJnUa
import Derived.Test.YtfcmodllbhpniaaGreatDoorJnMind
import Derived.Test.YtfcmodllbhpniaaGreatDoorJnPhys
import Derived.Test.YtfcmodllbhpniaaGreatDoorJnCpuEn
set_option linter.unusedVariables false
set_option maxRecDepth 100000
namespace Go.Proofs.YtfcmodllbhpniaaGreatDoor.Ser
open Go.Proofs.YtfcmodllbhpniaaGreatDoor
open Go.ChangeShapes Go.WideShapes Go.ChangeAt Go.RowKit
/-- A memory as a thing. -/
def MemT (t : TypeId) (h g : Nat) (bs : List Int) : Thing where
  is w F := Mem t w h g bs ∧ F = fun i => i = h ∨ i = g
  firm := by
    rintro w w' _ ⟨M, rfl⟩ hk
    exact ⟨⟨(hk h (.inl rfl)).trans M.hd, (hk g (.inr rfl)).trans M.ce, M.ne, M.byt, M.le⟩, rfl⟩
  lt := by
    rintro w _ ⟨M, rfl⟩ i (rfl | rfl)
    · exact (Array.getElem?_eq_some_iff.1 M.hd).1
    · exact (Array.getElem?_eq_some_iff.1 M.ce).1
/-- Where a machine lies, and what of it never turns. -/
structure Lay where
  h : Nat
  hm : Nat
  g : Nat
  bv : Value
  bs : List Int
  en : Int
abbrev AL (L : Lay) : List Value := [L.bv, i64 L.en, .nilIface, .pointer (some ⟨L.hm, 0, none⟩)]
abbrev ZL (rv cv ov : Value) (m : Ma) : List Value := [rv, i64 m.pc, cv, .bool m.halt, .bool m.stuck, ov]
abbrev parts (L : Lay) (rv cv ov : Value) (m : Ma) : List Thing :=
  [Ua L.h (AL L) (ZL rv cv ov m) m.rx m.tx, MemT 87 L.hm L.g m.M, RowT 3 .i64 rv m.R, RowT 3 .i64 cv m.C, RowT 5 .u8 L.bv L.bs, RowT 5 .u8 ov []]
/-- A machine. -/
def Bm (L : Lay) (m : Ma) : Thing where
  is w F := m.Fine ∧ ∃ rv cv ov, (Group (parts L rv cv ov m)).is w F
  firm := by rintro w w' F ⟨f, rv, cv, ov, h⟩ hk; exact ⟨f, rv, cv, ov, (Group _).firm _ _ _ h hk⟩
  lt := by rintro w F ⟨f, rv, cv, ov, h⟩; exact (Group _).lt _ _ h
/-- What a walk sees of a machine. -/
structure Sees (w : World) (F : Nat → Prop) (L : Lay) (m : Ma) (ov : Value) (gr cr gc cc : Nat) : Prop where
  fine : m.Fine
  grp : (Group (parts L (.slice (some ⟨gr, 0, none⟩) 16 cr) (.slice (some ⟨gc, 0, none⟩) 11 cc) ov m)).is w F
  c0 : w.cell? ⟨L.h, 0, none⟩ = some L.bv
  c1 : w.cell? ⟨L.h, 1, none⟩ = some (i64 L.en)
  c2 : w.cell? ⟨L.h, 2, none⟩ = some .nilIface
  c3 : w.cell? ⟨L.h, 3, none⟩ = some (.pointer (some ⟨L.hm, 0, none⟩))
  c23 : w.cell? ⟨L.h, 23, none⟩ = some (.slice (some ⟨gr, 0, none⟩) 16 cr)
  c24 : w.cell? ⟨L.h, 24, none⟩ = some (i64 m.pc)
  c25 : w.cell? ⟨L.h, 25, none⟩ = some (.slice (some ⟨gc, 0, none⟩) 11 cc)
  c26 : w.cell? ⟨L.h, 26, none⟩ = some (.bool m.halt)
  c27 : w.cell? ⟨L.h, 27, none⟩ = some (.bool m.stuck)
  c28 : w.cell? ⟨L.h, 28, none⟩ = some ov
  fz : ∀ k, w.frozen? ⟨L.h, k, none⟩ = false
  fr : ∀ k, w.frozen? ⟨gr, k, none⟩ = false
  fc : ∀ k, w.frozen? ⟨gc, k, none⟩ = false
  rr : ∀ j, j < 16 → w.cell? ⟨gr, j, none⟩ = some (i64 (m.R.getD j 0))
  cs : ∀ j, j < 11 → w.cell? ⟨gc, j, none⟩ = some (i64 (m.C.getD j 0))
theorem row_form {E : TypeId} {k : IntKind} {v : Value} {xs : List Int} {w : World} {F : Nat → Prop} (h : (RowT E k v xs).is w F) (hl : 0 < xs.length) :
    ∃ g c, v = .slice (some ⟨g, 0, none⟩) xs.length c ∧ (∀ j, w.frozen? ⟨g, j, none⟩ = false) ∧ ∀ j, j < xs.length → w.cell? ⟨g, j, none⟩ = some (.int k (xs.getD j 0)) := by
  obtain ⟨h, -⟩ := h
  obtain ⟨g, c, e, -, -, -, -, -⟩ := ownK_cell h hl
  subst e
  refine ⟨g, c, rfl, fun j => ?_, fun j hj => ?_⟩
  · obtain ⟨-, ⟨e, -⟩ | ⟨g', cap, cur, e, -, h3, -⟩⟩ := h
    · cases e
    · injection e with e1 e2 e3
      injection e1 with e1
      injection e1 with e1
      subst e1
      simp [World.frozen?, h3]
  · obtain ⟨g', c', e, -, -, -, -, h5, -⟩ := ownK_cell h hj
    injection e with e1 e2 e3
    injection e1 with e1
    injection e1 with e1
    subst e1
    exact h5
theorem bm_sees {L : Lay} {m : Ma} {w : World} {F : Nat → Prop} (h : (Bm L m).is w F) : ∃ ov gr cr gc cc, Sees w F L m ov gr cr gc cc := by
  obtain ⟨f, rv, cv, ov, Fs, hG⟩ := h
  obtain ⟨gr, cr, e1, e2, e3⟩ := row_form (hG.p 2 _ rfl) (by rw [f.rl]; omega)
  obtain ⟨gc, cc, e4, e5, e6⟩ := row_form (hG.p 3 _ rfl) (by rw [f.cl]; omega)
  rw [f.rl] at e1 e3; rw [f.cl] at e4 e6
  subst e1; subst e4
  obtain ⟨ring, f0, v, U, -⟩ := hG.p 0 _ rfl
  exact ⟨ov, gr, cr, gc, cc, ⟨f, ⟨Fs, hG⟩, U.cA 0 (by omega), U.cA 1 (by omega), U.cA 2 (by omega), U.cA 3 (by omega), U.cZ 0, U.cZ 1, U.cZ 2, U.cZ 3, U.cZ 4, U.cZ 5, U.frozen, e2, e5, e3, e6⟩⟩
section
variable {w : World} {F : Nat → Prop} {L : Lay} {m : Ma} {ov : Value} {gr cr gc cc : Nat}
theorem Sees.is (S : Sees w F L m ov gr cr gc cc) : (Bm L m).is w F := ⟨S.fine, _, _, _, S.grp⟩
theorem Sees.reg (S : Sees w F L m ov gr cr gc cc) {i : Int} (h0 : 0 ≤ i) (h1 : i ≤ 15) : w.cell? ⟨gr, i.toNat, none⟩ = some (i64 (m.r i)) := S.rr _ (by omega)
theorem Sees.csr (S : Sees w F L m ov gr cr gc cc) {j : Nat} (h1 : j < 11) : w.cell? ⟨gc, j, none⟩ = some (i64 (m.c j)) := S.cs _ h1
theorem Ua.setZ {h : Nat} {A Z : List Value} {rx tx : List Int} {w : World} {F : Nat → Prop} (hU : (Ua h A Z rx tx).is w F) (k : Nat) (hk : k < Z.length) (x : Value) : Step F (Ua h A (Z.set k x) rx tx) w (w.setCell ⟨h, 23 + k, none⟩ x) := by
  obtain ⟨ring, f, v, U, rfl⟩ := hU
  exact ⟨_, ⟨ring, f, v, U.setZ k hk x, rfl⟩, fun i hi => .inl hi, (But.refl _ _).setCell _ (.inl rfl) _⟩
theorem RowT.setAt {E : TypeId} {k : IntKind} {g n c : Nat} {xs : List Int} {w : World} {F : Nat → Prop} (hR : (RowT E k (.slice (some ⟨g, 0, none⟩) n c) xs).is w F) (j : Nat) (hj : j < xs.length) (x : Int) :
    Step F (RowT E k (.slice (some ⟨g, 0, none⟩) n c) (xs.set j x)) w (w.setCell ⟨g, j, none⟩ (.int k x)) := by
  obtain ⟨h, rfl⟩ := hR
  obtain ⟨g', c', e, -, -, -, -, -, -, h8⟩ := ownK_cell h hj
  injection e with e1 e2 e3
  injection e1 with e1
  injection e1 with e1
  subst e1
  exact ⟨_, ⟨h8 x, rfl⟩, fun i hi => .inl hi, (But.refl (fun i => (Value.slice (some ⟨g, 0, none⟩) n c).ownBlock = some i) w).setCell ⟨g, j, none⟩ (show (Value.slice (some ⟨g, 0, none⟩) n c).ownBlock = some g from rfl) _⟩
theorem bm_of {rv cv ov' : Value} {m' : Ma} {w w' : World} (f : m'.Fine) (h : Step F (Group (parts L rv cv ov' m')) w w') : Step F (Bm L m') w w' := by
  obtain ⟨F', p, n, b⟩ := h
  exact ⟨F', ⟨f, rv, cv, ov', p⟩, n, b⟩
theorem Sees.pc' (S : Sees w F L m ov gr cr gc cc) {p : Int} (hp : Wd p) : Step F (Bm L (m.go p)) w (w.setCell ⟨L.h, 24, none⟩ (i64 p)) :=
  bm_of (S.fine.go hp) (Group.turn S.grp (n := 0) rfl fun _ h => Ua.setZ h 1 (by show 1 < 6; omega) _)
theorem Sees.halt' (S : Sees w F L m ov gr cr gc cc) (b : Bool) : Step F (Bm L { m with halt := b }) w (w.setCell ⟨L.h, 26, none⟩ (.bool b)) :=
  bm_of (S.fine.halt b) (Group.turn S.grp (n := 0) rfl fun _ h => Ua.setZ h 3 (by show 3 < 6; omega) _)
theorem Sees.stuck' (S : Sees w F L m ov gr cr gc cc) (b : Bool) : Step F (Bm L { m with stuck := b }) w (w.setCell ⟨L.h, 27, none⟩ (.bool b)) :=
  bm_of (S.fine.stuck b) (Group.turn S.grp (n := 0) rfl fun _ h => Ua.setZ h 4 (by show 4 < 6; omega) _)
theorem Sees.reg' (S : Sees w F L m ov gr cr gc cc) {a v : Int} (h0 : ¬ a = 0) (h1 : 0 ≤ a) (h2 : a ≤ 15) (hv : Wd v) : Step F (Bm L (m.set a v)) w (w.setCell ⟨gr, a.toNat, none⟩ (i64 v)) := by
  have hf := S.fine.set a hv h1
  have e : m.set a v = { m with R := m.R.set a.toNat v } := by unfold Ma.set; rw [if_neg h0]
  rw [e] at hf ⊢
  exact bm_of hf (Group.turn S.grp (n := 2) rfl fun _ h => RowT.setAt h _ (by rw [S.fine.rl]; omega) v)
theorem Sees.csr' (S : Sees w F L m ov gr cr gc cc) {j : Nat} (hj : j < 11) {v : Int} (hv : Wd v) : Step F (Bm L (m.setC j v)) w (w.setCell ⟨gc, j, none⟩ (i64 v)) :=
  bm_of (S.fine.setC j hv) (Group.turn S.grp (n := 3) rfl fun _ h => RowT.setAt h _ (by rw [S.fine.cl]; omega) v)
theorem cell_later {u : World} (b : Below w.heap.size w u) {a : Addr} {x : Value} (h : w.cell? a = some x) : u.cell? a = some x :=
  (World.cell?_of_block (b.block a.block (World.block_lt_of_cell? w a h))).trans h
theorem frozen_later {u : World} (b : Below w.heap.size w u) {a : Addr} (hl : a.block < w.heap.size) (h : w.frozen? a = false) : u.frozen? a = false := by
  unfold World.frozen? at *; rw [b.block a.block hl]; exact h
theorem Sees.later {u : World} (S : Sees w F L m ov gr cr gc cc) (b : Below w.heap.size w u) : Sees u F L m ov gr cr gc cc where
  fine := S.fine
  grp := (Group _).firm _ _ _ S.grp fun i hi => b.block i ((Group _).lt _ _ S.grp i hi)
  c0 := cell_later b S.c0
  c1 := cell_later b S.c1
  c2 := cell_later b S.c2
  c3 := cell_later b S.c3
  c23 := cell_later b S.c23
  c24 := cell_later b S.c24
  c25 := cell_later b S.c25
  c26 := cell_later b S.c26
  c27 := cell_later b S.c27
  c28 := cell_later b S.c28
  fz := fun k => frozen_later b (a := ⟨L.h, k, none⟩) (World.block_lt_of_cell? w ⟨L.h, 0, none⟩ S.c0) (S.fz k)
  fr := fun k => frozen_later b (a := ⟨gr, k, none⟩) (World.block_lt_of_cell? w ⟨gr, 0, none⟩ (S.rr 0 (by omega))) (S.fr k)
  fc := fun k => frozen_later b (a := ⟨gc, k, none⟩) (World.block_lt_of_cell? w ⟨gc, 0, none⟩ (S.cs 0 (by omega))) (S.fc k)
  rr := fun j hj => cell_later b (S.rr j hj)
  cs := fun j hj => cell_later b (S.cs j hj)
theorem Sees.mem (S : Sees w F L m ov gr cr gc cc) : Mem 87 w L.hm L.g m.M := by obtain ⟨Fs, hG⟩ := S.grp; exact (hG.p 1 _ rfl).1
theorem Sees.ua (S : Sees w F L m ov gr cr gc cc) : ∃ ring f v, UaAt w L.h (AL L) (ZL (.slice (some ⟨gr, 0, none⟩) 16 cr) (.slice (some ⟨gc, 0, none⟩) 11 cc) ov m) m.rx m.tx ring f v := by
  obtain ⟨Fs, hG⟩ := S.grp
  obtain ⟨ring, f, v, U, -⟩ := hG.p 0 _ rfl
  exact ⟨ring, f, v, U⟩
/-- A call that turns the Uart. -/
theorem Sees.uart (S : Sees w F L m ov gr cr gc cc) {f : Nat} {args : Array Value} {E : Ending} {rx tx : List Int} (hf : ({ m with rx := rx, tx := tx } : Ma).Fine)
    (h : ∀ Z, Turns f args E (Ua L.h (AL L) Z m.rx m.tx) (Ua L.h (AL L) Z rx tx)) : Calls Tryz.prog f args w fun e w' => e = E ∧ Step F (Bm L { m with rx := rx, tx := tx }) w w' := by
  obtain ⟨Fs, hG⟩ := S.grp
  exact (h _ w _ (hG.p 0 _ rfl)).mono fun e w' ⟨h1, h2⟩ => ⟨h1, bm_of hf (hG.turn (n := 0) rfl h2)⟩
/-- The state of a machine, as cpu sees it. -/
abbrev stM (m : Ma) : St := ⟨m.R, m.pc, m.C, m.halt, m.stuck, []⟩
theorem Sees.stL (S : Sees w F L m ov gr cr gc cc) : ∃ p c, ov = .slice p 0 c ∧ StL w w.heap.size (.agg #[.slice (some ⟨gr, 0, none⟩) 16 cr, i64 m.pc, .slice (some ⟨gc, 0, none⟩) 11 cc, .bool m.halt, .bool m.stuck, ov]) (stM m) := by
  obtain ⟨Fs, hG⟩ := S.grp
  obtain ⟨p1, c1, e1, -, l1⟩ := ownK_lie (hG.p 2 _ rfl).1
  obtain ⟨p2, c2, e2, -, l2⟩ := ownK_lie (hG.p 3 _ rfl).1
  obtain ⟨p3, c3, e3, -, l3⟩ := ownK_lie (hG.p 5 _ rfl).1
  refine ⟨p3, c3, e3, _, _, _, _, _, _, _, _, _, ?_, l1, l2, l3⟩
  rw [← e1, ← e2, ← e3]
/-- Bytes and numbers lie in blocks that are unlike. -/
theorem own_unlike {B : Nat} {r o : Value} {xs ys : List Int} (hr : OwnK 3 .i64 w B r xs) (ho : OwnK 5 .u8 w B o ys) (g : Nat) (h1 : r.ownBlock = some g) (h2 : o.ownBlock = some g) : False := by
  obtain ⟨-, ⟨rfl, -⟩ | ⟨g1, c1, cur1, rfl, -, h3, -⟩⟩ := hr
  · cases h1
  · obtain ⟨-, ⟨rfl, -⟩ | ⟨g2, c2, cur2, rfl, -, h4, -⟩⟩ := ho
    · cases h2
    · injection h1 with h1
      injection h2 with h2
      subst h1; subst h2
      rw [h3] at h4
      injection h4 with h4
      injection h4 with _ h4
      exact absurd h4 (by decide)
theorem ownK_zero {E : TypeId} {k : IntKind} {B : Nat} {v : Value} {xs : List Int} (h : OwnK E k w B v xs) : (RowT E k v xs).is w (fun i => v.ownBlock = some i) := ⟨ownK_mono h (Nat.zero_le _), rfl⟩
/-- All cells of the state written. -/
abbrev put6 (w : World) (h : Nat) (r : Value) (pc : Int) (c : Value) (ht sk : Bool) (o : Value) : World := (((((w.setCell ⟨h, 23, none⟩ r).setCell ⟨h, 24, none⟩ (i64 pc)).setCell ⟨h, 25, none⟩ c).setCell ⟨h, 26, none⟩ (.bool ht)).setCell ⟨h, 27, none⟩ (.bool sk)).setCell ⟨h, 28, none⟩ o
/-- The state turns into another one, laid anew. -/
theorem Sees.state (S : Sees w F L m ov gr cr gc cc) {w1 : World} (hb : Below w.heap.size w w1) {r c o : Value} {s : St} (hs : s.O = []) (SO : StO w1 w.heap.size r c o s) {m' : Ma} (hm : m' = { m with R := s.R, pc := s.pc, C := s.C, halt := s.h, stuck := s.k }) (hf : m'.Fine) :
    Step F (Bm L m') w (put6 w1 L.h r s.pc c s.h s.k o) := by
  obtain ⟨oR, oC, oO, nr, no⟩ := SO
  have h1 : Step F (Group [Ua L.h (AL L) (ZL (.slice (some ⟨gr, 0, none⟩) 16 cr) (.slice (some ⟨gc, 0, none⟩) 11 cc) ov m) m.rx m.tx, MemT 87 L.hm L.g m.M, RowT 3 .i64 r s.R, RowT 3 .i64 c s.C, RowT 5 .u8 L.bv L.bs, RowT 5 .u8 o []]) w w1 := by
    refine Group.relay (G := fun k i => (k = 2 ∧ r.ownBlock = some i) ∨ (k = 3 ∧ c.ownBlock = some i) ∨ (k = 5 ∧ o.ownBlock = some i)) S.grp hb rfl (fun k Q hQ => ?_) (fun k i hi => ?_) (fun k k' i h1 h2 => ?_)
    · match k, hQ with
      | 0, hQ => exact .inl hQ
      | 1, hQ => exact .inl hQ
      | 2, hQ =>
        obtain rfl := Option.some.inj hQ
        refine .inr ?_
        have e : (fun i => ((2 : Nat) = 2 ∧ r.ownBlock = some i) ∨ ((2 : Nat) = 3 ∧ c.ownBlock = some i) ∨ ((2 : Nat) = 5 ∧ o.ownBlock = some i)) = fun i => r.ownBlock = some i := by funext i; apply propext; simp
        exact e ▸ ownK_zero oR
      | 3, hQ =>
        obtain rfl := Option.some.inj hQ
        refine .inr ?_
        have e : (fun i => ((3 : Nat) = 2 ∧ r.ownBlock = some i) ∨ ((3 : Nat) = 3 ∧ c.ownBlock = some i) ∨ ((3 : Nat) = 5 ∧ o.ownBlock = some i)) = fun i => c.ownBlock = some i := by funext i; apply propext; simp
        exact e ▸ ownK_zero oC
      | 4, hQ => exact .inl hQ
      | 5, hQ =>
        obtain rfl := Option.some.inj hQ
        refine .inr ?_
        have e : (fun i => ((5 : Nat) = 2 ∧ r.ownBlock = some i) ∨ ((5 : Nat) = 3 ∧ c.ownBlock = some i) ∨ ((5 : Nat) = 5 ∧ o.ownBlock = some i)) = fun i => o.ownBlock = some i := by funext i; apply propext; simp
        rw [hs] at oO
        exact e ▸ ownK_zero oO
      | n + 6, hQ => simp at hQ
    · rcases hi with ⟨-, hi⟩ | ⟨-, hi⟩ | ⟨-, hi⟩
      · exact (oR.lt i hi).1
      · exact (oC.lt i hi).1
      · exact (oO.lt i hi).1
    · have u1 := own_unlike oR oO i
      have u2 := nr i
      have u3 := no i
      rcases h1 with ⟨rfl, h1⟩ | ⟨rfl, h1⟩ | ⟨rfl, h1⟩ <;> rcases h2 with ⟨rfl, h2⟩ | ⟨rfl, h2⟩ | ⟨rfl, h2⟩
      · rfl
      · exact absurd h1 (u2 h2)
      · exact (u1 h1 h2).elim
      · exact absurd h2 (u2 h1)
      · rfl
      · exact absurd h2 (u3 h1)
      · exact (u1 h2 h1).elim
      · exact absurd h1 (u3 h2)
      · rfl
  subst hm
  refine bm_of (rv := r) (cv := c) (ov' := o) hf ?_
  refine h1.trans fun F1 p1 => Group.turn p1 (n := 0) rfl fun F2 p2 => ?_
  refine Step.trans (Ua.setZ p2 0 (by show 0 < 6; omega) r) fun F3 p3 => Step.trans (Ua.setZ p3 1 (by show 1 < 6; omega) (i64 s.pc)) fun F4 p4 => Step.trans (Ua.setZ p4 2 (by show 2 < 6; omega) c) fun F5 p5 =>
    Step.trans (Ua.setZ p5 3 (by show 3 < 6; omega) (.bool s.h)) fun F6 p6 => Step.trans (Ua.setZ p6 4 (by show 4 < 6; omega) (.bool s.k)) fun F7 p7 => Ua.setZ p7 5 (by show 5 < 6; omega) o
end
/-- What the global holds. -/
abbrev Glob (w : World) : Prop := w.cell? ⟨0, 0, none⟩ = some (.iface 174 (.agg #[.pointer (some ⟨1, 97, none⟩)]))
/-- The global lies apart from what is in F. -/
structure Apart0 (w : World) (F : Nat → Prop) : Prop where
  g : Glob w
  n : ¬ F 0
theorem Step.apart {F : Nat → Prop} {P : Thing} {w w' : World} (h : Step F P w w') (a : Apart0 w F) : ∃ F', P.is w' F' ∧ Apart0 w' F' := by
  obtain ⟨F', p, n, b⟩ := h
  have hl : 0 < w.heap.size := World.block_lt_of_cell? w _ a.g
  refine ⟨F', p, b.cell a.g a.n, fun h => ?_⟩
  rcases n 0 h with h | h
  · exact a.n h
  · omega
end Go.Proofs.YtfcmodllbhpniaaGreatDoor.Ser
