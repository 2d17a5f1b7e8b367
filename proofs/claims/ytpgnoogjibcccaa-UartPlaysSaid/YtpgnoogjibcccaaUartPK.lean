
/-
  Law UartPlays: the act at hand, a row of bytes that is written, and reads of r among things that lie apart; the rows of acts that came in.
-/
import Derived.Test.YtpgnoogjibcccaaUartSep
namespace Go.Proofs.Ytpgnoogjibcccaa.Ser
open Go.Proofs.Ytpgnoogjibcccaa
open Go.ChangeShapes Go.WideShapes Go.ChangeAt Go.RowKit
theorem ust_len (tx : List Int) (off v : Int) : (ust tx off v).length ≤ tx.length + 1 := by
  unfold ust; split
  · simp
  · omega
abbrev A3 := Int × Int × Int
theorem wpAnyH_mono {P : Program} {md : Region.Mode} {ops : Array Oper} {Q : Exit → Act → World → Prop} {S S' : World → Prop} (hS : ∀ w, S' w → S w) :
    ∀ (fuel : Nat) (listed : Array Bool) (a : Act) (w : World), wpAnyH P md ops Q S' fuel listed a w → wpAnyH P md ops Q S fuel listed a w
  | 0, _, _, _, h => h
  | fuel + 1, _, _, _, h => ⟨h.1, fun i hi => wpOp_mono (fun a' w' h' => ⟨hS _ h'.1, wpAnyH_mono hS fuel _ a' w' h'.2⟩) (h.2 i hi)⟩
/-- The act at hand, in a block of its own. -/
def Box (A : Nat) (a : A3) : Thing where
  is w F := w.heap[A]? = some (.cells #[.int .i64 a.1, .int .i64 a.2.1, .int .i64 a.2.2] 33 (0, 0)) ∧ F = fun i => i = A
  firm := by
    rintro w w' _ ⟨h, rfl⟩ hk
    exact ⟨(hk A rfl).trans h, rfl⟩
  lt := by
    rintro w _ ⟨h, rfl⟩ i rfl
    exact (Array.getElem?_eq_some_iff.1 h).1
/-- A row of bytes of the call's own, as a thing. -/
def RowT (p : Option Addr) (c : Nat) (ys : List Int) : Thing where
  is w F := Own w 0 (.slice p ys.length c) ys ∧ F = fun i => (Value.slice p ys.length c).ownBlock = some i
  firm := by
    rintro w w' _ ⟨h, rfl⟩ hk
    exact ⟨own_kept h fun g hg => hk g hg, rfl⟩
  lt := by
    rintro w _ ⟨h, rfl⟩ i hi
    exact (h.lt i hi).2
section
variable {W w w' : World} {P Q R X : Thing} {h : Nat} {rx tx : List Int}
theorem Sep.drew (s : Sep W w P Q R X) : Sep W w.drew P Q R X := s.still ((Below.refl _ _).drew)
theorem Sep.box {A : Nat} {a : A3} (s : Sep W w P Q R (Box A a)) : w.cell? ⟨A, 0, none⟩ = some (.int .i64 a.1) ∧ w.cell? ⟨A, 1, none⟩ = some (.int .i64 a.2.1) ∧ w.cell? ⟨A, 2, none⟩ = some (.int .i64 a.2.2) := by
  obtain ⟨F, hd, -⟩ := s.get4
  refine ⟨?_, ?_, ?_⟩
  · rw [cell_of_row w A 0 _ _ _ hd]; rfl
  · rw [cell_of_row w A 1 _ _ _ hd]; rfl
  · rw [cell_of_row w A 2 _ _ _ hd]; rfl
theorem Sep.layBox (s : Sep W w P Q R X) (a : A3) : Sep W (w.alloc (.cells #[.int .i64 a.1, .int .i64 a.2.1, .int .i64 a.2.2] 33)) P Q R (Box w.heap.size a) :=
  s.lay4 ((Below.refl _ _).alloc (Nat.le_refl _) _) (J := fun i => i = w.heap.size) ⟨heap_alloc_new _ _, rfl⟩ (fun i hi => by omega)
/-- r's cells. -/
theorem Sep.rx3 (s : Sep W w P Q (Ru h rx tx) X) : ∃ p c, w.cell? ⟨h, 0, none⟩ = some (.slice p rx.length c) := by
  obtain ⟨F, ⟨p, c, v, U, -⟩⟩ := s.get3
  exact ⟨p, c, U.c0⟩
theorem Sep.tx3 (s : Sep W w P Q (Ru h rx tx) X) : ∃ p c, w.cell? ⟨h, 1, none⟩ = some (.slice p tx.length c) ∧ (convert 26 9 (.slice p tx.length c)).run Try.prog w = .ok (.string (strOfNums tx)) w := by
  obtain ⟨F, ⟨p, c, v, U, -⟩⟩ := s.get3
  obtain ⟨p', c', rfl, -⟩ := own_form U.own
  exact ⟨p', c', U.c1, conv_src (own_src U.own) c'⟩
theorem Sep.tx3u (s : Sep W w P Q (Ru h rx tx) X) : ∃ p c, ∀ u, Below w.heap.size w u → u.cell? ⟨h, 1, none⟩ = some (.slice p tx.length c) ∧ (convert 26 9 (.slice p tx.length c)).run Try.prog u = .ok (.string (strOfNums tx)) u := by
  obtain ⟨F, ⟨p, c, v, U, -⟩⟩ := s.get3
  obtain ⟨p', c', rfl, -⟩ := own_form U.own
  refine ⟨p', c', fun u hu => ⟨(World.cell?_of_block (hu.block h U.lt)).trans U.c1, conv_src (own_src (B := 0) (own_kept U.own fun g hg => hu.block g (U.own.lt g hg).2)) c'⟩⟩
theorem Sep.nil3 (s : Sep W w P Q (Ru h rx tx) X) : (∃ p c, w.cell? ⟨h, 0, none⟩ = some (.slice p rx.length c)) ∧ w.frozen? ⟨h, 0, none⟩ = false ∧ Sep W (w.setCell ⟨h, 0, none⟩ (.slice none 0 0)) P Q (Ru h [] tx) X := by
  obtain ⟨F, ⟨p, c, v, U, -⟩⟩ := s.get3
  refine ⟨⟨p, c, U.c0⟩, U.frozen 0, s.turn3 ?_⟩
  rintro F ⟨p, c, v, U, rfl⟩
  exact (U.newRx (xs := []) (Below.refl _ _) (own_nil _ _) (by simp) (fun b hb => by simp at hb)).2.2
/-- A byte of the row is written. -/
theorem Sep.row4 {p : Option Addr} {c k : Nat} {ys : List Int} (s : Sep W w P Q R (RowT p c ys)) (hk : k < ys.length) : ∃ g, p = some ⟨g, 0, none⟩ ∧ w.cell? ⟨g, k, none⟩ = some (.int .u8 ys[k]) ∧ w.frozen? ⟨g, k, none⟩ = false ∧ ∀ b : Int, Sep W (w.setCell ⟨g, k, none⟩ (.int .u8 b)) P Q R (RowT p c (ys.set k b)) := by
  obtain ⟨F, ho, -⟩ := s.get4
  obtain ⟨g, rfl, -, hc, hf, -⟩ := own_cell ho hk
  refine ⟨g, rfl, hc, hf, fun b => s.turn4 ?_⟩
  rintro F ⟨ho, rfl⟩
  obtain ⟨g', e, -, -, -, hs⟩ := own_cell ho hk
  injection e with e
  injection e with e
  subst e
  have hb : ∀ n : Nat, (Value.slice (some (⟨g, 0, none⟩ : Addr)) n c).ownBlock = some g := fun _ => rfl
  refine ⟨_, ⟨by rw [List.length_set]; exact hs b, rfl⟩, fun i hi => .inl ?_, (But.refl _ _).setCell _ (hb _) _⟩
  rw [hb] at hi ⊢; exact hi
theorem Sep.layRow (s : Sep W w P Q R X) (hb : Below w.heap.size w w') {p : Option Addr} {c : Nat} {ys : List Int} (ho : Own w' w.heap.size (.slice p ys.length c) ys) : Sep W w' P Q R (RowT p c ys) :=
  s.lay4 hb (J := fun i => (Value.slice p ys.length c).ownBlock = some i) ⟨own_mono ho (Nat.zero_le _), rfl⟩ (fun i hi => (ho.lt i hi).1)
end
/-- A row of acts that came in. -/
structure Acts7 (W : World) (lp : Option Addr) (len : Nat) (f : Nat → A3) : Prop where
  at_ : 0 < len → ∃ b off, lp = some ⟨b, off, none⟩ ∧ b < W.heap.size ∧ ∀ i, i < len →
    W.cell? ⟨b, off + i * 3, none⟩ = some (.int .i64 (f i).1) ∧ W.cell? ⟨b, off + i * 3 + 1, none⟩ = some (.int .i64 (f i).2.1) ∧ W.cell? ⟨b, off + i * 3 + 2, none⟩ = some (.int .i64 (f i).2.2)
  wf : ∀ i, i < len → -9223372036854775808 ≤ (f i).2.1 ∧ (f i).2.1 ≤ 9223372036854775807
theorem Acts7.cell {W w : World} {lp : Option Addr} {len : Nat} {f : Nat → A3} (h : Acts7 W lp len f) (hb : Below W.heap.size W w) (i : Nat) (hi : i < len) :
    ∃ b off, lp = some ⟨b, off, none⟩ ∧ w.cell? ⟨b, off + i * 3, none⟩ = some (.int .i64 (f i).1) ∧ w.cell? ⟨b, off + i * 3 + 1, none⟩ = some (.int .i64 (f i).2.1) ∧ w.cell? ⟨b, off + i * 3 + 2, none⟩ = some (.int .i64 (f i).2.2) := by
  obtain ⟨b, off, rfl, hlt, hc⟩ := h.at_ (by omega)
  have e : ∀ k, w.cell? ⟨b, k, none⟩ = W.cell? ⟨b, k, none⟩ := fun k => World.cell?_of_block (hb.block b hlt)
  refine ⟨b, off, rfl, ?_⟩
  rw [e, e, e]; exact hc i hi
end Go.Proofs.Ytpgnoogjibcccaa.Ser
