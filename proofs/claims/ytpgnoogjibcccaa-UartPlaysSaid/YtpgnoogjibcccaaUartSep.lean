
/-
  Out and Waiting among things that lie apart; a row of bytes as a thing; a row of ints that came in.
-/
import Derived.Test.YtpgnoogjibcccaaUartAlive
namespace Go.Proofs.Ytpgnoogjibcccaa.Ser
open Go.Proofs.Ytpgnoogjibcccaa
open Go.ChangeShapes Go.WideShapes Go.ChangeAt Go.RowKit
section
variable {W w w' : World} {P Q R X : Thing} {h : Nat} {rx tx : List Int}
theorem below_then {B : Nat} {w w' w'' : World} (h : Below B w w') (hB : B ≤ w.heap.size) (h' : Below w'.heap.size w' w'') : Below B w w'' :=
  h.trans (h'.mono (Nat.le_trans hB h.size))
theorem Sep.out1 (s : Sep W w (Ua h rx tx) Q R X) (hl : tx.length < 100000) : Calls Try.prog 14 #[.pointer (some ⟨h, 0, none⟩)] w fun e w' => ∃ p c, e = .returned (.slice p tx.length c) ∧ Own w' w.heap.size (.slice p tx.length c) tx ∧ Below w.heap.size w w' ∧ Sep W w' (Ua h rx tx) Q R X := by
  obtain ⟨F, ⟨ring, f, v, U, -⟩⟩ := s.get1
  refine (out_says U hl).mono ?_
  rintro e w' ⟨p, c, he, ho, hb⟩
  exact ⟨p, c, he, ho, hb, s.still hb⟩
theorem Sep.wait1 (s : Sep W w (Ua h rx tx) Q R X) : Calls Try.prog 13 #[.pointer (some ⟨h, 0, none⟩)] w fun e w' => e = .returned (i64 rx.length) ∧ w = w' := by
  obtain ⟨F, ⟨ring, f, v, U, -⟩⟩ := s.get1
  exact waiting_says U
theorem Sep.byt1 (s : Sep W w (Ua h rx tx) Q R X) : Byts tx := by
  obtain ⟨F, ⟨ring, f, v, U, -⟩⟩ := s.get1
  exact U.byt
theorem Sep.le1 (s : Sep W w (Ua h rx tx) Q R X) : rx.length ≤ 16 := by
  obtain ⟨F, ⟨ring, f, v, U, -⟩⟩ := s.get1
  exact U.le
end
/-- A row of ints that came in. -/
structure Ints (W : World) (lp : Option Addr) (len : Nat) (f : Nat → Int) : Prop where
  at_ : 0 < len → ∃ b off, lp = some ⟨b, off, none⟩ ∧ b < W.heap.size ∧ ∀ i, i < len → W.cell? ⟨b, off + i, none⟩ = some (.int .i64 (f i))
theorem Ints.cell {W w : World} {lp : Option Addr} {len : Nat} {f : Nat → Int} (h : Ints W lp len f) (hb : Below W.heap.size W w) (i : Nat) (hi : i < len) : ∃ b off, lp = some ⟨b, off, none⟩ ∧ w.cell? ⟨b, off + i, none⟩ = some (.int .i64 (f i)) := by
  obtain ⟨b, off, rfl, hlt, hc⟩ := h.at_ (by omega)
  exact ⟨b, off, rfl, (World.cell?_of_block (hb.block b hlt)).trans (hc i hi)⟩
end Go.Proofs.Ytpgnoogjibcccaa.Ser
