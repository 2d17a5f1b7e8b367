
/-
  The document's own lexer: fail.
-/
import Derived.Test.YtgikcciakbnehaaDoorLexPk
set_option maxRecDepth 100000
namespace Go.Proofs.YtgikcciakbnehaaDoor.Lex
open Go.Proofs.YtgikcciakbnehaaDoor Go.Proofs.YtgikcciakbnehaaDoor.Ser
open Go.ChangeShapes Go.WideShapes Go.ChangeAt Go.RowKit
set_option maxRecDepth 100000 in
set_option maxHeartbeats 4000000 in
/-- The first error stays. -/
theorem fail_says {w : World} {h k : Nat} {s : ByteArray} {l c e x y z : Int} (hX : Xr w h s k l c e) :
    Calls Tryd.prog 16 #[.pointer (some ⟨h, 0, none⟩), i64 x, i64 y, i64 z] w fun e' w' => e' = .returned (.tuple #[]) ∧ Xr w' h s k (if e = 0 then y else l) (if e = 0 then z else c) (if e = 0 then x else e) ∧ But (fun i => i = h) w w' := by
  have x2 := hX.line
  have x3 := hX.col
  have x4 := hX.err
  have f2 := hX.fr 2
  have f3 := hX.fr 3
  have f4 := hX.fr 4
  obtain ⟨p, hp⟩ : ∃ p : Ending → World → Prop, p = fun e' w' => e' = .returned (.tuple #[]) ∧ Xr w' h s k (if e = 0 then y else l) (if e = 0 then z else c) (if e = 0 then x else e) ∧ But (fun i => i = h) w w' := ⟨_, rfl⟩
  rw [← hp]
  have hd := hX.hd
  by_cases h0 : e = 0
  · have o1 : p (.returned (.tuple #[])) (((w.setCell ⟨h, 4, none⟩ (i64 x)).setCell ⟨h, 2, none⟩ (i64 y)).setCell ⟨h, 3, none⟩ (i64 z)) := by
      rw [hp]
      refine ⟨rfl, ⟨?_⟩, (((But.refl (fun i => i = h) w).setCell ⟨h, 4, none⟩ rfl _).setCell ⟨h, 2, none⟩ rfl _).setCell ⟨h, 3, none⟩ rfl _⟩
      rw [if_pos h0, if_pos h0, if_pos h0]
      exact setCell_row (setCell_row (setCell_row hd 4 (i64 x)) 2 (i64 y)) 3 (i64 z)
    clear hX hp hd
    subst h0
    go_enter Tryd.func16, Tryd.ntmps16
    go_wp2_with fail
    go_end0
    exact o1
  · have f0 : (e == 0) = false := by rw [beq_eq_false_iff_ne]; exact h0
    have o1 : p (.returned (.tuple #[])) w := by
      rw [hp]
      refine ⟨rfl, ⟨?_⟩, But.refl (fun i => i = h) w⟩
      rw [if_neg h0, if_neg h0, if_neg h0]
      exact hd
    clear hX hp hd
    go_enter Tryd.func16, Tryd.ntmps16
    go_wp2_with fail
    go_end0
    exact o1
end Go.Proofs.YtgikcciakbnehaaDoor.Lex
