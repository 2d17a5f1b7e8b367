
/-
  The law's alive.
-/
import Derived.Test.YtlddclkophajbaaFrmB
import Derived.Test.YtlddclkophajbaaFrmH
import Derived.Test.YtlddclkophajbaaCfgL
set_option maxRecDepth 100000
set_option linter.unusedVariables false
namespace Go.Proofs.Ytlddclkophajbaa.Cfg
open Go.Proofs.Ytlddclkophajbaa
open Go.ChangeShapes Go.WideShapes Go.ChangeAt Go.RowKit
theorem Cb.cx {w0 w : World} {hb : Nat} {c : Cf} {v1 v2 v3 : Value} (C : Cb w0 w hb c v1 v2 v3) (wf : Wf c) : ∃ p1 c1 p2 c2 p3 c3, v1 = .slice p1 c.parts.length c1 ∧ v2 = .slice p2 c.chans.length c2 ∧ v3 = .slice p3 c.wins.length c3 ∧ Cx w w.heap.size c p1 c1 p2 c2 p3 c3 := by
  obtain ⟨p1, c1, p2, c2, p3, c3, e1, e2, e3, ⟨m1, -, -⟩, L1, L2, L3⟩ := C.lies
  exact ⟨p1, c1, p2, c2, p3, c3, e1, e2, e3, L1, L2, L3, wf, by unfold maxLen at m1; omega⟩
abbrev oneX (g1 g3 : Nat) : Value := .agg #[i64 5, i64 10, i64 0, .slice (some ⟨g1, 0, none⟩) 1 1, .slice none 0 0, .slice (some ⟨g3, 0, none⟩) 1 1]
theorem one_cx (w : World) : Calls Try.prog 16 #[] w fun e w' => ∃ g1 g3, e = .returned (oneX g1 g3) ∧ Cx w' w'.heap.size oneC (some ⟨g1, 0, none⟩) 1 none 0 (some ⟨g3, 0, none⟩) 1 ∧ Below w.heap.size w w' :=
  (one_says w).mono fun e w' ⟨g1, g3, he, hne, hb1, o1, o3⟩ => by
    obtain ⟨q1, c1, e1, m1, L1⟩ := ownS_lie o1 (even_pt _)
    obtain ⟨q3, c3, e3, m3, L3⟩ := ownS_lie o3 (even_wn _)
    injection e1 with e11 e12 e13
    injection e3 with e31 e32 e33
    subst e11 e31 e13 e33
    exact ⟨g1, g3, he, ⟨L1, lieS_nil 5 w' w'.heap.size 0 (fun _ => rfl), L3, one_wf, by decide⟩, hb1⟩
theorem one_first : firstV oneC 0 = 4 := by
  unfold firstV
  rw [if_pos ⟨one_ok, by decide, by decide⟩]
  rfl
theorem one_g4 : (guestV oneC 4).1 = 0 := by
  unfold guestV
  rw [if_pos ⟨one_ok, by decide, by decide⟩, if_neg (by decide)]
  rfl
theorem one_g3 : (guestV oneC 3).1 = -1 := by
  unfold guestV
  rw [if_pos ⟨one_ok, by decide, by decide⟩, if_pos (by decide)]
theorem first_one {w : World} {g1 g3 : Nat} (X : Cx w w.heap.size oneC (some ⟨g1, 0, none⟩) 1 none 0 (some ⟨g3, 0, none⟩) 1) : Calls Try.prog 12 #[oneX g1 g3, i64 0] w fun e w' => e = .returned (i64 4) ∧ Below w.heap.size w w' := by
  have := first_says X 0
  rw [one_first] at this
  exact this
theorem owner4_one {w : World} {g1 g3 : Nat} (X : Cx w w.heap.size oneC (some ⟨g1, 0, none⟩) 1 none 0 (some ⟨g3, 0, none⟩) 1) : Calls Try.prog 14 #[oneX g1 g3, i64 4] w fun e w' => e = .returned (i64 0) ∧ Below w.heap.size w w' := by
  have := owner_says X 4
  rw [one_g4] at this
  exact this
theorem owner3_one {w : World} {g1 g3 : Nat} (X : Cx w w.heap.size oneC (some ⟨g1, 0, none⟩) 1 none 0 (some ⟨g3, 0, none⟩) 1) : Calls Try.prog 14 #[oneX g1 g3, i64 3] w fun e w' => e = .returned (i64 (-1)) ∧ Below w.heap.size w w' := by
  have := owner_says X 3
  rw [one_g3] at this
  exact this
set_option maxHeartbeats 8000000 in
theorem alive16 (w : World) : Calls Try.prog 6 #[] w fun e w' => e = .returned (.bool true) ∧ Below w.heap.size w w' := by
  obtain ⟨r, hr⟩ : ∃ r : Ending → World → Prop, r = fun e w' => e = .returned (.bool true) ∧ Below w.heap.size w w' := ⟨_, rfl⟩
  rw [← hr]
  have HO := Lib.hid (fun u (b : Below w.heap.size w u) => (by rw [hr]; exact ⟨rfl, b⟩ : r (.returned (.bool true)) u))
  clear hr
  have HS := Lib.hid (Below.refl w.heap.size w)
  go_enter Try.func6, Try.ntmps6
  go_wp2_with (first
    | (go_at_call 16; (with_reducible refine (one_cx _).mono ?_); rintro e wa ⟨g1, g3, rfl, hX, hb⟩; replace hX := Lib.hid hX; replace HS := Lib.hid (HS.out.trans (hb.mono HS.out.size)); clear hb)
    | (go_at_call 12; (with_reducible refine (first_one hX.out).mono ?_); clear hX; rintro e wa ⟨rfl, hb⟩; replace HS := Lib.hid (HS.out.trans (hb.mono HS.out.size)); clear hb)
    | (go_at_call 14; (with_reducible refine (owner4_one hX.out).mono ?_); clear hX; rintro e wa ⟨rfl, hb⟩; replace HS := Lib.hid (HS.out.trans (hb.mono HS.out.size)); clear hb)
    | (go_at_call 14; (with_reducible refine (owner3_one hX.out).mono ?_); clear hX; rintro e wa ⟨rfl, hb⟩; replace HS := Lib.hid (HS.out.trans (hb.mono HS.out.size)); clear hb))
  exact HO.out _ HS.out
end Go.Proofs.Ytlddclkophajbaa.Cfg
