
/-
  Package plan: isAsked. A configuration that lies, as an argument.
-/
import Derived.Test.YtlddclkophajbaaPlnMath
import Derived.Test.YtlddclkophajbaaCfgG
import Derived.Test.YtlddclkophajbaaCfgR
set_option maxRecDepth 100000
set_option linter.unusedVariables false
namespace Go.Proofs.Ytlddclkophajbaa.Cfg
open Go.Proofs.Ytlddclkophajbaa
open Go.ChangeShapes Go.WideShapes Go.ChangeAt Go.RowKit
/-- A configuration that lies, its rows below B. -/
structure Cx (w : World) (B : Nat) (c : Cf) (p1 : Option Addr) (c1 : Nat) (p2 : Option Addr) (c2 : Nat) (p3 : Option Addr) (c3 : Nat) : Prop where
  L1 : LieS 3 w B p1 c.parts.length c1 (c.parts.map ptC)
  L2 : LieS 5 w B p2 c.chans.length c2 (c.chans.map chC)
  L3 : LieS 3 w B p3 c.wins.length c3 (c.wins.map wnC)
  wf : Wf c
  cap : c1 ≤ 9223372036854775807
section
variable {w w' : World} {B B' : Nat} {c : Cf} {p1 : Option Addr} {c1 : Nat} {p2 : Option Addr} {c2 : Nat} {p3 : Option Addr} {c3 : Nat}
theorem Cx.kept (X : Cx w B c p1 c1 p2 c2 p3 c3) (hb : Below B' w w') (hB : B ≤ B') : Cx w' B c p1 c1 p2 c2 p3 c3 :=
  ⟨X.L1.kept hb hB, X.L2.kept hb hB, X.L3.kept hb hB, X.wf, X.cap⟩
theorem Cx.wide (X : Cx w B c p1 c1 p2 c2 p3 c3) (hB : B ≤ B') : Cx w B' c p1 c1 p2 c2 p3 c3 :=
  ⟨X.L1.wide hB, X.L2.wide hB, X.L3.wide hB, X.wf, X.cap⟩
theorem Cx.later (X : Cx w B c p1 c1 p2 c2 p3 c3) (hb : Below B' w w') (hB : B ≤ B') (hz : B' ≤ w.heap.size) : Cx w' w'.heap.size c p1 c1 p2 c2 p3 c3 :=
  (X.kept hb hB).wide (Nat.le_trans hB (Nat.le_trans hz hb.size))
theorem check_cx (X : Cx w w.heap.size c p1 c1 p2 c2 p3 c3) : Calls Try.prog 17 #[cfV c p1 c1 p2 c2 p3 c3] w fun e w' => e = .returned (i64 (chk c)) ∧ Below w.heap.size w w' :=
  check_says X.L1 X.L2 X.L3 X.wf X.cap
theorem rcheck_cx (X : Cx w w.heap.size c p1 c1 p2 c2 p3 c3) : Calls Try.prog 15 #[cfV c p1 c1 p2 c2 p3 c3] w fun e w' => e = .returned (i64 (chk c)) ∧ Below w.heap.size w w' :=
  rcheck_says X.L1 X.L2 X.L3 X.wf
end
/-- The cell of one int of a row. -/
theorem LieS.cell1 {w : World} {B n c : Nat} {p : Option Addr} {l : List Int} (h : LieS 1 w B p n c (l.map fun t => [i64 t])) (i : Nat) (x : Int) (hx : l[i]? = some x) :
    ∃ b off, p = some ⟨b, off, none⟩ ∧ b < B ∧ w.cell? ⟨b, off + i, none⟩ = some (i64 x) := by
  have hi : i < n := by have := (List.getElem?_eq_some_iff.1 hx).1; have := h.len; rw [List.length_map] at this; omega
  obtain ⟨b, off, e, hl, ha⟩ := h.at_ (by omega)
  have hm : (l.map fun t => [i64 t])[i]? = some [i64 x] := by rw [List.getElem?_map, hx]; rfl
  have := ha i _ hm 0 _ rfl
  rw [Nat.mul_one, Nat.add_zero] at this
  exact ⟨b, off, e, hl, this⟩
end Go.Proofs.Ytlddclkophajbaa.Cfg
