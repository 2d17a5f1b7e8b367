/-
  The reference's Check: what its phases hand on.
-/
import Derived.Test.YtogbhgbnminpdaaDoorJnCfgN
import Derived.Test.YtogbhgbnminpdaaDoorJnCfgEf
set_option linter.unusedVariables false
set_option maxRecDepth 100000
set_option linter.unusedVariables false
namespace Go.Proofs.YtogbhgbnminpdaaDoor.Cfg
open Go.Proofs.YtogbhgbnminpdaaDoor
open Go.ChangeShapes Go.WideShapes Go.ChangeAt Go.RowKit
/-- What is left of a row of statements. -/
def tailC : Nat → Code → Code
  | 0, c => c
  | n + 1, .seq _ b => tailC n b
  | _ + 1, c => c
def planOk' (mj sw : Int) (n : Int) (l3 : List Wn) : Prop := (1 ≤ mj ∧ mj ≤ 100000) ∧ (0 ≤ sw ∧ sw ≤ 1000) ∧ (1 ≤ l3.length ∧ l3.length ≤ 32) ∧ ∀ (k : Nat) (x : Wn), l3[k]? = some x → okW mj sw n (endTo l3 k) x
structure Ph (p : Ending → World → Prop) (w w1 : World) (h : Nat) (pg mj sw : Int) (p1 : Option Addr) (n1 c1 : Nat) (p2 : Option Addr) (n2 c2 : Nat) (p3 : Option Addr) (n3 c3 : Nat) (l : List Pt) (l2 : List Ch) (l3 : List Wn) : Prop where
  b1 : Below h w w1
  z : ∀ (k : Nat) (v : Value), [i64 pg, i64 mj, i64 sw, .slice p1 n1 c1, .slice p2 n2 c2, .slice p3 n3 c3][k]? = some v → w1.cell? ⟨h, k, none⟩ = some v
  k1 : LieS 3 w1 h p1 n1 c1 (l.map ptC)
  k2 : LieS 5 w1 h p2 n2 c2 (l2.map chC)
  k3 : LieS 3 w1 h p3 n3 c3 (l3.map wnC)
  s1 : ∀ (k : Nat) (x : Pt), l[k]? = some x → x.name.size ≤ 9223372036854775807 ∧ (-9223372036854775808 ≤ x.pages ∧ x.pages ≤ 9223372036854775807)
  s3 : ∀ (k : Nat) (x : Wn), l3[k]? = some x → (-9223372036854775808 ≤ x.start ∧ x.start ≤ 9223372036854775807) ∧ (-9223372036854775808 ≤ x.len ∧ x.len ≤ 9223372036854775807)
  e1 : l.length = n1
  e2 : l2.length = n2
  e3 : l3.length = n3
  n : n1 ≤ 9223372036854775807 ∧ n2 ≤ 9223372036854775807 ∧ n3 ≤ 9223372036854775807
  g : 5 ≤ pg ∧ pg ≤ 256
  o2 : ¬ partsOk l → ∀ w', Below h w w' → p (.returned (i64 10)) w'
  o3 : partsOk l → ¬ memOk pg l → ∀ w', Below h w w' → p (.returned (i64 11)) w'
  o4 : partsOk l → memOk pg l → ¬ chansOk n1 l2 → ∀ w', Below h w w' → p (.returned (i64 13)) w'
  o5 : partsOk l → memOk pg l → chansOk n1 l2 → ¬ planOk' mj sw n1 l3 → ∀ w', Below h w w' → p (.returned (i64 12)) w'
  o6 : partsOk l → memOk pg l → chansOk n1 l2 → planOk' mj sw n1 l3 → ∀ w', Below h w w' → p (.returned (i64 0)) w'
/-- A part of a statement. -/
def subC : List Nat → Code → Code
  | [], c => c
  | 0 :: r, .seq a _ => subC r a
  | _ :: r, .seq _ b => subC r b
  | _ :: r, .block _ c => subC r c
  | _ :: r, .loop c => subC r c
  | _, c => c
/-- The body. -/
noncomputable abbrev rchkC : Code := (Tryd.f12.body).getD .skip
/-- What is asked of a channel. -/
noncomputable abbrev rchkX : Code := subC [0, 1, 0, 0, 1, 0, 0, 1] (tailC 8 rchkC)
end Go.Proofs.YtogbhgbnminpdaaDoor.Cfg
