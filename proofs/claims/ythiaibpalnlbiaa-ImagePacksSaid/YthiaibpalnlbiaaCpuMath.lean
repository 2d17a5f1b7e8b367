
/-
  What the operations of Alu and the branches make of two words; plain arithmetic, no program in sight.
-/
import Derived.Test.YthiaibpalnlbiaaMath
import Derived.Test.YthiaibpalnlbiaaCsrMath
set_option maxRecDepth 100000
namespace Go.Proofs.Ythiaibpalnlbiaa
open Go.RowKit
/-- What the operation makes of x and y. -/
def aluV (op x y : Int) : Int :=
  if op = 1 ∨ op = 16 then wd (x + y) else if op = 2 then wd (x - y) else if op = 3 ∨ op = 17 then wd (bits .and .i64 x y)
  else if op = 4 ∨ op = 18 then wd (bits .or .i64 x y) else if op = 5 ∨ op = 19 then wd (bits .xor .i64 x y)
  else if op = 6 ∨ op = 20 then lf x y else if op = 7 ∨ op = 21 then rt x y else if op = 8 ∨ op = 22 then ar x y
  else if op = 9 then wd (x * y) else if op = 10 ∨ op = 24 then (if sg x < sg y then 1 else 0) else if op = 11 then (if wd x < wd y then 1 else 0)
  else if op = 12 then dv x y else if op = 13 then rm x y else if op = 23 then lf y 16 else 0
/-- Is it one. -/
def aluK (op : Int) : Bool := decide ((1 ≤ op ∧ op ≤ 13) ∨ (16 ≤ op ∧ op ≤ 24))
/-- Is the branch taken. -/
def takV (op x y : Int) : Bool :=
  if op = 48 then decide (wd x = wd y) else if op = 49 then !decide (wd x = wd y) else if op = 50 then decide (sg x < sg y) else if op = 51 then !decide (sg x < sg y)
  else if op = 52 then decide (wd x < wd y) else if op = 53 then !decide (wd x < wd y) else false
def takK (op : Int) : Bool := decide (48 ≤ op ∧ op ≤ 53)
theorem bits_xor (x y : Int) : bits .xor .i64 x y = (bv x ^^^ bv y).toInt := by
  show IntKind.i64.wrap ((bv x ^^^ bv y).toNat : Int) = _
  exact wrap_toNat _
theorem and_wd (x y : Int) : bits .and .i64 (wd x) (wd y) = wd (bits .and .i64 x y) := by
  rw [wd_bv (bits .and .i64 x y), bits_and, bits_and, wd_bv x, wd_bv y, bv_toInt, bv_toInt, bv_toInt]
  congr 1
  apply BitVec.eq_of_getLsbD_eq
  intro i hi
  simp only [BitVec.getLsbD_and]
  cases (bv x).getLsbD i <;> cases (bv y).getLsbD i <;> cases C32.getLsbD i <;> rfl
theorem or_wd (x y : Int) : bits .or .i64 (wd x) (wd y) = wd (bits .or .i64 x y) := by
  rw [wd_bv (bits .or .i64 x y), bits_or, bits_or, wd_bv x, wd_bv y, bv_toInt, bv_toInt, bv_toInt]
  congr 1
  apply BitVec.eq_of_getLsbD_eq
  intro i hi
  simp only [BitVec.getLsbD_and, BitVec.getLsbD_or]
  cases (bv x).getLsbD i <;> cases (bv y).getLsbD i <;> cases C32.getLsbD i <;> rfl
theorem xor_wd (x y : Int) : bits .xor .i64 (wd x) (wd y) = wd (bits .xor .i64 x y) := by
  rw [wd_bv (bits .xor .i64 x y), bits_xor, bits_xor, wd_bv x, wd_bv y, bv_toInt, bv_toInt, bv_toInt]
  congr 1
  apply BitVec.eq_of_getLsbD_eq
  intro i hi
  simp only [BitVec.getLsbD_and, BitVec.getLsbD_xor]
  cases (bv x).getLsbD i <;> cases (bv y).getLsbD i <;> cases C32.getLsbD i <;> rfl
theorem pl_wd (n : Int) : pl (wd n) = pl n := by unfold pl wd; omega
theorem lf_wd (x y : Int) : lf (wd x) (wd y) = lf x y := by unfold lf; rw [pl_wd, wd_wd]
theorem rt_wd (x y : Int) : rt (wd x) (wd y) = rt x y := by unfold rt; rw [pl_wd, wd_wd]
theorem ar_wd (x y : Int) : ar (wd x) (wd y) = ar x y := by unfold ar; rw [pl_wd, sg_wd]
theorem dv_wd (x y : Int) : dv (wd x) (wd y) = dv x y := by unfold dv; rw [wd_wd, wd_wd]
theorem rm_wd (x y : Int) : rm (wd x) (wd y) = rm x y := by unfold rm; rw [wd_wd, wd_wd]
theorem add_wd (x y : Int) : wd (wd x + wd y) = wd (x + y) := wd_add x y
theorem sub_wd (x y : Int) : wd (wd x - wd y) = wd (x - y) := by unfold wd; omega
theorem lui_wd (y : Int) : wd (wd y * 65536) = lf y 16 := by unfold lf; rw [show pl 16 = 16 from rfl]; rfl
end Go.Proofs.Ythiaibpalnlbiaa
