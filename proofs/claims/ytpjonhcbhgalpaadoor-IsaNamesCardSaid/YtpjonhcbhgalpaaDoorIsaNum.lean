
/-
  Numbers as texts: strconv.Itoa and the document's own Number; what Show tells (plain).
-/
import Derived.Test.YtpjonhcbhgalpaaDoorShelf
import Derived.Test.YtpjonhcbhgalpaaDoorIsaEnc
import Derived.Test.YtpjonhcbhgalpaaDoorIsaMath3
import Derived.Lib.ItoaMem
import Derived.Lib.ItoaLen
import Derived.Lib.AppendIntMem
namespace Go.Proofs.YtpjonhcbhgalpaaDoor
open Go.ChangeShapes Go.WideShapes Go.ChangeAt Go.RowKit
/-- A number's digits, as Go's text. -/
def numS (n : Int) : ByteArray := ⟨(Lib.itoa n).toArray⟩
/-- The table that Itoa reads, in this world and in each that has grown from it. -/
def Tab (w : World) : Prop := Lib.TabBelow Tryd.prog w.heap.size w "internal/strconv.uint64pow10" .u64 Lib.pow10Tab
theorem Tab.now {w : World} (h : Tab w) : Lib.TabIs Tryd.prog w "internal/strconv.uint64pow10" .u64 Lib.pow10Tab := h w (Below.refl _ _)
theorem Tab.later {w w' : World} (h : Tab w) (hb : Below w.heap.size w w') : Tab w' := fun w'' hb' => h w'' (hb.trans (hb'.mono hb.size))
theorem below_grow (w : World) (k : Nat) (os : Array Obj) : Below w.heap.size w (Go.Sort.grow (w.drewN k) os) := by
  refine ⟨rfl, rfl, rfl, by simp [Go.Sort.grow], fun i hi => ?_⟩
  simp [Go.Sort.grow, Array.getElem?_append, hi]
theorem itoa_reg (a : Int) (h0 : 0 ≤ a) (h1 : a ≤ 15) (w : World) : Calls Tryd.prog 16 #[i64 a] w fun e w' => e = .returned (.string (numS a)) ∧ w = w' := by
  obtain ⟨u, rfl⟩ := Int.eq_ofNat_of_zero_le h0
  refine (Tryd.strconv_Itoa_small u (by omega) w).mono fun e w' ⟨he, hw⟩ => ⟨?_, hw.symm⟩
  rw [he]; unfold numS; rw [Lib.itoa_nonneg]
theorem itoa_imm (m : Int) (h0 : -524288 ≤ m) (h1 : m ≤ 524287) (w : World) (hT : Tab w) : Calls Tryd.prog 16 #[i64 m] w fun e w' => e = .returned (.string (numS m)) ∧ Below w.heap.size w w' :=
  (Tryd.strconv_Itoa m (by omega) (by omega) w hT.now).mono fun e w' ⟨he, hw⟩ => ⟨he, by obtain ⟨k, os, rfl⟩ := hw; exact below_grow w k os⟩
def rS (a : Int) : List UInt8 := 114 :: Lib.itoa a
/-- The texts of the registers and of the number. -/
def flds (r q a b c m : Int) : List (List UInt8) := [rS a, rS b, rS c].take r.toNat ++ (if 0 < q then [Lib.itoa m] else [])
/-- What stands behind the name. -/
def tailL (r q a b c m : Int) : List UInt8 := if flds r q a b c m = [] then [] else 32 :: Lib.join (flds r q a b c m) [44, 32]
def showL (op a b c m : Int) : List UInt8 := if encE op a b c m = 0 then (opN op).data.toList ++ tailL (fR (opF op)) (fB (opF op)) a b c m else []
def showS (op a b c m : Int) : ByteArray := ⟨(showL op a b c m).toArray⟩
end Go.Proofs.YtpjonhcbhgalpaaDoor
