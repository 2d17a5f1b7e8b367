/-
  Package image: contracts of Check and of the bytes of a number, and the sum of bytes. | Package image: contracts of sum, firstWord, bytes.Equal.
-/
import Derived.Test.YtogbhgbnminpdaaDoorJnImgMath
import Derived.Test.YtogbhgbnminpdaaDoorJnBytes
import Derived.Lib.AppendStr
import Derived.Laws.MakeOwn
import Derived.Lib.EndianBits
set_option linter.unusedVariables false
set_option maxRecDepth 100000
set_option linter.unusedVariables false
namespace Go.Proofs.YtogbhgbnminpdaaDoor.Img
open Go.Proofs.YtogbhgbnminpdaaDoor Go.Proofs.YtogbhgbnminpdaaDoor.Ser
open Go.ChangeShapes Go.WideShapes Go.ChangeAt Go.RowKit
set_option linter.unusedVariables false
abbrev imgV (e : Int) (p : Option Addr) (n c : Nat) : Value := .agg #[i64 e, .slice p n c]
theorem four_succ (n : Int) (k : Nat) (hk : k < 4) : (four n).take (k + 1) = (four n).take k ++ [n / 2 ^ (8 * k) % 256] := by
  have h : k = 0 ∨ k = 1 ∨ k = 2 ∨ k = 3 := by omega
  rcases h with rfl | rfl | rfl | rfl <;> simp [four]
theorem src_byte (w : World) (y : Int) : SrcK .u8 (w.alloc (.cells #[.int .u8 y] 5)) (some ⟨w.heap.size, 0, none⟩) [y] := by
  intro _
  refine ⟨_, rfl, fun j u hu => ?_⟩
  have hj : j = 0 := by have := (List.getElem?_eq_some_iff.1 hu).1; simp at this; omega
  subst hj
  simp at hu; subst hu
  rw [Addr.add_lit, cell_of_row _ w.heap.size 0 _ _ _ (heap_alloc_new w _)]; rfl
end Go.Proofs.YtogbhgbnminpdaaDoor.Img
set_option maxRecDepth 100000
set_option linter.unusedVariables false
namespace Go.Proofs.YtogbhgbnminpdaaDoor.Img
open Go.Proofs.YtogbhgbnminpdaaDoor Go.Proofs.YtogbhgbnminpdaaDoor.Ser
open Go.ChangeShapes Go.WideShapes Go.ChangeAt Go.RowKit
set_option linter.unusedVariables false
theorem or_byte32 (k : Nat) (hk : k ≤ 3) (x b : Int) (h0 : 0 ≤ x) (h1 : x < 256 ^ k) (b0 : 0 ≤ b) (b1 : b < 256) : bits .or .u32 x (b * 256 ^ k) = x + b * 256 ^ k := by
  have e : (256 : Int) ^ k = 2 ^ (8 * k) := by rw [Int.pow_mul]; rfl
  have hp := pow_pos' (8 * k)
  have hle : (2 : Int) ^ (8 * k) ≤ 2 ^ 24 := pow_le' (by omega)
  have h24 : (2 : Int) ^ 24 = 16777216 := by decide
  rw [e] at h1 ⊢
  have hb : b * 2 ^ (8 * k) ≤ 255 * 2 ^ (8 * k) := Int.mul_le_mul_of_nonneg_right (by omega) (by omega)
  have hc : 0 ≤ b * 2 ^ (8 * k) := Int.mul_nonneg b0 (by omega)
  have := bits_join .u32 32 (by decide) (fun n h1 h2 => wraps_u32 n h1 (by simpa using h2)) (8 * k) (b * 2 ^ (8 * k)) x hc (by simp) (by omega) h0 h1 (by omega)
  have hcm : bits .or .u32 x (b * 2 ^ (8 * k)) = bits .or .u32 (b * 2 ^ (8 * k)) x := by simp only [bits, BitVec.or_comm]
  rw [hcm, this, Int.add_comm]
theorem load_step32 {xs : List Int} (hB : Byt xs) (k : Nat) (h : k < xs.length) (h4 : xs.length ≤ 4) (b : Int) (hb : b = xs.getD k 0) :
    bits .or .u32 (lev (xs.take k)) (b * 2 ^ (8 * k) % 4294967296) = lev (xs.take (k + 1)) := by
  have hbb := byt_getD hB k
  rw [← hb] at hbb
  have hl := lev_bd _ (byt_take hB k)
  rw [List.length_take, Nat.min_eq_left (by omega)] at hl
  have hp := p256_le k (by omega)
  have h1 : b * 256 ^ k ≤ 255 * 256 ^ k := Int.mul_le_mul_of_nonneg_right (by omega) (by omega)
  have h0 : 0 ≤ b * 256 ^ k := Int.mul_nonneg hbb.1 (by omega)
  rw [le_step xs k h, ← hb, p256, show b * 256 ^ k % 4294967296 = b * 256 ^ k by omega]
  exact or_byte32 k (by omega) _ _ hl.1 hl.2 hbb.1 hbb.2
/-- Rows of bytes as texts. -/
theorem strOf_inj : ∀ {xs ys : List Int}, Byt xs → Byt ys → strOfNums xs = strOfNums ys → xs = ys := by
  intro xs ys hx hy h
  have h1 : (xs.map fun n => UInt8.ofNat n.toNat) = ys.map fun n => UInt8.ofNat n.toNat := by
    have := congrArg (fun b : ByteArray => b.data.toList) h
    simpa [strOfNums_data] using this
  clear h
  induction xs generalizing ys with
  | nil => cases ys with
    | nil => rfl
    | cons b r => simp at h1
  | cons a l ih => cases ys with
    | nil => simp at h1
    | cons b r =>
      simp only [List.map_cons, List.cons.injEq] at h1
      have ha := hx a (by simp); have hb := hy b (by simp)
      have e : a.toNat = b.toNat := by
        have := congrArg UInt8.toNat h1.1
        simpa [UInt8.toNat_ofNat', Nat.mod_eq_of_lt, show a.toNat < 256 by omega, show b.toNat < 256 by omega] using this
      rw [ih (fun x hx' => hx x (by simp [hx'])) (fun x hx' => hy x (by simp [hx'])) h1.2, show a = b by omega]
theorem strOf_eq {xs ys : List Int} (hx : Byt xs) (hy : Byt ys) : ((strOfNums xs).toList == (strOfNums ys).toList) = decide (xs = ys) := by
  by_cases h : xs = ys
  · subst h; simp
  · rw [decide_eq_false h]
    have h2 : ¬ (strOfNums xs).toList = (strOfNums ys).toList := by
      intro h'
      rw [ByteArray.toList_eq, ByteArray.toList_eq] at h'
      exact h (strOf_inj hx hy (ByteArray.ext (Array.toList_inj.mp h')))
    simpa using h2
theorem conv_lie {w : World} {B : Nat} {p : Option Addr} {m c : Nat} {xs : List Int} (L : Lie .u8 w B p m c xs) : (convert 32 9 (.slice p m c)).run Tryd.prog w = .ok (.string (strOfNums xs)) w := by
  have := conv_src (w := w) (sp := p) (xs := xs) L.src c
  rw [L.len] at this
  exact this
theorem equal_says {w : World} {B B' : Nat} {p q : Option Addr} {m c m' c' : Nat} {xs ys : List Int} (L : Lie .u8 w B p m c xs) (M : Lie .u8 w B' q m' c' ys) (hx : Byt xs) (hy : Byt ys) :
    Calls Tryd.prog 32 #[.slice p m c, .slice q m' c'] w fun e w' => e = .returned (.bool (decide (xs = ys))) ∧ w = w' := by
  have h1 := conv_lie L
  have h2 := conv_lie M
  have h3 := strOf_eq hx hy
  obtain ⟨r, hr⟩ : ∃ r : Ending → World → Prop, r = fun e w' => e = .returned (.bool (decide (xs = ys))) ∧ w = w' := ⟨_, rfl⟩
  rw [← hr]
  have HO := Lib.hid (by rw [hr, h3]; exact ⟨rfl, rfl⟩ : r (.returned (.bool ((strOfNums xs).toList == (strOfNums ys).toList))) w)
  obtain ⟨A, hA⟩ : ∃ A, A = strOfNums xs := ⟨_, rfl⟩
  obtain ⟨C, hC⟩ : ∃ C, C = strOfNums ys := ⟨_, rfl⟩
  rw [← hA] at h1 HO
  rw [← hC] at h2 HO
  clear hr h3 hA hC L M hx hy
  go_enter Tryd.func32, Tryd.ntmps32
  go_wp2
  exact HO.out
end Go.Proofs.YtogbhgbnminpdaaDoor.Img
