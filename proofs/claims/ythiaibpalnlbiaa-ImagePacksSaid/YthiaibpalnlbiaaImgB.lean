/-
  Package image: contracts of sum, firstWord, bytes.Equal.
-/
import Derived.Test.YthiaibpalnlbiaaImgA
import Derived.Lib.EndianBits
set_option maxRecDepth 100000
namespace Go.Proofs.Ythiaibpalnlbiaa.Img
open Go.Proofs.Ythiaibpalnlbiaa Go.Proofs.Ythiaibpalnlbiaa.Ser
open Go.ChangeShapes Go.WideShapes Go.ChangeAt Go.RowKit
set_option linter.unusedVariables false
/-- The sum of bytes. -/
theorem sum_says {w : World} {B : Nat} {p : Option Addr} {m c : Nat} {xs : List Int} (L : Lie .u8 w B p m c xs) (hx : Byt xs) (hl : m ≤ 10000000) :
    Calls Try.prog 15 #[.slice p m c] w fun e w' => e = .returned (.int .u32 xs.sum) ∧ w = w' := by
  obtain ⟨r, hr⟩ : ∃ r : Ending → World → Prop, r = fun e w' => e = .returned (.int .u32 xs.sum) ∧ w = w' := ⟨_, rfl⟩
  rw [← hr]
  have HO := Lib.hid (by rw [hr]; exact ⟨by rw [List.take_of_length_le (Nat.le_of_eq L.len)], rfl⟩ : r (.returned (.int .u32 (xs.take m).sum)) w)
  have HL := Lib.hid L
  have HX := Lib.hid hx
  clear hr L hx
  have m0 : (0 : Int) ≤ (m : Int) := Int.natCast_nonneg m
  go_enter Try.func15, Try.ntmps15
  go_wp2
  go_loop [3, 8] (fun s3 s8 => ∃ k : Nat, k ≤ m ∧ s8 = i64 (k : Int) ∧ s3 = .int .u32 (xs.take k).sum) (fun _ s8 => m - (intOf s8).toNat)
  case atStart => exact ⟨0, Nat.zero_le _, rfl, by simp⟩
  case round =>
    obtain ⟨k, hk, rfl, rfl⟩ := hrel
    have k0 : (0 : Int) ≤ (k : Int) := Int.natCast_nonneg k
    by_cases hkm : k < m
    · have hkI : (k : Int) < (m : Int) := by omega
      obtain ⟨b, off, rfl, hlt, hc⟩ := HL.out.cell hkm
      have e1 := sum_take_succ xs k (by rw [HL.out.len]; exact hkm)
      have b1 := sum_take_le HX.out k
      have b2 := byt_getD HX.out k
      have b3 : (xs.length : Int) ≤ 10000000 := by have := HL.out.len; omega
      obtain ⟨x, hx⟩ : ∃ x, x = xs.getD k 0 := ⟨_, rfl⟩
      obtain ⟨y, hy⟩ : ∃ y, y = (xs.take k).sum := ⟨_, rfl⟩
      rw [← hx] at hc b2 e1
      rw [← hy] at b1 e1 ⊢
      have y0 : 0 ≤ y := b1.1
      have y1 : y ≤ 2550000000 := by omega
      have x0 : 0 ≤ x := b2.1
      have x1 : x < 256 := b2.2
      have E1 := Lib.hid e1
      clear b1 b2 b3 e1 hx hy
      go_wp2
      go_round
      case rel => exact ⟨k + 1, hkm, by go_num, by rw [E1.out]⟩
      case measure => simp [intOf]; omega
    · obtain rfl : k = m := by omega
      go_wp2
      exact HO.out
theorem or_byte32 (k : Nat) (hk : k ≤ 3) (x b : Int) (h0 : 0 ≤ x) (h1 : x < 256 ^ k) (b0 : 0 ≤ b) (b1 : b < 256) : bits .or .u32 x (b * 256 ^ k) = x + b * 256 ^ k := by
  have e : (256 : Int) ^ k = 2 ^ (8 * k) := by rw [Int.pow_mul]; rfl
  have hp := pow_pos' (8 * k)
  have hle : (2 : Int) ^ (8 * k) ≤ 2 ^ 24 := pow_le' (by omega)
  have h24 : (2 : Int) ^ 24 = 16777216 := by decide
  rw [e] at h1 ⊢
  have hb : b * 2 ^ (8 * k) ≤ 255 * 2 ^ (8 * k) := Int.mul_le_mul_of_nonneg_right (by omega) (by omega)
  have hc : 0 ≤ b * 2 ^ (8 * k) := Int.mul_nonneg b0 (by omega)
  have := bits_join .u32 32 (by decide) (fun n h1 h2 => wraps_u32 n h1 (by simpa using h2)) (8 * k) (b * 2 ^ (8 * k)) x hc (by simp) (by omega) h0 h1 (by omega)
  have hcm : bits .or .u32 x (b * 2 ^ (8 * k)) = bits .or .u32 (b * 2 ^ (8 * k)) x := by simp only [bits, BitVec.or_comm]
  rw [hcm, this, Int.add_comm]
theorem load_step32 {xs : List Int} (hB : Byt xs) (k : Nat) (h : k < xs.length) (h4 : xs.length ≤ 4) (b : Int) (hb : b = xs.getD k 0) :
    bits .or .u32 (lev (xs.take k)) (b * 2 ^ (8 * k) % 4294967296) = lev (xs.take (k + 1)) := by
  have hbb := byt_getD hB k
  rw [← hb] at hbb
  have hl := lev_bd _ (byt_take hB k)
  rw [List.length_take, Nat.min_eq_left (by omega)] at hl
  have hp := p256_le k (by omega)
  have h1 : b * 256 ^ k ≤ 255 * 256 ^ k := Int.mul_le_mul_of_nonneg_right (by omega) (by omega)
  have h0 : 0 ≤ b * 256 ^ k := Int.mul_nonneg hbb.1 (by omega)
  rw [le_step xs k h, ← hb, p256, show b * 256 ^ k % 4294967296 = b * 256 ^ k by omega]
  exact or_byte32 k (by omega) _ _ hl.1 hl.2 hbb.1 hbb.2
/-- The number of the first four bytes. -/
theorem firstWord_says {w : World} {B : Nat} {p : Option Addr} {m c : Nat} {xs : List Int} (L : Lie .u8 w B p m c xs) (hx : Byt xs) (h4 : 4 ≤ m) (hm : c ≤ 9223372036854775807) :
    Calls Try.prog 18 #[.slice p m c] w fun e w' => e = .returned (i64 (lev (xs.take 4))) ∧ w = w' := by
  obtain ⟨r, hr⟩ : ∃ r : Ending → World → Prop, r = fun e w' => e = .returned (i64 (lev (xs.take 4))) ∧ w = w' := ⟨_, rfl⟩
  rw [← hr]
  have HO := Lib.hid (by rw [hr]; exact ⟨rfl, rfl⟩ : r (.returned (i64 (lev (xs.take 4)))) w)
  obtain ⟨ys, hys⟩ : ∃ ys, ys = xs.take 4 := ⟨_, rfl⟩
  have hl : ys.length = 4 := by rw [hys, List.length_take, L.len]; omega
  have hyb : Byt ys := by rw [hys]; exact byt_take hx 4
  have hbd := lev_bd ys hyb
  rw [hl, show (256 : Int) ^ 4 = 4294967296 from rfl] at hbd
  obtain ⟨b, off, rfl, hlt, -⟩ := L.cell (i := 0) (by omega)
  have HC := Lib.hid (fun k (hk : k < 4) => (by obtain ⟨b', off', e, -, hc⟩ := L.cell (i := k) (by omega); injection e with e; injection e with e1 e2; subst e1 e2; rw [hc, hys]; simp [List.getD_eq_getElem?_getD, hk] : w.cell? ⟨b, off + k, none⟩ = some (.int .u8 (ys.getD k 0))))
  rw [← hys] at HO
  have hcap : (m : Int) ≤ (c : Int) := by have := L.cap; omega
  have HL := Lib.hid hl
  have HX := Lib.hid hyb
  clear hr L hx hys hl hyb hlt
  have h4' : (4 : Int) ≤ (m : Int) := by omega
  have h5' : (4 : Int) ≤ (c : Int) := by omega
  have hm' : (c : Int) ≤ 9223372036854775807 := by omega
  go_enter Try.func18, Try.ntmps18
  go_wp2
  go_loop [3, 9] (fun s3 s9 => ∃ k : Nat, k ≤ 4 ∧ s9 = i64 (k : Int) ∧ s3 = .int .u32 (lev (ys.take k))) (fun _ s9 => 4 - (intOf s9).toNat)
  case atStart => exact ⟨0, Nat.zero_le _, rfl, by simp [lev]⟩
  case round =>
    obtain ⟨k, hk, rfl, rfl⟩ := hrel
    have k0 : (0 : Int) ≤ (k : Int) := Int.natCast_nonneg k
    by_cases hkm : k < 4
    · have hkI : (k : Int) < 4 := by omega
      have hc := HC.out k hkm
      have b2 := byt_getD HX.out k
      obtain ⟨x, hx⟩ : ∃ x, x = ys.getD k 0 := ⟨_, rfl⟩
      have e1 := Lib.hid (load_step32 HX.out k (by rw [HL.out]; exact hkm) (Nat.le_of_eq HL.out) x hx)
      rw [← hx] at hc b2
      have x0 : 0 ≤ x := b2.1
      have x1 : x < 256 := b2.2
      obtain ⟨y, hy⟩ : ∃ y, y = lev (ys.take k) := ⟨_, rfl⟩
      rw [← hy] at e1 ⊢
      clear hbd b2 hx hy
      go_wp2
      go_round
      case rel => exact ⟨k + 1, hkm, by go_num, by rw [e1.out]⟩
      case measure => simp [intOf]; omega
    · obtain rfl : k = 4 := by omega
      have e2 : ys.take 4 = ys := List.take_of_length_le (Nat.le_of_eq HL.out)
      rw [e2]
      obtain ⟨y, hy⟩ : ∃ y, y = lev ys := ⟨_, rfl⟩
      rw [← hy] at hbd HO ⊢
      have y0 : 0 ≤ y := hbd.1
      have y1 : y < 4294967296 := hbd.2
      clear hy e2 hbd
      go_wp2
      exact HO.out
/-- Rows of bytes as texts. -/
theorem strOf_inj : ∀ {xs ys : List Int}, Byt xs → Byt ys → strOfNums xs = strOfNums ys → xs = ys := by
  intro xs ys hx hy h
  have h1 : (xs.map fun n => UInt8.ofNat n.toNat) = ys.map fun n => UInt8.ofNat n.toNat := by
    have := congrArg (fun b : ByteArray => b.data.toList) h
    simpa [strOfNums_data] using this
  clear h
  induction xs generalizing ys with
  | nil => cases ys with
    | nil => rfl
    | cons b r => simp at h1
  | cons a l ih => cases ys with
    | nil => simp at h1
    | cons b r =>
      simp only [List.map_cons, List.cons.injEq] at h1
      have ha := hx a (by simp); have hb := hy b (by simp)
      have e : a.toNat = b.toNat := by
        have := congrArg UInt8.toNat h1.1
        simpa [UInt8.toNat_ofNat', Nat.mod_eq_of_lt, show a.toNat < 256 by omega, show b.toNat < 256 by omega] using this
      rw [ih (fun x hx' => hx x (by simp [hx'])) (fun x hx' => hy x (by simp [hx'])) h1.2, show a = b by omega]
theorem strOf_eq {xs ys : List Int} (hx : Byt xs) (hy : Byt ys) : ((strOfNums xs).toList == (strOfNums ys).toList) = decide (xs = ys) := by
  by_cases h : xs = ys
  · subst h; simp
  · rw [decide_eq_false h]
    have h2 : ¬ (strOfNums xs).toList = (strOfNums ys).toList := by
      intro h'
      rw [ByteArray.toList_eq, ByteArray.toList_eq] at h'
      exact h (strOf_inj hx hy (ByteArray.ext (Array.toList_inj.mp h')))
    simpa using h2
theorem conv_lie {w : World} {B : Nat} {p : Option Addr} {m c : Nat} {xs : List Int} (L : Lie .u8 w B p m c xs) : (convert 22 9 (.slice p m c)).run Try.prog w = .ok (.string (strOfNums xs)) w := by
  have := conv_src (w := w) (sp := p) (xs := xs) L.src c
  rw [L.len] at this
  exact this
theorem equal_says {w : World} {B B' : Nat} {p q : Option Addr} {m c m' c' : Nat} {xs ys : List Int} (L : Lie .u8 w B p m c xs) (M : Lie .u8 w B' q m' c' ys) (hx : Byt xs) (hy : Byt ys) :
    Calls Try.prog 19 #[.slice p m c, .slice q m' c'] w fun e w' => e = .returned (.bool (decide (xs = ys))) ∧ w = w' := by
  have h1 := conv_lie L
  have h2 := conv_lie M
  have h3 := strOf_eq hx hy
  obtain ⟨r, hr⟩ : ∃ r : Ending → World → Prop, r = fun e w' => e = .returned (.bool (decide (xs = ys))) ∧ w = w' := ⟨_, rfl⟩
  rw [← hr]
  have HO := Lib.hid (by rw [hr, h3]; exact ⟨rfl, rfl⟩ : r (.returned (.bool ((strOfNums xs).toList == (strOfNums ys).toList))) w)
  obtain ⟨A, hA⟩ : ∃ A, A = strOfNums xs := ⟨_, rfl⟩
  obtain ⟨C, hC⟩ : ∃ C, C = strOfNums ys := ⟨_, rfl⟩
  rw [← hA] at h1 HO
  rw [← hC] at h2 HO
  clear hr h3 hA hC L M hx hy
  go_enter Try.func19, Try.ntmps19
  go_wp2
  exact HO.out
end Go.Proofs.Ythiaibpalnlbiaa.Img
