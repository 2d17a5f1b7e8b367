/-
  The document's own images: contracts of CheckImage, Four, Sum, Num.
-/
import Derived.Test.YthiaibpalnlbiaaImgD
import Derived.Deep.QuietTactic
import Derived.BigQuiet
set_option maxRecDepth 100000
namespace Go.Proofs.Ythiaibpalnlbiaa.Img
open Go.Proofs.Ythiaibpalnlbiaa Go.Proofs.Ythiaibpalnlbiaa.Ser
open Go.ChangeShapes Go.WideShapes Go.ChangeAt Go.RowKit
set_option linter.unusedVariables false
theorem rcheck_says (e : Int) (p : Option Addr) (n c : Nat) (hn : n ≤ 9223372036854775807) (w : World) :
    Calls Try.prog 11 #[imgV e p n c] w fun en w' => en = .returned (i64 (chk e n)) ∧ Below w.heap.size w w' := by
  obtain ⟨r, hr⟩ : ∃ r : Ending → World → Prop, r = fun en w' => en = .returned (i64 (chk e n)) ∧ Below w.heap.size w w' := ⟨_, rfl⟩
  rw [← hr]
  have K := Lib.hid (fun v (hv : chk e n = v) u (b : Below w.heap.size w u) => (by rw [hr]; exact ⟨by rw [hv], b⟩ : r (.returned (i64 v)) u))
  have HB := Lib.hid ((Below.refl w.heap.size w).alloc (Nat.le_refl _) (.cells #[i64 e, .slice p n c] 24))
  clear hr
  have n0 : (0 : Int) ≤ (n : Int) := Int.natCast_nonneg n
  have ways : e < 0 ∨ (¬ e < 0 ∧ 4294967295 < e) ∨ (¬ e < 0 ∧ ¬ 4294967295 < e) := by omega
  rcases ways with h1 | ⟨h1, h2⟩ | ⟨h1, h2⟩
  · replace K := Lib.hid (K.out 14 (by unfold chk; rw [if_neg (by omega)]))
    go_enter Try.func11, Try.ntmps11
    go_wp2
    exact K.out _ HB.out
  · replace K := Lib.hid (K.out 14 (by unfold chk; rw [if_neg (by omega)]))
    go_enter Try.func11, Try.ntmps11
    go_wp2
    exact K.out _ HB.out
  · by_cases h3 : e % 4 = 0
    · have h3' : (e % 4 != 0) = false := by simp [h3]
      by_cases h4 : n ≤ 1048576
      · have h4' : ¬ (1048576 : Int) < (n : Int) := by omega
        replace K := Lib.hid (K.out 0 (by unfold chk; rw [if_pos ⟨by omega, by omega, h3⟩, if_pos h4]))
        clear h3 h4
        go_enter Try.func11, Try.ntmps11
        go_wp2
        exact K.out _ HB.out
      · have h4' : (1048576 : Int) < (n : Int) := by omega
        replace K := Lib.hid (K.out 2 (by unfold chk; rw [if_pos ⟨by omega, by omega, h3⟩, if_neg h4]))
        clear h3 h4
        go_enter Try.func11, Try.ntmps11
        go_wp2
        exact K.out _ HB.out
    · have h3' : (e % 4 != 0) = true := by simp [h3]
      replace K := Lib.hid (K.out 14 (by unfold chk; rw [if_neg (fun h => h3 h.2.2)]))
      clear h3
      go_enter Try.func11, Try.ntmps11
      go_wp2
      exact K.out _ HB.out
/-- A row that was written out. -/
theorem ownK_built (E : TypeId) (k : IntKind) (w : World) (xs : List Int) (hl : xs.length ≤ maxLen) : OwnK E k (w.alloc (.cells (kL k xs).toArray E)) w.heap.size (.slice (some ⟨w.heap.size, 0, none⟩) xs.length xs.length) xs :=
  ⟨by simp, .inr ⟨w.heap.size, xs.length, (kL k xs).toArray, rfl, Nat.le_refl _, heap_alloc_new _ _, Nat.le_refl _, hl, by simp, by simp [List.take_of_length_le]⟩⟩
theorem four_says (n : Int) (w : World) : Calls Try.prog 16 #[i64 n] w fun e w' => ∃ p c, e = .returned (.slice p 4 c) ∧ OwnK 5 .u8 w' w.heap.size (.slice p 4 c) (four n) ∧ Below w.heap.size w w' := by
  obtain ⟨r, hr⟩ : ∃ r : Ending → World → Prop, r = fun e w' => ∃ p c, e = .returned (.slice p 4 c) ∧ OwnK 5 .u8 w' w.heap.size (.slice p 4 c) (four n) ∧ Below w.heap.size w w' := ⟨_, rfl⟩
  rw [← hr]
  have m0 : bits .and .i64 n 255 = n % 256 := i64_mask n 8 (by decide)
  have m1 : bits .and .i64 (n / 256) 255 = n / 256 % 256 := i64_mask _ 8 (by decide)
  have m2 : bits .and .i64 (n / 65536) 255 = n / 65536 % 256 := i64_mask _ 8 (by decide)
  have m3 : bits .and .i64 (n / 16777216) 255 = n / 16777216 % 256 := i64_mask _ 8 (by decide)
  have HO := Lib.hid (by rw [hr]; exact ⟨_, _, rfl, ownK_built 5 .u8 w (four n) (by rw [four_len]; decide), (Below.refl _ _).alloc (Nat.le_refl _) _⟩ : r (.returned (.slice (some ⟨w.heap.size, 0, none⟩) 4 4)) (w.alloc (.cells #[.int .u8 (n % 256), .int .u8 (n / 256 % 256), .int .u8 (n / 65536 % 256), .int .u8 (n / 16777216 % 256)] 5)))
  clear hr
  go_enter Try.func16, Try.ntmps16
  go_wp2
  exact HO.out
/-- The sum of bytes. -/
theorem rsum_says {w : World} {B : Nat} {p : Option Addr} {m c : Nat} {xs : List Int} (L : Lie .u8 w B p m c xs) (hx : Byt xs) (hl : m ≤ 10000000) :
    Calls Try.prog 17 #[.slice p m c] w fun e w' => e = .returned (i64 xs.sum) ∧ w = w' := by
  obtain ⟨r, hr⟩ : ∃ r : Ending → World → Prop, r = fun e w' => e = .returned (i64 xs.sum) ∧ w = w' := ⟨_, rfl⟩
  rw [← hr]
  have hb := sum_bd xs hx
  rw [L.len] at hb
  have hw : wd xs.sum = xs.sum := wd_eq _ hb.1 (by omega)
  have HW := Lib.hid (show Calls Try.prog 21 #[i64 (xs.take m).sum] w (fun e w' => e = .returned (i64 xs.sum) ∧ w = w') from by
    rw [List.take_of_length_le (Nat.le_of_eq L.len)]
    have := w_says xs.sum
    rw [hw] at this
    exact (this w).mono fun e w' ⟨h1, h2⟩ => ⟨h1, h2⟩)
  have HO := Lib.hid (by rw [hr]; exact ⟨rfl, rfl⟩ : r (.returned (i64 xs.sum)) w)
  obtain ⟨S, hS⟩ : ∃ S, S = xs.sum := ⟨_, rfl⟩
  rw [← hS] at HW HO
  have HL := Lib.hid L
  have HX := Lib.hid hx
  clear hr L hx hb hw hS
  have m0 : (0 : Int) ≤ (m : Int) := Int.natCast_nonneg m
  go_enter Try.func17, Try.ntmps17
  go_wp2
  go_loop [3, 4] (fun s3 s4 => ∃ k : Nat, k ≤ m ∧ s4 = i64 (k : Int) ∧ s3 = i64 (xs.take k).sum) (fun _ s4 => m - (intOf s4).toNat)
  case atStart => exact ⟨0, Nat.zero_le _, rfl, by simp⟩
  case round =>
    obtain ⟨k, hk, rfl, rfl⟩ := hrel
    have k0 : (0 : Int) ≤ (k : Int) := Int.natCast_nonneg k
    by_cases hkm : k < m
    · have hkI : (k : Int) < (m : Int) := by omega
      obtain ⟨b, off, rfl, hlt, hc⟩ := HL.out.cell hkm
      have e1 := sum_take_succ xs k (by rw [HL.out.len]; exact hkm)
      have b1 := sum_take_le HX.out k
      have b2 := byt_getD HX.out k
      have b3 : (xs.length : Int) ≤ 10000000 := by have := HL.out.len; omega
      obtain ⟨x, hx⟩ : ∃ x, x = xs.getD k 0 := ⟨_, rfl⟩
      obtain ⟨y, hy⟩ : ∃ y, y = (xs.take k).sum := ⟨_, rfl⟩
      rw [← hx] at hc b2 e1
      rw [← hy] at b1 e1 ⊢
      have y0 : 0 ≤ y := b1.1
      have y1 : y ≤ 2550000000 := by omega
      have x0 : 0 ≤ x := b2.1
      have x1 : x < 256 := b2.2
      have E1 := Lib.hid e1
      clear b1 b2 b3 e1 hx hy
      go_wp2
      go_round
      case rel => exact ⟨k + 1, hkm, by go_num, by rw [E1.out]⟩
      case measure => simp [intOf]; omega
    · obtain rfl : k = m := by omega
      go_wp2_with (go_at_call 21; refine HW.out.mono ?_; rintro e t' ⟨rfl, rfl⟩)
      exact HO.out
theorem lev4 (ys : List Int) (h : ys.length = 4) (hb : Byt ys) :
    bits .or .i64 (bits .or .i64 (bits .or .i64 (ys.getD 0 0) (ys.getD 1 0 * 256)) (ys.getD 2 0 * 65536)) (ys.getD 3 0 * 16777216) = lev ys := by
  have b0 := byt_getD hb 0; have b1 := byt_getD hb 1; have b2 := byt_getD hb 2; have b3 := byt_getD hb 3
  match ys, h with
  | [a, b, c, d], _ =>
    simp only [List.getD_cons_zero, List.getD_cons_succ] at b0 b1 b2 b3 ⊢
    have e1 := or_byte 1 (by decide) a b b0.1 (by omega) b1.1 b1.2
    have e2 := or_byte 2 (by decide) (a + b * 256) c (by omega) (by omega) b2.1 b2.2
    have e3 := or_byte 3 (by decide) (a + b * 256 + c * 65536) d (by omega) (by omega) b3.1 b3.2
    simp only [show (256 : Int) ^ 1 = 256 from rfl, show (256 : Int) ^ 2 = 65536 from rfl, show (256 : Int) ^ 3 = 16777216 from rfl] at e1 e2 e3
    rw [e1, e2, e3]; simp only [lev]; omega
/-- The number of four bytes. -/
theorem num_says4 {w : World} {B : Nat} {p : Option Addr} {m c : Nat} {xs : List Int} (L : Lie .u8 w B p m c xs) (hx : Byt xs) (h8 : 8 ≤ m) :
    Calls Try.prog 20 #[.slice p m c, i64 4] w fun e w' => e = .returned (i64 (num4 xs 4)) ∧ ∃ n, w' = w.drewN n := by
  obtain ⟨ys, hys⟩ : ∃ ys, ys = (xs.drop 4).take 4 := ⟨_, rfl⟩
  have hl : ys.length = 4 := by rw [hys, List.length_take, List.length_drop, L.len]; omega
  have hyb : Byt ys := by rw [hys]; exact byt_take (byt_drop hx 4) 4
  obtain ⟨r, hr⟩ : ∃ r : Ending → World → Prop, r = fun e w' => e = .returned (i64 (num4 xs 4)) ∧ ∃ n, w' = w.drewN n := ⟨_, rfl⟩
  rw [← hr]
  have HO := Lib.hid (by rw [hr, lev4 ys hl hyb, hys]; exact fun n => ⟨rfl, n, rfl⟩ : ∀ n, r (.returned (i64 (bits .or .i64 (bits .or .i64 (bits .or .i64 (ys.getD 0 0) (ys.getD 1 0 * 256)) (ys.getD 2 0 * 65536)) (ys.getD 3 0 * 16777216)))) (w.drewN n))
  obtain ⟨b, off, rfl, hlt, -⟩ := L.cell (i := 0) (by omega)
  have HC : ∀ k, k < 4 → w.cell? ⟨b, off + (4 + k), none⟩ = some (.int .u8 (ys.getD k 0)) := fun k hk => by
    obtain ⟨b', off', e, -, hc⟩ := L.cell (i := 4 + k) (by omega); injection e with e; injection e with e1 e2; subst e1 e2; rw [hc, hys]; simp [List.getD_eq_getElem?_getD, hk]
  have c0 : w.cell? ⟨b, off + 4, none⟩ = _ := HC 0 (by decide)
  have c1 : w.cell? ⟨b, off + 5, none⟩ = _ := HC 1 (by decide)
  have c2 : w.cell? ⟨b, off + 6, none⟩ = _ := HC 2 (by decide)
  have c3 : w.cell? ⟨b, off + 7, none⟩ = _ := HC 3 (by decide)
  have b0 := byt_getD hyb 0; have b1 := byt_getD hyb 1; have b2 := byt_getD hyb 2; have b3 := byt_getD hyb 3
  obtain ⟨y0, hy0⟩ : ∃ y, y = ys.getD 0 0 := ⟨_, rfl⟩
  obtain ⟨y1, hy1⟩ : ∃ y, y = ys.getD 1 0 := ⟨_, rfl⟩
  obtain ⟨y2, hy2⟩ : ∃ y, y = ys.getD 2 0 := ⟨_, rfl⟩
  obtain ⟨y3, hy3⟩ : ∃ y, y = ys.getD 3 0 := ⟨_, rfl⟩
  rw [← hy0, ← hy1, ← hy2, ← hy3] at HO
  rw [← hy0] at c0 b0; rw [← hy1] at c1 b1; rw [← hy2] at c2 b2; rw [← hy3] at c3 b3
  obtain ⟨b00, b01⟩ := b0; obtain ⟨b10, b11⟩ := b1; obtain ⟨b20, b21⟩ := b2; obtain ⟨b30, b31⟩ := b3
  have hm8 : (8 : Int) ≤ (m : Int) := by omega
  clear hr HC hx L hys hl hyb hy0 hy1 hy2 hy3 hlt
  go_enter Try.func20, Try.ntmps20
  go_upto_region 1 with fail
  go_quiet (fail)
  go_wp2
  exact HO.out _
end Go.Proofs.Ythiaibpalnlbiaa.Img
