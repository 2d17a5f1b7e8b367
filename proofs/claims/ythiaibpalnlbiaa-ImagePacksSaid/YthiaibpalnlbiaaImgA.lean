/-
  Package image: contracts of Check and of the bytes of a number, and the sum of bytes.
-/
import Derived.Test.YthiaibpalnlbiaaImgMath
import Derived.Test.YthiaibpalnlbiaaCpuRow
import Derived.Lib.AppendStr
import Derived.Laws.MakeOwn
set_option maxRecDepth 100000
namespace Go.Proofs.Ythiaibpalnlbiaa.Img
open Go.Proofs.Ythiaibpalnlbiaa Go.Proofs.Ythiaibpalnlbiaa.Ser
open Go.ChangeShapes Go.WideShapes Go.ChangeAt Go.RowKit
set_option linter.unusedVariables false
abbrev imgV (e : Int) (p : Option Addr) (n c : Nat) : Value := .agg #[i64 e, .slice p n c]
set_option maxRecDepth 100000 in
theorem check_says (e : Int) (p : Option Addr) (n c : Nat) (hn : n ≤ 9223372036854775807) (w : World) :
    Calls Try.prog 7 #[imgV e p n c] w fun en w' => en = .returned (i64 (chk e n)) ∧ Below w.heap.size w w' := by
  obtain ⟨r, hr⟩ : ∃ r : Ending → World → Prop, r = fun en w' => en = .returned (i64 (chk e n)) ∧ Below w.heap.size w w' := ⟨_, rfl⟩
  rw [← hr]
  have K := Lib.hid (fun v (hv : chk e n = v) u (b : Below w.heap.size w u) => (by rw [hr]; exact ⟨by rw [hv], b⟩ : r (.returned (i64 v)) u))
  have HB := Lib.hid ((Below.refl w.heap.size w).alloc (Nat.le_refl _) (.cells #[i64 e, .slice p n c] 24))
  clear hr
  have hm : bits .and .i64 e 3 = e % 4 := i64_mask e 2 (by decide)
  have n0 : (0 : Int) ≤ (n : Int) := Int.natCast_nonneg n
  by_cases h0 : 0 ≤ e ∧ e ≤ 4294967295
  · have h1 : (e != e % 4294967296) = false := by have : e % 4294967296 = e := by omega
                                                  simp [this]
    by_cases h2 : e % 4 = 0
    · have h2' : (e % 4 != 0) = false := by simp [h2]
      by_cases h3 : n ≤ 1048576
      · have h3' : ¬ (1048576 : Int) < (n : Int) := by omega
        replace K := Lib.hid (K.out 0 (by unfold chk; rw [if_pos ⟨h0.1, h0.2, h2⟩, if_pos h3]))
        clear h0 h2 h3
        go_enter Try.func7, Try.ntmps7
        go_wp2
        exact K.out _ HB.out
      · have h3' : (1048576 : Int) < (n : Int) := by omega
        replace K := Lib.hid (K.out 2 (by unfold chk; rw [if_pos ⟨h0.1, h0.2, h2⟩, if_neg h3]))
        clear h0 h2 h3
        go_enter Try.func7, Try.ntmps7
        go_wp2
        exact K.out _ HB.out
    · have h2' : (e % 4 != 0) = true := by simp [h2]
      replace K := Lib.hid (K.out 14 (by unfold chk; rw [if_neg (fun h => h2 h.2.2)]))
      clear h0 h2
      go_enter Try.func7, Try.ntmps7
      go_wp2
      exact K.out _ HB.out
  · have h1 : (e != e % 4294967296) = true := by have : ¬ e = e % 4294967296 := by omega
                                                 simp [this]
    replace K := Lib.hid (K.out 14 (by unfold chk; rw [if_neg (fun h => h0 ⟨h.1, h.2.1⟩)]))
    clear h0
    go_enter Try.func7, Try.ntmps7
    go_wp2
    exact K.out _ HB.out
theorem four_succ (n : Int) (k : Nat) (hk : k < 4) : (four n).take (k + 1) = (four n).take k ++ [n / 2 ^ (8 * k) % 256] := by
  have h : k = 0 ∨ k = 1 ∨ k = 2 ∨ k = 3 := by omega
  rcases h with rfl | rfl | rfl | rfl <;> simp [four]
theorem src_byte (w : World) (y : Int) : SrcK .u8 (w.alloc (.cells #[.int .u8 y] 5)) (some ⟨w.heap.size, 0, none⟩) [y] := by
  intro _
  refine ⟨_, rfl, fun j u hu => ?_⟩
  have hj : j = 0 := by have := (List.getElem?_eq_some_iff.1 hu).1; simp at this; omega
  subst hj
  simp at hu; subst hu
  rw [Addr.add_lit, cell_of_row _ w.heap.size 0 _ _ _ (heap_alloc_new w _)]; rfl
/-- A row of the call's own with four bytes more. -/
theorem appendWord_says {w : World} {B : Nat} {p : Option Addr} {m c : Nat} {xs : List Int} (ho : OwnK 5 .u8 w B (.slice p m c) xs) (hB : B ≤ w.heap.size) (hl : xs.length ≤ 900000) (n : Int) (h0 : 0 ≤ n) (h1 : n ≤ 4294967295) :
    Calls Try.prog 14 #[.slice p m c, .int .u32 n] w fun e w' => ∃ p' m' c', e = .returned (.slice p' m' c') ∧ m' = xs.length + 4 ∧ OwnK 5 .u8 w' B (.slice p' m' c') (xs ++ four n) ∧ Below B w w' := by
  obtain ⟨r, hr⟩ : ∃ r : Ending → World → Prop, r = fun e w' => ∃ p' m' c', e = .returned (.slice p' m' c') ∧ m' = xs.length + 4 ∧ OwnK 5 .u8 w' B (.slice p' m' c') (xs ++ four n) ∧ Below B w w' := ⟨_, rfl⟩
  rw [← hr]
  have HO := Lib.hid (fun p' m' c' u (h : OwnK 5 .u8 u B (.slice p' m' c') (xs ++ (four n).take 4)) (b : Below B w u) => (by rw [hr]; refine ⟨p', m', c', rfl, ?_, h, b⟩; obtain ⟨p2, c2, e2, -⟩ := ownK_lie h; injection e2 with _ e3 _; rw [e3]; simp [four] : r (.returned (.slice p' m' c')) u))
  clear hr
  have HB := Lib.hid hB
  have HL := Lib.hid hl
  have H0 := Lib.hid ho
  clear ho hB hl
  go_enter Try.func14, Try.ntmps14
  go_wp2
  go_loopw [0, 6] (fun s0 s6 wr => ∃ (k : Nat) (p' : Option Addr) (m' c' : Nat), k ≤ 4 ∧ s6 = i64 (k : Int) ∧ s0 = .slice p' m' c' ∧ OwnK 5 .u8 wr B s0 (xs ++ (four n).take k) ∧ Below B w wr) (fun _ s6 _ => 4 - (intOf s6).toNat)
  case atStart => exact ⟨0, _, _, _, Nat.zero_le _, rfl, rfl, by simpa using H0.out, Below.refl _ _⟩
  case round =>
    obtain ⟨k, p', m', c', hk, rfl, rfl, ho, hb⟩ := hrel
    have HR := Lib.hid ho
    have HBb := Lib.hid hb
    clear ho hb
    by_cases hk4 : k < 4
    · have HS := Lib.hid (src_byte wr (n / 2 ^ (8 * k) % 256))
      have ho2 := Lib.hid (ownK_below HR.out ((Below.refl wr.heap.size wr).alloc (Nat.le_refl _) (.cells #[.int .u8 (n / 2 ^ (8 * k) % 256)] 5)))
      have hB2 := Lib.hid (show B ≤ (wr.alloc (.cells #[.int .u8 (n / 2 ^ (8 * k) % 256)] 5)).heap.size from Nat.le_trans HB.out (Nat.le_trans HBb.out.size (by simp)))
      have HBc := Lib.hid (HBb.out.trans (((Below.refl wr.heap.size wr).alloc (Nat.le_refl _) (.cells #[.int .u8 (n / 2 ^ (8 * k) % 256)] 5)).mono (Nat.le_trans HB.out HBb.out.size)))
      have HL2 := Lib.hid (show (xs ++ (four n).take k).length + 1 ≤ 1000000 by have := HL.out; rw [List.length_append, List.length_take, four_len]; omega)
      have e4 := Lib.hid (four_succ n k hk4)
      clear HR
      have hkI : (k : Int) < 4 := by omega
      have k0 : (0 : Int) ≤ (k : Int) := Int.natCast_nonneg k
      go_wp2_with (at_builtin; (refine wpList_appK kdB rfl _ _ rfl hB2.out (R1 := xs ++ (four n).take k) rfl ho2.out [n / 2 ^ (8 * k) % 256] rfl rfl (fun e => by cases e) HS.out HL2.out ?_; intro v' w1 k1 k2 _; rw [List.append_assoc, ← e4.out] at k1; obtain ⟨p5, q5, e5, -⟩ := ownK_lie k1; obtain ⟨n5, hn5⟩ : ∃ n5, (xs ++ (four n).take (k + 1)).length = n5 := ⟨_, rfl⟩; rw [hn5] at e5; subst e5; have k1 := Lib.hid k1; have k2 := Lib.hid k2))
      go_roundw
      case rel => exact ⟨k + 1, p5, n5, q5, hk4, by go_num, rfl, k1.out, HBc.out.trans k2.out⟩
      case measure => simp [intOf]; omega
    · obtain rfl : k = 4 := by omega
      go_wp2
      exact HO.out _ _ _ _ HR.out HBb.out
end Go.Proofs.Ythiaibpalnlbiaa.Img
