
/-
  The law's own count: how many backslashes begin an escape.
-/
import Derived.Test.YtkgapellgfbdnaaDoorLexEn
import Derived.Test.YtkgapellgfbdnaaDoorLexAl
set_option maxRecDepth 100000
namespace Go.Proofs.YtkgapellgfbdnaaDoor.Lex
open Go.Proofs.YtkgapellgfbdnaaDoor Go.Proofs.YtkgapellgfbdnaaDoor.Ser
open Go.ChangeShapes Go.WideShapes Go.ChangeAt Go.RowKit
/-- Backslashes, each with what stands behind it. -/
def cnt : Nat → List UInt8 → Nat
  | 0, _ => 0
  | _, [] => 0
  | f + 1, b :: t => if b = 92 then cnt f (t.drop 1) + 1 else cnt f t
theorem cnt_nil : ∀ f, cnt f [] = 0
  | 0 => rfl
  | _ + 1 => rfl
theorem cnt_enough : ∀ (f g : Nat) (l : List UInt8), l.length ≤ f → l.length ≤ g → cnt f l = cnt g l
  | 0, g, l, hf, _ => by
    obtain rfl := List.eq_nil_of_length_eq_zero (Nat.le_zero.1 hf)
    rw [cnt_nil, cnt_nil]
  | f + 1, 0, l, _, hg => by
    obtain rfl := List.eq_nil_of_length_eq_zero (Nat.le_zero.1 hg)
    rw [cnt_nil, cnt_nil]
  | f + 1, g + 1, [], _, _ => rfl
  | f + 1, g + 1, b :: t, hf, hg => by
    rw [List.length_cons] at hf hg
    show (if b = 92 then cnt f (t.drop 1) + 1 else cnt f t) = (if b = 92 then cnt g (t.drop 1) + 1 else cnt g t)
    rw [cnt_enough f g (t.drop 1) (by rw [List.length_drop]; omega) (by rw [List.length_drop]; omega), cnt_enough f g t (by omega) (by omega)]
def ct (l : List UInt8) : Nat := cnt l.length l
theorem ct_nil : ct [] = 0 := rfl
theorem ct_esc (t : List UInt8) : ct (92 :: t) = ct (t.drop 1) + 1 := by
  unfold ct
  show cnt t.length (t.drop 1) + 1 = _
  rw [cnt_enough t.length (t.drop 1).length _ (by rw [List.length_drop]; omega) (Nat.le_refl _)]
theorem ct_other {b : UInt8} (t : List UInt8) (h : b ≠ 92) : ct (b :: t) = ct t := by
  unfold ct
  show (if b = 92 then _ else cnt t.length t) = _
  rw [if_neg h]
theorem ct_skip : ∀ (l t : List UInt8), (∀ b ∈ l, b ≠ 92) → ct (l ++ t) = ct t
  | [], _, _ => rfl
  | b :: l, t, h => by
    rw [List.cons_append, ct_other _ (h b (by simp)), ct_skip l t (fun x hx => h x (by simp [hx]))]
theorem ct_le : ∀ (n : Nat) (l : List UInt8), l.length ≤ n → ct l ≤ l.length
  | 0, l, h => by
    obtain rfl := List.eq_nil_of_length_eq_zero (Nat.le_zero.1 h)
    exact Nat.le_refl _
  | n + 1, [], _ => Nat.le_refl _
  | n + 1, b :: t, h => by
    rw [List.length_cons] at h ⊢
    by_cases hb : b = 92
    · subst hb
      rw [ct_esc]
      have := ct_le n (t.drop 1) (by rw [List.length_drop]; omega)
      rw [List.length_drop] at this
      omega
    · rw [ct_other _ hb]
      have := ct_le n t (by omega)
      omega
theorem count_says (s : ByteArray) (w : World) (hs : s.size ≤ 65536) : Calls Tryd.prog 16 #[.string s] w fun e w' => e = .returned (i64 (ct s.data.toList)) ∧ w = w' := by
  have hsz : s.data.toList.length = s.size := Array.length_toList
  have hs0 : (0 : Int) ≤ (s.size : Int) := Int.natCast_nonneg _
  have hsI : (s.size : Int) ≤ 65536 := by omega
  have hle := ct_le _ s.data.toList (Nat.le_refl _)
  go_enter Tryd.func16, Tryd.ntmps16
  go_wp2_with fail
  go_loopw [3, 4] (fun nv iv wr => ∃ (i n : Nat), n ≤ i ∧ i ≤ s.size + 1 ∧ n + ct (s.data.toList.drop i) = ct s.data.toList ∧ nv = .int .i64 n ∧ iv = .int .i64 i ∧ w = wr) (fun _ iv _ => s.size + 1 - (intOf iv).toNat)
  case atStart => exact ⟨0, 0, Nat.le_refl _, by omega, by simp, rfl, rfl, rfl⟩
  case round =>
    obtain ⟨i, n, hni, hi, hc, rfl, rfl, rfl⟩ := hrel
    have i0 : (0 : Int) ≤ (i : Int) := Int.natCast_nonneg _
    have n0 : (0 : Int) ≤ (n : Int) := Int.natCast_nonneg _
    by_cases hlt : i < s.size
    · have hltI : (i : Int) < (s.size : Int) := by omega
      have hdr : s.data.toList.drop i = s[i]'hlt :: s.data.toList.drop (i + 1) := List.drop_eq_getElem_cons (by omega)
      rw [hdr] at hc
      by_cases hb92 : s[i]'hlt = 92
      · have hq : ((((s[i]'hlt).toNat : Nat) : Int) == 92) = true := by rw [hb92]; rfl
        rw [hb92, ct_esc, List.drop_drop] at hc
        go_wp2_with fail
        go_roundw
        case rel => exact ⟨i + 1 + 1, n + 1, by omega, by omega, by omega, by go_num, by go_num, trivial⟩
        case measure => simp [intOf]; omega
      · have hq : ((((s[i]'hlt).toNat : Nat) : Int) == 92) = false := by
          rw [beq_eq_false_iff_ne]
          intro h
          exact hb92 (UInt8.toNat_inj.1 (by show (s[i]'hlt).toNat = 92; omega))
        rw [ct_other _ hb92] at hc
        go_wp2_with fail
        go_roundw
        case rel => exact ⟨i + 1, n, by omega, by omega, hc, rfl, by go_num, trivial⟩
        case measure => simp [intOf]; omega
    · have hltI : ¬ (i : Int) < (s.size : Int) := by omega
      rw [List.drop_eq_nil_of_le (by omega), ct_nil] at hc
      have hnc : n = ct s.data.toList := by omega
      subst hnc
      go_wp2_with fail
      go_ret
      exact ⟨rfl, rfl⟩
end Go.Proofs.YtkgapellgfbdnaaDoor.Lex
