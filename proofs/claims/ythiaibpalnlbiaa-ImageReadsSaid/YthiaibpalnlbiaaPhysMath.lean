
/-
  Plain: bytes of a memory (no program in sight).
-/
import Derived.Test.YthiaibpalnlbiaaMath
set_option maxRecDepth 100000
namespace Go.Proofs.Ythiaibpalnlbiaa
open Go.RowKit
/-- Whether n bytes are there from a on. -/
def fitm (L : Nat) (a n : Int) : Prop := 0 ≤ a ∧ 0 ≤ n ∧ a + n ≤ L
instance (L : Nat) (a n : Int) : Decidable (fitm L a n) := by unfold fitm; infer_instance
/-- Whether a number of size s stands at a. -/
def okc (L : Nat) (a s : Int) : Prop := (s = 1 ∨ s = 2 ∨ s = 4) ∧ a % s = 0 ∧ fitm L a s
instance (L : Nat) (a s : Int) : Decidable (okc L a s) := by unfold okc; infer_instance
/-- The number whose bytes these are, the lowest first. -/
def lev : List Int → Int
  | [] => 0
  | b :: r => b + 256 * lev r
def Byt (bs : List Int) : Prop := ∀ b ∈ bs, 0 ≤ b ∧ b < 256
theorem lev_bd : ∀ (xs : List Int), Byt xs → 0 ≤ lev xs ∧ lev xs < 256 ^ xs.length
  | [], _ => by simp [lev]
  | b :: r, h => by
    have h1 := h b (by simp)
    have h2 := lev_bd r (fun x hx => h x (by simp [hx]))
    simp only [lev, List.length_cons, Int.pow_succ]; omega
theorem le_snoc : ∀ (xs : List Int) (b : Int), lev (xs ++ [b]) = lev xs + b * 256 ^ xs.length
  | [], b => by simp [lev]
  | x :: r, b => by
    simp only [List.cons_append, lev, le_snoc r b, List.length_cons, Int.pow_succ]
    rw [Int.mul_add, ← Int.add_assoc, Int.mul_left_comm, Int.mul_comm 256 (256 ^ r.length)]
theorem le_step (xs : List Int) (k : Nat) (h : k < xs.length) : lev (xs.take (k + 1)) = lev (xs.take k) + xs.getD k 0 * 256 ^ k := by
  rw [List.take_succ_eq_append_getElem h, le_snoc]
  simp [List.getElem?_eq_getElem h, Nat.min_eq_left (Nat.le_of_lt h)]
theorem le_down (xs : List Int) (k : Nat) (h : k < xs.length) : lev (xs.drop k) = xs.getD k 0 + 256 * lev (xs.drop (k + 1)) := by
  rw [List.drop_eq_getElem_cons h]; simp [lev, List.getElem?_eq_getElem h]
theorem byt_take {xs : List Int} (h : Byt xs) (k : Nat) : Byt (xs.take k) := fun b hb => h b (List.mem_of_mem_take hb)
theorem byt_drop {xs : List Int} (h : Byt xs) (k : Nat) : Byt (xs.drop k) := fun b hb => h b (List.mem_of_mem_drop hb)
theorem byt_getD {xs : List Int} (h : Byt xs) (k : Nat) : 0 ≤ xs.getD k 0 ∧ xs.getD k 0 < 256 := by
  rw [List.getD_eq_getElem?_getD]
  cases hk : xs[k]? with
  | none => simp
  | some b => exact h b (List.mem_of_getElem? hk)
theorem byt_set {xs : List Int} (h : Byt xs) (k : Nat) (b : Int) (hb : 0 ≤ b ∧ b < 256) : Byt (xs.set k b) := by
  intro c hc
  rcases List.mem_or_eq_of_mem_set hc with h' | rfl
  · exact h c h'
  · exact hb
/-- What Load tells. -/
def ldv (bs : List Int) (a s : Int) : Int := if okc bs.length a s then lev ((bs.drop a.toNat).take s.toNat) else 0
/-- The bytes behind a store of k bytes of v from place a on. -/
def stN (bs : List Int) (a : Nat) (v : Int) : Nat → List Int
  | 0 => bs
  | k + 1 => (stN bs a v k).set (a + k) (v / 256 ^ k % 256)
def stv (bs : List Int) (a s v : Int) : List Int := if okc bs.length a s then stN bs a.toNat v s.toNat else bs
theorem stN_length (bs : List Int) (a : Nat) (v : Int) : ∀ k, (stN bs a v k).length = bs.length
  | 0 => rfl
  | k + 1 => by simp [stN, stN_length bs a v k]
theorem stv_length (bs : List Int) (a s v : Int) : (stv bs a s v).length = bs.length := by
  unfold stv; split
  · exact stN_length ..
  · rfl
theorem stN_byt {bs : List Int} (h : Byt bs) (a : Nat) (v : Int) : ∀ k, Byt (stN bs a v k)
  | 0 => h
  | k + 1 => byt_set (stN_byt h a v k) _ _ (by omega)
theorem stv_byt {bs : List Int} (h : Byt bs) (a s v : Int) : Byt (stv bs a s v) := by
  unfold stv; split
  · exact stN_byt h _ _ _
  · exact h
theorem stN_getD (bs : List Int) (a : Nat) (v : Int) (i : Nat) : ∀ k, a + k ≤ bs.length → (stN bs a v k).getD i 0 = if a ≤ i ∧ i < a + k then v / 256 ^ (i - a) % 256 else bs.getD i 0
  | 0, _ => by rw [if_neg (by omega)]; rfl
  | k + 1, h => by
    have ih := stN_getD bs a v i k (by omega)
    simp only [stN, List.getD_eq_getElem?_getD, List.getElem?_set] at ih ⊢
    have hl := stN_length bs a v k
    by_cases e : a + k = i
    · subst e
      rw [if_pos rfl, if_pos (by omega), if_pos (by omega)]; simp
    · rw [if_neg e, ih]
      by_cases c : a ≤ i ∧ i < a + k
      · rw [if_pos c, if_pos (by omega)]
      · rw [if_neg c, if_neg (by omega)]
theorem getD_drop_take (bs : List Int) (a n j : Nat) (h : j < n) : ((bs.drop a).take n).getD j 0 = bs.getD (a + j) 0 := by
  simp [List.getD_eq_getElem?_getD, h]
theorem or_byte (k : Nat) (hk : k ≤ 3) (x b : Int) (h0 : 0 ≤ x) (h1 : x < 256 ^ k) (b0 : 0 ≤ b) (b1 : b < 256) : bits .or .i64 x (b * 256 ^ k) = x + b * 256 ^ k := by
  have e : (256 : Int) ^ k = 2 ^ (8 * k) := by rw [Int.pow_mul]; rfl
  have hp := pow_pos' (8 * k)
  have hle : (2 : Int) ^ (8 * k) ≤ 2 ^ 24 := pow_le' (by omega)
  have h24 : (2 : Int) ^ 24 = 16777216 := by decide
  rw [e] at h1 ⊢
  have hb : b * 2 ^ (8 * k) ≤ 255 * 2 ^ (8 * k) := Int.mul_le_mul_of_nonneg_right (by omega) (by omega)
  have hc : 0 ≤ b * 2 ^ (8 * k) := Int.mul_nonneg b0 (by omega)
  have := bits_join .i64 32 (by decide) (fun n h1 h2 => IntWalk.i64_in n (by omega)) (8 * k) (b * 2 ^ (8 * k)) x hc (by simp) (by omega) h0 h1 (by omega)
  have hcm : bits .or .i64 x (b * 2 ^ (8 * k)) = bits .or .i64 (b * 2 ^ (8 * k)) x := by simp only [bits, BitVec.or_comm]
  rw [hcm, this, Int.add_comm]
theorem or_low (x b : Int) (h0 : 0 ≤ x) (h1 : x < 16777216) (b0 : 0 ≤ b) (b1 : b < 256) : bits .or .i64 (x * 256) b = x * 256 + b :=
  bits_join .i64 32 (by decide) (fun n h1 h2 => IntWalk.i64_in n (by omega)) 8 (x * 256) b (by omega) (by omega) (by omega) b0 b1 (by omega)
theorem p256 (k : Nat) : (2 : Int) ^ (8 * k) = 256 ^ k := by rw [Int.pow_mul]; rfl
theorem p256_le (k : Nat) (hk : k ≤ 3) : (0 : Int) < 256 ^ k ∧ (256 : Int) ^ k ≤ 16777216 := by
  have := pow_le' (a := 8 * k) (b := 24) (by omega)
  have h2 := pow_pos' (8 * k)
  rw [p256] at this h2
  exact ⟨h2, this⟩
theorem load_step {xs : List Int} (hB : Byt xs) (k : Nat) (h : k < xs.length) (h4 : xs.length ≤ 4) (b : Int) (hb : b = xs.getD k 0) :
    bits .or .i64 (lev (xs.take k)) (wrap64 (b * 2 ^ (8 * k))) = lev (xs.take (k + 1)) := by
  have hbb := byt_getD hB k
  rw [← hb] at hbb
  have hl := lev_bd _ (byt_take hB k)
  rw [List.length_take, Nat.min_eq_left (by omega)] at hl
  have hp := p256_le k (by omega)
  have h1 : b * 256 ^ k ≤ 255 * 256 ^ k := Int.mul_le_mul_of_nonneg_right (by omega) (by omega)
  have h0 : 0 ≤ b * 256 ^ k := Int.mul_nonneg hbb.1 (by omega)
  rw [le_step xs k h, ← hb, p256, show wrap64 (b * 256 ^ k) = b * 256 ^ k by unfold wrap64; omega]
  exact or_byte k (by omega) _ _ hl.1 hl.2 hbb.1 hbb.2
end Go.Proofs.Ythiaibpalnlbiaa
