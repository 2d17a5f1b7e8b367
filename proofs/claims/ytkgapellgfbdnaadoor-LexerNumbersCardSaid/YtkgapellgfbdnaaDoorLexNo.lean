
/-
  Numbers as texts: the document's own Number; what their tokens are.
-/
import Derived.Test.YtkgapellgfbdnaaDoorLexLw
import Derived.Test.YtkgapellgfbdnaaDoorLexAl
set_option maxRecDepth 100000
namespace Go.Proofs.YtkgapellgfbdnaaDoor.Lex
open Go.Proofs.YtkgapellgfbdnaaDoor Go.Proofs.YtkgapellgfbdnaaDoor.Ser
open Go.ChangeShapes Go.WideShapes Go.ChangeAt Go.RowKit
/-- A digit's byte. -/
def dgb (d : Nat) : UInt8 := UInt8.ofNat (48 + d)
theorem dgb_nat (d : Nat) (h : d ≤ 9) : (dgb d).toNat = 48 + d := by unfold dgb; simp; omega
/-- A number's digits, at most k + 1 of them. -/
def dcl : Nat → Nat → List UInt8
  | 0, n => [dgb (n % 10)]
  | k + 1, n => if n ≤ 9 then [dgb n] else dcl k (n / 10) ++ [dgb (n % 10)]
theorem dcl_small (k n : Nat) (h : n ≤ 9) : dcl k n = [dgb n] := by
  cases k with
  | zero => show [dgb (n % 10)] = _; rw [Nat.mod_eq_of_lt (by omega)]
  | succ k => show (if n ≤ 9 then _ else _) = _; rw [if_pos h]
theorem digit_run (d : Int) (h0 : 0 ≤ d) (h1 : d ≤ 9) (w : World) : Sem.run Tryd.prog (Instr.slice 9 (.string ⟨#[48, 49, 50, 51, 52, 53, 54, 55, 56, 57]⟩) (some (.int .i64 d)) (some (.int .i64 (d + 1))) none) w = .ok (.string ⟨#[dgb d.toNat]⟩) w := by
  rcases (by omega : d = 0 ∨ d = 1 ∨ d = 2 ∨ d = 3 ∨ d = 4 ∨ d = 5 ∨ d = 6 ∨ d = 7 ∨ d = 8 ∨ d = 9) with rfl | rfl | rfl | rfl | rfl | rfl | rfl | rfl | rfl | rfl <;> kernel_rfl
theorem dcl_len : ∀ k n, (dcl k n).length ≤ k + 1
  | 0, n => Nat.le_refl _
  | k + 1, n => by
    show (if n ≤ 9 then [dgb n] else dcl k (n / 10) ++ [dgb (n % 10)]).length ≤ _
    split
    · simp
    · have := dcl_len k (n / 10); simp; omega
theorem txt_join (a b : List UInt8) : (⟨a.toArray⟩ : ByteArray) ++ ⟨b.toArray⟩ = ⟨(a ++ b).toArray⟩ := ByteArray.mk_append_mk a b
theorem number_says11 (k : Nat) : ∀ (n : Nat) (w : World), n < 10 ^ (k + 1) → n ≤ 2000000000000 → k ≤ 20 → Calls Tryd.prog 14 #[i64 n] w fun e w' => e = .returned (.string ⟨(dcl k n).toArray⟩) ∧ w = w' := by
  induction k with
  | zero =>
    intro n w h hu _
    have h9 : (n : Int) ≤ 9 := by omega
    have h0 : (0 : Int) ≤ (n : Int) := Int.natCast_nonneg n
    have hsl := digit_run (n % 10) (by omega) (by omega)
    have hm : ((n : Int) % 10).toNat = n := by omega
    rw [hm] at hsl
    rw [dcl_small 0 n (by omega)]
    have e : (⟨[dgb n].toArray⟩ : ByteArray) = ⟨#[dgb n]⟩ := rfl
    rw [e]
    go_enter Tryd.func14, Tryd.ntmps14
    go_wp2_with fail
    go_ret
    exact ⟨rfl, rfl⟩
  | succ k ih =>
    intro n w h hu hk
    have h0 : (0 : Int) ≤ (n : Int) := Int.natCast_nonneg n
    have hu' : (n : Int) ≤ 2000000000000 := by omega
    have hsl := digit_run (n % 10) (by omega) (by omega)
    have hm : ((n : Int) % 10).toNat = n % 10 := by omega
    rw [hm] at hsl
    by_cases hlt : n ≤ 9
    · have h9 : (n : Int) ≤ 9 := by omega
      rw [dcl_small (k + 1) n hlt]
      rw [Nat.mod_eq_of_lt (by omega)] at hsl
      have e : (⟨[dgb n].toArray⟩ : ByteArray) = ⟨#[dgb n]⟩ := rfl
      rw [e]
      go_enter Tryd.func14, Tryd.ntmps14
      go_wp2_with fail
      go_ret
      exact ⟨rfl, rfl⟩
    · have h9 : (9 : Int) < (n : Int) := by omega
      have hi := ih (n / 10) w (by rw [Nat.pow_succ] at h; omega) (by omega) (by omega)
      have hdiv : (n : Int).tdiv 10 = ((n / 10 : Nat) : Int) := by rw [Int.tdiv_eq_ediv_of_nonneg h0]; rfl
      have e : (⟨(dcl (k + 1) n).toArray⟩ : ByteArray) = ⟨(dcl k (n / 10)).toArray⟩ ++ ⟨#[dgb (n % 10)]⟩ := by
        show (⟨(if n ≤ 9 then [dgb n] else dcl k (n / 10) ++ [dgb (n % 10)]).toArray⟩ : ByteArray) = _
        rw [if_neg hlt, ← txt_join]
      rw [e]
      have hlen := dcl_len k (n / 10)
      have hcat : ∀ u : World, (Op.stringOp .add ⟨(dcl k (n / 10)).toArray⟩ ⟨#[dgb (n % 10)]⟩).run Tryd.prog u = .ok (.string (⟨(dcl k (n / 10)).toArray⟩ ++ ⟨#[dgb (n % 10)]⟩)) u := fun u => run_string_add_sum u _ _ (by
        have h1 : (⟨(dcl k (n / 10)).toArray⟩ : ByteArray).size = (dcl k (n / 10)).length := List.size_toArray
        have h2 : (⟨#[dgb (n % 10)]⟩ : ByteArray).size = 1 := rfl
        rw [h1, h2]; omega)
      obtain ⟨s, hs⟩ : ∃ s, (⟨(dcl k (n / 10)).toArray⟩ : ByteArray) = s := ⟨_, rfl⟩
      rw [hs] at hi hcat ⊢
      obtain ⟨d, hd⟩ : ∃ d, (⟨#[dgb (n % 10)]⟩ : ByteArray) = d := ⟨_, rfl⟩
      rw [hd] at hcat hsl ⊢
      clear ih hs hd e
      go_enter Tryd.func14, Tryd.ntmps14
      go_wp2_with (first | (go_at_call 14; refine hi.mono ?_; rintro e w' ⟨rfl, rfl⟩))
      go_ret
      exact ⟨rfl, rfl⟩
/-- The digits as runes. -/
def rn (l : List UInt8) : List Int := l.map fun b => (b.toNat : Int)
theorem rn_app (a b : List UInt8) : rn (a ++ b) = rn a ++ rn b := List.map_append
/-- A row of decimal digits. -/
def Dec (l : List UInt8) : Prop := ∀ b ∈ l, 48 ≤ b.toNat ∧ b.toNat ≤ 57
theorem Dec.app {a b : List UInt8} (ha : Dec a) (hb : Dec b) : Dec (a ++ b) := by
  intro x hx; rcases List.mem_append.1 hx with h | h; exact ha x h; exact hb x h
theorem dec_dgb {d : Nat} (h : d ≤ 9) : Dec [dgb d] := by
  intro x hx; rw [List.mem_singleton.1 hx, dgb_nat d h]; omega
theorem dec_dcl : ∀ k n, Dec (dcl k n)
  | 0, n => dec_dgb (by omega)
  | k + 1, n => by
    show Dec (if n ≤ 9 then [dgb n] else dcl k (n / 10) ++ [dgb (n % 10)])
    split
    · exact dec_dgb (by assumption)
    · exact (dec_dcl k (n / 10)).app (dec_dgb (by omega))
theorem dcl_ne (k n : Nat) : dcl k n ≠ [] := by
  cases k with
  | zero => simp [dcl]
  | succ k => show (if n ≤ 9 then [dgb n] else dcl k (n / 10) ++ [dgb (n % 10)]) ≠ []; split <;> simp
theorem hexv_dec {x : Int} (h0 : 48 ≤ x) (h1 : x ≤ 57) : hexv x = x - 48 := by
  unfold hexv dig; rw [if_pos (by simp; omega)]
theorem cap_dcl : ∀ k n, n < 10 ^ (k + 1) → cap 10 (rn (dcl k n)) = min (n : Int) 4294967296
  | 0, n, h => by
    have h9 : n ≤ 9 := by omega
    rw [dcl_small 0 n h9]
    have e : cap 10 (rn [dgb n]) = min (0 * 10 + hexv ((dgb n).toNat : Int)) 4294967296 := rfl
    rw [e, dgb_nat n h9, hexv_dec (by omega) (by omega)]
    congr 1; omega
  | k + 1, n, h => by
    by_cases h9 : n ≤ 9
    · rw [dcl_small (k + 1) n h9]
      have e : cap 10 (rn [dgb n]) = min (0 * 10 + hexv ((dgb n).toNat : Int)) 4294967296 := rfl
      rw [e, dgb_nat n h9, hexv_dec (by omega) (by omega)]
      congr 1; omega
    · have e : dcl (k + 1) n = dcl k (n / 10) ++ [dgb (n % 10)] := by show (if n ≤ 9 then _ else _) = _; rw [if_neg h9]
      have hi := cap_dcl k (n / 10) (by rw [Nat.pow_succ] at h; omega)
      rw [e, rn_app]
      show cap 10 (rn (dcl k (n / 10)) ++ [((dgb (n % 10)).toNat : Int)]) = _
      rw [cap_snoc, hi, dgb_nat _ (by omega), hexv_dec (by omega) (by omega)]
      omega
theorem tw_all (p : Int → Bool) : ∀ (l : List Int) (t : List Int), (∀ x ∈ l, p x = true) → p (hd t) = false → t ≠ [] → (l ++ t).takeWhile p = l
  | [], t, _, h, hn => by
    cases t with
    | nil => exact absurd rfl hn
    | cons a t => rw [List.nil_append, List.takeWhile_cons, if_neg (by simpa [hd] using h)]
  | a :: l, t, hl, h, hn => by
    rw [List.cons_append, List.takeWhile_cons, if_pos (hl a (by simp)), tw_all p l t (fun x hx => hl x (by simp [hx])) h hn]
/-- A decimal number at the head: its step. -/
theorem step_dec {l : List UInt8} {t : List Int} {ln c : Int} (hl : Dec l) (hne : l ≠ []) (ht : isd 10 (hd t) = false) (hn : t ≠ []) (hx : hd t ≠ 120) :
    stepO (rn l ++ t) ln c = if letter (hd t) then errO 3 ln (c + l.length) else if 4294967295 < cap 10 (rn l) then errO 6 ln c else okO l.length [⟨2, txt [], cap 10 (rn l), ln, c⟩] := by
  obtain ⟨b, l', rfl⟩ := List.exists_cons_of_ne_nil hne
  have hb := hl b (by simp)
  have h1 : hd (rn (b :: l') ++ t) = (b.toNat : Int) := rfl
  have hnum : stepO (rn (b :: l') ++ t) ln c = numO (rn (b :: l') ++ t) ln c := by
    unfold stepO
    rw [h1, if_neg (by unfold blank; simp; omega), if_neg (by omega), if_neg (by omega), if_neg (by unfold letter; simp; omega), if_pos (by unfold dig; simp; omega)]
  have hall : ∀ x ∈ rn (b :: l'), isd 10 x = true := by
    intro x hx
    obtain ⟨y, hy, rfl⟩ := List.mem_map.1 hx
    have := hl y hy
    unfold isd
    rw [hexv_dec (by omega) (by omega)]
    simp; omega
  have hbase : base (rn (b :: l') ++ t) = 10 := by
    unfold base
    rw [if_neg]
    rintro ⟨-, h2, -⟩
    cases l' with
    | nil => exact hx h2
    | cons b2 l2 =>
      have h3 : hd ((rn (b :: b2 :: l2) ++ t).drop 1) = (b2.toNat : Int) := rfl
      have := hl b2 (by simp)
      rw [h3] at h2; omega
  have hp : pre (rn (b :: l') ++ t) = 0 := by unfold pre; rw [if_neg (by rw [hbase]; decide)]
  have hd' : digs (base (rn (b :: l') ++ t)) ((rn (b :: l') ++ t).drop (pre (rn (b :: l') ++ t))) = rn (b :: l') := by
    rw [hbase, hp, List.drop_zero]
    exact tw_all _ _ _ hall ht hn
  have hlen : numLen (rn (b :: l') ++ t) = (b :: l').length := by unfold numLen; rw [hd', hp, Nat.zero_add]; unfold rn; rw [List.length_map]
  have hval : numVal (rn (b :: l') ++ t) = cap 10 (rn (b :: l')) := by unfold numVal; rw [hd', hbase]
  rw [hnum]
  unfold numO
  rw [hlen, hval]
  have hdrop : (rn (b :: l') ++ t).drop (b :: l').length = t := by
    have : (rn (b :: l')).length = (b :: l').length := by unfold rn; rw [List.length_map]
    rw [← this, List.drop_left]
  rw [hdrop]
end Go.Proofs.YtkgapellgfbdnaaDoor.Lex
