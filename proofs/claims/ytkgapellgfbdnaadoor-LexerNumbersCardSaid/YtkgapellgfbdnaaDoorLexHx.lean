
/-
  Hexadecimal digits: the document's own Hex; what their tokens are.
-/
import Derived.Test.YtkgapellgfbdnaaDoorLexNo
set_option maxRecDepth 100000
namespace Go.Proofs.YtkgapellgfbdnaaDoor.Lex
open Go.Proofs.YtkgapellgfbdnaaDoor Go.Proofs.YtkgapellgfbdnaaDoor.Ser
open Go.ChangeShapes Go.WideShapes Go.ChangeAt Go.RowKit
theorem i64_and15 (n : Int) : bits .and .i64 n 15 = n % 16 := by
  have h15 : (BitVec.ofInt 64 15).toNat = 2 ^ 4 - 1 := by decide
  have e : (BitVec.ofInt 64 n &&& BitVec.ofInt 64 15).toNat = (n % ((2 ^ 64 : Nat) : Int)).toNat % 2 ^ 4 := by
    rw [BitVec.toNat_and, h15, Nat.and_two_pow_sub_one_eq_mod, BitVec.toNat_ofInt]
  have h : bits .and .i64 n 15 = IntKind.i64.wrap (((BitVec.ofInt 64 n &&& BitVec.ofInt 64 15).toNat : Nat) : Int) := rfl
  rw [h, e, IntKind.wrap_i64]
  omega
/-- A hexadecimal digit's byte. -/
def hxb (d : Nat) : UInt8 := UInt8.ofNat (if d ≤ 9 then 48 + d else 87 + d)
theorem hxb_nat (d : Nat) (h : d ≤ 15) : (hxb d).toNat = if d ≤ 9 then 48 + d else 87 + d := by
  unfold hxb; split <;> (simp; omega)
theorem hxb_val (d : Nat) (h : d ≤ 15) : hexv ((hxb d).toNat : Int) = d ∧ (hxb d).toNat < 128 := by
  rcases (by omega : d = 0 ∨ d = 1 ∨ d = 2 ∨ d = 3 ∨ d = 4 ∨ d = 5 ∨ d = 6 ∨ d = 7 ∨ d = 8 ∨ d = 9 ∨ d = 10 ∨ d = 11 ∨ d = 12 ∨ d = 13 ∨ d = 14 ∨ d = 15) with rfl | rfl | rfl | rfl | rfl | rfl | rfl | rfl | rfl | rfl | rfl | rfl | rfl | rfl | rfl | rfl <;> decide
/-- So many hexadecimal digits of a number, the lowest ones. -/
def hx : Nat → Nat → List UInt8
  | 0, _ => []
  | k + 1, n => hx k (n / 16) ++ [hxb (n % 16)]
theorem hx_len : ∀ k n, (hx k n).length = k
  | 0, n => rfl
  | k + 1, n => by show (hx k (n / 16) ++ [hxb (n % 16)]).length = _; rw [List.length_append, hx_len k]; rfl
theorem hx_all : ∀ k n, ∀ b ∈ hx k n, ∃ d, d ≤ 15 ∧ b = hxb d
  | 0, n, b, h => by cases h
  | k + 1, n, b, h => by
    rcases List.mem_append.1 h with h | h
    · exact hx_all k _ b h
    · exact ⟨n % 16, by omega, List.mem_singleton.1 h⟩
theorem cap_nil (b : Int) : cap b [] = 0 := rfl
theorem cap_hx : ∀ k n, n < 16 ^ k → cap 16 (rn (hx k n)) = min (n : Int) 4294967296
  | 0, n, h => by
    obtain rfl : n = 0 := by simp at h; omega
    rfl
  | k + 1, n, h => by
    have hi := cap_hx k (n / 16) (by rw [Nat.pow_succ] at h; omega)
    show cap 16 (rn (hx k (n / 16) ++ [hxb (n % 16)])) = _
    rw [rn_app]
    show cap 16 (rn (hx k (n / 16)) ++ [((hxb (n % 16)).toNat : Int)]) = _
    rw [cap_snoc, hi, (hxb_val _ (by omega)).1]
    omega
/-- Noughts ahead change nothing. -/
theorem cap_zeros (b : Int) (m : Nat) (l : List UInt8) : cap b (rn (List.replicate m 48 ++ l)) = cap b (rn l) := by
  induction m with
  | zero => rfl
  | succ m ih =>
    rw [← ih]
    show (((48 : UInt8).toNat : Int) :: rn (List.replicate m 48 ++ l)).foldl (fun v r => min (v * b + hexv r) 4294967296) 0 = (rn (List.replicate m 48 ++ l)).foldl (fun v r => min (v * b + hexv r) 4294967296) 0
    rw [List.foldl_cons]
    have e : min (0 * b + hexv ((48 : UInt8).toNat : Int)) 4294967296 = 0 := by
      have : hexv ((48 : UInt8).toNat : Int) = 0 := by decide
      rw [this, Int.zero_mul]; decide
    rw [e]
/-- A hexadecimal number, and nothing behind. -/
theorem step_hex {l : List UInt8} {ln c : Int} (hl : ∀ b ∈ l, isd 16 (b.toNat : Int) = true) (hne : l ≠ []) :
    stepO (48 :: 120 :: (rn l ++ [-1])) ln c = if 4294967295 < cap 16 (rn l) then errO 6 ln c else okO (2 + l.length) [⟨2, txt [], cap 16 (rn l), ln, c⟩] := by
  obtain ⟨b, l', rfl⟩ := List.exists_cons_of_ne_nil hne
  have hb := hl b (by simp)
  have hb0 : 0 ≤ hexv (b.toNat : Int) := by unfold isd at hb; simp at hb; exact hb.1
  obtain ⟨R, hR⟩ : ∃ R, (48 :: 120 :: (rn (b :: l') ++ [-1]) : List Int) = R := ⟨_, rfl⟩
  have h1 : hd R = 48 := by rw [← hR]; rfl
  have hnum : stepO R ln c = numO R ln c := by
    unfold stepO
    rw [h1, if_neg (by decide), if_neg (by decide), if_neg (by decide), if_neg (by decide), if_pos (by decide)]
  have hbase : base R = 16 := by
    unfold base
    rw [if_pos]
    refine ⟨h1, by rw [← hR]; rfl, ?_⟩
    rw [← hR]; exact hb0
  have hp : pre R = 2 := by unfold pre; rw [if_pos hbase]
  have hall : ∀ x ∈ rn (b :: l'), isd 16 x = true := by
    intro x hx
    obtain ⟨y, hy, rfl⟩ := List.mem_map.1 hx
    exact hl y hy
  have hd' : digs (base R) (R.drop (pre R)) = rn (b :: l') := by
    rw [hbase, hp, ← hR]
    exact tw_all _ _ [-1] hall (by decide) (by simp)
  have hrl : (rn (b :: l')).length = (b :: l').length := by unfold rn; rw [List.length_map]
  have hlen : numLen R = 2 + (b :: l').length := by unfold numLen; rw [hd', hp, hrl]
  have hval : numVal R = cap 16 (rn (b :: l')) := by unfold numVal; rw [hd', hbase]
  rw [hR, hnum]
  unfold numO
  rw [hlen, hval]
  have hdrop : R.drop (2 + (b :: l').length) = [-1] := by
    rw [← hR, Nat.add_comm]
    show (rn (b :: l') ++ [-1]).drop (b :: l').length = [-1]
    rw [← hrl, List.drop_left]
  rw [hdrop, if_neg (by decide)]
theorem sixteen_run (d : Int) (h0 : 0 ≤ d) (h1 : d ≤ 15) (w : World) : Sem.run Tryd.prog (Instr.slice 9 (.string ⟨#[48, 49, 50, 51, 52, 53, 54, 55, 56, 57, 97, 98, 99, 100, 101, 102]⟩) (some (.int .i64 d)) (some (.int .i64 (d + 1))) none) w = .ok (.string ⟨#[hxb d.toNat]⟩) w := by
  rcases (by omega : d = 0 ∨ d = 1 ∨ d = 2 ∨ d = 3 ∨ d = 4 ∨ d = 5 ∨ d = 6 ∨ d = 7 ∨ d = 8 ∨ d = 9 ∨ d = 10 ∨ d = 11 ∨ d = 12 ∨ d = 13 ∨ d = 14 ∨ d = 15) with rfl | rfl | rfl | rfl | rfl | rfl | rfl | rfl | rfl | rfl | rfl | rfl | rfl | rfl | rfl | rfl <;> kernel_rfl
def hxs (k n : Nat) : ByteArray := ⟨(hx k n).toArray⟩
theorem hxs_size (k n : Nat) : (hxs k n).size = k := by
  show (hx k n).toArray.size = k
  rw [List.size_toArray, hx_len]
theorem hex_says (n : Nat) (w : World) (hu : n ≤ 2000000000000) : Calls Tryd.prog 15 #[i64 n, i64 11] w fun e w' => e = .returned (.string (hxs 11 n)) ∧ w = w' := by
  have n0 : (0 : Int) ≤ (n : Int) := Int.natCast_nonneg n
  have hu' : (n : Int) ≤ 2000000000000 := by omega
  go_enter Tryd.func15, Tryd.ntmps15
  go_wp2_with fail
  go_loopw [5, 6] (fun sv iv wr => ∃ j : Nat, j ≤ 11 ∧ sv = .string (hxs j (n / 16 ^ (11 - j))) ∧ iv = .int .i64 (40 - 4 * (j : Int)) ∧ w = wr) (fun _ iv _ => (intOf iv + 4).toNat)
  case atStart => exact ⟨0, by omega, rfl, rfl, rfl⟩
  case round =>
    obtain ⟨j, hj, rfl, rfl, rfl⟩ := hrel
    by_cases hlt : j < 11
    · obtain ⟨i, hi⟩ : ∃ i : Int, 40 - 4 * (j : Int) = i := ⟨_, rfl⟩
      have i0 : 0 ≤ i := by omega
      have i1 : i ≤ 40 := by omega
      rw [hi]
      obtain ⟨q, hq⟩ : ∃ q : Nat, n / 16 ^ (10 - j) = q := ⟨_, rfl⟩
      have hsh : (n : Int) / 2 ^ i.toNat = (q : Int) := by
        have e : i.toNat = 4 * (10 - j) := by omega
        rw [e, Int.pow_mul, ← hq]
        norm_cast
      have hd15 : (q : Int) % 16 ≤ 15 := by omega
      have hd0 : 0 ≤ (q : Int) % 16 := by omega
      have hsl := sixteen_run ((q : Int) % 16) hd0 hd15
      have hs1 : hx (j + 1) q = hx j (n / 16 ^ (11 - j)) ++ [hxb (q % 16)] := by
        show hx j (q / 16) ++ _ = _
        rw [← hq, Nat.div_div_eq_div_mul, ← Nat.pow_succ, show (10 - j).succ = 11 - j by omega]
      have hm : ((q : Int) % 16).toNat = q % 16 := by omega
      rw [hm] at hsl
      have hcat : ∀ u : World, (Op.stringOp .add (hxs j (n / 16 ^ (11 - j))) ⟨#[hxb (q % 16)]⟩).run Tryd.prog u = .ok (.string (hxs (j + 1) q)) u := fun u => by
        have e : hxs (j + 1) q = hxs j (n / 16 ^ (11 - j)) ++ ⟨#[hxb (q % 16)]⟩ := by
          unfold hxs; rw [hs1, ← txt_join]
        rw [e]
        exact run_string_add_sum u _ _ (by rw [hxs_size]; have : (⟨#[hxb (q % 16)]⟩ : ByteArray).size = 1 := rfl; omega)
      obtain ⟨s, hs⟩ : ∃ s, hxs j (n / 16 ^ (11 - j)) = s := ⟨_, rfl⟩
      rw [hs] at hcat ⊢
      obtain ⟨s2, hs2⟩ : ∃ s2, hxs (j + 1) q = s2 := ⟨_, rfl⟩
      rw [hs2] at hcat
      obtain ⟨d, hd⟩ : ∃ d, (⟨#[hxb (q % 16)]⟩ : ByteArray) = d := ⟨_, rfl⟩
      rw [hd] at hcat hsl
      have ha15 : bits .and .i64 (q : Int) 15 = (q : Int) % 16 := i64_and15 q
      obtain ⟨m, hmm⟩ : ∃ m, (q : Int) % 16 = m := ⟨_, rfl⟩
      rw [hmm] at ha15 hd0 hd15 hsl
      go_wp2_with fail
      go_roundw
      case rel => exact ⟨j + 1, by omega, by rw [show 11 - (j + 1) = 10 - j by omega, hq, hs2], by go_num, trivial⟩
      case measure => simp [intOf]; omega
    · obtain rfl : j = 11 := by omega
      rw [show (40 : Int) - 4 * ((11 : Nat) : Int) = -4 by decide]
      have e11 : hxs 11 (n / 16 ^ (11 - 11)) = hxs 11 n := by rw [Nat.sub_self, Nat.pow_zero, Nat.div_one]
      rw [e11]
      go_wp2_with fail
      go_ret
      exact ⟨rfl, rfl⟩
end Go.Proofs.YtkgapellgfbdnaaDoor.Lex
