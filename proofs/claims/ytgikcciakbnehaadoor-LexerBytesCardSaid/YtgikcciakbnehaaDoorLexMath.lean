
/-
  Package lexer, plain: the runes of a text, and what its tokens are.
-/
import Derived.Lib.MapLaws
import Derived.Laws.Cover4
import Derived.Laws.Runes
set_option maxRecDepth 100000
namespace Go.Proofs.YtgikcciakbnehaaDoor.Lex
open Go
/-- The runes of a text; behind them why there is none any more: -1 the end, -2 bytes that are none. -/
def rsF : Nat → List UInt8 → List Int
  | 0, _ => [-1]
  | f + 1, l => if l = [] then [-1] else if (Lib.decodeL l).1 = 65533 ∧ (Lib.decodeL l).2 = 1 then [-2] else ((Lib.decodeL l).1 : Int) :: rsF f (l.drop (Lib.decodeL l).2)
def rs (l : List UInt8) : List Int := rsF l.length l
theorem rsF_nil : ∀ f, rsF f [] = [-1]
  | 0 => rfl
  | f + 1 => by simp [rsF]
theorem rsF_enough : ∀ (f g : Nat) (l : List UInt8), l.length ≤ f → l.length ≤ g → rsF f l = rsF g l
  | 0, g, l, hf, _ => by
    obtain rfl := List.eq_nil_of_length_eq_zero (Nat.le_zero.1 hf)
    rw [rsF_nil, rsF_nil]
  | f + 1, 0, l, _, hg => by
    obtain rfl := List.eq_nil_of_length_eq_zero (Nat.le_zero.1 hg)
    rw [rsF_nil, rsF_nil]
  | f + 1, g + 1, l, hf, hg => by
    have hw := Lib.decodeL_width l
    unfold rsF
    split
    · rfl
    · split
      · rfl
      · rename_i h1 h2
        have hl : 0 < l.length := List.length_pos_iff.2 h1
        rw [rsF_enough f g (l.drop (Lib.decodeL l).2) (by rw [List.length_drop]; omega) (by rw [List.length_drop]; omega)]
theorem rs_nil : rs [] = [-1] := rfl
theorem rs_bad {l : List UInt8} (h : l ≠ []) (hb : (Lib.decodeL l).1 = 65533 ∧ (Lib.decodeL l).2 = 1) : rs l = [-2] := by
  have hl : 0 < l.length := List.length_pos_iff.2 h
  unfold rs
  rw [rsF_enough l.length (l.length + 1) l (Nat.le_refl _) (by omega)]
  unfold rsF
  rw [if_neg h, if_pos hb]
theorem rs_ok {l : List UInt8} (h : l ≠ []) (hb : ¬ ((Lib.decodeL l).1 = 65533 ∧ (Lib.decodeL l).2 = 1)) : rs l = ((Lib.decodeL l).1 : Int) :: rs (l.drop (Lib.decodeL l).2) := by
  have hl : 0 < l.length := List.length_pos_iff.2 h
  have hw := Lib.decodeL_width l
  show rsF _ _ = _
  rw [rsF_enough l.length (l.length + 1) l (Nat.le_refl _) (by omega)]
  unfold rsF
  rw [if_neg h, if_neg hb]
  unfold rs
  rw [rsF_enough l.length (l.drop (Lib.decodeL l).2).length _ (by rw [List.length_drop]; omega) (Nat.le_refl _)]
/-- The same, one of three. -/
theorem rs_cases (l : List UInt8) : (l = [] ∧ rs l = [-1]) ∨ (l ≠ [] ∧ ((Lib.decodeL l).1 = 65533 ∧ (Lib.decodeL l).2 = 1) ∧ rs l = [-2]) ∨
    (l ≠ [] ∧ ¬ ((Lib.decodeL l).1 = 65533 ∧ (Lib.decodeL l).2 = 1) ∧ rs l = ((Lib.decodeL l).1 : Int) :: rs (l.drop (Lib.decodeL l).2)) := by
  by_cases h : l = []
  · exact .inl ⟨h, by rw [h]; rfl⟩
  · by_cases hb : (Lib.decodeL l).1 = 65533 ∧ (Lib.decodeL l).2 = 1
    · exact .inr (.inl ⟨h, hb, rs_bad h hb⟩)
    · exact .inr (.inr ⟨h, hb, rs_ok h hb⟩)
/-- What a row of runes is: numbers of runes, and behind them -1 or -2. -/
def rune (r : Int) : Prop := 0 ≤ r ∧ r ≤ 1114111 ∧ (r < 55296 ∨ 57343 < r)
inductive Good : List Int → Prop where
  | fin : Good [-1]
  | bad : Good [-2]
  | cons (r : Int) (L : List Int) (h : rune r) (hL : Good L) : Good (r :: L)
theorem decodeL_rune' (l : List UInt8) : rune ((Lib.decodeL l).1 : Int) := by
  have := Lib.decodeN_shape l.length (l.getD 0 0).toNat (l.getD 1 0).toNat (l.getD 2 0).toNat (l.getD 3 0).toNat
  rw [← Lib.decodeL_N] at this
  have k0 := (l.getD 0 0).toNat_lt
  unfold rune
  rcases this with ⟨c, e⟩ | ⟨c1, c2, c3, cv, e⟩ | ⟨c1, c2, c3, c4, cv, cs, e⟩ | ⟨c1, c2, c3, c4, c5, cv, cw, e⟩ | e
  all_goals (rw [e]; dsimp only; omega)
theorem decodeL_le (l : List UInt8) (h : l ≠ []) : (Lib.decodeL l).2 ≤ l.length := by
  have hl : 0 < l.length := List.length_pos_iff.2 h
  have := Lib.decodeN_shape l.length (l.getD 0 0).toNat (l.getD 1 0).toNat (l.getD 2 0).toNat (l.getD 3 0).toNat
  rw [← Lib.decodeL_N] at this
  rcases this with ⟨c, e⟩ | ⟨c1, c2, c3, cv, e⟩ | ⟨c1, c2, c3, c4, cv, cs, e⟩ | ⟨c1, c2, c3, c4, c5, cv, cw, e⟩ | e
  all_goals (rw [e]; dsimp only; omega)
theorem decodeL_le4 (l : List UInt8) : (Lib.decodeL l).2 ≤ 4 := by
  have := Lib.decodeN_shape l.length (l.getD 0 0).toNat (l.getD 1 0).toNat (l.getD 2 0).toNat (l.getD 3 0).toNat
  rw [← Lib.decodeL_N] at this
  rcases this with ⟨c, e⟩ | ⟨c1, c2, c3, cv, e⟩ | ⟨c1, c2, c3, c4, cv, cs, e⟩ | ⟨c1, c2, c3, c4, c5, cv, cw, e⟩ | e
  all_goals (rw [e]; dsimp only; omega)
theorem rs_good : ∀ (n : Nat) (l : List UInt8), l.length ≤ n → Good (rs l) := by
  intro n
  induction n with
  | zero => intro l h; obtain rfl := List.eq_nil_of_length_eq_zero (Nat.le_zero.1 h); exact .fin
  | succ n ih =>
    intro l h
    rcases rs_cases l with ⟨_, e⟩ | ⟨_, _, e⟩ | ⟨hne, _, e⟩
    · rw [e]; exact .fin
    · rw [e]; exact .bad
    · rw [e]
      have := Lib.decodeL_width l
      have hl : 0 < l.length := List.length_pos_iff.2 hne
      exact .cons _ _ (decodeL_rune' l) (ih _ (by rw [List.length_drop]; omega))
theorem good (l : List UInt8) : Good (rs l) := rs_good _ l (Nat.le_refl _)
theorem rs_length : ∀ (n : Nat) (l : List UInt8), l.length ≤ n → (rs l).length ≤ l.length + 1 := by
  intro n
  induction n with
  | zero => intro l h; obtain rfl := List.eq_nil_of_length_eq_zero (Nat.le_zero.1 h); simp [rs_nil]
  | succ n ih =>
    intro l h
    rcases rs_cases l with ⟨_, e⟩ | ⟨_, _, e⟩ | ⟨hne, _, e⟩
    · rw [e]; simp
    · rw [e]; simp
    · have h1 := Lib.decodeL_width l
      have h2 := decodeL_le l hne
      have hl : 0 < l.length := List.length_pos_iff.2 hne
      have := ih (l.drop (Lib.decodeL l).2) (by rw [List.length_drop]; omega)
      rw [e, List.length_cons]
      rw [List.length_drop] at this
      omega
theorem rs_len (l : List UInt8) : (rs l).length ≤ l.length + 1 := rs_length _ l (Nat.le_refl _)
/-- The rune at the head: -1 where there is none. -/
def hd (R : List Int) : Int := R.headD (-1)
theorem Good.pos {L : List Int} (h : Good L) : 0 < L.length := by cases h <;> simp
theorem Good.drop {L : List Int} (h : Good L) : ∀ k, k < L.length → Good (L.drop k) := by
  induction h with
  | fin => intro k hk; obtain rfl : k = 0 := by simpa using hk
           exact .fin
  | bad => intro k hk; obtain rfl : k = 0 := by simpa using hk
           exact .bad
  | cons r L h hL ih =>
    intro k hk
    cases k with
    | zero => exact .cons r L h hL
    | succ k => exact ih k (by simpa using hk)
/-- Where the head is a rune there is more behind it. -/
theorem Good.more {L : List Int} (h : Good L) (k : Nat) (hk : k < L.length) (h0 : 0 ≤ hd (L.drop k)) : k + 1 < L.length := by
  have hg := h.drop k hk
  cases hd' : L.drop k with
  | nil => have := congrArg List.length hd'; simp at this; omega
  | cons r M =>
    rw [hd'] at hg h0
    cases hg with
    | fin => simp [hd] at h0
    | bad => simp [hd] at h0
    | cons r L hr hL =>
      have h1 := hL.pos
      have := congrArg List.length hd'
      simp at this
      omega
theorem Good.hd_bd {L : List Int} (h : Good L) : -2 ≤ hd L ∧ hd L ≤ 1114111 := by
  cases h with
  | fin => decide
  | bad => decide
  | cons r L hr hL => unfold rune at hr; simp only [hd, List.headD_cons]; omega
/-- Letters, digits, blanks, signs. -/
def blank (r : Int) : Bool := r == 32 || r == 9 || r == 13
def letter (r : Int) : Bool := decide (97 ≤ r) && decide (r ≤ 122) || decide (65 ≤ r) && decide (r ≤ 90) || r == 95 || r == 46 || decide (128 ≤ r)
def dig (r : Int) : Bool := decide (48 ≤ r) && decide (r ≤ 57)
def ld (r : Int) : Bool := letter r || dig r
def sgn (r : Int) : Bool := r == 44 || r == 58 || r == 45 || r == 43 || r == 40 || r == 41 || r == 61
/-- A digit's value, in sixteens; -1: it is none. -/
def hexv (r : Int) : Int := if dig r then r - 48 else if 97 ≤ r ∧ r ≤ 102 then r - 87 else if 65 ≤ r ∧ r ≤ 70 then r - 55 else -1
def isd (b r : Int) : Bool := decide (0 ≤ hexv r) && decide (hexv r < b)
/-- The number of digits, as far as it may go. -/
def cap (b : Int) (ds : List Int) : Int := ds.foldl (fun v r => min (v * b + hexv r) 4294967296) 0
structure Tok where
  kind : Int
  text : ByteArray
  n : Int
  line : Int
  col : Int
/-- Runes as bytes. -/
def txt (ns : List Int) : ByteArray := ⟨(ns.flatMap Lib.encodeRune).toArray⟩
theorem encode_eq (r : Int) : Utf8.encode r = ⟨(Lib.encodeRune r).toArray⟩ := by
  unfold Utf8.encode Lib.encodeRune Lib.encodeRuneZ
  by_cases h1 : 0 ≤ r ∧ r ≤ 127
  · have hv : Utf8.valid r = true := by unfold Utf8.valid; simp; omega
    have h2 : r.toNat < 128 := by omega
    simp [h1, hv, h2]
  · by_cases h2 : 128 ≤ r ∧ r ≤ 2047
    · have hv : Utf8.valid r = true := by unfold Utf8.valid; simp; omega
      have a1 : ¬ r.toNat < 128 := by omega
      have a2 : r.toNat < 2048 := by omega
      have e1 : (192 + r / 64).toNat = 192 + r.toNat / 64 := by omega
      have e2 : (128 + r % 64).toNat = 128 + r.toNat % 64 := by omega
      simp [h1, h2, hv, a1, a2, e1, e2, Nat.toUInt8]
    · by_cases h3 : (2048 ≤ r ∧ r < 55296) ∨ (57343 < r ∧ r ≤ 65535)
      · have hv : Utf8.valid r = true := by unfold Utf8.valid; simp; omega
        have a1 : ¬ r.toNat < 128 := by omega
        have a2 : ¬ r.toNat < 2048 := by omega
        have a3 : r.toNat < 65536 := by omega
        have e1 : (224 + r / 4096).toNat = 224 + r.toNat / 4096 := by omega
        have e2 : (128 + r / 64 % 64).toNat = 128 + r.toNat / 64 % 64 := by omega
        have e3 : (128 + r % 64).toNat = 128 + r.toNat % 64 := by omega
        simp [h1, h2, h3, hv, a1, a2, a3, e1, e2, e3, Nat.toUInt8]
      · by_cases h4 : 65536 ≤ r ∧ r ≤ 1114111
        · have hv : Utf8.valid r = true := by unfold Utf8.valid; simp; omega
          have a1 : ¬ r.toNat < 128 := by omega
          have a2 : ¬ r.toNat < 2048 := by omega
          have a3 : ¬ r.toNat < 65536 := by omega
          have e1 : (240 + r / 262144).toNat = 240 + r.toNat / 262144 := by omega
          have e0 : (128 + r / 4096 % 64).toNat = 128 + r.toNat / 4096 % 64 := by omega
          have e2 : (128 + r / 64 % 64).toNat = 128 + r.toNat / 64 % 64 := by omega
          have e3 : (128 + r % 64).toNat = 128 + r.toNat % 64 := by omega
          simp [h1, h2, h3, h4, hv, a1, a2, a3, e0, e1, e2, e3, Nat.toUInt8]
        · have hv : Utf8.valid r = false := by
            unfold Utf8.valid
            rw [Bool.or_eq_false_iff, Bool.and_eq_false_iff, Bool.and_eq_false_iff]
            simp only [decide_eq_false_iff_not]
            omega
          rw [if_neg h1, if_neg h2, if_neg h3, if_neg h4, hv]
          simp [Utf8.runeError, Nat.toUInt8]
theorem txt_nil : txt [] = ⟨#[]⟩ := rfl
theorem txt_append (a b : List Int) : txt (a ++ b) = txt a ++ txt b := by
  have e : (txt (a ++ b)).data = (txt a ++ txt b).data := by simp [txt]
  cases h1 : txt (a ++ b); cases h2 : txt a ++ txt b
  rw [h1, h2] at e
  congr 1
theorem runesBytes_txt (ns : List Int) : runesBytes ns = txt ns := by
  have h : ∀ (ns : List Int) (s : ByteArray), ns.foldl (fun r n => r ++ Utf8.encode n) s = s ++ txt ns := by
    intro ns
    induction ns with
    | nil => intro s; show s = s ++ _; rw [txt_nil]; have := ByteArray.append_empty (b := s); exact this.symm
    | cons n ns ih =>
      intro s
      rw [List.foldl_cons, ih, show n :: ns = [n] ++ ns from rfl, txt_append, ← ByteArray.append_assoc, encode_eq]
      simp [txt]
  unfold runesBytes
  rw [h]
  exact ByteArray.empty_append
/-- What a step tells: an error and its place; how many runes it passes, whether it ends the line; the token. -/
structure Out where
  e : Int
  el : Int
  ec : Int
  k : Nat
  nl : Bool
  ts : List Tok
def okO (k : Nat) (ts : List Tok) : Out := ⟨0, 0, 0, k, false, ts⟩
def errO (e el ec : Int) : Out := ⟨e, el, ec, 0, false, []⟩
/-- An error of what began at l, fc: here, where there are bytes that are no rune. -/
def wrong (T : List Int) (l c fl fc : Int) : Out := if hd T = -2 then errO 4 l c else errO 3 fl fc
def nameLen (R : List Int) : Nat := (R.takeWhile ld).length
def nameO (R : List Int) (l c : Int) : Out := if 40 < nameLen R then errO 2 l c else okO (nameLen R) [⟨1, txt (R.take (nameLen R)), 0, l, c⟩]
def base (R : List Int) : Int := if hd R = 48 ∧ hd (R.drop 1) = 120 ∧ 0 ≤ hexv (hd (R.drop 2)) then 16 else 10
def pre (R : List Int) : Nat := if base R = 16 then 2 else 0
def digs (b : Int) (T : List Int) : List Int := T.takeWhile (isd b)
def numLen (R : List Int) : Nat := pre R + (digs (base R) (R.drop (pre R))).length
def numVal (R : List Int) : Int := cap (base R) (digs (base R) (R.drop (pre R)))
def numO (R : List Int) (l c : Int) : Out :=
  if letter (hd (R.drop (numLen R))) then errO 3 l (c + numLen R) else if 4294967295 < numVal R then errO 6 l c else okO (numLen R) [⟨2, txt [], numVal R, l, c⟩]
/-- A rune between quotes: what it means, how many runes that takes, whether it may be. -/
def meant (q : Int) (T : List Int) : Int × Nat × Bool :=
  if hd T = -1 ∨ hd T = -2 ∨ hd T = 10 ∨ hd T = q then (0, 0, false)
  else if hd T ≠ 92 then (hd T, 1, true)
  else if hd (T.drop 1) = 92 ∨ hd (T.drop 1) = q then (hd (T.drop 1), 2, true)
  else if hd (T.drop 1) = 110 then (10, 2, true)
  else (0, 1, false)
def charO (R : List Int) (l c : Int) : Out :=
  let m := meant 39 (R.drop 1)
  if m.2.2 = false then wrong (R.drop (1 + m.2.1)) l (c + 1 + m.2.1) l c
  else if hd (R.drop (1 + m.2.1)) ≠ 39 then wrong (R.drop (1 + m.2.1)) l (c + 1 + m.2.1) l c
  else okO (2 + m.2.1) [⟨2, txt [], m.1, l, c⟩]
/-- What stands in a string from place k on: the runes, where it ends, whether it ends well. -/
def strGo : Nat → List Int → Nat → List Int → List Int × Nat × Bool
  | 0, _, k, ns => (ns, k, false)
  | f + 1, R, k, ns =>
    if hd (R.drop k) = 34 then (ns, k + 1, true)
    else if (meant 34 (R.drop k)).2.2 then strGo f R (k + (meant 34 (R.drop k)).2.1) (ns ++ [(meant 34 (R.drop k)).1])
    else (ns, k + (meant 34 (R.drop k)).2.1, false)
def strO (R : List Int) (l c : Int) : Out :=
  let m := strGo R.length R 1 []
  if m.2.2 = false then wrong (R.drop m.2.1) l (c + m.2.1) l c else okO m.2.1 [⟨3, txt m.1, 0, l, c⟩]
def remLen (R : List Int) : Nat := (R.takeWhile (fun r => decide (r ≠ 10) && decide (0 ≤ r))).length
/-- One step. -/
def stepO (R : List Int) (l c : Int) : Out :=
  if blank (hd R) then okO 1 []
  else if hd R = 59 then okO (remLen R) []
  else if hd R = 10 then (if 8000 < l then errO 2 l c else ⟨0, 0, 0, 1, true, [⟨5, txt [], 0, l, c⟩]⟩)
  else if letter (hd R) then nameO R l c
  else if dig (hd R) then numO R l c
  else if hd R = 39 then charO R l c
  else if hd R = 34 then strO R l c
  else if sgn (hd R) then okO 1 [⟨4, txt [hd R], 0, l, c⟩]
  else wrong R l c l c
def Out.line (o : Out) (l : Int) : Int := if o.nl then l + 1 else l
def Out.col (o : Out) (c : Int) : Int := if o.nl then 1 else c + o.k
/-- All of it: the tokens; or where, and why not. -/
def goO : Nat → List Int → Int → Int → List Tok → List Tok × Int × Int × Int
  | 0, _, _, _, _ => ([], 0, 0, 0)
  | f + 1, R, l, c, ts =>
    if hd R = -1 then (ts ++ [⟨6, txt [], 0, l, c⟩], 0, 0, 0)
    else if (stepO R l c).e ≠ 0 then ([], (stepO R l c).el, (stepO R l c).ec, (stepO R l c).e)
    else goO f (R.drop (stepO R l c).k) ((stepO R l c).line l) ((stepO R l c).col c) (ts ++ (stepO R l c).ts)
def lexS (s : ByteArray) : List Tok × Int × Int × Int :=
  if 65536 < s.size then ([], 1, 1, 2) else goO (rs s.data.toList).length (rs s.data.toList) 1 1 []
end Go.Proofs.YtgikcciakbnehaaDoor.Lex
