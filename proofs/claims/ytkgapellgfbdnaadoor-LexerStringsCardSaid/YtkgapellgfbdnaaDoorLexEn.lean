
/-
  Plain: the runes of an encoded text; strings in quotes.
-/
import Derived.Test.YtkgapellgfbdnaaDoorLexLw
set_option maxRecDepth 100000
namespace Go.Proofs.YtkgapellgfbdnaaDoor.Lex
open Go
theorem byte_of (x : Int) (h0 : 0 ≤ x) (h1 : x ≤ 255) : (x.toNat.toUInt8).toNat = x.toNat := by
  show (UInt8.ofNat x.toNat).toNat = _
  simp; omega
theorem dec_enc (r : Int) (h : rune r) (t : List UInt8) : Lib.decodeL (Lib.encodeRune r ++ t) = (r.toNat, (Lib.encodeRune r).length) := by
  unfold rune at h
  obtain ⟨h0, h1, h2⟩ := h
  rw [Lib.decodeL_N]
  by_cases c1 : r ≤ 127
  · have e : Lib.encodeRune r = [r.toNat.toUInt8] := by unfold Lib.encodeRune; rw [Lib.encodeRuneZ_one h0 c1]; rfl
    rw [e]
    simp only [List.cons_append, List.nil_append, List.getD_cons_zero, List.length_cons, List.length_nil]
    unfold Lib.decodeN
    rw [byte_of r h0 (by omega), if_pos (by omega)]
  · by_cases c2 : r ≤ 2047
    · have e : Lib.encodeRune r = [(192 + r / 64).toNat.toUInt8, (128 + r % 64).toNat.toUInt8] := by unfold Lib.encodeRune; rw [Lib.encodeRuneZ_two (by omega) c2]; rfl
      rw [e]
      simp only [List.cons_append, List.nil_append, List.getD_cons_zero, List.getD_cons_succ, List.length_cons, List.length_nil]
      rw [byte_of _ (by omega) (by omega), byte_of _ (by omega) (by omega)]
      unfold Lib.decodeN
      rw [if_neg (by omega), if_pos (by omega), if_pos (by omega)]
      congr 1; omega
    · by_cases c3 : r ≤ 65535
      · have e : Lib.encodeRune r = [(224 + r / 4096).toNat.toUInt8, (128 + r / 64 % 64).toNat.toUInt8, (128 + r % 64).toNat.toUInt8] := by unfold Lib.encodeRune; rw [Lib.encodeRuneZ_three (by omega)]; rfl
        rw [e]
        simp only [List.cons_append, List.nil_append, List.getD_cons_zero, List.getD_cons_succ, List.length_cons, List.length_nil]
        rw [byte_of _ (by omega) (by omega), byte_of _ (by omega) (by omega), byte_of _ (by omega) (by omega)]
        unfold Lib.decodeN
        rw [if_neg (by omega), if_neg (by omega), if_pos (by omega), if_pos (by omega)]
        congr 1; omega
      · have e : Lib.encodeRune r = [(240 + r / 262144).toNat.toUInt8, (128 + r / 4096 % 64).toNat.toUInt8, (128 + r / 64 % 64).toNat.toUInt8, (128 + r % 64).toNat.toUInt8] := by unfold Lib.encodeRune; rw [Lib.encodeRuneZ_four (by omega) h1]; rfl
        rw [e]
        simp only [List.cons_append, List.nil_append, List.getD_cons_zero, List.getD_cons_succ, List.length_cons, List.length_nil]
        rw [byte_of _ (by omega) (by omega), byte_of _ (by omega) (by omega), byte_of _ (by omega) (by omega), byte_of _ (by omega) (by omega)]
        unfold Lib.decodeN
        rw [if_neg (by omega), if_neg (by omega), if_neg (by omega), if_pos (by omega), if_pos (by omega)]
        congr 1; omega
theorem enc_long {r : Int} (h : rune r) (hr : 128 ≤ r) : 2 ≤ (Lib.encodeRune r).length := by
  unfold rune at h
  obtain ⟨h0, h1, h2⟩ := h
  unfold Lib.encodeRune
  rw [List.length_map]
  by_cases c2 : r ≤ 2047
  · rw [Lib.encodeRuneZ_two (by omega) c2]; simp
  · by_cases c3 : r ≤ 65535
    · rw [Lib.encodeRuneZ_three (by omega)]; simp
    · rw [Lib.encodeRuneZ_four (by omega) h1]; simp
theorem enc_ne (r : Int) : Lib.encodeRune r ≠ [] := by
  unfold Lib.encodeRune Lib.encodeRuneZ
  split; simp
  split; simp
  split; simp
  split <;> simp
/-- The runes of an encoded text. -/
theorem rs_txt : ∀ (L : List Int), (∀ r ∈ L, rune r) → rs (L.flatMap Lib.encodeRune) = L ++ [-1]
  | [], _ => rfl
  | r :: L, h => by
    have hr := h r (by simp)
    have hd := dec_enc r hr (L.flatMap Lib.encodeRune)
    rw [List.flatMap_cons, rs_ok (by simp [enc_ne]) (by
      rw [hd]; rintro ⟨e1, e2⟩
      simp only at e1 e2
      have := enc_long hr (by omega)
      omega), hd]
    simp only
    rw [List.drop_left, rs_txt L (fun x hx => h x (by simp [hx]))]
    have : ((r.toNat : Nat) : Int) = r := by unfold rune at hr; omega
    rw [this]
    rfl
/-- A rune as it stands in a string. -/
def esc (r : Int) : List Int := if r = 10 then [92, 110] else if r = 34 ∨ r = 92 then [92, r] else [r]
theorem meant_esc {r : Int} (h : 0 ≤ r) (T : List Int) : meant 34 (esc r ++ T) = (r, (esc r).length, true) := by
  unfold esc
  by_cases h1 : r = 10
  · subst h1; rfl
  · by_cases h2 : r = 34
    · subst h2; rfl
    · by_cases h3 : r = 92
      · subst h3; rfl
      · rw [if_neg h1, if_neg (by omega)]
        have e : hd ([r] ++ T) = r := rfl
        unfold meant
        rw [e, if_neg (by omega), if_pos h3]
        rfl
theorem esc_hd {r : Int} (T : List Int) : hd (esc r ++ T) ≠ 34 := by
  unfold esc
  by_cases h1 : r = 10
  · rw [if_pos h1]; show (92 : Int) ≠ 34; decide
  · rw [if_neg h1]
    by_cases h2 : r = 34 ∨ r = 92
    · rw [if_pos h2]; show (92 : Int) ≠ 34; decide
    · rw [if_neg h2]; show r ≠ 34; omega
theorem strGo_esc : ∀ (L : List Int) (f : Nat) (R : List Int) (k : Nat) (ns T : List Int), (∀ r ∈ L, 0 ≤ r) → R.drop k = L.flatMap esc ++ 34 :: T →
    strGo (L.length + 1 + f) R k ns = (ns ++ L, k + (L.flatMap esc).length + 1, true)
  | [], f, R, k, ns, T, _, hR => by
    have e : hd (R.drop k) = 34 := by rw [hR]; rfl
    show strGo (0 + 1 + f) R k ns = _
    rw [show 0 + 1 + f = f + 1 by omega]
    show (if hd (R.drop k) = 34 then _ else _) = _
    rw [if_pos e, List.append_nil]
    rfl
  | r :: L, f, R, k, ns, T, h, hR => by
    have hr := h r (by simp)
    rw [List.flatMap_cons, List.append_assoc] at hR
    have e : hd (R.drop k) ≠ 34 := by rw [hR]; exact esc_hd _
    have hm : meant 34 (R.drop k) = (r, (esc r).length, true) := by rw [hR]; exact meant_esc hr _
    have hR2 : R.drop (k + (esc r).length) = L.flatMap esc ++ 34 :: T := by rw [← List.drop_drop, hR, List.drop_left]
    rw [List.length_cons, show L.length + 1 + 1 + f = (L.length + 1 + f) + 1 by omega]
    show (if hd (R.drop k) = 34 then _ else if (meant 34 (R.drop k)).2.2 then strGo (L.length + 1 + f) R (k + (meant 34 (R.drop k)).2.1) (ns ++ [(meant 34 (R.drop k)).1]) else _) = _
    rw [if_neg e, hm]
    show strGo (L.length + 1 + f) R (k + (esc r).length) (ns ++ [r]) = _
    rw [strGo_esc L f R (k + (esc r).length) (ns ++ [r]) T (fun x hx => h x (by simp [hx])) hR2, List.flatMap_cons, List.length_append]
    simp
    omega
/-- A string, a blank, and a name of one letter. -/
theorem esc_rune {r : Int} (h : rune r) : ∀ x ∈ esc r, rune x := by
  intro x hx
  unfold esc at hx
  split at hx
  · simp at hx; rcases hx with rfl | rfl <;> (unfold rune; omega)
  · split at hx
    · simp at hx; rcases hx with rfl | rfl
      · unfold rune; omega
      · exact h
    · simp at hx; rw [hx]; exact h
def strR (L : List Int) : List Int := 34 :: (L.flatMap esc ++ [34, 32, 120])
theorem esc_len (L : List Int) : L.length ≤ (L.flatMap esc).length := by
  induction L with
  | nil => exact Nat.le_refl _
  | cons r L ih =>
    rw [List.flatMap_cons, List.length_append, List.length_cons]
    have : 1 ≤ (esc r).length := by unfold esc; split; simp; split <;> simp
    omega
theorem goO_str (L : List Int) (h : ∀ r ∈ L, 0 ≤ r) (f : Nat) :
    goO (f + 4) (strR L ++ [-1]) 1 1 [] = ([⟨3, txt L, 0, 1, 1⟩, ⟨1, txt [120], 0, 1, ((L.flatMap esc).length : Int) + 4⟩, ⟨6, txt [], 0, 1, ((L.flatMap esc).length : Int) + 5⟩], 0, 0, 0) := by
  obtain ⟨R, hR⟩ : ∃ R, strR L ++ [-1] = R := ⟨_, rfl⟩
  obtain ⟨n, hn⟩ : ∃ n, (L.flatMap esc).length = n := ⟨_, rfl⟩
  have hd1 : R.drop 1 = L.flatMap esc ++ 34 :: [32, 120, -1] := by rw [← hR]; unfold strR; simp
  have hlen : R.length = n + 5 := by rw [← hR]; unfold strR; simp [hn]
  have hLn := esc_len L
  have hgo := strGo_esc L (R.length - (L.length + 1)) R 1 [] [32, 120, -1] h hd1
  rw [show L.length + 1 + (R.length - (L.length + 1)) = R.length by omega, hn, List.nil_append] at hgo
  have hh : hd R = 34 := by rw [← hR]; rfl
  have hst : stepO R 1 1 = okO (n + 2) [⟨3, txt L, 0, 1, 1⟩] := by
    unfold stepO
    rw [hh, if_neg (by decide), if_neg (by decide), if_neg (by decide), if_neg (by decide), if_neg (by decide), if_neg (by decide), if_pos rfl]
    unfold strO
    rw [hgo]
    show okO (1 + n + 1) _ = _
    rw [show 1 + n + 1 = n + 2 by omega]
  have hdr : R.drop (n + 2) = [32, 120, -1] := by
    rw [show n + 2 = 1 + n + 1 by omega, ← List.drop_drop, ← List.drop_drop, hd1, ← hn, List.drop_left]; rfl
  rw [hR, show f + 4 = (f + 3) + 1 by omega, go_ok (by rw [hh]; decide) (by rw [hst]; rfl), hst]
  show goO (f + 3) (R.drop (n + 2)) 1 (1 + ((n + 2 : Nat) : Int)) [⟨3, txt L, 0, 1, 1⟩] = _
  rw [hdr]
  have := goO_blanks 1 f 1 (1 + ((n + 2 : Nat) : Int)) [⟨3, txt L, 0, 1, 1⟩]
  have e1 : 1 + ((n + 2 : Nat) : Int) + ((1 : Nat) : Int) = (n : Int) + 4 := by omega
  have e2 : (n : Int) + 4 + 1 = (n : Int) + 5 := by omega
  rw [e1, e2] at this
  rw [hn, show f + 3 = 1 + 2 + f by omega]
  exact this
theorem lex_str (L : List Int) (h : ∀ r ∈ L, rune r) (hl : (txt (strR L)).size ≤ 65536) :
    lexS (txt (strR L)) = ([⟨3, txt L, 0, 1, 1⟩, ⟨1, txt [120], 0, 1, ((L.flatMap esc).length : Int) + 4⟩, ⟨6, txt [], 0, 1, ((L.flatMap esc).length : Int) + 5⟩], 0, 0, 0) := by
  have hr : rs (txt (strR L)).data.toList = strR L ++ [-1] := by
    show rs ((strR L).flatMap Lib.encodeRune) = _
    refine rs_txt _ ?_
    intro x hx
    unfold strR at hx
    simp only [List.mem_cons, List.mem_append, List.mem_flatMap, List.not_mem_nil, or_false] at hx
    rcases hx with rfl | ⟨r, hr, hx⟩ | rfl | rfl | rfl
    · unfold rune; omega
    · exact esc_rune (h r hr) x hx
    · unfold rune; omega
    · unfold rune; omega
    · unfold rune; omega
  have hlen : (strR L ++ [-1]).length = ((L.flatMap esc).length + 1) + 4 := by unfold strR; simp
  unfold lexS
  rw [if_neg (by omega), hr, hlen]
  exact goO_str L (fun r hr' => (h r hr').1) _
end Go.Proofs.YtkgapellgfbdnaaDoor.Lex
