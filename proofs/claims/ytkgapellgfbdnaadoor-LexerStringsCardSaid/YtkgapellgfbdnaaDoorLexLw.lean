
/-
  Plain: what the tokens of some texts are.
-/
import Derived.Test.YtkgapellgfbdnaaDoorLexTo
set_option maxRecDepth 100000
namespace Go.Proofs.YtkgapellgfbdnaaDoor.Lex
open Go
/-- A rune that is one of ASCII. -/
theorem dec_ascii (b : UInt8) (t : List UInt8) (h : b.toNat < 128) : Lib.decodeL (b :: t) = (b.toNat, 1) := by
  rw [Lib.decodeL_N, List.getD_cons_zero]
  unfold Lib.decodeN
  rw [if_pos h]
theorem rs_ascii (b : UInt8) (t : List UInt8) (h : b.toNat < 128) : rs (b :: t) = (b.toNat : Int) :: rs t := by
  have hd := dec_ascii b t h
  have hb : ¬ ((Lib.decodeL (b :: t)).1 = 65533 ∧ (Lib.decodeL (b :: t)).2 = 1) := by rw [hd]; intro hh; have := hh.1; simp only at this; omega
  rw [rs_ok (by simp) hb, hd]
  rfl
theorem rs_all : ∀ (l t : List UInt8), (∀ b ∈ l, b.toNat < 128) → rs (l ++ t) = l.map (fun b => (b.toNat : Int)) ++ rs t
  | [], t, _ => rfl
  | b :: l, t, h => by
    rw [List.cons_append, rs_ascii b _ (h b (by simp)), rs_all l t (fun x hx => h x (by simp [hx]))]
    rfl
/-- One step on. -/
theorem go_ok {f : Nat} {R : List Int} {l c : Int} {ts : List Tok} (h1 : hd R ≠ -1) (h2 : (stepO R l c).e = 0) : goO (f + 1) R l c ts = goO f (R.drop (stepO R l c).k) ((stepO R l c).line l) ((stepO R l c).col c) (ts ++ (stepO R l c).ts) := by
  show (if hd R = -1 then _ else if (stepO R l c).e ≠ 0 then _ else _) = _
  rw [if_neg h1, if_neg (by simp [h2])]
theorem go_end {f : Nat} {R : List Int} {l c : Int} {ts : List Tok} (h1 : hd R = -1) : goO (f + 1) R l c ts = (ts ++ [⟨6, txt [], 0, l, c⟩], 0, 0, 0) := by
  show (if hd R = -1 then _ else _) = _
  rw [if_pos h1]
theorem go_err {f : Nat} {R : List Int} {l c : Int} {ts : List Tok} (h1 : hd R ≠ -1) (h2 : (stepO R l c).e ≠ 0) : goO (f + 1) R l c ts = ([], (stepO R l c).el, (stepO R l c).ec, (stepO R l c).e) := by
  show (if hd R = -1 then _ else if (stepO R l c).e ≠ 0 then _ else _) = _
  rw [if_neg h1, if_pos h2]
/-- A blank. -/
theorem step_blank {x : Int} {T : List Int} {l c : Int} (h : blank x = true) : stepO (x :: T) l c = okO 1 [] := by
  unfold stepO
  rw [if_pos (by simpa [hd] using h)]
theorem step_line {T : List Int} {l c : Int} (h : l ≤ 8000) : stepO (10 :: T) l c = ⟨0, 0, 0, 1, true, [⟨5, txt [], 0, l, c⟩]⟩ := by
  have e : hd (10 :: T) = 10 := rfl
  unfold stepO
  rw [e, if_neg (by decide), if_neg (by decide), if_pos rfl, if_neg (by omega)]
theorem step_line_bad {T : List Int} {l c : Int} (h : 8000 < l) : stepO (10 :: T) l c = errO 2 l c := by
  have e : hd (10 :: T) = 10 := rfl
  unfold stepO
  rw [e, if_neg (by decide), if_neg (by decide), if_pos rfl, if_pos h]
theorem step_name {x : Int} {T : List Int} {l c : Int} (h : letter x = true) : stepO (x :: T) l c = nameO (x :: T) l c := by
  have e : hd (x :: T) = x := rfl
  have h1 : blank x = false := by
    unfold blank letter at *
    simp only [Bool.or_eq_true, Bool.and_eq_true, decide_eq_true_eq, beq_iff_eq] at h
    simp only [Bool.or_eq_false_iff, beq_eq_false_iff_ne, ne_eq]
    omega
  have h2 : x ≠ 59 := by rintro rfl; revert h; decide
  have h3 : x ≠ 10 := by rintro rfl; revert h; decide
  unfold stepO
  rw [e, if_neg (by simp [h1]), if_neg h2, if_neg h3, if_pos h]
/-- The lines: n bytes 10, so many blanks, then x. -/
def lineR (n m : Nat) : List Int := List.replicate n 10 ++ (List.replicate m 32 ++ [120, -1])
def lineT (a n : Nat) : List Tok := (List.range n).map fun (i : Nat) => ⟨5, txt [], 0, (a : Int) + i, 1⟩
theorem goO_blanks : ∀ (m f : Nat) (l c : Int) (ts : List Tok), goO (m + 2 + f) (List.replicate m 32 ++ [120, -1]) l c ts = (ts ++ [⟨1, txt [120], 0, l, c + m⟩, ⟨6, txt [], 0, l, c + m + 1⟩], 0, 0, 0)
  | 0, f, l, c, ts => by
    have h1 : stepO [120, -1] l c = okO 1 [⟨1, txt [120], 0, l, c⟩] := by
      rw [step_name (by decide)]; rfl
    show goO (0 + 2 + f) [120, -1] l c ts = _
    rw [show 0 + 2 + f = (1 + f) + 1 by omega, go_ok (by decide) (by rw [h1]; rfl), h1]
    show goO (1 + f) [-1] l (c + 1) (ts ++ [⟨1, txt [120], 0, l, c⟩]) = _
    rw [Nat.add_comm 1 f, go_end rfl]
    simp
  | m + 1, f, l, c, ts => by
    have h1 : stepO (List.replicate (m + 1) 32 ++ [120, -1]) l c = okO 1 [] := by
      rw [List.replicate_succ, List.cons_append]; exact step_blank (by decide)
    rw [show m + 1 + 2 + f = (m + 2 + f) + 1 by omega, go_ok (by rw [List.replicate_succ]; show (32 : Int) ≠ -1; decide) (by rw [h1]; rfl), h1]
    show goO (m + 2 + f) ((List.replicate (m + 1) 32 ++ [120, -1]).drop 1) l (c + 1) (ts ++ []) = _
    rw [List.replicate_succ, List.cons_append, List.drop_one, List.tail_cons, List.append_nil, goO_blanks m f l (c + 1) ts]
    have e : c + 1 + (m : Int) = c + ((m + 1 : Nat) : Int) := by omega
    rw [e]
theorem goO_lines : ∀ (n m f a : Nat) (ts : List Tok), a + n ≤ 8001 → goO (n + (m + 2 + f)) (lineR n m) a 1 ts = (ts ++ (lineT a n ++ [⟨1, txt [120], 0, ((a + n : Nat) : Int), 1 + m⟩, ⟨6, txt [], 0, ((a + n : Nat) : Int), 1 + m + 1⟩]), 0, 0, 0)
  | 0, m, f, a, ts, h => by
    show goO (0 + (m + 2 + f)) (List.replicate m 32 ++ [120, -1]) a 1 ts = _
    rw [Nat.zero_add, goO_blanks]
    simp [lineT]
  | n + 1, m, f, a, ts, h => by
    have h1 : stepO (lineR (n + 1) m) a 1 = ⟨0, 0, 0, 1, true, [⟨5, txt [], 0, a, 1⟩]⟩ := by
      unfold lineR; rw [List.replicate_succ, List.cons_append]; exact step_line (by omega)
    rw [show n + 1 + (m + 2 + f) = (n + (m + 2 + f)) + 1 by omega, go_ok (by unfold lineR; rw [List.replicate_succ]; show (10 : Int) ≠ -1; decide) (by rw [h1]), h1]
    show goO (n + (m + 2 + f)) ((lineR (n + 1) m).drop 1) ((a : Int) + 1) 1 (ts ++ [⟨5, txt [], 0, a, 1⟩]) = _
    have e1 : (lineR (n + 1) m).drop 1 = lineR n m := by unfold lineR; rw [List.replicate_succ, List.cons_append]; rfl
    have e2 : (a : Int) + 1 = ((a + 1 : Nat) : Int) := by omega
    rw [e1, e2, goO_lines n m f (a + 1) _ (by omega)]
    have e3 : lineT a (n + 1) = ⟨5, txt [], 0, (a : Int), 1⟩ :: lineT (a + 1) n := by
      unfold lineT
      rw [List.range_succ_eq_map, List.map_cons, List.map_map]
      congr 1
      simp
      intro i _
      omega
    rw [e3, show a + (n + 1) = a + 1 + n by omega]
    simp
theorem goO_over : ∀ (n f a : Nat) (T : List Int) (ts : List Tok), a ≤ 8001 → 8001 < a + n → goO (n + f) (List.replicate n 10 ++ T) a 1 ts = ([], 8001, 1, 2)
  | 0, f, a, T, ts, h1, h2 => by omega
  | n + 1, f, a, T, ts, h1, h2 => by
    by_cases ha : a = 8001
    · subst ha
      have h3 : stepO (List.replicate (n + 1) 10 ++ T) ((8001 : Nat) : Int) 1 = errO 2 8001 1 := by rw [List.replicate_succ, List.cons_append]; exact step_line_bad (by decide)
      rw [show n + 1 + f = (n + f) + 1 by omega, go_err (by rw [List.replicate_succ]; show (10 : Int) ≠ -1; decide) (by rw [h3]; decide), h3]
      rfl
    · have h3 : stepO (List.replicate (n + 1) 10 ++ T) a 1 = ⟨0, 0, 0, 1, true, [⟨5, txt [], 0, a, 1⟩]⟩ := by
        rw [List.replicate_succ, List.cons_append]; exact step_line (by omega)
      rw [show n + 1 + f = (n + f) + 1 by omega, go_ok (by rw [List.replicate_succ]; show (10 : Int) ≠ -1; decide) (by rw [h3]), h3]
      show goO (n + f) ((List.replicate (n + 1) 10 ++ T).drop 1) ((a : Int) + 1) 1 (ts ++ [⟨5, txt [], 0, a, 1⟩]) = _
      rw [List.replicate_succ, List.cons_append, List.drop_one, List.tail_cons, show (a : Int) + 1 = ((a + 1 : Nat) : Int) by omega]
      exact goO_over n f (a + 1) T _ (by omega) (by omega)
end Go.Proofs.YtkgapellgfbdnaaDoor.Lex
