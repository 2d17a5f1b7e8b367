
/-
  The document's own lexer: from a byte to another one by runes; peek, pass, fail over its state and a token in hand.
-/
import Derived.Test.YtgikcciakbnehaaDoorLexFl
import Derived.Lib.TrimAscii
set_option maxRecDepth 100000
namespace Go.Proofs.YtgikcciakbnehaaDoor.Lex
open Go.Proofs.YtgikcciakbnehaaDoor Go.Proofs.YtgikcciakbnehaaDoor.Ser
open Go.ChangeShapes Go.WideShapes Go.ChangeAt Go.RowKit
set_option linter.unusedVariables false
/-- From byte k to byte k' the runes ns stand. -/
structure Path (s : ByteArray) (k : Nat) (ns : List Int) (k' : Nat) : Prop where
  le : k ≤ k'
  top : k' ≤ s.size
  rest : rsAt s k = ns ++ rsAt s k'
  bytes : (s.data.toList.drop k).take (k' - k) = ns.flatMap Lib.encodeRune
section
variable {s : ByteArray} {k k1 k2 : Nat} {a b : List Int}
theorem Path.refl (h : k ≤ s.size) : Path s k [] k := ⟨Nat.le_refl _, h, rfl, by simp⟩
theorem Path.trans (P : Path s k a k1) (Q : Path s k1 b k2) : Path s k (a ++ b) k2 := by
  have h1 := P.le
  have h2 := Q.le
  refine ⟨by omega, Q.top, by rw [P.rest, Q.rest, List.append_assoc], ?_⟩
  rw [show k2 - k = (k1 - k) + (k2 - k1) by omega, List.take_add, List.drop_drop, show k + (k1 - k) = k1 by omega, P.bytes, Q.bytes, List.flatMap_append]
theorem Path.drop (P : Path s k a k1) {n : Nat} (hn : a.length = n) : rsAt s k1 = (rsAt s k).drop n := by
  rw [P.rest, ← hn, List.drop_left]
theorem Path.takes (P : Path s k a k1) {n : Nat} (hn : a.length = n) : a = (rsAt s k).take n := by
  rw [P.rest, ← hn, List.take_left]
/-- The bytes between, as a text. -/
theorem Path.txt (P : Path s k a k1) : Lex.txt a = ⟨((s.data.toList.drop k).take (k1 - k)).toArray⟩ := by
  unfold Lex.txt
  rw [P.bytes]
theorem path_one (h : k < s.size) : (runeP (s.data.toList.drop k) = (0, 0) ∧ rsAt s k = [-2]) ∨ ∃ (r : Int) (n : Nat), runeP (s.data.toList.drop k) = (r, n) ∧ rune r ∧ 1 ≤ n ∧ Path s k [r] (k + n) := by
  have hl : s.data.toList.length = s.size := Array.length_toList
  have hne : s.data.toList.drop k ≠ [] := by
    rw [← List.length_pos_iff, List.length_drop]; omega
  rcases rs_cases (s.data.toList.drop k) with ⟨e, _⟩ | ⟨_, hb, e⟩ | ⟨_, hb, e⟩
  · exact absurd e hne
  · left
    exact ⟨by unfold runeP; rw [if_pos hb], e⟩
  · right
    have h1 := Lib.decodeL_width (s.data.toList.drop k)
    have h2 := decodeL_le _ hne
    rw [List.length_drop] at h2
    refine ⟨_, _, by unfold runeP; rw [if_neg hb], decodeL_rune' _, h1, Nat.le_add_right _ _, by omega, ?_, ?_⟩
    · show rs _ = _
      rw [e, List.drop_drop]
      rfl
    · rw [show k + (Lib.decodeL (s.data.toList.drop k)).2 - k = (Lib.decodeL (s.data.toList.drop k)).2 by omega, ← Lib.encode_decode _ hne hb]
      simp
/-- Where a rune stands there is one more place. -/
theorem path_hd (hk : k ≤ s.size) (h0 : 0 ≤ hd (rsAt s k)) : k < s.size ∧ ∃ n, runeP (s.data.toList.drop k) = (hd (rsAt s k), n) ∧ rune (hd (rsAt s k)) ∧ 1 ≤ n ∧ Path s k [hd (rsAt s k)] (k + n) := by
  have hlt : k < s.size := by
    rcases Nat.lt_or_ge k s.size with h | h
    · exact h
    · rw [rsAt_end h] at h0
      exact absurd h0 (by decide)
  refine ⟨hlt, ?_⟩
  rcases path_one hlt with ⟨_, e⟩ | ⟨r, n, e, hr, hn, P⟩
  · rw [e] at h0
    exact absurd h0 (by decide)
  · have : hd (rsAt s k) = r := by rw [P.rest]; rfl
    rw [this]
    exact ⟨n, e, hr, hn, P⟩
theorem hd_bds (k : Nat) : -2 ≤ hd (rsAt s k) ∧ hd (rsAt s k) ≤ 1114111 := (good _).hd_bd
/-- A byte below 128 is a rune. -/
theorem path_byte (hk : k < s.size) (hb : (s[k]).toNat < 128) : Path s k [((s[k]).toNat : Int)] (k + 1) := by
  have hl : s.data.toList.length = s.size := Array.length_toList
  have hg : s.data.toList.drop k = s[k] :: s.data.toList.drop (k + 1) := by
    rw [List.drop_eq_getElem_cons (by omega)]
    simp [ByteArray.getElem_eq_getElem_data]
  have hd0 : Lib.decodeL (s.data.toList.drop k) = ((s[k]).toNat, 1) := by rw [hg]; exact Lib.decodeL_ascii _ _ hb
  rcases path_one hk with ⟨e, _⟩ | ⟨r, n, e, _, _, P⟩
  · unfold runeP at e
    rw [hd0] at e
    rw [if_neg (by simp only; omega)] at e
    simp at e
  · unfold runeP at e
    rw [hd0, if_neg (by simp only; omega)] at e
    obtain ⟨rfl, rfl⟩ := Prod.mk.inj e
    exact P
/-- A rune below 128 is one byte. -/
theorem byte_hd (hk : k ≤ s.size) (h0 : 0 ≤ hd (rsAt s k)) (h1 : hd (rsAt s k) < 128) : ∃ h : k < s.size, ((s[k]).toNat : Int) = hd (rsAt s k) := by
  obtain ⟨hlt, n, _, _, hn, P⟩ := path_hd hk h0
  refine ⟨hlt, ?_⟩
  have hl : s.data.toList.length = s.size := Array.length_toList
  have hg : s.data.toList.drop k = s[k] :: s.data.toList.drop (k + 1) := by
    rw [List.drop_eq_getElem_cons (by omega)]
    simp [ByteArray.getElem_eq_getElem_data]
  have hb := P.bytes
  rw [show k + n - k = n by omega, hg] at hb
  obtain ⟨m, rfl⟩ : ∃ m, n = m + 1 := ⟨n - 1, by omega⟩
  rw [List.take_succ_cons] at hb
  have he : Lib.encodeRune (hd (rsAt s k)) = [(hd (rsAt s k)).toNat.toUInt8] := by
    unfold Lib.encodeRune
    rw [Lib.encodeRuneZ_one h0 (by omega)]
    rfl
  simp only [List.flatMap_cons, List.flatMap_nil, List.append_nil, he] at hb
  have h2 : s[k] = (hd (rsAt s k)).toNat.toUInt8 := (List.cons.inj hb).1
  rw [h2]
  have h3 : (hd (rsAt s k)).toNat < 256 := by omega
  simp only [Nat.toUInt8, UInt8.toNat_ofNat', Nat.reducePow]
  rw [Nat.mod_eq_of_lt h3]
  omega
end
/-- A token in memory. -/
abbrev Tk (w : World) (g : Nat) (t : Tok) : Prop := w.heap[g]? = some (.cells (tcell t).toArray 28 (0, 0))
/-- The lexer at byte k, line l, column c, with no error; a token in hand; since w0 nothing else has turned. -/
structure St (w0 w : World) (h g : Nat) (s : ByteArray) (k : Nat) (l c : Int) (t : Tok) : Prop where
  x : Xr w h s k l c 0
  tk : Tk w g t
  ne : h ≠ g
  kl : k ≤ s.size
  cb : 1 ≤ c ∧ c ≤ k + 1
  lb : 1 ≤ l ∧ l ≤ k + 1
  b : But (fun i => i = h ∨ i = g) w0 w
/-- With an error at a line, a column. -/
structure Er (w0 w : World) (h g : Nat) (s : ByteArray) (l c e : Int) : Prop where
  x : ∃ k, Xr w h s k l c e
  tk : ∃ t, Tk w g t
  b : But (fun i => i = h ∨ i = g) w0 w
section
variable {w0 w w' : World} {h g k : Nat} {s : ByteArray} {l c : Int} {t : Tok}
theorem St.lt (S : St w0 w h g s k l c t) : h < w.heap.size ∧ g < w.heap.size := ⟨(Array.getElem?_eq_some_iff.1 S.x.hd).1, (Array.getElem?_eq_some_iff.1 S.tk).1⟩
theorem St.later (S : St w0 w h g s k l c t) (b : But (fun _ => False) w w') : St w0 w' h g s k l c t :=
  ⟨⟨(b.block h S.lt.1 id).trans S.x.hd⟩, (b.block g S.lt.2 id).trans S.tk, S.ne, S.kl, S.cb, S.lb, S.b.then b (fun _ h => h) (fun _ _ h => h.elim)⟩
theorem Er.later {e : Int} (S : Er w0 w h g s l c e) (b : But (fun _ => False) w w') : Er w0 w' h g s l c e := by
  obtain ⟨k, x⟩ := S.x
  obtain ⟨t, tk⟩ := S.tk
  exact ⟨⟨k, ⟨(b.block h (Array.getElem?_eq_some_iff.1 x.hd).1 id).trans x.hd⟩⟩, ⟨t, (b.block g (Array.getElem?_eq_some_iff.1 tk).1 id).trans tk⟩, S.b.then b (fun _ h => h) (fun _ _ h => h.elim)⟩
theorem Tk.c0 (T : Tk w g t) : w.cell? ⟨g, 0, none⟩ = some (i64 t.kind) := by rw [cell_of_row w g 0 _ _ _ T]; rfl
theorem Tk.c1 (T : Tk w g t) : w.cell? ⟨g, 1, none⟩ = some (.string t.text) := by rw [cell_of_row w g 1 _ _ _ T]; rfl
theorem Tk.c2 (T : Tk w g t) : w.cell? ⟨g, 2, none⟩ = some (i64 t.n) := by rw [cell_of_row w g 2 _ _ _ T]; rfl
theorem Tk.c3 (T : Tk w g t) : w.cell? ⟨g, 3, none⟩ = some (i64 t.line) := by rw [cell_of_row w g 3 _ _ _ T]; rfl
theorem Tk.c4 (T : Tk w g t) : w.cell? ⟨g, 4, none⟩ = some (i64 t.col) := by rw [cell_of_row w g 4 _ _ _ T]; rfl
theorem Tk.fr (T : Tk w g t) (i : Nat) : w.frozen? ⟨g, i, none⟩ = false := by simp [World.frozen?, T]
/-- A field of the token, anew. -/
theorem St.kind (S : St w0 w h g s k l c t) (x : Int) : St w0 (w.setCell ⟨g, 0, none⟩ (i64 x)) h g s k l c { t with kind := x } :=
  ⟨⟨((But.refl (fun i => i = g) w).setCell ⟨g, 0, none⟩ rfl _ |>.block h S.lt.1 S.ne).trans S.x.hd⟩, setCell_row S.tk 0 (i64 x), S.ne, S.kl, S.cb, S.lb, S.b.setCell ⟨g, 0, none⟩ (.inr rfl) _⟩
theorem St.text (S : St w0 w h g s k l c t) (x : ByteArray) : St w0 (w.setCell ⟨g, 1, none⟩ (.string x)) h g s k l c { t with text := x } :=
  ⟨⟨((But.refl (fun i => i = g) w).setCell ⟨g, 1, none⟩ rfl _ |>.block h S.lt.1 S.ne).trans S.x.hd⟩, setCell_row S.tk 1 (.string x), S.ne, S.kl, S.cb, S.lb, S.b.setCell ⟨g, 1, none⟩ (.inr rfl) _⟩
theorem St.num (S : St w0 w h g s k l c t) (x : Int) : St w0 (w.setCell ⟨g, 2, none⟩ (i64 x)) h g s k l c { t with n := x } :=
  ⟨⟨((But.refl (fun i => i = g) w).setCell ⟨g, 2, none⟩ rfl _ |>.block h S.lt.1 S.ne).trans S.x.hd⟩, setCell_row S.tk 2 (i64 x), S.ne, S.kl, S.cb, S.lb, S.b.setCell ⟨g, 2, none⟩ (.inr rfl) _⟩
theorem peek_st (S : St w0 w h g s k l c t) (hs : s.size ≤ 65536) : Calls Tryd.prog 14 #[.pointer (some ⟨h, 0, none⟩)] w fun e w' => e = .returned (i64 (hd (rsAt s k))) ∧ St w0 w' h g s k l c t := by
  refine (peek_says S.x hs S.kl).mono ?_
  rintro e w1 ⟨rfl, n, rfl⟩
  exact ⟨rfl, S.later ⟨rfl, rfl, rfl, Nat.le_refl _, fun _ _ _ => rfl⟩⟩
theorem pass_st (S : St w0 w h g s k l c t) (hs : s.size ≤ 65536) (h0 : 0 ≤ hd (rsAt s k)) (h10 : hd (rsAt s k) ≠ 10) :
    Calls Tryd.prog 15 #[.pointer (some ⟨h, 0, none⟩)] w fun e w' => e = .returned (.tuple #[]) ∧ ∃ k', Path s k [hd (rsAt s k)] k' ∧ k < k' ∧ St w0 w' h g s k' l (c + 1) t := by
  obtain ⟨hlt, n, e1, -, hn, P⟩ := path_hd S.kl h0
  have h3 := P.top
  have cb := S.cb
  have lb := S.lb
  refine (pass_says S.x hs hlt (by omega) (by omega) e1 h3).mono ?_
  rintro e w1 ⟨rfl, X, b⟩
  rw [if_neg h10, if_neg h10] at X
  exact ⟨rfl, _, P, by omega, ⟨X, (b.block g S.lt.2 (fun e => S.ne e.symm)).trans S.tk, S.ne, h3, by omega, by omega, S.b.then b (fun _ h => h) (fun _ _ h => .inl h)⟩⟩
theorem fail_st (S : St w0 w h g s k l c t) (x y z : Int) :
    Calls Tryd.prog 16 #[.pointer (some ⟨h, 0, none⟩), i64 x, i64 y, i64 z] w fun e w' => e = .returned (.tuple #[]) ∧ Er w0 w' h g s y z x := by
  refine (fail_says S.x).mono ?_
  rintro e w1 ⟨rfl, X, b⟩
  rw [if_pos rfl, if_pos rfl, if_pos rfl] at X
  exact ⟨rfl, ⟨_, X⟩, ⟨t, (b.block g S.lt.2 (fun e => S.ne e.symm)).trans S.tk⟩, S.b.then b (fun _ h => h) (fun _ _ h => .inl h)⟩
theorem fail_er {e : Int} (S : Er w0 w h g s l c e) (he : e ≠ 0) (hne : h ≠ g) (x y z : Int) :
    Calls Tryd.prog 16 #[.pointer (some ⟨h, 0, none⟩), i64 x, i64 y, i64 z] w fun e' w' => e' = .returned (.tuple #[]) ∧ Er w0 w' h g s l c e := by
  obtain ⟨k, X0⟩ := S.x
  obtain ⟨t, T⟩ := S.tk
  refine (fail_says X0).mono ?_
  rintro e w1 ⟨rfl, X, b⟩
  rw [if_neg he, if_neg he, if_neg he] at X
  exact ⟨rfl, ⟨_, X⟩, ⟨t, (b.block g (Array.getElem?_eq_some_iff.1 T).1 (fun e => hne e.symm)).trans T⟩, S.b.then b (fun _ h => h) (fun _ _ h => .inl h)⟩
end
end Go.Proofs.YtgikcciakbnehaaDoor.Lex
