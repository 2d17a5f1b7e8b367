
/-
  The document's own lexer: what Tokens keeps (written by wip/bin/mkxtok.py).
-/
import Derived.Test.YtgikcciakbnehaaDoorLexXs
import Derived.Test.YtgikcciakbnehaaDoorLexXn
import Derived.Test.YtgikcciakbnehaaDoorLexXd
import Derived.Test.YtgikcciakbnehaaDoorLexTo
import Derived.Deep.CutRange
set_option maxRecDepth 100000
namespace Go.Proofs.YtgikcciakbnehaaDoor.Lex
open Go.Proofs.YtgikcciakbnehaaDoor Go.Proofs.YtgikcciakbnehaaDoor.Ser
open Go.ChangeShapes Go.WideShapes Go.ChangeAt Go.RowKit
set_option linter.unusedVariables false
/-- Rows of tokens are one. -/
def SameL (a b : List Tok) : Prop := a.length = b.length ∧ ∀ (i : Nat) (t u : Tok), a[i]? = some t → b[i]? = some u → Same1 t u
theorem same_nil : SameL [] [] := ⟨rfl, fun i t u h => by simp at h⟩
theorem SameL.snoc {a b : List Tok} {t u : Tok} (h : SameL a b) (h1 : Same1 t u) : SameL (a ++ [t]) (b ++ [u]) := by
  refine ⟨by rw [List.length_append, List.length_append, h.1]; rfl, ?_⟩
  intro i x y hx hy
  rcases Nat.lt_or_ge i a.length with hi | hi
  · rw [List.getElem?_append_left hi] at hx
    rw [List.getElem?_append_left (by have := h.1; omega)] at hy
    exact h.2 i x y hx hy
  · rw [List.getElem?_append_right hi] at hx
    rw [List.getElem?_append_right (by have := h.1; omega)] at hy
    have hl := h.1
    have e1 : i - a.length = i - b.length := by omega
    have h0 : i - a.length = 0 := by
      rcases Nat.eq_zero_or_pos (i - a.length) with h0 | h0
      · exact h0
      · rw [List.getElem?_eq_none (by simp; omega)] at hx; cases hx
    rw [h0] at hx
    rw [← e1, h0] at hy
    simp at hx hy
    subst hx hy
    exact h1
/-- The lexer at byte k, without an error. -/
structure Rn (w : World) (h : Nat) (s : ByteArray) (k : Nat) (l c : Int) : Prop where
  x : Xr w h s k l c 0
  kl : k ≤ s.size
  cb : 1 ≤ c ∧ c ≤ k + 1
  lb : 1 ≤ l ∧ l ≤ k + 1
/-- What a step leaves, with the count of lines. -/
def Sw (wx wx' : World) (h g : Nat) (s : ByteArray) (k : Nat) (l c : Int) (R : List Int) (o : Out) (s8 : Value) : Prop :=
  (o.e = 0 ∧ ∃ k' t u, k < k' ∧ rsAt s k' = R.drop o.k ∧ St wx wx' h g s k' (o.line l) (o.col c) t ∧ o.ts = [u] ∧ Same1 t u ∧ s8 = i64 (o.line l - 1)) ∨ (o.e ≠ 0 ∧ Er wx wx' h g s o.el o.ec o.e ∧ ∃ z, s8 = i64 z)
def leftE (h N : Nat) (w : World) : Nat := match w.cell? ⟨h, 4, none⟩ with | some (.int _ e) => if e = 0 then Lex.left h N w + 1 else 0 | _ => 0
section
variable {w w' wx wx' : World} {h g k k' : Nat} {s : ByteArray} {l c : Int} {t : Tok} {R : List Int} {o : Out}
theorem Rn.left (S : Rn w h s k l c) : Lex.left h s.size w = s.size - k := by
  unfold Lex.left; rw [S.x.at_]; simp
theorem Rn.leftE (S : Rn w h s k l c) : Lex.leftE h s.size w = s.size - k + 1 := by
  unfold Lex.leftE; rw [S.x.err]; simp only [if_true]; rw [S.left]
theorem Xr.leftE {e : Int} (S : Xr w h s k l c e) (he : e ≠ 0) (N : Nat) : Lex.leftE h N w = 0 := by
  unfold Lex.leftE; rw [S.err]; simp only [if_neg he]
theorem Rn.cst {c' : Int} (S : Rn w h s k l c) (e : c = c') : Rn w h s k l c' := e ▸ S
theorem Rn.kept {S : Nat → Prop} (R : Rn w h s k l c) (b : But S w w') (hS : ¬ S h) : Rn w' h s k l c :=
  ⟨⟨(b.block h (Array.getElem?_eq_some_iff.1 R.x.hd).1 hS).trans R.x.hd⟩, R.kl, R.cb, R.lb⟩
theorem Xr.kept {e : Int} {S : Nat → Prop} (X : Xr w h s k l c e) (b : But S w w') (hS : ¬ S h) : Xr w' h s k l c e := ⟨(b.block h (Array.getElem?_eq_some_iff.1 X.hd).1 hS).trans X.hd⟩
theorem St.rn (S : St wx wx' h g s k l c t) : Rn wx' h s k l c := ⟨S.x, S.kl, S.cb, S.lb⟩
theorem step_blank (hb : blank (hd R) = true) : stepO R l c = okO 1 [] := by unfold stepO; rw [if_pos hb]
theorem step_rem (hb : blank (hd R) = false) (h59 : hd R = 59) : stepO R l c = okO (remLen R) [] := by unfold stepO; rw [if_neg (by simp [hb]), if_pos h59]
theorem step_bad (hx : hd R = -2) : stepO R l c = errO 4 l c := by unfold stepO wrong; rw [hx]; simp [blank, letter, dig, sgn]
theorem step_nl (hx : hd R = 10) : stepO R l c = if 8000 < l then errO 2 l c else ⟨0, 0, 0, 1, true, [⟨5, txt [], 0, l, c⟩]⟩ := by unfold stepO; rw [hx]; simp [blank]
theorem step_name (hb : blank (hd R) = false) (h59 : hd R ≠ 59) (h10 : hd R ≠ 10) (hl : letter (hd R) = true) : stepO R l c = nameO R l c := by unfold stepO; simp [hb, h59, h10, hl]
theorem step_num (hb : blank (hd R) = false) (h59 : hd R ≠ 59) (h10 : hd R ≠ 10) (hl : letter (hd R) = false) (hd' : dig (hd R) = true) : stepO R l c = numO R l c := by unfold stepO; simp [hb, h59, h10, hl, hd']
theorem step_char (hx : hd R = 39) : stepO R l c = charO R l c := by unfold stepO; rw [hx]; simp [blank, letter, dig]
theorem step_str (hx : hd R = 34) : stepO R l c = strO R l c := by unfold stepO; rw [hx]; simp [blank, letter, dig]
theorem step_sgn {x : Int} (hx : hd R = x) (h : x = 44 ∨ x = 58 ∨ x = 45 ∨ x = 43 ∨ x = 40 ∨ x = 41 ∨ x = 61) : stepO R l c = okO 1 [⟨4, txt [x], 0, l, c⟩] := by
  unfold stepO
  rw [hx]
  rcases h with rfl | rfl | rfl | rfl | rfl | rfl | rfl <;> simp [blank, letter, dig, sgn]
theorem step_none (hb : blank (hd R) = false) (h59 : hd R ≠ 59) (h10 : hd R ≠ 10) (hl : letter (hd R) = false) (hd' : dig (hd R) = false) (h39 : hd R ≠ 39) (h34 : hd R ≠ 34) (hs : sgn (hd R) = false) (h2 : hd R ≠ -2) : stepO R l c = errO 3 l c := by
  unfold stepO wrong; simp [hb, h59, h10, hl, hd', h39, h34, hs, h2]
theorem tw_len (p : Int → Bool) : ∀ M : List Int, (M.takeWhile p).length ≤ M.length := fun M => (List.takeWhile_prefix p).length_le
theorem ext_txt {s : ByteArray} {k k' : Nat} {ns : List Int} (P : Path s k ns k') : s.extract k k' = txt ns := by
  have h : (s.extract k k').data = (txt ns).data := Array.toList_inj.1 (by rw [ext_path P]; simp [txt])
  cases h1 : s.extract k k'
  cases h2 : txt ns
  rw [h1, h2] at h
  simp at h
  rw [h]
theorem byte_path {s : ByteArray} {k : Nat} {x : Int} (hk : k ≤ s.size) (hx : hd (rsAt s k) = x) (h0 : 0 ≤ x) (h1 : x < 128) : Path s k [x] (k + 1) := by
  obtain ⟨hlt, e⟩ := byte_hd hk (by omega) (by omega)
  have P := path_byte hlt (by omega)
  rw [e, hx] at P
  exact P
/-- The row of tokens, and all that came in. -/
structure Ld (W w : World) (h : Nat) (v : Value) (T : List Tok) : Prop where
  o : OwnT w (h + 1) v T
  b : Below W.heap.size W w
  hh : W.heap.size = h
theorem Ld.lt {W w : World} {v : Value} {T : List Tok} (L : Ld W w h v T) {i : Nat} (hi : v.ownBlock = some i) : h + 1 ≤ i ∧ i < w.heap.size := L.o.lt i hi
theorem Ld.go {W w w' : World} {v : Value} {T : List Tok} {S : Nat → Prop} (L : Ld W w h v T) (b : But S w w') (hS : ∀ i, S i → i = h ∨ (v.ownBlock ≠ some i ∧ h ≤ i)) : Ld W w' h v T := by
  refine ⟨ownT_kept L.o fun i hi => b.block i (L.lt hi).2 fun hs => ?_, L.b.trans (b.below L.b.size fun i hi => ?_), L.hh⟩
  · rcases hS i hs with e | ⟨e, _⟩
    · have := (L.lt hi).1; omega
    · exact e hi
  · have := L.hh
    rcases hS i hi with e | ⟨_, e⟩ <;> omega
theorem Ld.app {W w w' : World} {v v' : Value} {T T2 : List Tok} (L : Ld W w h v T) (o' : OwnT w' (h + 1) v' T2) (g : w.grownBy w' v.ownBlock) : Ld W w' h v' T2 :=
  ⟨o', L.b.trans (((But.refl (fun i => v.ownBlock = some i) w).grown g fun i hi => hi).below L.b.size fun i hi => by have := (L.lt hi).1; have := L.hh; omega), L.hh⟩
theorem Ld.st {W w wx : World} {g k : Nat} {s : ByteArray} {l c : Int} {t : Tok} {v : Value} {T : List Tok} (L : Ld W wx h v T) (S : St wx w h g s k l c t) (hn : v.ownBlock ≠ some g) (hg : h ≤ g) : Ld W w h v T :=
  L.go S.b fun i hi => hi.elim .inl fun e => .inr ⟨by rw [e]; exact hn, by rw [e]; exact hg⟩
theorem Ld.er {W w wx : World} {g : Nat} {s : ByteArray} {l c e : Int} {v : Value} {T : List Tok} (L : Ld W wx h v T) (S : Er wx w h g s l c e) (hn : v.ownBlock ≠ some g) (hg : h ≤ g) : Ld W w h v T :=
  L.go S.b fun i hi => hi.elim .inl fun e => .inr ⟨by rw [e]; exact hn, by rw [e]; exact hg⟩
theorem Ld.new {W w : World} {v : Value} {T : List Tok} (L : Ld W w h v T) (o : Obj) : Ld W (w.alloc o) h v T := L.go ((But.refl (fun _ => False) w).alloc o) fun _ h => h.elim
theorem Xr.grown {w w' : World} {e : Int} {v : Value} {W : World} {T : List Tok} (X : Xr w h s k l c e) (L : Ld W w h v T) (g : w.grownBy w' v.ownBlock) : Xr w' h s k l c e :=
  X.kept ((But.refl (fun i => v.ownBlock = some i) w).grown g fun i hi => hi) fun hi => by have := (L.lt hi).1; omega
theorem peek_rn (S : Rn w h s k l c) (hs : s.size ≤ 65536) {x : Int} (hx : hd (rsAt s k) = x) : Calls Tryd.prog 14 #[.pointer (some ⟨h, 0, none⟩)] w fun e w' => e = .returned (i64 x) ∧ Rn w' h s k l c ∧ But (fun _ => False) w w' := by
  refine (peek_says S.x hs S.kl).mono ?_
  rintro e w1 ⟨rfl, n, rfl⟩
  have b : But (fun _ => False) w (w.drewN n) := ⟨rfl, rfl, rfl, Nat.le_refl _, fun _ _ _ => rfl⟩
  exact ⟨by rw [hx], S.kept b id, b⟩
theorem pass_rn (S : Rn w h s k l c) (hs : s.size ≤ 65536) (h0 : 0 ≤ hd (rsAt s k)) (h10 : hd (rsAt s k) ≠ 10) :
    Calls Tryd.prog 15 #[.pointer (some ⟨h, 0, none⟩)] w fun e w' => e = .returned (.tuple #[]) ∧ But (fun i => i = h) w w' ∧ ∃ k', k < k' ∧ rsAt s k' = (rsAt s k).drop 1 ∧ Path s k [hd (rsAt s k)] k' ∧ Rn w' h s k' l (c + 1) := by
  obtain ⟨hlt, n, e1, -, hn, P⟩ := path_hd S.kl h0
  have h3 := P.top
  have cb := S.cb
  have lb := S.lb
  refine (pass_says S.x hs hlt (by omega) (by omega) e1 h3).mono ?_
  rintro e w1 ⟨rfl, X, b⟩
  rw [if_neg h10, if_neg h10] at X
  exact ⟨rfl, b, _, by omega, P.drop rfl, P, X, h3, by omega, by omega⟩
/-- A line's end is passed. -/
theorem pass_nl (S : St wx w h g s k l c t) (hs : s.size ≤ 65536) (h10 : hd (rsAt s k) = 10) :
    Calls Tryd.prog 15 #[.pointer (some ⟨h, 0, none⟩)] w fun e w' => e = .returned (.tuple #[]) ∧ ∃ k', k < k' ∧ rsAt s k' = (rsAt s k).drop 1 ∧ St wx w' h g s k' (l + 1) 1 t := by
  obtain ⟨hlt, n, e1, -, hn, P⟩ := path_hd S.kl (by rw [h10]; decide)
  have h3 := P.top
  have cb := S.cb
  have lb := S.lb
  refine (pass_says S.x hs hlt (by omega) (by omega) e1 h3).mono ?_
  rintro e w1 ⟨rfl, X, b⟩
  rw [if_pos h10, if_pos h10] at X
  exact ⟨rfl, _, by omega, P.drop rfl, X, (b.block g S.lt.2 (fun e => S.ne e.symm)).trans S.tk, S.ne, h3, by omega, by omega, S.b.then b (fun _ h => h) (fun _ _ h => .inl h)⟩
/-- A new token. -/
theorem tok_st (S : Rn w h s k l c) {wx : World} {g : Nat} (hg : w.heap.size ≤ g) (hT : Tk wx g ⟨0, ⟨#[]⟩, 0, l, c⟩) (b : But (fun _ => False) w wx) : St wx wx h g s k l c ⟨0, ⟨#[]⟩, 0, l, c⟩ := by
  have hh := (Array.getElem?_eq_some_iff.1 S.x.hd).1
  exact ⟨S.x.kept b id, hT, by omega, S.kl, S.cb, S.lb, But.refl _ _⟩
theorem sw_of (D : Dn wx wx' h g s k l c o) (hR : rsAt s k = R) : Sw wx wx' h g s k l c R o (i64 (l - 1)) := by
  rcases D with ⟨h0, hn, k', t, u, h1, h2, h3, h4, h5⟩ | ⟨h0, h1⟩
  · rw [hR] at h2
    refine .inl ⟨h0, k', t, u, h1, h2, ?_, h4, h5, ?_⟩
    · unfold Out.line Out.col
      simp only [hn, Bool.false_eq_true, if_false]
      exact h3
    · unfold Out.line
      simp [hn]
  · exact .inr ⟨h0, h1, _, rfl⟩
/-- 'append(ts, t)'. -/
theorem wpList_appT {B : Nat} {v : Value} {T : List Tok} {ops : Array Oper} {rest : List Oper} {o : Oper} {a : Act} {Q : Exit → Act → World → Prop} (hgd : o.guard = none) (sl x : Operand)
    (ho : o.op = .call { callee := .builtin .append, args := #[sl, x], argTypes := #[23, 23] }) (hB : B ≤ w.heap.size) (hs : a.eval sl = v) (hown : OwnT w B v T) (t : Tok) (N : Nat)
    (hx : a.eval x = .slice (some ⟨N, 0, none⟩) 1 1) (hN : ∀ j u, (tcell t)[j]? = some u → w.cell? ((⟨N, 0, none⟩ : Addr).add j) = some u) (hn : T.length ≤ 1000000)
    (h : ∀ v' w', OwnT w' B v' (T ++ [t]) → w.grownBy w' v.ownBlock → wpList Tryd.prog ops Q rest (a.put o.dst v') w') : wpList Tryd.prog ops Q (o :: rest) a w := by
  obtain ⟨v', w', hr, h1, h2, h3⟩ := app_tok hown t N hN hB hn o.type
  refine wpList_plain hgd fun K hK => ?_
  unfold Oper.wp execOp
  simp only [ho, resolve, invoke, builtin, Sem.run_bind, Sem.run_pure, Result.andThen_ok, List.map_toArray, List.map_cons, List.map_nil, hs, hx, hr]
  exact hK _ _ (h v' w' h1 h2)
/-- goO, a step at a time. -/
theorem goO_end {f : Nat} {T : List Tok} (h : hd R = -1) : goO (f + 1) R l c T = (T ++ [⟨6, txt [], 0, l, c⟩], 0, 0, 0) := by
  show (if hd R = -1 then _ else _) = _
  rw [if_pos h]
theorem goO_err {f : Nat} {T : List Tok} (h : hd R ≠ -1) (he : (stepO R l c).e ≠ 0) : goO (f + 1) R l c T = ([], (stepO R l c).el, (stepO R l c).ec, (stepO R l c).e) := by
  show (if hd R = -1 then _ else _) = _
  rw [if_neg h, if_pos he]
theorem goO_next {f : Nat} {T : List Tok} (h : hd R ≠ -1) (he : (stepO R l c).e = 0) : goO (f + 1) R l c T = goO f (R.drop (stepO R l c).k) ((stepO R l c).line l) ((stepO R l c).col c) (T ++ (stepO R l c).ts) := by
  show (if hd R = -1 then _ else if (stepO R l c).e ≠ 0 then _ else _) = _
  rw [if_neg h, if_neg (by simp [he])]
end
end Go.Proofs.YtgikcciakbnehaaDoor.Lex
