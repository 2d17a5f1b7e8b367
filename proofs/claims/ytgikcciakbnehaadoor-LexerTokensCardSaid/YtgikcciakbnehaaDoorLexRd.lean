
/-
  Package lexer: a reader in memory: the runes, the place, the tokens; now, next, add, wrong.
-/
import Derived.Test.YtgikcciakbnehaaDoorLexFn
import Derived.Maps.AppendAt
import Derived.Lib.SliceRun
import Derived.Lib.AppendZeros
set_option maxRecDepth 100000
namespace Go.Proofs.YtgikcciakbnehaaDoor.Lex
open Go.Proofs.YtgikcciakbnehaaDoor Go.Proofs.YtgikcciakbnehaaDoor.Ser
open Go.ChangeShapes Go.WideShapes Go.ChangeAt Go.RowKit
abbrev r32L (xs : List Int) : List Value := xs.map (.int .i32)
/-- The cells of tokens. -/
def tcell (t : Tok) : List Value := [i64 t.kind, .string t.text, i64 t.n, i64 t.line, i64 t.col]
def tc (T : List Tok) : List Value := T.flatMap tcell
theorem tc_length (T : List Tok) : (tc T).length = T.length * 5 := by
  induction T with
  | nil => rfl
  | cons t T ih => unfold tc at *; rw [List.flatMap_cons, List.length_append, ih, List.length_cons]; show 5 + _ = _; omega
theorem tc_append (a b : List Tok) : tc (a ++ b) = tc a ++ tc b := List.flatMap_append
theorem tc_one (t : Tok) : ∀ u ∈ tcell t, u.oneCell' = true := by
  intro u hu
  simp only [tcell, List.mem_cons, List.not_mem_nil, or_false] at hu
  rcases hu with rfl | rfl | rfl | rfl | rfl <;> rfl
theorem info_tok : (Tryd.prog.info? 28).map (fun i => (i.zero, i.size, i.bytes)) = some (some (.agg #[.int .i64 0, .string ByteArray.empty, .int .i64 0, .int .i64 0, .int .i64 0]), 5, 48) := by kernel_rfl
/-- A row of tokens of the call's own. -/
abbrev OwnT (w : World) (B : Nat) (v : Value) (T : List Tok) : Prop := w.ownsRow B 28 5 v T.length (tc T)
section
variable {w w' : World} {B B' : Nat} {v : Value} {T : List Tok}
theorem ownT_nil (w : World) (B : Nat) : OwnT w B (.slice none 0 0) [] := World.ownsRow_nil _ _ _ _
theorem ownT_mono (h : OwnT w B v T) (hB : B' ≤ B) : OwnT w B' v T := by
  obtain ⟨h0, h1 | ⟨g, cap, cur, e1, h2, h3⟩⟩ := h
  · exact ⟨h0, .inl h1⟩
  · exact ⟨h0, .inr ⟨g, cap, cur, e1, Nat.le_trans hB h2, h3⟩⟩
theorem ownT_kept (h : OwnT w B v T) (hb : ∀ g, v.ownBlock = some g → w'.heap[g]? = w.heap[g]?) : OwnT w' B v T := by
  obtain ⟨h0, h1 | ⟨g, cap, cur, rfl, h2, h3, h4⟩⟩ := h
  · exact ⟨h0, .inl h1⟩
  · exact ⟨h0, .inr ⟨g, cap, cur, rfl, h2, (hb g rfl).trans h3, h4⟩⟩
theorem ownT_form (h : OwnT w B v T) : ∃ p c, v = .slice p T.length c ∧ (p = none → T = [] ∧ c = 0) ∧ T.length ≤ c ∧ c ≤ maxLen := by
  obtain ⟨h0, ⟨rfl, h1⟩ | ⟨g, cap, cur, rfl, h2, h3, h4, h5, -⟩⟩ := h
  · obtain rfl := List.eq_nil_of_length_eq_zero h1
    exact ⟨none, 0, rfl, fun _ => ⟨rfl, rfl⟩, Nat.le_refl _, by unfold maxLen; omega⟩
  · exact ⟨_, _, rfl, (fun h => by cases h), h4, h5⟩
end
theorem ownT_slice {w : World} {B : Nat} {v : Value} {T : List Tok} (h : OwnT w B v T) : ∃ p n c, v = .slice p n c := by
  obtain ⟨p, c, e, -⟩ := ownT_form h
  exact ⟨p, _, c, e⟩
/-- A token that was laid in a new block. -/
theorem tok_new (w : World) (t : Tok) (ty : TypeId) : ∀ j u, (tcell t)[j]? = some u → (w.alloc (.cells (tcell t).toArray ty)).cell? ((⟨w.heap.size, 0, none⟩ : Addr).add j) = some u := by
  intro j u hu
  rw [Addr.add_lit, Nat.zero_add, cell_of_row _ w.heap.size j _ _ _ (MapKept.heap_alloc w _).1, ← hu]
  simp
/-- 'append(ts, t)', t in the new block X. -/
theorem app_tok {w : World} {B : Nat} {v : Value} {T : List Tok} (h : OwnT w B v T) (t : Tok) (X : Nat) (hX : ∀ j u, (tcell t)[j]? = some u → w.cell? ((⟨X, 0, none⟩ : Addr).add j) = some u) (hB : B ≤ w.heap.size) (hn : T.length ≤ 1000000) (ty : TypeId) :
    ∃ v' w', (Builtin.append_ #[23, 23] ty #[v, .slice (some ⟨X, 0, none⟩) 1 1]).run Tryd.prog w = .ok v' w' ∧ OwnT w' B v' (T ++ [t]) ∧ w.grownBy w' v.ownBlock ∧ (v'.ownBlock = v.ownBlock ∨ v'.ownBlock = some w.heap.size) := by
  obtain ⟨i, hi, hz0, hz1, hz2⟩ := info_parts info_tok
  obtain ⟨v', w', hr, h2, h3, -, h5⟩ := run_append_own_at (P := Tryd.prog) w B 23 ty 28 i _ 5 48 Tryd.underlying23 hi hz0 hz1 hz2 rfl (by decide) v T.length (tc T) h ⟨X, 0, none⟩ 1 1 (tcell t) rfl hX (tc_one t) (by unfold maxLen; omega) (by omega) hB
  refine ⟨v', w', hr, ?_, h3, h5⟩
  unfold OwnT
  rw [List.length_append, List.length_singleton, tc_append, show tc [t] = tcell t by simp [tc]]
  exact h2
/-- The same step where a region draws its order. -/
theorem step_appT {w : World} {B : Nat} {T : List Tok} {v : Value} {ops : Array Oper} {o : Oper} {a : Act} {Q : Exit → Act → World → Prop} {X : Prop} {J : Act → World → Prop} (hgd : o.guard = none) (s x : Operand)
    (ho : o.op = .call { callee := .builtin .append, args := #[s, x], argTypes := #[23, 23] }) (hB : B ≤ w.heap.size) (hs : a.eval s = v) (hown : OwnT w B v T) (t : Tok) (N : Nat)
    (hx : a.eval x = .slice (some ⟨N, 0, none⟩) 1 1) (hN : ∀ j u, (tcell t)[j]? = some u → w.cell? ((⟨N, 0, none⟩ : Addr).add j) = some u) (hn : T.length ≤ 1000000)
    (h : ∀ v' w', OwnT w' B v' (T ++ [t]) → w.grownBy w' v.ownBlock → (v'.ownBlock = v.ownBlock ∨ v'.ownBlock = some w.heap.size) → J (a.put o.dst v') w') :
    if Region.wanted o (yielded ops a.tmps) = true then Oper.wp Tryd.prog o a w J Q else X := by
  obtain ⟨v', w', hr, h1, h2, h3⟩ := app_tok hown t N hN hB hn o.type
  rw [if_pos (by simp [Region.wanted, hgd])]
  exact Lib.wp_append_run w s x _ _ ho v _ hs hx v' w' hr (h v' w' h1 h2 h3)
/-- A reader in block h: the runes L in block g, the rune k is next, at line l and column c; the tokens T in the slice v. -/
structure Rd (w : World) (B h g q : Nat) (L : List Int) (k : Nat) (l c : Int) (v : Value) (T : List Tok) : Prop where
  hd : w.heap[h]? = some (.cells #[.slice (some ⟨g, 0, none⟩) L.length q, i64 k, i64 l, i64 c, v] 42 (0, 0))
  gr : ∃ cur, w.heap[g]? = some (.cells cur 21 (0, 0)) ∧ cur.toList.take L.length = r32L L
  tk : OwnT w B v T
  bh : B ≤ h
  bg : B ≤ g
  ne : h ≠ g
  vh : v.ownBlock ≠ some h
  vg : v.ownBlock ≠ some g
  lq : L.length ≤ q
  lm : L.length ≤ 65537
  good : Good L
  kl : k < L.length
  cb : 1 ≤ c ∧ c ≤ k + 1
  lb : 1 ≤ l ∧ l ≤ 8001
section
variable {w w' : World} {B h g q k : Nat} {L : List Int} {l c : Int} {v : Value} {T : List Tok}
theorem Rd.lt (R : Rd w B h g q L k l c v T) : h < w.heap.size ∧ g < w.heap.size ∧ ∀ i, v.ownBlock = some i → i < w.heap.size :=
  ⟨(Array.getElem?_eq_some_iff.1 R.hd).1, by obtain ⟨cur, e, -⟩ := R.gr; exact (Array.getElem?_eq_some_iff.1 e).1, fun i hi => (R.tk.lt i hi).2⟩
theorem Rd.kept {S : Nat → Prop} (R : Rd w B h g q L k l c v T) (b : But S w w') (h1 : ¬ S h) (h2 : ¬ S g) (h3 : ∀ i, v.ownBlock = some i → ¬ S i) : Rd w' B h g q L k l c v T := by
  obtain ⟨l1, l2, l3⟩ := R.lt
  obtain ⟨cur, e1, e2⟩ := R.gr
  exact ⟨(b.block h l1 h1).trans R.hd, ⟨cur, (b.block g l2 h2).trans e1, e2⟩, ownT_kept R.tk fun i hi => b.block i (l3 i hi) (h3 i hi), R.bh, R.bg, R.ne, R.vh, R.vg, R.lq, R.lm, R.good, R.kl, R.cb, R.lb⟩
theorem Rd.later (R : Rd w B h g q L k l c v T) (b : But (fun _ => False) w w') : Rd w' B h g q L k l c v T := R.kept b id id fun _ _ => id
theorem Rd.below (R : Rd w B h g q L k l c v T) {N : Nat} (b : Below N w w') (hN : w.heap.size ≤ N) : Rd w' B h g q L k l c v T := R.later (But.of b hN)
theorem Rd.c0 (R : Rd w B h g q L k l c v T) : w.cell? ⟨h, 0, none⟩ = some (.slice (some ⟨g, 0, none⟩) L.length q) := by rw [cell_of_row w h 0 _ _ _ R.hd]; rfl
theorem Rd.c1 (R : Rd w B h g q L k l c v T) : w.cell? ⟨h, 1, none⟩ = some (i64 k) := by rw [cell_of_row w h 1 _ _ _ R.hd]; rfl
theorem Rd.c2 (R : Rd w B h g q L k l c v T) : w.cell? ⟨h, 2, none⟩ = some (i64 l) := by rw [cell_of_row w h 2 _ _ _ R.hd]; rfl
theorem Rd.c3 (R : Rd w B h g q L k l c v T) : w.cell? ⟨h, 3, none⟩ = some (i64 c) := by rw [cell_of_row w h 3 _ _ _ R.hd]; rfl
theorem Rd.c4 (R : Rd w B h g q L k l c v T) : w.cell? ⟨h, 4, none⟩ = some v := by rw [cell_of_row w h 4 _ _ _ R.hd]; rfl
theorem Rd.fr (R : Rd w B h g q L k l c v T) (i : Nat) : w.frozen? ⟨h, i, none⟩ = false := by simp [World.frozen?, R.hd]
theorem hd_get {L : List Int} {i : Nat} (hi : i < L.length) : L[i]? = some (hd (L.drop i)) := by
  unfold hd
  rw [List.drop_eq_getElem_cons hi, List.headD_cons, List.getElem?_eq_getElem hi]
/-- The rune at i. -/
theorem Rd.cell (R : Rd w B h g q L k l c v T) {i : Nat} (hi : i < L.length) : w.cell? ⟨g, i, none⟩ = some (i32 (Lex.hd (L.drop i))) := by
  obtain ⟨cur, e1, e2⟩ := R.gr
  rw [cell_of_row w g i _ _ _ e1]
  have e : (cur.toList.take L.length)[i]? = (r32L L)[i]? := by rw [e2]
  rw [List.getElem?_take_of_lt hi, List.getElem?_map, hd_get hi] at e
  simpa using e
theorem Rd.hd_bd (R : Rd w B h g q L k l c v T) : -2 ≤ Lex.hd (L.drop k) ∧ Lex.hd (L.drop k) ≤ 1114111 := (R.good.drop k R.kl).hd_bd
/-- Runes of it, as a text. -/
theorem Rd.conv (R : Rd w B h g q L k l c v T) (i n cp : Nat) (hi : i + n ≤ L.length) : (convert 37 9 (.slice (some ⟨g, i, none⟩) n cp)).run Tryd.prog w = .ok (.string (txt ((L.drop i).take n))) w := by
  have hl : ((L.drop i).take n).length = n := by rw [List.length_take, List.length_drop]; omega
  rw [run_convert_runes w 37 9 21 ⟨g, i, none⟩ n cp ((L.drop i).take n) (by omega) Tryd.underlying37 Tryd.underlying21 Tryd.underlying9 ?_, runesBytes_txt, List.take_take, Nat.min_self]
  intro j hj
  rw [hl] at hj
  rw [Addr.add_lit, R.cell (i := i + j) (by omega)]
  congr 2
  rw [List.getD_eq_getElem?_getD, List.getElem?_take_of_lt hj, List.getElem?_drop, hd_get (by omega)]
  rfl
/-- One rune further. -/
theorem Rd.next (R : Rd w B h g q L k l c v T) (h0 : 0 ≤ Lex.hd (L.drop k)) : Rd ((w.setCell ⟨h, 1, none⟩ (i64 (k + 1))).setCell ⟨h, 3, none⟩ (i64 (c + 1))) B h g q L (k + 1) l (c + 1) v T := by
  have b : But (fun i => i = h) w ((w.setCell ⟨h, 1, none⟩ (i64 (k + 1))).setCell ⟨h, 3, none⟩ (i64 (c + 1))) := ((But.refl (fun i => i = h) w).setCell ⟨h, 1, none⟩ rfl _).setCell ⟨h, 3, none⟩ rfl _
  obtain ⟨l1, l2, l3⟩ := R.lt
  obtain ⟨cur, e1, e2⟩ := R.gr
  have hd := setCell_row (setCell_row R.hd 1 (i64 (k + 1))) 3 (i64 (c + 1))
  refine ⟨hd, ⟨cur, (b.block g l2 (fun e => R.ne e.symm)).trans e1, e2⟩, ownT_kept R.tk fun i hi => b.block i (l3 i hi) (fun e => R.vh (by rw [hi, e])), R.bh, R.bg, R.ne, R.vh, R.vg, R.lq, R.lm, R.good, R.good.more k R.kl h0, ?_, R.lb⟩
  have := R.cb
  omega
/-- Behind a line's end. -/
theorem Rd.line (R : Rd w B h g q L k l c v T) (h0 : 0 ≤ Lex.hd (L.drop k)) (hl : l ≤ 8000) {w' : World} (hw : w'.heap[h]? = some (.cells #[.slice (some ⟨g, 0, none⟩) L.length q, i64 (k + 1), i64 (l + 1), i64 1, v] 42 (0, 0))) (b : But (fun i => i = h) w w') : Rd w' B h g q L (k + 1) (l + 1) 1 v T := by
  obtain ⟨l1, l2, l3⟩ := R.lt
  obtain ⟨cur, e1, e2⟩ := R.gr
  refine ⟨hw, ⟨cur, (b.block g l2 (fun e => R.ne e.symm)).trans e1, e2⟩, ownT_kept R.tk fun i hi => b.block i (l3 i hi) (fun e => R.vh (by rw [hi, e])), R.bh, R.bg, R.ne, R.vh, R.vg, R.lq, R.lm, R.good, R.good.more k R.kl h0, by omega, ?_⟩
  have := R.lb
  omega
/-- With another slice of tokens. -/
theorem Rd.put (R : Rd w B h g q L k l c v T) {v' : Value} {T' : List Tok} (b : But (fun i => v.ownBlock = some i) w w') (hv : v'.ownBlock = v.ownBlock ∨ ∃ i, v'.ownBlock = some i ∧ w.heap.size ≤ i) (ht : OwnT w' B v' T') :
    Rd (w'.setCell ⟨h, 4, none⟩ v') B h g q L k l c v' T' ∧ But (fun i => i = h ∨ v.ownBlock = some i) w (w'.setCell ⟨h, 4, none⟩ v') := by
  obtain ⟨l1, l2, l3⟩ := R.lt
  obtain ⟨cur, e1, e2⟩ := R.gr
  have nh : v'.ownBlock ≠ some h := by
    rcases hv with e | ⟨i, e, hi⟩
    · rw [e]; exact R.vh
    · rw [e]; intro e'; have := Option.some.inj e'; omega
  have ng : v'.ownBlock ≠ some g := by
    rcases hv with e | ⟨i, e, hi⟩
    · rw [e]; exact R.vg
    · rw [e]; intro e'; have := Option.some.inj e'; omega
  have hd := setCell_row ((b.block h l1 R.vh).trans R.hd) 4 v'
  refine ⟨⟨hd, ⟨cur, ?_, e2⟩, ?_, R.bh, R.bg, R.ne, nh, ng, R.lq, R.lm, R.good, R.kl, R.cb, R.lb⟩, But.setCell (S := fun i => i = h ∨ v.ownBlock = some i) (b.mono fun i hi => Or.inr hi) ⟨h, 4, none⟩ (.inl rfl) _⟩
  · rw [Below.heap_setCell _ _ _ _ (fun e => R.ne e.symm)]
    exact (b.block g l2 R.vg).trans e1
  · exact ownT_kept ht fun i hi => Below.heap_setCell _ _ _ _ (fun e => nh (by rw [hi, e]))
end
/-- Where the new slice of tokens lies. -/
def NewOwn (w : World) (v v' : Value) : Prop := v'.ownBlock = v.ownBlock ∨ ∃ i, v'.ownBlock = some i ∧ w.heap.size ≤ i
/-- What is left behind the last store, into the fault's block. -/
theorem Rd.fin {w w3 w4 wf : World} {B h g q : Nat} {L : List Int} {v v4 : Value} {T4 : List Tok} {k4 : Nat} {l4 c4 : Int} {Z : Nat} (hz : h < w.heap.size ∧ g < w.heap.size ∧ ∀ i, v.ownBlock = some i → i < w.heap.size) (hZ : w.heap.size ≤ Z) (hl : Z < w3.heap.size) (Hb : But (fun i => i = h) w w3)
    (K4 : Rd w4 B h g q L k4 l4 c4 v4 T4) (K5 : But (fun i => i = h ∨ v.ownBlock = some i) w3 w4) (K6 : NewOwn w3 v v4) (bz : But (fun i => i = Z) w4 wf) :
    Rd wf B h g q L k4 l4 c4 v4 T4 ∧ But (fun i => (i = h ∨ v.ownBlock = some i) ∨ w.heap.size ≤ i) w wf := by
  obtain ⟨z1, z2, z3⟩ := hz
  refine ⟨K4.kept bz (by omega) (by omega) fun i hi e => ?_, ?_⟩
  · rcases K6 with h6 | ⟨j, h6, h7⟩
    · have := z3 i (by rw [← h6]; exact hi); omega
    · have := Option.some.inj (hi.symm.trans h6); omega
  · exact (Hb.then K5 (T := fun i => (i = h ∨ v.ownBlock = some i) ∨ w.heap.size ≤ i) (fun i h => .inl (.inl h)) (fun i _ h => .inl h)).then bz (fun _ h => h) (fun i _ h => by subst h; exact .inr hZ)
theorem zset (w : World) (Z : Nat) (a b c : Value) : But (fun i => i = Z) w (((w.setCell ⟨Z, 0, none⟩ a).setCell ⟨Z, 1, none⟩ b).setCell ⟨Z, 2, none⟩ c) :=
  But.setCell (But.setCell (But.setCell (But.refl (fun i => i = Z) w) ⟨Z, 0, none⟩ rfl _) ⟨Z, 1, none⟩ rfl _) ⟨Z, 2, none⟩ rfl _
theorem Rd.frz {w w' : World} {B h g q k : Nat} {L : List Int} {l c : Int} {v : Value} {T : List Tok} (R : Rd w B h g q L k l c v T) (b : But (fun i => v.ownBlock = some i) w w') : w'.frozen? ⟨h, 4, none⟩ = false := by
  have := (b.block h R.lt.1 R.vh).trans R.hd
  simp [World.frozen?, this]
theorem grown_tok {w u : World} {o : Obj} {v : Value} (h : ((w.alloc o).drew).grownBy u v.ownBlock) : But (fun i => v.ownBlock = some i) w u :=
  (((But.refl _ w).alloc o).drew).grown h fun _ e => e
theorem grown_own {w : World} {o : Obj} {v v' : Value} (h : v'.ownBlock = v.ownBlock ∨ v'.ownBlock = some ((w.alloc o).drew).heap.size) : v'.ownBlock = v.ownBlock ∨ ∃ i, v'.ownBlock = some i ∧ w.heap.size ≤ i := by
  rcases h with h | h
  · exact .inl h
  · refine .inr ⟨_, h, ?_⟩
    show w.heap.size ≤ (w.alloc o).heap.size
    simp
section
variable {w : World} {B h g q k : Nat} {L : List Int} {l c : Int} {v : Value} {T : List Tok}
set_option maxRecDepth 100000 in
theorem now_says (R : Rd w B h g q L k l c v T) : Calls Tryd.prog 11 #[.pointer (some ⟨h, 0, none⟩)] w fun e w' => e = .returned (i32 (hd (L.drop k))) ∧ w' = w.drew := by
  have c0 := R.c0; have c1 := R.c1
  have cc := R.cell R.kl
  have hq := R.lq; have hm := R.lm; have hk := R.kl
  obtain ⟨x, hx⟩ : ∃ x, hd (L.drop k) = x := ⟨_, rfl⟩
  rw [hx] at cc ⊢
  obtain ⟨N, hN⟩ : ∃ N, L.length = N := ⟨_, rfl⟩
  rw [hN] at c0 hq hm hk
  clear R hx hN
  go_enter Tryd.func11, Tryd.ntmps11
  go_wp2
  go_region
  go_wp2
  go_ret
  exact ⟨rfl, rfl⟩
set_option maxRecDepth 100000 in
theorem next_says (R : Rd w B h g q L k l c v T) (h0 : 0 ≤ hd (L.drop k)) : Calls Tryd.prog 24 #[.pointer (some ⟨h, 0, none⟩)] w fun e w' => e = .returned (.tuple #[]) ∧ Rd w' B h g q L (k + 1) l (c + 1) v T ∧ But (fun i => i = h) w w' := by
  have c1 := R.c1; have c3 := R.c3; have f1 := R.fr 1; have f3 := R.fr 3
  have hk : (k : Int) ≤ 65537 := by have := R.lm; have := R.kl; omega
  have hk0 : (0 : Int) ≤ (k : Int) := Int.natCast_nonneg k
  have hc := R.cb
  obtain ⟨r, hr⟩ : ∃ r : Ending → World → Prop, r = fun e w' => e = .returned (.tuple #[]) ∧ Rd w' B h g q L (k + 1) l (c + 1) v T ∧ But (fun i => i = h) w w' := ⟨_, rfl⟩
  rw [← hr]
  have hout : r (.returned (.tuple #[])) ((w.setCell ⟨h, 1, none⟩ (i64 (k + 1))).setCell ⟨h, 3, none⟩ (i64 (c + 1))) := by
    rw [hr]
    exact ⟨rfl, R.next h0, ((But.refl (fun i => i = h) w).setCell ⟨h, 1, none⟩ rfl _).setCell ⟨h, 3, none⟩ rfl _⟩
  clear R hr h0
  obtain ⟨kk, hkk⟩ : ∃ kk : Int, (k : Int) = kk := ⟨_, rfl⟩
  rw [hkk] at *
  obtain ⟨hc1, hc2⟩ := hc
  clear hkk
  go_enter Tryd.func24, Tryd.ntmps24
  go_wp2
  go_end0
  exact hout
end
end Go.Proofs.YtgikcciakbnehaaDoor.Lex
