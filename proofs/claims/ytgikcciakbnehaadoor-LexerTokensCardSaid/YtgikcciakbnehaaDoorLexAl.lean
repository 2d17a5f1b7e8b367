
/-
  The laws' common part: the cells of a row of tokens, num, alive; the frame of the tied cards.
-/
import Derived.Test.YtgikcciakbnehaaDoorLexTo
import Derived.Lib.LaidU8
import Derived.LaidMore
import Derived.Stop.Joined
import Derived.Stop.LaidErr
import Derived.MakeChecks
import Derived.Deep.Fields
import Derived.Test.YtgikcciakbnehaaDoorRows
set_option maxRecDepth 100000
namespace Go.Proofs.YtgikcciakbnehaaDoor.Lex
open Go.Proofs.YtgikcciakbnehaaDoor Go.Proofs.YtgikcciakbnehaaDoor.Ser
open Go.ChangeShapes Go.WideShapes Go.ChangeAt Go.RowKit
/-- The cells of the token i. -/
structure TokAt (w : World) (g i : Nat) (t : Tok) : Prop where
  kind : w.cell? ⟨g, i * 5, none⟩ = some (i64 t.kind)
  text : w.cell? ⟨g, i * 5 + 1, none⟩ = some (.string t.text)
  n : w.cell? ⟨g, i * 5 + 2, none⟩ = some (i64 t.n)
  line : w.cell? ⟨g, i * 5 + 3, none⟩ = some (i64 t.line)
  col : w.cell? ⟨g, i * 5 + 4, none⟩ = some (i64 t.col)
theorem tc_get : ∀ (T : List Tok) (i j : Nat) (t : Tok), T[i]? = some t → j < 5 → (tc T)[i * 5 + j]? = (tcell t)[j]?
  | [], i, j, t, h, _ => by simp at h
  | a :: T, 0, j, t, h, hj => by
    simp only [List.getElem?_cons_zero, Option.some.injEq] at h
    subst h
    unfold tc
    rw [List.flatMap_cons, Nat.zero_mul, Nat.zero_add, List.getElem?_append_left (by simpa [tcell] using hj)]
  | a :: T, i + 1, j, t, h, hj => by
    have := tc_get T i j t (by simpa using h) hj
    unfold tc at *
    rw [List.flatMap_cons, List.getElem?_append_right (by simp [tcell]; omega)]
    rw [show (i + 1) * 5 + j - (tcell a).length = i * 5 + j by simp [tcell]; omega]
    exact this
theorem ownT_at {w : World} {B : Nat} {p : Option Addr} {n q : Nat} {T : List Tok} (h : OwnT w B (.slice p n q) T) {i : Nat} {t : Tok} (hi : T[i]? = some t) : ∃ g, p = some ⟨g, 0, none⟩ ∧ TokAt w g i t := by
  have hlt : i < T.length := (List.getElem?_eq_some_iff.1 hi).1
  obtain ⟨h0, ⟨h1, h2⟩ | ⟨g, cap, cur, e, h2, h3, h4, h5, h6, h7⟩⟩ := h
  · omega
  · injection e with e1 e2 e3
    refine ⟨g, e1, ?_⟩
    have key : ∀ j, j < 5 → w.cell? ⟨g, i * 5 + j, none⟩ = (tcell t)[j]? := by
      intro j hj
      rw [cell_of_row w g (i * 5 + j) _ _ _ h3, ← Array.getElem?_toList, ← tc_get T i j t hi hj, ← h7, List.getElem?_take_of_lt (by omega)]
    exact ⟨key 0 (by decide), key 1 (by decide), key 2 (by decide), key 3 (by decide), key 4 (by decide)⟩
theorem ownT_len {w : World} {B : Nat} {v : Value} {T : List Tok} (h : OwnT w B v T) : ∃ p q, v = .slice p T.length q ∧ T.length ≤ q := by
  obtain ⟨p, c, e, -, h2, -⟩ := ownT_form h
  exact ⟨p, c, e, h2⟩
theorem TokAt.later {w w' : World} {g i : Nat} {t : Tok} (h : TokAt w g i t) (hb : Below w.heap.size w w') : TokAt w' g i t := by
  have key : ∀ a v, w.cell? a = some v → w'.cell? a = some v := fun a v hc => by
    rw [World.cell?_of_block (hb.block a.block (World.block_lt_of_cell? w a hc))]; exact hc
  exact ⟨key _ _ h.kind, key _ _ h.text, key _ _ h.n, key _ _ h.line, key _ _ h.col⟩
theorem num_says (x : Int) (w : World) : Calls Tryd.prog 8 #[i64 x] w fun e w' => e = .returned (i64 x) ∧ w = w' := by
  go_enter Tryd.func8, Tryd.ntmps8
  go_wp2
  go_ret
  exact ⟨rfl, rfl⟩
/-- The document's example. -/
def aliveB : ByteArray := ⟨#[108, 105, 32, 114, 49, 44, 32, 48, 120, 49, 48, 32, 59, 32, 120]⟩
def aliveT : List Tok := [⟨1, ⟨#[108, 105]⟩, 0, 1, 1⟩, ⟨1, ⟨#[114, 49]⟩, 0, 1, 4⟩, ⟨4, ⟨#[44]⟩, 0, 1, 6⟩, ⟨2, ⟨#[]⟩, 16, 1, 8⟩, ⟨6, ⟨#[]⟩, 0, 1, 16⟩]
theorem alive_lex : lexS aliveB = (aliveT, 0, 0, 0) := by kernel_rfl
set_option maxRecDepth 100000 in
set_option maxHeartbeats 4000000 in
theorem alive_says (w : World) (hT : U8 w) : Calls Tryd.prog 5 #[] w fun e w' => e = .returned (.bool true) ∧ Below w.heap.size w w' := by
  have hk := Lib.hid (tokens_says aliveB w hT)
  rw [alive_lex] at hk
  clear hT
  go_enter Tryd.func5, Tryd.ntmps5
  go_upto_region 2 with (go_at_call 6; refine hk.out.mono ?_; rintro e w1 ⟨v, rfl, ho, hb⟩)
  obtain ⟨p, q, rfl, hq⟩ := ownT_len ho
  rw [show aliveT.length = 5 from rfl] at ho ⊢
  obtain ⟨g, rfl, t0⟩ := ownT_at ho (i := 0) rfl
  obtain ⟨g', e1, t3⟩ := ownT_at ho (i := 3) rfl
  obtain ⟨g'', e2, t4⟩ := ownT_at ho (i := 4) rfl
  injection e1 with e1; injection e1 with e1; subst e1
  injection e2 with e2; injection e2 with e2; subst e2
  have x0 := t0.text; have x3 := t3.n; have x4 := t4.kind
  have hq5 : 5 ≤ q := hq
  clear t0 t3 t4 ho hk hq
  go_wp2_with (go_at_call 8; refine (num_says _ _).mono ?_; rintro e w2 ⟨rfl, rfl⟩)
  go_ret
  exact ⟨rfl, hb⟩
theorem own : ownKnob Tryd.prog.godebug = none := by kernel_rfl
/-- The listed tables. -/
def laid2 : List (String × DataW Unit) := [("unicode/utf8.acceptRanges", Rows.laid_unicode_utf8_acceptRanges), ("unicode/utf8.first", Rows.laid_unicode_utf8_first)]
theorem first_laid : (Rows.laid_unicode_utf8_first : DataW Unit) = Lib.firstData := by kernel_rfl
theorem accept_laid : (Rows.laid_unicode_utf8_acceptRanges : DataW Unit) = Lib.acceptData := by kernel_rfl
/-- What the condition gives the walks. -/
theorem tab_of_laid {W : World} (h : laidMetH Tryd.prog laid2 W) : U8 W := by
  rw [MakeChecks.laidMetH_plain _ _ _ (by kernel_rfl)] at h
  unfold laid2 at h
  rw [first_laid, accept_laid] at h
  exact utf8Tabs_of_reads Tryd.lays260 ⟨by kernel_rfl, by kernel_rfl, by kernel_rfl, by kernel_rfl, by kernel_rfl, by kernel_rfl, by kernel_rfl⟩ (Lib.laidMet.reads h (.tail _ (.head _))) (Lib.laidMet.reads h (.head _))
end Go.Proofs.YtgikcciakbnehaaDoor.Lex
