
/-
  The law's Same: two rows of tokens are one.
-/
import Derived.Test.YtgikcciakbnehaaDoorLexXu
import Derived.Test.YtgikcciakbnehaaDoorLexAl
set_option maxRecDepth 100000
namespace Go.Proofs.YtgikcciakbnehaaDoor.Lex
open Go.Proofs.YtgikcciakbnehaaDoor Go.Proofs.YtgikcciakbnehaaDoor.Ser
open Go.ChangeShapes Go.WideShapes Go.ChangeAt Go.RowKit
set_option linter.unusedVariables false
set_option maxRecDepth 100000 in
set_option maxHeartbeats 4000000 in
theorem same_says {w : World} {B1 B2 : Nat} {p1 p2 : Option Addr} {q1 q2 : Nat} {A C : List Tok} (hA : OwnT w B1 (.slice p1 A.length q1) A) (hC : OwnT w B2 (.slice p2 A.length q2) C) (hs : SameL C A) (hl : A.length ≤ 100000) :
    Calls Tryd.prog 9 #[.slice p1 A.length q1, .slice p2 A.length q2] w fun e w' => e = .returned (.bool true) ∧ Below w.heap.size w w' := by
  obtain ⟨r, hr⟩ : ∃ r : Ending → World → Prop, r = fun e w' => e = .returned (.bool true) ∧ Below w.heap.size w w' := ⟨_, rfl⟩
  rw [← hr]
  have HO := Lib.hid (fun u (b : Below w.heap.size w u) => (by rw [hr]; exact ⟨rfl, b⟩ : r (.returned (.bool true)) u))
  have HA := Lib.hid (fun i t (h : A[i]? = some t) => ownT_at hA h)
  have HC := Lib.hid (fun i t (h : C[i]? = some t) => ownT_at hC h)
  have HS := Lib.hid hs
  obtain ⟨n, hn⟩ : ∃ n, A.length = n := ⟨_, rfl⟩
  have HN := Lib.hid hn
  rw [hn] at hl ⊢
  clear hr hA hC hs hn
  have n0 : (0 : Int) ≤ (n : Int) := Int.natCast_nonneg n
  go_enter Tryd.func9, Tryd.ntmps9
  go_wp2_with fail
  go_loopw [5] (fun s5 wr => ∃ i : Nat, i ≤ n ∧ s5 = i64 (i : Int) ∧ Below w.heap.size w wr) (fun s5 _ => n - (intOf s5).toNat)
  case atStart => exact ⟨0, Nat.zero_le _, rfl, Below.refl _ _⟩
  case round =>
    obtain ⟨i, hi, rfl, hb⟩ := hrel
    have HB := Lib.hid hb
    clear hb
    have i0 : (0 : Int) ≤ (i : Int) := Int.natCast_nonneg i
    by_cases hin : i < n
    · have hinI : (i : Int) < (n : Int) := by omega
      obtain ⟨t, ht⟩ : ∃ t, A[i]? = some t := ⟨A[i]'(by rw [HN.out]; exact hin), List.getElem?_eq_getElem _⟩
      obtain ⟨u, hu⟩ : ∃ u, C[i]? = some u := ⟨C[i]'(by rw [HS.out.1, HN.out]; exact hin), List.getElem?_eq_getElem _⟩
      obtain ⟨g1, rfl, ta⟩ := HA.out i t ht
      obtain ⟨g2, rfl, tb⟩ := HC.out i u hu
      obtain ⟨e1, e2, e3, e4, e5⟩ := HS.out.2 i u t hu ht
      replace ta := ta.later HB.out
      replace tb := tb.later HB.out
      have a0 := ta.kind; have a1 := ta.text; have a2 := ta.n; have a3 := ta.line; have a4 := ta.col
      have b0 := tb.kind; have b1 := tb.text; have b2 := tb.n; have b3 := tb.line; have b4 := tb.col
      rw [e1] at b0
      rw [e2] at b2
      rw [e3] at b3
      rw [e4] at b4
      clear ta tb
      go_upto_region 7 with fail
      obtain ⟨w5, hw5⟩ : ∃ w5, w5 = wr.alloc (.cells #[i64 t.kind, .string t.text, i64 t.n, i64 t.line, i64 t.col] 28) := ⟨_, rfl⟩
      have T5 : Tk w5 wr.heap.size t := by rw [hw5]; exact (MapKept.heap_alloc wr _).1
      have k5 : But (fun _ => False) wr w5 := by rw [hw5]; exact (But.refl _ wr).alloc _
      obtain ⟨X, hX⟩ : ∃ X, wr.heap.size = X := ⟨_, rfl⟩
      replace b0 := k5.cell b0 id
      replace b1 := k5.cell b1 id
      replace b2 := k5.cell b2 id
      replace b3 := k5.cell b3 id
      replace b4 := k5.cell b4 id
      have K5 := Lib.hid k5
      rw [hX] at T5 ⊢
      rw [← hw5]
      clear hw5 a0 a1 a2 a3 a4 k5 hX
      go_upto_region 8 with fail
      obtain ⟨w6, hw6⟩ : ∃ w6, w6 = w5.alloc (.cells #[i64 t.kind, .string u.text, i64 t.n, i64 t.line, i64 t.col] 28) := ⟨_, rfl⟩
      have T6 : Tk w6 w5.heap.size ⟨t.kind, u.text, t.n, t.line, t.col⟩ := by rw [hw6]; exact (MapKept.heap_alloc w5 _).1
      have k6 : But (fun _ => False) w5 w6 := by rw [hw6]; exact (But.refl _ w5).alloc _
      have T5' : Tk w6 X t := (k6.block X (Array.getElem?_eq_some_iff.1 T5).1 id).trans T5
      obtain ⟨Y, hY⟩ : ∃ Y, w5.heap.size = Y := ⟨_, rfl⟩
      have K6 := Lib.hid k6
      rw [hY] at T6 ⊢
      rw [← hw6]
      have a0 := T5'.c0; have a1 := T5'.c1; have a2 := T5'.c2; have a3 := T5'.c3; have a4 := T5'.c4
      have c0 := T6.c0; have c1 := T6.c1; have c2 := T6.c2; have c3 := T6.c3; have c4 := T6.c4
      clear hw6 b0 b1 b2 b3 b4 k6 hY T5 T6 T5'
      obtain ⟨tk, tt, tn, tl, tc⟩ := t
      obtain ⟨uk, ut, un, ul, uc⟩ := u
      dsimp only at a0 a1 a2 a3 a4 c0 c1 c2 c3 c4 e1 e5
      have HBW := Lib.hid (show Below w.heap.size w w6 from HB.out.trans ((K5.out.trans K6.out).below HB.out.size (fun _ h => h.elim)))
      by_cases h2 : tk = 2
      · subst h2
        clear e1 e2 e3 e4 e5 ht hu
        go_wp2_with fail
        go_roundw
        case rel => exact ⟨i + 1, hin, by simp, HBW.out⟩
        case measure => simp [intOf]; omega
      · have h2' : (tk != 2) = true := by simpa using h2
        obtain rfl : ut = tt := by rcases e5 with e5 | e5; exact absurd (e1.symm.trans e5) h2; exact e5
        clear e1 e2 e3 e4 e5 ht hu h2
        go_wp2_with fail
        go_roundw
        case rel => exact ⟨i + 1, hin, by simp, HBW.out⟩
        case measure => simp [intOf]; omega
    · obtain rfl : i = n := by omega
      go_wp2_with fail
      first | exact HO.out _ HB.out | (go_ret; exact HO.out _ HB.out) | exact bodyPost_ret (v := .bool true) (by simp [results, Tryd.results9, go_sem]) rfl (HO.out _ HB.out)
end Go.Proofs.YtgikcciakbnehaaDoor.Lex
