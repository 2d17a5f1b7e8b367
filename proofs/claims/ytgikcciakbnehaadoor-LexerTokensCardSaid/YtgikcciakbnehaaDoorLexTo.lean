
/-
  Package lexer: Tokens.
-/
import Derived.Test.YtgikcciakbnehaaDoorLexRr
import Derived.Test.YtgikcciakbnehaaDoorLexRu
set_option maxRecDepth 100000
namespace Go.Proofs.YtgikcciakbnehaaDoor.Lex
open Go.Proofs.YtgikcciakbnehaaDoor Go.Proofs.YtgikcciakbnehaaDoor.Ser
open Go.ChangeShapes Go.WideShapes Go.ChangeAt Go.RowKit
theorem tw_pos (p : Int → Bool) {M : List Int} (hM : M ≠ []) (h : p (hd M) = true) : 1 ≤ (M.takeWhile p).length := by
  cases M with
  | nil => exact absurd rfl hM
  | cons a M =>
    rw [List.takeWhile_cons, if_pos (by simpa [hd] using h)]
    simp
theorem strGo_ge : ∀ (f : Nat) (R : List Int) (k : Nat) (ns : List Int), k ≤ (strGo f R k ns).2.1
  | 0, _, _, _ => Nat.le_refl _
  | f + 1, R, k, ns => by
    unfold strGo
    split
    · exact Nat.le_succ _
    · split
      · exact Nat.le_trans (Nat.le_add_right _ _) (strGo_ge f R _ _)
      · exact Nat.le_add_right _ _
theorem wrong_e (T : List Int) (l c fl fc : Int) : (wrong T l c fl fc).e ≠ 0 := by have := wrong_ne T l c fl fc; simpa using this
/-- A step that is no error passes a rune at least, and brings one token at most. -/
theorem step_k {M : List Int} {l c : Int} (hM : M ≠ []) (h0 : (stepO M l c).e = 0) : 1 ≤ (stepO M l c).k ∧ (stepO M l c).ts.length ≤ 1 := by
  unfold stepO at h0 ⊢
  split
  · exact ⟨Nat.le_refl _, by simp [okO]⟩
  · rename_i h1; rw [if_neg h1] at h0
    split
    · rename_i h2
      refine ⟨?_, by simp [okO]⟩
      show 1 ≤ remLen M
      exact tw_pos _ hM (by rw [h2]; decide)
    · rename_i h2; rw [if_neg h2] at h0
      split
      · rename_i h3; rw [if_pos h3] at h0
        split
        · rename_i h4; rw [if_pos h4] at h0; simp [errO] at h0
        · exact ⟨Nat.le_refl _, by simp⟩
      · rename_i h3; rw [if_neg h3] at h0
        split
        · rename_i h4; rw [if_pos h4] at h0
          unfold nameO at h0 ⊢
          split
          · rename_i h5; rw [if_pos h5] at h0; simp [errO] at h0
          · refine ⟨?_, by simp [okO]⟩
            show 1 ≤ nameLen M
            exact tw_pos _ hM (by unfold ld; rw [h4]; rfl)
        · rename_i h4; rw [if_neg h4] at h0
          split
          · rename_i h5; rw [if_pos h5] at h0
            unfold numO at h0 ⊢
            split
            · rename_i h6; rw [if_pos h6] at h0; simp [errO] at h0
            · rename_i h6; rw [if_neg h6] at h0
              split
              · rename_i h7; rw [if_pos h7] at h0; simp [errO] at h0
              · refine ⟨?_, by simp [okO]⟩
                show 1 ≤ numLen M
                unfold numLen
                by_cases hb : base M = 16
                · unfold pre; rw [if_pos hb]; omega
                · have hb10 : base M = 10 := by rcases base_two M with h | h; exact h; exact absurd h hb
                  have hp : pre M = 0 := by unfold pre; rw [if_neg hb]
                  rw [hp, hb10, List.drop_zero]
                  have : 1 ≤ (digs 10 M).length := by
                    refine tw_pos _ hM ?_
                    have h8 : 48 ≤ hd M ∧ hd M ≤ 57 := by unfold dig at h5; simpa using h5
                    unfold isd hexv
                    rw [h5]
                    simp only [if_true, Bool.and_eq_true, decide_eq_true_eq]
                    omega
                  omega
          · rename_i h5; rw [if_neg h5] at h0
            split
            · rename_i h6; rw [if_pos h6] at h0
              unfold charO at h0 ⊢
              simp only at h0 ⊢
              split
              · rename_i h7; rw [if_pos h7] at h0; exact absurd h0 (wrong_e _ _ _ _ _)
              · rename_i h7; rw [if_neg h7] at h0
                split
                · rename_i h8; rw [if_pos h8] at h0; exact absurd h0 (wrong_e _ _ _ _ _)
                · exact ⟨by show 1 ≤ 2 + _; omega, by simp [okO]⟩
            · rename_i h6; rw [if_neg h6] at h0
              split
              · rename_i h7; rw [if_pos h7] at h0
                unfold strO at h0 ⊢
                simp only at h0 ⊢
                split
                · rename_i h8; rw [if_pos h8] at h0; exact absurd h0 (wrong_e _ _ _ _ _)
                · exact ⟨strGo_ge _ _ _ _, by simp [okO]⟩
              · rename_i h7; rw [if_neg h7] at h0
                split
                · exact ⟨Nat.le_refl _, by simp [okO]⟩
                · rename_i h8; rw [if_neg h8] at h0; exact absurd h0 (wrong_e _ _ _ _ _)
/-- What Tokens answers. -/
def TkA (W : World) (z : List Tok × Int × Int × Int) (e : Ending) (w' : World) : Prop := ∃ v, e = .returned (.tuple #[v, i64 z.2.1, i64 z.2.2.1, i64 z.2.2.2]) ∧ OwnT w' W.heap.size v z.1 ∧ Below W.heap.size W w'
/-- A new reader. -/
theorem rd_new {W w : World} {s : ByteArray} {v : Value} (hs : s.size ≤ 65536) (ho : OwnK 21 .i32 w W.heap.size v (rs s.data.toList)) (hb : W.heap.size ≤ w.heap.size) : ∃ g q, v = .slice (some ⟨g, 0, none⟩) (rs s.data.toList).length q ∧
    Rd (w.alloc (.cells #[.slice (some ⟨g, 0, none⟩) (rs s.data.toList).length q, i64 0, i64 1, i64 1, .slice none 0 0] 42)) W.heap.size w.heap.size g q (rs s.data.toList) 0 1 1 (.slice none 0 0) [] := by
  have hG := good s.data.toList
  have hl := rs_len s.data.toList
  have h3 : s.data.toList.length = s.size := Array.length_toList
  obtain ⟨h0, ⟨rfl, h1⟩ | ⟨g, cap, cur, rfl, h2, h4, h5, h6, h7, h8⟩⟩ := ho
  · have := hG.pos; omega
  · have hlt := (Array.getElem?_eq_some_iff.1 h4).1
    refine ⟨g, cap, rfl, ⟨(MapKept.heap_alloc w _).1, ⟨cur, ?_, by rw [Nat.mul_one] at h8; exact h8⟩, ownT_nil _ _, hb, h2, by omega, (fun e => by cases e), (fun e => by cases e), h5, by omega, hG, hG.pos, by omega, by omega⟩⟩
    rw [Below.heap_alloc _ _ _ hlt]; exact h4
set_option maxRecDepth 100000 in
set_option maxHeartbeats 4000000 in
theorem tokens_says (s : ByteArray) (w : World) (hT : U8 w) : Calls Tryd.prog 6 #[.string s] w fun e w' => TkA w (lexS s) e w' := by
  obtain ⟨r, hr⟩ : ∃ r : Ending → World → Prop, r = fun e w' => TkA w (lexS s) e w' := ⟨_, rfl⟩
  rw [← hr]
  by_cases hs : 65536 < s.size
  · have hsI : (65536 : Int) < (s.size : Int) := by omega
    have hout : r (.returned (.tuple #[.slice none 0 0, i64 1, i64 1, i64 2])) w := by
      rw [hr]; unfold lexS; rw [if_pos hs]; exact ⟨_, rfl, ownT_nil _ _, Below.refl _ _⟩
    clear hr hs
    go_enter Tryd.func6, Tryd.ntmps6
    go_wp2
    exact bodyPost_ret (v := .tuple #[.slice none 0 0, i64 1, i64 1, i64 2]) (by simp [results, Tryd.results6, go_sem]) rfl hout
  · have hs' : s.size ≤ 65536 := by omega
    have hsI : ¬ (65536 : Int) < (s.size : Int) := by omega
    have hlex : lexS s = goO (rs s.data.toList).length (rs s.data.toList) 1 1 [] := by unfold lexS; rw [if_neg hs]
    rw [hlex] at hr
    have hrs := Lib.hid (runesOf_says s hs' w hT)
    have hnew := Lib.hid (fun (w1 : World) v (ho : OwnK 21 .i32 w1 w.heap.size v (rs s.data.toList)) hb => rd_new hs' ho hb)
    clear hs hT hlex
    obtain ⟨L, hL⟩ : ∃ L, rs s.data.toList = L := ⟨_, rfl⟩
    rw [hL] at hr hnew
    have hrs2 : Hid (Calls Tryd.prog 10 #[.string s] w fun e w' => ∃ v, e = .returned v ∧ OwnK 21 .i32 w' w.heap.size v L ∧ Below w.heap.size w w') := Lib.hid (by have := hrs.out; unfold RuA at this; rw [hL] at this; exact this)
    clear hrs hL
    have HO := Lib.hid (fun v w' l c e T (h1 : goO L.length L 1 1 [] = (T, l, c, e)) (h2 : OwnT w' w.heap.size v T) (h3 : Below w.heap.size w w') => (by rw [hr, h1]; exact ⟨v, rfl, h2, h3⟩ : r (.returned (.tuple #[v, i64 l, i64 c, i64 e])) w'))
    clear hr
    go_enter Tryd.func6, Tryd.ntmps6
    go_wp2_with (go_at_call 10; refine hrs2.out.mono ?_; rintro e w1 ⟨v, rfl, ho, hb⟩; obtain ⟨g, q, rfl, R⟩ := hnew.out w1 v ho hb.size; have HB := Lib.hid hb; have HR := Lib.hid R; clear ho hb R)
    obtain ⟨h, hh⟩ : ∃ h, w1.heap.size = h := ⟨_, rfl⟩
    have hBB := Lib.hid (HB.out.alloc HB.out.size (.cells #[.slice (some ⟨g, 0, none⟩) L.length q, i64 0, i64 1, i64 1, .slice none 0 0] 42))
    obtain ⟨w2, hw2⟩ : ∃ w2, w2 = w1.alloc (.cells #[.slice (some ⟨g, 0, none⟩) L.length q, i64 0, i64 1, i64 1, .slice none 0 0] 42) := ⟨_, rfl⟩
    rw [← hw2] at HR hBB ⊢
    rw [hh] at HR ⊢
    have hq := HR.out
    clear hw2 HB
    have hLl := Lib.hid hq.lm
    clear hq
    go_loopw [] (fun wr => ∃ (k : Nat) (l c : Int) (v : Value) (T : List Tok) (f : Nat), Rd wr w.heap.size h g q L k l c v T ∧ goO f (L.drop k) l c T = goO L.length L 1 1 [] ∧ L.length ≤ f + k ∧ T.length ≤ k ∧ Below w.heap.size w wr) (fun wr => Lex.left h L.length wr)
    case atStart => exact ⟨0, 1, 1, _, [], L.length, HR.out, rfl, Nat.le_refl _, Nat.le_refl _, hBB.out⟩
    case round =>
      clear HR hBB
      obtain ⟨k, l, c, v, T, f, R, hgo, hf, hTk, hb⟩ := hrel
      have hkl := R.kl
      have hlm := R.lm
      obtain ⟨f, rfl⟩ : ∃ f', f = f' + 1 := ⟨f - 1, by omega⟩
      have hne : L.drop k ≠ [] := by intro e; have := congrArg List.length e; rw [List.length_drop] at this; simp at this; omega
      have hgo2 : goO L.length L 1 1 [] = if hd (L.drop k) = -1 then (T ++ [⟨6, txt [], 0, l, c⟩], 0, 0, 0) else if (stepO (L.drop k) l c).e ≠ 0 then ([], (stepO (L.drop k) l c).el, (stepO (L.drop k) l c).ec, (stepO (L.drop k) l c).e)
          else goO f (L.drop (k + (stepO (L.drop k) l c).k)) ((stepO (L.drop k) l c).line l) ((stepO (L.drop k) l c).col c) (T ++ (stepO (L.drop k) l c).ts) := by
        rw [← hgo, ← List.drop_drop]; rfl
      have HR := Lib.hid R
      have HL := Lib.hid R.left
      have HB := Lib.hid hb
      have HT := Lib.hid (show T.length ≤ 1000000 by omega)
      have hsk := fun h0 => step_k (l := l) (c := c) hne h0
      clear hgo hne
      obtain ⟨x, hx⟩ : ∃ x, hd (L.drop k) = x := ⟨_, rfl⟩
      rw [hx] at hgo2
      by_cases hx1 : x = -1
      · subst hx1
        rw [if_pos rfl] at hgo2
        have HO2 := Lib.hid (fun v w' h2 h3 => HO.out v w' 0 0 0 _ hgo2 h2 h3)
        have c2 := R.c2
        have c3 := R.c3
        clear hgo2 hsk hb R
        go_wp2_with (first
          | (go_at_call 13; refine (add_says (HR.out.later (But.refl _ wr).drew) l c 6 0 ⟨#[]⟩ HT.out (by exact HB.out.size)).mono ?_; rintro e w4 ⟨rfl, v4, R4, b4, o4⟩; have c4 := R4.c4; have K4 := Lib.hid R4; have B4 := Lib.hid b4; obtain ⟨p4, n4, q4, rfl⟩ := ownT_slice R4.tk; clear R4 b4 o4)
          | (go_at_call 11; refine (now_says HR.out).mono ?_; rintro e w4 ⟨rfl, rfl⟩; rw [hx]))
        exact bodyPost_ret (v := .tuple #[.slice p4 n4 q4, i64 0, i64 0, i64 0]) (by simp [results, Tryd.results6, go_sem]) rfl (HO2.out _ _ K4.out.tk (HB.out.trans (((But.refl _ wr).drew.trans B4.out).below HB.out.size (fun i hi => by rcases hi with rfl | hi; exact HR.out.bh; exact (HR.out.tk.lt i hi).1))))
      · rw [if_neg hx1] at hgo2
        have hxn : (x != -1) = true := by simpa using hx1
        have HS := Lib.hid (read_says (HR.out.later (But.refl _ wr).drew) HT.out HB.out.size)
        obtain ⟨o, ho⟩ : ∃ o, stepO (L.drop k) l c = o := ⟨_, rfl⟩
        rw [ho] at hgo2 hsk
        have HS2 : Hid (Calls Tryd.prog 12 #[.pointer (some ⟨h, 0, none⟩)] wr.drew fun e w' => e = .returned (.agg #[i64 o.el, i64 o.ec, i64 o.e]) ∧ Did wr.drew w' w.heap.size h g q L k l c v T o) := Lib.hid (by have := HS.out; rw [ho] at this; exact this)
        have hlow : ∀ w', Did wr.drew w' w.heap.size h g q L k l c v T o → Below w.heap.size w w' := fun w' D => HB.out.trans (((But.refl _ wr).drew.trans D.1).below HB.out.size (fun i hi => by rcases hi with (rfl | hi) | hi; exact HR.out.bh; exact (HR.out.tk.lt i hi).1; exact Nat.le_trans HB.out.size hi))
        have HW := Lib.hid hlow
        clear HS ho hx1 hlow R hb
        obtain ⟨a, ha⟩ : ∃ a, o.el = a := ⟨_, rfl⟩
        obtain ⟨b, hb⟩ : ∃ b, o.ec = b := ⟨_, rfl⟩
        by_cases he : o.e = 0
        · rw [if_neg (by simp [he])] at hgo2
          obtain ⟨s1, s2⟩ := hsk he
          have HE := Lib.hid he
          have HG := Lib.hid hgo2
          rw [ha, hb, he] at HS2
          clear hgo2 hsk he ha hb
          go_wp2_with (first
            | (go_at_call 12; refine HS2.out.mono ?_; rintro e w4 ⟨rfl, D⟩; have D := Lib.hid D)
            | (go_at_call 11; refine (now_says HR.out).mono ?_; rintro e w4 ⟨rfl, rfl⟩; rw [hx]))
          go_roundw
          case rel =>
            obtain ⟨v5, R5⟩ := D.out.2 HE.out
            exact ⟨_, _, _, v5, _, f, R5.later ((But.refl _ w4).alloc _), HG.out.symm, by omega, by rw [List.length_append]; omega, (HW.out _ D.out).alloc (HW.out _ D.out).size _⟩
          case measure =>
            obtain ⟨v5, R5⟩ := D.out.2 HE.out
            rw [HL.out, (R5.later ((But.refl _ w4).alloc _)).left]
            have := R5.kl
            omega
        · rw [if_pos he] at hgo2
          obtain ⟨d, hd'⟩ : ∃ d, o.e = d := ⟨_, rfl⟩
          rw [ha, hb, hd'] at HS2 hgo2
          rw [hd'] at he
          have hdn : (d != 0) = true := by simpa using he
          have HO2 := Lib.hid (fun v w' h2 h3 => HO.out v w' a b d _ hgo2 h2 h3)
          clear hgo2 hsk he ha hb hd'
          go_wp2_with (first
            | (go_at_call 12; refine HS2.out.mono ?_; rintro e w4 ⟨rfl, D⟩; have D := Lib.hid D)
            | (go_at_call 11; refine (now_says HR.out).mono ?_; rintro e w4 ⟨rfl, rfl⟩; rw [hx]))
          go_region
          all_goals
            go_wp2
            exact bodyPost_ret (v := .tuple #[.slice none 0 0, i64 a, i64 b, i64 d]) (by simp [results, Tryd.results6, go_sem]) rfl (HO2.out _ _ (ownT_nil _ _) ((HW.out _ D.out).alloc (HW.out _ D.out).size _).drew)
end Go.Proofs.YtgikcciakbnehaaDoor.Lex
