
/-
  Package lexer: wrong, remark, lineEnd.
-/
import Derived.Test.YtgikcciakbnehaaDoorLexRd
set_option maxRecDepth 100000
namespace Go.Proofs.YtgikcciakbnehaaDoor.Lex
open Go.Proofs.YtgikcciakbnehaaDoor Go.Proofs.YtgikcciakbnehaaDoor.Ser
open Go.ChangeShapes Go.WideShapes Go.ChangeAt Go.RowKit
/-- An error as a value. -/
def fV (o : Out) : Value := .agg #[i64 o.el, i64 o.ec, i64 o.e]
theorem cell1 {w : World} {a : Addr} {v : Value} (h : w.cell? a = some v) (o1 : Obj) : (w.alloc o1).cell? a = some v := ((But.refl (fun _ => False) w).alloc o1).cell h id
theorem cell2 {w : World} {a : Addr} {v : Value} (h : w.cell? a = some v) (o1 o2 : Obj) : ((w.alloc o1).alloc o2).cell? a = some v := cell1 (cell1 h o1) o2
theorem tw_at (p : Int → Bool) : ∀ (M : List Int) (n : Nat), n < (M.takeWhile p).length → p (hd (M.drop n)) = true
  | [], n, h => by simp at h
  | a :: M, n, h => by
    rw [List.takeWhile_cons] at h
    split at h
    · rename_i ha
      cases n with
      | zero => exact ha
      | succ n => exact tw_at p M n (by simpa using h)
    · simp at h
theorem tw_end (p : Int → Bool) (h0 : p (-1) = false) : ∀ (M : List Int), p (hd (M.drop (M.takeWhile p).length)) = false
  | [] => h0
  | a :: M => by
    rw [List.takeWhile_cons]
    split
    · exact tw_end p h0 M
    · rename_i ha
      simpa [hd] using ha
/-- What is taken does not go up to the end. -/
theorem Good.tw {M : List Int} (hM : Good M) (p : Int → Bool) (h1 : p (-1) = false) (h2 : p (-2) = false) : (M.takeWhile p).length < M.length := by
  induction hM with
  | fin => simp [h1]
  | bad => simp [h2]
  | cons r L h hL ih =>
    rw [List.takeWhile_cons]
    split
    · simpa using ih
    · simp
theorem rem_at {L : List Int} {k n : Nat} (h : n < remLen (L.drop k)) : hd (L.drop (k + n)) ≠ 10 ∧ 0 ≤ hd (L.drop (k + n)) := by
  have := tw_at _ (L.drop k) n h
  rw [List.drop_drop] at this
  simpa using this
theorem rem_end {L : List Int} {k : Nat} (hG : Good L) (hk : k < L.length) : (hd (L.drop (k + remLen (L.drop k))) = 10 ∨ hd (L.drop (k + remLen (L.drop k))) < 0) ∧ k + remLen (L.drop k) < L.length := by
  refine ⟨?_, ?_⟩
  · have := tw_end (fun r => decide (r ≠ 10) && decide (0 ≤ r)) (by simp) (L.drop k)
    rw [List.drop_drop] at this
    unfold remLen
    simp only [Bool.and_eq_false_iff, decide_eq_false_iff_not] at this
    omega
  · have := (hG.drop k hk).tw (fun r => decide (r ≠ 10) && decide (0 ≤ r)) (by simp) (by simp)
    unfold remLen
    rw [List.length_drop] at this
    omega
section
variable {w : World} {B h g q k : Nat} {L : List Int} {l c : Int} {v : Value} {T : List Tok}
theorem hd_ld {n : Nat} (h : n < nameLen (L.drop k)) : ld (hd (L.drop (k + n))) = true := by
  have := tw_at ld (L.drop k) n h
  rwa [List.drop_drop] at this
theorem ret_fV {o : Out} {a b d : Int} (h1 : o.el = a) (h2 : o.ec = b) (h3 : o.e = d) : fV o = .agg #[i64 a, i64 b, i64 d] := by subst h1 h2 h3; rfl
set_option maxRecDepth 100000 in
theorem wrong_says (R : Rd w B h g q L k l c v T) (fl fc : Int) : Calls Tryd.prog 34 #[.pointer (some ⟨h, 0, none⟩), .agg #[i64 fl, i64 fc]] w fun e w' => e = .returned (fV (wrong (L.drop k) l c fl fc)) ∧ But (fun _ => False) w w' := by
  obtain ⟨r, hr⟩ : ∃ r : Ending → World → Prop, r = fun e w' => e = .returned (fV (wrong (L.drop k) l c fl fc)) ∧ But (fun _ => False) w w' := ⟨_, rfl⟩
  rw [← hr]
  have c2 := cell2 R.c2 (.cells #[i64 fl, i64 fc] 40) (.cells #[i64 0, i64 0, i64 0] 45)
  have c3 := cell2 R.c3 (.cells #[i64 fl, i64 fc] 40) (.cells #[i64 0, i64 0, i64 0] 45)
  have h1 : hd (L.drop k) = -2 → ∀ w', But (fun _ => False) w w' → r (.returned (.agg #[i64 l, i64 c, i64 4])) w' := by
    intro e w' b; rw [hr]; unfold wrong; rw [if_pos e]; exact ⟨rfl, b⟩
  have h2 : hd (L.drop k) ≠ -2 → ∀ w', But (fun _ => False) w w' → r (.returned (.agg #[i64 fl, i64 fc, i64 3])) w' := by
    intro e w' b; rw [hr]; unfold wrong; rw [if_neg e]; exact ⟨rfl, b⟩
  have HR := Lib.hid R
  clear hr R
  obtain ⟨x, hx⟩ : ∃ x, hd (L.drop k) = x := ⟨_, rfl⟩
  by_cases e : x = -2
  · subst e
    replace h1 := Lib.hid (h1 hx)
    clear h2
    go_enter Tryd.func34, Tryd.ntmps34
    go_wp2_with (go_at_call 11; refine (now_says (HR.out.later (by exact ((But.refl _ w).alloc _).alloc _))).mono ?_; rintro e w1 ⟨rfl, rfl⟩; rw [hx])
    exact bodyPost_ret (v := .agg #[i64 l, i64 c, i64 4]) (by simp [results, Tryd.results34, go_sem]) rfl (h1.out _ (((But.refl _ w).alloc _).alloc _).drew)
  · replace h2 := Lib.hid (h2 (by rw [hx]; exact e))
    have hb := beq_false_of_ne e
    clear h1 e
    go_enter Tryd.func34, Tryd.ntmps34
    go_wp2_with (go_at_call 11; refine (now_says (HR.out.later (by exact ((But.refl _ w).alloc _).alloc _))).mono ?_; rintro e w1 ⟨rfl, rfl⟩; rw [hx])
    exact bodyPost_ret (v := .agg #[i64 fl, i64 fc, i64 3]) (by simp [results, Tryd.results34, go_sem]) rfl (h2.out _ (((But.refl _ w).alloc _).alloc _).drew)
/-- What a token's function leaves: the fault, or the place and the tokens. -/
def Did (w w' : World) (B h g q : Nat) (L : List Int) (k : Nat) (l c : Int) (v : Value) (T : List Tok) (o : Out) : Prop :=
  But (fun i => (i = h ∨ v.ownBlock = some i) ∨ w.heap.size ≤ i) w w' ∧ (o.e = 0 → ∃ v', Rd w' B h g q L (k + o.k) (o.line l) (o.col c) v' (T ++ o.ts))
/-- The runes that are left. -/
def left (h N : Nat) (w : World) : Nat := match w.cell? ⟨h, 1, none⟩ with | some (.int _ k) => N - k.toNat | _ => 0
theorem Rd.left (R : Rd w B h g q L k l c v T) : Lex.left h L.length w = L.length - k := by
  unfold Lex.left; rw [R.c1]; simp
theorem Rd.cast (R : Rd w B h g q L k l c v T) {k' : Nat} {c' : Int} (h1 : k = k') (h2 : c = c') : Rd w B h g q L k' l c' v T := by subst h1 h2; exact R
def drewN (w : World) : Nat → World
  | 0 => w
  | n + 1 => (drewN w n).drew
theorem but_drewN (S : Nat → Prop) (w : World) : ∀ n, But S w (drewN w n)
  | 0 => But.refl _ _
  | n + 1 => (but_drewN S w n).drew
set_option maxRecDepth 100000 in
set_option maxHeartbeats 2000000 in
theorem remark_says (R : Rd w B h g q L k l c v T) : Calls Tryd.prog 25 #[.pointer (some ⟨h, 0, none⟩)] w fun e w' => e = .returned (.tuple #[]) ∧ Rd w' B h g q L (k + remLen (L.drop k)) l (c + remLen (L.drop k)) v T ∧ But (fun i => i = h) w w' := by
  obtain ⟨r, hr⟩ : ∃ r : Ending → World → Prop, r = fun e w' => e = .returned (.tuple #[]) ∧ Rd w' B h g q L (k + remLen (L.drop k)) l (c + remLen (L.drop k)) v T ∧ But (fun i => i = h) w w' := ⟨_, rfl⟩
  rw [← hr]
  have hout : ∀ w', Rd w' B h g q L (k + remLen (L.drop k)) l (c + remLen (L.drop k)) v T → But (fun i => i = h) w w' → r (.returned (.tuple #[])) w' := by intro w' h1 h2; rw [hr]; exact ⟨rfl, h1, h2⟩
  have HO := Lib.hid hout
  have HR := Lib.hid R
  have HE := Lib.hid (rem_end R.good R.kl)
  have HA := Lib.hid (fun n hn => @rem_at L k n hn)
  obtain ⟨N, hN⟩ : ∃ N, remLen (L.drop k) = N := ⟨_, rfl⟩
  rw [hN] at HO HE HA
  clear hr R hout hN
  go_enter Tryd.func25, Tryd.ntmps25
  go_wp2
  go_loopw [] (fun wr => ∃ n : Nat, n ≤ N ∧ Rd wr B h g q L (k + n) l (c + n) v T ∧ But (fun i => i = h) w wr) (fun wr => Lex.left h L.length wr)
  case atStart => exact ⟨0, Nat.zero_le _, by simpa using HR.out, But.refl _ _⟩
  case round =>
    obtain ⟨n, hn, R, b⟩ := hrel
    have HR := Lib.hid R
    have HL := Lib.hid R.left
    have HB := Lib.hid b
    clear R b
    by_cases hnN : n < N
    · obtain ⟨x, hx⟩ : ∃ x, hd (L.drop (k + n)) = x := ⟨_, rfl⟩
      obtain ⟨y1, y2⟩ := HA.out n hnN
      have HX := Lib.hid y2
      rw [hx] at y1 y2
      have z1 : (x != 10) = true := by simpa using y1
      have z2 : (x != -1) = true := by simp; omega
      have z3 : (x != -2) = true := by simp; omega
      clear y1 y2
      go_wp2_with (first
        | (go_at_call 24; refine (next_says (HR.out.later (by first | exact But.refl _ _ | exact (But.refl _ _).drew | exact (But.refl _ _).drew.drew | exact (But.refl _ _).drew.drew.drew)) HX.out).mono ?_; rintro e w1 ⟨rfl, R1, b1⟩; have K1 := Lib.hid R1; have K2 := Lib.hid b1; clear R1 b1)
        | (go_at_call 11; refine (now_says (HR.out.later (by first | exact But.refl _ _ | exact (But.refl _ _).drew | exact (But.refl _ _).drew.drew | exact (But.refl _ _).drew.drew.drew))).mono ?_; rintro e w1 ⟨rfl, rfl⟩; rw [hx]))
      go_roundw
      case rel => exact ⟨n + 1, hnN, K1.out.cast rfl (by omega), HB.out.drew.drew.drew.trans K2.out⟩
      case measure => rw [HL.out, K1.out.left]; have := HR.out.kl; omega
    · obtain rfl : n = N := by omega
      have HF := Lib.hid (fun m => HO.out (drewN wr m) (HR.out.later (but_drewN _ wr m)) (HB.out.trans (but_drewN _ wr m)))
      obtain ⟨x, hx⟩ : ∃ x, hd (L.drop (k + n)) = x := ⟨_, rfl⟩
      have hbd := HR.out.hd_bd
      have hE := HE.out.1
      rw [hx] at hE hbd
      by_cases e10 : x = 10
      · subst e10
        go_wp2_with (go_at_call 11; refine (now_says (HR.out.later (by first | exact But.refl _ _ | exact (But.refl _ _).drew | exact (But.refl _ _).drew.drew | exact (But.refl _ _).drew.drew.drew))).mono ?_; rintro e w1 ⟨rfl, rfl⟩; rw [hx])
        go_end0
        exact HF.out 1
      · by_cases e1 : x = -1
        · subst e1
          go_wp2_with (go_at_call 11; refine (now_says (HR.out.later (by first | exact But.refl _ _ | exact (But.refl _ _).drew | exact (But.refl _ _).drew.drew | exact (But.refl _ _).drew.drew.drew))).mono ?_; rintro e w1 ⟨rfl, rfl⟩; rw [hx])
          go_end0
          exact HF.out 2
        · obtain rfl : x = -2 := by omega
          go_wp2_with (go_at_call 11; refine (now_says (HR.out.later (by first | exact But.refl _ _ | exact (But.refl _ _).drew | exact (But.refl _ _).drew.drew | exact (But.refl _ _).drew.drew.drew))).mono ?_; rintro e w1 ⟨rfl, rfl⟩; rw [hx])
          go_end0
          exact HF.out 3
end
end Go.Proofs.YtgikcciakbnehaaDoor.Lex
