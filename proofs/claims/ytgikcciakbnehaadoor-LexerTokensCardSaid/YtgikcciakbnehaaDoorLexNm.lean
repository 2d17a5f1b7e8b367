
/-
  Package lexer: lineEnd, name.
-/
import Derived.Test.YtgikcciakbnehaaDoorLexRe
import Derived.Test.YtgikcciakbnehaaDoorLexAd
set_option maxRecDepth 100000
namespace Go.Proofs.YtgikcciakbnehaaDoor.Lex
open Go.Proofs.YtgikcciakbnehaaDoor Go.Proofs.YtgikcciakbnehaaDoor.Ser
open Go.ChangeShapes Go.WideShapes Go.ChangeAt Go.RowKit
/-- The two blocks of a token's function: the fault that it answers, the place at which it began. -/
structure Box2 (w wr : World) (l c : Int) : Prop where
  z : wr.heap[w.heap.size]? = some (.cells #[i64 0, i64 0, i64 0] 45 (0, 0))
  p : wr.heap[w.heap.size + 1]? = some (.cells #[i64 l, i64 c] 40 (0, 0))
theorem Box2.begin (w : World) (l c : Int) : Box2 w ((w.alloc (.cells #[i64 0, i64 0, i64 0] 45)).alloc (.cells #[i64 l, i64 c] 40)).drew l c := by
  have h1 := (MapKept.heap_alloc w (.cells #[i64 0, i64 0, i64 0] 45)).1
  have h2 := (MapKept.heap_alloc (w.alloc (.cells #[i64 0, i64 0, i64 0] 45)) (.cells #[i64 l, i64 c] 40)).1
  rw [World.size_alloc] at h2
  refine ⟨?_, h2⟩
  show ((w.alloc _).alloc _).heap[w.heap.size]? = _
  rw [Below.heap_alloc _ _ _ (by simp)]
  exact h1
section
variable {w wr w' : World} {l c : Int}
theorem Box2.kept {S : Nat → Prop} (b : Box2 w wr l c) (h : But S wr w') (h1 : ∀ i, S i → i ≠ w.heap.size ∧ i ≠ w.heap.size + 1) : Box2 w w' l c := by
  have l1 := (Array.getElem?_eq_some_iff.1 b.z).1
  have l2 := (Array.getElem?_eq_some_iff.1 b.p).1
  exact ⟨(h.block _ l1 fun hs => (h1 _ hs).1 rfl).trans b.z, (h.block _ l2 fun hs => (h1 _ hs).2 rfl).trans b.p⟩
theorem Box2.lt (b : Box2 w wr l c) : w.heap.size + 1 < wr.heap.size := (Array.getElem?_eq_some_iff.1 b.p).1
theorem Box2.z0 (b : Box2 w wr l c) : wr.cell? ⟨w.heap.size, 0, none⟩ = some (i64 0) := by rw [cell_of_row _ w.heap.size 0 _ _ _ b.z]; rfl
theorem Box2.z1 (b : Box2 w wr l c) : wr.cell? ⟨w.heap.size, 1, none⟩ = some (i64 0) := by rw [cell_of_row _ w.heap.size 1 _ _ _ b.z]; rfl
theorem Box2.z2 (b : Box2 w wr l c) : wr.cell? ⟨w.heap.size, 2, none⟩ = some (i64 0) := by rw [cell_of_row _ w.heap.size 2 _ _ _ b.z]; rfl
theorem Box2.zf (b : Box2 w wr l c) (i : Nat) : wr.frozen? ⟨w.heap.size, i, none⟩ = false := by simp [World.frozen?, b.z]
theorem Box2.p0 (b : Box2 w wr l c) : wr.cell? ⟨w.heap.size + 1, 0, none⟩ = some (i64 l) := by rw [cell_of_row _ (w.heap.size + 1) 0 _ _ _ b.p]; rfl
theorem Box2.p1 (b : Box2 w wr l c) : wr.cell? ⟨w.heap.size + 1, 1, none⟩ = some (i64 c) := by rw [cell_of_row _ (w.heap.size + 1) 1 _ _ _ b.p]; rfl
end
/-- The fault's cells. -/
structure Fin6 (w w4 : World) : Prop where
  z0 : w4.cell? ⟨w.heap.size, 0, none⟩ = some (i64 0)
  z1 : w4.cell? ⟨w.heap.size, 1, none⟩ = some (i64 0)
  z2 : w4.cell? ⟨w.heap.size, 2, none⟩ = some (i64 0)
  f0 : w4.frozen? ⟨w.heap.size, 0, none⟩ = false
  f1 : w4.frozen? ⟨w.heap.size, 1, none⟩ = false
  f2 : w4.frozen? ⟨w.heap.size, 2, none⟩ = false
theorem Box2.fin {w wr : World} {l c : Int} (b : Box2 w wr l c) : Fin6 w wr := ⟨b.z0, b.z1, b.z2, b.zf 0, b.zf 1, b.zf 2⟩
/-- The last call of a token's function: the token is added; what is left behind the last store. -/
theorem add_fin {w w3 : World} {B h g q k : Nat} {L : List Int} {l c l0 c0 : Int} {v : Value} {T : List Tok} (R : Rd w3 B h g q L k l c v T) (b : Box2 w w3 l0 c0) (hz : h < w.heap.size ∧ g < w.heap.size ∧ ∀ i, v.ownBlock = some i → i < w.heap.size) (Hb : But (fun i => i = h) w w3) (hB : B ≤ w3.heap.size) (hT : T.length ≤ 1000000) (kind n : Int) (s : ByteArray) :
    Calls Tryd.prog 13 #[.pointer (some ⟨h, 0, none⟩), .agg #[i64 l0, i64 c0], i64 kind, .string s, i64 n] w3.drew fun e w4 => e = .returned (.tuple #[]) ∧ ∃ v', Fin6 w w4 ∧ ∀ wf, But (fun i => i = w.heap.size) w4 wf → Rd wf B h g q L k l c v' (T ++ [⟨kind, s, n, l0, c0⟩]) ∧ But (fun i => (i = h ∨ v.ownBlock = some i) ∨ w.heap.size ≤ i) w wf := by
  refine (add_says (R.later (But.refl _ w3).drew) l0 c0 kind n s hT hB).mono ?_
  rintro e w4 ⟨rfl, v4, R4, b4, o4⟩
  refine ⟨rfl, v4, (b.kept ((But.refl _ w3).drew.trans b4) fun i hi => ?_).fin, fun wf bz => Rd.fin (w3 := w3.drew) hz (Nat.le_refl _) (Nat.lt_of_succ_lt b.lt) Hb.drew R4 b4 o4 bz⟩
  have h1 := hz.1
  have h2 := hz.2.2 i
  rcases hi with hi | hi
  · omega
  · have := h2 hi; omega
theorem name_at {L : List Int} {k n : Nat} (h : n < nameLen (L.drop k)) : ld (hd (L.drop (k + n))) = true := by
  have := tw_at ld (L.drop k) n h
  rwa [List.drop_drop] at this
theorem name_end {L : List Int} {k : Nat} (hG : Good L) (hk : k < L.length) : ld (hd (L.drop (k + nameLen (L.drop k)))) = false ∧ k + nameLen (L.drop k) < L.length := by
  refine ⟨?_, ?_⟩
  · have := tw_end ld (by decide) (L.drop k)
    rwa [List.drop_drop] at this
  · have := (hG.drop k hk).tw ld (by decide) (by decide)
    unfold nameLen
    rw [List.length_drop] at this
    omega
theorem ld_pos {x : Int} (h : ld x = true) : 0 ≤ x := by
  unfold ld letter dig at h
  simp only [Bool.or_eq_true, Bool.and_eq_true, decide_eq_true_eq, beq_iff_eq] at h
  omega
section
variable {w : World} {B h g q k : Nat} {L : List Int} {l c : Int} {v : Value} {T : List Tok}
set_option maxRecDepth 100000 in
set_option maxHeartbeats 2000000 in
theorem name_says (R : Rd w B h g q L k l c v T) (hT : T.length ≤ 1000000) (hB : B ≤ w.heap.size) : Calls Tryd.prog 28 #[.pointer (some ⟨h, 0, none⟩)] w fun e w' => e = .returned (fV (nameO (L.drop k) l c)) ∧ Did w w' B h g q L k l c v T (nameO (L.drop k) l c) := by
  obtain ⟨r, hr⟩ : ∃ r : Ending → World → Prop, r = fun e w' => e = .returned (fV (nameO (L.drop k) l c)) ∧ Did w w' B h g q L k l c v T (nameO (L.drop k) l c) := ⟨_, rfl⟩
  rw [← hr]
  have c1 := cell1 R.c1 (.cells #[i64 0, i64 0, i64 0] 45)
  have c2 := cell1 R.c2 (.cells #[i64 0, i64 0, i64 0] 45)
  have c3 := cell1 R.c3 (.cells #[i64 0, i64 0, i64 0] 45)
  have d1 := cell2 R.c1 (.cells #[i64 0, i64 0, i64 0] 45) (.cells #[i64 0, i64 0] 40)
  have d2 := cell2 R.c2 (.cells #[i64 0, i64 0, i64 0] 45) (.cells #[i64 0, i64 0] 40)
  have d3 := cell2 R.c3 (.cells #[i64 0, i64 0, i64 0] 45) (.cells #[i64 0, i64 0] 40)
  have e1 := cell2 R.c1 (.cells #[i64 0, i64 0, i64 0] 45) (.cells #[i64 l, i64 c] 40)
  have hz := R.lt
  have hbad : 40 < nameLen (L.drop k) → ∀ w', But (fun i => i = h ∨ w.heap.size ≤ i) w w' → r (.returned (.agg #[i64 l, i64 c, i64 2])) w' := by
    intro hx w' b
    rw [hr]
    unfold nameO
    rw [if_pos hx]
    exact ⟨rfl, (b.mono fun i hi => hi.elim (fun e => .inl (.inl e)) .inr), fun e => by simp [errO] at e⟩
  have hgood : ¬ 40 < nameLen (L.drop k) → ∀ v' w', Rd w' B h g q L (k + nameLen (L.drop k)) l (c + nameLen (L.drop k)) v' (T ++ [⟨1, txt ((L.drop k).take (nameLen (L.drop k))), 0, l, c⟩]) → But (fun i => (i = h ∨ v.ownBlock = some i) ∨ w.heap.size ≤ i) w w' → r (.returned (.agg #[i64 0, i64 0, i64 0])) w' := by
    intro hx v' w' R' b
    rw [hr]
    unfold nameO
    rw [if_neg hx]
    exact ⟨rfl, b, fun _ => ⟨v', R'⟩⟩
  have HA := Lib.hid (fun n hn => @name_at L k n hn)
  have HE := Lib.hid (name_end R.good R.kl)
  have HT := Lib.hid hT
  have HB := Lib.hid hB
  obtain ⟨N, hN⟩ : ∃ N, nameLen (L.drop k) = N := ⟨_, rfl⟩
  rw [hN] at hbad hgood HA HE
  have H1 := Lib.hid hbad
  have H2 := Lib.hid hgood
  obtain ⟨w2, hw2⟩ : ∃ w2, w2 = ((w.alloc (.cells #[i64 0, i64 0, i64 0] 45)).alloc (.cells #[i64 l, i64 c] 40)).drew := ⟨_, rfl⟩
  have b2 : But (fun _ => False) w w2 := by rw [hw2]; exact (((But.refl _ w).alloc _).alloc _).drew
  have HX := Lib.hid (show Box2 w w2 l c by rw [hw2]; exact Box2.begin w l c)
  have HR := Lib.hid (R.later b2)
  have HZ := Lib.hid hz
  have HV := Lib.hid R.vh
  have hk0 : (0 : Int) ≤ (k : Int) := Int.natCast_nonneg k
  have hk1 : (k : Int) ≤ 65537 := by have := R.lm; have := R.kl; omega
  have b2 := Lib.hid b2
  clear hr hbad hgood hT hB hN R hz
  go_enter Tryd.func28, Tryd.ntmps28
  go_upto_region 1 with fail
  go_region
  rw [← hw2]
  clear hw2 c1 c2 c3 d1 d2 d3 e1
  go_wp2_with fail
  go_loopw [] (fun wr => ∃ n : Nat, n ≤ N ∧ Rd wr B h g q L (k + n) l (c + n) v T ∧ But (fun i => i = h) w2 wr) (fun wr => Lex.left h L.length wr)
  case atStart => exact ⟨0, Nat.zero_le _, by simpa using HR.out, But.refl _ _⟩
  case round =>
    have HZ0 := HZ
    clear HR
    obtain ⟨n, hn, R, b⟩ := hrel
    have HR := Lib.hid R
    have HL := Lib.hid R.left
    have Hb := Lib.hid b
    clear R b
    by_cases hnN : n < N
    · obtain ⟨x, hx⟩ : ∃ x, hd (L.drop (k + n)) = x := ⟨_, rfl⟩
      have y := HA.out n hnN
      rw [hx] at y
      have HX0 := Lib.hid (show 0 ≤ hd (L.drop (k + n)) by rw [hx]; exact ld_pos y)
      by_cases y1 : letter x = true
      · clear y
        go_wp2_with (first
          | (go_at_call 24; refine (next_says (HR.out.later (by first | exact But.refl _ _ | exact (But.refl _ _).drew | exact (But.refl _ _).drew.drew | exact (But.refl _ _).drew.drew.drew)) HX0.out).mono ?_; rintro e w1 ⟨rfl, R1, b1⟩; have K1 := Lib.hid R1; have K2 := Lib.hid b1; clear R1 b1)
          | (go_at_call 11; refine (now_says (HR.out.later (by first | exact But.refl _ _ | exact (But.refl _ _).drew | exact (But.refl _ _).drew.drew | exact (But.refl _ _).drew.drew.drew))).mono ?_; rintro e w1 ⟨rfl, rfl⟩; rw [hx])
          | (go_at_call 27; refine (isLetter_says _ _).mono ?_; rintro e w1 ⟨rfl, rfl⟩; rw [y1]))
        go_roundw
        case rel => exact ⟨n + 1, hnN, K1.out.cast rfl (by omega), Hb.out.drew.trans K2.out⟩
        case measure => rw [HL.out, K1.out.left]; have := HR.out.kl; omega
      · replace y1 : letter x = false := by simpa using y1
        have y2 : dig x = true := by unfold ld at y; simpa [y1] using y
        clear y
        go_wp2_with (first
          | (go_at_call 24; refine (next_says (HR.out.later (by first | exact But.refl _ _ | exact (But.refl _ _).drew | exact (But.refl _ _).drew.drew | exact (But.refl _ _).drew.drew.drew)) HX0.out).mono ?_; rintro e w1 ⟨rfl, R1, b1⟩; have K1 := Lib.hid R1; have K2 := Lib.hid b1; clear R1 b1)
          | (go_at_call 11; refine (now_says (HR.out.later (by first | exact But.refl _ _ | exact (But.refl _ _).drew | exact (But.refl _ _).drew.drew | exact (But.refl _ _).drew.drew.drew))).mono ?_; rintro e w1 ⟨rfl, rfl⟩; rw [hx])
          | (go_at_call 29; refine (isDigit_says _ _).mono ?_; rintro e w1 ⟨rfl, rfl⟩; rw [y2])
          | (go_at_call 27; refine (isLetter_says _ _).mono ?_; rintro e w1 ⟨rfl, rfl⟩; rw [y1]))
        go_roundw
        case rel => exact ⟨n + 1, hnN, K1.out.cast rfl (by omega), Hb.out.drew.drew.trans K2.out⟩
        case measure => rw [HL.out, K1.out.left]; have := HR.out.kl; omega
    · obtain rfl : n = N := by omega
      clear hnN hn HA
      obtain ⟨x, hx⟩ : ∃ x, hd (L.drop (k + n)) = x := ⟨_, rfl⟩
      have hE := HE.out.1
      rw [hx] at hE
      unfold ld at hE
      rw [Bool.or_eq_false_iff] at hE
      obtain ⟨y1, y2⟩ := hE
      have n0 : (0 : Int) ≤ (n : Int) := Int.natCast_nonneg n
      go_upto_region 4 with (first
          | (go_at_call 11; refine (now_says (HR.out.later (by first | exact But.refl _ _ | exact (But.refl _ _).drew | exact (But.refl _ _).drew.drew | exact (But.refl _ _).drew.drew.drew))).mono ?_; rintro e w1 ⟨rfl, rfl⟩; rw [hx])
          | (go_at_call 29; refine (isDigit_says _ _).mono ?_; rintro e w1 ⟨rfl, rfl⟩; rw [y2])
          | (go_at_call 27; refine (isLetter_says _ _).mono ?_; rintro e w1 ⟨rfl, rfl⟩; rw [y1]))
      obtain ⟨w3, hw3⟩ : ∃ w3, w3 = wr.drew.drew := ⟨_, rfl⟩
      have R3 : Rd w3 B h g q L (k + n) l (c + n) v T := by rw [hw3]; exact HR.out.later (but_drewN _ wr 2)
      have b3 : But (fun i => i = h) w w3 := by rw [hw3]; exact b2.out.then Hb.out.drew.drew (fun _ h => h.elim) (fun _ _ h => h)
      have BX : Box2 w w3 l c := by rw [hw3]; exact HX.out.kept Hb.out.drew.drew (by intro i hi; subst hi; have := HZ.out.1; omega)
      rw [← hw3]
      clear hw3 HR HL Hb HX b2
      have c0 := R3.c0
      have c1 : w3.cell? ⟨h, 1, none⟩ = some (i64 ((k : Int) + (n : Int))) := by rw [R3.c1]; simp
      have p0 := BX.p0; have p1 := BX.p1
      have hkn := R3.kl
      have hkm := R3.lm
      have n1 : (n : Int) ≤ 65537 := by omega
      have HBX := Lib.hid BX
      have HR := Lib.hid R3
      have Hb := Lib.hid b3
      by_cases h40 : 40 < n
      · have hq : (40 : Int) < (k : Int) + (n : Int) - (k : Int) := by omega
        have HF := Lib.hid (fun w' b => H1.out h40 w' b)
        have z0 := BX.z0; have z1 := BX.z1; have z2 := BX.z2
        have f0 := BX.zf 0; have f1 := BX.zf 1; have f2 := BX.zf 2
        clear H1 H2 HE BX hkn hkm R3 b3
        go_wp2
        exact bodyPost_ret (v := .agg #[i64 l, i64 c, i64 2]) (by simp [results, Tryd.results28, go_sem, z0, z1, z2]) rfl (HF.out _ (But.setCell (But.setCell (But.setCell (Hb.out.mono fun i hi => Or.inl hi) ⟨w.heap.size, 0, none⟩ (.inr (Nat.le_refl _)) _) ⟨w.heap.size, 1, none⟩ (.inr (Nat.le_refl _)) _) ⟨w.heap.size, 2, none⟩ (.inr (Nat.le_refl _)) _))
      · have hq : ¬ (40 : Int) < (k : Int) + (n : Int) - (k : Int) := by omega
        have HF := Lib.hid (H2.out h40)
        have cv := R3.conv k n (q - k) (by omega)
        have cv1 : (convert 37 9 (.slice (some ⟨g, k, none⟩) n (q - k))).run Tryd.prog w3.drew = .ok (.string (txt ((L.drop k).take n))) w3.drew := (R3.later (but_drewN _ w3 1)).conv k n (q - k) (by omega)
        have hlq := R3.lq
        have hqi : (k : Int) + (n : Int) ≤ (q : Int) := by omega
        obtain ⟨s, hs⟩ : ∃ s, txt ((L.drop k).take n) = s := ⟨_, rfl⟩
        rw [hs] at cv cv1 HF
        obtain ⟨M, hM⟩ : ∃ M, L.length = M := ⟨_, rfl⟩
        rw [hM] at c0 hkn hkm hlq
        have hB3 := Lib.hid (show B ≤ w3.heap.size from Nat.le_trans HB.out b3.size)
        have hadd := add_fin HR.out HBX.out HZ.out Hb.out hB3.out HT.out 1 0 s
        have HA := Lib.hid (hadd.mono fun e w4 => And.imp_right fun ⟨v', z, k1⟩ => (⟨z, (k1 _ (zset w4 w.heap.size (i64 0) (i64 0) (i64 0))).elim fun R b => HF.out v' _ R b⟩ : Fin6 w w4 ∧ r (.returned (.agg #[i64 0, i64 0, i64 0])) (((w4.setCell ⟨w.heap.size, 0, none⟩ (i64 0)).setCell ⟨w.heap.size, 1, none⟩ (i64 0)).setCell ⟨w.heap.size, 2, none⟩ (i64 0))))
        clear H1 H2 HE BX R3 b3 hM hs hadd HF HT HB HZ HZ0 HBX HR Hb hB3 HV
        go_upto_region 6 with fail
        go_region_with (go_at_call 13; refine HA.out.mono ?_; rintro e w4 ⟨rfl, ⟨z0, z1, z2, f0, f1, f2⟩, K⟩; have K := Lib.hid K)
        all_goals
          go_wp2
          exact bodyPost_ret (v := .agg #[i64 0, i64 0, i64 0]) (by simp [results, Tryd.results28, go_sem, z0, z1, z2]) rfl K.out
end
end Go.Proofs.YtgikcciakbnehaaDoor.Lex
