/-
  The document's own images: the contract of PackImage.
-/
import Derived.Test.YthiaibpalnlbiaaImgR
import Derived.ArgAppend
import Derived.Lib.SlBytesConst
set_option maxRecDepth 100000
namespace Go.Proofs.Ythiaibpalnlbiaa.Img
open Go.Proofs.Ythiaibpalnlbiaa Go.Proofs.Ythiaibpalnlbiaa.Ser
open Go.ChangeShapes Go.WideShapes Go.ChangeAt Go.RowKit
set_option linter.unusedVariables false
/-- 'append(s, x...)' where there is no room: s lies anywhere. -/
theorem wpList_growK {T E : TypeId} {k : IntKind} {w : World} {B B' : Nat} {ops : Array Oper} {rest : List Oper} {o : Oper} {a : Act} {Q : Exit → Act → World → Prop} (K : Kd T E k) (hgd : o.guard = none) (s x : Operand)
    (ho : o.op = .call { callee := .builtin .append, args := #[s, x], argTypes := #[T, T] }) {p1 p2 : Option Addr} {n1 c1 m2 c2 : Nat} {xs1 xs2 : List Int} (hs : a.eval s = .slice p1 n1 c1) (L1 : Lie k w B p1 n1 c1 xs1)
    (hx : a.eval x = .slice p2 m2 c2) (L2 : Lie k w B' p2 m2 c2 xs2) (hp : 0 < m2) (hfull : c1 < n1 + m2) (hsz : n1 + m2 ≤ 1000000)
    (h : ∀ v' w', OwnK E k w' w.heap.size v' (xs1 ++ xs2) → Below w.heap.size w w' → wpList Try.prog ops Q rest (a.put o.dst v') w') : wpList Try.prog ops Q (o :: rest) a w := by
  obtain ⟨bb, hbb, hinfo⟩ := K.info
  obtain ⟨i, hi, hz0, hz1, hz2⟩ := info_parts hinfo
  obtain ⟨ad, rfl, hc⟩ := L2.src (by rw [L2.len]; exact hp)
  refine wpList_append_grows w hgd s x T ho E i _ 1 bb K.under hi hz0 hz1 hz2 rfl (by decide) p1 n1 c1 (kL k xs1) hs (fun e => ⟨by have := L1.cap; have := L1.nil e; omega, L1.nil e⟩) (by rw [List.length_map, L1.len, Nat.mul_one]) (fun b e j u hu => ?_) ad m2 c2 (kL k xs2) hx (by rw [List.length_map, L2.len, Nat.mul_one]) hc (kL_one _ _) hfull (by unfold maxLen; omega) (by have : (n1 + m2) * bb ≤ 1000000 * 8 := Nat.mul_le_mul hsz hbb; omega) (fun v' w' h1 h2 => h v' w' ?_ ((Below.refl _ _).grown h2 (Nat.le_refl _) (by simp)))
  · have hj : j < xs1.length := by have := (List.getElem?_eq_some_iff.1 hu).1; simpa using this
    obtain ⟨ad', e', hc'⟩ := L1.src (by omega)
    rw [e] at e'
    injection e' with e'
    subst e'
    exact hc' j u hu
  · unfold OwnK
    rw [List.length_append, L1.len, L2.len, kL, List.map_append]
    exact h1
theorem lie_of {E : TypeId} {k : IntKind} {w : World} {B : Nat} {p : Option Addr} {m c : Nat} {xs : List Int} (h : OwnK E k w B (.slice p m c) xs) : Lie k w w.heap.size p m c xs := by
  obtain ⟨p2, c2, e, -, L⟩ := ownK_lie h
  injection e with e1 e2 e3
  subst e1 e3
  rw [← e2] at L
  exact L
/-- A row that was written out, whatever its mark. -/
theorem lie_built (E : TypeId) (k : IntKind) (w : World) (xs : List Int) (fr : Nat × Nat) (g : Nat) (hg : w.heap.size = g) : Lie k (w.alloc (.cells (kL k xs).toArray E fr)) (w.alloc (.cells (kL k xs).toArray E fr)).heap.size (some ⟨g, 0, none⟩) xs.length xs.length xs :=
  ⟨rfl, Nat.le_refl _, (fun h => by cases h), fun _ => ⟨g, 0, rfl, by subst hg; simp, fun i x hx => by
    subst hg
    rw [Nat.zero_add, cell_of_row _ w.heap.size i _ _ _ (heap_alloc_new w _)]
    simp [hx]⟩⟩
set_option maxHeartbeats 4000000 in
theorem rpack_says {w : World} (e : Int) (he : -9223372036854775808 ≤ e ∧ e ≤ 9223372036854775807) {p : Option Addr} {n c : Nat} {xs : List Int} (L : Lie .u8 w w.heap.size p n c xs) (hx : Byt xs) (hn : n ≤ 800000) :
    Calls Try.prog 9 #[imgV e p n c] w (Told w (packO e xs) (chk e n)) := by
  obtain ⟨i, hi, hz0, hz1, hz2⟩ := info_parts info_u8
  obtain ⟨r, hr⟩ : ∃ r, r = Told w (packO e xs) (chk e n) := ⟨_, rfl⟩
  rw [← hr]
  obtain ⟨h, hh⟩ : ∃ h, w.heap.size = h := ⟨_, rfl⟩
  obtain ⟨w1, hw1⟩ : ∃ w1, w1 = w.alloc (.cells #[i64 e, .slice p n c] 24) := ⟨_, rfl⟩
  have X1 := Lib.hid (by rw [hw1, ← hh]; exact BoxI.new : BoxI w w1 h e p n c)
  have s1 : w1.heap.size = h + 1 := by rw [hw1, ← hh]; simp
  have HL := Lib.hid L.len
  have HCk := Lib.hid (rcheck_says e p n c (by omega) w1)
  have HX := Lib.hid hx
  have n0 : (0 : Int) ≤ (n : Int) := Int.natCast_nonneg n
  have hn' : (n : Int) ≤ 800000 := by omega
  by_cases hc : chk e n = 0
  · obtain ⟨e0, e1, e2, -⟩ := chk_of hc
    have K := Lib.hid (fun p' m' c' u (o : OwnK 5 .u8 u (h + 1) (.slice p' m' c') (headL e xs ++ four (headL e xs).sum)) (b : Below h w u) => (by rw [hr, hc]; refine ⟨p', m', c', rfl, ?_, ?_, by rw [hh]; exact b⟩ <;> rw [show packO e xs = headL e xs ++ four (headL e xs).sum by unfold packO packL; rw [L.len, if_pos hc]]; (obtain ⟨p2, c2, e2, -⟩ := ownK_lie o; injection e2); exact ownK_mono o (by omega) : r (.returned (.tuple #[.slice p' m' c', i64 0])) u))
    have HS := Lib.hid (fun u (b : Below h w u) => (L.kept (B' := h) (by exact b) (by omega)).src)
    rw [hc] at HCk
    have HNil := Lib.hid L.nil
    have hhead := Lib.hid (show [84, 82, 85, 49] ++ four e ++ four n ++ xs = headL e xs by unfold headL; rw [L.len])
    have hsum := Lib.hid (show 0 ≤ (headL e xs).sum ∧ (headL e xs).sum ≤ 4294967295 by have h1 := sum_bd _ (head_byt e hx); rw [head_len, L.len] at h1; omega)
    clear hr hc L hx he
    go_enter Try.func9, Try.ntmps9
    go_upto_region 1 with fail
    rw [← hw1]
    have c0 := X1.out.c0
    have c1 := X1.out.c1
    clear hw1
    go_upto_region 4 with (go_at_call 11; refine HCk.out.mono ?_; rintro en w2 ⟨rfl, hb2⟩; have X2 := Lib.hid (X1.out.kept hb2 X1.out.lt (Nat.le_refl _)); have s2 := hb2.size; rw [s1] at s2; clear hb2 c0 c1; have c0 := X2.out.c0; have c1 := X2.out.c1)
    obtain ⟨g, hg⟩ : ∃ g, w2.heap.size = g := ⟨_, rfl⟩
    have hcv := Lib.run_convert_bytes_const (P := Try.prog) w2 22 5 #[.int .u8 84, .int .u8 82, .int .u8 85, .int .u8 49] 4 4 Try.underlying22 Try.underlying5
    rw [hg] at hcv
    obtain ⟨w3, hw3⟩ : ∃ w3, w3 = w2.alloc (.cells #[.int .u8 84, .int .u8 82, .int .u8 85, .int .u8 49] 5 (4, 5)) := ⟨_, rfl⟩
    change (convert 22 22 (.slice (some ⟨g, 0, none⟩) 4 4)).run Try.prog (w2.alloc (.cells #[.int .u8 84, .int .u8 82, .int .u8 85, .int .u8 49] 5)) = .ok (.slice (some ⟨g, 0, none⟩) 4 4) (w2.alloc (.cells #[.int .u8 84, .int .u8 82, .int .u8 85, .int .u8 49] 5 (4, 5))) at hcv
    have b3 : Below (h + 1) w2 w3 := by rw [hw3]; exact (Below.refl _ _).alloc s2 _
    have X3 := Lib.hid (X2.out.kept b3 (Nat.lt_succ_self h) s2)
    have s3 := Nat.le_trans s2 b3.size
    have R3 := Lib.hid (by rw [hw3]; exact lie_built 5 .u8 w2 [84, 82, 85, 49] (4, 5) g hg : Lie .u8 w3 w3.heap.size (some ⟨g, 0, none⟩) 4 4 [84, 82, 85, 49])
    rw [← hw3] at hcv
    have d0 := X3.out.c0
    have HF := Lib.hid (four_says e w3)
    clear b3 hw3
    go_upto_region 5 with (first
      | (go_at_call 16; with_reducible refine HF.out.mono ?_; rintro en w4 ⟨p4, c4, rfl, o4, b4⟩; have X4 := Lib.hid (X3.out.kept (b4.mono s3) (Nat.lt_succ_self h) s3); have s4 := Nat.le_trans s3 b4.size; have R4 := Lib.hid (R3.out.kept b4 (Nat.le_refl _)); have S4 := Lib.hid (lie_of o4); clear o4 b4 c0 c1 d0 hcv)
      | (at_builtin; refine wpList_growK kdB rfl _ _ rfl rfl R4.out rfl S4.out (by decide) (by decide) (by decide) ?_; intro v5 w5 o5 b5; have X5 := Lib.hid (X4.out.kept (b5.mono s4) (Nat.lt_succ_self h) s4); have s5 := Nat.le_trans s4 b5.size; obtain ⟨p5, m5, c5, rfl, -⟩ := own_told o5; have R5 := Lib.hid (ownK_mono o5 s4); clear o5 b5))
    have c1 := X5.out.c1
    have e1' : IntKind.i64.wrap (n : Int) = (n : Int) := by rw [IntKind.wrap_i64]; omega
    go_region_law (first
      | (rw [if_pos (by simp [Region.wanted])]; go_simp; go_at_call 16; refine (four_says n _).mono ?_; rintro en w6 ⟨p6, c6, rfl, o6, b⟩; have b6 : Below w5.heap.size w5 w6 := ⟨b.os, b.tape, b.output, b.size, b.block⟩; have X6 := Lib.hid (X5.out.kept (b6.mono s5) (Nat.lt_succ_self h) s5); have s6 := Nat.le_trans s5 b6.size; have R6 := Lib.hid (ownK_below R5.out b6); have S6 := Lib.hid (lie_of o6); clear o6 b b6; have c16 := X6.out.c1)
      | (refine step_appK kdB rfl _ _ rfl s7 (R1 := [84, 82, 85, 49] ++ four e ++ four n) rfl R7.out xs (p := p) (m := n) (c := c) rfl HL.out HNil.out (HS.out _ X7.out.b) (by have := HL.out; simp [four]; omega) ?_; intro v8 w8 o8 b8 _; have X8 := Lib.hid (X7.out.kept b8 (Nat.lt_succ_self h) s7); have s8 := Nat.le_trans s7 b8.size; obtain ⟨p8, m8, c8, rfl, hm8⟩ := own_told o8; replace hm8 := Lib.hid hm8; have R8 := Lib.hid o8; clear o8 b8)
      | (refine step_appK kdB rfl _ _ rfl s6 (R1 := [84, 82, 85, 49] ++ four e) rfl R6.out (four n) (p := p6) (m := 4) (c := c6) rfl rfl S6.out.nil S6.out.src (by simp [four]) ?_; intro v7 w7 o7 b7 _; have X7 := Lib.hid (X6.out.kept b7 (Nat.lt_succ_self h) s6); have s7 := Nat.le_trans s6 b7.size; obtain ⟨p7, m7, c7, rfl, hm7⟩ := own_told o7; replace hm7 := Lib.hid hm7; have R7 := Lib.hid o7; clear o7 b7; have c17 := X7.out.c1))
    all_goals
      have R9 := R8.out
      rw [hhead.out] at R9
      have L9 := Lib.hid (lie_of R9)
      have hm9 := hm8.out
      rw [hhead.out, head_len, HL.out] at hm9
      have hm9' := Lib.hid (show m8 ≤ 900000 by omega)
      replace R9 := Lib.hid R9
      clear hm9 c1
      obtain ⟨S, hS⟩ : ∃ S, S = (headL e xs).sum := ⟨_, rfl⟩
      have HSum := Lib.hid (by rw [hS]; exact rsum_says L9.out (head_byt e HX.out) (by have := hm9'.out; omega) : Calls Try.prog 17 #[.slice p8 m8 c8] w8 fun en w' => en = .returned (i64 S) ∧ w8 = w')
      have HF9 := Lib.hid (four_says S w8)
      rw [← hS] at K hsum
      clear hS
      go_wp2_with (first
        | (go_at_call 16; with_reducible refine HF9.out.mono ?_; rintro en w10 ⟨p10, c10, rfl, o10, b10⟩; have X10 := Lib.hid (X8.out.kept (b10.mono s8) (Nat.lt_succ_self h) s8); have s10 := Nat.le_trans s8 b10.size; have R10 := Lib.hid (ownK_below R9.out b10); have S10 := Lib.hid (lie_of o10); clear o10 b10)
        | (go_at_call 17; with_reducible refine HSum.out.mono ?_; rintro en t' ⟨rfl, rfl⟩)
        | (at_builtin; refine wpList_appK kdB rfl _ _ rfl s10 (R1 := headL e xs) rfl R10.out (four S) rfl rfl S10.out.nil S10.out.src (by have := HL.out; rw [head_len]; omega) ?_; intro v11 w11 o11 b11 _; have X11 := Lib.hid (X10.out.kept b11 (Nat.lt_succ_self h) s10); obtain ⟨p11, m11, c11, rfl, -⟩ := own_told o11; have R11 := Lib.hid o11; clear o11 b11))
      exact K.out _ _ _ _ R11.out X11.out.b
  · have K := Lib.hid (fun u (b : Below h w u) => (by rw [hr]; refine ⟨none, 0, 0, rfl, ?_, ?_, by rw [hh]; exact b⟩ <;> rw [show packO e xs = [] by unfold packO; rw [L.len, if_neg hc]]; rfl; exact ownK_nil _ _ _ _ : r (.returned (.tuple #[.slice none 0 0, i64 (chk e n)])) u))
    have hc' : (chk e n != 0) = true := by simpa using hc
    obtain ⟨x, hx'⟩ : ∃ x, x = chk e n := ⟨_, rfl⟩
    rw [← hx'] at K hc' HCk
    clear hr hc L hx he hx'
    go_enter Try.func9, Try.ntmps9
    go_upto_region 1 with fail
    rw [← hw1]
    have c0 := X1.out.c0
    have c1 := X1.out.c1
    clear hw1
    go_wp2_with (go_at_call 11; refine HCk.out.mono ?_; rintro en w2 ⟨rfl, hb2⟩; have b2 := Lib.hid hb2; clear hb2)
    exact K.out _ (X1.out.b.trans (b2.out.mono (by rw [s1]; omega)))
end Go.Proofs.Ythiaibpalnlbiaa.Img
