
/-
  The document's own lexer: str (written by wip/bin/mkxstr.py).
-/
import Derived.Test.YtgikcciakbnehaaDoorLexXc
import Derived.Test.YtgikcciakbnehaaDoorLexQu
import Derived.Lib.AppendStr
set_option maxRecDepth 100000
namespace Go.Proofs.YtgikcciakbnehaaDoor.Lex
open Go.Proofs.YtgikcciakbnehaaDoor Go.Proofs.YtgikcciakbnehaaDoor.Ser
open Go.ChangeShapes Go.WideShapes Go.ChangeAt Go.RowKit
set_option linter.unusedVariables false
/-- Bytes as numbers. -/
def bI (l : List UInt8) : List Int := l.map fun b => (b.toNat : Int)
theorem bI_app (a b : List UInt8) : bI (a ++ b) = bI a ++ bI b := List.map_append
theorem bI_len (a : List UInt8) : (bI a).length = a.length := List.length_map _
theorem bI_cells (s : ByteArray) : u8L (bI s.data.toList) = Lib.strCells s := by unfold u8L bI Lib.strCells; rw [List.map_map]; rfl
theorem bI_str (l : List UInt8) : strOfNums (bI l) = ⟨l.toArray⟩ := by
  have h : (strOfNums (bI l)).data = l.toArray := by
    apply Array.toList_inj.1
    show ((bI l).map fun n => UInt8.ofNat n.toNat) = _
    unfold bI
    rw [List.map_map]
    exact (List.map_congr_left (fun b _ => (by simp : ((fun n : Int => UInt8.ofNat n.toNat) ∘ fun b : UInt8 => (b.toNat : Int)) b = id b))).trans (List.map_id l)
  cases e : strOfNums (bI l)
  rw [e] at h
  congr 1
theorem ext_path {s : ByteArray} {k k' : Nat} {ns : List Int} (P : Path s k ns k') : (s.extract k k').data.toList = ns.flatMap Lib.encodeRune := by
  rw [← P.bytes]
  simp [ByteArray.data_extract, Array.toList_extract]
theorem St.leftS {w0 w : World} {h g k : Nat} {s : ByteArray} {l c : Int} {t : Tok} (S : St w0 w h g s k l c t) : Lex.left h s.size w = s.size - k := by
  unfold Lex.left; rw [S.x.at_]; simp
theorem src_u8 (w : World) (y : Int) (ty : TypeId) : Src (w.alloc (.cells #[.int .u8 y] ty)) (some ⟨w.heap.size, 0, none⟩) [y] := by
  intro _
  refine ⟨_, rfl, ?_⟩
  intro j u hu
  rw [Addr.add_lit, Nat.zero_add, cell_of_row _ w.heap.size j _ _ _ (MapKept.heap_alloc w _).1, ← hu]
  simp
theorem enc_ascii {y : Int} (h0 : 0 ≤ y) (h1 : y < 128) : bI (Lib.encodeRune y) = [y] := by
  unfold bI Lib.encodeRune
  rw [Lib.encodeRuneZ_one h0 (by omega)]
  have : y.toNat < 256 := by omega
  simp [Nat.toUInt8, Nat.mod_eq_of_lt this]
  omega
/-- 'append(b, s...)' where a region draws its order. -/
theorem step_apps {w : World} {B : Nat} {v : Value} {xs : List Int} {ops : Array Oper} {o : Oper} {a : Act} {Q : Exit → Act → World → Prop} {X : Prop} {J : Act → World → Prop} (hgd : o.guard = none) (sl x : Operand)
    (ho : o.op = .call { callee := .builtin .append, args := #[sl, x], argTypes := #[34, 9] }) (hB : B ≤ w.heap.size) (hs : a.eval sl = v) (hown : Own w B v xs) (s : ByteArray)
    (hx : a.eval x = .string s) (hn : xs.length + s.size ≤ 1000000)
    (h : ∀ v' w', Own w' B v' (xs ++ bI s.data.toList) → w.grownBy w' v.ownBlock → J (a.put o.dst v') w') :
    if Region.wanted o (yielded ops a.tmps) = true then Oper.wp Tryd.prog o a w J Q else X := by
  obtain ⟨i, hi, hz0, hz1, hz2⟩ := info_parts info_u8
  obtain ⟨v', w', hr, h2, h3, -⟩ := Lib.run_append_own_string (P := Tryd.prog) w B 34 9 o.type 5 i Tryd.underlying34 Tryd.underlying9 hi hz0 hz1 hz2 v xs.length (u8L xs) hown s (by unfold maxLen; omega) (by omega) hB
  rw [if_pos (by simp [Region.wanted, hgd])]
  refine Lib.wp_append_run w sl x _ _ ho v _ hs hx v' w' hr (h v' w' ?_ h3)
  unfold Own
  rw [List.length_append, bI_len, Array.length_toList, show u8L (xs ++ bI s.data.toList) = u8L xs ++ u8L (bI s.data.toList) from List.map_append, bI_cells]
  exact h2
/-- The lexer with a token in hand, and a row of bytes of the call's own. -/
structure Sb (w0 w : World) (h g : Nat) (s : ByteArray) (k : Nat) (l c : Int) (t : Tok) (B : Nat) (v : Value) (xs : List Int) : Prop where
  s : St w0 w h g s k l c t
  o : Own w B v xs
  hb : h < B
  gb : g < B
  b0 : w0.heap.size ≤ B
  bw : B ≤ w.heap.size
section
variable {w0 w w' : World} {h g k B : Nat} {s : ByteArray} {l c x : Int} {t : Tok} {M : List Int} {v : Value} {xs : List Int}
theorem own_blk (ho : Own w B v xs) {i : Nat} (hi : v.ownBlock = some i) : B ≤ i ∧ i < w.heap.size := World.ownsRow.lt ho i hi
theorem own_slice (ho : Own w B v xs) : ∃ p n c, v = .slice p n c := by obtain ⟨p, c, e, -⟩ := own_form ho; exact ⟨p, _, c, e⟩
theorem Sb.later (S : Sb w0 w h g s k l c t B v xs) (b : But (fun _ => False) w w') : Sb w0 w' h g s k l c t B v xs :=
  ⟨S.s.later b, own_kept S.o fun i hi => b.block i (own_blk S.o hi).2 id, S.hb, S.gb, S.b0, Nat.le_trans S.bw b.size⟩
theorem Sb.grow (S : Sb w0 w h g s k l c t B v xs) {v' : Value} {ys : List Int} (o' : Own w' B v' ys) (hg : w.grownBy w' v.ownBlock) : Sb w0 w' h g s k l c t B v' ys := by
  have b : But (fun i => B ≤ i) w w' := (But.refl _ w).grown hg fun i hi => (own_blk S.o hi).1
  exact ⟨⟨⟨(b.block h S.s.lt.1 (by have := S.hb; omega)).trans S.s.x.hd⟩, (b.block g S.s.lt.2 (by have := S.gb; omega)).trans S.s.tk, S.s.ne, S.s.kl, S.s.cb, S.s.lb, S.s.b.then b (fun _ h => h) (fun i hi hB => by have := S.b0; omega)⟩, o', S.hb, S.gb, S.b0, Nat.le_trans S.bw b.size⟩
theorem peek_sb (S : Sb w0 w h g s k l c t B v xs) (hs : s.size ≤ 65536) (hM : rsAt s k = x :: M) : Calls Tryd.prog 14 #[.pointer (some ⟨h, 0, none⟩)] w fun e w' => e = .returned (i64 x) ∧ Sb w0 w' h g s k l c t B v xs := by
  refine (peek_says S.s.x hs S.s.kl).mono ?_
  rintro e w1 ⟨rfl, n, rfl⟩
  exact ⟨by rw [hM]; rfl, S.later ⟨rfl, rfl, rfl, Nat.le_refl _, fun _ _ _ => rfl⟩⟩
theorem pass_sb (S : Sb w0 w h g s k l c t B v xs) (hs : s.size ≤ 65536) (hM : rsAt s k = x :: M) (h0 : 0 ≤ x) (h10 : x ≠ 10) :
    Calls Tryd.prog 15 #[.pointer (some ⟨h, 0, none⟩)] w fun e w' => e = .returned (.tuple #[]) ∧ ∃ k', k < k' ∧ rsAt s k' = M ∧ Path s k [x] k' ∧ Sb w0 w' h g s k' l (c + 1) t B v xs := by
  have ex : hd (rsAt s k) = x := by rw [hM]; rfl
  obtain ⟨hlt, n, e1, -, hn, P⟩ := path_hd S.s.kl (by rw [ex]; exact h0)
  have h3 := P.top
  have cb := S.s.cb
  have lb := S.s.lb
  refine (pass_says S.s.x hs hlt (by omega) (by omega) e1 h3).mono ?_
  rintro e w1 ⟨rfl, X, b⟩
  rw [ex] at X P
  rw [if_neg h10, if_neg h10] at X
  have hd1 := P.drop (n := 1) rfl
  rw [hM] at hd1
  exact ⟨rfl, _, by omega, hd1, P, ⟨X, (b.block g S.s.lt.2 (fun e => S.s.ne e.symm)).trans S.s.tk, S.s.ne, h3, by omega, by omega, S.s.b.then b (fun _ h => h) (fun _ _ h => .inl h)⟩, own_kept S.o fun i hi => b.block i (own_blk S.o hi).2 (fun e => by have := (own_blk S.o hi).1; have := S.hb; omega), S.hb, S.gb, S.b0, Nat.le_trans S.bw b.size⟩
theorem Sb.cast {c' : Int} (S : Sb w0 w h g s k l c t B v xs) (e : c = c') : Sb w0 w h g s k l c' t B v xs := e ▸ S
/-- A string's next rune: what strGo makes of it. -/
theorem go_end {f j : Nat} {R M : List Int} {ns : List Int} (h : R.drop j = 34 :: M) : strGo (f + 1) R j ns = (ns, j + 1, true) := by
  show (if hd (R.drop j) = 34 then _ else _) = _
  rw [h]; rfl
theorem go_one {f j : Nat} {R M : List Int} {ns : List Int} {x : Int} (h : R.drop j = x :: M) (h34 : x ≠ 34) (h0 : 0 ≤ x) (h10 : x ≠ 10) (h92 : x ≠ 92) : strGo (f + 1) R j ns = strGo f R (j + 1) (ns ++ [x]) := by
  have hm : meant 34 (R.drop j) = (x, 1, true) := by rw [h]; unfold meant; simp [hd, h34, h10, h92, show x ≠ -1 by omega, show x ≠ -2 by omega]
  show (if hd (R.drop j) = 34 then _ else _) = _
  rw [hm, if_neg (by rw [h]; simpa [hd] using h34), if_pos rfl]
theorem go_esc {f j : Nat} {R M : List Int} {ns : List Int} {v y : Int} (h : R.drop j = 92 :: v :: M) (hv : (v = 110 ∧ y = 10) ∨ (v = 92 ∧ y = 92) ∨ (v = 34 ∧ y = 34)) : strGo (f + 1) R j ns = strGo f R (j + 2) (ns ++ [y]) := by
  have hm : meant 34 (R.drop j) = (y, 2, true) := by rw [h]; unfold meant; rcases hv with ⟨rfl, rfl⟩ | ⟨rfl, rfl⟩ | ⟨rfl, rfl⟩ <;> simp [hd]
  show (if hd (R.drop j) = 34 then _ else _) = _
  rw [hm, if_neg (by rw [h]; simp [hd]), if_pos rfl]
theorem go_bad {f j : Nat} {R M : List Int} {ns : List Int} {x : Int} (h : R.drop j = x :: M) (hx : x = -2 ∨ x = -1 ∨ x = 10) : strGo (f + 1) R j ns = (ns, j, false) := by
  have hm : meant 34 (R.drop j) = (0, 0, false) := by rw [h]; unfold meant; rcases hx with rfl | rfl | rfl <;> simp [hd]
  show (if hd (R.drop j) = 34 then _ else _) = _
  rw [hm, if_neg (by rw [h]; rcases hx with rfl | rfl | rfl <;> simp [hd])]
  rfl
theorem go_esc_bad {f j : Nat} {R M : List Int} {ns : List Int} {v : Int} (h : R.drop j = 92 :: v :: M) (hv : v ≠ 110 ∧ v ≠ 92 ∧ v ≠ 34) : strGo (f + 1) R j ns = (ns, j + 1, false) := by
  have hm : meant 34 (R.drop j) = (0, 1, false) := by rw [h]; unfold meant; simp [hd, hv]
  show (if hd (R.drop j) = 34 then _ else _) = _
  rw [hm, if_neg (by rw [h]; simp [hd])]
  rfl
theorem drop_len {R : List Int} {j : Nat} {x : Int} {M : List Int} (h : R.drop j = x :: M) : j < R.length := by
  rcases Nat.lt_or_ge j R.length with h1 | h1
  · exact h1
  · rw [List.drop_eq_nil_of_le h1] at h; cases h
theorem drop_next {R : List Int} {j : Nat} {x : Int} {M : List Int} (h : R.drop j = x :: M) : R.drop (j + 1) = M := by
  rw [← List.drop_drop, h]; rfl
set_option maxRecDepth 100000 in
set_option maxHeartbeats 4000000 in
theorem str_says (S : St w0 w h g s k l c t) (hs : s.size ≤ 65536) (h34 : hd (rsAt s k) = 34) (ht : t.line = l ∧ t.col = c ∧ t.n = 0) (hw : w0.heap.size ≤ w.heap.size) :
    Calls Tryd.prog 21 #[.pointer (some ⟨h, 0, none⟩), .pointer (some ⟨g, 0, none⟩)] w fun e' w' => e' = .returned (.tuple #[]) ∧ Dn w0 w' h g s k l c (strO (rsAt s k) l c) := by
  obtain ⟨p, hp⟩ : ∃ p : Ending → World → Prop, p = fun e' w' => e' = .returned (.tuple #[]) ∧ Dn w0 w' h g s k l c (strO (rsAt s k) l c) := ⟨_, rfl⟩
  rw [← hp]
  obtain ⟨R, hR⟩ : ∃ R, rsAt s k = R := ⟨_, rfl⟩
  obtain ⟨M0, hM0⟩ : ∃ T, R = 34 :: T := by
    rw [← hR]
    cases e : rsAt s k with
    | nil => exact absurd e (rsAt_ne s k)
    | cons a T => rw [e] at h34; exact ⟨T, by rw [show a = 34 from h34]⟩
  have hbad : ∀ (ns : List Int) (j : Nat) (x : Int) (M : List Int), strGo R.length R 1 [] = (ns, j, false) → R.drop j = x :: M → ∀ w', (x = -2 → Er w0 w' h g s l (c + j) 4 → p (.returned (.tuple #[])) w') ∧ (x ≠ -2 → Er w0 w' h g s l c 3 → p (.returned (.tuple #[])) w') := by
    intro ns j x M hgo hd' w'
    have ho : strO R l c = wrong (R.drop j) l (c + j) l c := by unfold strO; rw [hgo]; rfl
    have hx : hd (R.drop j) = x := by rw [hd']; rfl
    rw [hp, hR, ho]
    unfold wrong
    rw [hx]
    constructor
    · rintro rfl E
      rw [if_pos rfl]
      exact ⟨rfl, .inr ⟨by simp [errO], E⟩⟩
    · intro h2 E
      rw [if_neg h2]
      exact ⟨rfl, .inr ⟨by simp [errO], E⟩⟩
  have hgood : ∀ (ns : List Int) (j kr : Nat) (M : List Int), strGo R.length R 1 [] = (ns, j, true) → k < kr → rsAt s kr = R.drop j → ∀ w', St w0 w' h g s kr l (c + j) ⟨3, txt ns, 0, l, c⟩ → p (.returned (.tuple #[])) w' := by
    intro ns j kr M hgo hk hM w' E
    have ho : strO R l c = okO j [⟨3, txt ns, 0, l, c⟩] := by unfold strO; rw [hgo]; rfl
    rw [hp, hR, ho]
    exact ⟨rfl, .inl ⟨rfl, rfl, kr, _, _, hk, by rw [hM, hR]; rfl, E, rfl, rfl, rfl, rfl, rfl, .inr rfl⟩⟩
  have HBD := Lib.hid hbad
  have HGD := Lib.hid hgood
  have HS0 := Lib.hid (S.kind 3)
  have f0 := S.tk.fr 0
  have y0 := S.tk.c0
  have hlt := S.lt
  have HLT := Lib.hid (⟨hlt.1, hlt.2, hw⟩ : h < w.heap.size ∧ g < w.heap.size ∧ w0.heap.size ≤ w.heap.size)
  obtain ⟨tk, htk⟩ : ∃ tk : Tok, tk = { t with kind := 3 } := ⟨_, rfl⟩
  rw [← htk] at HS0
  have HTK := Lib.hid (show tk = ⟨3, t.text, 0, l, c⟩ by rw [htk]; obtain ⟨a1, a2, a3⟩ := ht; cases t; simp_all)
  have HX := Lib.hid (show rsAt s k = 34 :: M0 by rw [hR, hM0])
  have HR0 := Lib.hid hM0
  have k0 : (0 : Int) ≤ (k : Int) := Int.natCast_nonneg k
  have hsI : (s.size : Int) ≤ 65536 := by omega
  clear S hp h34 ht hbad hgood htk hlt hw hM0 hR
  go_enter Tryd.func21, Tryd.ntmps21
  go_upto_region 1 with fail
  obtain ⟨w2, hw2⟩ : ∃ w2, w2 = w.setCell ⟨g, 0, none⟩ (i64 3) := ⟨_, rfl⟩
  have hsz : w2.heap.size = w.heap.size := by rw [hw2]; simp
  rw [← hw2] at HS0 ⊢
  clear hw2 f0 y0
  obtain ⟨B, hB⟩ : ∃ B, w2.heap.size = B := ⟨_, rfl⟩
  have HS := Lib.hid (⟨HS0.out, own_nil w2 B, by have := HLT.out; omega, by have := HLT.out; omega, by have := HLT.out; omega, by omega⟩ : Sb w0 w2 h g s k l c tk B (.slice none 0 0) [])
  clear HS0 hsz hB HLT
  have HX0 := Lib.hid (show (0 : Int) ≤ 34 ∧ (34 : Int) ≠ 10 by decide)
  go_upto_region 2 with (go_at_call 15; refine (pass_sb (HS.out.later (by first | exact But.refl _ _ | exact (But.refl _ _).drew | exact (But.refl _ _).drew.drew)) hs HX.out HX0.out.1 HX0.out.2).mono ?_; rintro e w1 ⟨rfl, k1, hk1, hM1, P1, S1⟩; have HK1 := Lib.hid hk1; have HM1 := Lib.hid hM1; have HP1 := Lib.hid P1; replace HS := Lib.hid S1; clear hk1 hM1 P1 S1)
  go_wp2_with fail
  have tk0 := HTK.out
  subst tk0
  clear HTK HX HX0
  go_loopw [4] (fun s4 wr => ∃ (f j kr : Nat) (ns : List Int) (p : Option Addr) (n cp : Nat), strGo f R j ns = strGo R.length R 1 [] ∧ R.length ≤ f + j ∧ s4 = .slice p n cp ∧ k < kr ∧ rsAt s kr = R.drop j ∧ (ns.flatMap Lib.encodeRune).length + k ≤ kr ∧ Sb w0 wr h g s kr l (c + (j : Int)) ⟨3, t.text, 0, l, c⟩ B (.slice p n cp) (bI (ns.flatMap Lib.encodeRune))) (fun _ wr => Lex.left h s.size wr)
  case atStart => exact ⟨R.length, 1, k1, [], none, 0, 0, rfl, by omega, rfl, HK1.out, by rw [HM1.out, HR0.out]; rfl, by have := HK1.out; simp; omega, HS.out⟩
  case round =>
    clear HS HK1 HM1 HP1
    obtain ⟨f, j, kr, ns, pp, n, cp, hgo, hf, rfl, hkr, hM, hlen, S⟩ := hrel
    obtain ⟨x, M, hx⟩ : ∃ x M, rsAt s kr = x :: M := by
      cases e : rsAt s kr with
      | nil => exact absurd e (rsAt_ne s kr)
      | cons a T => exact ⟨a, T, rfl⟩
    have hj : R.drop j = x :: M := by rw [← hM]; exact hx
    have hjl := drop_len hj
    obtain ⟨f, rfl⟩ : ∃ f', f = f' + 1 := ⟨f - 1, by omega⟩
    have hbd := hd_bds (s := s) kr
    rw [hx] at hbd
    replace hbd : -2 ≤ x ∧ x ≤ 1114111 := hbd
    have HX := Lib.hid hx
    have HS := Lib.hid S
    have HL := Lib.hid S.s.leftS
    have HKR := Lib.hid hkr
    have HLEN := Lib.hid hlen
    have HF0 := Lib.hid hf
    obtain ⟨b0, b1⟩ := hbd
    clear S hkr hlen hf hM
    by_cases a1 : x = -2
    · subst a1
      have HF := Lib.hid (fun w' E => (HBD.out ns j (-2) M (by rw [← hgo]; exact go_bad hj (.inl rfl)) hj w').1 rfl E)
      clear HBD HGD hj hgo
      go_wp2_with (go_at_call 14; refine (peek_sb (HS.out.later (by first | exact But.refl _ _ | exact (But.refl _ _).drew | exact (But.refl _ _).drew.drew)) hs HX.out).mono ?_; rintro e w1 ⟨rfl, S1⟩; replace HS := Lib.hid S1; clear S1)
      have z2 := HS.out.s.x.line; have z3 := HS.out.s.x.col; have y3 := HS.out.s.tk.c3; have y4 := HS.out.s.tk.c4
      go_region_with (go_at_call 16; refine (fail_st (HS.out.s.later (by first | exact But.refl _ _ | exact (But.refl _ _).drew | exact (But.refl _ _).drew.drew)) _ _ _).mono ?_; rintro e w1 ⟨rfl, R1⟩; have HE1 := Lib.hid R1; clear R1)
      all_goals (go_wp2_with fail; first | exact HF.out _ (HE1.out.later (by first | exact But.refl _ _ | exact (But.refl _ _).drew | exact (But.refl _ _).drew.drew)) | (go_end0; exact HF.out _ (HE1.out.later (by first | exact But.refl _ _ | exact (But.refl _ _).drew | exact (But.refl _ _).drew.drew))) | (go_ret; exact HF.out _ (HE1.out.later (by first | exact But.refl _ _ | exact (But.refl _ _).drew | exact (But.refl _ _).drew.drew))))
    by_cases a2 : x = -1 ∨ x = 10
    · have HF := Lib.hid (fun w' E => (HBD.out ns j x M (by rw [← hgo]; exact go_bad hj (.inr a2)) hj w').2 a1 E)
      clear HBD HGD hj hgo a1
      rcases a2 with rfl | rfl
      all_goals
        go_wp2_with (go_at_call 14; refine (peek_sb (HS.out.later (by first | exact But.refl _ _ | exact (But.refl _ _).drew | exact (But.refl _ _).drew.drew)) hs HX.out).mono ?_; rintro e w1 ⟨rfl, S1⟩; replace HS := Lib.hid S1; clear S1)
        have z2 := HS.out.s.x.line; have z3 := HS.out.s.x.col; have y3 := HS.out.s.tk.c3; have y4 := HS.out.s.tk.c4
        go_region_with (go_at_call 16; refine (fail_st (HS.out.s.later (by first | exact But.refl _ _ | exact (But.refl _ _).drew | exact (But.refl _ _).drew.drew)) _ _ _).mono ?_; rintro e w1 ⟨rfl, R1⟩; have HE1 := Lib.hid R1; clear R1)
        all_goals (go_wp2_with fail; first | exact HF.out _ (HE1.out.later (by first | exact But.refl _ _ | exact (But.refl _ _).drew | exact (But.refl _ _).drew.drew)) | (go_end0; exact HF.out _ (HE1.out.later (by first | exact But.refl _ _ | exact (But.refl _ _).drew | exact (But.refl _ _).drew.drew))) | (go_ret; exact HF.out _ (HE1.out.later (by first | exact But.refl _ _ | exact (But.refl _ _).drew | exact (But.refl _ _).drew.drew))))
    have x1 : (x == -2) = false := beq_false_of_ne a1
    have x2 : ¬ x < 0 := by omega
    have x3 : (x == 10) = false := beq_false_of_ne (by omega)
    have HX0 := Lib.hid (show 0 ≤ x ∧ x ≠ 10 by omega)
    by_cases a3 : x = 34
    · subst a3
      clear a1 a2 x1 x2 x3
      have HF := Lib.hid (fun w' kr' hk hM E => HGD.out ns (j + 1) kr' M (by rw [← hgo]; exact go_end hj) hk hM w' E)
      have HN := Lib.hid (drop_next hj)
      clear HBD HGD hj hgo
      go_upto_region 8 with (go_at_call 14; refine (peek_sb (HS.out.later (by first | exact But.refl _ _ | exact (But.refl _ _).drew | exact (But.refl _ _).drew.drew)) hs HX.out).mono ?_; rintro e w1 ⟨rfl, S1⟩; replace HS := Lib.hid S1; clear S1)
      have z1 := HS.out.s.x.at_
      go_upto_region 11 with (go_at_call 15; refine (pass_sb (HS.out.later (by first | exact But.refl _ _ | exact (But.refl _ _).drew | exact (But.refl _ _).drew.drew)) hs HX.out HX0.out.1 HX0.out.2).mono ?_; rintro e w1 ⟨rfl, k1, hk1, hM1, P1, S1⟩; have HK1 := Lib.hid hk1; have HM1 := Lib.hid hM1; have HP1 := Lib.hid P1; replace HS := Lib.hid S1; clear hk1 hM1 P1 S1)
      have y1 := HS.out.s.tk.c1
      have f1 := HS.out.s.tk.fr 1
      obtain ⟨_, _, e5, -, -, -⟩ := own_form HS.out.o
      obtain ⟨rfl, rfl, rfl⟩ := Value.slice.inj e5
      have cv := conv_src (own_src HS.out.o) cp
      rw [bI_str] at cv
      go_wp2_with fail
      first | exact HF.out _ k1 (Nat.lt_trans HKR.out HK1.out) (by rw [HM1.out, HN.out]) ((HS.out.s.text _).cast (by omega)) | (go_end0; exact HF.out _ k1 (Nat.lt_trans HKR.out HK1.out) (by rw [HM1.out, HN.out]) ((HS.out.s.text _).cast (by omega)))
    have x4 : (x == 34) = false := beq_false_of_ne a3
    by_cases a4 : x = 92
    · subst a4
      clear x1 x2 x3 x4 a1 a2 a3
      obtain ⟨v, M, rfl, v0, v1⟩ := rsAt_more hx (by decide)
      have HN := Lib.hid (drop_next hj)
      have HX2 := HX
      by_cases c1 : v = -2
      · subst c1
        have HF := Lib.hid (fun w' E => (HBD.out ns (j + 1) (-2) M (by rw [← hgo]; exact go_esc_bad hj (by decide)) HN.out w').1 rfl E)
        clear HBD HGD hj hgo
        go_upto_region 8 with (go_at_call 14; refine (peek_sb (HS.out.later (by first | exact But.refl _ _ | exact (But.refl _ _).drew | exact (But.refl _ _).drew.drew)) hs HX.out).mono ?_; rintro e w1 ⟨rfl, S1⟩; replace HS := Lib.hid S1; clear S1)
        have z1 := HS.out.s.x.at_
        go_upto_region 14 with (go_at_call 15; refine (pass_sb (HS.out.later (by first | exact But.refl _ _ | exact (But.refl _ _).drew | exact (But.refl _ _).drew.drew)) hs HX.out HX0.out.1 HX0.out.2).mono ?_; rintro e w1 ⟨rfl, k1, hk1, hM1, P1, S1⟩; have HK1 := Lib.hid hk1; have HM1 := Lib.hid hM1; have HP1 := Lib.hid P1; replace HS := Lib.hid S1; clear hk1 hM1 P1 S1)
        clear z1
        go_wp2_with (go_at_call 14; refine (peek_sb (HS.out.later (by first | exact But.refl _ _ | exact (But.refl _ _).drew | exact (But.refl _ _).drew.drew)) hs HM1.out).mono ?_; rintro e w1 ⟨rfl, S1⟩; replace HS := Lib.hid S1; clear S1)
        have z2 := HS.out.s.x.line; have z3 := HS.out.s.x.col; have y3 := HS.out.s.tk.c3; have y4 := HS.out.s.tk.c4
        go_region_with (go_at_call 16; refine (fail_st (HS.out.s.later (by first | exact But.refl _ _ | exact (But.refl _ _).drew | exact (But.refl _ _).drew.drew)) _ _ _).mono ?_; rintro e w1 ⟨rfl, R1⟩; have HE1 := Lib.hid R1; clear R1)
        all_goals (go_wp2_with fail; first | exact HF.out _ ((show c + (j : Int) + 1 = c + ((j + 1 : Nat) : Int) by omega) ▸ HE1.out.later (by first | exact But.refl _ _ | exact (But.refl _ _).drew | exact (But.refl _ _).drew.drew)) | (go_end0; exact HF.out _ ((show c + (j : Int) + 1 = c + ((j + 1 : Nat) : Int) by omega) ▸ HE1.out.later (by first | exact But.refl _ _ | exact (But.refl _ _).drew | exact (But.refl _ _).drew.drew))) | (go_ret; exact HF.out _ ((show c + (j : Int) + 1 = c + ((j + 1 : Nat) : Int) by omega) ▸ HE1.out.later (by first | exact But.refl _ _ | exact (But.refl _ _).drew | exact (But.refl _ _).drew.drew))))
      by_cases c2 : v ≠ 110 ∧ v ≠ 92 ∧ v ≠ 34
      · have HF := Lib.hid (fun w' E => (HBD.out ns (j + 1) v M (by rw [← hgo]; exact go_esc_bad hj c2) HN.out w').2 c1 E)
        have v1' : (v == -2) = false := beq_false_of_ne c1
        have HE := Lib.hid (show escV v 34 = -1 by unfold escV; simp [c2])
        clear HBD HGD hj hgo c2
        go_upto_region 8 with (go_at_call 14; refine (peek_sb (HS.out.later (by first | exact But.refl _ _ | exact (But.refl _ _).drew | exact (But.refl _ _).drew.drew)) hs HX.out).mono ?_; rintro e w1 ⟨rfl, S1⟩; replace HS := Lib.hid S1; clear S1)
        have z1 := HS.out.s.x.at_
        go_upto_region 14 with (go_at_call 15; refine (pass_sb (HS.out.later (by first | exact But.refl _ _ | exact (But.refl _ _).drew | exact (But.refl _ _).drew.drew)) hs HX.out HX0.out.1 HX0.out.2).mono ?_; rintro e w1 ⟨rfl, k1, hk1, hM1, P1, S1⟩; have HK1 := Lib.hid hk1; have HM1 := Lib.hid hM1; have HP1 := Lib.hid P1; replace HS := Lib.hid S1; clear hk1 hM1 P1 S1)
        clear z1
        go_wp2_with (first | (go_at_call 14; refine (peek_sb (HS.out.later (by first | exact But.refl _ _ | exact (But.refl _ _).drew | exact (But.refl _ _).drew.drew)) hs HM1.out).mono ?_; rintro e w1 ⟨rfl, S1⟩; replace HS := Lib.hid S1; clear S1) | (go_at_call 37; refine (escape_says _ _ _).mono ?_; rintro e w1 ⟨rfl, rfl⟩; rw [HE.out]))
        have z2 := HS.out.s.x.line; have z3 := HS.out.s.x.col; have y3 := HS.out.s.tk.c3; have y4 := HS.out.s.tk.c4
        go_region_with (go_at_call 16; refine (fail_st (HS.out.s.later (by first | exact But.refl _ _ | exact (But.refl _ _).drew | exact (But.refl _ _).drew.drew)) _ _ _).mono ?_; rintro e w1 ⟨rfl, R1⟩; have HE1 := Lib.hid R1; clear R1)
        all_goals (go_wp2_with fail; first | exact HF.out _ (HE1.out.later (by first | exact But.refl _ _ | exact (But.refl _ _).drew | exact (But.refl _ _).drew.drew)) | (go_end0; exact HF.out _ (HE1.out.later (by first | exact But.refl _ _ | exact (But.refl _ _).drew | exact (But.refl _ _).drew.drew))) | (go_ret; exact HF.out _ (HE1.out.later (by first | exact But.refl _ _ | exact (But.refl _ _).drew | exact (But.refl _ _).drew.drew))))
      have c3 : ∃ y : Int, (v = 110 ∧ y = 10) ∨ (v = 92 ∧ y = 92) ∨ (v = 34 ∧ y = 34) := by
        by_cases d1 : v = 110
        · exact ⟨10, .inl ⟨d1, rfl⟩⟩
        · by_cases d2 : v = 92
          · exact ⟨92, .inr (.inl ⟨d2, rfl⟩)⟩
          · by_cases d3 : v = 34
            · exact ⟨34, .inr (.inr ⟨d3, rfl⟩)⟩
            · exact absurd ⟨d1, d2, d3⟩ c2
      obtain ⟨y, c3⟩ := c3
      have HGO := Lib.hid (go_esc (f := f) (ns := ns) (y := y) hj c3)
      have hy : bI (Lib.encodeRune y) = [y] := enc_ascii (by omega) (by omega)
      have HY := Lib.hid (show bI ((ns ++ [y]).flatMap Lib.encodeRune) = bI (ns.flatMap Lib.encodeRune) ++ [y] by rw [List.flatMap_append, bI_app, List.flatMap_cons, List.flatMap_nil, List.append_nil, hy])
      have HYL := Lib.hid (show ((ns ++ [y]).flatMap Lib.encodeRune).length = (ns.flatMap Lib.encodeRune).length + 1 by rw [← bI_len, HY.out, List.length_append, bI_len]; rfl)
      have HNX := Lib.hid (drop_next HN.out)
      have hgo' := Lib.hid hgo
      have HX3 := Lib.hid (show 0 ≤ v ∧ v ≠ 10 by omega)
      have HE := Lib.hid (show escV v 34 = y by unfold escV; rcases c3 with ⟨rfl, rfl⟩ | ⟨rfl, rfl⟩ | ⟨rfl, rfl⟩ <;> simp)
      have v2 : (v == -2) = false := beq_false_of_ne c1
      have y2 : ¬ y < 0 := by omega
      have wy : IntKind.u8.wrap y = y := by rcases c3 with ⟨rfl, rfl⟩ | ⟨rfl, rfl⟩ | ⟨rfl, rfl⟩ <;> rfl
      clear HBD HGD hj hgo c1 c2 c3 hy v0 v1 hjl
      go_upto_region 8 with (go_at_call 14; refine (peek_sb (HS.out.later (by first | exact But.refl _ _ | exact (But.refl _ _).drew | exact (But.refl _ _).drew.drew)) hs HX.out).mono ?_; rintro e w1 ⟨rfl, S1⟩; replace HS := Lib.hid S1; clear S1)
      have z1 := HS.out.s.x.at_
      go_upto_region 14 with (go_at_call 15; refine (pass_sb (HS.out.later (by first | exact But.refl _ _ | exact (But.refl _ _).drew | exact (But.refl _ _).drew.drew)) hs HX.out HX0.out.1 HX0.out.2).mono ?_; rintro e w1 ⟨rfl, k1, hk1, hM1, P1, S1⟩; have HK1 := Lib.hid hk1; have HM1 := Lib.hid hM1; have HP1 := Lib.hid P1; replace HS := Lib.hid S1; clear hk1 hM1 P1 S1)
      clear z1
      go_upto_region 20 with (first | (go_at_call 14; refine (peek_sb (HS.out.later (by first | exact But.refl _ _ | exact (But.refl _ _).drew | exact (But.refl _ _).drew.drew)) hs HM1.out).mono ?_; rintro e w1 ⟨rfl, S1⟩; replace HS := Lib.hid S1; clear S1) | (go_at_call 37; refine (escape_says _ _ _).mono ?_; rintro e w1 ⟨rfl, rfl⟩; rw [HE.out]))
      have HOL := Lib.hid (show (bI (ns.flatMap Lib.encodeRune)).length + 1 ≤ 1000000 by rw [bI_len]; have := HLEN.out; have := HS.out.s.kl; have := HK1.out; omega)
      have HSA := Lib.hid (HS.out.later ((But.refl _ _).alloc (.cells #[.int .u8 y] 5)))
      go_upto_region 21 with (at_builtin; (refine wpList_app rfl _ _ rfl (B := B) HSA.out.bw (v1 := .slice pp n cp) (R1 := bI (ns.flatMap Lib.encodeRune)) rfl HSA.out.o [y] rfl rfl (fun e => by cases e) (src_u8 _ y _) HOL.out ?_; intro v' w5 k1' k2' _; have HS5 := Lib.hid (HSA.out.grow k1' k2'); obtain ⟨p5, n5, c5, rfl⟩ := own_slice k1'; clear k1' k2'))
      have HX2 := HM1
      replace HS := HS5
      go_wp2_with (go_at_call 15; refine (pass_sb (HS.out.later (by first | exact But.refl _ _ | exact (But.refl _ _).drew | exact (But.refl _ _).drew.drew)) hs HX2.out HX3.out.1 HX3.out.2).mono ?_; rintro e w1 ⟨rfl, k2, hk2, hM2, P2, S2⟩; have HK2 := Lib.hid hk2; have HM2 := Lib.hid hM2; replace HS := Lib.hid S2; clear hk2 hM2 P2 S2)
      go_roundw
      case rel => exact ⟨f, j + 2, k2, ns ++ [y], _, _, _, by rw [← hgo'.out, HGO.out], by have := HF0.out; omega, rfl, by have := HKR.out; have := HK1.out; have := HK2.out; omega, by rw [HM2.out, ← HNX.out], by rw [HYL.out]; have := HLEN.out; have := HK1.out; have := HK2.out; omega, by rw [HY.out]; exact HS.out.cast (show c + (j : Int) + 1 + 1 = c + ((j + 2 : Nat) : Int) by omega)⟩
      case measure => rw [HL.out, HS.out.s.leftS]; have := HK1.out; have := HK2.out; have := HS.out.s.kl; omega
    have x5 : (x != 92) = true := by simpa using a4
    have HGO := Lib.hid (go_one (f := f) (ns := ns) hj a3 HX0.out.1 HX0.out.2 a4)
    have HNX := Lib.hid (drop_next hj)
    have hgo' := Lib.hid hgo
    clear HBD HGD hj hgo a1 a2 a3 a4 hjl
    go_upto_region 8 with (go_at_call 14; refine (peek_sb (HS.out.later (by first | exact But.refl _ _ | exact (But.refl _ _).drew | exact (But.refl _ _).drew.drew)) hs HX.out).mono ?_; rintro e w1 ⟨rfl, S1⟩; replace HS := Lib.hid S1; clear S1)
    have z1 := HS.out.s.x.at_
    go_upto_region 13 with (go_at_call 15; refine (pass_sb (HS.out.later (by first | exact But.refl _ _ | exact (But.refl _ _).drew | exact (But.refl _ _).drew.drew)) hs HX.out HX0.out.1 HX0.out.2).mono ?_; rintro e w1 ⟨rfl, k1, hk1, hM1, P1, S1⟩; have HK1 := Lib.hid hk1; have HM1 := Lib.hid hM1; have HP1 := Lib.hid P1; replace HS := Lib.hid S1; clear hk1 hM1 P1 S1)
    clear z1
    have z0 := HS.out.s.x.text
    have z1 := HS.out.s.x.at_
    have hz1 : (kr : Int) ≤ (k1 : Int) := by have := HK1.out; omega
    have hz2 : (k1 : Int) ≤ (s.size : Int) := by have := HS.out.s.kl; omega
    have kr0 : (0 : Int) ≤ (kr : Int) := Int.natCast_nonneg kr
    have hex := ext_path HP1.out
    have hsz : (s.extract kr k1).size = k1 - kr := by have := HS.out.s.kl; rw [ByteArray.size_extract]; omega
    have HEX := Lib.hid hex
    have HSZ := Lib.hid hsz
    have HY := Lib.hid (show bI ((ns ++ [x]).flatMap Lib.encodeRune) = bI (ns.flatMap Lib.encodeRune) ++ bI (s.extract kr k1).data.toList by rw [hex, List.flatMap_append, bI_app])
    have HYL := Lib.hid (show ((ns ++ [x]).flatMap Lib.encodeRune).length = (ns.flatMap Lib.encodeRune).length + (k1 - kr) by rw [← bI_len, HY.out, List.length_append, bI_len, bI_len, Array.length_toList]; exact congrArg _ hsz)
    have HOL := Lib.hid (show (bI (ns.flatMap Lib.encodeRune)).length + (s.extract kr k1).size ≤ 1000000 by rw [bI_len, hsz]; have := HLEN.out; have := HS.out.s.kl; have := HK1.out; omega)
    clear hex hsz
    go_region_law (refine step_apps rfl _ _ rfl (B := B) ((HS.out.later (by first | exact But.refl _ _ | exact (But.refl _ _).drew | exact (But.refl _ _).drew.drew)).bw) rfl ((HS.out.later (by first | exact But.refl _ _ | exact (But.refl _ _).drew | exact (But.refl _ _).drew.drew)).o) (s.extract kr k1) rfl HOL.out ?_; intro v' u h1 h2; have HS5 := Lib.hid ((HS.out.later (by first | exact But.refl _ _ | exact (But.refl _ _).drew | exact (But.refl _ _).drew.drew)).grow h1 h2); obtain ⟨p5, n5, c5, rfl⟩ := own_slice h1; clear h1 h2)
    all_goals
      go_wp2_with fail
      go_roundw
      case rel => exact ⟨_, _, _, _, _, _, _, _, _, _, _, _, _, _, _, _, _, _, _, _, _, _, _, _, _, _, _, _, _, _, _, _, _, _, _, _, _, _, _, _, _, _, _, _, _, _, _, _, _, _, _, _, _, _, _, _, _, _, _, _, _, _, _, _, _, _, _, _, _, _, _, _, _, _, _, _, _, _, _, _, _, _, _, _, _, _, _, _, _, _, _, _, _, _, _, _, _, ⟨f, j + 1, k1, ns ++ [x], _, _, _, by rw [← hgo'.out, HGO.out], by have := HF0.out; omega, rfl, by have := HKR.out; have := HK1.out; omega, by rw [HM1.out, HNX.out], by rw [HYL.out]; have := HLEN.out; have := HK1.out; omega, by rw [HY.out]; exact (HS5.out.later (by first | exact But.refl _ _ | exact (But.refl _ _).drew | exact (But.refl _ _).drew.drew)).cast (show c + (j : Int) + 1 = c + ((j + 1 : Nat) : Int) by omega)⟩, rfl⟩
      case measure => rw [HL.out, (HS5.out.later (by first | exact But.refl _ _ | exact (But.refl _ _).drew | exact (But.refl _ _).drew.drew)).s.leftS]; have := HK1.out; have := HS5.out.s.kl; omega
end
end Go.Proofs.YtgikcciakbnehaaDoor.Lex
