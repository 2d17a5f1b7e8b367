/-
  Package image: the contract of Pack.
-/
import Derived.Test.YthiaibpalnlbiaaImgB
set_option maxRecDepth 100000
namespace Go.Proofs.Ythiaibpalnlbiaa.Img
open Go.Proofs.Ythiaibpalnlbiaa Go.Proofs.Ythiaibpalnlbiaa.Ser
open Go.ChangeShapes Go.WideShapes Go.ChangeAt Go.RowKit
set_option linter.unusedVariables false
/-- The bytes that Pack tells. -/
def packO (e : Int) (xs : List Int) : List Int := if chk e xs.length = 0 then packL e xs else []
/-- A row of bytes and a number are told. -/
def Told (w : World) (xs : List Int) (x : Int) (e : Ending) (w' : World) : Prop := ∃ p m c, e = .returned (.tuple #[.slice p m c, i64 x]) ∧ m = xs.length ∧ OwnK 5 .u8 w' w.heap.size (.slice p m c) xs ∧ Below w.heap.size w w'
/-- An image's box. -/
structure BoxI (w0 w : World) (h : Nat) (e : Int) (p : Option Addr) (n c : Nat) : Prop where
  c0 : w.cell? ⟨h, 0, none⟩ = some (i64 e)
  c1 : w.cell? ⟨h, 1, none⟩ = some (.slice p n c)
  lt : h < w.heap.size
  b : Below h w0 w
theorem BoxI.new {w : World} {e : Int} {p : Option Addr} {n c : Nat} : BoxI w (w.alloc (.cells #[i64 e, .slice p n c] 24)) w.heap.size e p n c := by
  have h := heap_alloc_new w (.cells #[i64 e, .slice p n c] 24 (0, 0))
  exact ⟨by rw [cell_of_row _ w.heap.size 0 _ _ _ h]; rfl, by rw [cell_of_row _ w.heap.size 1 _ _ _ h]; rfl, by simp, (Below.refl _ _).alloc (Nat.le_refl _) _⟩
theorem BoxI.kept {w0 w w' : World} {h B : Nat} {e : Int} {p : Option Addr} {n c : Nat} (b : BoxI w0 w h e p n c) (hb : Below B w w') (hB : h < B) (hB2 : B ≤ w.heap.size) : BoxI w0 w' h e p n c :=
  ⟨(World.cell?_of_block (hb.block h hB)).trans b.c0, (World.cell?_of_block (hb.block h hB)).trans b.c1, Nat.lt_of_lt_of_le b.lt hb.size, b.b.trans (hb.mono (by omega))⟩
theorem own_told {w : World} {B : Nat} {v : Value} {xs : List Int} (h : OwnK 5 .u8 w B v xs) : ∃ p m c, v = .slice p m c ∧ m = xs.length := by
  obtain ⟨p, c, rfl, -⟩ := ownK_lie h; exact ⟨p, _, c, rfl, rfl⟩
theorem strCells_tru : Lib.strCells ⟨#[84, 82, 85, 49]⟩ = u8L [84, 82, 85, 49] := rfl
set_option maxRecDepth 100000 in
set_option maxHeartbeats 4000000 in
theorem pack_says {w : World} (e : Int) (he : -9223372036854775808 ≤ e ∧ e ≤ 9223372036854775807) {p : Option Addr} {n c : Nat} {xs : List Int} (L : Lie .u8 w w.heap.size p n c xs) (hx : Byt xs) (hn : n ≤ 800000) :
    Calls Try.prog 8 #[imgV e p n c] w (Told w (packO e xs) (chk e n)) := by
  obtain ⟨i, hi, hz0, hz1, hz2⟩ := info_parts info_u8
  obtain ⟨r, hr⟩ : ∃ r, r = Told w (packO e xs) (chk e n) := ⟨_, rfl⟩
  rw [← hr]
  obtain ⟨h, hh⟩ : ∃ h, w.heap.size = h := ⟨_, rfl⟩
  obtain ⟨w1, hw1⟩ : ∃ w1, w1 = w.alloc (.cells #[i64 e, .slice p n c] 24) := ⟨_, rfl⟩
  have X1 := Lib.hid (by rw [hw1, ← hh]; exact BoxI.new : BoxI w w1 h e p n c)
  have s1 : w1.heap.size = h + 1 := by rw [hw1, ← hh]; simp
  have HE := Lib.hid he
  have HL := Lib.hid L.len
  have HCk := Lib.hid (check_says e p n c (by omega) w1)
  have HX := Lib.hid hx
  have n0 : (0 : Int) ≤ (n : Int) := Int.natCast_nonneg n
  have hn' : (n : Int) ≤ 800000 := by omega
  by_cases hc : chk e n = 0
  · obtain ⟨e0, e1, e2, -⟩ := chk_of hc
    have K := Lib.hid (fun p' m' c' u (o : OwnK 5 .u8 u (h + 1) (.slice p' m' c') (headL e xs ++ four (headL e xs).sum)) (b : Below h w u) => (by rw [hr, hc]; refine ⟨p', m', c', rfl, ?_, ?_, by rw [hh]; exact b⟩ <;> rw [show packO e xs = headL e xs ++ four (headL e xs).sum by unfold packO packL; rw [L.len, if_pos hc]]; (obtain ⟨p2, c2, e2, -⟩ := ownK_lie o; injection e2); exact ownK_mono o (by omega) : r (.returned (.tuple #[.slice p' m' c', i64 0])) u))
    have HS := Lib.hid (fun u (b : Below h w u) => (L.kept (B' := h) (by exact b) (by omega)).src)
    rw [hc] at HCk
    have hem : e % 4294967296 = e := by omega
    have hnm : (n : Int) % 4294967296 = (n : Int) := by omega
    have HNil := Lib.hid L.nil
    have hhead := Lib.hid (show [84, 82, 85, 49] ++ four e ++ four n ++ xs = headL e xs by unfold headL; rw [L.len])
    have hsum := Lib.hid (show 0 ≤ (headL e xs).sum ∧ (headL e xs).sum ≤ 4294967295 by have h1 := sum_bd _ (head_byt e hx); rw [head_len, L.len] at h1; omega)
    clear hr hc L hx he
    go_enter Try.func8, Try.ntmps8
    go_upto_region 1 with fail
    rw [← hw1]
    have c0 := X1.out.c0
    have c1 := X1.out.c1
    clear hw1
    go_upto_region 4 with (go_at_call 7; refine HCk.out.mono ?_; rintro en w2 ⟨rfl, hb2⟩; have X2 := Lib.hid (X1.out.kept hb2 X1.out.lt (Nat.le_refl _)); have s2 := hb2.size; rw [s1] at s2; clear hb2 c0 c1; have c0 := X2.out.c0; have c1 := X2.out.c1)
    go_upto_region 5 with (at_make; refine wpList_make_own _ rfl _ _ 22 rfl (h + 1) 5 i _ 1 Try.underlying22 hi hz0 hz1 _ _ _ (n + 16) rfl rfl (by omega) (by rw [hz2]; omega) (by unfold maxLen; omega) s2 ?_; intro w3 o3 g3; have b3 := grown_below (B := h + 1) (v := .slice none 0 0) g3 s2 (fun _ h => by cases h); have X3 := Lib.hid (X2.out.kept b3 (Nat.lt_succ_self h) s2); have s3 := Nat.le_trans s2 b3.size; have R3 := Lib.hid (show OwnK 5 .u8 w3 (h + 1) _ [] from o3); clear o3 g3 b3 c0 c1; have c0 := X3.out.c0; have c1 := X3.out.c1)
    obtain ⟨g, hg⟩ : ∃ g, w2.heap.size = g := ⟨_, rfl⟩
    rw [hg] at R3 ⊢
    clear hg
    go_upto_region 6 with (at_builtin; refine Lib.wpList_append_own_string _ rfl _ _ 22 9 rfl (h + 1) 5 i Try.underlying22 Try.underlying9 hi hz0 hz1 hz2 _ _ _ rfl R3.out ⟨#[84, 82, 85, 49]⟩ rfl (by decide) (by decide) s3 ?_; intro v4 w4 o4 g4 _; have b4 := grown_below (B := h + 1) g4 s3 (fun g hg => (R3.out.lt g hg).1); have X4 := Lib.hid (X3.out.kept b4 (Nat.lt_succ_self h) s3); have s4 := Nat.le_trans s3 b4.size; obtain ⟨p4, m4, c4, rfl, -⟩ := own_told (xs := [84, 82, 85, 49]) o4; have R4 := Lib.hid (show OwnK 5 .u8 w4 (h + 1) _ [84, 82, 85, 49] from o4); clear o4 g4 b4 c0 c1; have c0 := X4.out.c0; have c1 := X4.out.c1)
    go_upto_region 7 with (go_at_call 14; refine (appendWord_says R4.out s4 (by simp) e e0 e1).mono ?_; rintro en w5 ⟨p5, m5, c5, rfl, -, o5, b5⟩; have X5 := Lib.hid (X4.out.kept b5 (Nat.lt_succ_self h) s4); have s5 := Nat.le_trans s4 b5.size; have R5 := Lib.hid o5; clear o5 b5 c0 c1; have c0 := X5.out.c0; have c1 := X5.out.c1)
    go_upto_region 8 with (go_at_call 14; refine (appendWord_says R5.out s5 (by simp [four]) n n0 (by omega)).mono ?_; rintro en w6 ⟨p6, m6, c6, rfl, -, o6, b6⟩; have X6 := Lib.hid (X5.out.kept b6 (Nat.lt_succ_self h) s5); have s6 := Nat.le_trans s5 b6.size; have R6 := Lib.hid o6; clear o6 b6 c0 c1; have c0 := X6.out.c0; have c1 := X6.out.c1)
    go_upto_region 9 with (at_builtin; refine wpList_appK kdB rfl _ _ rfl s6 (R1 := [84, 82, 85, 49] ++ four e ++ four n) rfl R6.out xs rfl HL.out HNil.out (HS.out _ X6.out.b) (by have := HL.out; simp [four]; omega) ?_; intro v7 w7 o7 b7 _; have X7 := Lib.hid (X6.out.kept b7 (Nat.lt_succ_self h) s6); have s7 := Nat.le_trans s6 b7.size; rw [hhead.out] at o7; obtain ⟨p7, m7, c7, rfl, hm7⟩ := own_told o7; rw [head_len, HL.out] at hm7; replace hm7 : m7 ≤ 900000 := (by omega); have R7 := Lib.hid o7; clear o7 b7 c0 c1)
    obtain ⟨p8, c8, e8, -, L8⟩ := ownK_lie R7.out
    injection e8 with ea eb ec
    subst ea ec
    rw [← eb] at L8
    have HL8 := Lib.hid L8
    clear L8 eb
    go_wp2_with (first
      | (go_at_call 14; with_reducible refine (appendWord_says R7.out s7 (by have := HL.out; rw [head_len]; omega) _ hsum.out.1 hsum.out.2).mono ?_; rintro en w9 ⟨p9, m9, c9, rfl, -, o9, b9⟩; have X9 := Lib.hid (X7.out.kept b9 (Nat.lt_succ_self h) s7); have R9 := Lib.hid o9; clear o9 b9)
      | (go_at_call 15; with_reducible refine (sum_says HL8.out (head_byt e HX.out) (by omega)).mono ?_; rintro en t' ⟨rfl, rfl⟩))
    exact K.out _ _ _ _ R9.out X9.out.b
  · have K := Lib.hid (fun u (b : Below h w u) => (by rw [hr]; refine ⟨none, 0, 0, rfl, ?_, ?_, by rw [hh]; exact b⟩ <;> rw [show packO e xs = [] by unfold packO; rw [L.len, if_neg hc]]; rfl; exact ownK_nil _ _ _ _ : r (.returned (.tuple #[.slice none 0 0, i64 (chk e n)])) u))
    have hc' : (chk e n != 0) = true := by simpa using hc
    obtain ⟨x, hx'⟩ : ∃ x, x = chk e n := ⟨_, rfl⟩
    rw [← hx'] at K hc' HCk
    clear hr hc L hx he hx'
    go_enter Try.func8, Try.ntmps8
    go_upto_region 1 with fail
    rw [← hw1]
    have c0 := X1.out.c0
    have c1 := X1.out.c1
    clear hw1
    go_wp2_with (go_at_call 7; refine HCk.out.mono ?_; rintro en w2 ⟨rfl, hb2⟩; have b2 := Lib.hid hb2; clear hb2)
    exact K.out _ (X1.out.b.trans (b2.out.mono (by rw [s1]; omega)))
end Go.Proofs.Ythiaibpalnlbiaa.Img
