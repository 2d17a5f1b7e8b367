/-
  Kit: a box of one's own with an image in it; rows that were written out; no call of any package. (The same laws stand in XImgC, XImgD, XImgR, XImgS, in namespace Img.) | The laws' Code: an image of words.
-/
import Derived.Test.YtfcmodllbhpniaaGreatDoorJnBytes
import Derived.Test.YtfcmodllbhpniaaGreatDoorJnImgMath
set_option linter.unusedVariables false
set_option maxRecDepth 100000
namespace Go.Proofs.YtfcmodllbhpniaaGreatDoor.Box
open Go.Proofs.YtfcmodllbhpniaaGreatDoor Go.Proofs.YtfcmodllbhpniaaGreatDoor.Ser
open Go.ChangeShapes Go.WideShapes Go.ChangeAt Go.RowKit
set_option linter.unusedVariables false
/-- A box of one's own with an image in it. -/
structure BoxO (w : World) (g : Nat) (v0 v1 : Value) : Prop where
  row : ∃ fr, w.heap[g]? = some (.cells #[v0, v1] 24 fr) ∧ fr = (0, 0)
section
variable {w w' : World} {g g' : Nat} {v0 v1 : Value}
theorem BoxO.new (w : World) (v0 v1 : Value) : BoxO (w.alloc (.cells #[v0, v1] 24)) w.heap.size v0 v1 := ⟨_, heap_alloc_new w _, rfl⟩
theorem BoxO.c0 (b : BoxO w g v0 v1) : w.cell? ⟨g, 0, none⟩ = some v0 := by obtain ⟨fr, h, -⟩ := b.row; rw [cell_of_row w g 0 _ _ _ h]; rfl
theorem BoxO.c1 (b : BoxO w g v0 v1) : w.cell? ⟨g, 1, none⟩ = some v1 := by obtain ⟨fr, h, -⟩ := b.row; rw [cell_of_row w g 1 _ _ _ h]; rfl
theorem BoxO.fr (b : BoxO w g v0 v1) (o : Nat) : w.frozen? ⟨g, o, none⟩ = false := by obtain ⟨fr, h, rfl⟩ := b.row; simp [World.frozen?, h]
theorem BoxO.lt (b : BoxO w g v0 v1) : g < w.heap.size := by obtain ⟨fr, h, -⟩ := b.row; exact (Array.getElem?_eq_some_iff.1 h).1
theorem BoxO.kept {B : Nat} (b : BoxO w g v0 v1) (hb : Below B w w') (h : g < B) : BoxO w' g v0 v1 := by obtain ⟨fr, h1, h2⟩ := b.row; exact ⟨fr, (hb.block g h).trans h1, h2⟩
theorem BoxO.set0 (b : BoxO w g v0 v1) (x : Value) : BoxO (w.setCell ⟨g, 0, none⟩ x) g x v1 := by obtain ⟨fr, h1, h2⟩ := b.row; exact ⟨fr, by rw [setCell_row h1]; rfl, h2⟩
theorem BoxO.set1 (b : BoxO w g v0 v1) (x : Value) : BoxO (w.setCell ⟨g, 1, none⟩ x) g v0 x := by obtain ⟨fr, h1, h2⟩ := b.row; exact ⟨fr, by rw [setCell_row h1]; rfl, h2⟩
theorem BoxO.off (b : BoxO w g v0 v1) (h : g ≠ g') (o : Nat) (x : Value) : BoxO (w.setCell ⟨g', o, none⟩ x) g v0 v1 := by obtain ⟨fr, h1, h2⟩ := b.row; exact ⟨fr, by rw [Below.heap_setCell _ _ _ _ h]; exact h1, h2⟩
end
theorem below_set {B : Nat} {w u : World} (h : Below B w u) (g o : Nat) (hg : B ≤ g) (v : Value) : Below B w (u.setCell ⟨g, o, none⟩ v) :=
  h.trans ⟨rfl, rfl, rfl, by simp [World.setCell], fun k hk => Below.heap_setCell _ _ _ _ (by show k ≠ g; omega)⟩
theorem own_told {w : World} {B : Nat} {v : Value} {xs : List Int} (h : OwnK 5 .u8 w B v xs) : ∃ p m c, v = .slice p m c ∧ m = xs.length := by
  obtain ⟨p, c, rfl, -⟩ := ownK_lie h; exact ⟨p, _, c, rfl, rfl⟩
/-- A row that was written out. -/
theorem ownK_built (E : TypeId) (k : IntKind) (w : World) (xs : List Int) (hl : xs.length ≤ maxLen) : OwnK E k (w.alloc (.cells (kL k xs).toArray E)) w.heap.size (.slice (some ⟨w.heap.size, 0, none⟩) xs.length xs.length) xs :=
  ⟨by simp, .inr ⟨w.heap.size, xs.length, (kL k xs).toArray, rfl, Nat.le_refl _, heap_alloc_new _ _, Nat.le_refl _, hl, by simp, by simp [List.take_of_length_le]⟩⟩
theorem lie_of {E : TypeId} {k : IntKind} {w : World} {B : Nat} {p : Option Addr} {m c : Nat} {xs : List Int} (h : OwnK E k w B (.slice p m c) xs) : Lie k w w.heap.size p m c xs := by
  obtain ⟨p2, c2, e, -, L⟩ := ownK_lie h
  injection e with e1 e2 e3
  subst e1 e3
  rw [← e2] at L
  exact L
end Go.Proofs.YtfcmodllbhpniaaGreatDoor.Box
set_option maxRecDepth 100000
namespace Go.Proofs.YtfcmodllbhpniaaGreatDoor.Ser
open Go.Proofs.YtfcmodllbhpniaaGreatDoor Go.Proofs.YtfcmodllbhpniaaGreatDoor.Img Go.Proofs.YtfcmodllbhpniaaGreatDoor.Box
open Go.ChangeShapes Go.WideShapes Go.ChangeAt Go.RowKit
set_option linter.unusedVariables false
/-- The bytes of words. -/
def codeB (xs : List Int) : List Int := xs.flatMap fun x => four (wd x)
theorem codeB_len (xs : List Int) : (codeB xs).length = 4 * xs.length := by
  unfold codeB
  induction xs with
  | nil => rfl
  | cons a l ih => rw [List.flatMap_cons, List.length_append, ih, four_len, List.length_cons]; omega
theorem codeB_byt (xs : List Int) : Byt (codeB xs) := by
  unfold codeB
  intro b hb
  obtain ⟨x, -, hx⟩ := List.mem_flatMap.1 hb
  exact four_byt _ b hx
theorem codeB_succ (xs : List Int) (k : Nat) (h : k < xs.length) : codeB (xs.take (k + 1)) = codeB (xs.take k) ++ four (wd (xs.getD k 0)) := by
  unfold codeB
  rw [List.take_succ_eq_append_getElem h, List.flatMap_append]
  simp [List.getElem?_eq_getElem h]
theorem src_four (w : World) (a b c d : Int) : SrcK .u8 (w.alloc (.cells #[.int .u8 a, .int .u8 b, .int .u8 c, .int .u8 d] 5)) (some ⟨w.heap.size, 0, none⟩) [a, b, c, d] := by
  intro _
  refine ⟨_, rfl, fun j u hu => ?_⟩
  rw [Addr.add_lit, Nat.zero_add, cell_of_row _ w.heap.size j _ _ _ (heap_alloc_new w _)]
  simpa using hu
set_option maxHeartbeats 2000000 in
theorem code_says (en : Int) {w : World} {p : Option Addr} {n c : Nat} {xs : List Int} (L : Lie .i64 w w.heap.size p n c xs) (hn : n ≤ 1000) :
    Calls Tryz.prog 20 #[i64 en, .slice p n c] w fun e w' => ∃ p' m' c', e = .returned (.agg #[i64 en, .slice p' m' c']) ∧ m' = 4 * n ∧ OwnK 5 .u8 w' w.heap.size (.slice p' m' c') (codeB xs) ∧ Below w.heap.size w w' := by
  obtain ⟨r, hr⟩ : ∃ r : Ending → World → Prop, r = fun e w' => ∃ p' m' c', e = .returned (.agg #[i64 en, .slice p' m' c']) ∧ m' = 4 * n ∧ OwnK 5 .u8 w' w.heap.size (.slice p' m' c') (codeB xs) ∧ Below w.heap.size w w' := ⟨_, rfl⟩
  rw [← hr]
  obtain ⟨h, hh⟩ : ∃ h, w.heap.size = h := ⟨_, rfl⟩
  obtain ⟨w1, hw1⟩ : ∃ w1, w1 = w.alloc (.cells #[i64 0, .slice none 0 0] 24) := ⟨_, rfl⟩
  have X1 := Lib.hid (by rw [hw1, ← hh]; exact BoxO.new _ _ _ : BoxO w1 h (i64 0) (.slice none 0 0))
  have B1 := Lib.hid (by rw [hw1]; exact (Below.refl _ _).alloc (Nat.le_of_eq hh.symm) _ : Below h w w1)
  have s1 : w1.heap.size = h + 1 := by rw [hw1, ← hh]; simp
  have HL := Lib.hid (L.kept (by rw [← hh] at B1; exact B1.out) (Nat.le_refl _))
  have HLen := Lib.hid L.len
  have HO := Lib.hid (fun p' m' c' u (o : OwnK 5 .u8 u h (.slice p' m' c') (codeB (xs.take n))) (b : Below h w u) => (by
    rw [List.take_of_length_le (Nat.le_of_eq L.len)] at o
    obtain ⟨p2, m2, c2, e2, hm2⟩ := own_told o
    injection e2 with _ e3 _
    rw [hr]; exact ⟨p', m', c', rfl, by rw [e3, hm2, codeB_len, L.len], by rw [hh]; exact o, by rw [hh]; exact b⟩ : r (.returned (.agg #[i64 en, .slice p' m' c'])) u))
  have n0 : (0 : Int) ≤ (n : Int) := Int.natCast_nonneg n
  have hn' : (n : Int) ≤ 1000 := by omega
  clear hr L
  go_enter Tryz.func20, Tryz.ntmps20
  go_upto_region 1 with fail
  rw [← hw1]
  clear hw1
  go_wp2_with fail
  go_loopw [5, 6] (fun s5 s6 wr => ∃ (k : Nat) (p' : Option Addr) (m' c' : Nat), k ≤ n ∧ s6 = i64 (k : Int) ∧ s5 = .slice p' m' c' ∧ OwnK 5 .u8 wr (h + 1) s5 (codeB (xs.take k)) ∧ Below (h + 1) w1 wr) (fun _ s6 _ => n - (intOf s6).toNat)
  case atStart => exact ⟨0, _, _, _, Nat.zero_le _, rfl, rfl, by simpa [codeB] using ownK_nil _ _ _ _, Below.refl _ _⟩
  case round =>
    obtain ⟨k, p', m', c', hk, rfl, rfl, ho, hb⟩ := hrel
    have HR := Lib.hid ho
    have HB := Lib.hid hb
    have k0 : (0 : Int) ≤ (k : Int) := Int.natCast_nonneg k
    clear ho hb
    by_cases hkn : k < n
    · have hkI : (k : Int) < (n : Int) := by omega
      obtain ⟨b, off, rfl, hlt, hc⟩ := (HL.out.kept HB.out (by rw [hh]; omega)).cell hkn
      have hsuc := Lib.hid (codeB_succ xs k (by rw [HLen.out]; exact hkn))
      obtain ⟨y, hy⟩ : ∃ y, y = xs.getD k 0 := ⟨_, rfl⟩
      rw [← hy] at hc hsuc
      have hW := Lib.hid (w_says y)
      obtain ⟨z, hz⟩ : ∃ z, z = wd y := ⟨_, rfl⟩
      rw [← hz] at hsuc hW
      have q0 : bits .and .i64 z 255 = z % 256 := i64_mask z 8 (by decide)
      have q1 : bits .and .i64 (z / 256) 255 = z / 256 % 256 := i64_mask _ 8 (by decide)
      have q2 : bits .and .i64 (z / 65536) 255 = z / 65536 % 256 := i64_mask _ 8 (by decide)
      have q3 : bits .and .i64 (z / 16777216) 255 = z / 16777216 % 256 := i64_mask _ 8 (by decide)
      have HS := Lib.hid (src_four wr (z % 256) (z / 256 % 256) (z / 65536 % 256) (z / 16777216 % 256))
      have ho2 := Lib.hid (ownK_below HR.out ((Below.refl wr.heap.size wr).alloc (Nat.le_refl _) (.cells #[.int .u8 (z % 256), .int .u8 (z / 256 % 256), .int .u8 (z / 65536 % 256), .int .u8 (z / 16777216 % 256)] 5)))
      have hsz := Lib.hid (show h + 1 ≤ wr.heap.size by have := HB.out.size; omega)
      have HBc := Lib.hid (HB.out.trans (((Below.refl wr.heap.size wr).alloc (Nat.le_refl _) (.cells #[.int .u8 (z % 256), .int .u8 (z / 256 % 256), .int .u8 (z / 65536 % 256), .int .u8 (z / 16777216 % 256)] 5)).mono hsz.out))
      have hB2 := Lib.hid (show h + 1 ≤ (wr.alloc (.cells #[.int .u8 (z % 256), .int .u8 (z / 256 % 256), .int .u8 (z / 65536 % 256), .int .u8 (z / 16777216 % 256)] 5)).heap.size by have := hsz.out; simp; omega)
      have HL2 := Lib.hid (show (codeB (xs.take k)).length + 4 ≤ 1000000 by rw [codeB_len, List.length_take]; omega)
      clear hy hz
      go_wp2_with (first
        | (go_at_call 19; refine (hW.out _).mono ?_; rintro e t' ⟨rfl, rfl⟩)
        | (at_builtin; refine wpList_appK kdB rfl _ _ rfl hB2.out (R1 := codeB (xs.take k)) rfl ho2.out [z % 256, z / 256 % 256, z / 65536 % 256, z / 16777216 % 256] rfl rfl (fun e => by cases e) HS.out HL2.out ?_; intro v' w5 k1 k2 _; rw [show codeB (xs.take k) ++ [z % 256, z / 256 % 256, z / 65536 % 256, z / 16777216 % 256] = codeB (xs.take (k + 1)) from hsuc.out.symm] at k1; obtain ⟨p5, n5, q5, rfl, hn5⟩ := own_told k1; replace hn5 := Lib.hid hn5; replace k1 := Lib.hid k1; replace k2 := Lib.hid k2))
      go_roundw
      case rel => exact ⟨k + 1, p5, n5, q5, hkn, by go_num, rfl, k1.out, HBc.out.trans k2.out⟩
      case measure => simp [intOf]; omega
    · obtain rfl : k = n := by omega
      have X2 := X1.out.kept HB.out (Nat.lt_succ_self h)
      have c0 := X2.c0
      have c1 := X2.c1
      have f0 := X2.fr 0
      have f1 := X2.fr 1
      go_wp2_with fail
      have X9 := (X2.set0 (i64 en)).set1 (.slice p' m' c')
      have d0 := X9.c0
      have d1 := X9.c1
      have hne : (Value.slice p' m' c').ownBlock ≠ some h := fun e => by have := (HR.out.lt h e).1; omega
      exact bodyPost_ret (v := .agg #[i64 en, .slice p' m' c']) (by simp [results, Tryz.results20, go_sem, d0, d1]) rfl (HO.out _ _ _ _ (ownK_mono (ownK_off (ownK_off HR.out hne 0 (i64 en)) hne 1 (.slice p' m' c')) (by omega)) (below_set (below_set (B1.out.trans (HB.out.mono (by omega))) _ _ (Nat.le_refl _) _) _ _ (Nat.le_refl _) _))
end Go.Proofs.YtfcmodllbhpniaaGreatDoor.Ser
