/-
  a source is UTF-8 just where each of its runes is one, as short as can be: law LexerBytes returns true.
  No condition on the arguments: whatever they are. The card ties the three listed tables of Go's library to the program's text.
-/
import Derived.Test.YtgikcciakbnehaaDoorLexAl
import Derived.Carry
import Derived.Lay
import Derived.LaidOnce
import Derived.OpenShut
import Derived.Deep.Slices
import Derived.Test.YtgikcciakbnehaaDoorCards
import Derived.Test.YtgikcciakbnehaaDoorTie
import Derived.SevenTiedAt
import Derived.Test.YtgikcciakbnehaaDoorLexSb
namespace Go.Proofs.YtgikcciakbnehaaDoor.lexerBytes
open Go Go.Proofs.YtgikcciakbnehaaDoor Go.Proofs.YtgikcciakbnehaaDoor.Ser Go.Proofs.YtgikcciakbnehaaDoor.Lex Go.ChangeShapes Go.WideShapes Go.ChangeAt Go.RowKit
set_option linter.unusedVariables false

/-- What the call does. -/
def Fine (W : World) (e : Ending) (W' : World) : Prop := e = .returned (.bool true) ∧ Below W.heap.size W W'
set_option maxHeartbeats 8000000 in
theorem walk (lp0 : Option Addr) (len0 cap0 : Nat) (xs0 : List Int) (m0 : len0 ≤ 9223372036854775807) (x1 : Int) (w1 : (Lit.int .i64 x1).wf = true) (W : World) (hT : U8 W) (hI0 : BytsIn W lp0 len0 xs0) :
    Calls Tryd.prog 4 #[.slice lp0 len0 cap0, .int .i64 x1] W (Fine W) := by
  have HU := Lib.hid (fun u (hb : Below W.heap.size W u) => hT.later hb)
  clear hT
  obtain ⟨p, hp⟩ : ∃ p : Ending → World → Prop, p = Fine W := ⟨_, rfl⟩
  rw [← hp]
  have hout : ∀ u, Below W.heap.size W u → p (.returned (.bool true)) u := by intro u hb; rw [hp]; exact ⟨rfl, hb⟩
  have HO := Lib.hid hout
  clear hp hout
  have HI := Lib.hid hI0
  clear hI0
  have n0 : (0 : Int) ≤ (len0 : Int) := Int.natCast_nonneg _
  by_cases hr : len0 ≤ 200 ∧ 0 ≤ x1 ∧ x1 < 7
  · obtain ⟨y0, y1, y2⟩ := hr
    have y0' : ¬ (200 : Int) < (len0 : Int) := by omega
    have HX := Lib.hid (show (strOfNums xs0).size = len0 by rw [Go.strOfNums_size]; exact HI.out.hlen)
    obtain ⟨B, hB⟩ : ∃ B, strOfNums xs0 = B := ⟨_, rfl⟩
    have HC := Lib.hid (fun u (hb : Below W.heap.size W u) => (by have := conv_src (HI.out.src hb) cap0; rw [HI.out.hlen, hB] at this; exact this : (convert 34 9 (.slice lp0 len0 cap0)).run Tryd.prog u = .ok (.string B) u))
    rw [hB] at HX
    clear hB
    have ways : x1 = 0 ∨ x1 = 1 ∨ x1 = 2 ∨ x1 = 3 ∨ x1 = 4 ∨ x1 = 5 ∨ x1 = 6 := by omega
    clear y1 y2 w1
    rcases ways with rfl | rfl | rfl | rfl | rfl | rfl | rfl
    · obtain ⟨A, hA⟩ : ∃ A, (⟨#[]⟩ ++ B : ByteArray) = A := ⟨_, rfl⟩
      have q1 : ∀ u : World, (Op.stringOp .add ⟨#[]⟩ B).run Tryd.prog u = .ok (.string A) u := fun u => by
        rw [← hA]; exact run_string_add_sum u _ _ (by have : (⟨#[]⟩ : ByteArray).size = 0 := rfl; have := HX.out; omega)
      have HK0 := Lib.hid (fun (u : World) (hb : Below W.heap.size W u) => tokens_says A u (HU.out _ hb))
      have HKR := Lib.hid (fun (u : World) => rtokens_says A u)
      obtain ⟨⟨ZT, zl, zc, ze⟩, hZ⟩ : ∃ Z, lexS A = Z := ⟨_, rfl⟩
      rw [hZ] at HK0 HKR
      clear hZ hA
      go_enter Tryd.func4, Tryd.ntmps4
      go_upto_region 2 with (go_at_call 5; refine (alive_says _ (HU.out _ (Below.refl _ _))).mono ?_; rintro e w3 ⟨rfl, hb3⟩; have HB3 := Lib.hid hb3; clear hb3)
      go_upto_region 5 with fail
      obtain ⟨w5, hw5⟩ : ∃ w5, w5 = w3.alloc (.cells #[.string ⟨#[]⟩, .string ⟨#[97]⟩, .string ⟨#[59, 32]⟩, .string ⟨#[34]⟩, .string ⟨#[39]⟩, .string ⟨#[49, 50]⟩, .string ⟨#[97, 58, 32, 98, 10, 32, 32]⟩] 9) := ⟨_, rfl⟩
      have hc5 : w5.cell? ⟨w3.heap.size, 0, none⟩ = some (.string ⟨#[]⟩) := by rw [hw5, cell_of_row _ w3.heap.size 0 _ _ _ (MapKept.heap_alloc w3 _).1]; rfl
      have HB5 := Lib.hid (show Below W.heap.size W w5 by rw [hw5]; exact HB3.out.alloc HB3.out.size _)
      rw [← hw5]
      clear hw5
      have cv := HC.out w5 HB5.out
      have cv1 := HC.out w5.drew ⟨HB5.out.os, HB5.out.tape, HB5.out.output, HB5.out.size, HB5.out.block⟩
      have HB6 := Lib.hid (show Below W.heap.size W w5.drew from ⟨HB5.out.os, HB5.out.tape, HB5.out.output, HB5.out.size, HB5.out.block⟩)
      go_region_with fail
      all_goals
        clear cv cv1 hc5 q1
        go_upto_region 7 with (go_at_call 6; refine (HK0.out _ HB6.out).mono ?_; rintro e w6 ⟨v6, rfl, ho6, hb6⟩; have HB7 := Lib.hid (HB6.out.trans (hb6.mono HB6.out.size)); obtain ⟨p6, q6, rfl, -⟩ := ownT_len ho6; clear ho6 hb6)
        go_upto_region 8 with (go_at_call 7; refine (HKR.out _).mono ?_; rintro e w7 ⟨v7, T7, rfl, ho7, -, hb7⟩; have HB8 := Lib.hid (HB7.out.trans (hb7.mono HB7.out.size)); obtain ⟨p7, q7, rfl, -⟩ := ownT_len ho7; clear ho7 hb7)
        go_wp2_with (go_at_call 8; refine (num_says _ _).mono ?_; rintro e t' ⟨rfl, rfl⟩)
        exact HO.out _ HB8.out
    · obtain ⟨A, hA⟩ : ∃ A, (⟨#[97]⟩ ++ B : ByteArray) = A := ⟨_, rfl⟩
      have q1 : ∀ u : World, (Op.stringOp .add ⟨#[97]⟩ B).run Tryd.prog u = .ok (.string A) u := fun u => by
        rw [← hA]; exact run_string_add_sum u _ _ (by have : (⟨#[97]⟩ : ByteArray).size = 1 := rfl; have := HX.out; omega)
      have HK0 := Lib.hid (fun (u : World) (hb : Below W.heap.size W u) => tokens_says A u (HU.out _ hb))
      have HKR := Lib.hid (fun (u : World) => rtokens_says A u)
      obtain ⟨⟨ZT, zl, zc, ze⟩, hZ⟩ : ∃ Z, lexS A = Z := ⟨_, rfl⟩
      rw [hZ] at HK0 HKR
      clear hZ hA
      go_enter Tryd.func4, Tryd.ntmps4
      go_upto_region 2 with (go_at_call 5; refine (alive_says _ (HU.out _ (Below.refl _ _))).mono ?_; rintro e w3 ⟨rfl, hb3⟩; have HB3 := Lib.hid hb3; clear hb3)
      go_upto_region 5 with fail
      obtain ⟨w5, hw5⟩ : ∃ w5, w5 = w3.alloc (.cells #[.string ⟨#[]⟩, .string ⟨#[97]⟩, .string ⟨#[59, 32]⟩, .string ⟨#[34]⟩, .string ⟨#[39]⟩, .string ⟨#[49, 50]⟩, .string ⟨#[97, 58, 32, 98, 10, 32, 32]⟩] 9) := ⟨_, rfl⟩
      have hc5 : w5.cell? ⟨w3.heap.size, 1, none⟩ = some (.string ⟨#[97]⟩) := by rw [hw5, cell_of_row _ w3.heap.size 1 _ _ _ (MapKept.heap_alloc w3 _).1]; rfl
      have HB5 := Lib.hid (show Below W.heap.size W w5 by rw [hw5]; exact HB3.out.alloc HB3.out.size _)
      rw [← hw5]
      clear hw5
      have cv := HC.out w5 HB5.out
      have cv1 := HC.out w5.drew ⟨HB5.out.os, HB5.out.tape, HB5.out.output, HB5.out.size, HB5.out.block⟩
      have HB6 := Lib.hid (show Below W.heap.size W w5.drew from ⟨HB5.out.os, HB5.out.tape, HB5.out.output, HB5.out.size, HB5.out.block⟩)
      go_region_with fail
      all_goals
        clear cv cv1 hc5 q1
        go_upto_region 7 with (go_at_call 6; refine (HK0.out _ HB6.out).mono ?_; rintro e w6 ⟨v6, rfl, ho6, hb6⟩; have HB7 := Lib.hid (HB6.out.trans (hb6.mono HB6.out.size)); obtain ⟨p6, q6, rfl, -⟩ := ownT_len ho6; clear ho6 hb6)
        go_upto_region 8 with (go_at_call 7; refine (HKR.out _).mono ?_; rintro e w7 ⟨v7, T7, rfl, ho7, -, hb7⟩; have HB8 := Lib.hid (HB7.out.trans (hb7.mono HB7.out.size)); obtain ⟨p7, q7, rfl, -⟩ := ownT_len ho7; clear ho7 hb7)
        go_wp2_with (go_at_call 8; refine (num_says _ _).mono ?_; rintro e t' ⟨rfl, rfl⟩)
        exact HO.out _ HB8.out
    · obtain ⟨A, hA⟩ : ∃ A, (⟨#[59, 32]⟩ ++ B : ByteArray) = A := ⟨_, rfl⟩
      have q1 : ∀ u : World, (Op.stringOp .add ⟨#[59, 32]⟩ B).run Tryd.prog u = .ok (.string A) u := fun u => by
        rw [← hA]; exact run_string_add_sum u _ _ (by have : (⟨#[59, 32]⟩ : ByteArray).size = 2 := rfl; have := HX.out; omega)
      have HK0 := Lib.hid (fun (u : World) (hb : Below W.heap.size W u) => tokens_says A u (HU.out _ hb))
      have HKR := Lib.hid (fun (u : World) => rtokens_says A u)
      obtain ⟨⟨ZT, zl, zc, ze⟩, hZ⟩ : ∃ Z, lexS A = Z := ⟨_, rfl⟩
      rw [hZ] at HK0 HKR
      clear hZ hA
      go_enter Tryd.func4, Tryd.ntmps4
      go_upto_region 2 with (go_at_call 5; refine (alive_says _ (HU.out _ (Below.refl _ _))).mono ?_; rintro e w3 ⟨rfl, hb3⟩; have HB3 := Lib.hid hb3; clear hb3)
      go_upto_region 5 with fail
      obtain ⟨w5, hw5⟩ : ∃ w5, w5 = w3.alloc (.cells #[.string ⟨#[]⟩, .string ⟨#[97]⟩, .string ⟨#[59, 32]⟩, .string ⟨#[34]⟩, .string ⟨#[39]⟩, .string ⟨#[49, 50]⟩, .string ⟨#[97, 58, 32, 98, 10, 32, 32]⟩] 9) := ⟨_, rfl⟩
      have hc5 : w5.cell? ⟨w3.heap.size, 2, none⟩ = some (.string ⟨#[59, 32]⟩) := by rw [hw5, cell_of_row _ w3.heap.size 2 _ _ _ (MapKept.heap_alloc w3 _).1]; rfl
      have HB5 := Lib.hid (show Below W.heap.size W w5 by rw [hw5]; exact HB3.out.alloc HB3.out.size _)
      rw [← hw5]
      clear hw5
      have cv := HC.out w5 HB5.out
      have cv1 := HC.out w5.drew ⟨HB5.out.os, HB5.out.tape, HB5.out.output, HB5.out.size, HB5.out.block⟩
      have HB6 := Lib.hid (show Below W.heap.size W w5.drew from ⟨HB5.out.os, HB5.out.tape, HB5.out.output, HB5.out.size, HB5.out.block⟩)
      go_region_with fail
      all_goals
        clear cv cv1 hc5 q1
        go_upto_region 7 with (go_at_call 6; refine (HK0.out _ HB6.out).mono ?_; rintro e w6 ⟨v6, rfl, ho6, hb6⟩; have HB7 := Lib.hid (HB6.out.trans (hb6.mono HB6.out.size)); obtain ⟨p6, q6, rfl, -⟩ := ownT_len ho6; clear ho6 hb6)
        go_upto_region 8 with (go_at_call 7; refine (HKR.out _).mono ?_; rintro e w7 ⟨v7, T7, rfl, ho7, -, hb7⟩; have HB8 := Lib.hid (HB7.out.trans (hb7.mono HB7.out.size)); obtain ⟨p7, q7, rfl, -⟩ := ownT_len ho7; clear ho7 hb7)
        go_wp2_with (go_at_call 8; refine (num_says _ _).mono ?_; rintro e t' ⟨rfl, rfl⟩)
        exact HO.out _ HB8.out
    · obtain ⟨A, hA⟩ : ∃ A, (⟨#[34]⟩ ++ B : ByteArray) = A := ⟨_, rfl⟩
      have q1 : ∀ u : World, (Op.stringOp .add ⟨#[34]⟩ B).run Tryd.prog u = .ok (.string A) u := fun u => by
        rw [← hA]; exact run_string_add_sum u _ _ (by have : (⟨#[34]⟩ : ByteArray).size = 1 := rfl; have := HX.out; omega)
      have HK0 := Lib.hid (fun (u : World) (hb : Below W.heap.size W u) => tokens_says A u (HU.out _ hb))
      have HKR := Lib.hid (fun (u : World) => rtokens_says A u)
      obtain ⟨⟨ZT, zl, zc, ze⟩, hZ⟩ : ∃ Z, lexS A = Z := ⟨_, rfl⟩
      rw [hZ] at HK0 HKR
      clear hZ hA
      go_enter Tryd.func4, Tryd.ntmps4
      go_upto_region 2 with (go_at_call 5; refine (alive_says _ (HU.out _ (Below.refl _ _))).mono ?_; rintro e w3 ⟨rfl, hb3⟩; have HB3 := Lib.hid hb3; clear hb3)
      go_upto_region 5 with fail
      obtain ⟨w5, hw5⟩ : ∃ w5, w5 = w3.alloc (.cells #[.string ⟨#[]⟩, .string ⟨#[97]⟩, .string ⟨#[59, 32]⟩, .string ⟨#[34]⟩, .string ⟨#[39]⟩, .string ⟨#[49, 50]⟩, .string ⟨#[97, 58, 32, 98, 10, 32, 32]⟩] 9) := ⟨_, rfl⟩
      have hc5 : w5.cell? ⟨w3.heap.size, 3, none⟩ = some (.string ⟨#[34]⟩) := by rw [hw5, cell_of_row _ w3.heap.size 3 _ _ _ (MapKept.heap_alloc w3 _).1]; rfl
      have HB5 := Lib.hid (show Below W.heap.size W w5 by rw [hw5]; exact HB3.out.alloc HB3.out.size _)
      rw [← hw5]
      clear hw5
      have cv := HC.out w5 HB5.out
      have cv1 := HC.out w5.drew ⟨HB5.out.os, HB5.out.tape, HB5.out.output, HB5.out.size, HB5.out.block⟩
      have HB6 := Lib.hid (show Below W.heap.size W w5.drew from ⟨HB5.out.os, HB5.out.tape, HB5.out.output, HB5.out.size, HB5.out.block⟩)
      go_region_with fail
      all_goals
        clear cv cv1 hc5 q1
        go_upto_region 7 with (go_at_call 6; refine (HK0.out _ HB6.out).mono ?_; rintro e w6 ⟨v6, rfl, ho6, hb6⟩; have HB7 := Lib.hid (HB6.out.trans (hb6.mono HB6.out.size)); obtain ⟨p6, q6, rfl, -⟩ := ownT_len ho6; clear ho6 hb6)
        go_upto_region 8 with (go_at_call 7; refine (HKR.out _).mono ?_; rintro e w7 ⟨v7, T7, rfl, ho7, -, hb7⟩; have HB8 := Lib.hid (HB7.out.trans (hb7.mono HB7.out.size)); obtain ⟨p7, q7, rfl, -⟩ := ownT_len ho7; clear ho7 hb7)
        go_wp2_with (go_at_call 8; refine (num_says _ _).mono ?_; rintro e t' ⟨rfl, rfl⟩)
        exact HO.out _ HB8.out
    · obtain ⟨A, hA⟩ : ∃ A, (⟨#[39]⟩ ++ B : ByteArray) = A := ⟨_, rfl⟩
      have q1 : ∀ u : World, (Op.stringOp .add ⟨#[39]⟩ B).run Tryd.prog u = .ok (.string A) u := fun u => by
        rw [← hA]; exact run_string_add_sum u _ _ (by have : (⟨#[39]⟩ : ByteArray).size = 1 := rfl; have := HX.out; omega)
      have HK0 := Lib.hid (fun (u : World) (hb : Below W.heap.size W u) => tokens_says A u (HU.out _ hb))
      have HKR := Lib.hid (fun (u : World) => rtokens_says A u)
      obtain ⟨⟨ZT, zl, zc, ze⟩, hZ⟩ : ∃ Z, lexS A = Z := ⟨_, rfl⟩
      rw [hZ] at HK0 HKR
      clear hZ hA
      go_enter Tryd.func4, Tryd.ntmps4
      go_upto_region 2 with (go_at_call 5; refine (alive_says _ (HU.out _ (Below.refl _ _))).mono ?_; rintro e w3 ⟨rfl, hb3⟩; have HB3 := Lib.hid hb3; clear hb3)
      go_upto_region 5 with fail
      obtain ⟨w5, hw5⟩ : ∃ w5, w5 = w3.alloc (.cells #[.string ⟨#[]⟩, .string ⟨#[97]⟩, .string ⟨#[59, 32]⟩, .string ⟨#[34]⟩, .string ⟨#[39]⟩, .string ⟨#[49, 50]⟩, .string ⟨#[97, 58, 32, 98, 10, 32, 32]⟩] 9) := ⟨_, rfl⟩
      have hc5 : w5.cell? ⟨w3.heap.size, 4, none⟩ = some (.string ⟨#[39]⟩) := by rw [hw5, cell_of_row _ w3.heap.size 4 _ _ _ (MapKept.heap_alloc w3 _).1]; rfl
      have HB5 := Lib.hid (show Below W.heap.size W w5 by rw [hw5]; exact HB3.out.alloc HB3.out.size _)
      rw [← hw5]
      clear hw5
      have cv := HC.out w5 HB5.out
      have cv1 := HC.out w5.drew ⟨HB5.out.os, HB5.out.tape, HB5.out.output, HB5.out.size, HB5.out.block⟩
      have HB6 := Lib.hid (show Below W.heap.size W w5.drew from ⟨HB5.out.os, HB5.out.tape, HB5.out.output, HB5.out.size, HB5.out.block⟩)
      go_region_with fail
      all_goals
        clear cv cv1 hc5 q1
        go_upto_region 7 with (go_at_call 6; refine (HK0.out _ HB6.out).mono ?_; rintro e w6 ⟨v6, rfl, ho6, hb6⟩; have HB7 := Lib.hid (HB6.out.trans (hb6.mono HB6.out.size)); obtain ⟨p6, q6, rfl, -⟩ := ownT_len ho6; clear ho6 hb6)
        go_upto_region 8 with (go_at_call 7; refine (HKR.out _).mono ?_; rintro e w7 ⟨v7, T7, rfl, ho7, -, hb7⟩; have HB8 := Lib.hid (HB7.out.trans (hb7.mono HB7.out.size)); obtain ⟨p7, q7, rfl, -⟩ := ownT_len ho7; clear ho7 hb7)
        go_wp2_with (go_at_call 8; refine (num_says _ _).mono ?_; rintro e t' ⟨rfl, rfl⟩)
        exact HO.out _ HB8.out
    · obtain ⟨A, hA⟩ : ∃ A, (⟨#[49, 50]⟩ ++ B : ByteArray) = A := ⟨_, rfl⟩
      have q1 : ∀ u : World, (Op.stringOp .add ⟨#[49, 50]⟩ B).run Tryd.prog u = .ok (.string A) u := fun u => by
        rw [← hA]; exact run_string_add_sum u _ _ (by have : (⟨#[49, 50]⟩ : ByteArray).size = 2 := rfl; have := HX.out; omega)
      have HK0 := Lib.hid (fun (u : World) (hb : Below W.heap.size W u) => tokens_says A u (HU.out _ hb))
      have HKR := Lib.hid (fun (u : World) => rtokens_says A u)
      obtain ⟨⟨ZT, zl, zc, ze⟩, hZ⟩ : ∃ Z, lexS A = Z := ⟨_, rfl⟩
      rw [hZ] at HK0 HKR
      clear hZ hA
      go_enter Tryd.func4, Tryd.ntmps4
      go_upto_region 2 with (go_at_call 5; refine (alive_says _ (HU.out _ (Below.refl _ _))).mono ?_; rintro e w3 ⟨rfl, hb3⟩; have HB3 := Lib.hid hb3; clear hb3)
      go_upto_region 5 with fail
      obtain ⟨w5, hw5⟩ : ∃ w5, w5 = w3.alloc (.cells #[.string ⟨#[]⟩, .string ⟨#[97]⟩, .string ⟨#[59, 32]⟩, .string ⟨#[34]⟩, .string ⟨#[39]⟩, .string ⟨#[49, 50]⟩, .string ⟨#[97, 58, 32, 98, 10, 32, 32]⟩] 9) := ⟨_, rfl⟩
      have hc5 : w5.cell? ⟨w3.heap.size, 5, none⟩ = some (.string ⟨#[49, 50]⟩) := by rw [hw5, cell_of_row _ w3.heap.size 5 _ _ _ (MapKept.heap_alloc w3 _).1]; rfl
      have HB5 := Lib.hid (show Below W.heap.size W w5 by rw [hw5]; exact HB3.out.alloc HB3.out.size _)
      rw [← hw5]
      clear hw5
      have cv := HC.out w5 HB5.out
      have cv1 := HC.out w5.drew ⟨HB5.out.os, HB5.out.tape, HB5.out.output, HB5.out.size, HB5.out.block⟩
      have HB6 := Lib.hid (show Below W.heap.size W w5.drew from ⟨HB5.out.os, HB5.out.tape, HB5.out.output, HB5.out.size, HB5.out.block⟩)
      go_region_with fail
      all_goals
        clear cv cv1 hc5 q1
        go_upto_region 7 with (go_at_call 6; refine (HK0.out _ HB6.out).mono ?_; rintro e w6 ⟨v6, rfl, ho6, hb6⟩; have HB7 := Lib.hid (HB6.out.trans (hb6.mono HB6.out.size)); obtain ⟨p6, q6, rfl, -⟩ := ownT_len ho6; clear ho6 hb6)
        go_upto_region 8 with (go_at_call 7; refine (HKR.out _).mono ?_; rintro e w7 ⟨v7, T7, rfl, ho7, -, hb7⟩; have HB8 := Lib.hid (HB7.out.trans (hb7.mono HB7.out.size)); obtain ⟨p7, q7, rfl, -⟩ := ownT_len ho7; clear ho7 hb7)
        go_wp2_with (go_at_call 8; refine (num_says _ _).mono ?_; rintro e t' ⟨rfl, rfl⟩)
        exact HO.out _ HB8.out
    · obtain ⟨A, hA⟩ : ∃ A, (⟨#[97, 58, 32, 98, 10, 32, 32]⟩ ++ B : ByteArray) = A := ⟨_, rfl⟩
      have q1 : ∀ u : World, (Op.stringOp .add ⟨#[97, 58, 32, 98, 10, 32, 32]⟩ B).run Tryd.prog u = .ok (.string A) u := fun u => by
        rw [← hA]; exact run_string_add_sum u _ _ (by have : (⟨#[97, 58, 32, 98, 10, 32, 32]⟩ : ByteArray).size = 7 := rfl; have := HX.out; omega)
      have HK0 := Lib.hid (fun (u : World) (hb : Below W.heap.size W u) => tokens_says A u (HU.out _ hb))
      have HKR := Lib.hid (fun (u : World) => rtokens_says A u)
      obtain ⟨⟨ZT, zl, zc, ze⟩, hZ⟩ : ∃ Z, lexS A = Z := ⟨_, rfl⟩
      rw [hZ] at HK0 HKR
      clear hZ hA
      go_enter Tryd.func4, Tryd.ntmps4
      go_upto_region 2 with (go_at_call 5; refine (alive_says _ (HU.out _ (Below.refl _ _))).mono ?_; rintro e w3 ⟨rfl, hb3⟩; have HB3 := Lib.hid hb3; clear hb3)
      go_upto_region 5 with fail
      obtain ⟨w5, hw5⟩ : ∃ w5, w5 = w3.alloc (.cells #[.string ⟨#[]⟩, .string ⟨#[97]⟩, .string ⟨#[59, 32]⟩, .string ⟨#[34]⟩, .string ⟨#[39]⟩, .string ⟨#[49, 50]⟩, .string ⟨#[97, 58, 32, 98, 10, 32, 32]⟩] 9) := ⟨_, rfl⟩
      have hc5 : w5.cell? ⟨w3.heap.size, 6, none⟩ = some (.string ⟨#[97, 58, 32, 98, 10, 32, 32]⟩) := by rw [hw5, cell_of_row _ w3.heap.size 6 _ _ _ (MapKept.heap_alloc w3 _).1]; rfl
      have HB5 := Lib.hid (show Below W.heap.size W w5 by rw [hw5]; exact HB3.out.alloc HB3.out.size _)
      rw [← hw5]
      clear hw5
      have cv := HC.out w5 HB5.out
      have cv1 := HC.out w5.drew ⟨HB5.out.os, HB5.out.tape, HB5.out.output, HB5.out.size, HB5.out.block⟩
      have HB6 := Lib.hid (show Below W.heap.size W w5.drew from ⟨HB5.out.os, HB5.out.tape, HB5.out.output, HB5.out.size, HB5.out.block⟩)
      go_region_with fail
      all_goals
        clear cv cv1 hc5 q1
        go_upto_region 7 with (go_at_call 6; refine (HK0.out _ HB6.out).mono ?_; rintro e w6 ⟨v6, rfl, ho6, hb6⟩; have HB7 := Lib.hid (HB6.out.trans (hb6.mono HB6.out.size)); obtain ⟨p6, q6, rfl, -⟩ := ownT_len ho6; clear ho6 hb6)
        go_upto_region 8 with (go_at_call 7; refine (HKR.out _).mono ?_; rintro e w7 ⟨v7, T7, rfl, ho7, -, hb7⟩; have HB8 := Lib.hid (HB7.out.trans (hb7.mono HB7.out.size)); obtain ⟨p7, q7, rfl, -⟩ := ownT_len ho7; clear ho7 hb7)
        go_wp2_with (go_at_call 8; refine (num_says _ _).mono ?_; rintro e t' ⟨rfl, rfl⟩)
        exact HO.out _ HB8.out
  · have ways : 200 < len0 ∨ (¬ 200 < len0 ∧ x1 < 0) ∨ (¬ 200 < len0 ∧ ¬ x1 < 0 ∧ 7 ≤ x1) := by omega
    clear hr
    rcases ways with a0 | ⟨a0, a1⟩ | ⟨a0, a1, a2⟩
    · have a0' : (200 : Int) < (len0 : Int) := by omega
      go_enter Tryd.func4, Tryd.ntmps4
      go_wp2_with (go_at_call 5; refine (alive_says _ (HU.out _ (Below.refl _ _))).mono ?_; rintro e w3 ⟨rfl, hb3⟩; have HB3 := Lib.hid hb3; clear hb3)
      exact HO.out _ (HB3.out.alloc HB3.out.size _)
    · have a0' : ¬ (200 : Int) < (len0 : Int) := by omega
      go_enter Tryd.func4, Tryd.ntmps4
      go_wp2_with (go_at_call 5; refine (alive_says _ (HU.out _ (Below.refl _ _))).mono ?_; rintro e w3 ⟨rfl, hb3⟩; have HB3 := Lib.hid hb3; clear hb3)
      exact HO.out _ (HB3.out.alloc HB3.out.size _)
    · have a0' : ¬ (200 : Int) < (len0 : Int) := by omega
      go_enter Tryd.func4, Tryd.ntmps4
      go_wp2_with (go_at_call 5; refine (alive_says _ (HU.out _ (Below.refl _ _))).mono ?_; rintro e w3 ⟨rfl, hb3⟩; have HB3 := Lib.hid hb3; clear hb3)
      exact HO.out _ (HB3.out.alloc HB3.out.size _)
set_option maxRecDepth 100000 in
theorem lifted (os : Os) (started : os.Started) (H : Type) (enc : TypeId × Value → H) :
    ReturnsInHanded {} Tryd.checked os 4 .any (fun w args => (Rows.lexerBytesSpec.pre enc Tryd.prog Tryd.f4 [] false w args ∧ laidMetH Tryd.prog laid2 w) ∧ sizedMet enc Tryd.prog Tryd.f4 (OpenSpec.ofChange Rows.lexerBytesSpec) false w args)
      (Rows.lexerBytesSpec.post enc Tryd.prog Tryd.f4 false true false false) := by
  refine returnsInHanded_of_change_and (C := Tryd.checked) (X := fun w _ => laidMetH Tryd.prog laid2 w) (fun _ _ _ hh h => h.of_heap hh) Lex.own started (by kernel_rfl) Tryd.func4
    (ChangeSpec.witness_shaped (enc := enc) (C := Tryd.checked) (os := os) (X := fun w _ => laidMetH Tryd.prog laid2 w) false (World.laidAll Tryd.prog os laid2) #[.slice none 0 0, .int .i64 0] 8 (World.laidAll_os _ _ _) (World.shaped_of_ZipB (by kernel_rfl) (by kernel_rfl)) (by kernel_rfl) (by kernel_rfl) (by kernel_rfl)
      (by rw [MakeChecks.laidMetH_plain _ _ _ (by kernel_rfl)]; exact laidMet_laidAll _ (by kernel_rfl) (by kernel_rfl))) ?_
  intro W base args ds gs before hval0 hW _ _ hL _
  have hval : ∀ (j : Nat) t v, Tryd.f4.params[j]? = some t → args[j]? = some v → Value.okWide Tryd.prog W .any base t v := hval0
  have hW' := hW
  obtain ⟨p, q, hA0, hV, rfl, hfz, hnd⟩ := hW
  have hA : DataW.TrodAll enc Tryd.prog W 0 (fun _ => true) true Tryd.f4.params.toList args.toList ds p := hA0
  rw [Tryd.params4] at hA hval
  obtain ⟨v0, vs0, d0, ds0, p0, q0, hargs, rfl, rfl, h0, r0⟩ := trodAll_cons hA
  obtain ⟨v1, vs1, d1, ds1, p1, q1, rfl, rfl, rfl, h1, r1⟩ := trodAll_cons r0
  obtain ⟨rfl, rfl, rfl⟩ := trodAll_nil r1
  obtain rfl : args = #[v0, v1] := by cases args; simp_all
  obtain ⟨rfl, rfl⟩ := trodVars_none hV
  obtain ⟨lp0, len0, cap0, xs0, rfl, m0, hI0⟩ := open_bytes (hval 0 34 v0 rfl rfl) h0
  obtain ⟨x1, rfl, rfl, rfl, w1⟩ := open_int Tryd.underlying3 (hval 1 3 v1 rfl rfl) h1
  have hT := tab_of_laid hL
  clear hA0 hval0
  simp only [List.append_nil] at hW'
  refine (walk lp0 len0 cap0 xs0 m0 x1 w1 W hT hI0).mono fun e W' ⟨he, hb⟩ => ?_
  subst he
  exact ⟨_, rfl, _, _, _, [], _, [], hW', trodAll_cons_mk (shut_bool Tryd.underlying4 _) trodAll_mk0, (trodAll_cons_mk (Below.trod laidOut (by kernel_rfl) (of_decide_eq_true (by kernel_rfl)) h0 hb (fun x hx => by simpa using hW'.lt x hx)) (trodAll_cons_mk (shut_int Tryd.underlying3 w1) trodAll_mk0)), rfl, hb.frame _, fun h => by cases h⟩
theorem over : Rows.LexerBytesSaid :=
  OpenClaim.holds_of_wide 4 Tryd.f4 rfl rfl rfl rfl rfl rfl rfl ⟨rfl, rfl, rfl, rfl, rfl⟩ rfl rfl rfl rfl rfl (by kernel_rfl) Tryd.func4 (by kernel_rfl)
    (of_decide_eq_true (by kernel_rfl)) (by unfold Func.isWrapper; first | (rw [if_pos (by decide +kernel)]; kernel_rfl) | (rw [if_neg (by decide +kernel)]; exact ⟨rfl, rfl⟩))
    (fun os started H enc _ => lifted os started H enc)
/-- THE STATEMENT: the tied card. -/
theorem proved : Rows.LexerBytesCardSaid :=
  Claim7.holds_tied_plain_at .later [] [.data, .pinned] true (true, "bac8bcb955bbbea02558342b38c72a27f4af13cef2c52444ce76051470a32a5a") false
    over (fun _ h => by cases h) (by kernel_rfl) (fun _ h => by cases h) lexerBytes_row_tie rfl ⟨rfl, rfl⟩ (by kernel_rfl) rfl
    (fun f fn hf hfn => by
      obtain rfl : f = 4 := Option.some.inj ((show Tryd.prog.funcNamed "trunnion/trunnionlaw11.LexerBytes" = some 4 by kernel_rfl).symm.trans hf) |>.symm
      obtain rfl : fn = Tryd.f4 := (Option.some.inj (Tryd.func4.symm.trans hfn)).symm
      exact ⟨by kernel_rfl, fun j t ht => by
        rw [Tryd.params4] at ht
        have hm : t ∈ [34, 3] := by simpa using Array.mem_of_getElem? ht
        have hall : ([34, 3].all fun u => !Tryd.prog.wantsStandIn u) = true := by kernel_rfl
        exact (show Tryd.prog.wantsStandIn t = false by simpa using List.all_eq_true.1 hall t hm)⟩)
    (by kernel_rfl)
end Go.Proofs.YtgikcciakbnehaaDoor.lexerBytes
