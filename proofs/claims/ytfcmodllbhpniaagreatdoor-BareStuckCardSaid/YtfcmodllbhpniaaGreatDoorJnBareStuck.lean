/-
  a trap at its own beginning makes a machine stuck, and a machine that is stuck or has halted stays as it is: law BareStuck returns true. No condition on the arguments: whatever they are. The card ties the listed variable of Go's library to the program's text.
-/
import Derived.Test.YtfcmodllbhpniaaGreatDoorJnBareLaid
import Derived.Test.YtfcmodllbhpniaaGreatDoorCards
import Derived.Test.YtfcmodllbhpniaaGreatDoorTie
import Derived.Test.YtfcmodllbhpniaaGreatDoorJnAt
import Derived.Test.YtfcmodllbhpniaaGreatDoorJnRDec
import Derived.Test.YtfcmodllbhpniaaGreatDoorJnCpuS
import Derived.Carry
import Derived.Lay
import Derived.LaidOnce
import Derived.OpenShut
import Derived.Deep.Slices
import Derived.SevenTiedAt
set_option linter.unusedVariables false
namespace Go.Proofs.YtfcmodllbhpniaaGreatDoor.bareStuck
open Go Go.Proofs.YtfcmodllbhpniaaGreatDoor Go.Proofs.YtfcmodllbhpniaaGreatDoor.Ser Go.Proofs.YtfcmodllbhpniaaGreatDoor.Ser Go.ChangeShapes Go.WideShapes Go.ChangeAt Go.RowKit
set_option linter.unusedVariables false
open Go.Proofs.YtfcmodllbhpniaaGreatDoor.Img Go.Proofs.YtfcmodllbhpniaaGreatDoor.Box
/-- What the call does. -/
def Fine (W : World) (e : Ending) (W' : World) : Prop := e = .returned (.bool true) ∧ Below W.heap.size W W'
set_option maxHeartbeats 8000000 in
theorem walk (x0 : Int) (w0 : (Lit.int .i64 x0).wf = true) (x1 : Int) (w1 : (Lit.int .i64 x1).wf = true) (b2 : Bool) (W : World) (hT : Glob W) :
    Calls Tryz.prog 7 #[.int .i64 x0, .int .i64 x1, .bool b2] W (Fine W) := by
  obtain ⟨p, hp⟩ : ∃ p : Ending → World → Prop, p = Fine W := ⟨_, rfl⟩
  rw [← hp]
  have hout : ∀ u, Below W.heap.size W u → p (.returned (.bool true)) u := by intro u hb; rw [hp]; exact ⟨rfl, hb⟩
  have HO := Lib.hid hout
  clear hp hout
  obtain ⟨B, hB⟩ : ∃ B, W.heap.size = B := ⟨_, rfl⟩
  have hB0 := glob_lt hT
  have HA := Lib.hid (alive10 W hT)
  have HGl := Lib.hid (fun u (b : Below B W u) => (World.cell?_of_block (b.block 0 (by omega))).trans hT)
  rw [hB] at HO hB0 HA
  clear hT
  have ways : x1 < 0 ∨ (¬ x1 < 0 ∧ 100 < x1) ∨ (¬ x1 < 0 ∧ ¬ 100 < x1) := by omega
  rcases ways with a0 | ⟨a0, a1⟩ | ⟨a0, a1⟩
  · go_enter Tryz.func7, Tryz.ntmps7
    go_wp2_with (go_at_call 8; refine HA.out.mono ?_; rintro e w3 ⟨rfl, hb3⟩; have HB3 := Lib.hid hb3; clear hb3)
    exact HO.out _ HB3.out
  · go_enter Tryz.func7, Tryz.ntmps7
    go_wp2_with (go_at_call 8; refine HA.out.mono ?_; rintro e w3 ⟨rfl, hb3⟩; have HB3 := Lib.hid hb3; clear hb3)
    exact HO.out _ HB3.out
  · by_cases hd : decOk (wd x0)
    · have HD := Lib.hid (fun u => rdecode_says x0 u)
      rw [decV_yes hd] at HD
      clear hd
      obtain ⟨d0, hd0⟩ : ∃ d, dO (wd x0) = d := ⟨_, rfl⟩
      obtain ⟨d1, hd1⟩ : ∃ d, dA (wd x0) = d := ⟨_, rfl⟩
      obtain ⟨d2, hd2⟩ : ∃ d, dB (wd x0) = d := ⟨_, rfl⟩
      obtain ⟨d3, hd3⟩ : ∃ d, dC (wd x0) = d := ⟨_, rfl⟩
      obtain ⟨d4, hd4⟩ : ∃ d, dM (wd x0) = d := ⟨_, rfl⟩
      rw [hd0, hd1, hd2, hd3, hd4] at HD
      clear hd0 hd1 hd2 hd3 hd4
      go_enter Tryz.func7, Tryz.ntmps7
      go_wp2_with (first
        | (go_at_call 8; refine HA.out.mono ?_; rintro e w3 ⟨rfl, hb3⟩; have HB3 := Lib.hid hb3; clear hb3)
        | (go_at_call 24; refine (HD.out _).mono ?_; rintro e w4 ⟨rfl, hb4⟩; have HB4 := Lib.hid (HB3.out.trans (hb4.mono (by have := HB3.out.size; omega))); clear hb4))
      exact HO.out _ (HB4.out.alloc (by have := HB4.out.size; omega) _)
    · have HD := Lib.hid (fun u => rdecode_says x0 u)
      rw [decV_no hd] at HD
      obtain ⟨n, rfl⟩ := Int.eq_ofNat_of_zero_le (show (0 : Int) ≤ x1 by omega)
      have hn : n ≤ 100 := by omega
      cases b2
      · have key : (beg (List.replicate 16 0) (memW x0) [] 0 false false).run 1 = (1, (beg (List.replicate 16 0) (memW x0) [] 1 false true)) := run_beg_stuck (memW_len _) (by rw [memW_lev]; exact hd)
        clear hd
        go_enter Tryz.func7, Tryz.ntmps7
        go_upto_region 7 with (first
          | (go_at_call 8; refine HA.out.mono ?_; rintro e w3 ⟨rfl, hb3⟩; have HB3 := Lib.hid hb3; clear hb3)
          | (go_at_call 24; refine (HD.out _).mono ?_; rintro e w4 ⟨rfl, hb4⟩; have HB4 := Lib.hid (HB3.out.trans (hb4.mono (by have := HB3.out.size; omega))); clear hb4))
        obtain ⟨w5, hw5⟩ : ∃ w5, w5 = w4.alloc (.cells #[i64 0, i64 0, i64 0, i64 0, i64 0] 47) := ⟨_, rfl⟩
        have HB5 := Lib.hid (by rw [hw5]; exact HB4.out.alloc (by have := HB4.out.size; omega) _ : Below B W w5)
        rw [← hw5]
        clear hw5
        go_upto_region 10 with fail
        obtain ⟨g6, hg6⟩ : ∃ g6, w5.heap.size = g6 := ⟨_, rfl⟩
        obtain ⟨w6, hw6⟩ : ∃ w6, w6 = w5.alloc (.cells #[.int .i64 x0] 3) := ⟨_, rfl⟩
        have L6 := Lib.hid (by rw [hw6]; exact lie_one w5 _ g6 hg6 : Lie .i64 w6 w6.heap.size (some ⟨g6, 0, none⟩) 1 1 [x0])
        have B6 := Lib.hid (by rw [hw6]; exact HB5.out.alloc (by have := HB5.out.size; omega) _ : Below B W w6)
        rw [hg6, ← hw6]
        clear hw6 hg6
        have HC := Lib.hid (code_says 0 L6.out (by omega))
        clear HD HA HB3 HB4 HB5 L6
        go_upto_region 11 with (first
          | (go_at_call 9; (with_reducible refine HN.out.mono ?_); rintro e w8 ⟨h, F8, rfl, A8⟩; have A8 := Lib.hid A8)
          | (go_at_call 20; (with_reducible refine HC.out.mono ?_); rintro e w7 ⟨p7, m7, c7, rfl, hm7, o7, b7⟩; have B7 := Lib.hid (B6.out.trans (b7.mono (by have := B6.out.size; omega))); have HN := Lib.hid (new_at 1 0 (HGl.out _ B7.out) (lie_of o7) (by omega) (codeB_byt _)); replace hm7 := Lib.hid hm7; clear o7 b7))
        have A8' : MaAt w7 w8 F8 h 4096 (codeB [x0]) 0 (beg (List.replicate 16 0) (memW x0) [] 0 false false) := A8.out
        have HR := run_at A8' 1 (by omega) (by show 0 + 1 ≤ 100000; omega)
        rw [key] at HR
        replace HR := Lib.hid (show Calls Tryz.prog 11 #[.pointer (some ⟨h, 0, none⟩), i64 1] w8 fun e w' => e = .returned (i64 1) ∧ ∃ F', MaAt w7 w' F' h 4096 (codeB [x0]) 0 (beg (List.replicate 16 0) (memW x0) [] 1 false true) ∧ Moved F8 F' w8 w' from HR)
        clear A8 A8' HN key
        go_upto_region 13 with (first
          | (go_at_call 23; refine (state_told A9.out (by show 0 < 100000; omega)).mono ?_; rintro e w10 ⟨rp, rn, rc, cp, cn, cc, op, on, oc, rfl, T, b⟩; have HT10 := Lib.hid T; have b10 := Lib.hid b; have A10 := Lib.hid (A9.out.later b); clear T b)
          | (go_at_call 11; (with_reducible refine HR.out.mono ?_); rintro e w9 ⟨rfl, F9, A9, -⟩; have A9 := Lib.hid A9))
        have T10' := HT10.out w10 (fun _ _ _ => rfl)
        rw [tells_beg] at HT10 T10'
        obtain ⟨rfl, bb, off, rfl, -⟩ := told_csr T10' rfl
        have hcap : 11 ≤ cc := T10'.c.cap
        obtain ⟨g11, hg11⟩ : ∃ g, w10.heap.size = g := ⟨_, rfl⟩
        obtain ⟨w11, hw11⟩ : ∃ w11, w11 = w10.alloc (.cells #[.slice rp rn rc, i64 0, .slice (some ⟨bb, off, none⟩) 11 cc, .bool false, .bool true, .slice op on oc] 55) := ⟨_, rfl⟩
        have X11 := Lib.hid (by rw [hw11, ← hg11]; exact BoxT.new _ _ _ _ _ _ _ _ _ _ _ _ _ : BoxT w11 g11 rp rn rc 0 (some ⟨bb, off, none⟩) 11 cc false true op on oc)
        have b11 := Lib.hid (by rw [hw11]; exact (Below.refl _ _).alloc (Nat.le_of_eq hg11.symm) _ : Below g11 w10 w11)
        have A11 := Lib.hid (A10.out.later (by rw [hg11]; exact b11.out))
        have nF := Lib.hid (fun i (hi : w9.heap.size ≤ i) => (fun hF => by have := A9.out.lt i hF; omega : ¬ F9 i))
        have s10 : w9.heap.size ≤ g11 := by rw [← hg11]; exact b10.out.size
        have hg11' : w11.heap.size = g11 + 1 := by rw [hw11, ← hg11]; simp
        rw [hg11] at HT10
        rw [hg11, ← hw11]
        clear hw11 hg11 T10' HR
        have HR2 := run_at A11.out n (by omega) (by show 0 + n ≤ 100000; omega)
        rw [Ma.run_dead n rfl] at HR2
        replace HR2 := Lib.hid (show Calls Tryz.prog 11 #[.pointer (some ⟨h, 0, none⟩), i64 (n : Int)] w11 fun e w' => e = .returned (i64 0) ∧ ∃ F', MaAt w7 w' F' h 4096 (codeB [x0]) 0 (beg (List.replicate 16 0) (memW x0) [] 1 false true) ∧ Moved F9 F' w11 w' from HR2)
        go_upto_region 15 with (first
          | (go_at_call 23; refine (state_told A12.out (by show 0 < 100000; omega)).mono ?_; rintro e w13 ⟨rp2, rn2, rc2, cp2, cn2, cc2, op2, on2, oc2, rfl, T, b⟩; have HT13 := Lib.hid T; have b13 := Lib.hid b; have A13 := Lib.hid (A12.out.later b); clear T b)
          | (go_at_call 11; (with_reducible refine HR2.out.mono ?_); rintro e w12 ⟨rfl, F12, A12, M12⟩; have A12 := Lib.hid A12; have M12 := Lib.hid M12))
        have X12 := X11.out.kept (M12.out.b.block g11 (by omega) (nF.out g11 s10))
        have HT12 := HT10.out w12 (fun i h1 h2 => (M12.out.b.block i (by omega) (nF.out i h1)).trans (b11.out.block i h2))
        have T13a := HT12.later b13.out
        have T13b := HT13.out w13 (fun _ _ _ => rfl)
        rw [tells_beg] at T13b
        obtain ⟨g14, hg14⟩ : ∃ g, w13.heap.size = g := ⟨_, rfl⟩
        obtain ⟨w14, hw14⟩ : ∃ w14, w14 = w13.alloc (.cells #[.slice rp2 rn2 rc2, i64 0, .slice cp2 cn2 cc2, .bool false, .bool true, .slice op2 on2 oc2] 55) := ⟨_, rfl⟩
        have X14b : BoxT w14 g14 rp2 rn2 rc2 0 cp2 cn2 cc2 false true op2 on2 oc2 := by rw [hw14, ← hg14]; exact BoxT.new _ _ _ _ _ _ _ _ _ _ _ _ _
        have b14 : Below w13.heap.size w13 w14 := by rw [hw14]; exact (Below.refl _ _).alloc (Nat.le_refl _) _
        have X14a := (X12.later b13.out).later b14
        have S14 := Lib.hid (same_state (T13a.later b14).stL (T13b.later b14).stL (by show (List.replicate 16 (0 : Int)).length ≤ 100000; simp) (by show 11 ≤ 100000; omega))
        obtain ⟨-, bb2, off2, e2, hcs⟩ := told_csr (T13a.later b14) rfl
        injection e2 with e2; injection e2 with e3 e4; subst e3 e4
        obtain ⟨-, k7, -, -⟩ := hcs w14 (Below.refl _ _)
        change w14.cell? ⟨bb, off + 7, none⟩ = some (i64 1) at k7
        have HE := Lib.hid ((B7.out.trans ((A13.out.b.trans (b14.mono A13.out.b.size)).mono (by have := B7.out.size; omega))) : Below B W w14)
        have a2 := X14a.c2
        have a3 := X14a.c3
        have a4 := X14a.c4
        have a0' := X14a.c0
        have a1' := X14a.c1
        have a5 := X14a.c5
        have c0' := X14b.c0
        have c1' := X14b.c1
        have c2' := X14b.c2
        have c3' := X14b.c3
        have c4' := X14b.c4
        have c5' := X14b.c5
        have hs14 := HE.out.size
        rw [hg14, ← hw14]
        clear hw14 hg14 X14a X14b X12 HT12 T13a T13b b14 hcs HT10 HT13 X11 b11 A9 A10 A11 A12 A13 M12 HR2 b10 b13 nF
        go_wp2_with (first
          | (go_at_call 25; (with_reducible refine S14.out.mono ?_); rintro e w15 ⟨rfl, b15⟩; have HE2 := Lib.hid (HE.out.trans (b15.mono (by omega))); clear b15))
        exact HO.out _ HE2.out
      · have key : (beg (List.replicate 16 0) (memW 1073741824) [] 0 false false).run 1 = (1, (beg (List.replicate 16 0) (memW 1073741824) [] 1 true false)) := run_beg_halt (memW_len _) (by rw [memW_lev]; rfl) rfl
        clear hd
        go_enter Tryz.func7, Tryz.ntmps7
        go_upto_region 7 with (first
          | (go_at_call 8; refine HA.out.mono ?_; rintro e w3 ⟨rfl, hb3⟩; have HB3 := Lib.hid hb3; clear hb3)
          | (go_at_call 24; refine (HD.out _).mono ?_; rintro e w4 ⟨rfl, hb4⟩; have HB4 := Lib.hid (HB3.out.trans (hb4.mono (by have := HB3.out.size; omega))); clear hb4))
        obtain ⟨w5, hw5⟩ : ∃ w5, w5 = w4.alloc (.cells #[i64 0, i64 0, i64 0, i64 0, i64 0] 47) := ⟨_, rfl⟩
        have HB5 := Lib.hid (by rw [hw5]; exact HB4.out.alloc (by have := HB4.out.size; omega) _ : Below B W w5)
        rw [← hw5]
        clear hw5
        go_upto_region 10 with fail
        obtain ⟨g6, hg6⟩ : ∃ g6, (w5.alloc (.cells #[.int .i64 x0] 3)).heap.size = g6 := ⟨_, rfl⟩
        obtain ⟨w6, hw6⟩ : ∃ w6, w6 = (w5.alloc (.cells #[.int .i64 x0] 3)).alloc (.cells #[.int .i64 1073741824] 3) := ⟨_, rfl⟩
        have hs5 : w5.heap.size + 1 = g6 := by rw [← hg6]; simp
        have L6 := Lib.hid (by rw [hw6]; exact lie_one _ _ g6 hg6 : Lie .i64 w6 w6.heap.size (some ⟨g6, 0, none⟩) 1 1 [1073741824])
        have B6 := Lib.hid (by rw [hw6]; exact (HB5.out.alloc (by have := HB5.out.size; omega) _).alloc (by have := HB5.out.size; simp; omega) _ : Below B W w6)
        rw [← hw6, hs5]
        clear hw6 hg6 hs5
        have HC := Lib.hid (code_says 0 L6.out (by omega))
        clear HD HA HB3 HB4 HB5 L6
        go_upto_region 11 with (first
          | (go_at_call 9; (with_reducible refine HN.out.mono ?_); rintro e w8 ⟨h, F8, rfl, A8⟩; have A8 := Lib.hid A8)
          | (go_at_call 20; (with_reducible refine HC.out.mono ?_); rintro e w7 ⟨p7, m7, c7, rfl, hm7, o7, b7⟩; have B7 := Lib.hid (B6.out.trans (b7.mono (by have := B6.out.size; omega))); have HN := Lib.hid (new_at 1 0 (HGl.out _ B7.out) (lie_of o7) (by omega) (codeB_byt _)); replace hm7 := Lib.hid hm7; clear o7 b7))
        have A8' : MaAt w7 w8 F8 h 4096 (codeB [1073741824]) 0 (beg (List.replicate 16 0) (memW 1073741824) [] 0 false false) := A8.out
        have HR := run_at A8' 1 (by omega) (by show 0 + 1 ≤ 100000; omega)
        rw [key] at HR
        replace HR := Lib.hid (show Calls Tryz.prog 11 #[.pointer (some ⟨h, 0, none⟩), i64 1] w8 fun e w' => e = .returned (i64 1) ∧ ∃ F', MaAt w7 w' F' h 4096 (codeB [1073741824]) 0 (beg (List.replicate 16 0) (memW 1073741824) [] 1 true false) ∧ Moved F8 F' w8 w' from HR)
        clear A8 A8' HN key
        go_upto_region 13 with (first
          | (go_at_call 23; refine (state_told A9.out (by show 0 < 100000; omega)).mono ?_; rintro e w10 ⟨rp, rn, rc, cp, cn, cc, op, on, oc, rfl, T, b⟩; have HT10 := Lib.hid T; have b10 := Lib.hid b; have A10 := Lib.hid (A9.out.later b); clear T b)
          | (go_at_call 11; (with_reducible refine HR.out.mono ?_); rintro e w9 ⟨rfl, F9, A9, -⟩; have A9 := Lib.hid A9))
        have T10' := HT10.out w10 (fun _ _ _ => rfl)
        rw [tells_beg] at HT10 T10'
        obtain ⟨rfl, bb, off, rfl, -⟩ := told_csr T10' rfl
        have hcap : 11 ≤ cc := T10'.c.cap
        obtain ⟨g11, hg11⟩ : ∃ g, w10.heap.size = g := ⟨_, rfl⟩
        obtain ⟨w11, hw11⟩ : ∃ w11, w11 = w10.alloc (.cells #[.slice rp rn rc, i64 0, .slice (some ⟨bb, off, none⟩) 11 cc, .bool true, .bool false, .slice op on oc] 55) := ⟨_, rfl⟩
        have X11 := Lib.hid (by rw [hw11, ← hg11]; exact BoxT.new _ _ _ _ _ _ _ _ _ _ _ _ _ : BoxT w11 g11 rp rn rc 0 (some ⟨bb, off, none⟩) 11 cc true false op on oc)
        have b11 := Lib.hid (by rw [hw11]; exact (Below.refl _ _).alloc (Nat.le_of_eq hg11.symm) _ : Below g11 w10 w11)
        have A11 := Lib.hid (A10.out.later (by rw [hg11]; exact b11.out))
        have nF := Lib.hid (fun i (hi : w9.heap.size ≤ i) => (fun hF => by have := A9.out.lt i hF; omega : ¬ F9 i))
        have s10 : w9.heap.size ≤ g11 := by rw [← hg11]; exact b10.out.size
        have hg11' : w11.heap.size = g11 + 1 := by rw [hw11, ← hg11]; simp
        rw [hg11] at HT10
        rw [hg11, ← hw11]
        clear hw11 hg11 T10' HR
        have HR2 := run_at A11.out n (by omega) (by show 0 + n ≤ 100000; omega)
        rw [Ma.run_dead n rfl] at HR2
        replace HR2 := Lib.hid (show Calls Tryz.prog 11 #[.pointer (some ⟨h, 0, none⟩), i64 (n : Int)] w11 fun e w' => e = .returned (i64 0) ∧ ∃ F', MaAt w7 w' F' h 4096 (codeB [1073741824]) 0 (beg (List.replicate 16 0) (memW 1073741824) [] 1 true false) ∧ Moved F9 F' w11 w' from HR2)
        go_upto_region 15 with (first
          | (go_at_call 23; refine (state_told A12.out (by show 0 < 100000; omega)).mono ?_; rintro e w13 ⟨rp2, rn2, rc2, cp2, cn2, cc2, op2, on2, oc2, rfl, T, b⟩; have HT13 := Lib.hid T; have b13 := Lib.hid b; have A13 := Lib.hid (A12.out.later b); clear T b)
          | (go_at_call 11; (with_reducible refine HR2.out.mono ?_); rintro e w12 ⟨rfl, F12, A12, M12⟩; have A12 := Lib.hid A12; have M12 := Lib.hid M12))
        have X12 := X11.out.kept (M12.out.b.block g11 (by omega) (nF.out g11 s10))
        have HT12 := HT10.out w12 (fun i h1 h2 => (M12.out.b.block i (by omega) (nF.out i h1)).trans (b11.out.block i h2))
        have T13a := HT12.later b13.out
        have T13b := HT13.out w13 (fun _ _ _ => rfl)
        rw [tells_beg] at T13b
        obtain ⟨g14, hg14⟩ : ∃ g, w13.heap.size = g := ⟨_, rfl⟩
        obtain ⟨w14, hw14⟩ : ∃ w14, w14 = w13.alloc (.cells #[.slice rp2 rn2 rc2, i64 0, .slice cp2 cn2 cc2, .bool true, .bool false, .slice op2 on2 oc2] 55) := ⟨_, rfl⟩
        have X14b : BoxT w14 g14 rp2 rn2 rc2 0 cp2 cn2 cc2 true false op2 on2 oc2 := by rw [hw14, ← hg14]; exact BoxT.new _ _ _ _ _ _ _ _ _ _ _ _ _
        have b14 : Below w13.heap.size w13 w14 := by rw [hw14]; exact (Below.refl _ _).alloc (Nat.le_refl _) _
        have X14a := (X12.later b13.out).later b14
        have S14 := Lib.hid (same_state (T13a.later b14).stL (T13b.later b14).stL (by show (List.replicate 16 (0 : Int)).length ≤ 100000; simp) (by show 11 ≤ 100000; omega))
        obtain ⟨-, bb2, off2, e2, hcs⟩ := told_csr (T13a.later b14) rfl
        injection e2 with e2; injection e2 with e3 e4; subst e3 e4
        obtain ⟨-, k7, -, -⟩ := hcs w14 (Below.refl _ _)
        change w14.cell? ⟨bb, off + 7, none⟩ = some (i64 1) at k7
        have HE := Lib.hid ((B7.out.trans ((A13.out.b.trans (b14.mono A13.out.b.size)).mono (by have := B7.out.size; omega))) : Below B W w14)
        have a2 := X14a.c2
        have a3 := X14a.c3
        have a4 := X14a.c4
        have a0' := X14a.c0
        have a1' := X14a.c1
        have a5 := X14a.c5
        have c0' := X14b.c0
        have c1' := X14b.c1
        have c2' := X14b.c2
        have c3' := X14b.c3
        have c4' := X14b.c4
        have c5' := X14b.c5
        have hs14 := HE.out.size
        rw [hg14, ← hw14]
        clear hw14 hg14 X14a X14b X12 HT12 T13a T13b b14 hcs HT10 HT13 X11 b11 A9 A10 A11 A12 A13 M12 HR2 b10 b13 nF
        go_wp2_with (first
          | (go_at_call 25; (with_reducible refine S14.out.mono ?_); rintro e w15 ⟨rfl, b15⟩; have HE2 := Lib.hid (HE.out.trans (b15.mono (by omega))); clear b15))
        exact HO.out _ HE2.out
set_option maxRecDepth 100000 in
theorem lifted (os : Os) (started : os.Started) (H : Type) (enc : TypeId × Value → H) :
    ReturnsInHanded {} Tryz.checked os 7 .any (fun w args => (Rows.bareStuckSpec.pre enc Tryz.prog Tryz.f7 [] false w args ∧ laidMetH Tryz.prog laidB w) ∧ sizedMet enc Tryz.prog Tryz.f7 (OpenSpec.ofChange Rows.bareStuckSpec) false w args)
      (Rows.bareStuckSpec.post enc Tryz.prog Tryz.f7 false true false false) := by
  refine returnsInHanded_of_change_and (C := Tryz.checked) (X := fun w _ => laidMetH Tryz.prog laidB w) (fun _ _ _ hh h => h.of_heap hh) Ser.ownB started (by kernel_rfl) Tryz.func7
    (ChangeSpec.witness_at (enc := enc) (C := Tryz.checked) (os := os) (X := fun w _ => laidMetH Tryz.prog laidB w) false (laidWorld os) #[.int .i64 0, .int .i64 0, .bool false] 8 rfl (by kernel_rfl) (by kernel_rfl) (by kernel_rfl) (by kernel_rfl) (by kernel_rfl) (laidWorld_met os _)) ?_
  intro W base args ds gs before hval0 hW _ _ hL _
  have hval : ∀ (j : Nat) t v, Tryz.f7.params[j]? = some t → args[j]? = some v → Value.okWide Tryz.prog W .any base t v := hval0
  have hW' := hW
  obtain ⟨p, q, hA0, hV, rfl, hfz, hnd⟩ := hW
  have hA : DataW.TrodAll enc Tryz.prog W 0 (fun _ => true) true Tryz.f7.params.toList args.toList ds p := hA0
  rw [Tryz.params7] at hA hval
  obtain ⟨v0, vs0, d0, ds0, p0, q0, hargs, rfl, rfl, h0, r0⟩ := trodAll_cons hA
  obtain ⟨v1, vs1, d1, ds1, p1, q1, rfl, rfl, rfl, h1, r1⟩ := trodAll_cons r0
  obtain ⟨v2, vs2, d2, ds2, p2, q2, rfl, rfl, rfl, h2, r2⟩ := trodAll_cons r1
  obtain ⟨rfl, rfl, rfl⟩ := trodAll_nil r2
  obtain rfl : args = #[v0, v1, v2] := by cases args; simp_all
  obtain ⟨rfl, rfl⟩ := trodVars_none hV
  obtain ⟨x0, rfl, rfl, rfl, w0⟩ := open_int Tryz.underlying3 (hval 0 3 v0 rfl rfl) h0
  obtain ⟨x1, rfl, rfl, rfl, w1⟩ := open_int Tryz.underlying3 (hval 1 3 v1 rfl rfl) h1
  obtain ⟨b2, rfl, rfl, rfl⟩ := open_bool Tryz.underlying4 (hval 2 4 v2 rfl rfl) h2
  have hT := glob_of_laid hL
  clear hA0 hval0
  simp only [List.append_nil] at hW'
  refine (walk x0 w0 x1 w1 b2 W hT).mono fun e W' ⟨he, hb⟩ => ?_
  subst he
  exact ⟨_, rfl, _, _, _, [], [], [], hW', trodAll_cons_mk (shut_bool Tryz.underlying4 _) trodAll_mk0, (trodAll_cons_mk (shut_int Tryz.underlying3 w0) (trodAll_cons_mk (shut_int Tryz.underlying3 w1) (trodAll_cons_mk (shut_bool Tryz.underlying4 _) trodAll_mk0))), rfl, hb.frame _, fun h => by cases h⟩
theorem over : Rows.BareStuckSaid :=
  OpenClaim.holds_of_wide 7 Tryz.f7 rfl rfl rfl rfl rfl rfl rfl ⟨rfl, rfl, rfl, rfl, rfl⟩ rfl rfl rfl rfl rfl (by kernel_rfl) Tryz.func7 (by kernel_rfl)
    (of_decide_eq_true (by kernel_rfl)) (by unfold Func.isWrapper; first | (rw [if_pos (by decide +kernel)]; kernel_rfl) | (rw [if_neg (by decide +kernel)]; exact ⟨rfl, rfl⟩))
    (fun os started H enc _ => lifted os started H enc)
/-- THE STATEMENT: the tied card. -/
theorem proved : Rows.BareStuckCardSaid :=
  Claim7.holds_tied_plain_at .later [] [.handle] true (true, "aace9d0ef1f8d43d1fe2115868c14b562d82bf8cc72493f70a14ab9b1e198b9f") true
    over (fun _ h => by cases h) (by kernel_rfl) (fun _ h => by cases h) bareStuck_row_tie rfl ⟨rfl, rfl⟩ (by kernel_rfl) rfl
    (fun f fn hf hfn => by
      obtain rfl : f = 7 := Option.some.inj ((show Tryz.prog.funcNamed "trunnion/trunnionlaw10.BareStuck" = some 7 by kernel_rfl).symm.trans hf) |>.symm
      obtain rfl : fn = Tryz.f7 := (Option.some.inj (Tryz.func7.symm.trans hfn)).symm
      exact ⟨by kernel_rfl, fun j t ht => by
        rw [Tryz.params7] at ht
        have hm : t ∈ [3, 3, 4] := by simpa using Array.mem_of_getElem? ht
        have hall : ([3, 3, 4].all fun u => !Tryz.prog.wantsStandIn u) = true := by kernel_rfl
        exact (show Tryz.prog.wantsStandIn t = false by simpa using List.all_eq_true.1 hall t hm)⟩)
    (by kernel_rfl)
end Go.Proofs.YtfcmodllbhpniaaGreatDoor.bareStuck
