/-
  a timer's interrupt comes at its time, not ahead, and not where it is not let through: law BareTimer returns true. No condition on the arguments: whatever they are. The card ties the listed variable of Go's library to the program's text.
-/
import Derived.Test.YtfcmodllbhpniaaGreatDoorJnBareLaid
import Derived.Test.YtfcmodllbhpniaaGreatDoorCards
import Derived.Test.YtfcmodllbhpniaaGreatDoorTie
import Derived.Test.YtfcmodllbhpniaaGreatDoorJnAt
import Derived.Test.YtfcmodllbhpniaaGreatDoorJnBareTm
import Derived.Carry
import Derived.Lay
import Derived.LaidOnce
import Derived.OpenShut
import Derived.Deep.Slices
import Derived.SevenTiedAt
set_option linter.unusedVariables false
namespace Go.Proofs.YtfcmodllbhpniaaGreatDoor.bareTimer
open Go Go.Proofs.YtfcmodllbhpniaaGreatDoor Go.Proofs.YtfcmodllbhpniaaGreatDoor.Ser Go.Proofs.YtfcmodllbhpniaaGreatDoor.Ser Go.ChangeShapes Go.WideShapes Go.ChangeAt Go.RowKit
set_option linter.unusedVariables false
open Go.Proofs.YtfcmodllbhpniaaGreatDoor.Img Go.Proofs.YtfcmodllbhpniaaGreatDoor.Box
theorem src_one (w : World) (a : Int) : SrcK .i64 (w.alloc (.cells #[.int .i64 a] 3)) (some ⟨w.heap.size, 0, none⟩) [a] := by
  intro _
  refine ⟨_, rfl, fun j u hu => ?_⟩
  rw [Addr.add_lit, Nat.zero_add, cell_of_row _ w.heap.size j _ _ _ (heap_alloc_new w _)]
  simpa using hu
/-- The first nine words, and k more. -/
abbrev tmK (c i o k : Nat) : List Int := [303038464 + (c : Int), 1158676488, 303038464 + (i : Int), 1158676490, 303038528, 1158676481, 303038464 + (o : Int), 1158676480, 939524096] ++ List.replicate k 939524096
theorem tmK_succ (c i o k : Nat) : tmK c i o k ++ [939524096] = tmK c i o (k + 1) := by
  unfold tmK
  rw [List.append_assoc, ← List.replicate_succ']
theorem tmK_len (c i o k : Nat) : (tmK c i o k).length = 9 + k := by simp [tmK]; omega
theorem told_len {E : TypeId} {k : IntKind} {w : World} {B : Nat} {v : Value} {xs : List Int} (h : OwnK E k w B v xs) : ∃ p m c, v = .slice p m c ∧ m = xs.length := by
  obtain ⟨p, c, rfl, -⟩ := ownK_lie h; exact ⟨p, _, c, rfl, rfl⟩
/-- A slice's length. -/
def lenV : Value → Nat
  | .slice _ n _ => n
  | _ => 0
theorem tells_csr (M : List Int) (r pc st tv ep ca t cm ip ie : Int) : (tells (tm M r pc st tv ep ca t cm ip ie)).C.length = 11 ∧ (tells (tm M r pc st tv ep ca t cm ip ie)).C.getD 2 0 = ep ∧ (tells (tm M r pc st tv ep ca t cm ip ie)).C.getD 3 0 = ca ∧ (tells (tm M r pc st tv ep ca t cm ip ie)).C.getD 7 0 = t := ⟨rfl, rfl, rfl, rfl⟩
/-- What the call does. -/
def Fine (W : World) (e : Ending) (W' : World) : Prop := e = .returned (.bool true) ∧ Below W.heap.size W W'
set_option maxHeartbeats 8000000 in
theorem walk (x0 : Int) (w0 : (Lit.int .i64 x0).wf = true) (x1 : Int) (w1 : (Lit.int .i64 x1).wf = true) (b2 : Bool) (W : World) (hT : Glob W) :
    Calls Tryz.prog 6 #[.int .i64 x0, .int .i64 x1, .bool b2] W (Fine W) := by
  obtain ⟨p, hp⟩ : ∃ p : Ending → World → Prop, p = Fine W := ⟨_, rfl⟩
  rw [← hp]
  have hout : ∀ u, Below W.heap.size W u → p (.returned (.bool true)) u := by intro u hb; rw [hp]; exact ⟨rfl, hb⟩
  have HO := Lib.hid hout
  clear hp hout
  obtain ⟨B, hB⟩ : ∃ B, W.heap.size = B := ⟨_, rfl⟩
  have hB0 := glob_lt hT
  have HA := Lib.hid (alive10 W hT)
  have HGl := Lib.hid (fun u (b : Below B W u) => (World.cell?_of_block (b.block 0 (by omega))).trans hT)
  rw [hB] at HO hB0 HA
  clear hT
  have ways : x0 < 0 ∨ (¬ x0 < 0 ∧ 300 < x0) ∨ (¬ x0 < 0 ∧ ¬ 300 < x0 ∧ x1 < 0) ∨ (¬ x0 < 0 ∧ ¬ 300 < x0 ∧ ¬ x1 < 0 ∧ 7 < x1) ∨ (¬ x0 < 0 ∧ ¬ 300 < x0 ∧ ¬ x1 < 0 ∧ ¬ 7 < x1) := by omega
  rcases ways with a0 | ⟨a0, a1⟩ | ⟨a0, a1, a2⟩ | ⟨a0, a1, a2, a3⟩ | ⟨a0, a1, a2, a3⟩
  · go_enter Tryz.func6, Tryz.ntmps6
    go_wp2_with (go_at_call 8; refine HA.out.mono ?_; rintro e w3 ⟨rfl, hb3⟩; have HB3 := Lib.hid hb3; clear hb3)
    exact HO.out _ HB3.out
  · go_enter Tryz.func6, Tryz.ntmps6
    go_wp2_with (go_at_call 8; refine HA.out.mono ?_; rintro e w3 ⟨rfl, hb3⟩; have HB3 := Lib.hid hb3; clear hb3)
    exact HO.out _ HB3.out
  · go_enter Tryz.func6, Tryz.ntmps6
    go_wp2_with (go_at_call 8; refine HA.out.mono ?_; rintro e w3 ⟨rfl, hb3⟩; have HB3 := Lib.hid hb3; clear hb3)
    exact HO.out _ HB3.out
  · go_enter Tryz.func6, Tryz.ntmps6
    go_wp2_with (go_at_call 8; refine HA.out.mono ?_; rintro e w3 ⟨rfl, hb3⟩; have HB3 := Lib.hid hb3; clear hb3)
    exact HO.out _ HB3.out
  · obtain ⟨c, rfl⟩ := Int.eq_ofNat_of_zero_le (show (0 : Int) ≤ x0 by omega)
    obtain ⟨i, rfl⟩ := Int.eq_ofNat_of_zero_le (show (0 : Int) ≤ x1 by omega)
    have hc : c ≤ 300 := by omega
    have hi : i ≤ 7 := by omega
    have orC := (or_imm c hc).1
    have orI := (or_imm i (by omega)).1
    cases b2
    · have orO : bits .or .i64 303038464 0 = 303038464 := by decide +kernel
      go_enter Tryz.func6, Tryz.ntmps6
      go_upto_region 8 with (go_at_call 8; refine HA.out.mono ?_; rintro e w3 ⟨rfl, hb3⟩; have HB3 := Lib.hid hb3; clear hb3)
      obtain ⟨g4, hg4⟩ : ∃ g4, w3.heap.size = g4 := ⟨_, rfl⟩
      obtain ⟨w4, hw4⟩ : ∃ w4, w4 = w3.alloc (.cells #[i64 (303038464 + (c : Int)), i64 1158676488, i64 (303038464 + (i : Int)), i64 1158676490, i64 303038528, i64 1158676481, i64 303038464, i64 1158676480, i64 939524096] 3) := ⟨_, rfl⟩
      have O4 := Lib.hid (by rw [hw4, ← hg4]; exact ownK_built 3 .i64 w3 (tmK c i 0 0) (by show 9 ≤ maxLen; decide) : OwnK 3 .i64 w4 g4 (.slice (some ⟨g4, 0, none⟩) 9 9) (tmK c i 0 0))
      have s4 : B ≤ g4 := by have := HB3.out.size; omega
      have B4 := Lib.hid (by rw [hw4]; exact HB3.out.alloc (by omega) _ : Below B W w4)
      have t4 : w4.heap.size = g4 + 1 := by rw [hw4, ← hg4]; simp
      rw [hg4, ← hw4]
      clear hw4 hg4 HB3 HA
      go_loopw [9] (fun s9 wr => ∃ (k : Nat) (p' : Option Addr) (m' c' : Nat), k ≤ 7 ∧ s9 = .slice p' m' c' ∧ m' = 9 + k ∧ OwnK 3 .i64 wr g4 s9 (tmK c i 0 k) ∧ Below g4 w4 wr) (fun s9 _ => 16 - lenV s9)
      case atStart => exact ⟨0, _, _, _, by decide, rfl, rfl, O4.out, (Below.refl w4.heap.size w4).mono (by omega)⟩
      case round =>
        obtain ⟨k, p', m', c', hk, rfl, rfl, ho, hb⟩ := hrel
        have HR := Lib.hid ho
        have HB := Lib.hid hb
        have hsz := Lib.hid (show g4 ≤ wr.heap.size by have := HB.out.size; omega)
        have HS := Lib.hid (src_one wr 939524096)
        have ho2 := Lib.hid (ownK_below HR.out ((Below.refl wr.heap.size wr).alloc (Nat.le_refl _) (.cells #[.int .i64 939524096] 3)))
        have hB2 := Lib.hid (show g4 ≤ (wr.alloc (.cells #[.int .i64 939524096] 3)).heap.size by have := hsz.out; simp; omega)
        have HBc := Lib.hid (HB.out.trans (((Below.refl wr.heap.size wr).alloc (Nat.le_refl _) (.cells #[.int .i64 939524096] 3)).mono hsz.out))
        have HL2 := Lib.hid (show (tmK c i 0 k).length + 1 ≤ 1000000 by rw [tmK_len]; omega)
        clear ho hb
        by_cases hk7 : k < 7
        · have hlen : ((9 + k : Nat) : Int) < 16 := by omega
          go_wp2_with (at_builtin; refine wpList_appK kdI rfl _ _ rfl hB2.out (R1 := tmK c i 0 k) rfl ho2.out [939524096] rfl rfl (fun e => by cases e) HS.out HL2.out ?_; intro v' w5 k1 k2 _; rw [tmK_succ] at k1; obtain ⟨p5, n5, c5, rfl, hn5⟩ := told_len k1; rw [tmK_len] at hn5; replace hn5 := Lib.hid hn5; replace k1 := Lib.hid k1; replace k2 := Lib.hid k2)
          go_roundw
          case rel => exact ⟨k + 1, p5, n5, c5, hk7, rfl, hn5.out, k1.out, HBc.out.trans k2.out⟩
          case measure => have := hn5.out; simp only [lenV]; omega
        · obtain rfl : k = 7 := by omega
          go_upto_region 11 with (at_builtin; refine wpList_appK kdI rfl _ _ rfl hB2.out (R1 := tmK c i 0 7) rfl ho2.out [939524096] rfl rfl (fun e => by cases e) HS.out HL2.out ?_; intro v' w5 k1 k2 _; rw [tmK_succ] at k1; obtain ⟨p5, n5, c5, rfl, hn5⟩ := told_len k1; rw [tmK_len] at hn5; replace hn5 := Lib.hid hn5; replace k1 := Lib.hid k1; replace k2 := Lib.hid k2)
          have B6 := Lib.hid (B4.out.trans ((HBc.out.trans k2.out).mono s4) : Below B W w5)
          have HC := Lib.hid (code_says 0 (lie_of k1.out) (by rw [hn5.out]; decide))
          clear O4 B4 HR HB hsz HS ho2 hB2 HBc HL2 k1 k2
          go_upto_region 12 with (first
            | (go_at_call 9; (with_reducible refine HN.out.mono ?_); rintro e w8 ⟨h, F8, rfl, A8⟩; have A8 := Lib.hid A8)
            | (go_at_call 20; (with_reducible refine HC.out.mono ?_); rintro e w7 ⟨p7, m7, c7, rfl, hm7, o7, b7⟩; have B7 := Lib.hid (B6.out.trans (b7.mono (by have := B6.out.size; omega))); have HN := Lib.hid (new_at 1 0 (HGl.out _ B7.out) (lie_of o7) (by rw [hm7, hn5.out]; decide) (codeB_byt _)); replace hm7 := Lib.hid hm7; clear o7 b7))
          by_cases h8 : (c : Int) < 8
          · have key : want c = 8 := by unfold want; rw [if_pos (by omega)]
            have kp : (c : Int) < 8 ∨ ¬ (c : Int) < 8 := by omega
            obtain ⟨ip, hrun⟩ := tm_want (c := c) (i := i) (o := 0) hc hi (by decide)
            rw [key] at hrun
            have A8' : MaAt w7 w8 F8 h 4096 (codeB (tmW c i 0)) 0 (tm (memL (tmW c i 0)) 0 0 4 0 0 0 0 0 0 0) := A8.out
            have HR := run_at A8' 8 (by omega) (by show 0 + 8 ≤ 100000; omega)
            rw [hrun] at HR
            obtain ⟨n1, hn1⟩ : ∃ n, ((tm (memL (tmW c i 0)) 0 0 4 0 0 0 0 0 0 0).run 8).1 = n := ⟨_, rfl⟩
            rw [hn1] at HR
            obtain ⟨xs, hxs⟩ : ∃ xs, codeB (tmW c i 0) = xs := ⟨_, rfl⟩
            rw [hxs] at HR
            replace HR := Lib.hid (show Calls Tryz.prog 11 #[.pointer (some ⟨h, 0, none⟩), i64 8] w8 fun e w' => e = .returned (i64 n1) ∧ ∃ F', MaAt w7 w' F' h 4096 xs 0 (tm (memL (tmW c i 0)) (0 : Nat) 32 (4 + (0 : Nat)) 64 0 0 (8 : Nat) c ip i) ∧ Moved F8 F' w8 w' from HR)
            clear A8 A8' HN hn1 hrun
            go_upto_region 15 with fail
            go_upto_region 17 with (first
              | (go_at_call 23; refine (state_told A9.out (by show 0 < 100000; omega)).mono ?_; rintro e w10 ⟨rp, rn, rc, cp, cn, cc, op, on, oc, rfl, -, b⟩; have b10 := Lib.hid b; have A10 := Lib.hid (A9.out.later b); clear b)
              | (go_at_call 11; (with_reducible refine HR.out.mono ?_); rintro e w9 ⟨rfl, F9, A9, -⟩; have A9 := Lib.hid A9))
            obtain ⟨g11, hg11⟩ : ∃ g, w10.heap.size = g := ⟨_, rfl⟩
            obtain ⟨w11, hw11⟩ : ∃ w11, w11 = w10.alloc (.cells #[.slice rp rn rc, i64 32, .slice cp cn cc, .bool false, .bool false, .slice op on oc] 55) := ⟨_, rfl⟩
            have X11 := Lib.hid (by rw [hw11, ← hg11]; exact BoxT.new _ _ _ _ _ _ _ _ _ _ _ _ _ : BoxT w11 g11 rp rn rc 32 cp cn cc false false op on oc)
            have b11 := Lib.hid (by rw [hw11]; exact (Below.refl _ _).alloc (Nat.le_of_eq hg11.symm) _ : Below g11 w10 w11)
            have A11 := Lib.hid (A10.out.later (by rw [hg11]; exact b11.out))
            have nF := Lib.hid (fun i (hi : w9.heap.size ≤ i) => (fun hF => by have := A9.out.lt i hF; omega : ¬ F9 i))
            have s10 : w9.heap.size ≤ g11 := by rw [← hg11]; exact b10.out.size
            have hg11' : w11.heap.size = g11 + 1 := by rw [hw11, ← hg11]; simp
            rw [hg11, ← hw11]
            clear hw11 hg11 HR
            have aI : bits .and .i64 (i : Int) 1 = (i : Int) % 2 := and1 _
            obtain ⟨ip', hrun2⟩ := tm_stays (c := c) (i := i) (o := 0) hc hi (by decide) (.inr (.inr rfl)) ip
            rw [key] at hrun2
            have HR2 := run_at A11.out 1 (by omega) (by show 0 + 1 ≤ 100000; omega)
            rw [hrun2] at HR2
            obtain ⟨n2, hn2⟩ : ∃ n, ((tm (memL (tmW c i 0)) (0 : Nat) 32 (4 + (0 : Nat)) 64 0 0 (8 : Nat) c ip i).run 1).1 = n := ⟨_, rfl⟩
            rw [hn2] at HR2
            replace HR2 := Lib.hid (show Calls Tryz.prog 11 #[.pointer (some ⟨h, 0, none⟩), i64 1] w11 fun e w' => e = .returned (i64 n2) ∧ ∃ F', MaAt w7 w' F' h 4096 xs 0 (tm (memL (tmW c i 0)) (0 : Nat) 32 (4 + (0 : Nat)) 64 0 0 ((8 : Nat) + 1) c ip' i) ∧ Moved F9 F' w11 w' from HR2)
            clear hn2 hrun2
            go_upto_region 19 with (first
              | (go_at_call 23; refine (state_told A12.out (by show 0 < 100000; omega)).mono ?_; rintro e w13 ⟨rp2, rn2, rc2, cp2, cn2, cc2, op2, on2, oc2, rfl, T, b⟩; have HT13 := Lib.hid (T w13 (fun _ _ _ => rfl)); have b13 := Lib.hid b; have A13 := Lib.hid (A12.out.later b); clear T b)
              | (go_at_call 11; (with_reducible refine HR2.out.mono ?_); rintro e w12 ⟨rfl, F12, A12, M12⟩; have A12 := Lib.hid A12; have M12 := Lib.hid M12))
            have X13 := (X11.out.kept (M12.out.b.block g11 (by omega) (nF.out g11 s10))).later b13.out
            have T13 := HT13.out
            obtain ⟨rfl, bb, off, rfl, hcs⟩ := told_csr T13 rfl
            have hcap : 11 ≤ cc2 := T13.c.cap
            obtain ⟨g14, hg14⟩ : ∃ g, w13.heap.size = g := ⟨_, rfl⟩
            obtain ⟨w14, hw14⟩ : ∃ w14, w14 = w13.alloc (.cells #[.slice rp2 rn2 rc2, i64 32, .slice (some ⟨bb, off, none⟩) 11 cc2, .bool false, .bool false, .slice op2 on2 oc2] 55) := ⟨_, rfl⟩
            have X14b : BoxT w14 g14 rp2 rn2 rc2 32 (some ⟨bb, off, none⟩) 11 cc2 false false op2 on2 oc2 := by rw [hw14, ← hg14]; exact BoxT.new _ _ _ _ _ _ _ _ _ _ _ _ _
            have b14 : Below w13.heap.size w13 w14 := by rw [hw14]; exact (Below.refl _ _).alloc (Nat.le_refl _) _
            have X14a := X13.later b14
            obtain ⟨-, k7, k2, k3⟩ := hcs w14 b14
            change w14.cell? ⟨bb, off + 7, none⟩ = some (i64 ((8 : Nat) + 1)) at k7
            change w14.cell? ⟨bb, off + 2, none⟩ = some (i64 0) at k2
            change w14.cell? ⟨bb, off + 3, none⟩ = some (i64 0) at k3
            have HE := Lib.hid ((B7.out.trans ((A13.out.b.trans (b14.mono A13.out.b.size)).mono (by have := B7.out.size; omega))) : Below B W w14)
            have a1' := X14a.c1
            have c1' := X14b.c1
            have c2' := X14b.c2
            rw [hg14, ← hw14]
            clear hw14 hg14 X14a X14b X13 T13 HT13 b14 hcs X11 b11 A9 A10 A11 A12 A13 M12 HR2 b10 b13 nF
            go_wp2_with fail
            all_goals first | exact HO.out _ HE.out | (exfalso; omega)
          · have key : want c = c := by unfold want; rw [if_neg (by omega)]
            have kp : (c : Int) < 8 ∨ ¬ (c : Int) < 8 := by omega
            obtain ⟨ip, hrun⟩ := tm_want (c := c) (i := i) (o := 0) hc hi (by decide)
            rw [key] at hrun
            have A8' : MaAt w7 w8 F8 h 4096 (codeB (tmW c i 0)) 0 (tm (memL (tmW c i 0)) 0 0 4 0 0 0 0 0 0 0) := A8.out
            have HR := run_at A8' c (by omega) (by show 0 + c ≤ 100000; omega)
            rw [hrun] at HR
            obtain ⟨n1, hn1⟩ : ∃ n, ((tm (memL (tmW c i 0)) 0 0 4 0 0 0 0 0 0 0).run c).1 = n := ⟨_, rfl⟩
            rw [hn1] at HR
            obtain ⟨xs, hxs⟩ : ∃ xs, codeB (tmW c i 0) = xs := ⟨_, rfl⟩
            rw [hxs] at HR
            replace HR := Lib.hid (show Calls Tryz.prog 11 #[.pointer (some ⟨h, 0, none⟩), i64 (c : Int)] w8 fun e w' => e = .returned (i64 n1) ∧ ∃ F', MaAt w7 w' F' h 4096 xs 0 (tm (memL (tmW c i 0)) (0 : Nat) 32 (4 + (0 : Nat)) 64 0 0 (c : Nat) c ip i) ∧ Moved F8 F' w8 w' from HR)
            clear A8 A8' HN hn1 hrun
            go_upto_region 15 with fail
            go_upto_region 17 with (first
              | (go_at_call 23; refine (state_told A9.out (by show 0 < 100000; omega)).mono ?_; rintro e w10 ⟨rp, rn, rc, cp, cn, cc, op, on, oc, rfl, -, b⟩; have b10 := Lib.hid b; have A10 := Lib.hid (A9.out.later b); clear b)
              | (go_at_call 11; (with_reducible refine HR.out.mono ?_); rintro e w9 ⟨rfl, F9, A9, -⟩; have A9 := Lib.hid A9))
            obtain ⟨g11, hg11⟩ : ∃ g, w10.heap.size = g := ⟨_, rfl⟩
            obtain ⟨w11, hw11⟩ : ∃ w11, w11 = w10.alloc (.cells #[.slice rp rn rc, i64 32, .slice cp cn cc, .bool false, .bool false, .slice op on oc] 55) := ⟨_, rfl⟩
            have X11 := Lib.hid (by rw [hw11, ← hg11]; exact BoxT.new _ _ _ _ _ _ _ _ _ _ _ _ _ : BoxT w11 g11 rp rn rc 32 cp cn cc false false op on oc)
            have b11 := Lib.hid (by rw [hw11]; exact (Below.refl _ _).alloc (Nat.le_of_eq hg11.symm) _ : Below g11 w10 w11)
            have A11 := Lib.hid (A10.out.later (by rw [hg11]; exact b11.out))
            have nF := Lib.hid (fun i (hi : w9.heap.size ≤ i) => (fun hF => by have := A9.out.lt i hF; omega : ¬ F9 i))
            have s10 : w9.heap.size ≤ g11 := by rw [← hg11]; exact b10.out.size
            have hg11' : w11.heap.size = g11 + 1 := by rw [hw11, ← hg11]; simp
            rw [hg11, ← hw11]
            clear hw11 hg11 HR
            have aI : bits .and .i64 (i : Int) 1 = (i : Int) % 2 := and1 _
            obtain ⟨ip', hrun2⟩ := tm_stays (c := c) (i := i) (o := 0) hc hi (by decide) (.inr (.inr rfl)) ip
            rw [key] at hrun2
            have HR2 := run_at A11.out 1 (by omega) (by show 0 + 1 ≤ 100000; omega)
            rw [hrun2] at HR2
            obtain ⟨n2, hn2⟩ : ∃ n, ((tm (memL (tmW c i 0)) (0 : Nat) 32 (4 + (0 : Nat)) 64 0 0 (c : Nat) c ip i).run 1).1 = n := ⟨_, rfl⟩
            rw [hn2] at HR2
            replace HR2 := Lib.hid (show Calls Tryz.prog 11 #[.pointer (some ⟨h, 0, none⟩), i64 1] w11 fun e w' => e = .returned (i64 n2) ∧ ∃ F', MaAt w7 w' F' h 4096 xs 0 (tm (memL (tmW c i 0)) (0 : Nat) 32 (4 + (0 : Nat)) 64 0 0 ((c : Nat) + 1) c ip' i) ∧ Moved F9 F' w11 w' from HR2)
            clear hn2 hrun2
            go_upto_region 19 with (first
              | (go_at_call 23; refine (state_told A12.out (by show 0 < 100000; omega)).mono ?_; rintro e w13 ⟨rp2, rn2, rc2, cp2, cn2, cc2, op2, on2, oc2, rfl, T, b⟩; have HT13 := Lib.hid (T w13 (fun _ _ _ => rfl)); have b13 := Lib.hid b; have A13 := Lib.hid (A12.out.later b); clear T b)
              | (go_at_call 11; (with_reducible refine HR2.out.mono ?_); rintro e w12 ⟨rfl, F12, A12, M12⟩; have A12 := Lib.hid A12; have M12 := Lib.hid M12))
            have X13 := (X11.out.kept (M12.out.b.block g11 (by omega) (nF.out g11 s10))).later b13.out
            have T13 := HT13.out
            obtain ⟨rfl, bb, off, rfl, hcs⟩ := told_csr T13 rfl
            have hcap : 11 ≤ cc2 := T13.c.cap
            obtain ⟨g14, hg14⟩ : ∃ g, w13.heap.size = g := ⟨_, rfl⟩
            obtain ⟨w14, hw14⟩ : ∃ w14, w14 = w13.alloc (.cells #[.slice rp2 rn2 rc2, i64 32, .slice (some ⟨bb, off, none⟩) 11 cc2, .bool false, .bool false, .slice op2 on2 oc2] 55) := ⟨_, rfl⟩
            have X14b : BoxT w14 g14 rp2 rn2 rc2 32 (some ⟨bb, off, none⟩) 11 cc2 false false op2 on2 oc2 := by rw [hw14, ← hg14]; exact BoxT.new _ _ _ _ _ _ _ _ _ _ _ _ _
            have b14 : Below w13.heap.size w13 w14 := by rw [hw14]; exact (Below.refl _ _).alloc (Nat.le_refl _) _
            have X14a := X13.later b14
            obtain ⟨-, k7, k2, k3⟩ := hcs w14 b14
            change w14.cell? ⟨bb, off + 7, none⟩ = some (i64 ((c : Nat) + 1)) at k7
            change w14.cell? ⟨bb, off + 2, none⟩ = some (i64 0) at k2
            change w14.cell? ⟨bb, off + 3, none⟩ = some (i64 0) at k3
            have HE := Lib.hid ((B7.out.trans ((A13.out.b.trans (b14.mono A13.out.b.size)).mono (by have := B7.out.size; omega))) : Below B W w14)
            have a1' := X14a.c1
            have c1' := X14b.c1
            have c2' := X14b.c2
            rw [hg14, ← hw14]
            clear hw14 hg14 X14a X14b X13 T13 HT13 b14 hcs X11 b11 A9 A10 A11 A12 A13 M12 HR2 b10 b13 nF
            go_wp2_with fail
            all_goals first | exact HO.out _ HE.out | (exfalso; omega)
    · have orO : bits .or .i64 303038464 1 = 303038465 := by decide +kernel
      go_enter Tryz.func6, Tryz.ntmps6
      go_upto_region 8 with (go_at_call 8; refine HA.out.mono ?_; rintro e w3 ⟨rfl, hb3⟩; have HB3 := Lib.hid hb3; clear hb3)
      obtain ⟨g4, hg4⟩ : ∃ g4, w3.heap.size = g4 := ⟨_, rfl⟩
      obtain ⟨w4, hw4⟩ : ∃ w4, w4 = w3.alloc (.cells #[i64 (303038464 + (c : Int)), i64 1158676488, i64 (303038464 + (i : Int)), i64 1158676490, i64 303038528, i64 1158676481, i64 303038465, i64 1158676480, i64 939524096] 3) := ⟨_, rfl⟩
      have O4 := Lib.hid (by rw [hw4, ← hg4]; exact ownK_built 3 .i64 w3 (tmK c i 1 0) (by show 9 ≤ maxLen; decide) : OwnK 3 .i64 w4 g4 (.slice (some ⟨g4, 0, none⟩) 9 9) (tmK c i 1 0))
      have s4 : B ≤ g4 := by have := HB3.out.size; omega
      have B4 := Lib.hid (by rw [hw4]; exact HB3.out.alloc (by omega) _ : Below B W w4)
      have t4 : w4.heap.size = g4 + 1 := by rw [hw4, ← hg4]; simp
      rw [hg4, ← hw4]
      clear hw4 hg4 HB3 HA
      go_loopw [9] (fun s9 wr => ∃ (k : Nat) (p' : Option Addr) (m' c' : Nat), k ≤ 7 ∧ s9 = .slice p' m' c' ∧ m' = 9 + k ∧ OwnK 3 .i64 wr g4 s9 (tmK c i 1 k) ∧ Below g4 w4 wr) (fun s9 _ => 16 - lenV s9)
      case atStart => exact ⟨0, _, _, _, by decide, rfl, rfl, O4.out, (Below.refl w4.heap.size w4).mono (by omega)⟩
      case round =>
        obtain ⟨k, p', m', c', hk, rfl, rfl, ho, hb⟩ := hrel
        have HR := Lib.hid ho
        have HB := Lib.hid hb
        have hsz := Lib.hid (show g4 ≤ wr.heap.size by have := HB.out.size; omega)
        have HS := Lib.hid (src_one wr 939524096)
        have ho2 := Lib.hid (ownK_below HR.out ((Below.refl wr.heap.size wr).alloc (Nat.le_refl _) (.cells #[.int .i64 939524096] 3)))
        have hB2 := Lib.hid (show g4 ≤ (wr.alloc (.cells #[.int .i64 939524096] 3)).heap.size by have := hsz.out; simp; omega)
        have HBc := Lib.hid (HB.out.trans (((Below.refl wr.heap.size wr).alloc (Nat.le_refl _) (.cells #[.int .i64 939524096] 3)).mono hsz.out))
        have HL2 := Lib.hid (show (tmK c i 1 k).length + 1 ≤ 1000000 by rw [tmK_len]; omega)
        clear ho hb
        by_cases hk7 : k < 7
        · have hlen : ((9 + k : Nat) : Int) < 16 := by omega
          go_wp2_with (at_builtin; refine wpList_appK kdI rfl _ _ rfl hB2.out (R1 := tmK c i 1 k) rfl ho2.out [939524096] rfl rfl (fun e => by cases e) HS.out HL2.out ?_; intro v' w5 k1 k2 _; rw [tmK_succ] at k1; obtain ⟨p5, n5, c5, rfl, hn5⟩ := told_len k1; rw [tmK_len] at hn5; replace hn5 := Lib.hid hn5; replace k1 := Lib.hid k1; replace k2 := Lib.hid k2)
          go_roundw
          case rel => exact ⟨k + 1, p5, n5, c5, hk7, rfl, hn5.out, k1.out, HBc.out.trans k2.out⟩
          case measure => have := hn5.out; simp only [lenV]; omega
        · obtain rfl : k = 7 := by omega
          go_upto_region 11 with (at_builtin; refine wpList_appK kdI rfl _ _ rfl hB2.out (R1 := tmK c i 1 7) rfl ho2.out [939524096] rfl rfl (fun e => by cases e) HS.out HL2.out ?_; intro v' w5 k1 k2 _; rw [tmK_succ] at k1; obtain ⟨p5, n5, c5, rfl, hn5⟩ := told_len k1; rw [tmK_len] at hn5; replace hn5 := Lib.hid hn5; replace k1 := Lib.hid k1; replace k2 := Lib.hid k2)
          have B6 := Lib.hid (B4.out.trans ((HBc.out.trans k2.out).mono s4) : Below B W w5)
          have HC := Lib.hid (code_says 0 (lie_of k1.out) (by rw [hn5.out]; decide))
          clear O4 B4 HR HB hsz HS ho2 hB2 HBc HL2 k1 k2
          go_upto_region 12 with (first
            | (go_at_call 9; (with_reducible refine HN.out.mono ?_); rintro e w8 ⟨h, F8, rfl, A8⟩; have A8 := Lib.hid A8)
            | (go_at_call 20; (with_reducible refine HC.out.mono ?_); rintro e w7 ⟨p7, m7, c7, rfl, hm7, o7, b7⟩; have B7 := Lib.hid (B6.out.trans (b7.mono (by have := B6.out.size; omega))); have HN := Lib.hid (new_at 1 0 (HGl.out _ B7.out) (lie_of o7) (by rw [hm7, hn5.out]; decide) (codeB_byt _)); replace hm7 := Lib.hid hm7; clear o7 b7))
          by_cases h8 : (c : Int) < 8
          · have key : want c = 8 := by unfold want; rw [if_pos (by omega)]
            have kp : (c : Int) < 8 ∨ ¬ (c : Int) < 8 := by omega
            obtain ⟨ip, hrun⟩ := tm_want (c := c) (i := i) (o := 1) hc hi (by decide)
            rw [key] at hrun
            have A8' : MaAt w7 w8 F8 h 4096 (codeB (tmW c i 1)) 0 (tm (memL (tmW c i 1)) 0 0 4 0 0 0 0 0 0 0) := A8.out
            have HR := run_at A8' 8 (by omega) (by show 0 + 8 ≤ 100000; omega)
            rw [hrun] at HR
            obtain ⟨n1, hn1⟩ : ∃ n, ((tm (memL (tmW c i 1)) 0 0 4 0 0 0 0 0 0 0).run 8).1 = n := ⟨_, rfl⟩
            rw [hn1] at HR
            obtain ⟨xs, hxs⟩ : ∃ xs, codeB (tmW c i 1) = xs := ⟨_, rfl⟩
            rw [hxs] at HR
            replace HR := Lib.hid (show Calls Tryz.prog 11 #[.pointer (some ⟨h, 0, none⟩), i64 8] w8 fun e w' => e = .returned (i64 n1) ∧ ∃ F', MaAt w7 w' F' h 4096 xs 0 (tm (memL (tmW c i 1)) (1 : Nat) 32 (4 + (1 : Nat)) 64 0 0 (8 : Nat) c ip i) ∧ Moved F8 F' w8 w' from HR)
            clear A8 A8' HN hn1 hrun
            go_upto_region 15 with fail
            go_upto_region 17 with (first
              | (go_at_call 23; refine (state_told A9.out (by show 0 < 100000; omega)).mono ?_; rintro e w10 ⟨rp, rn, rc, cp, cn, cc, op, on, oc, rfl, -, b⟩; have b10 := Lib.hid b; have A10 := Lib.hid (A9.out.later b); clear b)
              | (go_at_call 11; (with_reducible refine HR.out.mono ?_); rintro e w9 ⟨rfl, F9, A9, -⟩; have A9 := Lib.hid A9))
            obtain ⟨g11, hg11⟩ : ∃ g, w10.heap.size = g := ⟨_, rfl⟩
            obtain ⟨w11, hw11⟩ : ∃ w11, w11 = w10.alloc (.cells #[.slice rp rn rc, i64 32, .slice cp cn cc, .bool false, .bool false, .slice op on oc] 55) := ⟨_, rfl⟩
            have X11 := Lib.hid (by rw [hw11, ← hg11]; exact BoxT.new _ _ _ _ _ _ _ _ _ _ _ _ _ : BoxT w11 g11 rp rn rc 32 cp cn cc false false op on oc)
            have b11 := Lib.hid (by rw [hw11]; exact (Below.refl _ _).alloc (Nat.le_of_eq hg11.symm) _ : Below g11 w10 w11)
            have A11 := Lib.hid (A10.out.later (by rw [hg11]; exact b11.out))
            have nF := Lib.hid (fun i (hi : w9.heap.size ≤ i) => (fun hF => by have := A9.out.lt i hF; omega : ¬ F9 i))
            have s10 : w9.heap.size ≤ g11 := by rw [← hg11]; exact b10.out.size
            have hg11' : w11.heap.size = g11 + 1 := by rw [hw11, ← hg11]; simp
            rw [hg11, ← hw11]
            clear hw11 hg11 HR
            have aI : bits .and .i64 (i : Int) 1 = (i : Int) % 2 := and1 _
            have qs : (c : Int) = 0 ∨ (¬ (c : Int) = 0 ∧ (i : Int) % 2 = 0) ∨ (¬ (c : Int) = 0 ∧ (i : Int) % 2 = 1) := by omega
            rcases qs with q0 | ⟨q0, q1⟩ | ⟨q0, q1⟩
            · obtain ⟨ip', hrun2⟩ := tm_stays (c := c) (i := i) (o := 1) hc hi (by decide) (by omega) ip
              rw [key] at hrun2
              have HR2 := run_at A11.out 1 (by omega) (by show 0 + 1 ≤ 100000; omega)
              rw [hrun2] at HR2
              obtain ⟨n2, hn2⟩ : ∃ n, ((tm (memL (tmW c i 1)) (1 : Nat) 32 (4 + (1 : Nat)) 64 0 0 (8 : Nat) c ip i).run 1).1 = n := ⟨_, rfl⟩
              rw [hn2] at HR2
              replace HR2 := Lib.hid (show Calls Tryz.prog 11 #[.pointer (some ⟨h, 0, none⟩), i64 1] w11 fun e w' => e = .returned (i64 n2) ∧ ∃ F', MaAt w7 w' F' h 4096 xs 0 (tm (memL (tmW c i 1)) (1 : Nat) 32 (4 + (1 : Nat)) 64 0 0 ((8 : Nat) + 1) c ip' i) ∧ Moved F9 F' w11 w' from HR2)
              clear hn2 hrun2
              go_upto_region 19 with (first
                | (go_at_call 23; refine (state_told A12.out (by show 0 < 100000; omega)).mono ?_; rintro e w13 ⟨rp2, rn2, rc2, cp2, cn2, cc2, op2, on2, oc2, rfl, T, b⟩; have HT13 := Lib.hid (T w13 (fun _ _ _ => rfl)); have b13 := Lib.hid b; have A13 := Lib.hid (A12.out.later b); clear T b)
                | (go_at_call 11; (with_reducible refine HR2.out.mono ?_); rintro e w12 ⟨rfl, F12, A12, M12⟩; have A12 := Lib.hid A12; have M12 := Lib.hid M12))
              have X13 := (X11.out.kept (M12.out.b.block g11 (by omega) (nF.out g11 s10))).later b13.out
              have T13 := HT13.out
              obtain ⟨rfl, bb, off, rfl, hcs⟩ := told_csr T13 rfl
              have hcap : 11 ≤ cc2 := T13.c.cap
              obtain ⟨g14, hg14⟩ : ∃ g, w13.heap.size = g := ⟨_, rfl⟩
              obtain ⟨w14, hw14⟩ : ∃ w14, w14 = w13.alloc (.cells #[.slice rp2 rn2 rc2, i64 32, .slice (some ⟨bb, off, none⟩) 11 cc2, .bool false, .bool false, .slice op2 on2 oc2] 55) := ⟨_, rfl⟩
              have X14b : BoxT w14 g14 rp2 rn2 rc2 32 (some ⟨bb, off, none⟩) 11 cc2 false false op2 on2 oc2 := by rw [hw14, ← hg14]; exact BoxT.new _ _ _ _ _ _ _ _ _ _ _ _ _
              have b14 : Below w13.heap.size w13 w14 := by rw [hw14]; exact (Below.refl _ _).alloc (Nat.le_refl _) _
              have X14a := X13.later b14
              obtain ⟨-, k7, k2, k3⟩ := hcs w14 b14
              change w14.cell? ⟨bb, off + 7, none⟩ = some (i64 ((8 : Nat) + 1)) at k7
              change w14.cell? ⟨bb, off + 2, none⟩ = some (i64 0) at k2
              change w14.cell? ⟨bb, off + 3, none⟩ = some (i64 0) at k3
              have HE := Lib.hid ((B7.out.trans ((A13.out.b.trans (b14.mono A13.out.b.size)).mono (by have := B7.out.size; omega))) : Below B W w14)
              have a1' := X14a.c1
              have c1' := X14b.c1
              have c2' := X14b.c2
              rw [hg14, ← hw14]
              clear hw14 hg14 X14a X14b X13 T13 HT13 b14 hcs X11 b11 A9 A10 A11 A12 A13 M12 HR2 b10 b13 nF
              go_wp2_with fail
              all_goals first | exact HO.out _ HE.out | (exfalso; omega)
            · obtain ⟨ip', hrun2⟩ := tm_stays (c := c) (i := i) (o := 1) hc hi (by decide) (by omega) ip
              rw [key] at hrun2
              have HR2 := run_at A11.out 1 (by omega) (by show 0 + 1 ≤ 100000; omega)
              rw [hrun2] at HR2
              obtain ⟨n2, hn2⟩ : ∃ n, ((tm (memL (tmW c i 1)) (1 : Nat) 32 (4 + (1 : Nat)) 64 0 0 (8 : Nat) c ip i).run 1).1 = n := ⟨_, rfl⟩
              rw [hn2] at HR2
              replace HR2 := Lib.hid (show Calls Tryz.prog 11 #[.pointer (some ⟨h, 0, none⟩), i64 1] w11 fun e w' => e = .returned (i64 n2) ∧ ∃ F', MaAt w7 w' F' h 4096 xs 0 (tm (memL (tmW c i 1)) (1 : Nat) 32 (4 + (1 : Nat)) 64 0 0 ((8 : Nat) + 1) c ip' i) ∧ Moved F9 F' w11 w' from HR2)
              clear hn2 hrun2
              go_upto_region 19 with (first
                | (go_at_call 23; refine (state_told A12.out (by show 0 < 100000; omega)).mono ?_; rintro e w13 ⟨rp2, rn2, rc2, cp2, cn2, cc2, op2, on2, oc2, rfl, T, b⟩; have HT13 := Lib.hid (T w13 (fun _ _ _ => rfl)); have b13 := Lib.hid b; have A13 := Lib.hid (A12.out.later b); clear T b)
                | (go_at_call 11; (with_reducible refine HR2.out.mono ?_); rintro e w12 ⟨rfl, F12, A12, M12⟩; have A12 := Lib.hid A12; have M12 := Lib.hid M12))
              have X13 := (X11.out.kept (M12.out.b.block g11 (by omega) (nF.out g11 s10))).later b13.out
              have T13 := HT13.out
              obtain ⟨rfl, bb, off, rfl, hcs⟩ := told_csr T13 rfl
              have hcap : 11 ≤ cc2 := T13.c.cap
              obtain ⟨g14, hg14⟩ : ∃ g, w13.heap.size = g := ⟨_, rfl⟩
              obtain ⟨w14, hw14⟩ : ∃ w14, w14 = w13.alloc (.cells #[.slice rp2 rn2 rc2, i64 32, .slice (some ⟨bb, off, none⟩) 11 cc2, .bool false, .bool false, .slice op2 on2 oc2] 55) := ⟨_, rfl⟩
              have X14b : BoxT w14 g14 rp2 rn2 rc2 32 (some ⟨bb, off, none⟩) 11 cc2 false false op2 on2 oc2 := by rw [hw14, ← hg14]; exact BoxT.new _ _ _ _ _ _ _ _ _ _ _ _ _
              have b14 : Below w13.heap.size w13 w14 := by rw [hw14]; exact (Below.refl _ _).alloc (Nat.le_refl _) _
              have X14a := X13.later b14
              obtain ⟨-, k7, k2, k3⟩ := hcs w14 b14
              change w14.cell? ⟨bb, off + 7, none⟩ = some (i64 ((8 : Nat) + 1)) at k7
              change w14.cell? ⟨bb, off + 2, none⟩ = some (i64 0) at k2
              change w14.cell? ⟨bb, off + 3, none⟩ = some (i64 0) at k3
              have HE := Lib.hid ((B7.out.trans ((A13.out.b.trans (b14.mono A13.out.b.size)).mono (by have := B7.out.size; omega))) : Below B W w14)
              have a1' := X14a.c1
              have c1' := X14b.c1
              have c2' := X14b.c2
              rw [hg14, ← hw14]
              clear hw14 hg14 X14a X14b X13 T13 HT13 b14 hcs X11 b11 A9 A10 A11 A12 A13 M12 HR2 b10 b13 nF
              go_wp2_with fail
              all_goals first | exact HO.out _ HE.out | (exfalso; omega)
            · obtain ⟨ip', hrun2⟩ := tm_comes (c := c) (i := i) hc hi (by omega) (by omega) ip
              rw [key] at hrun2
              have HR2 := run_at A11.out 1 (by omega) (by show 0 + 1 ≤ 100000; omega)
              rw [hrun2] at HR2
              obtain ⟨n2, hn2⟩ : ∃ n, ((tm (memL (tmW c i 1)) (1 : Nat) 32 (4 + (1 : Nat)) 64 0 0 (8 : Nat) c ip i).run 1).1 = n := ⟨_, rfl⟩
              rw [hn2] at HR2
              replace HR2 := Lib.hid (show Calls Tryz.prog 11 #[.pointer (some ⟨h, 0, none⟩), i64 1] w11 fun e w' => e = .returned (i64 n2) ∧ ∃ F', MaAt w7 w' F' h 4096 xs 0 (tm (memL (tmW c i 1)) (1 : Nat) 64 14 64 32 2147483648 ((8 : Nat) + 1) c ip' i) ∧ Moved F9 F' w11 w' from HR2)
              clear hn2 hrun2
              go_upto_region 19 with (first
                | (go_at_call 23; refine (state_told A12.out (by show 0 < 100000; omega)).mono ?_; rintro e w13 ⟨rp2, rn2, rc2, cp2, cn2, cc2, op2, on2, oc2, rfl, T, b⟩; have HT13 := Lib.hid (T w13 (fun _ _ _ => rfl)); have b13 := Lib.hid b; have A13 := Lib.hid (A12.out.later b); clear T b)
                | (go_at_call 11; (with_reducible refine HR2.out.mono ?_); rintro e w12 ⟨rfl, F12, A12, M12⟩; have A12 := Lib.hid A12; have M12 := Lib.hid M12))
              have X13 := (X11.out.kept (M12.out.b.block g11 (by omega) (nF.out g11 s10))).later b13.out
              have T13 := HT13.out
              obtain ⟨rfl, bb, off, rfl, hcs⟩ := told_csr T13 rfl
              have hcap : 11 ≤ cc2 := T13.c.cap
              obtain ⟨g14, hg14⟩ : ∃ g, w13.heap.size = g := ⟨_, rfl⟩
              obtain ⟨w14, hw14⟩ : ∃ w14, w14 = w13.alloc (.cells #[.slice rp2 rn2 rc2, i64 64, .slice (some ⟨bb, off, none⟩) 11 cc2, .bool false, .bool false, .slice op2 on2 oc2] 55) := ⟨_, rfl⟩
              have X14b : BoxT w14 g14 rp2 rn2 rc2 64 (some ⟨bb, off, none⟩) 11 cc2 false false op2 on2 oc2 := by rw [hw14, ← hg14]; exact BoxT.new _ _ _ _ _ _ _ _ _ _ _ _ _
              have b14 : Below w13.heap.size w13 w14 := by rw [hw14]; exact (Below.refl _ _).alloc (Nat.le_refl _) _
              have X14a := X13.later b14
              obtain ⟨-, k7, k2, k3⟩ := hcs w14 b14
              change w14.cell? ⟨bb, off + 7, none⟩ = some (i64 ((8 : Nat) + 1)) at k7
              change w14.cell? ⟨bb, off + 2, none⟩ = some (i64 32) at k2
              change w14.cell? ⟨bb, off + 3, none⟩ = some (i64 2147483648) at k3
              have HE := Lib.hid ((B7.out.trans ((A13.out.b.trans (b14.mono A13.out.b.size)).mono (by have := B7.out.size; omega))) : Below B W w14)
              have a1' := X14a.c1
              have c1' := X14b.c1
              have c2' := X14b.c2
              rw [hg14, ← hw14]
              clear hw14 hg14 X14a X14b X13 T13 HT13 b14 hcs X11 b11 A9 A10 A11 A12 A13 M12 HR2 b10 b13 nF
              go_wp2_with fail
              all_goals first | exact HO.out _ HE.out | (exfalso; omega)
          · have key : want c = c := by unfold want; rw [if_neg (by omega)]
            have kp : (c : Int) < 8 ∨ ¬ (c : Int) < 8 := by omega
            obtain ⟨ip, hrun⟩ := tm_want (c := c) (i := i) (o := 1) hc hi (by decide)
            rw [key] at hrun
            have A8' : MaAt w7 w8 F8 h 4096 (codeB (tmW c i 1)) 0 (tm (memL (tmW c i 1)) 0 0 4 0 0 0 0 0 0 0) := A8.out
            have HR := run_at A8' c (by omega) (by show 0 + c ≤ 100000; omega)
            rw [hrun] at HR
            obtain ⟨n1, hn1⟩ : ∃ n, ((tm (memL (tmW c i 1)) 0 0 4 0 0 0 0 0 0 0).run c).1 = n := ⟨_, rfl⟩
            rw [hn1] at HR
            obtain ⟨xs, hxs⟩ : ∃ xs, codeB (tmW c i 1) = xs := ⟨_, rfl⟩
            rw [hxs] at HR
            replace HR := Lib.hid (show Calls Tryz.prog 11 #[.pointer (some ⟨h, 0, none⟩), i64 (c : Int)] w8 fun e w' => e = .returned (i64 n1) ∧ ∃ F', MaAt w7 w' F' h 4096 xs 0 (tm (memL (tmW c i 1)) (1 : Nat) 32 (4 + (1 : Nat)) 64 0 0 (c : Nat) c ip i) ∧ Moved F8 F' w8 w' from HR)
            clear A8 A8' HN hn1 hrun
            go_upto_region 15 with fail
            go_upto_region 17 with (first
              | (go_at_call 23; refine (state_told A9.out (by show 0 < 100000; omega)).mono ?_; rintro e w10 ⟨rp, rn, rc, cp, cn, cc, op, on, oc, rfl, -, b⟩; have b10 := Lib.hid b; have A10 := Lib.hid (A9.out.later b); clear b)
              | (go_at_call 11; (with_reducible refine HR.out.mono ?_); rintro e w9 ⟨rfl, F9, A9, -⟩; have A9 := Lib.hid A9))
            obtain ⟨g11, hg11⟩ : ∃ g, w10.heap.size = g := ⟨_, rfl⟩
            obtain ⟨w11, hw11⟩ : ∃ w11, w11 = w10.alloc (.cells #[.slice rp rn rc, i64 32, .slice cp cn cc, .bool false, .bool false, .slice op on oc] 55) := ⟨_, rfl⟩
            have X11 := Lib.hid (by rw [hw11, ← hg11]; exact BoxT.new _ _ _ _ _ _ _ _ _ _ _ _ _ : BoxT w11 g11 rp rn rc 32 cp cn cc false false op on oc)
            have b11 := Lib.hid (by rw [hw11]; exact (Below.refl _ _).alloc (Nat.le_of_eq hg11.symm) _ : Below g11 w10 w11)
            have A11 := Lib.hid (A10.out.later (by rw [hg11]; exact b11.out))
            have nF := Lib.hid (fun i (hi : w9.heap.size ≤ i) => (fun hF => by have := A9.out.lt i hF; omega : ¬ F9 i))
            have s10 : w9.heap.size ≤ g11 := by rw [← hg11]; exact b10.out.size
            have hg11' : w11.heap.size = g11 + 1 := by rw [hw11, ← hg11]; simp
            rw [hg11, ← hw11]
            clear hw11 hg11 HR
            have aI : bits .and .i64 (i : Int) 1 = (i : Int) % 2 := and1 _
            have qs : (c : Int) = 0 ∨ (¬ (c : Int) = 0 ∧ (i : Int) % 2 = 0) ∨ (¬ (c : Int) = 0 ∧ (i : Int) % 2 = 1) := by omega
            rcases qs with q0 | ⟨q0, q1⟩ | ⟨q0, q1⟩
            · exfalso; omega
            · obtain ⟨ip', hrun2⟩ := tm_stays (c := c) (i := i) (o := 1) hc hi (by decide) (by omega) ip
              rw [key] at hrun2
              have HR2 := run_at A11.out 1 (by omega) (by show 0 + 1 ≤ 100000; omega)
              rw [hrun2] at HR2
              obtain ⟨n2, hn2⟩ : ∃ n, ((tm (memL (tmW c i 1)) (1 : Nat) 32 (4 + (1 : Nat)) 64 0 0 (c : Nat) c ip i).run 1).1 = n := ⟨_, rfl⟩
              rw [hn2] at HR2
              replace HR2 := Lib.hid (show Calls Tryz.prog 11 #[.pointer (some ⟨h, 0, none⟩), i64 1] w11 fun e w' => e = .returned (i64 n2) ∧ ∃ F', MaAt w7 w' F' h 4096 xs 0 (tm (memL (tmW c i 1)) (1 : Nat) 32 (4 + (1 : Nat)) 64 0 0 ((c : Nat) + 1) c ip' i) ∧ Moved F9 F' w11 w' from HR2)
              clear hn2 hrun2
              go_upto_region 19 with (first
                | (go_at_call 23; refine (state_told A12.out (by show 0 < 100000; omega)).mono ?_; rintro e w13 ⟨rp2, rn2, rc2, cp2, cn2, cc2, op2, on2, oc2, rfl, T, b⟩; have HT13 := Lib.hid (T w13 (fun _ _ _ => rfl)); have b13 := Lib.hid b; have A13 := Lib.hid (A12.out.later b); clear T b)
                | (go_at_call 11; (with_reducible refine HR2.out.mono ?_); rintro e w12 ⟨rfl, F12, A12, M12⟩; have A12 := Lib.hid A12; have M12 := Lib.hid M12))
              have X13 := (X11.out.kept (M12.out.b.block g11 (by omega) (nF.out g11 s10))).later b13.out
              have T13 := HT13.out
              obtain ⟨rfl, bb, off, rfl, hcs⟩ := told_csr T13 rfl
              have hcap : 11 ≤ cc2 := T13.c.cap
              obtain ⟨g14, hg14⟩ : ∃ g, w13.heap.size = g := ⟨_, rfl⟩
              obtain ⟨w14, hw14⟩ : ∃ w14, w14 = w13.alloc (.cells #[.slice rp2 rn2 rc2, i64 32, .slice (some ⟨bb, off, none⟩) 11 cc2, .bool false, .bool false, .slice op2 on2 oc2] 55) := ⟨_, rfl⟩
              have X14b : BoxT w14 g14 rp2 rn2 rc2 32 (some ⟨bb, off, none⟩) 11 cc2 false false op2 on2 oc2 := by rw [hw14, ← hg14]; exact BoxT.new _ _ _ _ _ _ _ _ _ _ _ _ _
              have b14 : Below w13.heap.size w13 w14 := by rw [hw14]; exact (Below.refl _ _).alloc (Nat.le_refl _) _
              have X14a := X13.later b14
              obtain ⟨-, k7, k2, k3⟩ := hcs w14 b14
              change w14.cell? ⟨bb, off + 7, none⟩ = some (i64 ((c : Nat) + 1)) at k7
              change w14.cell? ⟨bb, off + 2, none⟩ = some (i64 0) at k2
              change w14.cell? ⟨bb, off + 3, none⟩ = some (i64 0) at k3
              have HE := Lib.hid ((B7.out.trans ((A13.out.b.trans (b14.mono A13.out.b.size)).mono (by have := B7.out.size; omega))) : Below B W w14)
              have a1' := X14a.c1
              have c1' := X14b.c1
              have c2' := X14b.c2
              rw [hg14, ← hw14]
              clear hw14 hg14 X14a X14b X13 T13 HT13 b14 hcs X11 b11 A9 A10 A11 A12 A13 M12 HR2 b10 b13 nF
              go_wp2_with fail
              all_goals first | exact HO.out _ HE.out | (exfalso; omega)
            · obtain ⟨ip', hrun2⟩ := tm_comes (c := c) (i := i) hc hi (by omega) (by omega) ip
              rw [key] at hrun2
              have HR2 := run_at A11.out 1 (by omega) (by show 0 + 1 ≤ 100000; omega)
              rw [hrun2] at HR2
              obtain ⟨n2, hn2⟩ : ∃ n, ((tm (memL (tmW c i 1)) (1 : Nat) 32 (4 + (1 : Nat)) 64 0 0 (c : Nat) c ip i).run 1).1 = n := ⟨_, rfl⟩
              rw [hn2] at HR2
              replace HR2 := Lib.hid (show Calls Tryz.prog 11 #[.pointer (some ⟨h, 0, none⟩), i64 1] w11 fun e w' => e = .returned (i64 n2) ∧ ∃ F', MaAt w7 w' F' h 4096 xs 0 (tm (memL (tmW c i 1)) (1 : Nat) 64 14 64 32 2147483648 ((c : Nat) + 1) c ip' i) ∧ Moved F9 F' w11 w' from HR2)
              clear hn2 hrun2
              go_upto_region 19 with (first
                | (go_at_call 23; refine (state_told A12.out (by show 0 < 100000; omega)).mono ?_; rintro e w13 ⟨rp2, rn2, rc2, cp2, cn2, cc2, op2, on2, oc2, rfl, T, b⟩; have HT13 := Lib.hid (T w13 (fun _ _ _ => rfl)); have b13 := Lib.hid b; have A13 := Lib.hid (A12.out.later b); clear T b)
                | (go_at_call 11; (with_reducible refine HR2.out.mono ?_); rintro e w12 ⟨rfl, F12, A12, M12⟩; have A12 := Lib.hid A12; have M12 := Lib.hid M12))
              have X13 := (X11.out.kept (M12.out.b.block g11 (by omega) (nF.out g11 s10))).later b13.out
              have T13 := HT13.out
              obtain ⟨rfl, bb, off, rfl, hcs⟩ := told_csr T13 rfl
              have hcap : 11 ≤ cc2 := T13.c.cap
              obtain ⟨g14, hg14⟩ : ∃ g, w13.heap.size = g := ⟨_, rfl⟩
              obtain ⟨w14, hw14⟩ : ∃ w14, w14 = w13.alloc (.cells #[.slice rp2 rn2 rc2, i64 64, .slice (some ⟨bb, off, none⟩) 11 cc2, .bool false, .bool false, .slice op2 on2 oc2] 55) := ⟨_, rfl⟩
              have X14b : BoxT w14 g14 rp2 rn2 rc2 64 (some ⟨bb, off, none⟩) 11 cc2 false false op2 on2 oc2 := by rw [hw14, ← hg14]; exact BoxT.new _ _ _ _ _ _ _ _ _ _ _ _ _
              have b14 : Below w13.heap.size w13 w14 := by rw [hw14]; exact (Below.refl _ _).alloc (Nat.le_refl _) _
              have X14a := X13.later b14
              obtain ⟨-, k7, k2, k3⟩ := hcs w14 b14
              change w14.cell? ⟨bb, off + 7, none⟩ = some (i64 ((c : Nat) + 1)) at k7
              change w14.cell? ⟨bb, off + 2, none⟩ = some (i64 32) at k2
              change w14.cell? ⟨bb, off + 3, none⟩ = some (i64 2147483648) at k3
              have HE := Lib.hid ((B7.out.trans ((A13.out.b.trans (b14.mono A13.out.b.size)).mono (by have := B7.out.size; omega))) : Below B W w14)
              have a1' := X14a.c1
              have c1' := X14b.c1
              have c2' := X14b.c2
              rw [hg14, ← hw14]
              clear hw14 hg14 X14a X14b X13 T13 HT13 b14 hcs X11 b11 A9 A10 A11 A12 A13 M12 HR2 b10 b13 nF
              go_wp2_with fail
              all_goals first | exact HO.out _ HE.out | (exfalso; omega)
set_option maxRecDepth 100000 in
theorem lifted (os : Os) (started : os.Started) (H : Type) (enc : TypeId × Value → H) :
    ReturnsInHanded {} Tryz.checked os 6 .any (fun w args => (Rows.bareTimerSpec.pre enc Tryz.prog Tryz.f6 [] false w args ∧ laidMetH Tryz.prog laidB w) ∧ sizedMet enc Tryz.prog Tryz.f6 (OpenSpec.ofChange Rows.bareTimerSpec) false w args)
      (Rows.bareTimerSpec.post enc Tryz.prog Tryz.f6 false true false false) := by
  refine returnsInHanded_of_change_and (C := Tryz.checked) (X := fun w _ => laidMetH Tryz.prog laidB w) (fun _ _ _ hh h => h.of_heap hh) Ser.ownB started (by kernel_rfl) Tryz.func6
    (ChangeSpec.witness_at (enc := enc) (C := Tryz.checked) (os := os) (X := fun w _ => laidMetH Tryz.prog laidB w) false (laidWorld os) #[.int .i64 0, .int .i64 0, .bool false] 8 rfl (by kernel_rfl) (by kernel_rfl) (by kernel_rfl) (by kernel_rfl) (by kernel_rfl) (laidWorld_met os _)) ?_
  intro W base args ds gs before hval0 hW _ _ hL _
  have hval : ∀ (j : Nat) t v, Tryz.f6.params[j]? = some t → args[j]? = some v → Value.okWide Tryz.prog W .any base t v := hval0
  have hW' := hW
  obtain ⟨p, q, hA0, hV, rfl, hfz, hnd⟩ := hW
  have hA : DataW.TrodAll enc Tryz.prog W 0 (fun _ => true) true Tryz.f6.params.toList args.toList ds p := hA0
  rw [Tryz.params6] at hA hval
  obtain ⟨v0, vs0, d0, ds0, p0, q0, hargs, rfl, rfl, h0, r0⟩ := trodAll_cons hA
  obtain ⟨v1, vs1, d1, ds1, p1, q1, rfl, rfl, rfl, h1, r1⟩ := trodAll_cons r0
  obtain ⟨v2, vs2, d2, ds2, p2, q2, rfl, rfl, rfl, h2, r2⟩ := trodAll_cons r1
  obtain ⟨rfl, rfl, rfl⟩ := trodAll_nil r2
  obtain rfl : args = #[v0, v1, v2] := by cases args; simp_all
  obtain ⟨rfl, rfl⟩ := trodVars_none hV
  obtain ⟨x0, rfl, rfl, rfl, w0⟩ := open_int Tryz.underlying3 (hval 0 3 v0 rfl rfl) h0
  obtain ⟨x1, rfl, rfl, rfl, w1⟩ := open_int Tryz.underlying3 (hval 1 3 v1 rfl rfl) h1
  obtain ⟨b2, rfl, rfl, rfl⟩ := open_bool Tryz.underlying4 (hval 2 4 v2 rfl rfl) h2
  have hT := glob_of_laid hL
  clear hA0 hval0
  simp only [List.append_nil] at hW'
  refine (walk x0 w0 x1 w1 b2 W hT).mono fun e W' ⟨he, hb⟩ => ?_
  subst he
  exact ⟨_, rfl, _, _, _, [], [], [], hW', trodAll_cons_mk (shut_bool Tryz.underlying4 _) trodAll_mk0, (trodAll_cons_mk (shut_int Tryz.underlying3 w0) (trodAll_cons_mk (shut_int Tryz.underlying3 w1) (trodAll_cons_mk (shut_bool Tryz.underlying4 _) trodAll_mk0))), rfl, hb.frame _, fun h => by cases h⟩
theorem over : Rows.BareTimerSaid :=
  OpenClaim.holds_of_wide 6 Tryz.f6 rfl rfl rfl rfl rfl rfl rfl ⟨rfl, rfl, rfl, rfl, rfl⟩ rfl rfl rfl rfl rfl (by kernel_rfl) Tryz.func6 (by kernel_rfl)
    (of_decide_eq_true (by kernel_rfl)) (by unfold Func.isWrapper; first | (rw [if_pos (by decide +kernel)]; kernel_rfl) | (rw [if_neg (by decide +kernel)]; exact ⟨rfl, rfl⟩))
    (fun os started H enc _ => lifted os started H enc)
/-- THE STATEMENT: the tied card. -/
theorem proved : Rows.BareTimerCardSaid :=
  Claim7.holds_tied_plain_at .later [] [.handle] true (true, "aace9d0ef1f8d43d1fe2115868c14b562d82bf8cc72493f70a14ab9b1e198b9f") true
    over (fun _ h => by cases h) (by kernel_rfl) (fun _ h => by cases h) bareTimer_row_tie rfl ⟨rfl, rfl⟩ (by kernel_rfl) rfl
    (fun f fn hf hfn => by
      obtain rfl : f = 6 := Option.some.inj ((show Tryz.prog.funcNamed "trunnion/trunnionlaw10.BareTimer" = some 6 by kernel_rfl).symm.trans hf) |>.symm
      obtain rfl : fn = Tryz.f6 := (Option.some.inj (Tryz.func6.symm.trans hfn)).symm
      exact ⟨by kernel_rfl, fun j t ht => by
        rw [Tryz.params6] at ht
        have hm : t ∈ [3, 3, 4] := by simpa using Array.mem_of_getElem? ht
        have hall : ([3, 3, 4].all fun u => !Tryz.prog.wantsStandIn u) = true := by kernel_rfl
        exact (show Tryz.prog.wantsStandIn t = false by simpa using List.all_eq_true.1 hall t hm)⟩)
    (by kernel_rfl)
end Go.Proofs.YtfcmodllbhpniaaGreatDoor.bareTimer
