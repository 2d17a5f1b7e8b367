
/-
  The walk of law UartOrder.
-/
import Derived.Test.YtpgnoogjibcccaaUartSep
import Derived.Lib.EndianBits
namespace Go.Proofs.Ytpgnoogjibcccaa.Ser
open Go.Proofs.Ytpgnoogjibcccaa
open Go.ChangeShapes Go.WideShapes Go.ChangeAt Go.RowKit
theorem load8 (k j : Nat) (hj : j < k) : (Ending.returned (.tuple #[i64 (ulv ((seqL k).drop j) 8), .bool (uok 8)])) = .returned (.tuple #[i64 ((k : Int) - j), .bool true]) := by
  rw [(seq_load k j hj).1]; rfl
theorem load4 (k j : Nat) (hj : j < k) : (Ending.returned (.tuple #[i64 (ulv ((seqL k).drop j) 4), .bool (uok 4)])) = .returned (.tuple #[i64 (j : Int), .bool true]) := by
  rw [(seq_load k j hj).2.1]; rfl
theorem ulr8 (rx : List Int) : ulr rx 8 = rx := by unfold ulr; rw [if_neg (by decide)]
set_option maxRecDepth 100000 in
set_option maxHeartbeats 4000000 in
theorem order_walk {W : World} (n : Int) (lp : Option Addr) (len cap : Nat) (f : Nat → Int) (hA : Ints W lp len f) (hmx : len ≤ 9223372036854775807) :
    Calls Try.prog 4 #[.int .i64 n, .slice lp len cap] W fun e w' => e = .returned (.bool true) ∧ Below W.heap.size W w' := by
  by_cases hs : 0 ≤ n ∧ n ≤ 40 ∧ (len : Int) ≤ 100
  · obtain ⟨p0, p1, p2⟩ := hs
    obtain ⟨m, rfl⟩ := Int.eq_ofNat_of_zero_le p0
    go_enter Try.func4, Try.ntmps4
    go_upto_region 4 with (go_at_call 5; refine (alive7_says _).mono ?_; rintro e w1 ⟨rfl, hL⟩)
    obtain ⟨F, p, nn⟩ := new_ua w1
    have S0 := Lib.hid ((Sep.begin hL).lay1 ((Below.refl w1.heap.size w1).alloc (Nat.le_refl _) _) p nn)
    clear p nn
    go_upto_region 5 with fail
    obtain ⟨h, hh⟩ : ∃ h, h = w1.heap.size := ⟨_, rfl⟩
    rw [← hh] at S0 ⊢
    obtain ⟨w2, hw2⟩ : ∃ w2, w2 = w1.alloc (.cells uz 28) := ⟨_, rfl⟩
    rw [← hw2] at S0 ⊢
    clear hw2 hh hL
    have HA := Lib.hid hA; clear hA
    go_wp2_with fail
    go_loopw [7] (fun i wr => ∃ c : Nat, c ≤ m ∧ i = .int .i64 c ∧ Sep W wr (Ua h (seqL (min c 16)) []) nought nought nought) (fun i _ => m - (intOf i).toNat)
    case atStart => exact ⟨0, Nat.zero_le _, rfl, S0.out⟩
    case round =>
      clear S0
      obtain ⟨c, hc, rfl, S⟩ := hrel
      have S := Lib.hid S
      by_cases hcm : c < m
      · have hsi := Lib.hid (seq_in c (by omega))
        have hro := seq_room c
        by_cases h16 : c < 16
        · have HD : Hid (decide ((seqL (min c 16)).length < 16) = true) := decide_eq_true (hro.2 h16)
          have hI : (c : Int) < 16 := by omega
          clear hro
          go_wp2_with (go_at_call 6; refine (S.out.call1 (in_says _ _ _ _)).mono ?_; rintro e w3 ⟨rfl, S3⟩; rw [hsi.out] at S3; rw [HD.out]; have S3 := Lib.hid S3)
          go_roundw
          case rel => exact ⟨c + 1, hcm, by go_num, S3.out⟩
          case measure => simp [intOf]; omega
        · have HD : Hid (decide ((seqL (min c 16)).length < 16) = false) := decide_eq_false fun h => h16 (hro.1 h)
          have hI : ¬ (c : Int) < 16 := by omega
          clear hro
          go_wp2_with (go_at_call 6; refine (S.out.call1 (in_says _ _ _ _)).mono ?_; rintro e w3 ⟨rfl, S3⟩; rw [hsi.out] at S3; rw [HD.out]; have S3 := Lib.hid S3)
          go_roundw
          case rel => exact ⟨c + 1, hcm, by go_num, S3.out⟩
          case measure => simp [intOf]; omega
      · obtain rfl : c = m := by omega
        obtain ⟨k, hk, hkm, S2⟩ : ∃ k : Nat, k ≤ 16 ∧ ((c ≤ 16 ∧ k = c) ∨ (16 < c ∧ k = 16)) ∧ Hid (Sep W wr (Ua h (seqL k) []) nought nought nought) :=
          ⟨min c 16, by omega, by omega, S⟩
        clear S hcm
        rcases hkm with ⟨h1, rfl⟩ | ⟨h1, h2⟩
        · have hI : ¬ (16 : Int) < (k : Int) := by omega
          go_upto_region 12 with fail
          clear hI h1
          go_wp2_with fail
          go_loopw [8] (fun i wr => ∃ j : Nat, j ≤ k ∧ i = .int .i64 j ∧ Sep W wr (Ua h ((seqL k).drop j) []) nought nought nought) (fun i _ => k - (intOf i).toNat)
          case atStart => exact ⟨0, Nat.zero_le _, rfl, S2.out⟩
          case round =>
            clear S2
            obtain ⟨j, hj, rfl, S⟩ := hrel
            have S := Lib.hid S
            by_cases hjk : j < k
            · have L8 := Lib.hid (load8 k j hjk)
              have L4 := Lib.hid (load4 k j hjk)
              have R4 := Lib.hid (seq_load k j hjk).2.2
              have R8 := Lib.hid (ulr8 ((seqL k).drop j))
              go_upto_region 16 with (go_at_call 9; go_loud (refine (S.out.call1 (load_says _ _ _ 8 (by omega))).mono ?_; rintro e w3 ⟨rfl, S3⟩; rw [R8.out] at S3; rw [L8.out]; have S3 := Lib.hid S3))
              go_wp2_with (go_at_call 9; go_loud (refine (S3.out.call1 (load_says _ _ _ 4 (by omega))).mono ?_; rintro e w4 ⟨rfl, S4⟩; rw [R4.out] at S4; rw [L4.out]; have S4 := Lib.hid S4))
              go_roundw
              case rel => exact ⟨j + 1, hjk, by go_num, S4.out⟩
              case measure => simp [intOf]; omega
            · obtain rfl : j = k := by omega
              have hN : (seqL j).drop j = [] := List.drop_of_length_le (by rw [seqL_length]; omega)
              rw [hN] at S
              clear hjk hN
              go_upto_region 19 with fail
              go_wp2_with fail
              go_loopw [13] (fun i wr => ∃ q : Nat, q ≤ len ∧ i = .int .i64 q ∧ Sep W wr (Ua h [] (outL f q)) nought nought nought) (fun i _ => len - (intOf i).toNat)
              case atStart => exact ⟨0, Nat.zero_le _, rfl, S.out⟩
              case round =>
                clear S
                obtain ⟨q, hq, rfl, S⟩ := hrel
                have S := Lib.hid S
                by_cases hql : q < len
                · obtain ⟨b, off, rfl, hc⟩ := HA.out.cell S.out.b q hql
                  have hqI : (q : Int) < (len : Int) := by omega
                  have O1 := Lib.hid (out_succ f q)
                  have O4 := Lib.hid (out_else (outL f (q + 1)) 4 99 (.inl rfl))
                  have O8 := Lib.hid (out_else (outL f (q + 1)) 8 98 (.inr rfl))
                  have OL := Lib.hid (out_length f q)
                  have OL2 := Lib.hid (out_length f (q + 1))
                  go_upto_region 23 with (go_at_call 7; go_loud (refine (S.out.call1 (store_says _ _ _ 0 _ (by omega) (by rw [OL.out]; omega))).mono ?_; rintro e w3 ⟨rfl, S3⟩; rw [O1.out] at S3; have S3 := Lib.hid S3))
                  go_upto_region 24 with (go_at_call 7; go_loud (refine (S3.out.call1 (store_says _ _ _ 4 99 (by omega) (by rw [OL2.out]; omega))).mono ?_; rintro e w4 ⟨rfl, S4⟩; rw [O4.out] at S4; have S4 := Lib.hid S4))
                  go_wp2_with (go_at_call 7; go_loud (refine (S4.out.call1 (store_says _ _ _ 8 98 (by omega) (by rw [OL2.out]; omega))).mono ?_; rintro e w5 ⟨rfl, S5⟩; rw [O8.out] at S5; have S5 := Lib.hid S5))
                  go_roundw
                  case rel => exact ⟨q + 1, hql, by go_num, S5.out⟩
                  case measure => simp [intOf]; omega
                · obtain rfl : q = len := by omega
                  clear hql
                  have OL := Lib.hid (out_length f q)
                  go_upto_region 26 with (go_at_call 14; go_loud (refine (S.out.out1 (by rw [OL.out]; omega)).mono ?_; rintro e w3 ⟨p', c', rfl, ho, hb, S3⟩; rw [OL.out] at ho; rw [OL.out]))
                  have S3 := Lib.hid S3; have HO := Lib.hid ho; have HB := Lib.hid hb
                  clear S ho hb
                  go_upto_region 28 with fail
                  go_wp2_with fail
                  go_loopw [15] (fun i wr => ∃ g : Nat, g ≤ q ∧ i = .int .i64 g ∧ Below w3.heap.size w3 wr) (fun i _ => q - (intOf i).toNat)
                  case atStart => exact ⟨0, Nat.zero_le _, rfl, Below.refl _ _⟩
                  case round =>
                    obtain ⟨g, hg, rfl, hB⟩ := hrel
                    by_cases hgq : g < q
                    · have hw := own_kept HO.out fun g' hg' => hB.block g' (HO.out.lt g' hg').2
                      obtain ⟨g', rfl, -, hcg, -⟩ := own_cell (xs := outL f q) (p := p') (c := c') (k := g) (by rw [OL.out]; exact hw) (by rw [OL.out]; exact hgq)
                      obtain ⟨x, hx⟩ : ∃ x, x = (outL f q)[g]'(by rw [OL.out]; exact hgq) := ⟨_, rfl⟩
                      rw [← hx] at hcg
                      rw [out_get f q g hgq] at hx
                      obtain ⟨b, off, rfl, hcf⟩ := HA.out.cell (S3.out.b.trans (hB.mono S3.out.b.size)) g hgq
                      have hm : bits .and .i64 (f g) 255 = x := by rw [hx]; exact i64_mask (f g) 8 (by decide)
                      have x0 : 0 ≤ x := by omega
                      have x1 : x < 256 := by omega
                      have hgI : (g : Int) < (q : Int) := by omega
                      have HB2 := Lib.hid hB.drew
                      clear hw hx hB
                      go_wp2_with fail
                      go_region
                      go_wp2_with fail
                      go_roundw
                      case rel => exact ⟨g + 1, hgq, by go_num, HB2.out⟩
                      case measure => simp [intOf]; omega
                    · have SW := Lib.hid (S3.out.still hB)
                      clear hB
                      go_wp2_with (go_at_call 13; go_loud (refine SW.out.wait1.mono ?_; rintro e w4 ⟨rfl, rfl⟩))
                      go_ret
                      exact ⟨rfl, SW.out.b⟩
        · have hI : (16 : Int) < (c : Int) := by omega
          go_upto_region 12 with fail
          rw [show (16 : Int) = ((k : Nat) : Int) by omega]
          clear hI h1 h2
          go_wp2_with fail
          go_loopw [8] (fun i wr => ∃ j : Nat, j ≤ k ∧ i = .int .i64 j ∧ Sep W wr (Ua h ((seqL k).drop j) []) nought nought nought) (fun i _ => k - (intOf i).toNat)
          case atStart => exact ⟨0, Nat.zero_le _, rfl, S2.out⟩
          case round =>
            clear S2
            obtain ⟨j, hj, rfl, S⟩ := hrel
            have S := Lib.hid S
            by_cases hjk : j < k
            · have L8 := Lib.hid (load8 k j hjk)
              have L4 := Lib.hid (load4 k j hjk)
              have R4 := Lib.hid (seq_load k j hjk).2.2
              have R8 := Lib.hid (ulr8 ((seqL k).drop j))
              go_upto_region 16 with (go_at_call 9; go_loud (refine (S.out.call1 (load_says _ _ _ 8 (by omega))).mono ?_; rintro e w3 ⟨rfl, S3⟩; rw [R8.out] at S3; rw [L8.out]; have S3 := Lib.hid S3))
              go_wp2_with (go_at_call 9; go_loud (refine (S3.out.call1 (load_says _ _ _ 4 (by omega))).mono ?_; rintro e w4 ⟨rfl, S4⟩; rw [R4.out] at S4; rw [L4.out]; have S4 := Lib.hid S4))
              go_roundw
              case rel => exact ⟨j + 1, hjk, by go_num, S4.out⟩
              case measure => simp [intOf]; omega
            · obtain rfl : j = k := by omega
              have hN : (seqL j).drop j = [] := List.drop_of_length_le (by rw [seqL_length]; omega)
              rw [hN] at S
              clear hjk hN
              go_upto_region 19 with fail
              go_wp2_with fail
              go_loopw [13] (fun i wr => ∃ q : Nat, q ≤ len ∧ i = .int .i64 q ∧ Sep W wr (Ua h [] (outL f q)) nought nought nought) (fun i _ => len - (intOf i).toNat)
              case atStart => exact ⟨0, Nat.zero_le _, rfl, S.out⟩
              case round =>
                clear S
                obtain ⟨q, hq, rfl, S⟩ := hrel
                have S := Lib.hid S
                by_cases hql : q < len
                · obtain ⟨b, off, rfl, hc⟩ := HA.out.cell S.out.b q hql
                  have hqI : (q : Int) < (len : Int) := by omega
                  have O1 := Lib.hid (out_succ f q)
                  have O4 := Lib.hid (out_else (outL f (q + 1)) 4 99 (.inl rfl))
                  have O8 := Lib.hid (out_else (outL f (q + 1)) 8 98 (.inr rfl))
                  have OL := Lib.hid (out_length f q)
                  have OL2 := Lib.hid (out_length f (q + 1))
                  go_upto_region 23 with (go_at_call 7; go_loud (refine (S.out.call1 (store_says _ _ _ 0 _ (by omega) (by rw [OL.out]; omega))).mono ?_; rintro e w3 ⟨rfl, S3⟩; rw [O1.out] at S3; have S3 := Lib.hid S3))
                  go_upto_region 24 with (go_at_call 7; go_loud (refine (S3.out.call1 (store_says _ _ _ 4 99 (by omega) (by rw [OL2.out]; omega))).mono ?_; rintro e w4 ⟨rfl, S4⟩; rw [O4.out] at S4; have S4 := Lib.hid S4))
                  go_wp2_with (go_at_call 7; go_loud (refine (S4.out.call1 (store_says _ _ _ 8 98 (by omega) (by rw [OL2.out]; omega))).mono ?_; rintro e w5 ⟨rfl, S5⟩; rw [O8.out] at S5; have S5 := Lib.hid S5))
                  go_roundw
                  case rel => exact ⟨q + 1, hql, by go_num, S5.out⟩
                  case measure => simp [intOf]; omega
                · obtain rfl : q = len := by omega
                  clear hql
                  have OL := Lib.hid (out_length f q)
                  go_upto_region 26 with (go_at_call 14; go_loud (refine (S.out.out1 (by rw [OL.out]; omega)).mono ?_; rintro e w3 ⟨p', c', rfl, ho, hb, S3⟩; rw [OL.out] at ho; rw [OL.out]))
                  have S3 := Lib.hid S3; have HO := Lib.hid ho; have HB := Lib.hid hb
                  clear S ho hb
                  go_upto_region 28 with fail
                  go_wp2_with fail
                  go_loopw [15] (fun i wr => ∃ g : Nat, g ≤ q ∧ i = .int .i64 g ∧ Below w3.heap.size w3 wr) (fun i _ => q - (intOf i).toNat)
                  case atStart => exact ⟨0, Nat.zero_le _, rfl, Below.refl _ _⟩
                  case round =>
                    obtain ⟨g, hg, rfl, hB⟩ := hrel
                    by_cases hgq : g < q
                    · have hw := own_kept HO.out fun g' hg' => hB.block g' (HO.out.lt g' hg').2
                      obtain ⟨g', rfl, -, hcg, -⟩ := own_cell (xs := outL f q) (p := p') (c := c') (k := g) (by rw [OL.out]; exact hw) (by rw [OL.out]; exact hgq)
                      obtain ⟨x, hx⟩ : ∃ x, x = (outL f q)[g]'(by rw [OL.out]; exact hgq) := ⟨_, rfl⟩
                      rw [← hx] at hcg
                      rw [out_get f q g hgq] at hx
                      obtain ⟨b, off, rfl, hcf⟩ := HA.out.cell (S3.out.b.trans (hB.mono S3.out.b.size)) g hgq
                      have hm : bits .and .i64 (f g) 255 = x := by rw [hx]; exact i64_mask (f g) 8 (by decide)
                      have x0 : 0 ≤ x := by omega
                      have x1 : x < 256 := by omega
                      have hgI : (g : Int) < (q : Int) := by omega
                      have HB2 := Lib.hid hB.drew
                      clear hw hx hB
                      go_wp2_with fail
                      go_region
                      go_wp2_with fail
                      go_roundw
                      case rel => exact ⟨g + 1, hgq, by go_num, HB2.out⟩
                      case measure => simp [intOf]; omega
                    · have SW := Lib.hid (S3.out.still hB)
                      clear hB
                      go_wp2_with (go_at_call 13; go_loud (refine SW.out.wait1.mono ?_; rintro e w4 ⟨rfl, rfl⟩))
                      go_ret
                      exact ⟨rfl, SW.out.b⟩
  · have HS := Lib.hid hs; clear hs
    go_enter Try.func4, Try.ntmps4
    go_wp2_with (first
      | (go_at_call 5; refine (alive7_says _).mono ?_; rintro e w1 ⟨rfl, hL⟩))
    all_goals first
      | (go_ret; exact ⟨rfl, hL⟩)
      | exact (HS.out (by omega)).elim
end Go.Proofs.Ytpgnoogjibcccaa.Ser
