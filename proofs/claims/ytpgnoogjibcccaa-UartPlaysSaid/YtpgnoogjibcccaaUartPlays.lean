/-
  The walk of law UartPlays.
-/
import Derived.Test.YtpgnoogjibcccaaUartPK
import Derived.Lib.EndianBits
namespace Go.Proofs.Ytpgnoogjibcccaa.Ser
open Go.Proofs.Ytpgnoogjibcccaa
open Go.ChangeShapes Go.WideShapes Go.ChangeAt Go.RowKit
set_option maxRecDepth 100000 in
set_option maxHeartbeats 4000000 in
theorem plays_walk {W : World} (lp : Option Addr) (len cap : Nat) (f : Nat → A3) (hA : Acts7 W lp len f) (hmx : len ≤ 9223372036854775807) :
    Calls Try.prog 3 #[.slice lp len cap] W fun e w' => e = .returned (.bool true) ∧ Below W.heap.size W w' := by
  by_cases hs : (len : Int) ≤ 300
  · have HA := Lib.hid hA; clear hA
    go_enter Try.func3, Try.ntmps3
    go_upto_region 4 with (go_at_call 5; refine (alive7_says _).mono ?_; rintro e w1 ⟨rfl, hL⟩)
    go_upto_region 5 with fail
    obtain ⟨F, p, nn⟩ := new_ua w1
    have S1 := Lib.hid ((Sep.begin hL).lay1 ((Below.refl w1.heap.size w1).alloc (Nat.le_refl _) _) p nn)
    obtain ⟨hu, hhu⟩ : ∃ h, h = w1.heap.size := ⟨_, rfl⟩
    obtain ⟨w2, hw2⟩ : ∃ w2, w2 = w1.alloc (.cells uz 28) := ⟨_, rfl⟩
    rw [← hhu] at S1 ⊢
    rw [← hw2] at S1 ⊢
    clear p nn hhu hw2 hL
    go_upto_region 6 with fail
    obtain ⟨F2, p, nn⟩ := new_ua w2
    have S2 := Lib.hid (S1.out.lay2 ((Below.refl w2.heap.size w2).alloc (Nat.le_refl _) _) p nn)
    obtain ⟨ho, hho⟩ : ∃ h, h = w2.heap.size := ⟨_, rfl⟩
    obtain ⟨w3, hw3⟩ : ∃ w3, w3 = w2.alloc (.cells uz 28) := ⟨_, rfl⟩
    rw [← hho] at S2 ⊢
    rw [← hw3] at S2 ⊢
    clear p nn hho hw3 S1
    go_upto_region 7 with fail
    obtain ⟨F3, p, nn⟩ := new_ru w3
    have S3 := Lib.hid (S2.out.lay3 ((Below.refl w3.heap.size w3).alloc (Nat.le_refl _) _) p nn)
    obtain ⟨hr, hhr⟩ : ∃ h, h = w3.heap.size := ⟨_, rfl⟩
    obtain ⟨w4, hw4⟩ : ∃ w4, w4 = w3.alloc (.cells #[.slice none 0 0, .slice none 0 0] 31) := ⟨_, rfl⟩
    rw [← hhr] at S3 ⊢
    rw [← hw4] at S3 ⊢
    clear p nn hhr hw4 S2
    go_wp2_with fail
    go_loopw [7] (fun x wr => ∃ (i : Nat) (rx tx rxo txo : List Int), i ≤ len ∧ x = .int .i64 i ∧ tx.length ≤ i ∧ txo.length ≤ i ∧ Sep W wr (Ua hu rx tx) (Ua ho rxo txo) (Ru hr rx tx) nought) (fun x _ => len - (intOf x).toNat)
    case atStart => exact ⟨0, [], [], [], [], Nat.zero_le _, rfl, Nat.le_refl _, Nat.le_refl _, S3.out⟩
    case round =>
      clear S3
      obtain ⟨i, rx, tx, rxo, txo, hi, rfl, ht, hto, S⟩ := hrel
      have S := Lib.hid S; have HT := Lib.hid ht; have HTO := Lib.hid hto
      clear ht hto
      by_cases hil : i < len
      · obtain ⟨b, off, rfl, c0, c1, c2⟩ := HA.out.cell S.out.b i hil
        have hwf := HA.out.wf i hil
        obtain ⟨way, off', v, hfi⟩ : ∃ way off' v, f i = (way, off', v) := ⟨_, _, _, rfl⟩
        rw [hfi] at c0 c1 c2 hwf
        dsimp only at c0 c1 c2 hwf
        have hiI : (i : Int) < (len : Int) := by omega
        go_upto_region 11 with fail
        have SB := Lib.hid (S.out.layBox (way, off', v))
        obtain ⟨A, hAe⟩ : ∃ A, A = wr.heap.size := ⟨_, rfl⟩
        obtain ⟨w5, hw5⟩ : ∃ w5, w5 = wr.alloc (.cells #[.int .i64 way, .int .i64 off', .int .i64 v] 33) := ⟨_, rfl⟩
        rw [← hAe] at SB ⊢
        dsimp only at SB
        rw [← hw5] at SB ⊢
        clear hw5 hAe c0 c1 c2 S hfi
        go_upto_region 12 with (go_at_call 6; go_loud (refine (SB.out.call2 (in_says _ _ _ _)).mono ?_; rintro e w6 ⟨rfl, S6⟩; have S6 := Lib.hid S6))
        go_upto_region 13 with (go_at_call 7; go_loud (refine (S6.out.call2 (store_says _ _ _ 0 _ (by omega) (by have := HTO.out; omega))).mono ?_; rintro e w7 ⟨rfl, S7⟩; have S7 := Lib.hid S7))
        replace HTO : Hid ((ust txo 0 i).length ≤ i + 1) := by have h1 := ust_len txo 0 i; have h2 := HTO.out; unfold Hid; omega
        obtain ⟨d0, d1, d2⟩ := S7.out.box
        dsimp only at d0 d1 d2
        by_cases hw0 : way = 0
        · subst hw0
          clear SB S6 d1
          go_upto_region 17 with fail
          obtain ⟨d, hd⟩ : ∃ d, decide (rx.length < 16) = d := ⟨_, rfl⟩
          have HD := Lib.hid hd
          have SS := Lib.hid S7.out.drew
          clear S7 hd d0
          have hS0 : w7.drew.cell? ⟨A, 2, none⟩ = some (i64 v) := SS.out.box.2.2
          refine wp_region_held_drew (S := (fun u => u.cell? ⟨A, 2, none⟩ = some (i64 v))) (by kernel_rfl) ?_ (fun hH0 => ?_)
          · ((try dsimp only); exact SS.out.box.2.2)
          refine wpAnyH_take (i := 0) (oi := { dst := some 56, op := Go.Op.move (Go.Operand.tmp 4), type := 24, pos := "law.go:36", after := #[], guard := none }) (v := ?_) rfl (by kernel_rfl) (by kernel_rfl) (by kernel_rfl) (fun _ _ _ h => h) (Or.inl ⟨by rfl, ?_⟩) (by assumption) ?_
          rotate_left
          · ((intro w hSw; (try dsimp only at hSw); go_simp) <;> (with_reducible rfl))
          try simp only [Act.put, List.setIfInBounds_toArray, List.set_cons_zero, List.set_cons_succ]
          refine wpAnyH_take (i := 1) (oi := { dst := some 57, op := Go.Op.fieldAddr 33 (Go.Operand.tmp 8) 2, type := 0, pos := "law.go:36", after := #[], guard := none }) (v := ?_) rfl (by kernel_rfl) (by kernel_rfl) (by kernel_rfl) (fun _ _ _ h => h) (Or.inl ⟨by rfl, ?_⟩) (by assumption) ?_
          rotate_left
          · ((intro w hSw; (try dsimp only at hSw); go_simp) <;> (with_reducible rfl))
          try simp only [Act.put, List.setIfInBounds_toArray, List.set_cons_zero, List.set_cons_succ]
          refine wpAnyH_take (i := 2) (oi := { dst := some 58, op := Go.Op.load 3 (Go.Operand.tmp 57), type := 3, pos := "law.go:36", after := #[{ on := 1, ground := Go.Ground.data }], guard := none }) (v := ?_) rfl (by kernel_rfl) (by kernel_rfl) (by kernel_rfl) (fun _ _ _ h => h) (Or.inl ⟨by rfl, ?_⟩) (by assumption) ?_
          rotate_left
          · ((intro w hSw; (try dsimp only at hSw); go_simp) <;> (with_reducible rfl))
          try simp only [Act.put, List.setIfInBounds_toArray, List.set_cons_zero, List.set_cons_succ]
          refine wpAnyH_take (i := 4) (oi := { dst := some 60, op := Go.Op.move (Go.Operand.tmp 6), type := 29, pos := "law.go:36", after := #[], guard := none }) (v := ?_) rfl (by kernel_rfl) (by kernel_rfl) (by kernel_rfl) (fun _ _ _ h => h) (Or.inl ⟨by rfl, ?_⟩) (by assumption) ?_
          rotate_left
          · ((intro w hSw; (try dsimp only at hSw); go_simp) <;> (with_reducible rfl))
          try simp only [Act.put, List.setIfInBounds_toArray, List.set_cons_zero, List.set_cons_succ]
          refine wpAnyH_take (i := 5) (oi := { dst := some 61, op := Go.Op.fieldAddr 33 (Go.Operand.tmp 8) 2, type := 0, pos := "law.go:36", after := #[], guard := none }) (v := ?_) rfl (by kernel_rfl) (by kernel_rfl) (by kernel_rfl) (fun _ _ _ h => h) (Or.inl ⟨by rfl, ?_⟩) (by assumption) ?_
          rotate_left
          · ((intro w hSw; (try dsimp only at hSw); go_simp) <;> (with_reducible rfl))
          try simp only [Act.put, List.setIfInBounds_toArray, List.set_cons_zero, List.set_cons_succ]
          refine wpAnyH_take (i := 6) (oi := { dst := some 62, op := Go.Op.load 3 (Go.Operand.tmp 61), type := 3, pos := "law.go:36", after := #[{ on := 5, ground := Go.Ground.data }], guard := none }) (v := ?_) rfl (by kernel_rfl) (by kernel_rfl) (by kernel_rfl) (fun _ _ _ h => h) (Or.inl ⟨by rfl, ?_⟩) (by assumption) ?_
          rotate_left
          · ((intro w hSw; (try dsimp only at hSw); go_simp) <;> (with_reducible rfl))
          try simp only [Act.put, List.setIfInBounds_toArray, List.set_cons_zero, List.set_cons_succ]
          refine wpAnyH_ready (rs := [3]) (by kernel_rfl) (by simp) ?_
          refine AllReadyH.cons (o := { dst := some 59, op := Go.Op.call { callee := Go.Callee.value (Go.Operand.func 6), args := #[Go.Operand.tmp 56, Go.Operand.tmp 58], argTypes := #[24, 3] }, type := 4, pos := "law.go:36", after := #[{ on := 0, ground := Go.Ground.data }, { on := 2, ground := Go.Ground.data }], guard := none }) rfl (fun K hK => ?_) AllReadyH.nil
          go_simp
          (first | (go_at_call 6; refine (SS.out.call1 (in_says _ _ _ _)).mono ?_; rintro e t' ⟨rfl, S'⟩; replace SS := Lib.hid S'; rw [HD.out]) | (go_at_call 8; refine (SS.out.call3 (rin_says _ _ _ _)).mono ?_; rintro e t' ⟨rfl, S'⟩; replace SS := Lib.hid S'; rw [HD.out]))
          refine hK.out _ _ ?_ (fun hH1 => ?_)
          · ((try dsimp only); exact SS.out.box.2.2)
          clear hK K hH0
          try simp only [Act.put, List.setIfInBounds_toArray, List.set_cons_zero, List.set_cons_succ]
          refine wpAnyH_ready (rs := [7]) (by kernel_rfl) (by simp) ?_
          refine AllReadyH.cons (o := { dst := some 63, op := Go.Op.call { callee := Go.Callee.value (Go.Operand.func 8), args := #[Go.Operand.tmp 60, Go.Operand.tmp 62], argTypes := #[29, 3] }, type := 4, pos := "law.go:36", after := #[{ on := 4, ground := Go.Ground.data }, { on := 6, ground := Go.Ground.data }, { on := 3, ground := Go.Ground.chain }], guard := none }) rfl (fun K hK => ?_) AllReadyH.nil
          go_simp
          (first | (go_at_call 6; refine (SS.out.call1 (in_says _ _ _ _)).mono ?_; rintro e t' ⟨rfl, S'⟩; replace SS := Lib.hid S'; rw [HD.out]) | (go_at_call 8; refine (SS.out.call3 (rin_says _ _ _ _)).mono ?_; rintro e t' ⟨rfl, S'⟩; replace SS := Lib.hid S'; rw [HD.out]))
          refine hK.out _ _ ?_ (fun hH2 => ?_)
          · ((try dsimp only); exact SS.out.box.2.2)
          clear hK K hH1
          try simp only [Act.put, List.setIfInBounds_toArray, List.set_cons_zero, List.set_cons_succ]
          refine wpAnyH_take (i := 8) (oi := { dst := some 64, op := Go.Op.binOp Go.BinOp.neq 4 (Go.Operand.tmp 59) (Go.Operand.tmp 63) 4, type := 4, pos := "law.go:36", after := #[{ on := 3, ground := Go.Ground.data }, { on := 7, ground := Go.Ground.data }], guard := none }) (v := ?_) rfl (by kernel_rfl) (by kernel_rfl) (by kernel_rfl) (fun _ _ _ h => h) (Or.inl ⟨by rfl, ?_⟩) (by assumption) ?_
          rotate_left
          · ((intro w hSw; (try dsimp only at hSw); go_simp) <;> (with_reducible rfl))
          try simp only [Act.put, List.setIfInBounds_toArray, List.set_cons_zero, List.set_cons_succ]
          refine wpAnyH_done (by kernel_rfl) ?_ _
          go_upto_region 27 with fail
          clear hS0 d2
          obtain ⟨rx2, tx2, rxo2, txo2, ax, ht2, hto2, S8⟩ : ∃ rx2 tx2 rxo2 txo2 ax, Hid (tx2.length ≤ i + 1) ∧ Hid (txo2.length ≤ i + 1) ∧ Hid (Sep W t'.drew (Ua hu rx2 tx2) (Ua ho rxo2 txo2) (Ru hr rx2 tx2) (Box A ax)) := ⟨_, _, _, _, _, (by unfold Hid; have := HT.out; omega), HTO, Lib.hid SS.out.drew⟩
          obtain ⟨p27, c27, hc27⟩ := S8.out.rx3
          obtain ⟨n27, hn27⟩ : ∃ n, rx2.length = n := ⟨_, rfl⟩
          rw [hn27] at hc27
          have HN27 := Lib.hid hn27
          clear hn27
          refine wp_region_held_drew (S := (fun u => u.cell? ⟨hr, 0, none⟩ = some (.slice p27 n27 c27))) (by kernel_rfl) ?_ (fun hH0 => ?_)
          · ((try dsimp only); first | exact hc27 | assumption)
          refine wpAnyH_take (i := 0) (oi := { dst := some 104, op := Go.Op.move (Go.Operand.tmp 4), type := 24, pos := "law.go:53", after := #[], guard := none }) (v := ?_) rfl (by kernel_rfl) (by kernel_rfl) (by kernel_rfl) (fun _ _ _ h => h) (Or.inl ⟨by rfl, ?_⟩) (by assumption) ?_
          rotate_left
          · ((intro w hSw; (try dsimp only at hSw); go_simp) <;> (with_reducible rfl))
          try simp only [Act.put, List.setIfInBounds_toArray, List.set_cons_zero, List.set_cons_succ]
          refine wpAnyH_take (i := 2) (oi := { dst := some 106, op := Go.Op.move (Go.Operand.tmp 6), type := 29, pos := "law.go:53", after := #[], guard := none }) (v := ?_) rfl (by kernel_rfl) (by kernel_rfl) (by kernel_rfl) (fun _ _ _ h => h) (Or.inl ⟨by rfl, ?_⟩) (by assumption) ?_
          rotate_left
          · ((intro w hSw; (try dsimp only at hSw); go_simp) <;> (with_reducible rfl))
          try simp only [Act.put, List.setIfInBounds_toArray, List.set_cons_zero, List.set_cons_succ]
          refine wpAnyH_take (i := 3) (oi := { dst := some 107, op := Go.Op.nilCheck (Go.Operand.tmp 106), type := 0, pos := "law.go:53", after := #[{ on := 2, ground := Go.Ground.data }], guard := none }) (v := ?_) rfl (by kernel_rfl) (by kernel_rfl) (by kernel_rfl) (fun _ _ _ h => h) (Or.inl ⟨by rfl, ?_⟩) (by assumption) ?_
          rotate_left
          · ((intro w hSw; (try dsimp only at hSw); go_simp) <;> (with_reducible rfl))
          try simp only [Act.put, List.setIfInBounds_toArray, List.set_cons_zero, List.set_cons_succ]
          refine wpAnyH_take (i := 4) (oi := { dst := some 108, op := Go.Op.fieldAddr 31 (Go.Operand.tmp 107) 0, type := 0, pos := "law.go:53", after := #[{ on := 3, ground := Go.Ground.data }], guard := none }) (v := ?_) rfl (by kernel_rfl) (by kernel_rfl) (by kernel_rfl) (fun _ _ _ h => h) (Or.inl ⟨by rfl, ?_⟩) (by assumption) ?_
          rotate_left
          · ((intro w hSw; (try dsimp only at hSw); go_simp) <;> (with_reducible rfl))
          try simp only [Act.put, List.setIfInBounds_toArray, List.set_cons_zero, List.set_cons_succ]
          refine wpAnyH_take (i := 5) (oi := { dst := some 109, op := Go.Op.load 26 (Go.Operand.tmp 108), type := 26, pos := "law.go:53", after := #[{ on := 4, ground := Go.Ground.data }], guard := none }) (v := ?_) rfl (by kernel_rfl) (by kernel_rfl) (by kernel_rfl) (fun _ _ _ h => h) (Or.inl ⟨by rfl, ?_⟩) (by assumption) ?_
          rotate_left
          · ((intro w hSw; (try dsimp only at hSw); go_simp) <;> (with_reducible rfl))
          try simp only [Act.put, List.setIfInBounds_toArray, List.set_cons_zero, List.set_cons_succ]
          refine wpAnyH_take (i := 6) (oi := { dst := some 110, op := Go.Op.call { callee := Go.Callee.builtin Go.Builtin.len, args := #[Go.Operand.tmp 109], argTypes := #[26] }, type := 3, pos := "law.go:53", after := #[{ on := 5, ground := Go.Ground.data }], guard := none }) (v := ?_) rfl (by kernel_rfl) (by kernel_rfl) (by kernel_rfl) (fun _ _ _ h => h) (Or.inl ⟨by rfl, ?_⟩) (by assumption) ?_
          rotate_left
          · ((intro w hSw; (try dsimp only at hSw); go_simp) <;> (with_reducible rfl))
          try simp only [Act.put, List.setIfInBounds_toArray, List.set_cons_zero, List.set_cons_succ]
          refine wpAnyH_ready (rs := [1]) (by kernel_rfl) (by simp) ?_
          refine AllReadyH.cons (o := { dst := some 105, op := Go.Op.call { callee := Go.Callee.value (Go.Operand.func 13), args := #[Go.Operand.tmp 104], argTypes := #[24] }, type := 3, pos := "law.go:53", after := #[{ on := 0, ground := Go.Ground.data }], guard := none }) rfl (fun K hK => ?_) AllReadyH.nil
          go_simp
          (go_at_call 13; refine S8.out.wait1.mono ?_; rintro e t' ⟨rfl, rfl⟩; rw [HN27.out])
          refine hK.out _ _ ?_ (fun hH1 => ?_)
          · ((try dsimp only); first | exact hc27 | assumption)
          clear hK K hH0
          try simp only [Act.put, List.setIfInBounds_toArray, List.set_cons_zero, List.set_cons_succ]
          refine wpAnyH_take (i := 7) (oi := { dst := some 111, op := Go.Op.binOp Go.BinOp.neq 3 (Go.Operand.tmp 105) (Go.Operand.tmp 110) 3, type := 4, pos := "law.go:53", after := #[{ on := 1, ground := Go.Ground.data }, { on := 6, ground := Go.Ground.data }], guard := none }) (v := ?_) rfl (by kernel_rfl) (by kernel_rfl) (by kernel_rfl) (fun _ _ _ h => h) (Or.inl ⟨by rfl, ?_⟩) (by assumption) ?_
          rotate_left
          · ((intro w hSw; (try dsimp only at hSw); go_simp) <;> (with_reducible rfl))
          try simp only [Act.put, List.setIfInBounds_toArray, List.set_cons_zero, List.set_cons_succ]
          refine wpAnyH_done (by kernel_rfl) ?_ _
          go_wp2_with fail
          go_roundw
          case rel => exact ⟨i + 1, rx2, tx2, rxo2, txo2, hil, by go_num, ht2.out, hto2.out, S8.out.drop4⟩
          case measure => simp [intOf]; omega
        · by_cases hw1 : way = 1
          · subst hw1
            clear SB S6 hw0
            obtain ⟨x, hx⟩ : ∃ x, ulv rx off' = x := ⟨_, rfl⟩
            obtain ⟨k, hk⟩ : ∃ k, uok off' = k := ⟨_, rfl⟩
            have HX := Lib.hid hx; have HK := Lib.hid hk; clear hx hk
            go_upto_region 21 with (go_at_call 9; go_loud (refine (S7.out.call1 (load_says _ _ _ _ hwf)).mono ?_; rintro e w8 ⟨rfl, S8⟩; rw [HX.out, HK.out]; obtain ⟨-, e1, -⟩ := S8.box; dsimp only at e1; have S8 := Lib.hid S8))
            go_upto_region 22 with (go_at_call 10; go_loud (refine (S8.out.call3 (rload_says _ _ _ _)).mono ?_; rintro e w9 ⟨rfl, S9⟩; rw [HX.out, HK.out]; have S9 := Lib.hid S9))
            go_upto_region 27 with fail
            clear S7 S8 e1 d0 d1 d2
            obtain ⟨rx2, tx2, rxo2, txo2, ax, ht2, hto2, S8⟩ : ∃ rx2 tx2 rxo2 txo2 ax, Hid (tx2.length ≤ i + 1) ∧ Hid (txo2.length ≤ i + 1) ∧ Hid (Sep W w9.drew (Ua hu rx2 tx2) (Ua ho rxo2 txo2) (Ru hr rx2 tx2) (Box A ax)) := ⟨_, _, _, _, _, (by unfold Hid; have := HT.out; omega), HTO, Lib.hid S9.out.drew⟩
            obtain ⟨p27, c27, hc27⟩ := S8.out.rx3
            obtain ⟨n27, hn27⟩ : ∃ n, rx2.length = n := ⟨_, rfl⟩
            rw [hn27] at hc27
            have HN27 := Lib.hid hn27
            clear hn27
            refine wp_region_held_drew (S := (fun u => u.cell? ⟨hr, 0, none⟩ = some (.slice p27 n27 c27))) (by kernel_rfl) ?_ (fun hH0 => ?_)
            · ((try dsimp only); first | exact hc27 | assumption)
            refine wpAnyH_take (i := 0) (oi := { dst := some 104, op := Go.Op.move (Go.Operand.tmp 4), type := 24, pos := "law.go:53", after := #[], guard := none }) (v := ?_) rfl (by kernel_rfl) (by kernel_rfl) (by kernel_rfl) (fun _ _ _ h => h) (Or.inl ⟨by rfl, ?_⟩) (by assumption) ?_
            rotate_left
            · ((intro w hSw; (try dsimp only at hSw); go_simp) <;> (with_reducible rfl))
            try simp only [Act.put, List.setIfInBounds_toArray, List.set_cons_zero, List.set_cons_succ]
            refine wpAnyH_take (i := 2) (oi := { dst := some 106, op := Go.Op.move (Go.Operand.tmp 6), type := 29, pos := "law.go:53", after := #[], guard := none }) (v := ?_) rfl (by kernel_rfl) (by kernel_rfl) (by kernel_rfl) (fun _ _ _ h => h) (Or.inl ⟨by rfl, ?_⟩) (by assumption) ?_
            rotate_left
            · ((intro w hSw; (try dsimp only at hSw); go_simp) <;> (with_reducible rfl))
            try simp only [Act.put, List.setIfInBounds_toArray, List.set_cons_zero, List.set_cons_succ]
            refine wpAnyH_take (i := 3) (oi := { dst := some 107, op := Go.Op.nilCheck (Go.Operand.tmp 106), type := 0, pos := "law.go:53", after := #[{ on := 2, ground := Go.Ground.data }], guard := none }) (v := ?_) rfl (by kernel_rfl) (by kernel_rfl) (by kernel_rfl) (fun _ _ _ h => h) (Or.inl ⟨by rfl, ?_⟩) (by assumption) ?_
            rotate_left
            · ((intro w hSw; (try dsimp only at hSw); go_simp) <;> (with_reducible rfl))
            try simp only [Act.put, List.setIfInBounds_toArray, List.set_cons_zero, List.set_cons_succ]
            refine wpAnyH_take (i := 4) (oi := { dst := some 108, op := Go.Op.fieldAddr 31 (Go.Operand.tmp 107) 0, type := 0, pos := "law.go:53", after := #[{ on := 3, ground := Go.Ground.data }], guard := none }) (v := ?_) rfl (by kernel_rfl) (by kernel_rfl) (by kernel_rfl) (fun _ _ _ h => h) (Or.inl ⟨by rfl, ?_⟩) (by assumption) ?_
            rotate_left
            · ((intro w hSw; (try dsimp only at hSw); go_simp) <;> (with_reducible rfl))
            try simp only [Act.put, List.setIfInBounds_toArray, List.set_cons_zero, List.set_cons_succ]
            refine wpAnyH_take (i := 5) (oi := { dst := some 109, op := Go.Op.load 26 (Go.Operand.tmp 108), type := 26, pos := "law.go:53", after := #[{ on := 4, ground := Go.Ground.data }], guard := none }) (v := ?_) rfl (by kernel_rfl) (by kernel_rfl) (by kernel_rfl) (fun _ _ _ h => h) (Or.inl ⟨by rfl, ?_⟩) (by assumption) ?_
            rotate_left
            · ((intro w hSw; (try dsimp only at hSw); go_simp) <;> (with_reducible rfl))
            try simp only [Act.put, List.setIfInBounds_toArray, List.set_cons_zero, List.set_cons_succ]
            refine wpAnyH_take (i := 6) (oi := { dst := some 110, op := Go.Op.call { callee := Go.Callee.builtin Go.Builtin.len, args := #[Go.Operand.tmp 109], argTypes := #[26] }, type := 3, pos := "law.go:53", after := #[{ on := 5, ground := Go.Ground.data }], guard := none }) (v := ?_) rfl (by kernel_rfl) (by kernel_rfl) (by kernel_rfl) (fun _ _ _ h => h) (Or.inl ⟨by rfl, ?_⟩) (by assumption) ?_
            rotate_left
            · ((intro w hSw; (try dsimp only at hSw); go_simp) <;> (with_reducible rfl))
            try simp only [Act.put, List.setIfInBounds_toArray, List.set_cons_zero, List.set_cons_succ]
            refine wpAnyH_ready (rs := [1]) (by kernel_rfl) (by simp) ?_
            refine AllReadyH.cons (o := { dst := some 105, op := Go.Op.call { callee := Go.Callee.value (Go.Operand.func 13), args := #[Go.Operand.tmp 104], argTypes := #[24] }, type := 3, pos := "law.go:53", after := #[{ on := 0, ground := Go.Ground.data }], guard := none }) rfl (fun K hK => ?_) AllReadyH.nil
            go_simp
            (go_at_call 13; refine S8.out.wait1.mono ?_; rintro e t' ⟨rfl, rfl⟩; rw [HN27.out])
            refine hK.out _ _ ?_ (fun hH1 => ?_)
            · ((try dsimp only); first | exact hc27 | assumption)
            clear hK K hH0
            try simp only [Act.put, List.setIfInBounds_toArray, List.set_cons_zero, List.set_cons_succ]
            refine wpAnyH_take (i := 7) (oi := { dst := some 111, op := Go.Op.binOp Go.BinOp.neq 3 (Go.Operand.tmp 105) (Go.Operand.tmp 110) 3, type := 4, pos := "law.go:53", after := #[{ on := 1, ground := Go.Ground.data }, { on := 6, ground := Go.Ground.data }], guard := none }) (v := ?_) rfl (by kernel_rfl) (by kernel_rfl) (by kernel_rfl) (fun _ _ _ h => h) (Or.inl ⟨by rfl, ?_⟩) (by assumption) ?_
            rotate_left
            · ((intro w hSw; (try dsimp only at hSw); go_simp) <;> (with_reducible rfl))
            try simp only [Act.put, List.setIfInBounds_toArray, List.set_cons_zero, List.set_cons_succ]
            refine wpAnyH_done (by kernel_rfl) ?_ _
            go_wp2_with fail
            go_roundw
            case rel => exact ⟨i + 1, rx2, tx2, rxo2, txo2, hil, by go_num, ht2.out, hto2.out, S8.out.drop4⟩
            case measure => simp [intOf]; omega
          · by_cases hw2 : way = 2
            · subst hw2
              clear SB S6 hw0 hw1
              go_upto_region 25 with fail
              obtain ⟨k, hk⟩ : ∃ k, uok off' = k := ⟨_, rfl⟩
              have HK := Lib.hid hk
              have SS := Lib.hid S7.out.drew
              clear S7 hk d0
              have hS0 : w7.drew.cell? ⟨A, 1, none⟩ = some (i64 off') ∧ w7.drew.cell? ⟨A, 2, none⟩ = some (i64 v) := SS.out.box.2
              have HL : Hid (tx.length < 100000) := by have := HT.out; unfold Hid; omega
              refine wp_region_held_drew (S := (fun u => u.cell? ⟨A, 1, none⟩ = some (i64 off') ∧ u.cell? ⟨A, 2, none⟩ = some (i64 v))) (by kernel_rfl) ?_ (fun hH0 => ?_)
              · ((try dsimp only); exact SS.out.box.2)
              refine wpAnyH_take (i := 0) (oi := { dst := some 91, op := Go.Op.move (Go.Operand.tmp 4), type := 24, pos := "law.go:46", after := #[], guard := none }) (v := ?_) rfl (by kernel_rfl) (by kernel_rfl) (by kernel_rfl) (fun _ _ _ h => h) (Or.inl ⟨by rfl, ?_⟩) (by assumption) ?_
              rotate_left
              · ((intro w hSw; (try dsimp only at hSw); go_simp) <;> (with_reducible rfl))
              try simp only [Act.put, List.setIfInBounds_toArray, List.set_cons_zero, List.set_cons_succ]
              refine wpAnyH_take (i := 1) (oi := { dst := some 92, op := Go.Op.fieldAddr 33 (Go.Operand.tmp 8) 1, type := 0, pos := "law.go:46", after := #[], guard := none }) (v := ?_) rfl (by kernel_rfl) (by kernel_rfl) (by kernel_rfl) (fun _ _ _ h => h) (Or.inl ⟨by rfl, ?_⟩) (by assumption) ?_
              rotate_left
              · ((intro w hSw; (try dsimp only at hSw); go_simp) <;> (with_reducible rfl))
              try simp only [Act.put, List.setIfInBounds_toArray, List.set_cons_zero, List.set_cons_succ]
              refine wpAnyH_take (i := 2) (oi := { dst := some 93, op := Go.Op.load 3 (Go.Operand.tmp 92), type := 3, pos := "law.go:46", after := #[{ on := 1, ground := Go.Ground.data }], guard := none }) (v := ?_) rfl (by kernel_rfl) (by kernel_rfl) (by kernel_rfl) (fun _ _ _ h => h) (Or.inl ⟨by rfl, ?_⟩) (by assumption) ?_
              rotate_left
              · ((intro w hSw; (try dsimp only at hSw); go_simp) <;> (with_reducible rfl))
              try simp only [Act.put, List.setIfInBounds_toArray, List.set_cons_zero, List.set_cons_succ]
              refine wpAnyH_take (i := 3) (oi := { dst := some 94, op := Go.Op.fieldAddr 33 (Go.Operand.tmp 8) 2, type := 0, pos := "law.go:46", after := #[], guard := none }) (v := ?_) rfl (by kernel_rfl) (by kernel_rfl) (by kernel_rfl) (fun _ _ _ h => h) (Or.inl ⟨by rfl, ?_⟩) (by assumption) ?_
              rotate_left
              · ((intro w hSw; (try dsimp only at hSw); go_simp) <;> (with_reducible rfl))
              try simp only [Act.put, List.setIfInBounds_toArray, List.set_cons_zero, List.set_cons_succ]
              refine wpAnyH_take (i := 4) (oi := { dst := some 95, op := Go.Op.load 3 (Go.Operand.tmp 94), type := 3, pos := "law.go:46", after := #[{ on := 3, ground := Go.Ground.data }], guard := none }) (v := ?_) rfl (by kernel_rfl) (by kernel_rfl) (by kernel_rfl) (fun _ _ _ h => h) (Or.inl ⟨by rfl, ?_⟩) (by assumption) ?_
              rotate_left
              · ((intro w hSw; (try dsimp only at hSw); go_simp) <;> (with_reducible rfl))
              try simp only [Act.put, List.setIfInBounds_toArray, List.set_cons_zero, List.set_cons_succ]
              refine wpAnyH_take (i := 6) (oi := { dst := some 97, op := Go.Op.move (Go.Operand.tmp 6), type := 29, pos := "law.go:46", after := #[], guard := none }) (v := ?_) rfl (by kernel_rfl) (by kernel_rfl) (by kernel_rfl) (fun _ _ _ h => h) (Or.inl ⟨by rfl, ?_⟩) (by assumption) ?_
              rotate_left
              · ((intro w hSw; (try dsimp only at hSw); go_simp) <;> (with_reducible rfl))
              try simp only [Act.put, List.setIfInBounds_toArray, List.set_cons_zero, List.set_cons_succ]
              refine wpAnyH_take (i := 7) (oi := { dst := some 98, op := Go.Op.fieldAddr 33 (Go.Operand.tmp 8) 1, type := 0, pos := "law.go:46", after := #[], guard := none }) (v := ?_) rfl (by kernel_rfl) (by kernel_rfl) (by kernel_rfl) (fun _ _ _ h => h) (Or.inl ⟨by rfl, ?_⟩) (by assumption) ?_
              rotate_left
              · ((intro w hSw; (try dsimp only at hSw); go_simp) <;> (with_reducible rfl))
              try simp only [Act.put, List.setIfInBounds_toArray, List.set_cons_zero, List.set_cons_succ]
              refine wpAnyH_take (i := 8) (oi := { dst := some 99, op := Go.Op.load 3 (Go.Operand.tmp 98), type := 3, pos := "law.go:46", after := #[{ on := 7, ground := Go.Ground.data }], guard := none }) (v := ?_) rfl (by kernel_rfl) (by kernel_rfl) (by kernel_rfl) (fun _ _ _ h => h) (Or.inl ⟨by rfl, ?_⟩) (by assumption) ?_
              rotate_left
              · ((intro w hSw; (try dsimp only at hSw); go_simp) <;> (with_reducible rfl))
              try simp only [Act.put, List.setIfInBounds_toArray, List.set_cons_zero, List.set_cons_succ]
              refine wpAnyH_take (i := 9) (oi := { dst := some 100, op := Go.Op.fieldAddr 33 (Go.Operand.tmp 8) 2, type := 0, pos := "law.go:46", after := #[], guard := none }) (v := ?_) rfl (by kernel_rfl) (by kernel_rfl) (by kernel_rfl) (fun _ _ _ h => h) (Or.inl ⟨by rfl, ?_⟩) (by assumption) ?_
              rotate_left
              · ((intro w hSw; (try dsimp only at hSw); go_simp) <;> (with_reducible rfl))
              try simp only [Act.put, List.setIfInBounds_toArray, List.set_cons_zero, List.set_cons_succ]
              refine wpAnyH_take (i := 10) (oi := { dst := some 101, op := Go.Op.load 3 (Go.Operand.tmp 100), type := 3, pos := "law.go:46", after := #[{ on := 9, ground := Go.Ground.data }], guard := none }) (v := ?_) rfl (by kernel_rfl) (by kernel_rfl) (by kernel_rfl) (fun _ _ _ h => h) (Or.inl ⟨by rfl, ?_⟩) (by assumption) ?_
              rotate_left
              · ((intro w hSw; (try dsimp only at hSw); go_simp) <;> (with_reducible rfl))
              try simp only [Act.put, List.setIfInBounds_toArray, List.set_cons_zero, List.set_cons_succ]
              refine wpAnyH_ready (rs := [5]) (by kernel_rfl) (by simp) ?_
              refine AllReadyH.cons (o := { dst := some 96, op := Go.Op.call { callee := Go.Callee.value (Go.Operand.func 7), args := #[Go.Operand.tmp 91, Go.Operand.tmp 93, Go.Operand.tmp 95], argTypes := #[24, 3, 3] }, type := 4, pos := "law.go:46", after := #[{ on := 0, ground := Go.Ground.data }, { on := 2, ground := Go.Ground.data }, { on := 4, ground := Go.Ground.data }], guard := none }) rfl (fun K hK => ?_) AllReadyH.nil
              go_simp
              (first | (go_at_call 7; refine (SS.out.call1 (store_says _ _ _ _ _ hwf HL.out)).mono ?_; rintro e t' ⟨rfl, S'⟩; replace SS := Lib.hid S'; rw [HK.out]) | (go_at_call 11; refine (SS.out.call3 (rstore_says _ _ _ _ _ HL.out)).mono ?_; rintro e t' ⟨rfl, S'⟩; replace SS := Lib.hid S'; rw [HK.out]))
              refine hK.out _ _ ?_ (fun hH1 => ?_)
              · ((try dsimp only); exact SS.out.box.2)
              clear hK K hH0
              try simp only [Act.put, List.setIfInBounds_toArray, List.set_cons_zero, List.set_cons_succ]
              refine wpAnyH_ready (rs := [11]) (by kernel_rfl) (by simp) ?_
              refine AllReadyH.cons (o := { dst := some 102, op := Go.Op.call { callee := Go.Callee.value (Go.Operand.func 11), args := #[Go.Operand.tmp 97, Go.Operand.tmp 99, Go.Operand.tmp 101], argTypes := #[29, 3, 3] }, type := 4, pos := "law.go:46", after := #[{ on := 6, ground := Go.Ground.data }, { on := 8, ground := Go.Ground.data }, { on := 10, ground := Go.Ground.data }, { on := 5, ground := Go.Ground.chain }], guard := none }) rfl (fun K hK => ?_) AllReadyH.nil
              go_simp
              (first | (go_at_call 7; refine (SS.out.call1 (store_says _ _ _ _ _ hwf HL.out)).mono ?_; rintro e t' ⟨rfl, S'⟩; replace SS := Lib.hid S'; rw [HK.out]) | (go_at_call 11; refine (SS.out.call3 (rstore_says _ _ _ _ _ HL.out)).mono ?_; rintro e t' ⟨rfl, S'⟩; replace SS := Lib.hid S'; rw [HK.out]))
              refine hK.out _ _ ?_ (fun hH2 => ?_)
              · ((try dsimp only); exact SS.out.box.2)
              clear hK K hH1
              try simp only [Act.put, List.setIfInBounds_toArray, List.set_cons_zero, List.set_cons_succ]
              refine wpAnyH_take (i := 12) (oi := { dst := some 103, op := Go.Op.binOp Go.BinOp.neq 4 (Go.Operand.tmp 96) (Go.Operand.tmp 102) 4, type := 4, pos := "law.go:46", after := #[{ on := 5, ground := Go.Ground.data }, { on := 11, ground := Go.Ground.data }], guard := none }) (v := ?_) rfl (by kernel_rfl) (by kernel_rfl) (by kernel_rfl) (fun _ _ _ h => h) (Or.inl ⟨by rfl, ?_⟩) (by assumption) ?_
              rotate_left
              · ((intro w hSw; (try dsimp only at hSw); go_simp) <;> (with_reducible rfl))
              try simp only [Act.put, List.setIfInBounds_toArray, List.set_cons_zero, List.set_cons_succ]
              refine wpAnyH_done (by kernel_rfl) ?_ _
              go_upto_region 27 with fail
              clear hS0 d1 d2
              obtain ⟨rx2, tx2, rxo2, txo2, ax, ht2, hto2, S8⟩ : ∃ rx2 tx2 rxo2 txo2 ax, Hid (tx2.length ≤ i + 1) ∧ Hid (txo2.length ≤ i + 1) ∧ Hid (Sep W t'.drew (Ua hu rx2 tx2) (Ua ho rxo2 txo2) (Ru hr rx2 tx2) (Box A ax)) := ⟨_, _, _, _, _, (by have h1 := ust_len tx off' v; have h2 := HT.out; unfold Hid; omega), HTO, Lib.hid SS.out.drew⟩
              obtain ⟨p27, c27, hc27⟩ := S8.out.rx3
              obtain ⟨n27, hn27⟩ : ∃ n, rx2.length = n := ⟨_, rfl⟩
              rw [hn27] at hc27
              have HN27 := Lib.hid hn27
              clear hn27
              refine wp_region_held_drew (S := (fun u => u.cell? ⟨hr, 0, none⟩ = some (.slice p27 n27 c27))) (by kernel_rfl) ?_ (fun hH0 => ?_)
              · ((try dsimp only); first | exact hc27 | assumption)
              refine wpAnyH_take (i := 0) (oi := { dst := some 104, op := Go.Op.move (Go.Operand.tmp 4), type := 24, pos := "law.go:53", after := #[], guard := none }) (v := ?_) rfl (by kernel_rfl) (by kernel_rfl) (by kernel_rfl) (fun _ _ _ h => h) (Or.inl ⟨by rfl, ?_⟩) (by assumption) ?_
              rotate_left
              · ((intro w hSw; (try dsimp only at hSw); go_simp) <;> (with_reducible rfl))
              try simp only [Act.put, List.setIfInBounds_toArray, List.set_cons_zero, List.set_cons_succ]
              refine wpAnyH_take (i := 2) (oi := { dst := some 106, op := Go.Op.move (Go.Operand.tmp 6), type := 29, pos := "law.go:53", after := #[], guard := none }) (v := ?_) rfl (by kernel_rfl) (by kernel_rfl) (by kernel_rfl) (fun _ _ _ h => h) (Or.inl ⟨by rfl, ?_⟩) (by assumption) ?_
              rotate_left
              · ((intro w hSw; (try dsimp only at hSw); go_simp) <;> (with_reducible rfl))
              try simp only [Act.put, List.setIfInBounds_toArray, List.set_cons_zero, List.set_cons_succ]
              refine wpAnyH_take (i := 3) (oi := { dst := some 107, op := Go.Op.nilCheck (Go.Operand.tmp 106), type := 0, pos := "law.go:53", after := #[{ on := 2, ground := Go.Ground.data }], guard := none }) (v := ?_) rfl (by kernel_rfl) (by kernel_rfl) (by kernel_rfl) (fun _ _ _ h => h) (Or.inl ⟨by rfl, ?_⟩) (by assumption) ?_
              rotate_left
              · ((intro w hSw; (try dsimp only at hSw); go_simp) <;> (with_reducible rfl))
              try simp only [Act.put, List.setIfInBounds_toArray, List.set_cons_zero, List.set_cons_succ]
              refine wpAnyH_take (i := 4) (oi := { dst := some 108, op := Go.Op.fieldAddr 31 (Go.Operand.tmp 107) 0, type := 0, pos := "law.go:53", after := #[{ on := 3, ground := Go.Ground.data }], guard := none }) (v := ?_) rfl (by kernel_rfl) (by kernel_rfl) (by kernel_rfl) (fun _ _ _ h => h) (Or.inl ⟨by rfl, ?_⟩) (by assumption) ?_
              rotate_left
              · ((intro w hSw; (try dsimp only at hSw); go_simp) <;> (with_reducible rfl))
              try simp only [Act.put, List.setIfInBounds_toArray, List.set_cons_zero, List.set_cons_succ]
              refine wpAnyH_take (i := 5) (oi := { dst := some 109, op := Go.Op.load 26 (Go.Operand.tmp 108), type := 26, pos := "law.go:53", after := #[{ on := 4, ground := Go.Ground.data }], guard := none }) (v := ?_) rfl (by kernel_rfl) (by kernel_rfl) (by kernel_rfl) (fun _ _ _ h => h) (Or.inl ⟨by rfl, ?_⟩) (by assumption) ?_
              rotate_left
              · ((intro w hSw; (try dsimp only at hSw); go_simp) <;> (with_reducible rfl))
              try simp only [Act.put, List.setIfInBounds_toArray, List.set_cons_zero, List.set_cons_succ]
              refine wpAnyH_take (i := 6) (oi := { dst := some 110, op := Go.Op.call { callee := Go.Callee.builtin Go.Builtin.len, args := #[Go.Operand.tmp 109], argTypes := #[26] }, type := 3, pos := "law.go:53", after := #[{ on := 5, ground := Go.Ground.data }], guard := none }) (v := ?_) rfl (by kernel_rfl) (by kernel_rfl) (by kernel_rfl) (fun _ _ _ h => h) (Or.inl ⟨by rfl, ?_⟩) (by assumption) ?_
              rotate_left
              · ((intro w hSw; (try dsimp only at hSw); go_simp) <;> (with_reducible rfl))
              try simp only [Act.put, List.setIfInBounds_toArray, List.set_cons_zero, List.set_cons_succ]
              refine wpAnyH_ready (rs := [1]) (by kernel_rfl) (by simp) ?_
              refine AllReadyH.cons (o := { dst := some 105, op := Go.Op.call { callee := Go.Callee.value (Go.Operand.func 13), args := #[Go.Operand.tmp 104], argTypes := #[24] }, type := 3, pos := "law.go:53", after := #[{ on := 0, ground := Go.Ground.data }], guard := none }) rfl (fun K hK => ?_) AllReadyH.nil
              go_simp
              (go_at_call 13; refine S8.out.wait1.mono ?_; rintro e t' ⟨rfl, rfl⟩; rw [HN27.out])
              refine hK.out _ _ ?_ (fun hH1 => ?_)
              · ((try dsimp only); first | exact hc27 | assumption)
              clear hK K hH0
              try simp only [Act.put, List.setIfInBounds_toArray, List.set_cons_zero, List.set_cons_succ]
              refine wpAnyH_take (i := 7) (oi := { dst := some 111, op := Go.Op.binOp Go.BinOp.neq 3 (Go.Operand.tmp 105) (Go.Operand.tmp 110) 3, type := 4, pos := "law.go:53", after := #[{ on := 1, ground := Go.Ground.data }, { on := 6, ground := Go.Ground.data }], guard := none }) (v := ?_) rfl (by kernel_rfl) (by kernel_rfl) (by kernel_rfl) (fun _ _ _ h => h) (Or.inl ⟨by rfl, ?_⟩) (by assumption) ?_
              rotate_left
              · ((intro w hSw; (try dsimp only at hSw); go_simp) <;> (with_reducible rfl))
              try simp only [Act.put, List.setIfInBounds_toArray, List.set_cons_zero, List.set_cons_succ]
              refine wpAnyH_done (by kernel_rfl) ?_ _
              go_wp2_with fail
              go_roundw
              case rel => exact ⟨i + 1, rx2, tx2, rxo2, txo2, hil, by go_num, ht2.out, hto2.out, S8.out.drop4⟩
              case measure => simp [intOf]; omega
            · have b0 : (way == 0) = false := by simpa using hw0
              have b1 : (way == 1) = false := by simpa using hw1
              have b2 : (way == 2) = false := by simpa using hw2
              clear SB S6 hw0 hw1 hw2
              go_upto_region 15 with (go_at_call 12; go_loud (refine (S7.out.call1 (clear_says _ _ _)).mono ?_; rintro e w8 ⟨rfl, S8⟩))
              obtain ⟨⟨p8, c8, hc8⟩, hf8, S9⟩ := S8.nil3
              obtain ⟨n8, hn8⟩ : ∃ n, rx.length = n := ⟨_, rfl⟩
              rw [hn8] at hc8
              have S9 := Lib.hid S9
              clear S7 S8 d0 d1 d2 hn8
              go_upto_region 27 with fail
              clear hc8 hf8
              obtain ⟨w10, hw10⟩ : ∃ w, w = w8.setCell ⟨hr, 0, none⟩ (.slice none 0 0) := ⟨_, rfl⟩
              rw [← hw10] at S9 ⊢
              clear hw10
              obtain ⟨rx2, tx2, rxo2, txo2, ax, ht2, hto2, S8⟩ : ∃ rx2 tx2 rxo2 txo2 ax, Hid (tx2.length ≤ i + 1) ∧ Hid (txo2.length ≤ i + 1) ∧ Hid (Sep W w10.drew (Ua hu rx2 tx2) (Ua ho rxo2 txo2) (Ru hr rx2 tx2) (Box A ax)) := ⟨_, _, _, _, _, (by have h2 := HT.out; unfold Hid; omega), HTO, Lib.hid S9.out.drew⟩
              obtain ⟨p27, c27, hc27⟩ := S8.out.rx3
              obtain ⟨n27, hn27⟩ : ∃ n, rx2.length = n := ⟨_, rfl⟩
              rw [hn27] at hc27
              have HN27 := Lib.hid hn27
              clear hn27
              refine wp_region_held_drew (S := (fun u => u.cell? ⟨hr, 0, none⟩ = some (.slice p27 n27 c27))) (by kernel_rfl) ?_ (fun hH0 => ?_)
              · ((try dsimp only); first | exact hc27 | assumption)
              refine wpAnyH_take (i := 0) (oi := { dst := some 104, op := Go.Op.move (Go.Operand.tmp 4), type := 24, pos := "law.go:53", after := #[], guard := none }) (v := ?_) rfl (by kernel_rfl) (by kernel_rfl) (by kernel_rfl) (fun _ _ _ h => h) (Or.inl ⟨by rfl, ?_⟩) (by assumption) ?_
              rotate_left
              · ((intro w hSw; (try dsimp only at hSw); go_simp) <;> (with_reducible rfl))
              try simp only [Act.put, List.setIfInBounds_toArray, List.set_cons_zero, List.set_cons_succ]
              refine wpAnyH_take (i := 2) (oi := { dst := some 106, op := Go.Op.move (Go.Operand.tmp 6), type := 29, pos := "law.go:53", after := #[], guard := none }) (v := ?_) rfl (by kernel_rfl) (by kernel_rfl) (by kernel_rfl) (fun _ _ _ h => h) (Or.inl ⟨by rfl, ?_⟩) (by assumption) ?_
              rotate_left
              · ((intro w hSw; (try dsimp only at hSw); go_simp) <;> (with_reducible rfl))
              try simp only [Act.put, List.setIfInBounds_toArray, List.set_cons_zero, List.set_cons_succ]
              refine wpAnyH_take (i := 3) (oi := { dst := some 107, op := Go.Op.nilCheck (Go.Operand.tmp 106), type := 0, pos := "law.go:53", after := #[{ on := 2, ground := Go.Ground.data }], guard := none }) (v := ?_) rfl (by kernel_rfl) (by kernel_rfl) (by kernel_rfl) (fun _ _ _ h => h) (Or.inl ⟨by rfl, ?_⟩) (by assumption) ?_
              rotate_left
              · ((intro w hSw; (try dsimp only at hSw); go_simp) <;> (with_reducible rfl))
              try simp only [Act.put, List.setIfInBounds_toArray, List.set_cons_zero, List.set_cons_succ]
              refine wpAnyH_take (i := 4) (oi := { dst := some 108, op := Go.Op.fieldAddr 31 (Go.Operand.tmp 107) 0, type := 0, pos := "law.go:53", after := #[{ on := 3, ground := Go.Ground.data }], guard := none }) (v := ?_) rfl (by kernel_rfl) (by kernel_rfl) (by kernel_rfl) (fun _ _ _ h => h) (Or.inl ⟨by rfl, ?_⟩) (by assumption) ?_
              rotate_left
              · ((intro w hSw; (try dsimp only at hSw); go_simp) <;> (with_reducible rfl))
              try simp only [Act.put, List.setIfInBounds_toArray, List.set_cons_zero, List.set_cons_succ]
              refine wpAnyH_take (i := 5) (oi := { dst := some 109, op := Go.Op.load 26 (Go.Operand.tmp 108), type := 26, pos := "law.go:53", after := #[{ on := 4, ground := Go.Ground.data }], guard := none }) (v := ?_) rfl (by kernel_rfl) (by kernel_rfl) (by kernel_rfl) (fun _ _ _ h => h) (Or.inl ⟨by rfl, ?_⟩) (by assumption) ?_
              rotate_left
              · ((intro w hSw; (try dsimp only at hSw); go_simp) <;> (with_reducible rfl))
              try simp only [Act.put, List.setIfInBounds_toArray, List.set_cons_zero, List.set_cons_succ]
              refine wpAnyH_take (i := 6) (oi := { dst := some 110, op := Go.Op.call { callee := Go.Callee.builtin Go.Builtin.len, args := #[Go.Operand.tmp 109], argTypes := #[26] }, type := 3, pos := "law.go:53", after := #[{ on := 5, ground := Go.Ground.data }], guard := none }) (v := ?_) rfl (by kernel_rfl) (by kernel_rfl) (by kernel_rfl) (fun _ _ _ h => h) (Or.inl ⟨by rfl, ?_⟩) (by assumption) ?_
              rotate_left
              · ((intro w hSw; (try dsimp only at hSw); go_simp) <;> (with_reducible rfl))
              try simp only [Act.put, List.setIfInBounds_toArray, List.set_cons_zero, List.set_cons_succ]
              refine wpAnyH_ready (rs := [1]) (by kernel_rfl) (by simp) ?_
              refine AllReadyH.cons (o := { dst := some 105, op := Go.Op.call { callee := Go.Callee.value (Go.Operand.func 13), args := #[Go.Operand.tmp 104], argTypes := #[24] }, type := 3, pos := "law.go:53", after := #[{ on := 0, ground := Go.Ground.data }], guard := none }) rfl (fun K hK => ?_) AllReadyH.nil
              go_simp
              (go_at_call 13; refine S8.out.wait1.mono ?_; rintro e t' ⟨rfl, rfl⟩; rw [HN27.out])
              refine hK.out _ _ ?_ (fun hH1 => ?_)
              · ((try dsimp only); first | exact hc27 | assumption)
              clear hK K hH0
              try simp only [Act.put, List.setIfInBounds_toArray, List.set_cons_zero, List.set_cons_succ]
              refine wpAnyH_take (i := 7) (oi := { dst := some 111, op := Go.Op.binOp Go.BinOp.neq 3 (Go.Operand.tmp 105) (Go.Operand.tmp 110) 3, type := 4, pos := "law.go:53", after := #[{ on := 1, ground := Go.Ground.data }, { on := 6, ground := Go.Ground.data }], guard := none }) (v := ?_) rfl (by kernel_rfl) (by kernel_rfl) (by kernel_rfl) (fun _ _ _ h => h) (Or.inl ⟨by rfl, ?_⟩) (by assumption) ?_
              rotate_left
              · ((intro w hSw; (try dsimp only at hSw); go_simp) <;> (with_reducible rfl))
              try simp only [Act.put, List.setIfInBounds_toArray, List.set_cons_zero, List.set_cons_succ]
              refine wpAnyH_done (by kernel_rfl) ?_ _
              go_wp2_with fail
              go_roundw
              case rel => exact ⟨i + 1, rx2, tx2, rxo2, txo2, hil, by go_num, ht2.out, hto2.out, S8.out.drop4⟩
              case measure => simp [intOf]; omega
      · obtain rfl : i = len := by omega
        clear hil
        have HL : Hid (tx.length < 100000) := by have := HT.out; unfold Hid; omega
        go_upto_region 30 with (go_at_call 14; go_loud (refine (S.out.out1 HL.out).mono ?_; rintro e w3 ⟨p', c', rfl, how, hb, S3⟩))
        have S4 := Lib.hid (S.out.layRow hb how)
        obtain ⟨s, hs1⟩ : ∃ s, s = strOfNums tx := ⟨_, rfl⟩
        obtain ⟨p2, c2, hc2, hv2⟩ := S4.out.drew.tx3
        have hv1 := conv_src (w := w3.drew) (own_src (own_kept (w' := w3.drew) how fun _ _ => rfl)) c'
        have hp' : p' = none ∨ 0 ≤ c' := .inr (Nat.zero_le _)
        rw [← hs1] at hv1 hv2
        have HS1 := Lib.hid hs1
        obtain ⟨n, hn⟩ : ∃ n, tx.length = n := ⟨_, rfl⟩
        rw [hn] at hv1 hv2 hc2 ⊢
        have HN := Lib.hid hn
        have hn9 : n ≤ 1000 := by have := HT.out; omega
        clear hn hs1 hb how S3 S hp'
        go_region
        clear hv1 hv2 hc2
        have S5 := Lib.hid S4.out.drew
        clear S4
        go_wp2_with fail
        go_loopw [15] (fun x wv => ∃ (j : Nat) (ys : List Int), j ≤ n ∧ x = .int .i64 j ∧ ys.length = n ∧ Sep W wv (Ua hu rx tx) (Ua ho rxo txo) (Ru hr rx tx) (RowT p' c' ys)) (fun x _ => n - (intOf x).toNat)
        case atStart => exact ⟨0, tx, Nat.zero_le _, rfl, HN.out, S5.out⟩
        case round =>
          clear S5
          obtain ⟨j, ys, hj, rfl, hys, S6⟩ := hrel
          by_cases hjn : j < n
          · obtain ⟨g, rfl, hc, hf, hset⟩ := S6.row4 (k := j) (by omega)
            obtain ⟨y, hy⟩ : ∃ y, ys[j]'(by omega) = y := ⟨_, rfl⟩
            rw [hy] at hc
            have HS6 := Lib.hid hset
            have HY := Lib.hid hys
            have hjI : (j : Int) < (n : Int) := by omega
            clear hy S6 hset hys
            go_wp2
            go_roundw
            case rel => exact ⟨j + 1, ys.set j _, hjn, by go_num, by rw [List.length_set]; exact HY.out, HS6.out _⟩
            case measure => simp [intOf]; omega
          · have hjI : ¬ (j : Int) < (n : Int) := by omega
            have hK : Below wr.heap.size wr wr.drew := (Below.refl _ _).drew
            obtain ⟨p3, c3, r3⟩ := S6.tx3u
            rw [← HS1.out, HN.out] at r3
            have r1 : ∀ u, Below wr.heap.size wr u → u.cell? ⟨hr, 1, none⟩ = some (.slice p3 n c3) := fun u hu => (r3 u hu).1
            have r2 : ∀ u, Below wr.heap.size wr u → (convert 26 9 (.slice p3 n c3)).run Try.prog u = .ok (.string s) u := fun u hu => (r3 u hu).2
            have S6 := Lib.hid S6
            clear r3 hys
            go_upto_region 35 with fail
            refine wp_region_held_drew (S := (fun u => Below wr.heap.size wr u)) (by kernel_rfl) ?_ (fun hH0 => ?_)
            · ((try dsimp only); first | exact hK | exact (‹Below wr.heap.size wr _›).trans (ht'.mono (‹Below wr.heap.size wr _›).size) | assumption)
            refine wpAnyH_take (i := 0) (oi := { dst := some 136, op := Go.Op.move (Go.Operand.tmp 14), type := 4, pos := "law.go:62", after := #[], guard := none }) (v := ?_) rfl (by kernel_rfl) (by kernel_rfl) (by kernel_rfl) (fun _ _ _ h => h) (Or.inl ⟨by rfl, ?_⟩) (by assumption) ?_
            rotate_left
            · ((intro w hSw; (try dsimp only at hSw); go_simp) <;> (with_reducible rfl))
            try simp only [Act.put, List.setIfInBounds_toArray, List.set_cons_zero, List.set_cons_succ]
            refine wpAnyH_take (i := 1) (oi := { dst := some 137, op := Go.Op.move (Go.Operand.tmp 136), type := 4, pos := "law.go:62", after := #[{ on := 0, ground := Go.Ground.data }], guard := none }) (v := ?_) rfl (by kernel_rfl) (by kernel_rfl) (by kernel_rfl) (fun _ _ _ h => h) (Or.inl ⟨by rfl, ?_⟩) (by assumption) ?_
            rotate_left
            · ((intro w hSw; (try dsimp only at hSw); go_simp) <;> (with_reducible rfl))
            try simp only [Act.put, List.setIfInBounds_toArray, List.set_cons_zero, List.set_cons_succ]
            refine wpAnyH_take (i := 2) (oi := { dst := some 138, op := Go.Op.move (Go.Operand.tmp 4), type := 24, pos := "law.go:62", after := #[{ on := 1, ground := Go.Ground.guard }], guard := some (1, true) }) (v := ?_) rfl (by kernel_rfl) (by kernel_rfl) (by kernel_rfl) (fun _ _ _ h => h) (Or.inl ⟨by rfl, ?_⟩) (by assumption) ?_
            rotate_left
            · ((intro w hSw; (try dsimp only at hSw); go_simp) <;> (with_reducible rfl))
            try simp only [Act.put, List.setIfInBounds_toArray, List.set_cons_zero, List.set_cons_succ]
            refine wpAnyH_take (i := 5) (oi := { dst := some 141, op := Go.Op.move (Go.Operand.tmp 6), type := 29, pos := "law.go:62", after := #[{ on := 1, ground := Go.Ground.guard }], guard := some (1, true) }) (v := ?_) rfl (by kernel_rfl) (by kernel_rfl) (by kernel_rfl) (fun _ _ _ h => h) (Or.inl ⟨by rfl, ?_⟩) (by assumption) ?_
            rotate_left
            · ((intro w hSw; (try dsimp only at hSw); go_simp) <;> (with_reducible rfl))
            try simp only [Act.put, List.setIfInBounds_toArray, List.set_cons_zero, List.set_cons_succ]
            refine wpAnyH_take (i := 6) (oi := { dst := some 142, op := Go.Op.nilCheck (Go.Operand.tmp 141), type := 0, pos := "law.go:62", after := #[{ on := 5, ground := Go.Ground.data }, { on := 1, ground := Go.Ground.guard }], guard := some (1, true) }) (v := ?_) rfl (by kernel_rfl) (by kernel_rfl) (by kernel_rfl) (fun _ _ _ h => h) (Or.inl ⟨by rfl, ?_⟩) (by assumption) ?_
            rotate_left
            · ((intro w hSw; (try dsimp only at hSw); go_simp) <;> (with_reducible rfl))
            try simp only [Act.put, List.setIfInBounds_toArray, List.set_cons_zero, List.set_cons_succ]
            refine wpAnyH_take (i := 7) (oi := { dst := some 143, op := Go.Op.fieldAddr 31 (Go.Operand.tmp 142) 1, type := 0, pos := "law.go:62", after := #[{ on := 6, ground := Go.Ground.data }, { on := 1, ground := Go.Ground.guard }], guard := some (1, true) }) (v := ?_) rfl (by kernel_rfl) (by kernel_rfl) (by kernel_rfl) (fun _ _ _ h => h) (Or.inl ⟨by rfl, ?_⟩) (by assumption) ?_
            rotate_left
            · ((intro w hSw; (try dsimp only at hSw); go_simp) <;> (with_reducible rfl))
            try simp only [Act.put, List.setIfInBounds_toArray, List.set_cons_zero, List.set_cons_succ]
            refine wpAnyH_take (i := 8) (oi := { dst := some 144, op := Go.Op.load 26 (Go.Operand.tmp 143), type := 26, pos := "law.go:62", after := #[{ on := 7, ground := Go.Ground.data }, { on := 1, ground := Go.Ground.guard }], guard := some (1, true) }) (v := ?_) rfl (by kernel_rfl) (by kernel_rfl) (by kernel_rfl) (fun _ _ _ h => h) (Or.inl ⟨by rfl, ?_⟩) (by assumption) ?_
            rotate_left
            · ((intro w hSw; (try dsimp only at hSw); go_simp) <;> (with_reducible rfl))
            try simp only [Act.put, List.setIfInBounds_toArray, List.set_cons_zero, List.set_cons_succ]
            refine wpAnyH_take (i := 9) (oi := { dst := some 145, op := Go.Op.convert 26 9 (Go.Operand.tmp 144), type := 9, pos := "law.go:62", after := #[{ on := 8, ground := Go.Ground.data }, { on := 1, ground := Go.Ground.guard }], guard := some (1, true) }) (v := ?_) rfl (by kernel_rfl) (by kernel_rfl) (by kernel_rfl) (fun _ _ _ h => h) (Or.inl ⟨by rfl, ?_⟩) (by assumption) ?_
            rotate_left
            · ((intro w hSw; (try dsimp only at hSw); go_simp) <;> (with_reducible rfl))
            try simp only [Act.put, List.setIfInBounds_toArray, List.set_cons_zero, List.set_cons_succ]
            refine wpAnyH_ready (rs := [3]) (by kernel_rfl) (by simp) ?_
            refine AllReadyH.cons (o := { dst := some 139, op := Go.Op.call { callee := Go.Callee.value (Go.Operand.func 14), args := #[Go.Operand.tmp 138], argTypes := #[24] }, type := 26, pos := "law.go:62", after := #[{ on := 2, ground := Go.Ground.data }, { on := 1, ground := Go.Ground.chain }, { on := 1, ground := Go.Ground.guard }], guard := some (1, true) }) rfl (fun K hK => ?_) AllReadyH.nil
            go_simp
            (go_at_call 14; (refine ((S6.out.still (by assumption)).out1 HL.out).mono ?_; rintro e t' ⟨p5, c5, rfl, how5, ht', -⟩; rw [HN.out]))
            refine hK.out _ _ ?_ (fun hH1 => ?_)
            · ((try dsimp only); first | exact hK | exact (‹Below wr.heap.size wr _›).trans (ht'.mono (‹Below wr.heap.size wr _›).size) | assumption)
            clear hK K hH0
            try simp only [Act.put, List.setIfInBounds_toArray, List.set_cons_zero, List.set_cons_succ]
            first | (refine wpAnyH_mono (S' := fun u => u = t') (fun u hu => by rw [hu]; exact hH1) _ _ _ _ ?_; have hT : (fun u => u = t') t' := rfl; have hBt : Below wr.heap.size wr t' := hH1; have c89 : (convert 26 9 (.slice p5 n c5)).run Try.prog t' = .ok (.string s) t' := (by rw [HS1.out, ← HN.out]; exact conv_src (own_src how5) c5)) | skip
            refine wpAnyH_take (i := 4) (oi := { dst := some 140, op := Go.Op.convert 26 9 (Go.Operand.tmp 139), type := 9, pos := "law.go:62", after := #[{ on := 3, ground := Go.Ground.data }, { on := 1, ground := Go.Ground.guard }], guard := some (1, true) }) (v := ?_) rfl (by kernel_rfl) (by kernel_rfl) (by kernel_rfl) (fun _ _ _ h => h) (Or.inl ⟨by rfl, ?_⟩) (by assumption) ?_
            rotate_left
            · ((intro w hSw; (try dsimp only at hSw); go_simp) <;> (with_reducible rfl))
            try simp only [Act.put, List.setIfInBounds_toArray, List.set_cons_zero, List.set_cons_succ]
            refine wpAnyH_take (i := 10) (oi := { dst := some 146, op := Go.Op.binOp Go.BinOp.eql 9 (Go.Operand.tmp 140) (Go.Operand.tmp 145) 9, type := 4, pos := "law.go:62", after := #[{ on := 4, ground := Go.Ground.data }, { on := 9, ground := Go.Ground.data }, { on := 1, ground := Go.Ground.guard }], guard := some (1, true) }) (v := ?_) rfl (by kernel_rfl) (by kernel_rfl) (by kernel_rfl) (fun _ _ _ h => h) (Or.inl ⟨by rfl, ?_⟩) (by assumption) ?_
            rotate_left
            · ((intro w hSw; (try dsimp only at hSw); go_simp) <;> (with_reducible rfl))
            try simp only [Act.put, List.setIfInBounds_toArray, List.set_cons_zero, List.set_cons_succ]
            refine wpAnyH_take (i := 11) (oi := { dst := some 147, op := Go.Op.pick (Go.Operand.tmp 137) (Go.Operand.tmp 146) (Go.Operand.const (Go.Value.bool false)), type := 4, pos := "law.go:62", after := #[{ on := 1, ground := Go.Ground.data }, { on := 10, ground := Go.Ground.data }], guard := none }) (v := ?_) rfl (by kernel_rfl) (by kernel_rfl) (by kernel_rfl) (fun _ _ _ h => h) (Or.inl ⟨by rfl, ?_⟩) (by assumption) ?_
            rotate_left
            · ((intro w hSw; (try dsimp only at hSw); go_simp) <;> (with_reducible rfl))
            try simp only [Act.put, List.setIfInBounds_toArray, List.set_cons_zero, List.set_cons_succ]
            refine wpAnyH_take (i := 12) (oi := { dst := some 2, op := Go.Op.assign (Go.Operand.tmp 147), type := 4, pos := "law.go:62", after := #[{ on := 11, ground := Go.Ground.data }, { on := 3, ground := Go.Ground.chain }, { on := 0, ground := Go.Ground.phase }, { on := 1, ground := Go.Ground.phase }, { on := 2, ground := Go.Ground.phase }, { on := 3, ground := Go.Ground.phase }, { on := 4, ground := Go.Ground.phase }, { on := 5, ground := Go.Ground.phase }, { on := 6, ground := Go.Ground.phase }, { on := 7, ground := Go.Ground.phase }, { on := 8, ground := Go.Ground.phase }, { on := 9, ground := Go.Ground.phase }, { on := 10, ground := Go.Ground.phase }, { on := 11, ground := Go.Ground.phase }], guard := none }) (v := ?_) rfl (by kernel_rfl) (by kernel_rfl) (by kernel_rfl) (fun _ _ _ h => h) (Or.inl ⟨by rfl, ?_⟩) (by assumption) ?_
            rotate_left
            · ((intro w hSw; (try dsimp only at hSw); go_simp) <;> (with_reducible rfl))
            try simp only [Act.put, List.setIfInBounds_toArray, List.set_cons_zero, List.set_cons_succ]
            refine wpAnyH_done (by kernel_rfl) ?_ _
            go_wp2_with fail
            go_ret
            exact ⟨ret_bool (by simp), S6.out.b.trans (hBt.mono S6.out.b.size)⟩
  · have HS := Lib.hid hs; clear hs
    go_enter Try.func3, Try.ntmps3
    go_wp2_with (first
      | (go_at_call 5; refine (alive7_says _).mono ?_; rintro e w1 ⟨rfl, hL⟩))
    all_goals first
      | (go_ret; exact ⟨rfl, hL⟩)
      | (have := HS.out; omega)
end Go.Proofs.Ytpgnoogjibcccaa.Ser
