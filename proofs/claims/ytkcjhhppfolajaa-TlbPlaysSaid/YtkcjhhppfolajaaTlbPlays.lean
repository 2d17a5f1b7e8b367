/-
  The walk of law TlbPlays.
-/
import Derived.Test.YtkcjhhppfolajaaTlbPA
import Derived.OrdersHeld
import Derived.Deep.CutRange
namespace Go.Proofs.Ytkcjhhppfolajaa
open Go.ChangeShapes Go.WideShapes Go.ChangeAt Go.RowKit
set_option maxRecDepth 100000 in
set_option maxHeartbeats 4000000 in
theorem plays_walk {W : World} (a0 : Int) (lp : Option Addr) (len cap : Nat) (f : Nat → A4) (hA : Acts6 W lp len f) (hmx : len ≤ 9223372036854775807) :
    Calls Try.prog 3 #[.int .i64 a0, .slice lp len cap] W fun e w' => e = .returned (.bool true) ∧ Below W.heap.size W w' := by
  obtain ⟨r, hr⟩ : ∃ r : Ending → World → Prop, r = fun e w' => e = .returned (.bool true) ∧ Below W.heap.size W w' := ⟨_, rfl⟩
  rw [← hr]
  have hout : ∀ w', Below W.heap.size W w' → r (.returned (.bool true)) w' := fun w' h => by rw [hr]; exact ⟨rfl, h⟩
  have HO := Lib.hid hout; clear hr hout
  by_cases hl6 : len ≤ 600
  rotate_left
  · have hl7 : ¬ (len : Int) ≤ 600 := by omega
    go_enter Try.func3, Try.ntmps3
    go_wp2_with (go_at_call 7; refine (alive6_says _).mono ?_; rintro e w1 ⟨rfl, hL⟩)
    exact HO.out _ hL
  obtain ⟨N, hN⟩ : ∃ N, N = places a0 := ⟨_, rfl⟩
  have hNI : (N : Int) = min (max a0 1) 256 := by rw [hN]; unfold places; omega
  have HNI := Lib.hid hNI; clear hNI
  go_enter Try.func3, Try.ntmps3
  go_upto_region 4 with (go_at_call 7; refine (alive6_says _).mono ?_; rintro e w1 ⟨rfl, hL⟩)
  go_upto_region 6 with (first
    | (go_at_call 8; refine (new_says a0 w2).mono ?_; rintro e w3 ⟨ho, mo, H2⟩; obtain rfl := H2.e)
    | (go_at_call 8; refine (new_says a0 _).mono ?_; rintro e w2 ⟨ht, mt, H1⟩; obtain rfl := H1.e))
  have s := St.begin hL H1 H2
  rw [← hN] at s
  clear H1 H2 hL hN
  go_upto_if 36 with fail
  go_cut [8] from 35 to 36 (fun s8 wx => s8 = .int .i64 (max a0 1) ∧ wx = w3)
  case first =>
    go_wp2
    all_goals
      go_meet
      case rel => exact ⟨by congr 1; omega, rfl⟩
  case rest =>
    obtain ⟨rfl, rfl⟩ := hcut
    go_upto_if 38 with fail
    go_cut [8] from 37 to 38 (fun s8 wx => s8 = .int .i64 N ∧ wx = wc)
    case first =>
      have hNI := HNI.out
      go_wp2
      all_goals
        go_meet
        case rel => exact ⟨by congr 1; omega, rfl⟩
    case rest =>
      obtain ⟨rfl, rfl⟩ := hcut
      go_wp2_with fail
      go_loopw [9, 10] (fun s9 s10 wr => ∃ (i : Nat) (R : List A4), i ≤ len ∧ s10 = .int .i64 i ∧ St W wr ht mt ho mo N none (ents R) s9 R) (fun _ s10 _ => len - (intOf s10).toNat)
      case atStart => exact ⟨0, [], Nat.zero_le _, rfl, s⟩
      case round =>
        clear s HNI
        obtain ⟨i, R, hi, rfl, s⟩ := hrel
        have hRN := s.len
        have hRl : (ents R).length = R.length := List.length_map _
        rw [hRl] at hRN
        obtain ⟨hRN, hN1, hN2⟩ := hRN
        obtain ⟨p, c, rfl, hpn, hRc, hcm⟩ := s.form
        by_cases hil : i < len
        · obtain ⟨b, off, rfl, hb, hc⟩ := hA.at_ (by omega)
          obtain ⟨c0, c1, c2, c3⟩ := hc i hil
          obtain ⟨hki, hei⟩ := hA.wf i hil
          obtain ⟨way, tag, vpn, e, hfi⟩ : ∃ way tag vpn e, f i = (way, (tag, vpn), e) := ⟨_, _, _, _, rfl⟩
          rw [hfi] at c0 c1 c2 c3 hki hei
          rw [← s.b.cell (by exact hb)] at c0 c1 c2 c3
          dsimp only at c0 c1 c2 c3
          have s1 : St W (wr.alloc (.cells #[.int .i64 way, .int .i64 tag, .int .i64 vpn, .int .i64 e] 27)) ht mt ho mo N (some (wr.heap.size, (way, (tag, vpn), e))) (ents R) (.slice p R.length c) R := s.box (way, (tag, vpn), e)
          have HK := Lib.hid hki; have HE := Lib.hid hei; have S1 := Lib.hid s1
          clear hfi hc hb s s1 hki hei
          go_upto_region 17 with (go_at_call 9; refine (S1.out.callO fun g lo t => (put_says t tag vpn (-1) HK.out (by omega)).mono (fun x w' hx => ⟨hx.1, _, hx.2⟩)).mono ?_; rintro x w5 ⟨rfl, s2⟩)
          obtain ⟨A, hAe⟩ : ∃ A, A = wr.heap.size := ⟨_, rfl⟩
          rw [← hAe] at s2 ⊢
          clear S1 hAe c0 c1 c2 c3
          go_cut [12] from 55 to 80 (fun s12 wk => s12 = .int .i64 0 ∧ wk = w5)
          case first =>
            go_wp2
            go_meet
            case rel => exact ⟨rfl, rfl⟩
          obtain ⟨rfl, hw5⟩ := hcut
          obtain rfl : w5 = wc := hw5.symm
          refine ‹∀ (a : Act) (w : World), Code.wp _ _ _ a w → _› _ _ ?_
          refine wp_seq_k fun Kr hKr => ?_
          go_cut [12] from 55 to 80 (fun s12 wk => ∃ k : Nat, s12 = .int .i64 k ∧ Hid (Fnd R (tag, vpn) k) ∧ Below w5.heap.size w5 wk)
          case first =>
            as_aux_lemma =>
              have S2 := Lib.hid s2; clear s2
              have hcR : R.length ≤ 9223372036854775807 := by omega
              go_wp2_with fail
              go_loopw [12] (fun s12 wk => ∃ k : Nat, s12 = .int .i64 k ∧ Hid (Fst R (tag, vpn) k) ∧ Below w5.heap.size w5 wk) (fun s12 _ => R.length - (intOf s12).toNat)
              case atStart => exact ⟨0, rfl, Fst.zero _ _, Below.refl _ _⟩
              case round =>
                obtain ⟨k, rfl, hF, hb⟩ := hrel
                have hkl := hF.out.le
                have s3 := S2.out.still hb.drew
                obtain ⟨d0, d1, d2, d3⟩ := s3.here
                dsimp only at d0 d1 d2 d3
                by_cases hk : k < R.length
                · obtain ⟨g, c', e1, h1, h2, c0, c1, c2, c3, -⟩ := s3.at_ k hk
                  injection e1 with e1 e2 e3
                  subst e1; subst e3
                  have hn := hF.out.next hk
                  have hat : ∀ h : R[k].2.1 = (tag, vpn), Hid (Fnd R (tag, vpn) k) := fun h => ⟨hF.out, fun _ => h⟩
                  obtain ⟨x, hx⟩ : ∃ x, x = R[k] := ⟨_, rfl⟩
                  rw [← hx] at c0 c1 c2 c3 hn hat
                  obtain ⟨xw, ⟨xt, xv⟩, xe⟩ := x
                  dsimp only at c0 c1 c2 c3 hn hat
                  have hS0 : wr.drew.cell? ⟨A, 1, none⟩ = some (i64 tag) ∧ wr.drew.cell? ⟨A, 2, none⟩ = some (i64 vpn) ∧ wr.drew.cell? ⟨g, k * 4 + 1, none⟩ = some (i64 xt) ∧ wr.drew.cell? ⟨g, k * 4 + 2, none⟩ = some (i64 xv) := ⟨d1, d2, c1, c2⟩
                  have hF' := hF; clear hF
                  clear s3 d0 d1 d2 d3 c0 c1 c2 c3 hx
                  have hd : decide ((k : Int) < (R.length : Int)) = true := decide_eq_true (by omega)
                  by_cases ht1 : xt = tag
                  · have hbt : (xt != tag) = false := by simp [ht1]
                    by_cases hv1 : xv = vpn
                    · have hbv : (xv != vpn) = false := by simp [hv1]
                      have hfnd := hat (by rw [ht1, hv1])
                      clear ht1 hv1 hat hn
                      go_upto_region 18 with fail
                      refine wp_region_held_drew (S := (fun u => u.cell? ⟨A, 1, none⟩ = some (i64 tag) ∧ u.cell? ⟨A, 2, none⟩ = some (i64 vpn) ∧ u.cell? ⟨g, k * 4 + 1, none⟩ = some (i64 xt) ∧ u.cell? ⟨g, k * 4 + 2, none⟩ = some (i64 xv))) (by kernel_rfl) ?_ (fun hH0 => ?_)
                      · ((try dsimp only); first | exact hS0 | assumption)
                      refine wpAnyH_take (i := 0) (oi := { dst := some 55, op := Go.Op.move (Go.Operand.tmp 12), type := 3, pos := "law.go:42", after := #[], guard := none }) (v := ?_) rfl (by kernel_rfl) (by kernel_rfl) (by kernel_rfl) (fun _ _ _ h => h) (Or.inl ⟨by rfl, ?_⟩) (by assumption) ?_
                      rotate_left
                      · ((intro w hSw; (try dsimp only at hSw); go_simp) <;> (with_reducible rfl))
                      try simp only [Act.put, List.setIfInBounds_toArray, List.set_cons_zero, List.set_cons_succ]
                      refine wpAnyH_take (i := 1) (oi := { dst := some 56, op := Go.Op.move (Go.Operand.tmp 9), type := 22, pos := "law.go:42", after := #[], guard := none }) (v := ?_) rfl (by kernel_rfl) (by kernel_rfl) (by kernel_rfl) (fun _ _ _ h => h) (Or.inl ⟨by rfl, ?_⟩) (by assumption) ?_
                      rotate_left
                      · ((intro w hSw; (try dsimp only at hSw); go_simp) <;> (with_reducible rfl))
                      try simp only [Act.put, List.setIfInBounds_toArray, List.set_cons_zero, List.set_cons_succ]
                      refine wpAnyH_take (i := 2) (oi := { dst := some 57, op := Go.Op.call { callee := Go.Callee.builtin Go.Builtin.len, args := #[Go.Operand.tmp 56], argTypes := #[22] }, type := 3, pos := "law.go:42", after := #[{ on := 1, ground := Go.Ground.data }], guard := none }) (v := ?_) rfl (by kernel_rfl) (by kernel_rfl) (by kernel_rfl) (fun _ _ _ h => h) (Or.inl ⟨by rfl, ?_⟩) (by assumption) ?_
                      rotate_left
                      · ((intro w hSw; (try dsimp only at hSw); go_simp) <;> (with_reducible rfl))
                      try simp only [Act.put, List.setIfInBounds_toArray, List.set_cons_zero, List.set_cons_succ]
                      refine wpAnyH_take (i := 3) (oi := { dst := some 58, op := Go.Op.binOp Go.BinOp.lss 3 (Go.Operand.tmp 55) (Go.Operand.tmp 57) 3, type := 4, pos := "law.go:42", after := #[{ on := 0, ground := Go.Ground.data }, { on := 2, ground := Go.Ground.data }], guard := none }) (v := ?_) rfl (by kernel_rfl) (by kernel_rfl) (by kernel_rfl) (fun _ _ _ h => h) (Or.inl ⟨by rfl, ?_⟩) (by assumption) ?_
                      rotate_left
                      · ((intro w hSw; (try dsimp only at hSw); go_simp) <;> (with_reducible rfl))
                      try simp only [Act.put, List.setIfInBounds_toArray, List.set_cons_zero, List.set_cons_succ]
                      refine wpAnyH_take (i := 4) (oi := { dst := some 59, op := Go.Op.move (Go.Operand.tmp 58), type := 4, pos := "law.go:42", after := #[{ on := 3, ground := Go.Ground.data }], guard := none }) (v := ?_) rfl (by kernel_rfl) (by kernel_rfl) (by kernel_rfl) (fun _ _ _ h => h) (Or.inl ⟨by rfl, ?_⟩) (by assumption) ?_
                      rotate_left
                      · ((intro w hSw; (try dsimp only at hSw); go_simp) <;> (with_reducible rfl))
                      try simp only [Act.put, List.setIfInBounds_toArray, List.set_cons_zero, List.set_cons_succ]
                      refine wpAnyH_take (i := 5) (oi := { dst := some 60, op := Go.Op.move (Go.Operand.tmp 9), type := 22, pos := "law.go:42", after := #[{ on := 4, ground := Go.Ground.guard }], guard := some (4, true) }) (v := ?_) rfl (by kernel_rfl) (by kernel_rfl) (by kernel_rfl) (fun _ _ _ h => h) (Or.inl ⟨by rfl, ?_⟩) (by assumption) ?_
                      rotate_left
                      · ((intro w hSw; (try dsimp only at hSw); go_simp) <;> (with_reducible rfl))
                      try simp only [Act.put, List.setIfInBounds_toArray, List.set_cons_zero, List.set_cons_succ]
                      refine wpAnyH_take (i := 6) (oi := { dst := some 61, op := Go.Op.move (Go.Operand.tmp 12), type := 3, pos := "law.go:42", after := #[{ on := 4, ground := Go.Ground.guard }], guard := some (4, true) }) (v := ?_) rfl (by kernel_rfl) (by kernel_rfl) (by kernel_rfl) (fun _ _ _ h => h) (Or.inl ⟨by rfl, ?_⟩) (by assumption) ?_
                      rotate_left
                      · ((intro w hSw; (try dsimp only at hSw); go_simp) <;> (with_reducible rfl))
                      try simp only [Act.put, List.setIfInBounds_toArray, List.set_cons_zero, List.set_cons_succ]
                      refine wpAnyH_take (i := 7) (oi := { dst := some 62, op := Go.Op.indexAddr 22 (Go.Operand.tmp 60) (Go.Operand.tmp 61), type := 0, pos := "law.go:42", after := #[{ on := 5, ground := Go.Ground.data }, { on := 6, ground := Go.Ground.data }, { on := 4, ground := Go.Ground.guard }], guard := some (4, true) }) (v := ?_) rfl (by kernel_rfl) (by kernel_rfl) (by kernel_rfl) (fun _ _ _ h => h) (Or.inl ⟨by rfl, ?_⟩) (by assumption) ?_
                      rotate_left
                      · ((intro w hSw; (try dsimp only at hSw); go_simp) <;> (with_reducible rfl))
                      try simp only [Act.put, List.setIfInBounds_toArray, List.set_cons_zero, List.set_cons_succ]
                      refine wpAnyH_take (i := 8) (oi := { dst := some 63, op := Go.Op.fieldAddr 27 (Go.Operand.tmp 62) 1, type := 0, pos := "law.go:42", after := #[{ on := 7, ground := Go.Ground.data }, { on := 4, ground := Go.Ground.guard }], guard := some (4, true) }) (v := ?_) rfl (by kernel_rfl) (by kernel_rfl) (by kernel_rfl) (fun _ _ _ h => h) (Or.inl ⟨by rfl, ?_⟩) (by assumption) ?_
                      rotate_left
                      · ((intro w hSw; (try dsimp only at hSw); go_simp) <;> (with_reducible rfl))
                      try simp only [Act.put, List.setIfInBounds_toArray, List.set_cons_zero, List.set_cons_succ]
                      refine wpAnyH_take (i := 9) (oi := { dst := some 64, op := Go.Op.load 3 (Go.Operand.tmp 63), type := 3, pos := "law.go:42", after := #[{ on := 8, ground := Go.Ground.data }, { on := 4, ground := Go.Ground.guard }], guard := some (4, true) }) (v := ?_) rfl (by kernel_rfl) (by kernel_rfl) (by kernel_rfl) (fun _ _ _ h => h) (Or.inl ⟨by rfl, ?_⟩) (by assumption) ?_
                      rotate_left
                      · ((intro w hSw; (try dsimp only at hSw); go_simp) <;> (with_reducible rfl))
                      try simp only [Act.put, List.setIfInBounds_toArray, List.set_cons_zero, List.set_cons_succ]
                      refine wpAnyH_take (i := 10) (oi := { dst := some 65, op := Go.Op.fieldAddr 27 (Go.Operand.tmp 11) 1, type := 0, pos := "law.go:42", after := #[{ on := 4, ground := Go.Ground.guard }], guard := some (4, true) }) (v := ?_) rfl (by kernel_rfl) (by kernel_rfl) (by kernel_rfl) (fun _ _ _ h => h) (Or.inl ⟨by rfl, ?_⟩) (by assumption) ?_
                      rotate_left
                      · ((intro w hSw; (try dsimp only at hSw); go_simp) <;> (with_reducible rfl))
                      try simp only [Act.put, List.setIfInBounds_toArray, List.set_cons_zero, List.set_cons_succ]
                      refine wpAnyH_take (i := 11) (oi := { dst := some 66, op := Go.Op.load 3 (Go.Operand.tmp 65), type := 3, pos := "law.go:42", after := #[{ on := 10, ground := Go.Ground.data }, { on := 4, ground := Go.Ground.guard }], guard := some (4, true) }) (v := ?_) rfl (by kernel_rfl) (by kernel_rfl) (by kernel_rfl) (fun _ _ _ h => h) (Or.inl ⟨by rfl, ?_⟩) (by assumption) ?_
                      rotate_left
                      · ((intro w hSw; (try dsimp only at hSw); go_simp) <;> (with_reducible rfl))
                      try simp only [Act.put, List.setIfInBounds_toArray, List.set_cons_zero, List.set_cons_succ]
                      refine wpAnyH_take (i := 12) (oi := { dst := some 67, op := Go.Op.binOp Go.BinOp.neq 3 (Go.Operand.tmp 64) (Go.Operand.tmp 66) 3, type := 4, pos := "law.go:42", after := #[{ on := 9, ground := Go.Ground.data }, { on := 11, ground := Go.Ground.data }, { on := 4, ground := Go.Ground.guard }], guard := some (4, true) }) (v := ?_) rfl (by kernel_rfl) (by kernel_rfl) (by kernel_rfl) (fun _ _ _ h => h) (Or.inl ⟨by rfl, ?_⟩) (by assumption) ?_
                      rotate_left
                      · ((intro w hSw; (try dsimp only at hSw); go_simp) <;> (with_reducible rfl))
                      try simp only [Act.put, List.setIfInBounds_toArray, List.set_cons_zero, List.set_cons_succ]
                      refine wpAnyH_take (i := 13) (oi := { dst := some 68, op := Go.Op.move (Go.Operand.tmp 67), type := 4, pos := "law.go:42", after := #[{ on := 12, ground := Go.Ground.data }, { on := 4, ground := Go.Ground.chain }, { on := 4, ground := Go.Ground.guard }], guard := some (4, true) }) (v := ?_) rfl (by kernel_rfl) (by kernel_rfl) (by kernel_rfl) (fun _ _ _ h => h) (Or.inl ⟨by rfl, ?_⟩) (by assumption) ?_
                      rotate_left
                      · ((intro w hSw; (try dsimp only at hSw); go_simp) <;> (with_reducible rfl))
                      try simp only [Act.put, List.setIfInBounds_toArray, List.set_cons_zero, List.set_cons_succ]
                      refine wpAnyH_take (i := 14) (oi := { dst := some 69, op := Go.Op.move (Go.Operand.tmp 9), type := 22, pos := "law.go:42", after := #[{ on := 13, ground := Go.Ground.guard }], guard := some (13, false) }) (v := ?_) rfl (by kernel_rfl) (by kernel_rfl) (by kernel_rfl) (fun _ _ _ h => h) (Or.inl ⟨by rfl, ?_⟩) (by assumption) ?_
                      rotate_left
                      · ((intro w hSw; (try dsimp only at hSw); go_simp) <;> (with_reducible rfl))
                      try simp only [Act.put, List.setIfInBounds_toArray, List.set_cons_zero, List.set_cons_succ]
                      refine wpAnyH_take (i := 15) (oi := { dst := some 70, op := Go.Op.move (Go.Operand.tmp 12), type := 3, pos := "law.go:42", after := #[{ on := 13, ground := Go.Ground.guard }], guard := some (13, false) }) (v := ?_) rfl (by kernel_rfl) (by kernel_rfl) (by kernel_rfl) (fun _ _ _ h => h) (Or.inl ⟨by rfl, ?_⟩) (by assumption) ?_
                      rotate_left
                      · ((intro w hSw; (try dsimp only at hSw); go_simp) <;> (with_reducible rfl))
                      try simp only [Act.put, List.setIfInBounds_toArray, List.set_cons_zero, List.set_cons_succ]
                      refine wpAnyH_take (i := 16) (oi := { dst := some 71, op := Go.Op.indexAddr 22 (Go.Operand.tmp 69) (Go.Operand.tmp 70), type := 0, pos := "law.go:42", after := #[{ on := 14, ground := Go.Ground.data }, { on := 15, ground := Go.Ground.data }, { on := 13, ground := Go.Ground.guard }], guard := some (13, false) }) (v := ?_) rfl (by kernel_rfl) (by kernel_rfl) (by kernel_rfl) (fun _ _ _ h => h) (Or.inl ⟨by rfl, ?_⟩) (by assumption) ?_
                      rotate_left
                      · ((intro w hSw; (try dsimp only at hSw); go_simp) <;> (with_reducible rfl))
                      try simp only [Act.put, List.setIfInBounds_toArray, List.set_cons_zero, List.set_cons_succ]
                      refine wpAnyH_take (i := 17) (oi := { dst := some 72, op := Go.Op.fieldAddr 27 (Go.Operand.tmp 71) 2, type := 0, pos := "law.go:42", after := #[{ on := 16, ground := Go.Ground.data }, { on := 13, ground := Go.Ground.guard }], guard := some (13, false) }) (v := ?_) rfl (by kernel_rfl) (by kernel_rfl) (by kernel_rfl) (fun _ _ _ h => h) (Or.inl ⟨by rfl, ?_⟩) (by assumption) ?_
                      rotate_left
                      · ((intro w hSw; (try dsimp only at hSw); go_simp) <;> (with_reducible rfl))
                      try simp only [Act.put, List.setIfInBounds_toArray, List.set_cons_zero, List.set_cons_succ]
                      refine wpAnyH_take (i := 18) (oi := { dst := some 73, op := Go.Op.load 3 (Go.Operand.tmp 72), type := 3, pos := "law.go:42", after := #[{ on := 17, ground := Go.Ground.data }, { on := 13, ground := Go.Ground.guard }], guard := some (13, false) }) (v := ?_) rfl (by kernel_rfl) (by kernel_rfl) (by kernel_rfl) (fun _ _ _ h => h) (Or.inl ⟨by rfl, ?_⟩) (by assumption) ?_
                      rotate_left
                      · ((intro w hSw; (try dsimp only at hSw); go_simp) <;> (with_reducible rfl))
                      try simp only [Act.put, List.setIfInBounds_toArray, List.set_cons_zero, List.set_cons_succ]
                      refine wpAnyH_take (i := 19) (oi := { dst := some 74, op := Go.Op.fieldAddr 27 (Go.Operand.tmp 11) 2, type := 0, pos := "law.go:42", after := #[{ on := 13, ground := Go.Ground.guard }], guard := some (13, false) }) (v := ?_) rfl (by kernel_rfl) (by kernel_rfl) (by kernel_rfl) (fun _ _ _ h => h) (Or.inl ⟨by rfl, ?_⟩) (by assumption) ?_
                      rotate_left
                      · ((intro w hSw; (try dsimp only at hSw); go_simp) <;> (with_reducible rfl))
                      try simp only [Act.put, List.setIfInBounds_toArray, List.set_cons_zero, List.set_cons_succ]
                      refine wpAnyH_take (i := 20) (oi := { dst := some 75, op := Go.Op.load 3 (Go.Operand.tmp 74), type := 3, pos := "law.go:42", after := #[{ on := 19, ground := Go.Ground.data }, { on := 13, ground := Go.Ground.guard }], guard := some (13, false) }) (v := ?_) rfl (by kernel_rfl) (by kernel_rfl) (by kernel_rfl) (fun _ _ _ h => h) (Or.inl ⟨by rfl, ?_⟩) (by assumption) ?_
                      rotate_left
                      · ((intro w hSw; (try dsimp only at hSw); go_simp) <;> (with_reducible rfl))
                      try simp only [Act.put, List.setIfInBounds_toArray, List.set_cons_zero, List.set_cons_succ]
                      refine wpAnyH_take (i := 21) (oi := { dst := some 76, op := Go.Op.binOp Go.BinOp.neq 3 (Go.Operand.tmp 73) (Go.Operand.tmp 75) 3, type := 4, pos := "law.go:42", after := #[{ on := 18, ground := Go.Ground.data }, { on := 20, ground := Go.Ground.data }, { on := 13, ground := Go.Ground.guard }], guard := some (13, false) }) (v := ?_) rfl (by kernel_rfl) (by kernel_rfl) (by kernel_rfl) (fun _ _ _ h => h) (Or.inl ⟨by rfl, ?_⟩) (by assumption) ?_
                      rotate_left
                      · ((intro w hSw; (try dsimp only at hSw); go_simp) <;> (with_reducible rfl))
                      try simp only [Act.put, List.setIfInBounds_toArray, List.set_cons_zero, List.set_cons_succ]
                      refine wpAnyH_take (i := 22) (oi := { dst := some 77, op := Go.Op.pick (Go.Operand.tmp 68) (Go.Operand.const (Go.Value.bool true)) (Go.Operand.tmp 76), type := 4, pos := "law.go:42", after := #[{ on := 13, ground := Go.Ground.data }, { on := 21, ground := Go.Ground.data }, { on := 4, ground := Go.Ground.guard }], guard := some (4, true) }) (v := ?_) rfl (by kernel_rfl) (by kernel_rfl) (by kernel_rfl) (fun _ _ _ h => h) (Or.inl ⟨by rfl, ?_⟩) (by assumption) ?_
                      rotate_left
                      · ((intro w hSw; (try dsimp only at hSw); go_simp) <;> (with_reducible rfl))
                      try simp only [Act.put, List.setIfInBounds_toArray, List.set_cons_zero, List.set_cons_succ]
                      refine wpAnyH_take (i := 23) (oi := { dst := some 78, op := Go.Op.pick (Go.Operand.tmp 59) (Go.Operand.tmp 77) (Go.Operand.const (Go.Value.bool false)), type := 4, pos := "law.go:42", after := #[{ on := 4, ground := Go.Ground.data }, { on := 22, ground := Go.Ground.data }], guard := none }) (v := ?_) rfl (by kernel_rfl) (by kernel_rfl) (by kernel_rfl) (fun _ _ _ h => h) (Or.inl ⟨by rfl, ?_⟩) (by assumption) ?_
                      rotate_left
                      · ((intro w hSw; (try dsimp only at hSw); go_simp) <;> (with_reducible rfl))
                      try simp only [Act.put, List.setIfInBounds_toArray, List.set_cons_zero, List.set_cons_succ]
                      refine wpAnyH_done (by kernel_rfl) ?_ _
                      go_wp2_with fail
                      go_meet
                      case rel => exact ⟨k, rfl, hfnd, hb.drew⟩
                    · have hn' := Lib.hid (hn (fun h => hv1 (Prod.mk.inj h).2))
                      have hbv : (xv != vpn) = true := by simp [hv1]
                      clear hn ht1 hv1 hat
                      go_upto_region 18 with fail
                      refine wp_region_held_drew (S := (fun u => u.cell? ⟨A, 1, none⟩ = some (i64 tag) ∧ u.cell? ⟨A, 2, none⟩ = some (i64 vpn) ∧ u.cell? ⟨g, k * 4 + 1, none⟩ = some (i64 xt) ∧ u.cell? ⟨g, k * 4 + 2, none⟩ = some (i64 xv))) (by kernel_rfl) ?_ (fun hH0 => ?_)
                      · ((try dsimp only); first | exact hS0 | assumption)
                      refine wpAnyH_take (i := 0) (oi := { dst := some 55, op := Go.Op.move (Go.Operand.tmp 12), type := 3, pos := "law.go:42", after := #[], guard := none }) (v := ?_) rfl (by kernel_rfl) (by kernel_rfl) (by kernel_rfl) (fun _ _ _ h => h) (Or.inl ⟨by rfl, ?_⟩) (by assumption) ?_
                      rotate_left
                      · ((intro w hSw; (try dsimp only at hSw); go_simp) <;> (with_reducible rfl))
                      try simp only [Act.put, List.setIfInBounds_toArray, List.set_cons_zero, List.set_cons_succ]
                      refine wpAnyH_take (i := 1) (oi := { dst := some 56, op := Go.Op.move (Go.Operand.tmp 9), type := 22, pos := "law.go:42", after := #[], guard := none }) (v := ?_) rfl (by kernel_rfl) (by kernel_rfl) (by kernel_rfl) (fun _ _ _ h => h) (Or.inl ⟨by rfl, ?_⟩) (by assumption) ?_
                      rotate_left
                      · ((intro w hSw; (try dsimp only at hSw); go_simp) <;> (with_reducible rfl))
                      try simp only [Act.put, List.setIfInBounds_toArray, List.set_cons_zero, List.set_cons_succ]
                      refine wpAnyH_take (i := 2) (oi := { dst := some 57, op := Go.Op.call { callee := Go.Callee.builtin Go.Builtin.len, args := #[Go.Operand.tmp 56], argTypes := #[22] }, type := 3, pos := "law.go:42", after := #[{ on := 1, ground := Go.Ground.data }], guard := none }) (v := ?_) rfl (by kernel_rfl) (by kernel_rfl) (by kernel_rfl) (fun _ _ _ h => h) (Or.inl ⟨by rfl, ?_⟩) (by assumption) ?_
                      rotate_left
                      · ((intro w hSw; (try dsimp only at hSw); go_simp) <;> (with_reducible rfl))
                      try simp only [Act.put, List.setIfInBounds_toArray, List.set_cons_zero, List.set_cons_succ]
                      refine wpAnyH_take (i := 3) (oi := { dst := some 58, op := Go.Op.binOp Go.BinOp.lss 3 (Go.Operand.tmp 55) (Go.Operand.tmp 57) 3, type := 4, pos := "law.go:42", after := #[{ on := 0, ground := Go.Ground.data }, { on := 2, ground := Go.Ground.data }], guard := none }) (v := ?_) rfl (by kernel_rfl) (by kernel_rfl) (by kernel_rfl) (fun _ _ _ h => h) (Or.inl ⟨by rfl, ?_⟩) (by assumption) ?_
                      rotate_left
                      · ((intro w hSw; (try dsimp only at hSw); go_simp) <;> (with_reducible rfl))
                      try simp only [Act.put, List.setIfInBounds_toArray, List.set_cons_zero, List.set_cons_succ]
                      refine wpAnyH_take (i := 4) (oi := { dst := some 59, op := Go.Op.move (Go.Operand.tmp 58), type := 4, pos := "law.go:42", after := #[{ on := 3, ground := Go.Ground.data }], guard := none }) (v := ?_) rfl (by kernel_rfl) (by kernel_rfl) (by kernel_rfl) (fun _ _ _ h => h) (Or.inl ⟨by rfl, ?_⟩) (by assumption) ?_
                      rotate_left
                      · ((intro w hSw; (try dsimp only at hSw); go_simp) <;> (with_reducible rfl))
                      try simp only [Act.put, List.setIfInBounds_toArray, List.set_cons_zero, List.set_cons_succ]
                      refine wpAnyH_take (i := 5) (oi := { dst := some 60, op := Go.Op.move (Go.Operand.tmp 9), type := 22, pos := "law.go:42", after := #[{ on := 4, ground := Go.Ground.guard }], guard := some (4, true) }) (v := ?_) rfl (by kernel_rfl) (by kernel_rfl) (by kernel_rfl) (fun _ _ _ h => h) (Or.inl ⟨by rfl, ?_⟩) (by assumption) ?_
                      rotate_left
                      · ((intro w hSw; (try dsimp only at hSw); go_simp) <;> (with_reducible rfl))
                      try simp only [Act.put, List.setIfInBounds_toArray, List.set_cons_zero, List.set_cons_succ]
                      refine wpAnyH_take (i := 6) (oi := { dst := some 61, op := Go.Op.move (Go.Operand.tmp 12), type := 3, pos := "law.go:42", after := #[{ on := 4, ground := Go.Ground.guard }], guard := some (4, true) }) (v := ?_) rfl (by kernel_rfl) (by kernel_rfl) (by kernel_rfl) (fun _ _ _ h => h) (Or.inl ⟨by rfl, ?_⟩) (by assumption) ?_
                      rotate_left
                      · ((intro w hSw; (try dsimp only at hSw); go_simp) <;> (with_reducible rfl))
                      try simp only [Act.put, List.setIfInBounds_toArray, List.set_cons_zero, List.set_cons_succ]
                      refine wpAnyH_take (i := 7) (oi := { dst := some 62, op := Go.Op.indexAddr 22 (Go.Operand.tmp 60) (Go.Operand.tmp 61), type := 0, pos := "law.go:42", after := #[{ on := 5, ground := Go.Ground.data }, { on := 6, ground := Go.Ground.data }, { on := 4, ground := Go.Ground.guard }], guard := some (4, true) }) (v := ?_) rfl (by kernel_rfl) (by kernel_rfl) (by kernel_rfl) (fun _ _ _ h => h) (Or.inl ⟨by rfl, ?_⟩) (by assumption) ?_
                      rotate_left
                      · ((intro w hSw; (try dsimp only at hSw); go_simp) <;> (with_reducible rfl))
                      try simp only [Act.put, List.setIfInBounds_toArray, List.set_cons_zero, List.set_cons_succ]
                      refine wpAnyH_take (i := 8) (oi := { dst := some 63, op := Go.Op.fieldAddr 27 (Go.Operand.tmp 62) 1, type := 0, pos := "law.go:42", after := #[{ on := 7, ground := Go.Ground.data }, { on := 4, ground := Go.Ground.guard }], guard := some (4, true) }) (v := ?_) rfl (by kernel_rfl) (by kernel_rfl) (by kernel_rfl) (fun _ _ _ h => h) (Or.inl ⟨by rfl, ?_⟩) (by assumption) ?_
                      rotate_left
                      · ((intro w hSw; (try dsimp only at hSw); go_simp) <;> (with_reducible rfl))
                      try simp only [Act.put, List.setIfInBounds_toArray, List.set_cons_zero, List.set_cons_succ]
                      refine wpAnyH_take (i := 9) (oi := { dst := some 64, op := Go.Op.load 3 (Go.Operand.tmp 63), type := 3, pos := "law.go:42", after := #[{ on := 8, ground := Go.Ground.data }, { on := 4, ground := Go.Ground.guard }], guard := some (4, true) }) (v := ?_) rfl (by kernel_rfl) (by kernel_rfl) (by kernel_rfl) (fun _ _ _ h => h) (Or.inl ⟨by rfl, ?_⟩) (by assumption) ?_
                      rotate_left
                      · ((intro w hSw; (try dsimp only at hSw); go_simp) <;> (with_reducible rfl))
                      try simp only [Act.put, List.setIfInBounds_toArray, List.set_cons_zero, List.set_cons_succ]
                      refine wpAnyH_take (i := 10) (oi := { dst := some 65, op := Go.Op.fieldAddr 27 (Go.Operand.tmp 11) 1, type := 0, pos := "law.go:42", after := #[{ on := 4, ground := Go.Ground.guard }], guard := some (4, true) }) (v := ?_) rfl (by kernel_rfl) (by kernel_rfl) (by kernel_rfl) (fun _ _ _ h => h) (Or.inl ⟨by rfl, ?_⟩) (by assumption) ?_
                      rotate_left
                      · ((intro w hSw; (try dsimp only at hSw); go_simp) <;> (with_reducible rfl))
                      try simp only [Act.put, List.setIfInBounds_toArray, List.set_cons_zero, List.set_cons_succ]
                      refine wpAnyH_take (i := 11) (oi := { dst := some 66, op := Go.Op.load 3 (Go.Operand.tmp 65), type := 3, pos := "law.go:42", after := #[{ on := 10, ground := Go.Ground.data }, { on := 4, ground := Go.Ground.guard }], guard := some (4, true) }) (v := ?_) rfl (by kernel_rfl) (by kernel_rfl) (by kernel_rfl) (fun _ _ _ h => h) (Or.inl ⟨by rfl, ?_⟩) (by assumption) ?_
                      rotate_left
                      · ((intro w hSw; (try dsimp only at hSw); go_simp) <;> (with_reducible rfl))
                      try simp only [Act.put, List.setIfInBounds_toArray, List.set_cons_zero, List.set_cons_succ]
                      refine wpAnyH_take (i := 12) (oi := { dst := some 67, op := Go.Op.binOp Go.BinOp.neq 3 (Go.Operand.tmp 64) (Go.Operand.tmp 66) 3, type := 4, pos := "law.go:42", after := #[{ on := 9, ground := Go.Ground.data }, { on := 11, ground := Go.Ground.data }, { on := 4, ground := Go.Ground.guard }], guard := some (4, true) }) (v := ?_) rfl (by kernel_rfl) (by kernel_rfl) (by kernel_rfl) (fun _ _ _ h => h) (Or.inl ⟨by rfl, ?_⟩) (by assumption) ?_
                      rotate_left
                      · ((intro w hSw; (try dsimp only at hSw); go_simp) <;> (with_reducible rfl))
                      try simp only [Act.put, List.setIfInBounds_toArray, List.set_cons_zero, List.set_cons_succ]
                      refine wpAnyH_take (i := 13) (oi := { dst := some 68, op := Go.Op.move (Go.Operand.tmp 67), type := 4, pos := "law.go:42", after := #[{ on := 12, ground := Go.Ground.data }, { on := 4, ground := Go.Ground.chain }, { on := 4, ground := Go.Ground.guard }], guard := some (4, true) }) (v := ?_) rfl (by kernel_rfl) (by kernel_rfl) (by kernel_rfl) (fun _ _ _ h => h) (Or.inl ⟨by rfl, ?_⟩) (by assumption) ?_
                      rotate_left
                      · ((intro w hSw; (try dsimp only at hSw); go_simp) <;> (with_reducible rfl))
                      try simp only [Act.put, List.setIfInBounds_toArray, List.set_cons_zero, List.set_cons_succ]
                      refine wpAnyH_take (i := 14) (oi := { dst := some 69, op := Go.Op.move (Go.Operand.tmp 9), type := 22, pos := "law.go:42", after := #[{ on := 13, ground := Go.Ground.guard }], guard := some (13, false) }) (v := ?_) rfl (by kernel_rfl) (by kernel_rfl) (by kernel_rfl) (fun _ _ _ h => h) (Or.inl ⟨by rfl, ?_⟩) (by assumption) ?_
                      rotate_left
                      · ((intro w hSw; (try dsimp only at hSw); go_simp) <;> (with_reducible rfl))
                      try simp only [Act.put, List.setIfInBounds_toArray, List.set_cons_zero, List.set_cons_succ]
                      refine wpAnyH_take (i := 15) (oi := { dst := some 70, op := Go.Op.move (Go.Operand.tmp 12), type := 3, pos := "law.go:42", after := #[{ on := 13, ground := Go.Ground.guard }], guard := some (13, false) }) (v := ?_) rfl (by kernel_rfl) (by kernel_rfl) (by kernel_rfl) (fun _ _ _ h => h) (Or.inl ⟨by rfl, ?_⟩) (by assumption) ?_
                      rotate_left
                      · ((intro w hSw; (try dsimp only at hSw); go_simp) <;> (with_reducible rfl))
                      try simp only [Act.put, List.setIfInBounds_toArray, List.set_cons_zero, List.set_cons_succ]
                      refine wpAnyH_take (i := 16) (oi := { dst := some 71, op := Go.Op.indexAddr 22 (Go.Operand.tmp 69) (Go.Operand.tmp 70), type := 0, pos := "law.go:42", after := #[{ on := 14, ground := Go.Ground.data }, { on := 15, ground := Go.Ground.data }, { on := 13, ground := Go.Ground.guard }], guard := some (13, false) }) (v := ?_) rfl (by kernel_rfl) (by kernel_rfl) (by kernel_rfl) (fun _ _ _ h => h) (Or.inl ⟨by rfl, ?_⟩) (by assumption) ?_
                      rotate_left
                      · ((intro w hSw; (try dsimp only at hSw); go_simp) <;> (with_reducible rfl))
                      try simp only [Act.put, List.setIfInBounds_toArray, List.set_cons_zero, List.set_cons_succ]
                      refine wpAnyH_take (i := 17) (oi := { dst := some 72, op := Go.Op.fieldAddr 27 (Go.Operand.tmp 71) 2, type := 0, pos := "law.go:42", after := #[{ on := 16, ground := Go.Ground.data }, { on := 13, ground := Go.Ground.guard }], guard := some (13, false) }) (v := ?_) rfl (by kernel_rfl) (by kernel_rfl) (by kernel_rfl) (fun _ _ _ h => h) (Or.inl ⟨by rfl, ?_⟩) (by assumption) ?_
                      rotate_left
                      · ((intro w hSw; (try dsimp only at hSw); go_simp) <;> (with_reducible rfl))
                      try simp only [Act.put, List.setIfInBounds_toArray, List.set_cons_zero, List.set_cons_succ]
                      refine wpAnyH_take (i := 18) (oi := { dst := some 73, op := Go.Op.load 3 (Go.Operand.tmp 72), type := 3, pos := "law.go:42", after := #[{ on := 17, ground := Go.Ground.data }, { on := 13, ground := Go.Ground.guard }], guard := some (13, false) }) (v := ?_) rfl (by kernel_rfl) (by kernel_rfl) (by kernel_rfl) (fun _ _ _ h => h) (Or.inl ⟨by rfl, ?_⟩) (by assumption) ?_
                      rotate_left
                      · ((intro w hSw; (try dsimp only at hSw); go_simp) <;> (with_reducible rfl))
                      try simp only [Act.put, List.setIfInBounds_toArray, List.set_cons_zero, List.set_cons_succ]
                      refine wpAnyH_take (i := 19) (oi := { dst := some 74, op := Go.Op.fieldAddr 27 (Go.Operand.tmp 11) 2, type := 0, pos := "law.go:42", after := #[{ on := 13, ground := Go.Ground.guard }], guard := some (13, false) }) (v := ?_) rfl (by kernel_rfl) (by kernel_rfl) (by kernel_rfl) (fun _ _ _ h => h) (Or.inl ⟨by rfl, ?_⟩) (by assumption) ?_
                      rotate_left
                      · ((intro w hSw; (try dsimp only at hSw); go_simp) <;> (with_reducible rfl))
                      try simp only [Act.put, List.setIfInBounds_toArray, List.set_cons_zero, List.set_cons_succ]
                      refine wpAnyH_take (i := 20) (oi := { dst := some 75, op := Go.Op.load 3 (Go.Operand.tmp 74), type := 3, pos := "law.go:42", after := #[{ on := 19, ground := Go.Ground.data }, { on := 13, ground := Go.Ground.guard }], guard := some (13, false) }) (v := ?_) rfl (by kernel_rfl) (by kernel_rfl) (by kernel_rfl) (fun _ _ _ h => h) (Or.inl ⟨by rfl, ?_⟩) (by assumption) ?_
                      rotate_left
                      · ((intro w hSw; (try dsimp only at hSw); go_simp) <;> (with_reducible rfl))
                      try simp only [Act.put, List.setIfInBounds_toArray, List.set_cons_zero, List.set_cons_succ]
                      refine wpAnyH_take (i := 21) (oi := { dst := some 76, op := Go.Op.binOp Go.BinOp.neq 3 (Go.Operand.tmp 73) (Go.Operand.tmp 75) 3, type := 4, pos := "law.go:42", after := #[{ on := 18, ground := Go.Ground.data }, { on := 20, ground := Go.Ground.data }, { on := 13, ground := Go.Ground.guard }], guard := some (13, false) }) (v := ?_) rfl (by kernel_rfl) (by kernel_rfl) (by kernel_rfl) (fun _ _ _ h => h) (Or.inl ⟨by rfl, ?_⟩) (by assumption) ?_
                      rotate_left
                      · ((intro w hSw; (try dsimp only at hSw); go_simp) <;> (with_reducible rfl))
                      try simp only [Act.put, List.setIfInBounds_toArray, List.set_cons_zero, List.set_cons_succ]
                      refine wpAnyH_take (i := 22) (oi := { dst := some 77, op := Go.Op.pick (Go.Operand.tmp 68) (Go.Operand.const (Go.Value.bool true)) (Go.Operand.tmp 76), type := 4, pos := "law.go:42", after := #[{ on := 13, ground := Go.Ground.data }, { on := 21, ground := Go.Ground.data }, { on := 4, ground := Go.Ground.guard }], guard := some (4, true) }) (v := ?_) rfl (by kernel_rfl) (by kernel_rfl) (by kernel_rfl) (fun _ _ _ h => h) (Or.inl ⟨by rfl, ?_⟩) (by assumption) ?_
                      rotate_left
                      · ((intro w hSw; (try dsimp only at hSw); go_simp) <;> (with_reducible rfl))
                      try simp only [Act.put, List.setIfInBounds_toArray, List.set_cons_zero, List.set_cons_succ]
                      refine wpAnyH_take (i := 23) (oi := { dst := some 78, op := Go.Op.pick (Go.Operand.tmp 59) (Go.Operand.tmp 77) (Go.Operand.const (Go.Value.bool false)), type := 4, pos := "law.go:42", after := #[{ on := 4, ground := Go.Ground.data }, { on := 22, ground := Go.Ground.data }], guard := none }) (v := ?_) rfl (by kernel_rfl) (by kernel_rfl) (by kernel_rfl) (fun _ _ _ h => h) (Or.inl ⟨by rfl, ?_⟩) (by assumption) ?_
                      rotate_left
                      · ((intro w hSw; (try dsimp only at hSw); go_simp) <;> (with_reducible rfl))
                      try simp only [Act.put, List.setIfInBounds_toArray, List.set_cons_zero, List.set_cons_succ]
                      refine wpAnyH_done (by kernel_rfl) ?_ _
                      go_wp2_with fail
                      go_roundw
                      case rel => exact ⟨k + 1, by go_num, hn', hb.drew⟩
                      case measure => simp [intOf]; omega
                  · have hn' := Lib.hid (hn (fun h => ht1 (Prod.mk.inj h).1))
                    have hbt : (xt != tag) = true := by simp [ht1]
                    clear hn ht1 hat
                    go_upto_region 18 with fail
                    refine wp_region_held_drew (S := (fun u => u.cell? ⟨A, 1, none⟩ = some (i64 tag) ∧ u.cell? ⟨A, 2, none⟩ = some (i64 vpn) ∧ u.cell? ⟨g, k * 4 + 1, none⟩ = some (i64 xt) ∧ u.cell? ⟨g, k * 4 + 2, none⟩ = some (i64 xv))) (by kernel_rfl) ?_ (fun hH0 => ?_)
                    · ((try dsimp only); first | exact hS0 | assumption)
                    refine wpAnyH_take (i := 0) (oi := { dst := some 55, op := Go.Op.move (Go.Operand.tmp 12), type := 3, pos := "law.go:42", after := #[], guard := none }) (v := ?_) rfl (by kernel_rfl) (by kernel_rfl) (by kernel_rfl) (fun _ _ _ h => h) (Or.inl ⟨by rfl, ?_⟩) (by assumption) ?_
                    rotate_left
                    · ((intro w hSw; (try dsimp only at hSw); go_simp) <;> (with_reducible rfl))
                    try simp only [Act.put, List.setIfInBounds_toArray, List.set_cons_zero, List.set_cons_succ]
                    refine wpAnyH_take (i := 1) (oi := { dst := some 56, op := Go.Op.move (Go.Operand.tmp 9), type := 22, pos := "law.go:42", after := #[], guard := none }) (v := ?_) rfl (by kernel_rfl) (by kernel_rfl) (by kernel_rfl) (fun _ _ _ h => h) (Or.inl ⟨by rfl, ?_⟩) (by assumption) ?_
                    rotate_left
                    · ((intro w hSw; (try dsimp only at hSw); go_simp) <;> (with_reducible rfl))
                    try simp only [Act.put, List.setIfInBounds_toArray, List.set_cons_zero, List.set_cons_succ]
                    refine wpAnyH_take (i := 2) (oi := { dst := some 57, op := Go.Op.call { callee := Go.Callee.builtin Go.Builtin.len, args := #[Go.Operand.tmp 56], argTypes := #[22] }, type := 3, pos := "law.go:42", after := #[{ on := 1, ground := Go.Ground.data }], guard := none }) (v := ?_) rfl (by kernel_rfl) (by kernel_rfl) (by kernel_rfl) (fun _ _ _ h => h) (Or.inl ⟨by rfl, ?_⟩) (by assumption) ?_
                    rotate_left
                    · ((intro w hSw; (try dsimp only at hSw); go_simp) <;> (with_reducible rfl))
                    try simp only [Act.put, List.setIfInBounds_toArray, List.set_cons_zero, List.set_cons_succ]
                    refine wpAnyH_take (i := 3) (oi := { dst := some 58, op := Go.Op.binOp Go.BinOp.lss 3 (Go.Operand.tmp 55) (Go.Operand.tmp 57) 3, type := 4, pos := "law.go:42", after := #[{ on := 0, ground := Go.Ground.data }, { on := 2, ground := Go.Ground.data }], guard := none }) (v := ?_) rfl (by kernel_rfl) (by kernel_rfl) (by kernel_rfl) (fun _ _ _ h => h) (Or.inl ⟨by rfl, ?_⟩) (by assumption) ?_
                    rotate_left
                    · ((intro w hSw; (try dsimp only at hSw); go_simp) <;> (with_reducible rfl))
                    try simp only [Act.put, List.setIfInBounds_toArray, List.set_cons_zero, List.set_cons_succ]
                    refine wpAnyH_take (i := 4) (oi := { dst := some 59, op := Go.Op.move (Go.Operand.tmp 58), type := 4, pos := "law.go:42", after := #[{ on := 3, ground := Go.Ground.data }], guard := none }) (v := ?_) rfl (by kernel_rfl) (by kernel_rfl) (by kernel_rfl) (fun _ _ _ h => h) (Or.inl ⟨by rfl, ?_⟩) (by assumption) ?_
                    rotate_left
                    · ((intro w hSw; (try dsimp only at hSw); go_simp) <;> (with_reducible rfl))
                    try simp only [Act.put, List.setIfInBounds_toArray, List.set_cons_zero, List.set_cons_succ]
                    refine wpAnyH_take (i := 5) (oi := { dst := some 60, op := Go.Op.move (Go.Operand.tmp 9), type := 22, pos := "law.go:42", after := #[{ on := 4, ground := Go.Ground.guard }], guard := some (4, true) }) (v := ?_) rfl (by kernel_rfl) (by kernel_rfl) (by kernel_rfl) (fun _ _ _ h => h) (Or.inl ⟨by rfl, ?_⟩) (by assumption) ?_
                    rotate_left
                    · ((intro w hSw; (try dsimp only at hSw); go_simp) <;> (with_reducible rfl))
                    try simp only [Act.put, List.setIfInBounds_toArray, List.set_cons_zero, List.set_cons_succ]
                    refine wpAnyH_take (i := 6) (oi := { dst := some 61, op := Go.Op.move (Go.Operand.tmp 12), type := 3, pos := "law.go:42", after := #[{ on := 4, ground := Go.Ground.guard }], guard := some (4, true) }) (v := ?_) rfl (by kernel_rfl) (by kernel_rfl) (by kernel_rfl) (fun _ _ _ h => h) (Or.inl ⟨by rfl, ?_⟩) (by assumption) ?_
                    rotate_left
                    · ((intro w hSw; (try dsimp only at hSw); go_simp) <;> (with_reducible rfl))
                    try simp only [Act.put, List.setIfInBounds_toArray, List.set_cons_zero, List.set_cons_succ]
                    refine wpAnyH_take (i := 7) (oi := { dst := some 62, op := Go.Op.indexAddr 22 (Go.Operand.tmp 60) (Go.Operand.tmp 61), type := 0, pos := "law.go:42", after := #[{ on := 5, ground := Go.Ground.data }, { on := 6, ground := Go.Ground.data }, { on := 4, ground := Go.Ground.guard }], guard := some (4, true) }) (v := ?_) rfl (by kernel_rfl) (by kernel_rfl) (by kernel_rfl) (fun _ _ _ h => h) (Or.inl ⟨by rfl, ?_⟩) (by assumption) ?_
                    rotate_left
                    · ((intro w hSw; (try dsimp only at hSw); go_simp) <;> (with_reducible rfl))
                    try simp only [Act.put, List.setIfInBounds_toArray, List.set_cons_zero, List.set_cons_succ]
                    refine wpAnyH_take (i := 8) (oi := { dst := some 63, op := Go.Op.fieldAddr 27 (Go.Operand.tmp 62) 1, type := 0, pos := "law.go:42", after := #[{ on := 7, ground := Go.Ground.data }, { on := 4, ground := Go.Ground.guard }], guard := some (4, true) }) (v := ?_) rfl (by kernel_rfl) (by kernel_rfl) (by kernel_rfl) (fun _ _ _ h => h) (Or.inl ⟨by rfl, ?_⟩) (by assumption) ?_
                    rotate_left
                    · ((intro w hSw; (try dsimp only at hSw); go_simp) <;> (with_reducible rfl))
                    try simp only [Act.put, List.setIfInBounds_toArray, List.set_cons_zero, List.set_cons_succ]
                    refine wpAnyH_take (i := 9) (oi := { dst := some 64, op := Go.Op.load 3 (Go.Operand.tmp 63), type := 3, pos := "law.go:42", after := #[{ on := 8, ground := Go.Ground.data }, { on := 4, ground := Go.Ground.guard }], guard := some (4, true) }) (v := ?_) rfl (by kernel_rfl) (by kernel_rfl) (by kernel_rfl) (fun _ _ _ h => h) (Or.inl ⟨by rfl, ?_⟩) (by assumption) ?_
                    rotate_left
                    · ((intro w hSw; (try dsimp only at hSw); go_simp) <;> (with_reducible rfl))
                    try simp only [Act.put, List.setIfInBounds_toArray, List.set_cons_zero, List.set_cons_succ]
                    refine wpAnyH_take (i := 10) (oi := { dst := some 65, op := Go.Op.fieldAddr 27 (Go.Operand.tmp 11) 1, type := 0, pos := "law.go:42", after := #[{ on := 4, ground := Go.Ground.guard }], guard := some (4, true) }) (v := ?_) rfl (by kernel_rfl) (by kernel_rfl) (by kernel_rfl) (fun _ _ _ h => h) (Or.inl ⟨by rfl, ?_⟩) (by assumption) ?_
                    rotate_left
                    · ((intro w hSw; (try dsimp only at hSw); go_simp) <;> (with_reducible rfl))
                    try simp only [Act.put, List.setIfInBounds_toArray, List.set_cons_zero, List.set_cons_succ]
                    refine wpAnyH_take (i := 11) (oi := { dst := some 66, op := Go.Op.load 3 (Go.Operand.tmp 65), type := 3, pos := "law.go:42", after := #[{ on := 10, ground := Go.Ground.data }, { on := 4, ground := Go.Ground.guard }], guard := some (4, true) }) (v := ?_) rfl (by kernel_rfl) (by kernel_rfl) (by kernel_rfl) (fun _ _ _ h => h) (Or.inl ⟨by rfl, ?_⟩) (by assumption) ?_
                    rotate_left
                    · ((intro w hSw; (try dsimp only at hSw); go_simp) <;> (with_reducible rfl))
                    try simp only [Act.put, List.setIfInBounds_toArray, List.set_cons_zero, List.set_cons_succ]
                    refine wpAnyH_take (i := 12) (oi := { dst := some 67, op := Go.Op.binOp Go.BinOp.neq 3 (Go.Operand.tmp 64) (Go.Operand.tmp 66) 3, type := 4, pos := "law.go:42", after := #[{ on := 9, ground := Go.Ground.data }, { on := 11, ground := Go.Ground.data }, { on := 4, ground := Go.Ground.guard }], guard := some (4, true) }) (v := ?_) rfl (by kernel_rfl) (by kernel_rfl) (by kernel_rfl) (fun _ _ _ h => h) (Or.inl ⟨by rfl, ?_⟩) (by assumption) ?_
                    rotate_left
                    · ((intro w hSw; (try dsimp only at hSw); go_simp) <;> (with_reducible rfl))
                    try simp only [Act.put, List.setIfInBounds_toArray, List.set_cons_zero, List.set_cons_succ]
                    refine wpAnyH_take (i := 13) (oi := { dst := some 68, op := Go.Op.move (Go.Operand.tmp 67), type := 4, pos := "law.go:42", after := #[{ on := 12, ground := Go.Ground.data }, { on := 4, ground := Go.Ground.chain }, { on := 4, ground := Go.Ground.guard }], guard := some (4, true) }) (v := ?_) rfl (by kernel_rfl) (by kernel_rfl) (by kernel_rfl) (fun _ _ _ h => h) (Or.inl ⟨by rfl, ?_⟩) (by assumption) ?_
                    rotate_left
                    · ((intro w hSw; (try dsimp only at hSw); go_simp) <;> (with_reducible rfl))
                    try simp only [Act.put, List.setIfInBounds_toArray, List.set_cons_zero, List.set_cons_succ]
                    refine wpAnyH_take (i := 14) (oi := { dst := some 69, op := Go.Op.move (Go.Operand.tmp 9), type := 22, pos := "law.go:42", after := #[{ on := 13, ground := Go.Ground.guard }], guard := some (13, false) }) (v := undef) rfl (by kernel_rfl) (by kernel_rfl) (by kernel_rfl) (fun _ _ _ h => h) (Or.inr ⟨by rfl, rfl⟩) (by assumption) ?_
                    try simp only [Act.put, List.setIfInBounds_toArray, List.set_cons_zero, List.set_cons_succ]
                    refine wpAnyH_take (i := 15) (oi := { dst := some 70, op := Go.Op.move (Go.Operand.tmp 12), type := 3, pos := "law.go:42", after := #[{ on := 13, ground := Go.Ground.guard }], guard := some (13, false) }) (v := undef) rfl (by kernel_rfl) (by kernel_rfl) (by kernel_rfl) (fun _ _ _ h => h) (Or.inr ⟨by rfl, rfl⟩) (by assumption) ?_
                    try simp only [Act.put, List.setIfInBounds_toArray, List.set_cons_zero, List.set_cons_succ]
                    refine wpAnyH_take (i := 16) (oi := { dst := some 71, op := Go.Op.indexAddr 22 (Go.Operand.tmp 69) (Go.Operand.tmp 70), type := 0, pos := "law.go:42", after := #[{ on := 14, ground := Go.Ground.data }, { on := 15, ground := Go.Ground.data }, { on := 13, ground := Go.Ground.guard }], guard := some (13, false) }) (v := undef) rfl (by kernel_rfl) (by kernel_rfl) (by kernel_rfl) (fun _ _ _ h => h) (Or.inr ⟨by rfl, rfl⟩) (by assumption) ?_
                    try simp only [Act.put, List.setIfInBounds_toArray, List.set_cons_zero, List.set_cons_succ]
                    refine wpAnyH_take (i := 17) (oi := { dst := some 72, op := Go.Op.fieldAddr 27 (Go.Operand.tmp 71) 2, type := 0, pos := "law.go:42", after := #[{ on := 16, ground := Go.Ground.data }, { on := 13, ground := Go.Ground.guard }], guard := some (13, false) }) (v := undef) rfl (by kernel_rfl) (by kernel_rfl) (by kernel_rfl) (fun _ _ _ h => h) (Or.inr ⟨by rfl, rfl⟩) (by assumption) ?_
                    try simp only [Act.put, List.setIfInBounds_toArray, List.set_cons_zero, List.set_cons_succ]
                    refine wpAnyH_take (i := 18) (oi := { dst := some 73, op := Go.Op.load 3 (Go.Operand.tmp 72), type := 3, pos := "law.go:42", after := #[{ on := 17, ground := Go.Ground.data }, { on := 13, ground := Go.Ground.guard }], guard := some (13, false) }) (v := undef) rfl (by kernel_rfl) (by kernel_rfl) (by kernel_rfl) (fun _ _ _ h => h) (Or.inr ⟨by rfl, rfl⟩) (by assumption) ?_
                    try simp only [Act.put, List.setIfInBounds_toArray, List.set_cons_zero, List.set_cons_succ]
                    refine wpAnyH_take (i := 19) (oi := { dst := some 74, op := Go.Op.fieldAddr 27 (Go.Operand.tmp 11) 2, type := 0, pos := "law.go:42", after := #[{ on := 13, ground := Go.Ground.guard }], guard := some (13, false) }) (v := undef) rfl (by kernel_rfl) (by kernel_rfl) (by kernel_rfl) (fun _ _ _ h => h) (Or.inr ⟨by rfl, rfl⟩) (by assumption) ?_
                    try simp only [Act.put, List.setIfInBounds_toArray, List.set_cons_zero, List.set_cons_succ]
                    refine wpAnyH_take (i := 20) (oi := { dst := some 75, op := Go.Op.load 3 (Go.Operand.tmp 74), type := 3, pos := "law.go:42", after := #[{ on := 19, ground := Go.Ground.data }, { on := 13, ground := Go.Ground.guard }], guard := some (13, false) }) (v := undef) rfl (by kernel_rfl) (by kernel_rfl) (by kernel_rfl) (fun _ _ _ h => h) (Or.inr ⟨by rfl, rfl⟩) (by assumption) ?_
                    try simp only [Act.put, List.setIfInBounds_toArray, List.set_cons_zero, List.set_cons_succ]
                    refine wpAnyH_take (i := 21) (oi := { dst := some 76, op := Go.Op.binOp Go.BinOp.neq 3 (Go.Operand.tmp 73) (Go.Operand.tmp 75) 3, type := 4, pos := "law.go:42", after := #[{ on := 18, ground := Go.Ground.data }, { on := 20, ground := Go.Ground.data }, { on := 13, ground := Go.Ground.guard }], guard := some (13, false) }) (v := undef) rfl (by kernel_rfl) (by kernel_rfl) (by kernel_rfl) (fun _ _ _ h => h) (Or.inr ⟨by rfl, rfl⟩) (by assumption) ?_
                    try simp only [Act.put, List.setIfInBounds_toArray, List.set_cons_zero, List.set_cons_succ]
                    refine wpAnyH_take (i := 22) (oi := { dst := some 77, op := Go.Op.pick (Go.Operand.tmp 68) (Go.Operand.const (Go.Value.bool true)) (Go.Operand.tmp 76), type := 4, pos := "law.go:42", after := #[{ on := 13, ground := Go.Ground.data }, { on := 21, ground := Go.Ground.data }, { on := 4, ground := Go.Ground.guard }], guard := some (4, true) }) (v := ?_) rfl (by kernel_rfl) (by kernel_rfl) (by kernel_rfl) (fun _ _ _ h => h) (Or.inl ⟨by rfl, ?_⟩) (by assumption) ?_
                    rotate_left
                    · ((intro w hSw; (try dsimp only at hSw); go_simp) <;> (with_reducible rfl))
                    try simp only [Act.put, List.setIfInBounds_toArray, List.set_cons_zero, List.set_cons_succ]
                    refine wpAnyH_take (i := 23) (oi := { dst := some 78, op := Go.Op.pick (Go.Operand.tmp 59) (Go.Operand.tmp 77) (Go.Operand.const (Go.Value.bool false)), type := 4, pos := "law.go:42", after := #[{ on := 4, ground := Go.Ground.data }, { on := 22, ground := Go.Ground.data }], guard := none }) (v := ?_) rfl (by kernel_rfl) (by kernel_rfl) (by kernel_rfl) (fun _ _ _ h => h) (Or.inl ⟨by rfl, ?_⟩) (by assumption) ?_
                    rotate_left
                    · ((intro w hSw; (try dsimp only at hSw); go_simp) <;> (with_reducible rfl))
                    try simp only [Act.put, List.setIfInBounds_toArray, List.set_cons_zero, List.set_cons_succ]
                    refine wpAnyH_done (by kernel_rfl) ?_ _
                    go_wp2_with fail
                    go_roundw
                    case rel => exact ⟨k + 1, by go_num, hn', hb.drew⟩
                    case measure => simp [intOf]; omega
                · have hfnd : Hid (Fnd R (tag, vpn) k) := ⟨hF.out, fun h => absurd h hk⟩
                  have hd : decide ((k : Int) < (R.length : Int)) = false := decide_eq_false (by omega)
                  have hS0 : wr.drew.cell? ⟨A, 1, none⟩ = some (i64 tag) := d1
                  clear s3 d0 d1 d2 d3
                  go_upto_region 18 with fail
                  refine wp_region_held_drew (S := (fun u => u.cell? ⟨A, 1, none⟩ = some (i64 tag))) (by kernel_rfl) ?_ (fun hH0 => ?_)
                  · ((try dsimp only); first | exact hS0 | assumption)
                  refine wpAnyH_take (i := 0) (oi := { dst := some 55, op := Go.Op.move (Go.Operand.tmp 12), type := 3, pos := "law.go:42", after := #[], guard := none }) (v := ?_) rfl (by kernel_rfl) (by kernel_rfl) (by kernel_rfl) (fun _ _ _ h => h) (Or.inl ⟨by rfl, ?_⟩) (by assumption) ?_
                  rotate_left
                  · ((intro w hSw; (try dsimp only at hSw); go_simp) <;> (with_reducible rfl))
                  try simp only [Act.put, List.setIfInBounds_toArray, List.set_cons_zero, List.set_cons_succ]
                  refine wpAnyH_take (i := 1) (oi := { dst := some 56, op := Go.Op.move (Go.Operand.tmp 9), type := 22, pos := "law.go:42", after := #[], guard := none }) (v := ?_) rfl (by kernel_rfl) (by kernel_rfl) (by kernel_rfl) (fun _ _ _ h => h) (Or.inl ⟨by rfl, ?_⟩) (by assumption) ?_
                  rotate_left
                  · ((intro w hSw; (try dsimp only at hSw); go_simp) <;> (with_reducible rfl))
                  try simp only [Act.put, List.setIfInBounds_toArray, List.set_cons_zero, List.set_cons_succ]
                  refine wpAnyH_take (i := 2) (oi := { dst := some 57, op := Go.Op.call { callee := Go.Callee.builtin Go.Builtin.len, args := #[Go.Operand.tmp 56], argTypes := #[22] }, type := 3, pos := "law.go:42", after := #[{ on := 1, ground := Go.Ground.data }], guard := none }) (v := ?_) rfl (by kernel_rfl) (by kernel_rfl) (by kernel_rfl) (fun _ _ _ h => h) (Or.inl ⟨by rfl, ?_⟩) (by assumption) ?_
                  rotate_left
                  · ((intro w hSw; (try dsimp only at hSw); go_simp) <;> (with_reducible rfl))
                  try simp only [Act.put, List.setIfInBounds_toArray, List.set_cons_zero, List.set_cons_succ]
                  refine wpAnyH_take (i := 3) (oi := { dst := some 58, op := Go.Op.binOp Go.BinOp.lss 3 (Go.Operand.tmp 55) (Go.Operand.tmp 57) 3, type := 4, pos := "law.go:42", after := #[{ on := 0, ground := Go.Ground.data }, { on := 2, ground := Go.Ground.data }], guard := none }) (v := ?_) rfl (by kernel_rfl) (by kernel_rfl) (by kernel_rfl) (fun _ _ _ h => h) (Or.inl ⟨by rfl, ?_⟩) (by assumption) ?_
                  rotate_left
                  · ((intro w hSw; (try dsimp only at hSw); go_simp) <;> (with_reducible rfl))
                  try simp only [Act.put, List.setIfInBounds_toArray, List.set_cons_zero, List.set_cons_succ]
                  refine wpAnyH_take (i := 4) (oi := { dst := some 59, op := Go.Op.move (Go.Operand.tmp 58), type := 4, pos := "law.go:42", after := #[{ on := 3, ground := Go.Ground.data }], guard := none }) (v := ?_) rfl (by kernel_rfl) (by kernel_rfl) (by kernel_rfl) (fun _ _ _ h => h) (Or.inl ⟨by rfl, ?_⟩) (by assumption) ?_
                  rotate_left
                  · ((intro w hSw; (try dsimp only at hSw); go_simp) <;> (with_reducible rfl))
                  try simp only [Act.put, List.setIfInBounds_toArray, List.set_cons_zero, List.set_cons_succ]
                  refine wpAnyH_take (i := 5) (oi := { dst := some 60, op := Go.Op.move (Go.Operand.tmp 9), type := 22, pos := "law.go:42", after := #[{ on := 4, ground := Go.Ground.guard }], guard := some (4, true) }) (v := undef) rfl (by kernel_rfl) (by kernel_rfl) (by kernel_rfl) (fun _ _ _ h => h) (Or.inr ⟨by rfl, rfl⟩) (by assumption) ?_
                  try simp only [Act.put, List.setIfInBounds_toArray, List.set_cons_zero, List.set_cons_succ]
                  refine wpAnyH_take (i := 6) (oi := { dst := some 61, op := Go.Op.move (Go.Operand.tmp 12), type := 3, pos := "law.go:42", after := #[{ on := 4, ground := Go.Ground.guard }], guard := some (4, true) }) (v := undef) rfl (by kernel_rfl) (by kernel_rfl) (by kernel_rfl) (fun _ _ _ h => h) (Or.inr ⟨by rfl, rfl⟩) (by assumption) ?_
                  try simp only [Act.put, List.setIfInBounds_toArray, List.set_cons_zero, List.set_cons_succ]
                  refine wpAnyH_take (i := 7) (oi := { dst := some 62, op := Go.Op.indexAddr 22 (Go.Operand.tmp 60) (Go.Operand.tmp 61), type := 0, pos := "law.go:42", after := #[{ on := 5, ground := Go.Ground.data }, { on := 6, ground := Go.Ground.data }, { on := 4, ground := Go.Ground.guard }], guard := some (4, true) }) (v := undef) rfl (by kernel_rfl) (by kernel_rfl) (by kernel_rfl) (fun _ _ _ h => h) (Or.inr ⟨by rfl, rfl⟩) (by assumption) ?_
                  try simp only [Act.put, List.setIfInBounds_toArray, List.set_cons_zero, List.set_cons_succ]
                  refine wpAnyH_take (i := 8) (oi := { dst := some 63, op := Go.Op.fieldAddr 27 (Go.Operand.tmp 62) 1, type := 0, pos := "law.go:42", after := #[{ on := 7, ground := Go.Ground.data }, { on := 4, ground := Go.Ground.guard }], guard := some (4, true) }) (v := undef) rfl (by kernel_rfl) (by kernel_rfl) (by kernel_rfl) (fun _ _ _ h => h) (Or.inr ⟨by rfl, rfl⟩) (by assumption) ?_
                  try simp only [Act.put, List.setIfInBounds_toArray, List.set_cons_zero, List.set_cons_succ]
                  refine wpAnyH_take (i := 9) (oi := { dst := some 64, op := Go.Op.load 3 (Go.Operand.tmp 63), type := 3, pos := "law.go:42", after := #[{ on := 8, ground := Go.Ground.data }, { on := 4, ground := Go.Ground.guard }], guard := some (4, true) }) (v := undef) rfl (by kernel_rfl) (by kernel_rfl) (by kernel_rfl) (fun _ _ _ h => h) (Or.inr ⟨by rfl, rfl⟩) (by assumption) ?_
                  try simp only [Act.put, List.setIfInBounds_toArray, List.set_cons_zero, List.set_cons_succ]
                  refine wpAnyH_take (i := 10) (oi := { dst := some 65, op := Go.Op.fieldAddr 27 (Go.Operand.tmp 11) 1, type := 0, pos := "law.go:42", after := #[{ on := 4, ground := Go.Ground.guard }], guard := some (4, true) }) (v := undef) rfl (by kernel_rfl) (by kernel_rfl) (by kernel_rfl) (fun _ _ _ h => h) (Or.inr ⟨by rfl, rfl⟩) (by assumption) ?_
                  try simp only [Act.put, List.setIfInBounds_toArray, List.set_cons_zero, List.set_cons_succ]
                  refine wpAnyH_take (i := 11) (oi := { dst := some 66, op := Go.Op.load 3 (Go.Operand.tmp 65), type := 3, pos := "law.go:42", after := #[{ on := 10, ground := Go.Ground.data }, { on := 4, ground := Go.Ground.guard }], guard := some (4, true) }) (v := undef) rfl (by kernel_rfl) (by kernel_rfl) (by kernel_rfl) (fun _ _ _ h => h) (Or.inr ⟨by rfl, rfl⟩) (by assumption) ?_
                  try simp only [Act.put, List.setIfInBounds_toArray, List.set_cons_zero, List.set_cons_succ]
                  refine wpAnyH_take (i := 12) (oi := { dst := some 67, op := Go.Op.binOp Go.BinOp.neq 3 (Go.Operand.tmp 64) (Go.Operand.tmp 66) 3, type := 4, pos := "law.go:42", after := #[{ on := 9, ground := Go.Ground.data }, { on := 11, ground := Go.Ground.data }, { on := 4, ground := Go.Ground.guard }], guard := some (4, true) }) (v := undef) rfl (by kernel_rfl) (by kernel_rfl) (by kernel_rfl) (fun _ _ _ h => h) (Or.inr ⟨by rfl, rfl⟩) (by assumption) ?_
                  try simp only [Act.put, List.setIfInBounds_toArray, List.set_cons_zero, List.set_cons_succ]
                  refine wpAnyH_take (i := 13) (oi := { dst := some 68, op := Go.Op.move (Go.Operand.tmp 67), type := 4, pos := "law.go:42", after := #[{ on := 12, ground := Go.Ground.data }, { on := 4, ground := Go.Ground.chain }, { on := 4, ground := Go.Ground.guard }], guard := some (4, true) }) (v := undef) rfl (by kernel_rfl) (by kernel_rfl) (by kernel_rfl) (fun _ _ _ h => h) (Or.inr ⟨by rfl, rfl⟩) (by assumption) ?_
                  try simp only [Act.put, List.setIfInBounds_toArray, List.set_cons_zero, List.set_cons_succ]
                  refine wpAnyH_take (i := 14) (oi := { dst := some 69, op := Go.Op.move (Go.Operand.tmp 9), type := 22, pos := "law.go:42", after := #[{ on := 13, ground := Go.Ground.guard }], guard := some (13, false) }) (v := undef) rfl (by kernel_rfl) (by kernel_rfl) (by kernel_rfl) (fun _ _ _ h => h) (Or.inr ⟨by rfl, rfl⟩) (by assumption) ?_
                  try simp only [Act.put, List.setIfInBounds_toArray, List.set_cons_zero, List.set_cons_succ]
                  refine wpAnyH_take (i := 15) (oi := { dst := some 70, op := Go.Op.move (Go.Operand.tmp 12), type := 3, pos := "law.go:42", after := #[{ on := 13, ground := Go.Ground.guard }], guard := some (13, false) }) (v := undef) rfl (by kernel_rfl) (by kernel_rfl) (by kernel_rfl) (fun _ _ _ h => h) (Or.inr ⟨by rfl, rfl⟩) (by assumption) ?_
                  try simp only [Act.put, List.setIfInBounds_toArray, List.set_cons_zero, List.set_cons_succ]
                  refine wpAnyH_take (i := 16) (oi := { dst := some 71, op := Go.Op.indexAddr 22 (Go.Operand.tmp 69) (Go.Operand.tmp 70), type := 0, pos := "law.go:42", after := #[{ on := 14, ground := Go.Ground.data }, { on := 15, ground := Go.Ground.data }, { on := 13, ground := Go.Ground.guard }], guard := some (13, false) }) (v := undef) rfl (by kernel_rfl) (by kernel_rfl) (by kernel_rfl) (fun _ _ _ h => h) (Or.inr ⟨by rfl, rfl⟩) (by assumption) ?_
                  try simp only [Act.put, List.setIfInBounds_toArray, List.set_cons_zero, List.set_cons_succ]
                  refine wpAnyH_take (i := 17) (oi := { dst := some 72, op := Go.Op.fieldAddr 27 (Go.Operand.tmp 71) 2, type := 0, pos := "law.go:42", after := #[{ on := 16, ground := Go.Ground.data }, { on := 13, ground := Go.Ground.guard }], guard := some (13, false) }) (v := undef) rfl (by kernel_rfl) (by kernel_rfl) (by kernel_rfl) (fun _ _ _ h => h) (Or.inr ⟨by rfl, rfl⟩) (by assumption) ?_
                  try simp only [Act.put, List.setIfInBounds_toArray, List.set_cons_zero, List.set_cons_succ]
                  refine wpAnyH_take (i := 18) (oi := { dst := some 73, op := Go.Op.load 3 (Go.Operand.tmp 72), type := 3, pos := "law.go:42", after := #[{ on := 17, ground := Go.Ground.data }, { on := 13, ground := Go.Ground.guard }], guard := some (13, false) }) (v := undef) rfl (by kernel_rfl) (by kernel_rfl) (by kernel_rfl) (fun _ _ _ h => h) (Or.inr ⟨by rfl, rfl⟩) (by assumption) ?_
                  try simp only [Act.put, List.setIfInBounds_toArray, List.set_cons_zero, List.set_cons_succ]
                  refine wpAnyH_take (i := 19) (oi := { dst := some 74, op := Go.Op.fieldAddr 27 (Go.Operand.tmp 11) 2, type := 0, pos := "law.go:42", after := #[{ on := 13, ground := Go.Ground.guard }], guard := some (13, false) }) (v := undef) rfl (by kernel_rfl) (by kernel_rfl) (by kernel_rfl) (fun _ _ _ h => h) (Or.inr ⟨by rfl, rfl⟩) (by assumption) ?_
                  try simp only [Act.put, List.setIfInBounds_toArray, List.set_cons_zero, List.set_cons_succ]
                  refine wpAnyH_take (i := 20) (oi := { dst := some 75, op := Go.Op.load 3 (Go.Operand.tmp 74), type := 3, pos := "law.go:42", after := #[{ on := 19, ground := Go.Ground.data }, { on := 13, ground := Go.Ground.guard }], guard := some (13, false) }) (v := undef) rfl (by kernel_rfl) (by kernel_rfl) (by kernel_rfl) (fun _ _ _ h => h) (Or.inr ⟨by rfl, rfl⟩) (by assumption) ?_
                  try simp only [Act.put, List.setIfInBounds_toArray, List.set_cons_zero, List.set_cons_succ]
                  refine wpAnyH_take (i := 21) (oi := { dst := some 76, op := Go.Op.binOp Go.BinOp.neq 3 (Go.Operand.tmp 73) (Go.Operand.tmp 75) 3, type := 4, pos := "law.go:42", after := #[{ on := 18, ground := Go.Ground.data }, { on := 20, ground := Go.Ground.data }, { on := 13, ground := Go.Ground.guard }], guard := some (13, false) }) (v := undef) rfl (by kernel_rfl) (by kernel_rfl) (by kernel_rfl) (fun _ _ _ h => h) (Or.inr ⟨by rfl, rfl⟩) (by assumption) ?_
                  try simp only [Act.put, List.setIfInBounds_toArray, List.set_cons_zero, List.set_cons_succ]
                  refine wpAnyH_take (i := 22) (oi := { dst := some 77, op := Go.Op.pick (Go.Operand.tmp 68) (Go.Operand.const (Go.Value.bool true)) (Go.Operand.tmp 76), type := 4, pos := "law.go:42", after := #[{ on := 13, ground := Go.Ground.data }, { on := 21, ground := Go.Ground.data }, { on := 4, ground := Go.Ground.guard }], guard := some (4, true) }) (v := undef) rfl (by kernel_rfl) (by kernel_rfl) (by kernel_rfl) (fun _ _ _ h => h) (Or.inr ⟨by rfl, rfl⟩) (by assumption) ?_
                  try simp only [Act.put, List.setIfInBounds_toArray, List.set_cons_zero, List.set_cons_succ]
                  refine wpAnyH_take (i := 23) (oi := { dst := some 78, op := Go.Op.pick (Go.Operand.tmp 59) (Go.Operand.tmp 77) (Go.Operand.const (Go.Value.bool false)), type := 4, pos := "law.go:42", after := #[{ on := 4, ground := Go.Ground.data }, { on := 22, ground := Go.Ground.data }], guard := none }) (v := ?_) rfl (by kernel_rfl) (by kernel_rfl) (by kernel_rfl) (fun _ _ _ h => h) (Or.inl ⟨by rfl, ?_⟩) (by assumption) ?_
                  rotate_left
                  · ((intro w hSw; (try dsimp only at hSw); go_simp) <;> (with_reducible rfl))
                  try simp only [Act.put, List.setIfInBounds_toArray, List.set_cons_zero, List.set_cons_succ]
                  refine wpAnyH_done (by kernel_rfl) ?_ _
                  go_wp2_with fail
                  go_meet
                  case rel => exact ⟨k, rfl, hfnd, hb.drew⟩
          case rest =>
            obtain ⟨k, rfl, hF, hb⟩ := hcut
            have s3 := s2.still hb
            have hkl := hF.out.f.le
            have hlook := hF.out.look s3.uq
            have hcl : c ≤ 9223372036854775807 := hcm
            clear s2 hb
            obtain ⟨d0, d1, d2, d3⟩ := s3.here
            dsimp only at d0 d1 d2 d3
            have S3 := Lib.hid s3
            have HRl := Lib.hid hRl; clear hRl
            have HQ := Lib.hid hlook; clear hlook
            by_cases hw0 : way = 0
            · have hwx := hw0
              as_aux_lemma =>
                subst hw0
                clear hwx
                go_upto_region 27 with (go_at_call 9; refine (S3.out.callT fun g t => put_says t tag vpn e HK.out HE.out).mono ?_; rintro x w6 ⟨rfl, s4⟩)
                clear s3 d0 d1 d2 d3
                obtain ⟨d0, d1, d2, d3⟩ := s4.here
                dsimp only at d0 d1 d2 d3
                by_cases hk : k < R.length
                · obtain ⟨g, c', e1, h1, h2, c0, c1, c2, c3, fz⟩ := s4.at_ k hk
                  injection e1 with e1 e2 e3
                  subst e1; subst e3
                  have hput := put_there hF.out S3.out.uq hk N e
                  have s5 := s4.set k hk e
                  rw [hput] at s5
                  have hRl2 : (R.set k (R[k].1, R[k].2.1, e)).length = R.length := List.length_set
                  have hent : (ents (R.set k (R[k].1, R[k].2.1, e))).length = R.length := by rw [List.length_map, hRl2]
                  obtain ⟨R', hR'⟩ : ∃ R', R' = R.set k (R[k].1, R[k].2.1, e) := ⟨_, rfl⟩
                  rw [← hR'] at s5 hent hRl2
                  have HLn := Lib.hid hent
                  have S5 := Lib.hid (show St W (w6.setCell ⟨g, k * 4 + 3, none⟩ (i64 e)) ht mt ho mo N (some (A, 0, (tag, vpn), e)) (ents R') (.slice (some ⟨g, 0, none⟩) R'.length c) R' from by rw [hRl2]; exact s5)
                  have HR2 := Lib.hid hRl2
                  clear s5 hput hent hRl2 hR' s4 c0 c1 c2
                  go_wp2_with (go_at_call 13; refine (S5.out.readT fun g t => len_says t).mono ?_; rintro x w' ⟨rfl, rfl⟩; rw [HLn.out])
                  go_roundw
                  case rel => exact ⟨i + 1, R', hil, by go_num, by rw [← HR2.out]; exact S5.out.unbox⟩
                  case measure => simp [intOf]; omega
                · obtain ⟨i0, hi0, hz0, hz1, hz2⟩ := info_parts info_act
                  have bX : Below w6.heap.size w6 (w6.alloc (.cells #[i64 0, i64 tag, i64 vpn, i64 e] 27)) := (Below.refl _ _).alloc (Nat.le_refl _) _
                  have own := Lib.hid (s4.still bX).row
                  have HN : Hid (∀ j u, (rc [((0, (tag, vpn), e) : A4)])[j]? = some u → (w6.alloc (.cells #[i64 0, i64 tag, i64 vpn, i64 e] 27)).cell? ((⟨w6.heap.size, 0, none⟩ : Addr).add j) = some u) := World.news_of_block (t := 27) (fr := (0, 0)) (heap_alloc_new w6 _)
                  have hBX : Hid (W.heap.size ≤ (w6.alloc (.cells #[i64 0, i64 tag, i64 vpn, i64 e] 27)).heap.size) := Nat.le_trans s4.b.size bX.size
                  have hmx1 : Hid (R.length + 1 ≤ maxLen) := by unfold Hid maxLen; omega
                  have hby1 : Hid ((R.length + 1) * 32 ≤ 140737488355328) := by unfold Hid; omega
                  have HBX := Lib.hid bX; clear bX
                  have S4 := Lib.hid s4; clear s4
                  go_upto_region 30 with (at_builtin; refine wpList_append_lies _ rfl (.tmp 130) (.tmp 132) 22 rfl W.heap.size 27 i0 _ 4 32 Try.underlying22 hi0 hz0 hz1 hz2 rfl (by decide) (.slice p R.length c) R.length (rc R) rfl own.out ⟨w6.heap.size, 0, none⟩ 1 1 (rc [((0, (tag, vpn), e) : A4)]) rfl rfl HN.out (rc_one _) (by decide) hmx1.out hby1.out hBX.out _ rfl ?_; intro g' c' w7 hown hgrow hat hlt)
                  have s5 := S4.out.app HBX.out hown hgrow hat
                  clear own HN hown hgrow hat hlt hBX
                  obtain ⟨R1, hR1⟩ : ∃ R1 : List A4, R1 = R ++ [(0, (tag, vpn), e)] := ⟨_, rfl⟩
                  have hL1 : R1.length = R.length + 1 := by rw [hR1]; simp
                  rw [← hR1, ← hL1] at s5
                  rw [← hL1]
                  by_cases hn : R.length < N
                  · have hput := put_new hF.out S3.out.uq hk N hn 0 e
                    rw [← hR1] at hput
                    rw [hput] at s5
                    have hent : (ents R1).length = R1.length := List.length_map _
                    have HLn := Lib.hid hent
                    have S5 := Lib.hid s5
                    have hnd : ¬ (N : Int) < (R1.length : Int) := by omega
                    have HL1 := Lib.hid hL1
                    clear hput hent s5 hR1 hL1
                    go_wp2_with (go_at_call 13; refine (S5.out.readT fun g t => len_says t).mono ?_; rintro x w' ⟨rfl, rfl⟩; rw [HLn.out])
                    go_roundw
                    case rel => exact ⟨i + 1, R1, hil, by go_num, S5.out.unbox⟩
                    case measure => simp [intOf]; omega
                  · have hput := put_full' hF.out S3.out.uq hk N hn (by omega) 0 e
                    rw [← hR1] at hput
                    rw [hput] at s5
                    obtain ⟨pq, cq, eq, -, hc1, hc2⟩ := own_form s5.row
                    injection eq with q1 q2 q3
                    rw [← q3] at hc1 hc2
                    clear q1 q2 q3
                    obtain ⟨Ad, hAd, hsrc⟩ := part_src s5.row 1 (by omega)
                    have hnd : (N : Int) < (R1.length : Int) := by omega
                    have h1c : ¬ c' = 1 := by omega
                    rw [if_neg h1c] at hAd
                    injection hAd with hAd
                    subst hAd
                    have hs1 : ∀ ad, some (⟨g', 1 * 4, none⟩ : Addr) = some ad → ∀ j u, (rc (R1.drop 1))[j]? = some u → w7.cell? (ad.add j) = some u := by
                      intro ad h; injection h with h; rw [← h]; exact hsrc
                    have HS1 := Lib.hid hs1
                    have hdl : Hid ((R1.drop 1).length = R1.length - 1) := List.length_drop
                    have hz1 : Hid (([] : List A4).length + (R1.length - 1) ≤ 1000000) := by unfold Hid; simp; omega
                    have S5 := Lib.hid s5
                    have h1l : (1 : Int) ≤ (R1.length : Int) := by omega
                    have HL1 := Lib.hid hL1
                    have HLN := Lib.hid (show (ents (R1.drop 1)).length = R1.length - 1 by rw [List.length_map, List.length_drop])
                    have hcc : R1.length ≤ c' := hc1
                    have hcm' : c' ≤ 9223372036854775807 := hc2
                    clear hput s5 hsrc hs1 hR1 hL1 hc1 hc2 hn
                    go_upto_region 45 with (at_builtin; refine wpList_part (v1 := .slice none 0 0) (R1 := ([] : List A4)) rfl _ _ rfl (Nat.le_refl _) rfl (World.ownsRow_nil _ _ _ _) (p := some ⟨g', 1 * 4, none⟩) (R1.drop 1) rfl hdl.out (by simp) HS1.out hz1.out ?_; intro v' w8 hown' hgrow'; obtain ⟨p8, c8, rfl, q1, q2, q3⟩ := own_form hown')
                    have s6 := S5.out.swap (below_grown hgrow' (Nat.le_refl _) (by simp [Value.ownBlock])) hown'
                    rw [List.nil_append] at s6
                    rw [hdl.out] at s6
                    have S6 := Lib.hid s6
                    have HLn := HLN
                    clear s6 hown' hgrow'
                    go_wp2_with (go_at_call 13; refine (S6.out.readT fun g t => len_says t).mono ?_; rintro x w' ⟨rfl, rfl⟩; rw [HLn.out])
                    go_roundw
                    case rel => exact ⟨i + 1, R1.drop 1, hil, by go_num, S6.out.unbox⟩
                    case measure => simp [intOf]; omega
            · by_cases hw1 : way = 1
              · as_aux_lemma =>
                  subst hw1
                  clear hw0
                  by_cases hk : k < R.length
                  · obtain ⟨g, c', e1, h1, h2, c0, c1, c2, c3, fz⟩ := s3.at_ k hk
                    injection e1 with e1 e2 e3
                    subst e1; subst e3
                    have hq := HQ.out
                    rw [dif_pos hk] at hq
                    obtain ⟨y, hy⟩ : ∃ y, y = R[k].2.2 := ⟨_, rfl⟩
                    rw [← hy] at hq c3
                    have HL2 := Lib.hid (lk_of hq)
                    have HLn := HRl
                    clear hq c0 c1 c2 hy s3 HQ
                    go_wp2_with (first | (go_at_call 10; refine (S3.out.readT fun g t => look_says t tag vpn HK.out).mono ?_; rintro x w' ⟨rfl, rfl⟩; rw [HL2.out]) | (go_at_call 13; refine (S3.out.readT fun g t => len_says t).mono ?_; rintro x w' ⟨rfl, rfl⟩; rw [HLn.out]))
                    go_roundw
                    case rel => exact ⟨i + 1, R, hil, by go_num, S3.out.unbox⟩
                    case measure => simp [intOf]; omega
                  · have hq := HQ.out
                    rw [dif_neg hk] at hq
                    have HL2 := Lib.hid (lk_of hq)
                    have HLn := HRl
                    have hk' : ¬ (k : Int) < (R.length : Int) := by omega
                    clear hq s3 HQ
                    go_wp2_with (first | (go_at_call 10; refine (S3.out.readT fun g t => look_says t tag vpn HK.out).mono ?_; rintro x w' ⟨rfl, rfl⟩; rw [HL2.out]) | (go_at_call 13; refine (S3.out.readT fun g t => len_says t).mono ?_; rintro x w' ⟨rfl, rfl⟩; rw [HLn.out]))
                    go_roundw
                    case rel => exact ⟨i + 1, R, hil, by go_num, S3.out.unbox⟩
                    case measure => simp [intOf]; omega
              · by_cases hw2 : way = 2
                · as_aux_lemma =>
                    subst hw2
                    clear hw0 hw1 HQ
                    go_upto_region 38 with (go_at_call 11; refine (S3.out.callT fun g t => flush_says t tag).mono ?_; rintro x w6 ⟨rfl, s4⟩)
                    rw [flush_row] at s4
                    clear s3 d0 d1 d2 d3 hF
                    have S4 := Lib.hid s4; clear s4
                    have hkl2 : k ≤ 9223372036854775807 := by omega
                    clear hkl
                    go_wp2_with fail
                    go_loopw [15, 16] (fun s15 s16 wv => ∃ j : Nat, j ≤ R.length ∧ s16 = .int .i64 j ∧ Below w6.heap.size w6 wv ∧ wv.ownsRow w6.heap.size 27 4 s15 (keep (R.take j) tag).length (rc (keep (R.take j) tag))) (fun _ s16 _ => R.length - (intOf s16).toNat)
                    case atStart => exact ⟨0, Nat.zero_le _, rfl, Below.refl _ _, World.ownsRow_nil _ _ _ _⟩
                    case round =>
                      obtain ⟨j, hj, rfl, hbv, how⟩ := hrel
                      obtain ⟨p15, c15, rfl, hp15, hc15, hm15⟩ := own_form how
                      have hm15 : c15 ≤ 9223372036854775807 := hm15
                      by_cases hjl : j < R.length
                      · have s5 := S4.out.still hbv.drew
                        obtain ⟨g, c', e1, h1, h2, c0, c1, c2, c3, -⟩ := s5.at_ j hjl
                        injection e1 with e1 e2 e3
                        subst e1; subst e3
                        obtain ⟨d0, d1, d2, d3⟩ := s5.here
                        dsimp only at d0 d1 d2 d3
                        have hks := keep_snoc R tag j hjl
                        obtain ⟨x, hx⟩ : ∃ x, x = R[j] := ⟨_, rfl⟩
                        rw [← hx] at c0 c1 c2 c3 hks
                        obtain ⟨xw, ⟨xt, xv⟩, xe⟩ := x
                        dsimp only at c0 c1 c2 c3 hks
                        have hS0 : wr.drew.cell? ⟨A, 1, none⟩ = some (i64 tag) ∧ wr.drew.cell? ⟨g, j * 4 + 1, none⟩ = some (i64 xt) := ⟨d1, c1⟩
                        have hjI : (j : Int) < (R.length : Int) := by omega
                        clear d0 d1 d2 d3 s5 hx
                        obtain ⟨Kj, hKj⟩ : ∃ Kj, Kj = keep (R.take j) tag := ⟨_, rfl⟩
                        have hKl : Kj.length ≤ R.length := by rw [hKj]; exact Nat.le_trans (keep_le _ _) (by rw [List.length_take]; omega)
                        rw [← hKj] at how hks hp15 hc15 ⊢
                        have HKJ := Lib.hid hKj; clear hKj
                        by_cases hxt : xt = tag
                        · rw [if_pos hxt] at hks
                          have hb : (xt != tag) = false := by simp [hxt]
                          have HKS := Lib.hid hks
                          have HOW := Lib.hid (own_kept how (w' := wr.drew) (fun _ _ => rfl))
                          have HBV := Lib.hid hbv.drew
                          clear hks hxt how hbv c0 c1 c2 c3
                          go_upto_region 42 with fail
                          refine wp_region_held_drew (S := (fun u => u.cell? ⟨A, 1, none⟩ = some (i64 tag) ∧ u.cell? ⟨g, j * 4 + 1, none⟩ = some (i64 xt))) (by kernel_rfl) ?_ (fun hH0 => ?_)
                          · ((try dsimp only); first | exact hS0 | assumption)
                          refine wpAnyH_take (i := 0) (oi := { dst := some 190, op := Go.Op.move (Go.Operand.tmp 9), type := 22, pos := "law.go:65", after := #[], guard := none }) (v := ?_) rfl (by kernel_rfl) (by kernel_rfl) (by kernel_rfl) (fun _ _ _ h => h) (Or.inl ⟨by rfl, ?_⟩) (by assumption) ?_
                          rotate_left
                          · ((intro w hSw; (try dsimp only at hSw); go_simp) <;> (with_reducible rfl))
                          try simp only [Act.put, List.setIfInBounds_toArray, List.set_cons_zero, List.set_cons_succ]
                          refine wpAnyH_take (i := 1) (oi := { dst := some 191, op := Go.Op.move (Go.Operand.tmp 16), type := 3, pos := "law.go:65", after := #[], guard := none }) (v := ?_) rfl (by kernel_rfl) (by kernel_rfl) (by kernel_rfl) (fun _ _ _ h => h) (Or.inl ⟨by rfl, ?_⟩) (by assumption) ?_
                          rotate_left
                          · ((intro w hSw; (try dsimp only at hSw); go_simp) <;> (with_reducible rfl))
                          try simp only [Act.put, List.setIfInBounds_toArray, List.set_cons_zero, List.set_cons_succ]
                          refine wpAnyH_take (i := 2) (oi := { dst := some 192, op := Go.Op.indexAddr 22 (Go.Operand.tmp 190) (Go.Operand.tmp 191), type := 0, pos := "law.go:65", after := #[{ on := 0, ground := Go.Ground.data }, { on := 1, ground := Go.Ground.data }], guard := none }) (v := ?_) rfl (by kernel_rfl) (by kernel_rfl) (by kernel_rfl) (fun _ _ _ h => h) (Or.inl ⟨by rfl, ?_⟩) (by assumption) ?_
                          rotate_left
                          · ((intro w hSw; (try dsimp only at hSw); go_simp) <;> (with_reducible rfl))
                          try simp only [Act.put, List.setIfInBounds_toArray, List.set_cons_zero, List.set_cons_succ]
                          refine wpAnyH_take (i := 3) (oi := { dst := some 193, op := Go.Op.fieldAddr 27 (Go.Operand.tmp 192) 1, type := 0, pos := "law.go:65", after := #[{ on := 2, ground := Go.Ground.data }], guard := none }) (v := ?_) rfl (by kernel_rfl) (by kernel_rfl) (by kernel_rfl) (fun _ _ _ h => h) (Or.inl ⟨by rfl, ?_⟩) (by assumption) ?_
                          rotate_left
                          · ((intro w hSw; (try dsimp only at hSw); go_simp) <;> (with_reducible rfl))
                          try simp only [Act.put, List.setIfInBounds_toArray, List.set_cons_zero, List.set_cons_succ]
                          refine wpAnyH_take (i := 4) (oi := { dst := some 194, op := Go.Op.load 3 (Go.Operand.tmp 193), type := 3, pos := "law.go:65", after := #[{ on := 3, ground := Go.Ground.data }], guard := none }) (v := ?_) rfl (by kernel_rfl) (by kernel_rfl) (by kernel_rfl) (fun _ _ _ h => h) (Or.inl ⟨by rfl, ?_⟩) (by assumption) ?_
                          rotate_left
                          · ((intro w hSw; (try dsimp only at hSw); go_simp) <;> (with_reducible rfl))
                          try simp only [Act.put, List.setIfInBounds_toArray, List.set_cons_zero, List.set_cons_succ]
                          refine wpAnyH_take (i := 5) (oi := { dst := some 195, op := Go.Op.fieldAddr 27 (Go.Operand.tmp 11) 1, type := 0, pos := "law.go:65", after := #[], guard := none }) (v := ?_) rfl (by kernel_rfl) (by kernel_rfl) (by kernel_rfl) (fun _ _ _ h => h) (Or.inl ⟨by rfl, ?_⟩) (by assumption) ?_
                          rotate_left
                          · ((intro w hSw; (try dsimp only at hSw); go_simp) <;> (with_reducible rfl))
                          try simp only [Act.put, List.setIfInBounds_toArray, List.set_cons_zero, List.set_cons_succ]
                          refine wpAnyH_take (i := 6) (oi := { dst := some 196, op := Go.Op.load 3 (Go.Operand.tmp 195), type := 3, pos := "law.go:65", after := #[{ on := 5, ground := Go.Ground.data }], guard := none }) (v := ?_) rfl (by kernel_rfl) (by kernel_rfl) (by kernel_rfl) (fun _ _ _ h => h) (Or.inl ⟨by rfl, ?_⟩) (by assumption) ?_
                          rotate_left
                          · ((intro w hSw; (try dsimp only at hSw); go_simp) <;> (with_reducible rfl))
                          try simp only [Act.put, List.setIfInBounds_toArray, List.set_cons_zero, List.set_cons_succ]
                          refine wpAnyH_take (i := 7) (oi := { dst := some 197, op := Go.Op.binOp Go.BinOp.neq 3 (Go.Operand.tmp 194) (Go.Operand.tmp 196) 3, type := 4, pos := "law.go:65", after := #[{ on := 4, ground := Go.Ground.data }, { on := 6, ground := Go.Ground.data }], guard := none }) (v := ?_) rfl (by kernel_rfl) (by kernel_rfl) (by kernel_rfl) (fun _ _ _ h => h) (Or.inl ⟨by rfl, ?_⟩) (by assumption) ?_
                          rotate_left
                          · ((intro w hSw; (try dsimp only at hSw); go_simp) <;> (with_reducible rfl))
                          try simp only [Act.put, List.setIfInBounds_toArray, List.set_cons_zero, List.set_cons_succ]
                          refine wpAnyH_done (by kernel_rfl) ?_ _
                          go_wp2_with fail
                          go_roundw
                          case rel => exact ⟨j + 1, hjl, by go_num, HBV.out, by rw [HKS.out]; exact HOW.out⟩
                          case measure => simp [intOf]; omega
                        · rw [if_neg hxt] at hks
                          have hb : (xt != tag) = true := by simp [hxt]
                          have HKS := Lib.hid hks
                          have bX : Below w6.heap.size w6 (wr.alloc (.cells #[i64 xw, i64 xt, i64 xv, i64 xe] 27)).drew := (hbv.alloc hbv.size _).drew
                          have HBX := Lib.hid bX
                          have hOX : (wr.alloc (.cells #[i64 xw, i64 xt, i64 xv, i64 xe] 27)).drew.ownsRow w6.heap.size 27 4 (.slice p15 Kj.length c15) Kj.length (rc Kj) := own_kept how (fun g hg => Below.heap_alloc _ _ _ (how.lt g hg).2)
                          have HOX := Lib.hid hOX
                          have HNW : Hid (∀ ad, some (⟨wr.heap.size, 0, none⟩ : Addr) = some ad → ∀ j' u, (rc [((xw, (xt, xv), xe) : A4)])[j']? = some u → (wr.alloc (.cells #[i64 xw, i64 xt, i64 xv, i64 xe] 27)).drew.cell? (ad.add j') = some u) := by
                            intro ad h; injection h with h; rw [← h]
                            exact World.news_of_block (t := 27) (fr := (0, 0)) (heap_alloc_new wr _)
                          have HZ : Hid (Kj.length + 1 ≤ 1000000) := by unfold Hid; omega
                          have HSZ : Hid (w6.heap.size ≤ (wr.alloc (.cells #[i64 xw, i64 xt, i64 xv, i64 xe] 27)).drew.heap.size) := bX.size
                          have HOV : Hid (∀ g', (Value.slice p15 Kj.length c15).ownBlock = some g' → w6.heap.size ≤ g') := fun g' h => (how.lt g' h).1
                          clear hks hxt how hbv bX hOX
                          go_upto_region 42 with fail
                          refine wp_region_held_drew (S := (fun u => u.cell? ⟨A, 1, none⟩ = some (i64 tag) ∧ u.cell? ⟨g, j * 4 + 1, none⟩ = some (i64 xt))) (by kernel_rfl) ?_ (fun hH0 => ?_)
                          · ((try dsimp only); first | exact hS0 | assumption)
                          refine wpAnyH_take (i := 0) (oi := { dst := some 190, op := Go.Op.move (Go.Operand.tmp 9), type := 22, pos := "law.go:65", after := #[], guard := none }) (v := ?_) rfl (by kernel_rfl) (by kernel_rfl) (by kernel_rfl) (fun _ _ _ h => h) (Or.inl ⟨by rfl, ?_⟩) (by assumption) ?_
                          rotate_left
                          · ((intro w hSw; (try dsimp only at hSw); go_simp) <;> (with_reducible rfl))
                          try simp only [Act.put, List.setIfInBounds_toArray, List.set_cons_zero, List.set_cons_succ]
                          refine wpAnyH_take (i := 1) (oi := { dst := some 191, op := Go.Op.move (Go.Operand.tmp 16), type := 3, pos := "law.go:65", after := #[], guard := none }) (v := ?_) rfl (by kernel_rfl) (by kernel_rfl) (by kernel_rfl) (fun _ _ _ h => h) (Or.inl ⟨by rfl, ?_⟩) (by assumption) ?_
                          rotate_left
                          · ((intro w hSw; (try dsimp only at hSw); go_simp) <;> (with_reducible rfl))
                          try simp only [Act.put, List.setIfInBounds_toArray, List.set_cons_zero, List.set_cons_succ]
                          refine wpAnyH_take (i := 2) (oi := { dst := some 192, op := Go.Op.indexAddr 22 (Go.Operand.tmp 190) (Go.Operand.tmp 191), type := 0, pos := "law.go:65", after := #[{ on := 0, ground := Go.Ground.data }, { on := 1, ground := Go.Ground.data }], guard := none }) (v := ?_) rfl (by kernel_rfl) (by kernel_rfl) (by kernel_rfl) (fun _ _ _ h => h) (Or.inl ⟨by rfl, ?_⟩) (by assumption) ?_
                          rotate_left
                          · ((intro w hSw; (try dsimp only at hSw); go_simp) <;> (with_reducible rfl))
                          try simp only [Act.put, List.setIfInBounds_toArray, List.set_cons_zero, List.set_cons_succ]
                          refine wpAnyH_take (i := 3) (oi := { dst := some 193, op := Go.Op.fieldAddr 27 (Go.Operand.tmp 192) 1, type := 0, pos := "law.go:65", after := #[{ on := 2, ground := Go.Ground.data }], guard := none }) (v := ?_) rfl (by kernel_rfl) (by kernel_rfl) (by kernel_rfl) (fun _ _ _ h => h) (Or.inl ⟨by rfl, ?_⟩) (by assumption) ?_
                          rotate_left
                          · ((intro w hSw; (try dsimp only at hSw); go_simp) <;> (with_reducible rfl))
                          try simp only [Act.put, List.setIfInBounds_toArray, List.set_cons_zero, List.set_cons_succ]
                          refine wpAnyH_take (i := 4) (oi := { dst := some 194, op := Go.Op.load 3 (Go.Operand.tmp 193), type := 3, pos := "law.go:65", after := #[{ on := 3, ground := Go.Ground.data }], guard := none }) (v := ?_) rfl (by kernel_rfl) (by kernel_rfl) (by kernel_rfl) (fun _ _ _ h => h) (Or.inl ⟨by rfl, ?_⟩) (by assumption) ?_
                          rotate_left
                          · ((intro w hSw; (try dsimp only at hSw); go_simp) <;> (with_reducible rfl))
                          try simp only [Act.put, List.setIfInBounds_toArray, List.set_cons_zero, List.set_cons_succ]
                          refine wpAnyH_take (i := 5) (oi := { dst := some 195, op := Go.Op.fieldAddr 27 (Go.Operand.tmp 11) 1, type := 0, pos := "law.go:65", after := #[], guard := none }) (v := ?_) rfl (by kernel_rfl) (by kernel_rfl) (by kernel_rfl) (fun _ _ _ h => h) (Or.inl ⟨by rfl, ?_⟩) (by assumption) ?_
                          rotate_left
                          · ((intro w hSw; (try dsimp only at hSw); go_simp) <;> (with_reducible rfl))
                          try simp only [Act.put, List.setIfInBounds_toArray, List.set_cons_zero, List.set_cons_succ]
                          refine wpAnyH_take (i := 6) (oi := { dst := some 196, op := Go.Op.load 3 (Go.Operand.tmp 195), type := 3, pos := "law.go:65", after := #[{ on := 5, ground := Go.Ground.data }], guard := none }) (v := ?_) rfl (by kernel_rfl) (by kernel_rfl) (by kernel_rfl) (fun _ _ _ h => h) (Or.inl ⟨by rfl, ?_⟩) (by assumption) ?_
                          rotate_left
                          · ((intro w hSw; (try dsimp only at hSw); go_simp) <;> (with_reducible rfl))
                          try simp only [Act.put, List.setIfInBounds_toArray, List.set_cons_zero, List.set_cons_succ]
                          refine wpAnyH_take (i := 7) (oi := { dst := some 197, op := Go.Op.binOp Go.BinOp.neq 3 (Go.Operand.tmp 194) (Go.Operand.tmp 196) 3, type := 4, pos := "law.go:65", after := #[{ on := 4, ground := Go.Ground.data }, { on := 6, ground := Go.Ground.data }], guard := none }) (v := ?_) rfl (by kernel_rfl) (by kernel_rfl) (by kernel_rfl) (fun _ _ _ h => h) (Or.inl ⟨by rfl, ?_⟩) (by assumption) ?_
                          rotate_left
                          · ((intro w hSw; (try dsimp only at hSw); go_simp) <;> (with_reducible rfl))
                          try simp only [Act.put, List.setIfInBounds_toArray, List.set_cons_zero, List.set_cons_succ]
                          refine wpAnyH_done (by kernel_rfl) ?_ _
                          go_wp2_with (at_builtin; go_loud (refine wpList_part (v1 := .slice p15 Kj.length c15) (R1 := Kj) rfl _ _ rfl HSZ.out rfl HOX.out (p := some ⟨wr.heap.size, 0, none⟩) [(xw, (xt, xv), xe)] rfl rfl (by simp) HNW.out HZ.out ?_); intro v' w8 hown' hgrow')
                          have HBW := Lib.hid (HBX.out.trans (below_grown hgrow' HSZ.out HOV.out))
                          have HW8 := Lib.hid hown'
                          clear hown' hgrow'
                          go_roundw
                          case rel => exact ⟨j + 1, hjl, by go_num, HBW.out, by rw [HKS.out]; exact HW8.out⟩
                          case measure => simp [intOf]; omega
                      · have hjR : j = R.length := by omega
                        have hk' : ¬ (j : Int) < (R.length : Int) := by omega
                        rw [hjR, List.take_length] at how hp15 hc15 ⊢
                        have s5 := S4.out.swap hbv how
                        have HLn := Lib.hid (show (ents (keep R tag)).length = (keep R tag).length from List.length_map _)
                        have hkp := keep_le R tag
                        have S5 := Lib.hid s5
                        clear s5 how hbv hjR
                        go_wp2_with (go_at_call 13; refine (S5.out.readT fun g t => len_says t).mono ?_; rintro x w' ⟨rfl, rfl⟩; rw [HLn.out])
                        go_roundw
                        case rel => exact ⟨i + 1, keep R tag, hil, by go_num, S5.out.unbox⟩
                        case measure => simp [intOf]; omega
                · as_aux_lemma =>
                    clear HQ hF hkl
                    go_upto_region 22 with (go_at_call 12; refine (S3.out.callT fun g t => evict_says t vpn).mono ?_; rintro x w6 ⟨rfl, s4⟩)
                    clear s3 d0 d1 d2 d3
                    obtain ⟨d0, d1, d2, d3⟩ := s4.here
                    dsimp only at d0 d1 d2 d3
                    by_cases hv : 0 ≤ vpn ∧ vpn < R.length
                    · obtain ⟨v0, v1⟩ := hv
                      obtain ⟨k2, rfl⟩ := Int.eq_ofNat_of_zero_le v0
                      have hk2 : k2 < R.length := by omega
                      rw [evict_row R k2 hk2] at s4
                      obtain ⟨g, c', e1, h1, h2, -⟩ := s4.at_ k2 hk2
                      injection e1 with e1 e2 e3
                      subst e1; subst e3
                      obtain ⟨Ad, hAd, hsrc⟩ := part_src s4.row (k2 + 1) (by omega)
                      have hp0 : (0 : Int) ≤ (k2 : Int) + 1 := by omega
                      have hp1 : (k2 : Int) + 1 ≤ (R.length : Int) := by omega
                      have hp2 : ((k2 : Int) + 1).toNat = k2 + 1 := by omega
                      have hp3 : k2 ≤ c := by omega
                      have HS1 : Hid (∀ ad, some Ad = some ad → ∀ j u, (rc (R.drop (k2 + 1)))[j]? = some u → w6.cell? (ad.add j) = some u) := by
                        intro ad h; injection h with h; rw [← h]; exact hsrc
                      have hdl : Hid ((R.drop (k2 + 1)).length = R.length - (k2 + 1)) := List.length_drop
                      have hz1 : Hid (([] : List A4).length + (R.length - (k2 + 1)) ≤ 1000000) := by unfold Hid; simp; omega
                      have S4 := Lib.hid s4
                      clear s4 hsrc hw0 hw1 hw2
                      have HL9 : Hid ((R.take k2 ++ R.drop (k2 + 1)).length = R.length - 1) := by unfold Hid; rw [List.length_append, List.length_take, List.length_drop]; omega
                      have HO0 : Hid (([] : List A4).length + k2 ≤ 1000000) := by unfold Hid; simp; omega
                      have HTK : Hid ((R.take k2).length = k2) := by unfold Hid; rw [List.length_take]; omega
                      have HZ3 : Hid ((R.take k2).length + (R.length - (k2 + 1)) ≤ 1000000) := by unfold Hid; rw [List.length_take]; omega
                      go_upto_region 24 with (at_builtin; go_loud (refine wpList_part (v1 := .slice none 0 0) (R1 := ([] : List A4)) rfl _ _ rfl (Nat.le_refl _) rfl (World.ownsRow_nil _ _ _ _) (p := some Ad) (R.drop (k2 + 1)) rfl hdl.out (by simp) HS1.out hz1.out ?_); intro v' w7 hown7 hgrow7; obtain ⟨p7, c7, rfl, n7, m7, q7⟩ := own_form hown7)
                      rw [List.nil_append] at hown7 n7 m7
                      have b7 : Below w6.heap.size w6 w7 := below_grown hgrow7 (Nat.le_refl _) (by simp [Value.ownBlock])
                      have s7 := S4.out.still b7
                      have HH := Lib.hid (fun (ad : Addr) (h : some (⟨g, 0, none⟩ : Addr) = some ad) => (by injection h with h; rw [← h]; exact head_src s7.row k2 : ∀ j u, (rc (R.take k2))[j]? = some u → w7.cell? (ad.add j) = some u))
                      obtain ⟨e0, e1, e2, e3⟩ := s7.here
                      dsimp only at e0 e1 e2 e3
                      have HR8 : Hid (∀ w8, w7.grownBy w8 (Value.slice none 0 0).ownBlock → w8.ownsRow w6.heap.size 27 4 (.slice p7 (R.drop (k2 + 1)).length c7) (R.drop (k2 + 1)).length (rc (R.drop (k2 + 1)))) := fun w8 h => own_kept hown7 (fun g' hg' => h.block g' (hown7.lt g' hg').2 (by simp [Value.ownBlock]))
                      have HB7 : Hid (w6.heap.size ≤ w7.heap.size) := b7.size
                      have HBB := Lib.hid b7
                      rw [hdl.out] at n7
                      have hn7 : p7 = none → R.length - (k2 + 1) = 0 ∧ c7 = 0 := n7
                      clear s7 hown7 hgrow7 b7 n7 d0 d1 d2 d3
                      go_upto_region 45 with (first
                        | (at_builtin; refine wpList_part (B := w6.heap.size) (w := w8) (v1 := .slice p8 (R.take k2).length c8) (R1 := R.take k2) rfl _ _ rfl HB8.out (by rw [HTK.out]; rfl) HO8.out (p := p7) (R.drop (k2 + 1)) rfl hdl.out hn7 HR9.out HZ3.out ?_; intro v'' w9 hown9 hgrow9; obtain ⟨p9, c9, rfl, n9, m9, q9⟩ := own_form hown9; rw [HL9.out])
                        | (at_builtin; go_loud (refine wpList_part (B := w6.heap.size) (v1 := .slice none 0 0) (R1 := ([] : List A4)) rfl _ _ rfl HB7.out rfl (World.ownsRow_nil _ _ _ _) (p := some ⟨g, 0, none⟩) (R.take k2) rfl HTK.out (by simp) HH.out HO0.out ?_); intro v' w8 hown8 hgrow8; obtain ⟨p8, c8, rfl, n8, m8, q8⟩ := own_form hown8; rw [List.nil_append] at hown8; have hr8 := HR8.out w8 hgrow8; have HR9 := Lib.hid (own_src hr8); have HO8 := Lib.hid hown8; have b8 : Below w6.heap.size w6 w8 := HBB.out.trans (below_grown hgrow8 HB7.out (by simp [Value.ownBlock])); have HB8 : Hid (w6.heap.size ≤ w8.heap.size) := b8.size; have HBC := Lib.hid b8; clear hr8 hown8 hgrow8 b8; rw [show (([] : List A4) ++ R.take k2).length = k2 from HTK.out]))
                      have s9 := S4.out.swap (HBC.out.trans (below_grown hgrow9 HB8.out (fun g' h => (HO8.out.lt g' h).1))) hown9
                      rw [HL9.out] at s9
                      have HLn := Lib.hid (show (ents (R.take k2 ++ R.drop (k2 + 1))).length = R.length - 1 by rw [List.length_map]; exact HL9.out)
                      have S9 := Lib.hid s9
                      clear s9 hown9 hgrow9 n9 m9 n8 m8
                      go_wp2_with (go_at_call 13; refine (S9.out.readT fun g t => len_says t).mono ?_; rintro x w' ⟨rfl, rfl⟩; rw [HLn.out])
                      go_roundw
                      case rel => exact ⟨i + 1, R.take k2 ++ R.drop (k2 + 1), hil, by go_num, S9.out.unbox⟩
                      case measure => simp [intOf]; omega
                    · have hen : tevict (ents R) vpn = ents R := evict_none _ _ (by rw [HRl.out]; exact hv)
                      rw [hen] at s4
                      have HLn := HRl
                      have S4 := Lib.hid s4
                      clear s4 hen
                      by_cases hv0 : 0 ≤ vpn
                      · have hv1 : ¬ vpn < (R.length : Int) := fun h => hv ⟨hv0, h⟩
                        clear hv
                        go_wp2_with (go_at_call 13; refine (S4.out.readT fun g t => len_says t).mono ?_; rintro x w' ⟨rfl, rfl⟩; rw [HLn.out])
                        go_roundw
                        case rel => exact ⟨i + 1, R, hil, by go_num, S4.out.unbox⟩
                        case measure => simp [intOf]; omega
                      · clear hv
                        go_wp2_with (go_at_call 13; refine (S4.out.readT fun g t => len_says t).mono ?_; rintro x w' ⟨rfl, rfl⟩; rw [HLn.out])
                        go_roundw
                        case rel => exact ⟨i + 1, R, hil, by go_num, S4.out.unbox⟩
                        case measure => simp [intOf]; omega
        · obtain rfl : i = len := by omega
          as_aux_lemma =>
            have S := Lib.hid s; clear s
            go_wp2_with fail
            go_loopw [18] (fun s18 wv => ∃ j : Nat, j ≤ R.length ∧ s18 = .int .i64 j ∧ Below wr.heap.size wr wv) (fun s18 _ => R.length - (intOf s18).toNat)
            case atStart => exact ⟨0, Nat.zero_le _, rfl, Below.refl _ _⟩
            case round =>
              obtain ⟨j, hj, rfl, hbv⟩ := hrel
              by_cases hjl : j < R.length
              · have s5 := S.out.still hbv.drew
                obtain ⟨g, c', e1, h1, h2, c0, c1, c2, c3, -⟩ := s5.at_ j hjl
                injection e1 with e1 e2 e3
                subst e1; subst e3
                have hlk := look_row S.out.uq j hjl
                have hkx := S.out.ki R[j].2 (List.mem_map.2 ⟨_, List.getElem_mem hjl, rfl⟩)
                obtain ⟨x, hx⟩ : ∃ x, x = R[j] := ⟨_, rfl⟩
                rw [← hx] at c0 c1 c2 c3 hlk hkx
                obtain ⟨xw, ⟨xt, xv⟩, xe⟩ := x
                dsimp only at c0 c1 c2 c3 hlk hkx
                have hS0 : wr.drew.cell? ⟨g, j * 4 + 1, none⟩ = some (i64 xt) ∧ wr.drew.cell? ⟨g, j * 4 + 2, none⟩ = some (i64 xv) := ⟨c1, c2⟩
                have HL2 := Lib.hid (lk_of hlk)
                have HKX := Lib.hid hkx
                have S5 := Lib.hid s5
                have hjI : (j : Int) < (R.length : Int) := by omega
                have HBV := Lib.hid hbv.drew
                clear hlk hkx s5 hx hbv c0 c1 c2
                go_upto_region 50 with fail
                refine wp_region_held_drew (S := (fun u => u.cell? ⟨g, j * 4 + 1, none⟩ = some (i64 xt) ∧ u.cell? ⟨g, j * 4 + 2, none⟩ = some (i64 xv))) (by kernel_rfl) ?_ (fun hH0 => ?_)
                · ((try dsimp only); first | exact hS0 | assumption)
                refine wpAnyH_take (i := 0) (oi := { dst := some 218, op := Go.Op.move (Go.Operand.tmp 6), type := 24, pos := "law.go:82", after := #[], guard := none }) (v := ?_) rfl (by kernel_rfl) (by kernel_rfl) (by kernel_rfl) (fun _ _ _ h => h) (Or.inl ⟨by rfl, ?_⟩) (by assumption) ?_
                rotate_left
                · ((intro w hSw; (try dsimp only at hSw); go_simp) <;> (with_reducible rfl))
                try simp only [Act.put, List.setIfInBounds_toArray, List.set_cons_zero, List.set_cons_succ]
                refine wpAnyH_take (i := 1) (oi := { dst := some 219, op := Go.Op.move (Go.Operand.tmp 9), type := 22, pos := "law.go:82", after := #[], guard := none }) (v := ?_) rfl (by kernel_rfl) (by kernel_rfl) (by kernel_rfl) (fun _ _ _ h => h) (Or.inl ⟨by rfl, ?_⟩) (by assumption) ?_
                rotate_left
                · ((intro w hSw; (try dsimp only at hSw); go_simp) <;> (with_reducible rfl))
                try simp only [Act.put, List.setIfInBounds_toArray, List.set_cons_zero, List.set_cons_succ]
                refine wpAnyH_take (i := 2) (oi := { dst := some 220, op := Go.Op.move (Go.Operand.tmp 18), type := 3, pos := "law.go:82", after := #[], guard := none }) (v := ?_) rfl (by kernel_rfl) (by kernel_rfl) (by kernel_rfl) (fun _ _ _ h => h) (Or.inl ⟨by rfl, ?_⟩) (by assumption) ?_
                rotate_left
                · ((intro w hSw; (try dsimp only at hSw); go_simp) <;> (with_reducible rfl))
                try simp only [Act.put, List.setIfInBounds_toArray, List.set_cons_zero, List.set_cons_succ]
                refine wpAnyH_take (i := 3) (oi := { dst := some 221, op := Go.Op.indexAddr 22 (Go.Operand.tmp 219) (Go.Operand.tmp 220), type := 0, pos := "law.go:82", after := #[{ on := 1, ground := Go.Ground.data }, { on := 2, ground := Go.Ground.data }], guard := none }) (v := ?_) rfl (by kernel_rfl) (by kernel_rfl) (by kernel_rfl) (fun _ _ _ h => h) (Or.inl ⟨by rfl, ?_⟩) (by assumption) ?_
                rotate_left
                · ((intro w hSw; (try dsimp only at hSw); go_simp) <;> (with_reducible rfl))
                try simp only [Act.put, List.setIfInBounds_toArray, List.set_cons_zero, List.set_cons_succ]
                refine wpAnyH_take (i := 4) (oi := { dst := some 222, op := Go.Op.fieldAddr 27 (Go.Operand.tmp 221) 1, type := 0, pos := "law.go:82", after := #[{ on := 3, ground := Go.Ground.data }], guard := none }) (v := ?_) rfl (by kernel_rfl) (by kernel_rfl) (by kernel_rfl) (fun _ _ _ h => h) (Or.inl ⟨by rfl, ?_⟩) (by assumption) ?_
                rotate_left
                · ((intro w hSw; (try dsimp only at hSw); go_simp) <;> (with_reducible rfl))
                try simp only [Act.put, List.setIfInBounds_toArray, List.set_cons_zero, List.set_cons_succ]
                refine wpAnyH_take (i := 5) (oi := { dst := some 223, op := Go.Op.load 3 (Go.Operand.tmp 222), type := 3, pos := "law.go:82", after := #[{ on := 4, ground := Go.Ground.data }], guard := none }) (v := ?_) rfl (by kernel_rfl) (by kernel_rfl) (by kernel_rfl) (fun _ _ _ h => h) (Or.inl ⟨by rfl, ?_⟩) (by assumption) ?_
                rotate_left
                · ((intro w hSw; (try dsimp only at hSw); go_simp) <;> (with_reducible rfl))
                try simp only [Act.put, List.setIfInBounds_toArray, List.set_cons_zero, List.set_cons_succ]
                refine wpAnyH_take (i := 6) (oi := { dst := some 224, op := Go.Op.move (Go.Operand.tmp 9), type := 22, pos := "law.go:82", after := #[], guard := none }) (v := ?_) rfl (by kernel_rfl) (by kernel_rfl) (by kernel_rfl) (fun _ _ _ h => h) (Or.inl ⟨by rfl, ?_⟩) (by assumption) ?_
                rotate_left
                · ((intro w hSw; (try dsimp only at hSw); go_simp) <;> (with_reducible rfl))
                try simp only [Act.put, List.setIfInBounds_toArray, List.set_cons_zero, List.set_cons_succ]
                refine wpAnyH_take (i := 7) (oi := { dst := some 225, op := Go.Op.move (Go.Operand.tmp 18), type := 3, pos := "law.go:82", after := #[], guard := none }) (v := ?_) rfl (by kernel_rfl) (by kernel_rfl) (by kernel_rfl) (fun _ _ _ h => h) (Or.inl ⟨by rfl, ?_⟩) (by assumption) ?_
                rotate_left
                · ((intro w hSw; (try dsimp only at hSw); go_simp) <;> (with_reducible rfl))
                try simp only [Act.put, List.setIfInBounds_toArray, List.set_cons_zero, List.set_cons_succ]
                refine wpAnyH_take (i := 8) (oi := { dst := some 226, op := Go.Op.indexAddr 22 (Go.Operand.tmp 224) (Go.Operand.tmp 225), type := 0, pos := "law.go:82", after := #[{ on := 6, ground := Go.Ground.data }, { on := 7, ground := Go.Ground.data }], guard := none }) (v := ?_) rfl (by kernel_rfl) (by kernel_rfl) (by kernel_rfl) (fun _ _ _ h => h) (Or.inl ⟨by rfl, ?_⟩) (by assumption) ?_
                rotate_left
                · ((intro w hSw; (try dsimp only at hSw); go_simp) <;> (with_reducible rfl))
                try simp only [Act.put, List.setIfInBounds_toArray, List.set_cons_zero, List.set_cons_succ]
                refine wpAnyH_take (i := 9) (oi := { dst := some 227, op := Go.Op.fieldAddr 27 (Go.Operand.tmp 226) 2, type := 0, pos := "law.go:82", after := #[{ on := 8, ground := Go.Ground.data }], guard := none }) (v := ?_) rfl (by kernel_rfl) (by kernel_rfl) (by kernel_rfl) (fun _ _ _ h => h) (Or.inl ⟨by rfl, ?_⟩) (by assumption) ?_
                rotate_left
                · ((intro w hSw; (try dsimp only at hSw); go_simp) <;> (with_reducible rfl))
                try simp only [Act.put, List.setIfInBounds_toArray, List.set_cons_zero, List.set_cons_succ]
                refine wpAnyH_take (i := 10) (oi := { dst := some 228, op := Go.Op.load 3 (Go.Operand.tmp 227), type := 3, pos := "law.go:82", after := #[{ on := 9, ground := Go.Ground.data }], guard := none }) (v := ?_) rfl (by kernel_rfl) (by kernel_rfl) (by kernel_rfl) (fun _ _ _ h => h) (Or.inl ⟨by rfl, ?_⟩) (by assumption) ?_
                rotate_left
                · ((intro w hSw; (try dsimp only at hSw); go_simp) <;> (with_reducible rfl))
                try simp only [Act.put, List.setIfInBounds_toArray, List.set_cons_zero, List.set_cons_succ]
                refine wpAnyH_ready (rs := [11]) (by kernel_rfl) (by simp) ?_
                refine AllReadyH.cons (o := { dst := some 229, op := Go.Op.call { callee := Go.Callee.value (Go.Operand.func 10), args := #[Go.Operand.tmp 218, Go.Operand.tmp 223, Go.Operand.tmp 228], argTypes := #[24, 3, 3] }, type := 29, pos := "law.go:82", after := #[{ on := 0, ground := Go.Ground.data }, { on := 5, ground := Go.Ground.data }, { on := 10, ground := Go.Ground.data }], guard := none }) rfl (fun K hK => ?_) AllReadyH.nil
                go_simp
                (go_at_call 10; refine (S5.out.readT fun g t => look_says t xt xv HKX.out).mono ?_; rintro e t' ⟨rfl, rfl⟩; rw [HL2.out])
                refine hK.out _ _ ?_ (fun hH1 => ?_)
                · ((try dsimp only); first | exact hS0 | assumption)
                clear hK K hH0
                try simp only [Act.put, List.setIfInBounds_toArray, List.set_cons_zero, List.set_cons_succ]
                refine wpAnyH_take (i := 12) (oi := { dst := some 217, op := Go.Op.move (Go.Operand.tmp 229), type := 29, pos := "law.go:82", after := #[{ on := 11, ground := Go.Ground.data }], guard := none }) (v := ?_) rfl (by kernel_rfl) (by kernel_rfl) (by kernel_rfl) (fun _ _ _ h => h) (Or.inl ⟨by rfl, ?_⟩) (by assumption) ?_
                rotate_left
                · ((intro w hSw; (try dsimp only at hSw); go_simp) <;> (with_reducible rfl))
                try simp only [Act.put, List.setIfInBounds_toArray, List.set_cons_zero, List.set_cons_succ]
                refine wpAnyH_take (i := 13) (oi := { dst := some 230, op := Go.Op.extract (Go.Operand.tmp 217) 0, type := 3, pos := "law.go:82", after := #[{ on := 12, ground := Go.Ground.data }], guard := none }) (v := ?_) rfl (by kernel_rfl) (by kernel_rfl) (by kernel_rfl) (fun _ _ _ h => h) (Or.inl ⟨by rfl, ?_⟩) (by assumption) ?_
                rotate_left
                · ((intro w hSw; (try dsimp only at hSw); go_simp) <;> (with_reducible rfl))
                try simp only [Act.put, List.setIfInBounds_toArray, List.set_cons_zero, List.set_cons_succ]
                refine wpAnyH_take (i := 14) (oi := { dst := some 231, op := Go.Op.extract (Go.Operand.tmp 217) 1, type := 4, pos := "law.go:82", after := #[{ on := 12, ground := Go.Ground.data }, { on := 15, ground := Go.Ground.gcOnly Go.Departure.lateStores }], guard := none }) (v := ?_) rfl (by kernel_rfl) (by kernel_rfl) (by kernel_rfl) (fun _ _ _ h => h) (Or.inl ⟨by rfl, ?_⟩) (by assumption) ?_
                rotate_left
                · ((intro w hSw; (try dsimp only at hSw); go_simp) <;> (with_reducible rfl))
                try simp only [Act.put, List.setIfInBounds_toArray, List.set_cons_zero, List.set_cons_succ]
                refine wpAnyH_take (i := 15) (oi := { dst := some 19, op := Go.Op.assign (Go.Operand.tmp 230), type := 3, pos := "law.go:82", after := #[{ on := 13, ground := Go.Ground.data }, { on := 11, ground := Go.Ground.chain }, { on := 0, ground := Go.Ground.phase }, { on := 1, ground := Go.Ground.phase }, { on := 2, ground := Go.Ground.phase }, { on := 3, ground := Go.Ground.phase }, { on := 4, ground := Go.Ground.phase }, { on := 5, ground := Go.Ground.phase }, { on := 6, ground := Go.Ground.phase }, { on := 7, ground := Go.Ground.phase }, { on := 8, ground := Go.Ground.phase }, { on := 9, ground := Go.Ground.phase }, { on := 10, ground := Go.Ground.phase }, { on := 11, ground := Go.Ground.phase }, { on := 12, ground := Go.Ground.phase }, { on := 13, ground := Go.Ground.phase }, { on := 14, ground := Go.Ground.textOnly Go.Departure.lateStores }], guard := none }) (v := ?_) rfl (by kernel_rfl) (by kernel_rfl) (by kernel_rfl) (fun _ _ _ h => h) (Or.inl ⟨by rfl, ?_⟩) (by assumption) ?_
                rotate_left
                · ((intro w hSw; (try dsimp only at hSw); go_simp) <;> (with_reducible rfl))
                try simp only [Act.put, List.setIfInBounds_toArray, List.set_cons_zero, List.set_cons_succ]
                refine wpAnyH_take (i := 16) (oi := { dst := some 20, op := Go.Op.assign (Go.Operand.tmp 231), type := 4, pos := "law.go:82", after := #[{ on := 14, ground := Go.Ground.data }, { on := 15, ground := Go.Ground.chain }, { on := 0, ground := Go.Ground.phase }, { on := 1, ground := Go.Ground.phase }, { on := 2, ground := Go.Ground.phase }, { on := 3, ground := Go.Ground.phase }, { on := 4, ground := Go.Ground.phase }, { on := 5, ground := Go.Ground.phase }, { on := 6, ground := Go.Ground.phase }, { on := 7, ground := Go.Ground.phase }, { on := 8, ground := Go.Ground.phase }, { on := 9, ground := Go.Ground.phase }, { on := 10, ground := Go.Ground.phase }, { on := 11, ground := Go.Ground.phase }, { on := 12, ground := Go.Ground.phase }, { on := 13, ground := Go.Ground.phase }, { on := 14, ground := Go.Ground.phase }, { on := 15, ground := Go.Ground.phase }], guard := none }) (v := ?_) rfl (by kernel_rfl) (by kernel_rfl) (by kernel_rfl) (fun _ _ _ h => h) (Or.inl ⟨by rfl, ?_⟩) (by assumption) ?_
                rotate_left
                · ((intro w hSw; (try dsimp only at hSw); go_simp) <;> (with_reducible rfl))
                try simp only [Act.put, List.setIfInBounds_toArray, List.set_cons_zero, List.set_cons_succ]
                refine wpAnyH_done (by kernel_rfl) ?_ _
                go_wp2_with fail
                go_roundw
                case rel => exact ⟨j + 1, hjl, by go_num, HBV.out⟩
                case measure => simp [intOf]; omega
              · have hk' : ¬ (j : Int) < (R.length : Int) := by omega
                go_wp2
                exact HO.out _ (S.out.still hbv).b
end Go.Proofs.Ytkcjhhppfolajaa
