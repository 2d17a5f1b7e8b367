
/-
  The document's own lexer: Rune (written by wip/bin/mkrune.py).
-/
import Derived.Test.YtgikcciakbnehaaDoorLexRn
set_option maxRecDepth 100000
namespace Go.Proofs.YtgikcciakbnehaaDoor.Lex
open Go.Proofs.YtgikcciakbnehaaDoor Go.Proofs.YtgikcciakbnehaaDoor.Ser
open Go.ChangeShapes Go.WideShapes Go.ChangeAt Go.RowKit

set_option maxRecDepth 100000 in
set_option maxHeartbeats 8000000 in
theorem rune_says (s : ByteArray) (i : Nat) (hi : i < s.size) (hs : s.size ≤ 65536) (w : World) : Calls Tryd.prog 35 #[.string s, i64 i] w fun e w' => e = .returned (.tuple #[i64 (runeP (s.data.toList.drop i)).1, i64 (runeP (s.data.toList.drop i)).2]) ∧ w' = w := by
  obtain ⟨r, hr⟩ : ∃ r : Ending → World → Prop, r = fun e w' => e = .returned (.tuple #[i64 (runeP (s.data.toList.drop i)).1, i64 (runeP (s.data.toList.drop i)).2]) ∧ w' = w := ⟨_, rfl⟩
  rw [← hr]
  have hout : ∀ (x : Int) (m : Nat), runeN (s.size - i) (s.data.toList.getD i 0).toNat (s.data.toList.getD (i + 1) 0).toNat (s.data.toList.getD (i + 2) 0).toNat (s.data.toList.getD (i + 3) 0).toNat = (x, m) → r (.returned (.tuple #[i64 x, i64 m])) w := by
    intro x m h; rw [hr, runeP_N, h]; exact ⟨rfl, rfl⟩
  clear hr
  have g0 := at_D s i hi
  have g1 : ∀ h : i + 1 < s.size, s[i + 1].toNat = _ := fun h => at_D s (i + 1) h
  have g2 : ∀ h : i + 2 < s.size, s[i + 2].toNat = _ := fun h => at_D s (i + 2) h
  have g3 : ∀ h : i + 3 < s.size, s[i + 3].toNat = _ := fun h => at_D s (i + 3) h
  have t0 := (s.data.toList.getD i 0).toNat_lt
  have t1 := (s.data.toList.getD (i + 1) 0).toNat_lt
  have t2 := (s.data.toList.getD (i + 2) 0).toNat_lt
  have t3 := (s.data.toList.getD (i + 3) 0).toNat_lt
  obtain ⟨b0, e0⟩ : ∃ b, (s.data.toList.getD i 0).toNat = b := ⟨_, rfl⟩
  obtain ⟨b1, e1⟩ : ∃ b, (s.data.toList.getD (i + 1) 0).toNat = b := ⟨_, rfl⟩
  obtain ⟨b2, e2⟩ : ∃ b, (s.data.toList.getD (i + 2) 0).toNat = b := ⟨_, rfl⟩
  obtain ⟨b3, e3⟩ : ∃ b, (s.data.toList.getD (i + 3) 0).toNat = b := ⟨_, rfl⟩
  rw [e0, e1, e2, e3] at hout
  rw [e0] at g0 t0; rw [e1] at g1 t1; rw [e2] at g2 t2; rw [e3] at g3 t3
  clear e0 e1 e2 e3
  simp only [show (2 : Nat) ^ 8 = 256 from rfl] at t0 t1 t2 t3
  have hI : (0 : Int) ≤ (i : Int) := Int.natCast_nonneg i
  have hJ : (i : Int) < (s.size : Int) := by omega
  have hS : (s.size : Int) ≤ 65536 := by omega
  by_cases a1 : b0 < 128
  · replace hout := hout _ _ (runeN_1 a1)
    have z1 : (b0 : Int) < 128 := by omega
    clear g1 g2 g3 t1 t2 t3
    go_enter Tryd.func35, Tryd.ntmps35
    go_wp2
    exact hout
  have z1 : ¬ (b0 : Int) < 128 := by omega
  by_cases a2 : 192 ≤ b0 ∧ b0 < 224
  · obtain ⟨c0, c1⟩ := a2
    have y1 : (192 : Int) ≤ (b0 : Int) := by omega
    have y2 : (b0 : Int) < 224 := by omega
    have y3 : (0 : Int) ≤ (b0 : Int) := by omega
    by_cases hn : s.size - i < 2
    · replace hout := hout _ _ (runeN_bad (dn2_short t1 t2 t3 c0 c1 hn))
      have y4 : (s.size : Int) < (i : Int) + 2 := by omega
      clear g1 g2 g3 t1 t2 t3
      go_enter Tryd.func35, Tryd.ntmps35
      go_wp2
      exact hout
    have y4 : ¬ (s.size : Int) < (i : Int) + 2 := by omega
    have hd : ∀ j, 1 ≤ j → j < 2 → ∃ h : i + j < s.size, s[i + j].toNat = dn b1 b2 b3 j ∧ dn b1 b2 b3 j < 256 := by
      intro j h1 h2
      rcases (show j = 1 by omega) with rfl
      · exact ⟨by omega, g1 (by omega), t1⟩
    have hbad : ∀ j, 1 ≤ j → j < 2 → (dn b1 b2 b3 j < 128 ∨ 192 ≤ dn b1 b2 b3 j) → r (.returned (.tuple #[i64 0, i64 0])) w := by
      intro j h1 h2 h3
      rcases (show j = 1 by omega) with rfl
      · exact hout _ _ (runeN_bad (dn2_c1 t1 t2 t3 c0 c1 h3))
    have hend : (∀ j, 1 ≤ j → j ≤ 1 → 128 ≤ dn b1 b2 b3 j ∧ dn b1 b2 b3 j < 192) → ((cvF ((b0 : Int) - 192) (dn b1 b2 b3) 1 < 128 ∨ (55296 ≤ cvF ((b0 : Int) - 192) (dn b1 b2 b3) 1 ∧ cvF ((b0 : Int) - 192) (dn b1 b2 b3) 1 < 57344) ∨ 1114111 < cvF ((b0 : Int) - 192) (dn b1 b2 b3) 1) → r (.returned (.tuple #[i64 0, i64 0])) w) ∧ (¬ (cvF ((b0 : Int) - 192) (dn b1 b2 b3) 1 < 128 ∨ (55296 ≤ cvF ((b0 : Int) - 192) (dn b1 b2 b3) 1 ∧ cvF ((b0 : Int) - 192) (dn b1 b2 b3) 1 < 57344) ∨ 1114111 < cvF ((b0 : Int) - 192) (dn b1 b2 b3) 1) → r (.returned (.tuple #[i64 (cvF ((b0 : Int) - 192) (dn b1 b2 b3) 1), i64 2])) w) := by
      intro hc
      have d1 : 128 ≤ b1 ∧ b1 < 192 := hc 1 (by decide) (by decide)
      have e : cvF ((b0 : Int) - 192) (dn b1 b2 b3) 1 = ((64 * (b0 - 192) + b1 - 128 : Nat) : Int) := by simp only [cvF, dn]; omega
      rw [e]
      exact ⟨fun hv => hout _ _ (runeN_bad (dn2_v t1 t2 t3 c0 c1 (by omega) d1 (by omega))), fun hv => hout _ _ (runeN_ok (dn2_ok t1 t2 t3 c0 c1 (by omega) d1 (by omega)) (by decide))⟩
    obtain ⟨a, ha⟩ : ∃ a, ((b0 : Int) - 192) = a := ⟨_, rfl⟩
    obtain ⟨d, hdd⟩ : ∃ d, dn b1 b2 b3 = d := ⟨_, rfl⟩
    rw [ha] at hend
    rw [hdd] at hd hbad hend
    have HA := Lib.hid ha; have HD := Lib.hid hd; have HB := Lib.hid hbad; have HE := Lib.hid hend
    have ha0 : 0 ≤ a := by omega
    have ha1 : a < 32 := by omega
    clear hd hbad hend hdd g1 g2 g3 t1 t2 t3 hout a1 t0
    go_enter Tryd.func35, Tryd.ntmps35
    go_wp2
    try rw [HA.out]
    go_loop [9, 10] (fun v kk => ∃ j : Nat, j + 1 ≤ 2 ∧ kk = .int .i64 ((j : Int) + 1) ∧ v = .int .i64 (cvF a d j) ∧ Hid (∀ jj, 1 ≤ jj → jj ≤ j → 128 ≤ d jj ∧ d jj < 192)) (fun _ kk => 2 - (intOf kk).toNat)
    case atStart => exact ⟨0, by decide, rfl, rfl, Lib.hid (fun jj h1 h2 => by omega)⟩
    case round =>
      obtain ⟨j, hj, rfl, rfl, HC⟩ := hrel
      obtain ⟨v0, v1⟩ := cv_bd ha0 ha1 j (by omega) HC.out
      by_cases hjm : j + 1 < 2
      · obtain ⟨hx, ex, x1⟩ := HD.out (j + 1) (by omega) hjm
        have HX := Lib.hid (cvF_succ a d j)
        have HB1 := Lib.hid (HB.out (j + 1) (by omega) hjm)
        have HN := Lib.hid (cont_succ (d := d) (j := j) HC.out)
        obtain ⟨x, hxx⟩ : ∃ x, d (j + 1) = x := ⟨_, rfl⟩
        rw [hxx] at ex x1 HX HB1 HN
        obtain ⟨V, hV⟩ : ∃ V, cvF a d j = V := ⟨_, rfl⟩
        rw [hV] at v0 v1 HX ⊢
        have i0 : (j : Int) + 1 < 2 := by omega
        have i1 : (0 : Int) ≤ (j : Int) := by omega
        have i2 : (i : Int) + ((j : Int) + 1) < (s.size : Int) := by omega
        have x2 : (0 : Int) ≤ (x : Int) := by omega
        have x3 : (x : Int) < 256 := by omega
        clear hxx hV
        by_cases h1 : x < 128
        · replace HB1 := Lib.hid (HB1.out (.inl h1))
          have q1 : (x : Int) < 128 := by omega
          go_wp2
          exact HB1.out
        · have q1 : ¬ (x : Int) < 128 := by omega
          by_cases h2 : 192 ≤ x
          · replace HB1 := Lib.hid (HB1.out (.inr h2))
            have q2 : (192 : Int) ≤ (x : Int) := by omega
            go_wp2
            exact HB1.out
          · have q2 : ¬ (192 : Int) ≤ (x : Int) := by omega
            go_wp2
            go_round
            case rel => exact ⟨j + 1, by omega, by go_num, by rw [HX.out], Lib.hid (HN.out ⟨by omega, by omega⟩)⟩
            case measure => simp [intOf]; omega
      · obtain rfl : j = 1 := by omega
        obtain ⟨k1, k2⟩ := HE.out HC.out
        clear HC HD HB HE hj hjm
        obtain ⟨V, hV⟩ : ∃ V, cvF a d 1 = V := ⟨_, rfl⟩
        rw [hV] at v0 v1 k1 k2 ⊢
        clear hV
        by_cases f1 : V < 128
        · replace k1 := k1 (.inl f1)
          clear k2
          go_wp2
          exact k1
        · by_cases f2 : 55296 ≤ V
          · by_cases f3 : V < 57344
            · replace k1 := k1 (.inr (.inl ⟨f2, f3⟩))
              clear k2
              go_wp2
              exact k1
            · by_cases f4 : 1114111 < V
              · replace k1 := k1 (.inr (.inr f4))
                clear k2
                go_wp2
                exact k1
              · replace k2 := k2 (by omega)
                clear k1
                go_wp2
                exact k2
          · by_cases f4 : 1114111 < V
            · replace k1 := k1 (.inr (.inr f4))
              clear k2
              go_wp2
              exact k1
            · replace k2 := k2 (by omega)
              clear k1
              go_wp2
              exact k2
  by_cases a3 : 224 ≤ b0 ∧ b0 < 240
  · obtain ⟨c0, c1⟩ := a3
    have y1 : (224 : Int) ≤ (b0 : Int) := by omega
    have y2 : (b0 : Int) < 240 := by omega
    have y3 : (0 : Int) ≤ (b0 : Int) := by omega
    by_cases hn : s.size - i < 3
    · replace hout := hout _ _ (runeN_bad (dn3_short t1 t2 t3 c0 c1 hn))
      have y4 : (s.size : Int) < (i : Int) + 3 := by omega
      clear g1 g2 g3 t1 t2 t3
      go_enter Tryd.func35, Tryd.ntmps35
      go_wp2
      exact hout
    have y4 : ¬ (s.size : Int) < (i : Int) + 3 := by omega
    have hd : ∀ j, 1 ≤ j → j < 3 → ∃ h : i + j < s.size, s[i + j].toNat = dn b1 b2 b3 j ∧ dn b1 b2 b3 j < 256 := by
      intro j h1 h2
      rcases (show j = 1 ∨ j = 2 by omega) with rfl | rfl
      · exact ⟨by omega, g1 (by omega), t1⟩
      · exact ⟨by omega, g2 (by omega), t2⟩
    have hbad : ∀ j, 1 ≤ j → j < 3 → (dn b1 b2 b3 j < 128 ∨ 192 ≤ dn b1 b2 b3 j) → r (.returned (.tuple #[i64 0, i64 0])) w := by
      intro j h1 h2 h3
      rcases (show j = 1 ∨ j = 2 by omega) with rfl | rfl
      · exact hout _ _ (runeN_bad (dn3_c1 t1 t2 t3 c0 c1 h3))
      · exact hout _ _ (runeN_bad (dn3_c2 t1 t2 t3 c0 c1 h3))
    have hend : (∀ j, 1 ≤ j → j ≤ 2 → 128 ≤ dn b1 b2 b3 j ∧ dn b1 b2 b3 j < 192) → ((cvF ((b0 : Int) - 224) (dn b1 b2 b3) 2 < 2048 ∨ (55296 ≤ cvF ((b0 : Int) - 224) (dn b1 b2 b3) 2 ∧ cvF ((b0 : Int) - 224) (dn b1 b2 b3) 2 < 57344) ∨ 1114111 < cvF ((b0 : Int) - 224) (dn b1 b2 b3) 2) → r (.returned (.tuple #[i64 0, i64 0])) w) ∧ (¬ (cvF ((b0 : Int) - 224) (dn b1 b2 b3) 2 < 2048 ∨ (55296 ≤ cvF ((b0 : Int) - 224) (dn b1 b2 b3) 2 ∧ cvF ((b0 : Int) - 224) (dn b1 b2 b3) 2 < 57344) ∨ 1114111 < cvF ((b0 : Int) - 224) (dn b1 b2 b3) 2) → r (.returned (.tuple #[i64 (cvF ((b0 : Int) - 224) (dn b1 b2 b3) 2), i64 3])) w) := by
      intro hc
      have d1 : 128 ≤ b1 ∧ b1 < 192 := hc 1 (by decide) (by decide)
      have d2 : 128 ≤ b2 ∧ b2 < 192 := hc 2 (by decide) (by decide)
      have e : cvF ((b0 : Int) - 224) (dn b1 b2 b3) 2 = ((64 * (64 * (b0 - 224) + b1 - 128) + b2 - 128 : Nat) : Int) := by simp only [cvF, dn]; omega
      rw [e]
      exact ⟨fun hv => hout _ _ (runeN_bad (dn3_v t1 t2 t3 c0 c1 (by omega) d1 d2 (by omega))), fun hv => hout _ _ (runeN_ok (dn3_ok t1 t2 t3 c0 c1 (by omega) d1 d2 (by omega)) (by decide))⟩
    obtain ⟨a, ha⟩ : ∃ a, ((b0 : Int) - 224) = a := ⟨_, rfl⟩
    obtain ⟨d, hdd⟩ : ∃ d, dn b1 b2 b3 = d := ⟨_, rfl⟩
    rw [ha] at hend
    rw [hdd] at hd hbad hend
    have HA := Lib.hid ha; have HD := Lib.hid hd; have HB := Lib.hid hbad; have HE := Lib.hid hend
    have ha0 : 0 ≤ a := by omega
    have ha1 : a < 32 := by omega
    clear hd hbad hend hdd g1 g2 g3 t1 t2 t3 hout a1 t0
    go_enter Tryd.func35, Tryd.ntmps35
    go_wp2
    try rw [HA.out]
    go_loop [9, 10] (fun v kk => ∃ j : Nat, j + 1 ≤ 3 ∧ kk = .int .i64 ((j : Int) + 1) ∧ v = .int .i64 (cvF a d j) ∧ Hid (∀ jj, 1 ≤ jj → jj ≤ j → 128 ≤ d jj ∧ d jj < 192)) (fun _ kk => 3 - (intOf kk).toNat)
    case atStart => exact ⟨0, by decide, rfl, rfl, Lib.hid (fun jj h1 h2 => by omega)⟩
    case round =>
      obtain ⟨j, hj, rfl, rfl, HC⟩ := hrel
      obtain ⟨v0, v1⟩ := cv_bd ha0 ha1 j (by omega) HC.out
      by_cases hjm : j + 1 < 3
      · obtain ⟨hx, ex, x1⟩ := HD.out (j + 1) (by omega) hjm
        have HX := Lib.hid (cvF_succ a d j)
        have HB1 := Lib.hid (HB.out (j + 1) (by omega) hjm)
        have HN := Lib.hid (cont_succ (d := d) (j := j) HC.out)
        obtain ⟨x, hxx⟩ : ∃ x, d (j + 1) = x := ⟨_, rfl⟩
        rw [hxx] at ex x1 HX HB1 HN
        obtain ⟨V, hV⟩ : ∃ V, cvF a d j = V := ⟨_, rfl⟩
        rw [hV] at v0 v1 HX ⊢
        have i0 : (j : Int) + 1 < 3 := by omega
        have i1 : (0 : Int) ≤ (j : Int) := by omega
        have i2 : (i : Int) + ((j : Int) + 1) < (s.size : Int) := by omega
        have x2 : (0 : Int) ≤ (x : Int) := by omega
        have x3 : (x : Int) < 256 := by omega
        clear hxx hV
        by_cases h1 : x < 128
        · replace HB1 := Lib.hid (HB1.out (.inl h1))
          have q1 : (x : Int) < 128 := by omega
          go_wp2
          exact HB1.out
        · have q1 : ¬ (x : Int) < 128 := by omega
          by_cases h2 : 192 ≤ x
          · replace HB1 := Lib.hid (HB1.out (.inr h2))
            have q2 : (192 : Int) ≤ (x : Int) := by omega
            go_wp2
            exact HB1.out
          · have q2 : ¬ (192 : Int) ≤ (x : Int) := by omega
            go_wp2
            go_round
            case rel => exact ⟨j + 1, by omega, by go_num, by rw [HX.out], Lib.hid (HN.out ⟨by omega, by omega⟩)⟩
            case measure => simp [intOf]; omega
      · obtain rfl : j = 2 := by omega
        obtain ⟨k1, k2⟩ := HE.out HC.out
        clear HC HD HB HE hj hjm
        obtain ⟨V, hV⟩ : ∃ V, cvF a d 2 = V := ⟨_, rfl⟩
        rw [hV] at v0 v1 k1 k2 ⊢
        clear hV
        by_cases f1 : V < 2048
        · replace k1 := k1 (.inl f1)
          clear k2
          go_wp2
          exact k1
        · by_cases f2 : 55296 ≤ V
          · by_cases f3 : V < 57344
            · replace k1 := k1 (.inr (.inl ⟨f2, f3⟩))
              clear k2
              go_wp2
              exact k1
            · by_cases f4 : 1114111 < V
              · replace k1 := k1 (.inr (.inr f4))
                clear k2
                go_wp2
                exact k1
              · replace k2 := k2 (by omega)
                clear k1
                go_wp2
                exact k2
          · by_cases f4 : 1114111 < V
            · replace k1 := k1 (.inr (.inr f4))
              clear k2
              go_wp2
              exact k1
            · replace k2 := k2 (by omega)
              clear k1
              go_wp2
              exact k2
  by_cases a4 : 240 ≤ b0 ∧ b0 < 248
  · obtain ⟨c0, c1⟩ := a4
    have y1 : (240 : Int) ≤ (b0 : Int) := by omega
    have y2 : (b0 : Int) < 248 := by omega
    have y3 : (0 : Int) ≤ (b0 : Int) := by omega
    by_cases hn : s.size - i < 4
    · replace hout := hout _ _ (runeN_bad (dn4_short t1 t2 t3 c0 c1 hn))
      have y4 : (s.size : Int) < (i : Int) + 4 := by omega
      clear g1 g2 g3 t1 t2 t3
      go_enter Tryd.func35, Tryd.ntmps35
      go_wp2
      exact hout
    have y4 : ¬ (s.size : Int) < (i : Int) + 4 := by omega
    have hd : ∀ j, 1 ≤ j → j < 4 → ∃ h : i + j < s.size, s[i + j].toNat = dn b1 b2 b3 j ∧ dn b1 b2 b3 j < 256 := by
      intro j h1 h2
      rcases (show j = 1 ∨ j = 2 ∨ j = 3 by omega) with rfl | rfl | rfl
      · exact ⟨by omega, g1 (by omega), t1⟩
      · exact ⟨by omega, g2 (by omega), t2⟩
      · exact ⟨by omega, g3 (by omega), t3⟩
    have hbad : ∀ j, 1 ≤ j → j < 4 → (dn b1 b2 b3 j < 128 ∨ 192 ≤ dn b1 b2 b3 j) → r (.returned (.tuple #[i64 0, i64 0])) w := by
      intro j h1 h2 h3
      rcases (show j = 1 ∨ j = 2 ∨ j = 3 by omega) with rfl | rfl | rfl
      · exact hout _ _ (runeN_bad (dn4_c1 t1 t2 t3 c0 c1 h3))
      · exact hout _ _ (runeN_bad (dn4_c2 t1 t2 t3 c0 c1 h3))
      · exact hout _ _ (runeN_bad (dn4_c3 t1 t2 t3 c0 c1 h3))
    have hend : (∀ j, 1 ≤ j → j ≤ 3 → 128 ≤ dn b1 b2 b3 j ∧ dn b1 b2 b3 j < 192) → ((cvF ((b0 : Int) - 240) (dn b1 b2 b3) 3 < 65536 ∨ (55296 ≤ cvF ((b0 : Int) - 240) (dn b1 b2 b3) 3 ∧ cvF ((b0 : Int) - 240) (dn b1 b2 b3) 3 < 57344) ∨ 1114111 < cvF ((b0 : Int) - 240) (dn b1 b2 b3) 3) → r (.returned (.tuple #[i64 0, i64 0])) w) ∧ (¬ (cvF ((b0 : Int) - 240) (dn b1 b2 b3) 3 < 65536 ∨ (55296 ≤ cvF ((b0 : Int) - 240) (dn b1 b2 b3) 3 ∧ cvF ((b0 : Int) - 240) (dn b1 b2 b3) 3 < 57344) ∨ 1114111 < cvF ((b0 : Int) - 240) (dn b1 b2 b3) 3) → r (.returned (.tuple #[i64 (cvF ((b0 : Int) - 240) (dn b1 b2 b3) 3), i64 4])) w) := by
      intro hc
      have d1 : 128 ≤ b1 ∧ b1 < 192 := hc 1 (by decide) (by decide)
      have d2 : 128 ≤ b2 ∧ b2 < 192 := hc 2 (by decide) (by decide)
      have d3 : 128 ≤ b3 ∧ b3 < 192 := hc 3 (by decide) (by decide)
      have e : cvF ((b0 : Int) - 240) (dn b1 b2 b3) 3 = ((64 * (64 * (64 * (b0 - 240) + b1 - 128) + b2 - 128) + b3 - 128 : Nat) : Int) := by simp only [cvF, dn]; omega
      rw [e]
      exact ⟨fun hv => hout _ _ (runeN_bad (dn4_v t1 t2 t3 c0 c1 (by omega) d1 d2 d3 (by omega))), fun hv => hout _ _ (runeN_ok (dn4_ok t1 t2 t3 c0 c1 (by omega) d1 d2 d3 (by omega)) (by decide))⟩
    obtain ⟨a, ha⟩ : ∃ a, ((b0 : Int) - 240) = a := ⟨_, rfl⟩
    obtain ⟨d, hdd⟩ : ∃ d, dn b1 b2 b3 = d := ⟨_, rfl⟩
    rw [ha] at hend
    rw [hdd] at hd hbad hend
    have HA := Lib.hid ha; have HD := Lib.hid hd; have HB := Lib.hid hbad; have HE := Lib.hid hend
    have ha0 : 0 ≤ a := by omega
    have ha1 : a < 32 := by omega
    clear hd hbad hend hdd g1 g2 g3 t1 t2 t3 hout a1 t0
    go_enter Tryd.func35, Tryd.ntmps35
    go_wp2
    try rw [HA.out]
    go_loop [9, 10] (fun v kk => ∃ j : Nat, j + 1 ≤ 4 ∧ kk = .int .i64 ((j : Int) + 1) ∧ v = .int .i64 (cvF a d j) ∧ Hid (∀ jj, 1 ≤ jj → jj ≤ j → 128 ≤ d jj ∧ d jj < 192)) (fun _ kk => 4 - (intOf kk).toNat)
    case atStart => exact ⟨0, by decide, rfl, rfl, Lib.hid (fun jj h1 h2 => by omega)⟩
    case round =>
      obtain ⟨j, hj, rfl, rfl, HC⟩ := hrel
      obtain ⟨v0, v1⟩ := cv_bd ha0 ha1 j (by omega) HC.out
      by_cases hjm : j + 1 < 4
      · obtain ⟨hx, ex, x1⟩ := HD.out (j + 1) (by omega) hjm
        have HX := Lib.hid (cvF_succ a d j)
        have HB1 := Lib.hid (HB.out (j + 1) (by omega) hjm)
        have HN := Lib.hid (cont_succ (d := d) (j := j) HC.out)
        obtain ⟨x, hxx⟩ : ∃ x, d (j + 1) = x := ⟨_, rfl⟩
        rw [hxx] at ex x1 HX HB1 HN
        obtain ⟨V, hV⟩ : ∃ V, cvF a d j = V := ⟨_, rfl⟩
        rw [hV] at v0 v1 HX ⊢
        have i0 : (j : Int) + 1 < 4 := by omega
        have i1 : (0 : Int) ≤ (j : Int) := by omega
        have i2 : (i : Int) + ((j : Int) + 1) < (s.size : Int) := by omega
        have x2 : (0 : Int) ≤ (x : Int) := by omega
        have x3 : (x : Int) < 256 := by omega
        clear hxx hV
        by_cases h1 : x < 128
        · replace HB1 := Lib.hid (HB1.out (.inl h1))
          have q1 : (x : Int) < 128 := by omega
          go_wp2
          exact HB1.out
        · have q1 : ¬ (x : Int) < 128 := by omega
          by_cases h2 : 192 ≤ x
          · replace HB1 := Lib.hid (HB1.out (.inr h2))
            have q2 : (192 : Int) ≤ (x : Int) := by omega
            go_wp2
            exact HB1.out
          · have q2 : ¬ (192 : Int) ≤ (x : Int) := by omega
            go_wp2
            go_round
            case rel => exact ⟨j + 1, by omega, by go_num, by rw [HX.out], Lib.hid (HN.out ⟨by omega, by omega⟩)⟩
            case measure => simp [intOf]; omega
      · obtain rfl : j = 3 := by omega
        obtain ⟨k1, k2⟩ := HE.out HC.out
        clear HC HD HB HE hj hjm
        obtain ⟨V, hV⟩ : ∃ V, cvF a d 3 = V := ⟨_, rfl⟩
        rw [hV] at v0 v1 k1 k2 ⊢
        clear hV
        by_cases f1 : V < 65536
        · replace k1 := k1 (.inl f1)
          clear k2
          go_wp2
          exact k1
        · by_cases f2 : 55296 ≤ V
          · by_cases f3 : V < 57344
            · replace k1 := k1 (.inr (.inl ⟨f2, f3⟩))
              clear k2
              go_wp2
              exact k1
            · by_cases f4 : 1114111 < V
              · replace k1 := k1 (.inr (.inr f4))
                clear k2
                go_wp2
                exact k1
              · replace k2 := k2 (by omega)
                clear k1
                go_wp2
                exact k2
          · by_cases f4 : 1114111 < V
            · replace k1 := k1 (.inr (.inr f4))
              clear k2
              go_wp2
              exact k1
            · replace k2 := k2 (by omega)
              clear k1
              go_wp2
              exact k2
  replace hout := hout _ _ (runeN_bad (dn_other t1 t2 t3 (by omega) t0))
  clear g1 g2 g3 t1 t2 t3
  rcases (show b0 < 192 ∨ 248 ≤ b0 by omega) with f1 | f1
  · have y1 : ¬ (192 : Int) ≤ (b0 : Int) := by omega
    have y2 : ¬ (224 : Int) ≤ (b0 : Int) := by omega
    have y3 : ¬ (240 : Int) ≤ (b0 : Int) := by omega
    go_enter Tryd.func35, Tryd.ntmps35
    go_wp2
    exact hout
  · have y1 : (248 : Int) ≤ (b0 : Int) := by omega
    have y2 : ¬ (b0 : Int) < 224 := by omega
    have y3 : ¬ (b0 : Int) < 240 := by omega
    have y4 : ¬ (b0 : Int) < 248 := by omega
    have y5 : (192 : Int) ≤ (b0 : Int) := by omega
    have y6 : (224 : Int) ≤ (b0 : Int) := by omega
    have y7 : (240 : Int) ≤ (b0 : Int) := by omega
    go_enter Tryd.func35, Tryd.ntmps35
    go_wp2
    exact hout
end Go.Proofs.YtgikcciakbnehaaDoor.Lex
