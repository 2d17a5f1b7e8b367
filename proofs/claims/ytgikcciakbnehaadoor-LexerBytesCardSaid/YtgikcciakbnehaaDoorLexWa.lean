/-
  The document's own lexer: Tokens, way by way (written by wip/bin/mkparts.py, splitparts.py).
-/
import Derived.Test.YtgikcciakbnehaaDoorLexPa
namespace Go.Proofs.YtgikcciakbnehaaDoor.Lex
open Go.Proofs.YtgikcciakbnehaaDoor Go.Proofs.YtgikcciakbnehaaDoor.Ser
open Go.ChangeShapes Go.WideShapes Go.ChangeAt Go.RowKit
set_option linter.unusedVariables false
set_option maxRecDepth 100000 in
set_option maxHeartbeats 16000000 in
theorem way_blank (s : ByteArray) (W : World) (hs : s.size ≤ 65536) : (parts s W hs).fst := by
  unfold parts
  intro r Z HO w0 h HH zz0 zz1 wr u2 u3 u4 u5 u9 u10 u11 u12 u19 u20 u21 u22 u23 u24 u25 u26 u27 u28 u29 u30 u31 u32 u33 u34 u35 u36 u37 u38 u39 u40 u41 u42 u43 u44 u45 u46 u47 u48 u49 u50 u51 u52 u53 u54 u55 u56 u57 u58 u59 u60 u61 u62 u63 u64 u65 u66 u67 u68 u69 u70 u71 u72 u73 u74 u75 u76 u77 u78 u79 u80 u81 u82 u83 u84 u85 u86 u87 u88 u89 u90 u91 u92 u93 u94 u95 u96 u97 u98 u99 u100 u101 u102 u103 u104 u105 u106 u107 u108 u109 u110 u111 u112 u113 u114 u115 u116 u117 u118 u119 u120 u121 u122 u123 u124 u125 u126 u127 u128 u129 u130 u131 u132 u133 u134 u135 u136 u137 u138 u139 u140 u141 u142 u143 u144 u145 u146 u147 u148 u149 u150 u151 u152 u153 u154 u155 u156 u157 u158 u159 u160 u161 u162 u163 u164 u165 u166 u167 u168 u169 u170 u171 u172 u173 u174 u175 u176 u177 u178 u179 u180 u181 u182 u183 u184 u185 u186 u187 u188 u189 u190 u191 u192 u193 u194 u195 u196 u197 u198 u199 u200 u201 u202 u203 u204 p n q T' k l c T HS HL LD HTK HSA x4 R f x HX HXR HRK HGO HF HGD kI b0 b1 hbl
  have HGO2 := Lib.hid (goO_next (f := f) (R := R) (l := l) (c := c) (T := T) (by rw [HXR.out]; rintro rfl; exact absurd hbl (by decide)) (by rw [step_blank (by rw [HXR.out]; exact hbl)]; rfl))
  have HSB := Lib.hid (step_blank (R := R) (l := l) (c := c) (by rw [HXR.out]; exact hbl))
  have hx3 : x = 32 ∨ x = 9 ∨ x = 13 := by unfold blank at hbl; simpa [or_assoc] using hbl
  have H0 := Lib.hid (show 0 ≤ hd (rsAt s k) ∧ hd (rsAt s k) ≠ 10 by rw [HX.out]; omega)
  clear hbl
  rcases hx3 with rfl | rfl | rfl
  all_goals
    go_wp2_with (first | (go_at_call 15; refine (pass_rn (HS.out.kept (S := fun _ => False) (by first | exact But.refl _ _ | exact (But.refl _ _).drew | exact (But.refl _ _).drew.drew) id) hs H0.out.1 H0.out.2).mono ?_; rintro e w2 ⟨rfl, b2, k2, hk2, hM2, P2, S2⟩; have HS2 := Lib.hid S2; have B2 := Lib.hid b2; have HK2 := Lib.hid hk2; have HM2 := Lib.hid hM2; clear S2 b2 hk2 hM2 P2) | (go_at_call 14; refine (peek_rn (HS.out.kept (S := fun _ => False) (by first | exact But.refl _ _ | exact (But.refl _ _).drew | exact (But.refl _ _).drew.drew) id) hs HX.out).mono ?_; rintro e w1 ⟨rfl, S1, b1⟩; have HS := Lib.hid S1; have B1 := Lib.hid b1; clear S1 b1))
    go_roundw
    case rel =>
      have hd1 : rsAt s k2 = R.drop 1 := by rw [HM2.out, HRK.out]
      exact ⟨p, n, q, T', l - 1, rfl, rfl, (LD.out.go B1.out (fun _ h => h.elim)).go B2.out (fun i hi => .inl hi), by have := HTK.out; have := HS.out.kl; omega, .inl ⟨f, k2, l, c + 1, T, HS2.out, by rw [hd1, ← HGO.out, HGO2.out, HSB.out]; simp [okO, Out.line, Out.col], by rw [hd1, List.length_drop]; have := HF.out; omega, HSA.out, by have := HTK.out; have := HK2.out; omega, rfl⟩⟩
    case measure => rw [HL.out, HS2.out.leftE]; have := HK2.out; have := HS2.out.kl; omega
set_option maxRecDepth 100000 in
set_option maxHeartbeats 16000000 in
theorem way_semi (s : ByteArray) (W : World) (hs : s.size ≤ 65536) : (parts s W hs).snd.fst := by
  unfold parts
  intro r Z HO w0 h HH zz0 zz1 wr u2 u3 u4 u5 u9 u10 u11 u12 u19 u20 u21 u22 u23 u24 u25 u26 u27 u28 u29 u30 u31 u32 u33 u34 u35 u36 u37 u38 u39 u40 u41 u42 u43 u44 u45 u46 u47 u48 u49 u50 u51 u52 u53 u54 u55 u56 u57 u58 u59 u60 u61 u62 u63 u64 u65 u66 u67 u68 u69 u70 u71 u72 u73 u74 u75 u76 u77 u78 u79 u80 u81 u82 u83 u84 u85 u86 u87 u88 u89 u90 u91 u92 u93 u94 u95 u96 u97 u98 u99 u100 u101 u102 u103 u104 u105 u106 u107 u108 u109 u110 u111 u112 u113 u114 u115 u116 u117 u118 u119 u120 u121 u122 u123 u124 u125 u126 u127 u128 u129 u130 u131 u132 u133 u134 u135 u136 u137 u138 u139 u140 u141 u142 u143 u144 u145 u146 u147 u148 u149 u150 u151 u152 u153 u154 u155 u156 u157 u158 u159 u160 u161 u162 u163 u164 u165 u166 u167 u168 u169 u170 u171 u172 u173 u174 u175 u176 u177 u178 u179 u180 u181 u182 u183 u184 u185 u186 u187 u188 u189 u190 u191 u192 u193 u194 u195 u196 u197 u198 u199 u200 u201 u202 u203 u204 p n q T' k l c T HS HL LD HTK HSA x4 R f x HX HXR HRK HGO HF HGD kI b0 b1 n32 n9 n13 HBL h59
  subst h59
  have HPR := Lib.hid (fun i (hi : i < remLen R) => (by
    have h1 := tw_at (fun r => decide (r ≠ 10) && decide (0 ≤ r)) R i hi
    simp only [Bool.and_eq_true, decide_eq_true_eq] at h1
    exact h1 : hd (R.drop i) ≠ 10 ∧ 0 ≤ hd (R.drop i)))
  have HPE := Lib.hid (show hd (R.drop (remLen R)) = 10 ∨ hd (R.drop (remLen R)) < 0 from by
    have h1 := tw_end (fun r => decide (r ≠ 10) && decide (0 ≤ r)) (by decide) R
    simp only [Bool.and_eq_false_iff, decide_eq_false_iff_not] at h1
    change (¬ hd (R.drop (remLen R)) ≠ 10 ∨ ¬ 0 ≤ hd (R.drop (remLen R))) at h1
    omega)
  have HRL := Lib.hid (tw_len (fun r => decide (r ≠ 10) && decide (0 ≤ r)) R)
  have HRN := Lib.hid (show 1 ≤ remLen R from tw_pos _ (by rw [← HRK.out]; exact rsAt_ne s k) (by rw [HXR.out]; decide))
  have hst := step_rem (l := l) (c := c) (R := R) (by rw [HXR.out]; rfl) HXR.out
  have HGO2 := Lib.hid (goO_next (f := f) (R := R) (l := l) (c := c) (T := T) (by rw [HXR.out]; decide) (by rw [hst]; rfl))
  rw [hst] at HGO2
  replace HGO2 : Hid (goO (f + 1) R l c T = goO f (R.drop (remLen R)) l (c + (remLen R : Nat)) T) := Lib.hid (by rw [HGO2.out]; simp [okO, Out.line, Out.col])
  obtain ⟨N, hN⟩ : ∃ N, remLen R = N := ⟨_, rfl⟩
  change Hid ((R.takeWhile (fun r => decide (r ≠ 10) && decide (0 ≤ r))).length ≤ R.length) at HRL
  rw [show (R.takeWhile (fun r => decide (r ≠ 10) && decide (0 ≤ r))).length = remLen R from rfl] at HRL
  rw [hN] at HPR HPE HRL HRN HGO2
  clear hst hN
  have HGA := Lib.hid (fun y (hy : hd (R.drop N) = y) => (by have := (by rw [← HRK.out]; unfold rsAt; exact good _ : Good R); exact this.drop N : N < R.length → Good (R.drop N)))
  go_wp2_with (go_at_call 14; refine (peek_rn (HS.out.kept (S := fun _ => False) (by first | exact But.refl _ _ | exact (But.refl _ _).drew | exact (But.refl _ _).drew.drew) id) hs HX.out).mono ?_; rintro e w1 ⟨rfl, S1, b1⟩; have HS := Lib.hid S1; have B1 := Lib.hid b1; clear S1 b1)
  have LD0 := Lib.hid (LD.out.go B1.out (fun _ h => h.elim))
  go_loopw [9] (fun s9 wq => ∃ (i k' : Nat), i ≤ N ∧ s9 = i64 (hd (R.drop i)) ∧ k + i ≤ k' ∧ rsAt s k' = R.drop i ∧ Rn wq h s k' l (c + (i : Int)) ∧ Ld W wq h (.slice p n q) T') (fun _ wq => Lex.left h s.size wq)
  case atStart => exact ⟨0, k, Nat.zero_le _, by rw [List.drop_zero, HXR.out], by omega, by rw [List.drop_zero, HRK.out], HS.out.cst (by simp), LD0.out⟩
  case round =>
    have HL0 := HL
    clear HS LD LD0 B1 x4
    obtain ⟨i, k', hi, rfl, hk', hM, S', L'⟩ := hrel
    have HS := Lib.hid S'
    have LD := Lib.hid L'
    have HLQ := Lib.hid S'.left
    have HK' := Lib.hid hk'
    have HMM := Lib.hid hM
    have kI' : (k' : Int) ≤ 65536 := by have := S'.kl; omega
    obtain ⟨y, hy⟩ : ∃ y, hd (R.drop i) = y := ⟨_, rfl⟩
    have HY := Lib.hid hy
    have hyb := hd_bds (s := s) k'
    rw [hM, hy] at hyb
    rw [hy]
    clear S' L' hk' hM
    by_cases hiN : i < N
    · have yl := HPR.out i hiN
      rw [hy] at yl
      obtain ⟨yl1, yl2⟩ := yl
      have yb : (y != 10) = true := by simpa using yl1
      have H0 := Lib.hid (show 0 ≤ hd (rsAt s k') ∧ hd (rsAt s k') ≠ 10 by rw [HMM.out, HY.out]; exact ⟨yl2, yl1⟩)
      clear yl1 hy hyb
      go_upto_region 13 with (go_at_call 15; refine (pass_rn (HS.out.kept (S := fun _ => False) (by first | exact But.refl _ _ | exact (But.refl _ _).drew | exact (But.refl _ _).drew.drew) id) hs H0.out.1 H0.out.2).mono ?_; rintro e w2 ⟨rfl, b2, k2, hk2, hM2, P2, S2⟩; have HS2 := Lib.hid S2; have B2 := Lib.hid b2; have HK2 := Lib.hid hk2; have HM2 := Lib.hid hM2; clear S2 b2 hk2 hM2 P2)
      have HM3 := Lib.hid (show rsAt s k2 = R.drop (i + 1) by rw [HM2.out, HMM.out, List.drop_drop])
      replace HX := Lib.hid (show hd (rsAt s k2) = hd (R.drop (i + 1)) by rw [HM3.out])
      replace HS := HS2
      go_wp2_with (go_at_call 14; refine (peek_rn (HS.out.kept (S := fun _ => False) (by first | exact But.refl _ _ | exact (But.refl _ _).drew | exact (But.refl _ _).drew.drew) id) hs HX.out).mono ?_; rintro e w1 ⟨rfl, S1, b1⟩; have HS := Lib.hid S1; have B1 := Lib.hid b1; clear S1 b1)
      go_roundw
      case rel => exact ⟨i + 1, k2, hiN, rfl, by have := HK2.out; have := HK'.out; omega, HM3.out, HS.out.cst (by simp; omega), (LD.out.go B2.out (fun i hi => .inl hi)).go B1.out (fun _ h => h.elim)⟩
      case measure => rw [HLQ.out, HS.out.left]; have := HK2.out; have := HS.out.kl; omega
    · obtain rfl : i = N := by omega
      have yl := HPE.out
      rw [hy] at yl
      have HLR := Lib.hid (show (R.drop i).length ≤ f ∧ 1 ≤ (R.drop i).length from by
        have h1 := HF.out
        have h2 := HRN.out
        have h3 := rsAt_ne s k'
        rw [HMM.out] at h3
        have h4 := List.length_pos_iff.2 h3
        rw [List.length_drop] at h4 ⊢
        omega)
      clear HPR HPE hiN hi
      by_cases y2 : y = -2
      · subst y2
        clear yl hyb hy
        have x4 := HS.out.x.err
        go_upto_region 15 with fail
        have z2 := HS.out.x.line
        have z3 := HS.out.x.col
        clear x4
        go_cut [10] from 19 to 204 (fun s10 wx => ∃ g, s10 = .pointer (some ⟨g, 0, none⟩) ∧ St wx wx h g s k' l (c + (i : Int)) ⟨0, ⟨#[]⟩, 0, l, c + (i : Int)⟩ ∧ Ld W wx h (.slice p n q) T' ∧ Value.ownBlock (.slice p n q) ≠ some g ∧ h ≤ g)
        case first =>
          have z2A := ((But.refl (fun _ => False) wr).alloc (.cells #[i64 0, .string ByteArray.empty, i64 0, i64 0, i64 0] 28)).cell z2 id
          have z3A := ((But.refl (fun _ => False) wr).alloc (.cells #[i64 0, .string ByteArray.empty, i64 0, i64 0, i64 0] 28)).cell z3 id
          have bA : But (fun _ => False) wr (wr.alloc (.cells (tcell ⟨0, ⟨#[]⟩, 0, l, c + (i : Int)⟩).toArray 28)).drew := ((But.refl _ wr).alloc _).drew
          have z2B := bA.cell z2 id
          have z3B := bA.cell z3 id
          refine wp_region_held_drew (S := (fun u => u.cell? ⟨h, 2, none⟩ = some (i64 l) ∧ u.cell? ⟨h, 3, none⟩ = some (i64 (c + (i : Int))))) (by kernel_rfl) ?_ (fun hH0 => ?_)
          · ((try dsimp only); first | exact ⟨z2, z3⟩ | exact ⟨z2A, z3A⟩ | exact ⟨z2B, z3B⟩)
          refine wpAnyH_take (i := 0) (oi := { dst := some 52, op := Go.Op.move (Go.Operand.tmp 6), type := 48, pos := "asm.go:151", after := #[], guard := none }) (v := ?_) rfl (by kernel_rfl) (by kernel_rfl) (by kernel_rfl) (fun _ _ _ h => h) (Or.inl ⟨by rfl, ?_⟩) (by assumption) ?_
          rotate_left
          · ((intro w hSw; (try dsimp only at hSw); go_simp) <;> (with_reducible rfl))
          try simp only [Act.put, List.setIfInBounds_toArray, List.set_cons_zero, List.set_cons_succ]
          refine wpAnyH_take (i := 1) (oi := { dst := some 53, op := Go.Op.nilCheck (Go.Operand.tmp 52), type := 0, pos := "asm.go:151", after := #[{ on := 0, ground := Go.Ground.data }], guard := none }) (v := ?_) rfl (by kernel_rfl) (by kernel_rfl) (by kernel_rfl) (fun _ _ _ h => h) (Or.inl ⟨by rfl, ?_⟩) (by assumption) ?_
          rotate_left
          · ((intro w hSw; (try dsimp only at hSw); go_simp) <;> (with_reducible rfl))
          try simp only [Act.put, List.setIfInBounds_toArray, List.set_cons_zero, List.set_cons_succ]
          refine wpAnyH_take (i := 2) (oi := { dst := some 54, op := Go.Op.fieldAddr 50 (Go.Operand.tmp 53) 2, type := 0, pos := "asm.go:151", after := #[{ on := 1, ground := Go.Ground.data }], guard := none }) (v := ?_) rfl (by kernel_rfl) (by kernel_rfl) (by kernel_rfl) (fun _ _ _ h => h) (Or.inl ⟨by rfl, ?_⟩) (by assumption) ?_
          rotate_left
          · ((intro w hSw; (try dsimp only at hSw); go_simp) <;> (with_reducible rfl))
          try simp only [Act.put, List.setIfInBounds_toArray, List.set_cons_zero, List.set_cons_succ]
          refine wpAnyH_take (i := 3) (oi := { dst := some 55, op := Go.Op.load 3 (Go.Operand.tmp 54), type := 3, pos := "asm.go:151", after := #[{ on := 2, ground := Go.Ground.data }], guard := none }) (v := ?_) rfl (by kernel_rfl) (by kernel_rfl) (by kernel_rfl) (fun _ _ _ h => h) (Or.inl ⟨by rfl, ?_⟩) (by assumption) ?_
          rotate_left
          · ((intro w hSw; (try dsimp only at hSw); go_simp) <;> (with_reducible rfl))
          try simp only [Act.put, List.setIfInBounds_toArray, List.set_cons_zero, List.set_cons_succ]
          refine wpAnyH_take (i := 4) (oi := { dst := some 56, op := Go.Op.move (Go.Operand.tmp 6), type := 48, pos := "asm.go:151", after := #[], guard := none }) (v := ?_) rfl (by kernel_rfl) (by kernel_rfl) (by kernel_rfl) (fun _ _ _ h => h) (Or.inl ⟨by rfl, ?_⟩) (by assumption) ?_
          rotate_left
          · ((intro w hSw; (try dsimp only at hSw); go_simp) <;> (with_reducible rfl))
          try simp only [Act.put, List.setIfInBounds_toArray, List.set_cons_zero, List.set_cons_succ]
          refine wpAnyH_take (i := 5) (oi := { dst := some 57, op := Go.Op.nilCheck (Go.Operand.tmp 56), type := 0, pos := "asm.go:151", after := #[{ on := 4, ground := Go.Ground.data }], guard := none }) (v := ?_) rfl (by kernel_rfl) (by kernel_rfl) (by kernel_rfl) (fun _ _ _ h => h) (Or.inl ⟨by rfl, ?_⟩) (by assumption) ?_
          rotate_left
          · ((intro w hSw; (try dsimp only at hSw); go_simp) <;> (with_reducible rfl))
          try simp only [Act.put, List.setIfInBounds_toArray, List.set_cons_zero, List.set_cons_succ]
          refine wpAnyH_take (i := 6) (oi := { dst := some 58, op := Go.Op.fieldAddr 50 (Go.Operand.tmp 57) 3, type := 0, pos := "asm.go:151", after := #[{ on := 5, ground := Go.Ground.data }], guard := none }) (v := ?_) rfl (by kernel_rfl) (by kernel_rfl) (by kernel_rfl) (fun _ _ _ h => h) (Or.inl ⟨by rfl, ?_⟩) (by assumption) ?_
          rotate_left
          · ((intro w hSw; (try dsimp only at hSw); go_simp) <;> (with_reducible rfl))
          try simp only [Act.put, List.setIfInBounds_toArray, List.set_cons_zero, List.set_cons_succ]
          refine wpAnyH_take (i := 7) (oi := { dst := some 59, op := Go.Op.load 3 (Go.Operand.tmp 58), type := 3, pos := "asm.go:151", after := #[{ on := 6, ground := Go.Ground.data }], guard := none }) (v := ?_) rfl (by kernel_rfl) (by kernel_rfl) (by kernel_rfl) (fun _ _ _ h => h) (Or.inl ⟨by rfl, ?_⟩) (by assumption) ?_
          rotate_left
          · ((intro w hSw; (try dsimp only at hSw); go_simp) <;> (with_reducible rfl))
          try simp only [Act.put, List.setIfInBounds_toArray, List.set_cons_zero, List.set_cons_succ]
          refine wpAnyH_take (i := 8) (oi := { dst := some 60, op := Go.Op.build 28 #[(3, Go.Operand.tmp 55), (4, Go.Operand.tmp 59)], type := 28, pos := "asm.go:151", after := #[{ on := 3, ground := Go.Ground.data }, { on := 7, ground := Go.Ground.data }], guard := none }) (v := ?_) rfl (by kernel_rfl) (by kernel_rfl) (by kernel_rfl) (fun _ _ _ h => h) (Or.inl ⟨by rfl, ?_⟩) (by assumption) ?_
          rotate_left
          · ((intro w hSw; (try dsimp only at hSw); go_simp) <;> (with_reducible rfl))
          try simp only [Act.put, List.setIfInBounds_toArray, List.set_cons_zero, List.set_cons_succ]
          refine wpAnyH_ready (rs := [9]) (by kernel_rfl) (by simp) ?_
          refine AllReadyH.cons (o := { dst := some 10, op := Go.Op.alloc 28, type := 0, pos := "asm.go:151", after := #[], guard := none }) rfl (fun K hK => ?_) AllReadyH.nil
          go_simp
          refine hK.out _ _ ?_ (fun hH1 => ?_)
          · ((try dsimp only); first | exact ⟨z2, z3⟩ | exact ⟨z2A, z3A⟩ | exact ⟨z2B, z3B⟩)
          clear hK K hH0
          try simp only [Act.put, List.setIfInBounds_toArray, List.set_cons_zero, List.set_cons_succ]
          refine wpAnyH_ready (rs := [10]) (by kernel_rfl) (by simp) ?_
          refine AllReadyH.cons (o := { dst := none, op := Go.Op.store 28 (Go.Operand.tmp 10) (Go.Operand.tmp 60), type := 0, pos := "asm.go:151", after := #[{ on := 9, ground := Go.Ground.data }, { on := 8, ground := Go.Ground.data }, { on := 0, ground := Go.Ground.phase }, { on := 1, ground := Go.Ground.phase }, { on := 2, ground := Go.Ground.phase }, { on := 3, ground := Go.Ground.phase }, { on := 4, ground := Go.Ground.phase }, { on := 5, ground := Go.Ground.phase }, { on := 6, ground := Go.Ground.phase }, { on := 7, ground := Go.Ground.phase }, { on := 8, ground := Go.Ground.phase }, { on := 9, ground := Go.Ground.phase }], guard := none }) rfl (fun K hK => ?_) AllReadyH.nil
          go_simp
          refine hK.out _ _ ?_ (fun hH2 => ?_)
          · ((try dsimp only); first | exact ⟨z2, z3⟩ | exact ⟨z2A, z3A⟩ | exact ⟨z2B, z3B⟩)
          clear hK K hH1
          try simp only [Act.put, List.setIfInBounds_toArray, List.set_cons_zero, List.set_cons_succ]
          refine wpAnyH_done (by kernel_rfl) ?_ _
          go_wp2_with fail
          go_meet
          case rel => exact ⟨wr.heap.size, rfl, tok_st HS.out (Nat.le_refl _) (MapKept.heap_alloc wr _).1 bA, LD.out.go bA (fun _ h => h.elim), fun e => (by have := (LD.out.lt e).2; omega), (by have := (Array.getElem?_eq_some_iff.1 HS.out.x.hd).1; omega)⟩
        case rest =>
          obtain ⟨g, rfl, S5, L5, N5, G5⟩ := hcut
          have GH := Lib.hid G5
          obtain ⟨wa, rfl⟩ : ∃ wa, wa = wc := ⟨wc, rfl⟩
          have HT := Lib.hid S5
          replace LD := Lib.hid L5
          have HN := Lib.hid N5
          clear S5 L5 N5 G5 z2 z3 HS
          have z2 := HT.out.x.line
          have z3 := HT.out.x.col
          go_wp2_with fail
          go_region_with (go_at_call 16; refine (fail_st (HT.out.later (by first | exact But.refl _ _ | exact (But.refl _ _).drew | exact (But.refl _ _).drew.drew)) _ _ _).mono ?_; rintro e w1 ⟨rfl, R1⟩; have HE := Lib.hid R1; clear R1)
          all_goals
            have E6 := HE.out
            obtain ⟨k6, X6⟩ := E6.x
            obtain ⟨t, T6⟩ := E6.tk
            have HGN := Lib.hid (show goO (f + 1) R l c T = ([], l, c + (i : Int), 4) from by
              obtain ⟨f', hf'⟩ : ∃ f', f = f' + 1 := ⟨f - 1, by have := HLR.out; omega⟩
              rw [HGO2.out, hf', goO_err (by rw [HY.out]; decide) (by rw [step_bad HY.out]; simp [errO]), step_bad HY.out]
              rfl)
            have e0 : (4 : Int) ≠ 0 := by decide
            have e1 : True := trivial
            have y0 := Tk.c0 T6
            have y1 := Tk.c1 T6
            have y2 := Tk.c2 T6
            have y3 := Tk.c3 T6
            have y4 := Tk.c4 T6
            have HX6 := Lib.hid X6
            have L7 := Lib.hid ((LD.out.er E6 HN.out GH.out).new (.cells (tcell t).toArray 28))
            have HBS := Lib.hid (show h + 1 ≤ (w1.alloc (.cells (tcell t).toArray 28)).heap.size by have := (Array.getElem?_eq_some_iff.1 X6.hd).1; simp; omega)
            have HLN := Lib.hid (show T'.length ≤ 1000000 by have := HTK.out; omega)
            have HE0 := Lib.hid e0
            clear E6 X6 T6 e0 e1
            go_wp2_with (at_builtin; (refine wpList_appT rfl _ _ rfl (B := h + 1) HBS.out rfl L7.out.o t w1.heap.size rfl (tok_new w1 t _) HLN.out ?_; intro v' w7 o1 g1; have L8 := Lib.hid (L7.out.app o1 g1); have X8 := Lib.hid ((HX6.out.kept ((But.refl (fun _ => False) w1).alloc (.cells (tcell t).toArray 28)) id).grown L7.out g1); obtain ⟨p6, n6, c6, rfl⟩ := ownT_slice o1; clear o1 g1))
            go_roundw
            case rel => exact ⟨p6, n6, c6, T' ++ [t], _, rfl, rfl, L8.out, by rw [List.length_append]; have := HTK.out; simp; omega, .inr ⟨_, _, _, _, X8.out, HE0.out, by rw [← HGO.out, HGN.out]⟩⟩
            case measure => rw [HL.out, X8.out.leftE HE0.out]; omega
      · have HGN := Lib.hid (show goO f (R.drop i) l (c + (i : Int)) T = Z by rw [← HGO.out, HGO2.out])
        have y3 : y = 10 ∨ y = -1 := by omega
        clear yl y2 hyb hy
        rcases y3 with rfl | rfl
        all_goals
          go_wp2_with fail
          go_roundw
          case rel => exact ⟨p, n, q, T', _, rfl, rfl, LD.out, by have := HTK.out; have := HS.out.kl; have := HK'.out; omega, .inl ⟨f, k', l, c + (i : Int), T, HS.out, by rw [HMM.out]; exact HGN.out, by rw [HMM.out]; exact HLR.out.1, HSA.out, by have := HTK.out; have := HK'.out; omega, rfl⟩⟩
          case measure => rw [HL.out, HS.out.leftE]; have := HK'.out; have := HS.out.kl; have := HRN.out; omega
end Go.Proofs.YtgikcciakbnehaaDoor.Lex
