/-
  a string with any runes, and with escapes, is its text, and the column behind it counts its runes: law LexerStrings returns true.
  No condition on the arguments: whatever they are. The card ties the three listed tables of Go's library to the program's text.
-/
import Derived.Test.YtkgapellgfbdnaaDoorLexAl
import Derived.Carry
import Derived.Lay
import Derived.LaidOnce
import Derived.OpenShut
import Derived.Deep.Slices
import Derived.Test.YtkgapellgfbdnaaDoorCards
import Derived.Test.YtkgapellgfbdnaaDoorTie
import Derived.SevenTiedAt
import Derived.Test.YtkgapellgfbdnaaDoorLexSt
namespace Go.Proofs.YtkgapellgfbdnaaDoor.lexerStrings
open Go Go.Proofs.YtkgapellgfbdnaaDoor Go.Proofs.YtkgapellgfbdnaaDoor.Ser Go.Proofs.YtkgapellgfbdnaaDoor.Lex Go.ChangeShapes Go.WideShapes Go.ChangeAt Go.RowKit
set_option linter.unusedVariables false

/-- What the call does. -/
def Fine (W : World) (e : Ending) (W' : World) : Prop := e = .returned (.bool true) ∧ Below W.heap.size W W'
set_option maxHeartbeats 8000000 in
theorem walk (lp0 : Option Addr) (len0 cap0 : Nat) (f0 : Nat → Int) (m0 : len0 ≤ 9223372036854775807) (W : World) (hT : U8 W) (hI0 : Ints W lp0 len0 f0) :
    Calls Tryd.prog 6 #[.slice lp0 len0 cap0] W (Fine W) := by
  have HU := Lib.hid (fun u (hb : Below W.heap.size W u) => hT.later hb)
  clear hT
  obtain ⟨p, hp⟩ : ∃ p : Ending → World → Prop, p = Fine W := ⟨_, rfl⟩
  rw [← hp]
  have hout : ∀ u, Below W.heap.size W u → p (.returned (.bool true)) u := by intro u hb; rw [hp]; exact ⟨rfl, hb⟩
  have HO := Lib.hid hout
  clear hp hout
  have HI := Lib.hid hI0
  clear hI0
  have n0 : (0 : Int) ≤ (len0 : Int) := Int.natCast_nonneg _
  by_cases hr : len0 ≤ 100
  · have y0 : ¬ (100 : Int) < (len0 : Int) := by omega
    have y1 : (len0 : Int) ≤ 100 := by omega
    go_enter Tryd.func6, Tryd.ntmps6
    go_wp2_with (go_at_call 9; refine (alive_says _ (HU.out _ (Below.refl _ _))).mono ?_; rintro e w1 ⟨rfl, hb1⟩; have HB1 := Lib.hid hb1; clear hb1)
    go_loopw [4, 5, 6] (fun tv sv iv wr => ∃ k : Nat, k ≤ len0 ∧ tv = .string (txt (Lk f0 k)) ∧ sv = .string (txt (srcR (Lk f0 k))) ∧ iv = .int .i64 k ∧ (∀ r ∈ Lk f0 k, rune r) ∧ Below W.heap.size W wr) (fun _ _ iv _ => len0 - (intOf iv).toNat)
    case atStart => exact ⟨0, Nat.zero_le _, rfl, rfl, rfl, (by simp [Lk]), HB1.out⟩
    case round =>
      clear HB1
      obtain ⟨k, hk1, rfl, rfl, rfl, hru, hb⟩ := hrel
      have HB := Lib.hid hb
      clear hb
      have hk0 : (0 : Int) ≤ (k : Int) := Int.natCast_nonneg k
      have hLl := Lk_len f0 k
      have sz1 := txt_size_le (Lk f0 k)
      have sz2 := txt_size_le (srcR (Lk f0 k))
      have el := esc_le (Lk f0 k)
      have sl : (srcR (Lk f0 k)).length = ((Lk f0 k).flatMap esc).length + 1 := rfl
      by_cases hkn : k < len0
      · have hkI : (k : Int) < (len0 : Int) := by omega
        obtain ⟨b, off, rfl, hcell⟩ := HI.out.cell HB.out k hkn
        have hs := Lk_succ f0 k
        obtain ⟨r, hr'⟩ : ∃ r, f0 k = r := ⟨_, rfl⟩
        rw [hr'] at hcell hs
        by_cases hrune : rune r
        · have hru2 : ∀ x ∈ Lk f0 (k + 1), rune x := by
            rw [hs]; intro x hx
            rcases List.mem_append.1 hx with hx | hx
            · exact hru x hx
            · rw [List.mem_singleton.1 hx]; exact hrune
          have hrr : 0 ≤ r ∧ r ≤ 1114111 ∧ (r < 55296 ∨ 57343 < r) := hrune
          obtain ⟨r0, r1, r2⟩ := hrr
          have c1 : ¬ r < 0 := by omega
          have c2 : ¬ (1114111 : Int) < r := by omega
          have e1 : txt (Lk f0 (k + 1)) = txt (Lk f0 k) ++ Utf8.encode r := by rw [hs, txt_append, ← txt_one]
          have e2 : txt (srcR (Lk f0 (k + 1))) = txt (srcR (Lk f0 k)) ++ txt (esc r) := by rw [hs, srcR_snoc, txt_append]
          have se : (Utf8.encode r).size ≤ 4 := by
            rw [txt_one]; exact txt_size_le [r]
          obtain ⟨E, hE⟩ : ∃ E, Utf8.encode r = E := ⟨_, rfl⟩
          have hEt : txt [r] = E := by rw [← txt_one]; exact hE
          rw [hE] at e1 se
          obtain ⟨T', hT'⟩ : ∃ T', txt (Lk f0 (k + 1)) = T' := ⟨_, rfl⟩
          obtain ⟨S', hS'⟩ : ∃ S', txt (srcR (Lk f0 (k + 1))) = S' := ⟨_, rfl⟩
          rw [hT'] at e1
          rw [hS'] at e2
          obtain ⟨T, hT⟩ : ∃ T, txt (Lk f0 k) = T := ⟨_, rfl⟩
          obtain ⟨S, hS⟩ : ∃ S, txt (srcR (Lk f0 k)) = S := ⟨_, rfl⟩
          rw [hT] at e1 sz1 ⊢
          rw [hS] at e2 sz2 ⊢
          have q1 : ∀ u : World, (Op.stringOp .add T E).run Tryd.prog u = .ok (.string T') u := fun u => by
            rw [e1]; exact run_string_add_sum u _ _ (by omega)
          clear hru hs hT hS
          rcases (by omega : r = 10 ∨ r = 34 ∨ r = 92 ∨ (r ≠ 10 ∧ r ≠ 34 ∧ r ≠ 92)) with rfl | rfl | rfl | ⟨d1, d2, d3⟩
          · have e3 : S' = S ++ ⟨#[92, 110]⟩ := e2
            have q2 : ∀ u : World, (Op.stringOp .add S ⟨#[92, 110]⟩).run Tryd.prog u = .ok (.string S') u := fun u => by
              rw [e3]; exact run_string_add_sum u _ _ (by have : (⟨#[92, 110]⟩ : ByteArray).size = 2 := rfl; omega)
            clear e2 e1 e3 hEt
            go_wp2
            go_roundw
            case rel => exact ⟨k + 1, hkn, by rw [hT'], by rw [hS'], by go_num, hru2, HB.out⟩
            case measure => simp [intOf]; omega
          · have e3 : S' = S ++ (⟨#[92]⟩ ++ E) := by rw [← hEt]; exact e2
            obtain ⟨D, hD⟩ : ∃ D, (⟨#[92]⟩ ++ E : ByteArray) = D := ⟨_, rfl⟩
            have sD : D.size ≤ 5 := by rw [← hD, ByteArray.size_append]; have : (⟨#[92]⟩ : ByteArray).size = 1 := rfl; omega
            have q2 : ∀ u : World, (Op.stringOp .add ⟨#[92]⟩ E).run Tryd.prog u = .ok (.string D) u := fun u => by
              rw [← hD]; exact run_string_add_sum u _ _ (by have : (⟨#[92]⟩ : ByteArray).size = 1 := rfl; omega)
            rw [hD] at e3
            have q3 : ∀ u : World, (Op.stringOp .add S D).run Tryd.prog u = .ok (.string S') u := fun u => by
              rw [e3]; exact run_string_add_sum u _ _ (by omega)
            clear e2 e1 e3 hEt hD
            go_wp2
            go_roundw
            case rel => exact ⟨k + 1, hkn, by rw [hT'], by rw [hS'], by go_num, hru2, HB.out⟩
            case measure => simp [intOf]; omega
          · have e3 : S' = S ++ (⟨#[92]⟩ ++ E) := by rw [← hEt]; exact e2
            obtain ⟨D, hD⟩ : ∃ D, (⟨#[92]⟩ ++ E : ByteArray) = D := ⟨_, rfl⟩
            have sD : D.size ≤ 5 := by rw [← hD, ByteArray.size_append]; have : (⟨#[92]⟩ : ByteArray).size = 1 := rfl; omega
            have q2 : ∀ u : World, (Op.stringOp .add ⟨#[92]⟩ E).run Tryd.prog u = .ok (.string D) u := fun u => by
              rw [← hD]; exact run_string_add_sum u _ _ (by have : (⟨#[92]⟩ : ByteArray).size = 1 := rfl; omega)
            rw [hD] at e3
            have q3 : ∀ u : World, (Op.stringOp .add S D).run Tryd.prog u = .ok (.string S') u := fun u => by
              rw [e3]; exact run_string_add_sum u _ _ (by omega)
            clear e2 e1 e3 hEt hD
            go_wp2
            go_roundw
            case rel => exact ⟨k + 1, hkn, by rw [hT'], by rw [hS'], by go_num, hru2, HB.out⟩
            case measure => simp [intOf]; omega
          · have g1 : (r == 10) = false := by rw [beq_eq_false_iff_ne]; exact d1
            have g2 : (r == 34) = false := by rw [beq_eq_false_iff_ne]; exact d2
            have g3 : (r == 92) = false := by rw [beq_eq_false_iff_ne]; exact d3
            have e3 : S' = S ++ E := by
              have : esc r = [r] := by unfold esc; rw [if_neg d1, if_neg (by omega)]
              rw [this, hEt] at e2; exact e2
            have q2 : ∀ u : World, (Op.stringOp .add S E).run Tryd.prog u = .ok (.string S') u := fun u => by
              rw [e3]; exact run_string_add_sum u _ _ (by omega)
            clear e2 e1 e3 hEt
            rcases r2 with r2 | r2
            · have r3 : ¬ (55296 : Int) ≤ r := by omega
              go_wp2
              go_roundw
              case rel => exact ⟨k + 1, hkn, by rw [hT'], by rw [hS'], by go_num, hru2, HB.out⟩
              case measure => simp [intOf]; omega
            · have r3 : (55296 : Int) ≤ r := by omega
              have r4 : ¬ r < 57344 := by omega
              go_wp2
              go_roundw
              case rel => exact ⟨k + 1, hkn, by rw [hT'], by rw [hS'], by go_num, hru2, HB.out⟩
              case measure => simp [intOf]; omega
        · have ways : r < 0 ∨ (¬ r < 0 ∧ (1114111 : Int) < r) ∨ (¬ r < 0 ∧ ¬ (1114111 : Int) < r ∧ (55296 : Int) ≤ r ∧ r < 57344) := by
            unfold rune at hrune; omega
          rcases ways with d1 | ⟨d1, d2⟩ | ⟨d1, d2, d3, d4⟩
          · go_wp2
            exact HO.out _ HB.out
          · go_wp2
            exact HO.out _ HB.out
          · go_wp2
            exact HO.out _ HB.out
      · obtain rfl : k = len0 := by omega
        have e1 : txt (strR (Lk f0 k)) = txt (srcR (Lk f0 k)) ++ ⟨#[34, 32, 120]⟩ := by rw [strR_src, txt_append]; rfl
        have z3' : (⟨#[34, 32, 120]⟩ : ByteArray).size = 3 := rfl
        have hlx := lex_str (Lk f0 k) hru (by rw [e1, ByteArray.size_append]; omega)
        have hct := ct_src (Lk f0 k) hru
        rw [hLl] at hct
        have HK := Lib.hid (tokens_says (txt (strR (Lk f0 k))) wr (HU.out _ HB.out))
        rw [hlx] at HK
        obtain ⟨n, hn⟩ : ∃ n, ((Lk f0 k).flatMap esc).length = n := ⟨_, rfl⟩
        rw [hn] at HK hct sl el
        have HC := Lib.hid (fun u : World => count_says (txt (srcR (Lk f0 k))) u (by omega))
        obtain ⟨Z, hZ⟩ : ∃ Z, txt (strR (Lk f0 k)) = Z := ⟨_, rfl⟩
        rw [hZ] at HK e1
        obtain ⟨T, hT⟩ : ∃ T, txt (Lk f0 k) = T := ⟨_, rfl⟩
        obtain ⟨S, hS⟩ : ∃ S, txt (srcR (Lk f0 k)) = S := ⟨_, rfl⟩
        rw [hT] at HK ⊢
        rw [hS] at HC e1 sz2 hct ⊢
        obtain ⟨C, hC⟩ : ∃ C, ct S.data.toList = C := ⟨_, rfl⟩
        rw [hC] at HC hct
        have q1 : ∀ u : World, (Op.stringOp .add S ⟨#[34, 32, 120]⟩).run Tryd.prog u = .ok (.string Z) u := fun u => by
          rw [e1]; exact run_string_add_sum u _ _ (by omega)
        have hcol : (n : Int) + 4 = (k : Int) + (C : Int) + 4 := by omega
        have C0 : (0 : Int) ≤ (C : Int) := Int.natCast_nonneg C
        have C1 : (C : Int) ≤ 200 := by omega
        rw [hcol] at HK
        clear hlx hru e1 hct sz1 sz2 hS hT hZ hC hn sl el hcol
        go_upto_region 22 with (go_at_call 10; refine HK.out.mono ?_; rintro e w4 ⟨v4, rfl, ho4, hb4⟩; obtain ⟨p4, q4, rfl, hq4⟩ := ownT_len ho4; have HB4 := Lib.hid (HB.out.trans (hb4.mono HB.out.size)); obtain ⟨g4, rfl, t4⟩ := ownT_at (i := 0) ho4 rfl; obtain ⟨g4', e4, s4⟩ := ownT_at (i := 1) ho4 rfl; injection e4 with e4; injection e4 with e4; subst e4; have z1 := t4.kind; have z2 := t4.text; have z3 := s4.col; clear hb4 ho4 t4 s4)
        have z4 : w4.cell? ⟨g4, 0, none⟩ = some (i64 3) := z1
        have z5 : w4.cell? ⟨g4, 1, none⟩ = some (.string T) := z2
        have z6 : w4.cell? ⟨g4, 9, none⟩ = some (i64 ((k : Int) + (C : Int) + 4)) := z3
        have hCt := HC.out
        clear z1 z2 z3 HK HC q1
        refine wp_region_held_drew (S := (fun u => u.cell? ⟨g4, 0, none⟩ = some (i64 3) ∧ u.cell? ⟨g4, 1, none⟩ = some (.string T) ∧ u.cell? ⟨g4, 9, none⟩ = some (i64 ((k : Int) + (C : Int) + 4)))) (by kernel_rfl) ?_ (fun hH0 => ?_)
        · ((try dsimp only); exact ⟨z4, z5, z6⟩)
        refine wpAnyH_take (i := 0) (oi := { dst := some 71, op := Go.Op.move (Go.Operand.tmp 12), type := 24, pos := "law.go:104", after := #[], guard := none }) (v := ?_) rfl (by kernel_rfl) (by kernel_rfl) (by kernel_rfl) (fun _ _ _ h => h) (Or.inl ⟨by rfl, ?_⟩) (by assumption) ?_
        rotate_left
        · ((intro w hSw; (try dsimp only at hSw); go_simp) <;> (with_reducible rfl))
        try simp only [Act.put, List.setIfInBounds_toArray, List.set_cons_zero, List.set_cons_succ]
        refine wpAnyH_ready (rs := [1]) (by kernel_rfl) (by simp) ?_
        refine AllReadyH.cons (o := { dst := some 72, op := Go.Op.call { callee := Go.Callee.value (Go.Operand.func 12), args := #[Go.Operand.tmp 71], argTypes := #[24] }, type := 3, pos := "law.go:104", after := #[{ on := 0, ground := Go.Ground.data }], guard := none }) rfl (fun K hK => ?_) AllReadyH.nil
        go_simp
        (first | (go_at_call 12; refine (num_says _ _).mono ?_; rintro e t' ⟨rfl, rfl⟩) | (go_at_call 16; refine (hCt _).mono ?_; rintro e t' ⟨rfl, rfl⟩))
        refine hK.out _ _ ?_ (fun hH1 => ?_)
        · ((try dsimp only); exact ⟨z4, z5, z6⟩)
        clear hK K hH0
        try simp only [Act.put, List.setIfInBounds_toArray, List.set_cons_zero, List.set_cons_succ]
        refine wpAnyH_take (i := 2) (oi := { dst := some 73, op := Go.Op.binOp Go.BinOp.eql 3 (Go.Operand.tmp 72) (Go.Operand.const (Go.Value.int Go.IntKind.i64 0)) 3, type := 4, pos := "law.go:104", after := #[{ on := 1, ground := Go.Ground.data }], guard := none }) (v := ?_) rfl (by kernel_rfl) (by kernel_rfl) (by kernel_rfl) (fun _ _ _ h => h) (Or.inl ⟨by rfl, ?_⟩) (by assumption) ?_
        rotate_left
        · ((intro w hSw; (try dsimp only at hSw); go_simp) <;> (with_reducible rfl))
        try simp only [Act.put, List.setIfInBounds_toArray, List.set_cons_zero, List.set_cons_succ]
        refine wpAnyH_take (i := 3) (oi := { dst := some 74, op := Go.Op.move (Go.Operand.tmp 73), type := 4, pos := "law.go:104", after := #[{ on := 2, ground := Go.Ground.data }, { on := 1, ground := Go.Ground.chain }], guard := none }) (v := ?_) rfl (by kernel_rfl) (by kernel_rfl) (by kernel_rfl) (fun _ _ _ h => h) (Or.inl ⟨by rfl, ?_⟩) (by assumption) ?_
        rotate_left
        · ((intro w hSw; (try dsimp only at hSw); go_simp) <;> (with_reducible rfl))
        try simp only [Act.put, List.setIfInBounds_toArray, List.set_cons_zero, List.set_cons_succ]
        refine wpAnyH_take (i := 4) (oi := { dst := some 75, op := Go.Op.move (Go.Operand.tmp 9), type := 23, pos := "law.go:104", after := #[{ on := 3, ground := Go.Ground.guard }], guard := some (3, true) }) (v := ?_) rfl (by kernel_rfl) (by kernel_rfl) (by kernel_rfl) (fun _ _ _ h => h) (Or.inl ⟨by rfl, ?_⟩) (by assumption) ?_
        rotate_left
        · ((intro w hSw; (try dsimp only at hSw); go_simp) <;> (with_reducible rfl))
        try simp only [Act.put, List.setIfInBounds_toArray, List.set_cons_zero, List.set_cons_succ]
        refine wpAnyH_take (i := 5) (oi := { dst := some 76, op := Go.Op.call { callee := Go.Callee.builtin Go.Builtin.len, args := #[Go.Operand.tmp 75], argTypes := #[23] }, type := 3, pos := "law.go:104", after := #[{ on := 4, ground := Go.Ground.data }, { on := 3, ground := Go.Ground.guard }], guard := some (3, true) }) (v := ?_) rfl (by kernel_rfl) (by kernel_rfl) (by kernel_rfl) (fun _ _ _ h => h) (Or.inl ⟨by rfl, ?_⟩) (by assumption) ?_
        rotate_left
        · ((intro w hSw; (try dsimp only at hSw); go_simp) <;> (with_reducible rfl))
        try simp only [Act.put, List.setIfInBounds_toArray, List.set_cons_zero, List.set_cons_succ]
        refine wpAnyH_take (i := 6) (oi := { dst := some 77, op := Go.Op.binOp Go.BinOp.eql 3 (Go.Operand.tmp 76) (Go.Operand.const (Go.Value.int Go.IntKind.i64 3)) 3, type := 4, pos := "law.go:104", after := #[{ on := 5, ground := Go.Ground.data }, { on := 3, ground := Go.Ground.guard }], guard := some (3, true) }) (v := ?_) rfl (by kernel_rfl) (by kernel_rfl) (by kernel_rfl) (fun _ _ _ h => h) (Or.inl ⟨by rfl, ?_⟩) (by assumption) ?_
        rotate_left
        · ((intro w hSw; (try dsimp only at hSw); go_simp) <;> (with_reducible rfl))
        try simp only [Act.put, List.setIfInBounds_toArray, List.set_cons_zero, List.set_cons_succ]
        refine wpAnyH_take (i := 7) (oi := { dst := some 78, op := Go.Op.pick (Go.Operand.tmp 74) (Go.Operand.tmp 77) (Go.Operand.const (Go.Value.bool false)), type := 4, pos := "law.go:104", after := #[{ on := 3, ground := Go.Ground.data }, { on := 6, ground := Go.Ground.data }], guard := none }) (v := ?_) rfl (by kernel_rfl) (by kernel_rfl) (by kernel_rfl) (fun _ _ _ h => h) (Or.inl ⟨by rfl, ?_⟩) (by assumption) ?_
        rotate_left
        · ((intro w hSw; (try dsimp only at hSw); go_simp) <;> (with_reducible rfl))
        try simp only [Act.put, List.setIfInBounds_toArray, List.set_cons_zero, List.set_cons_succ]
        refine wpAnyH_take (i := 8) (oi := { dst := some 79, op := Go.Op.move (Go.Operand.tmp 78), type := 4, pos := "law.go:104", after := #[{ on := 7, ground := Go.Ground.data }, { on := 3, ground := Go.Ground.chain }], guard := none }) (v := ?_) rfl (by kernel_rfl) (by kernel_rfl) (by kernel_rfl) (fun _ _ _ h => h) (Or.inl ⟨by rfl, ?_⟩) (by assumption) ?_
        rotate_left
        · ((intro w hSw; (try dsimp only at hSw); go_simp) <;> (with_reducible rfl))
        try simp only [Act.put, List.setIfInBounds_toArray, List.set_cons_zero, List.set_cons_succ]
        refine wpAnyH_take (i := 9) (oi := { dst := some 80, op := Go.Op.move (Go.Operand.tmp 9), type := 23, pos := "law.go:104", after := #[{ on := 8, ground := Go.Ground.guard }], guard := some (8, true) }) (v := ?_) rfl (by kernel_rfl) (by kernel_rfl) (by kernel_rfl) (fun _ _ _ h => h) (Or.inl ⟨by rfl, ?_⟩) (by assumption) ?_
        rotate_left
        · ((intro w hSw; (try dsimp only at hSw); go_simp) <;> (with_reducible rfl))
        try simp only [Act.put, List.setIfInBounds_toArray, List.set_cons_zero, List.set_cons_succ]
        refine wpAnyH_take (i := 10) (oi := { dst := some 81, op := Go.Op.indexAddr 23 (Go.Operand.tmp 80) (Go.Operand.const (Go.Value.int Go.IntKind.i64 0)), type := 0, pos := "law.go:104", after := #[{ on := 9, ground := Go.Ground.data }, { on := 8, ground := Go.Ground.guard }], guard := some (8, true) }) (v := ?_) rfl (by kernel_rfl) (by kernel_rfl) (by kernel_rfl) (fun _ _ _ h => h) (Or.inl ⟨by rfl, ?_⟩) (by assumption) ?_
        rotate_left
        · ((intro w hSw; (try dsimp only at hSw); go_simp) <;> (with_reducible rfl))
        try simp only [Act.put, List.setIfInBounds_toArray, List.set_cons_zero, List.set_cons_succ]
        refine wpAnyH_take (i := 11) (oi := { dst := some 82, op := Go.Op.fieldAddr 28 (Go.Operand.tmp 81) 0, type := 0, pos := "law.go:104", after := #[{ on := 10, ground := Go.Ground.data }, { on := 8, ground := Go.Ground.guard }], guard := some (8, true) }) (v := ?_) rfl (by kernel_rfl) (by kernel_rfl) (by kernel_rfl) (fun _ _ _ h => h) (Or.inl ⟨by rfl, ?_⟩) (by assumption) ?_
        rotate_left
        · ((intro w hSw; (try dsimp only at hSw); go_simp) <;> (with_reducible rfl))
        try simp only [Act.put, List.setIfInBounds_toArray, List.set_cons_zero, List.set_cons_succ]
        refine wpAnyH_take (i := 12) (oi := { dst := some 83, op := Go.Op.load 3 (Go.Operand.tmp 82), type := 3, pos := "law.go:104", after := #[{ on := 11, ground := Go.Ground.data }, { on := 8, ground := Go.Ground.guard }], guard := some (8, true) }) (v := ?_) rfl (by kernel_rfl) (by kernel_rfl) (by kernel_rfl) (fun _ _ _ h => h) (Or.inl ⟨by rfl, ?_⟩) (by assumption) ?_
        rotate_left
        · ((intro w hSw; (try dsimp only at hSw); go_simp) <;> (with_reducible rfl))
        try simp only [Act.put, List.setIfInBounds_toArray, List.set_cons_zero, List.set_cons_succ]
        refine wpAnyH_take (i := 13) (oi := { dst := some 84, op := Go.Op.binOp Go.BinOp.eql 3 (Go.Operand.tmp 83) (Go.Operand.const (Go.Value.int Go.IntKind.i64 3)) 3, type := 4, pos := "law.go:104", after := #[{ on := 12, ground := Go.Ground.data }, { on := 8, ground := Go.Ground.guard }], guard := some (8, true) }) (v := ?_) rfl (by kernel_rfl) (by kernel_rfl) (by kernel_rfl) (fun _ _ _ h => h) (Or.inl ⟨by rfl, ?_⟩) (by assumption) ?_
        rotate_left
        · ((intro w hSw; (try dsimp only at hSw); go_simp) <;> (with_reducible rfl))
        try simp only [Act.put, List.setIfInBounds_toArray, List.set_cons_zero, List.set_cons_succ]
        refine wpAnyH_take (i := 14) (oi := { dst := some 85, op := Go.Op.pick (Go.Operand.tmp 79) (Go.Operand.tmp 84) (Go.Operand.const (Go.Value.bool false)), type := 4, pos := "law.go:104", after := #[{ on := 8, ground := Go.Ground.data }, { on := 13, ground := Go.Ground.data }], guard := none }) (v := ?_) rfl (by kernel_rfl) (by kernel_rfl) (by kernel_rfl) (fun _ _ _ h => h) (Or.inl ⟨by rfl, ?_⟩) (by assumption) ?_
        rotate_left
        · ((intro w hSw; (try dsimp only at hSw); go_simp) <;> (with_reducible rfl))
        try simp only [Act.put, List.setIfInBounds_toArray, List.set_cons_zero, List.set_cons_succ]
        refine wpAnyH_take (i := 15) (oi := { dst := some 86, op := Go.Op.move (Go.Operand.tmp 85), type := 4, pos := "law.go:104", after := #[{ on := 14, ground := Go.Ground.data }, { on := 8, ground := Go.Ground.chain }], guard := none }) (v := ?_) rfl (by kernel_rfl) (by kernel_rfl) (by kernel_rfl) (fun _ _ _ h => h) (Or.inl ⟨by rfl, ?_⟩) (by assumption) ?_
        rotate_left
        · ((intro w hSw; (try dsimp only at hSw); go_simp) <;> (with_reducible rfl))
        try simp only [Act.put, List.setIfInBounds_toArray, List.set_cons_zero, List.set_cons_succ]
        refine wpAnyH_take (i := 16) (oi := { dst := some 87, op := Go.Op.move (Go.Operand.tmp 9), type := 23, pos := "law.go:104", after := #[{ on := 15, ground := Go.Ground.guard }], guard := some (15, true) }) (v := ?_) rfl (by kernel_rfl) (by kernel_rfl) (by kernel_rfl) (fun _ _ _ h => h) (Or.inl ⟨by rfl, ?_⟩) (by assumption) ?_
        rotate_left
        · ((intro w hSw; (try dsimp only at hSw); go_simp) <;> (with_reducible rfl))
        try simp only [Act.put, List.setIfInBounds_toArray, List.set_cons_zero, List.set_cons_succ]
        refine wpAnyH_take (i := 17) (oi := { dst := some 88, op := Go.Op.indexAddr 23 (Go.Operand.tmp 87) (Go.Operand.const (Go.Value.int Go.IntKind.i64 0)), type := 0, pos := "law.go:104", after := #[{ on := 16, ground := Go.Ground.data }, { on := 15, ground := Go.Ground.guard }], guard := some (15, true) }) (v := ?_) rfl (by kernel_rfl) (by kernel_rfl) (by kernel_rfl) (fun _ _ _ h => h) (Or.inl ⟨by rfl, ?_⟩) (by assumption) ?_
        rotate_left
        · ((intro w hSw; (try dsimp only at hSw); go_simp) <;> (with_reducible rfl))
        try simp only [Act.put, List.setIfInBounds_toArray, List.set_cons_zero, List.set_cons_succ]
        refine wpAnyH_take (i := 18) (oi := { dst := some 89, op := Go.Op.fieldAddr 28 (Go.Operand.tmp 88) 1, type := 0, pos := "law.go:104", after := #[{ on := 17, ground := Go.Ground.data }, { on := 15, ground := Go.Ground.guard }], guard := some (15, true) }) (v := ?_) rfl (by kernel_rfl) (by kernel_rfl) (by kernel_rfl) (fun _ _ _ h => h) (Or.inl ⟨by rfl, ?_⟩) (by assumption) ?_
        rotate_left
        · ((intro w hSw; (try dsimp only at hSw); go_simp) <;> (with_reducible rfl))
        try simp only [Act.put, List.setIfInBounds_toArray, List.set_cons_zero, List.set_cons_succ]
        refine wpAnyH_take (i := 19) (oi := { dst := some 90, op := Go.Op.load 9 (Go.Operand.tmp 89), type := 9, pos := "law.go:104", after := #[{ on := 18, ground := Go.Ground.data }, { on := 15, ground := Go.Ground.guard }], guard := some (15, true) }) (v := ?_) rfl (by kernel_rfl) (by kernel_rfl) (by kernel_rfl) (fun _ _ _ h => h) (Or.inl ⟨by rfl, ?_⟩) (by assumption) ?_
        rotate_left
        · ((intro w hSw; (try dsimp only at hSw); go_simp) <;> (with_reducible rfl))
        try simp only [Act.put, List.setIfInBounds_toArray, List.set_cons_zero, List.set_cons_succ]
        refine wpAnyH_take (i := 20) (oi := { dst := some 91, op := Go.Op.move (Go.Operand.tmp 4), type := 9, pos := "law.go:104", after := #[{ on := 15, ground := Go.Ground.guard }], guard := some (15, true) }) (v := ?_) rfl (by kernel_rfl) (by kernel_rfl) (by kernel_rfl) (fun _ _ _ h => h) (Or.inl ⟨by rfl, ?_⟩) (by assumption) ?_
        rotate_left
        · ((intro w hSw; (try dsimp only at hSw); go_simp) <;> (with_reducible rfl))
        try simp only [Act.put, List.setIfInBounds_toArray, List.set_cons_zero, List.set_cons_succ]
        refine wpAnyH_take (i := 21) (oi := { dst := some 92, op := Go.Op.binOp Go.BinOp.eql 9 (Go.Operand.tmp 90) (Go.Operand.tmp 91) 9, type := 4, pos := "law.go:104", after := #[{ on := 19, ground := Go.Ground.data }, { on := 20, ground := Go.Ground.data }, { on := 15, ground := Go.Ground.guard }], guard := some (15, true) }) (v := ?_) rfl (by kernel_rfl) (by kernel_rfl) (by kernel_rfl) (fun _ _ _ h => h) (Or.inl ⟨by rfl, ?_⟩) (by assumption) ?_
        rotate_left
        · ((intro w hSw; (try dsimp only at hSw); go_simp) <;> (with_reducible rfl))
        try simp only [Act.put, List.setIfInBounds_toArray, List.set_cons_zero, List.set_cons_succ]
        refine wpAnyH_take (i := 22) (oi := { dst := some 93, op := Go.Op.pick (Go.Operand.tmp 86) (Go.Operand.tmp 92) (Go.Operand.const (Go.Value.bool false)), type := 4, pos := "law.go:104", after := #[{ on := 15, ground := Go.Ground.data }, { on := 21, ground := Go.Ground.data }], guard := none }) (v := ?_) rfl (by kernel_rfl) (by kernel_rfl) (by kernel_rfl) (fun _ _ _ h => h) (Or.inl ⟨by rfl, ?_⟩) (by assumption) ?_
        rotate_left
        · ((intro w hSw; (try dsimp only at hSw); go_simp) <;> (with_reducible rfl))
        try simp only [Act.put, List.setIfInBounds_toArray, List.set_cons_zero, List.set_cons_succ]
        refine wpAnyH_take (i := 23) (oi := { dst := some 94, op := Go.Op.move (Go.Operand.tmp 93), type := 4, pos := "law.go:104", after := #[{ on := 22, ground := Go.Ground.data }, { on := 15, ground := Go.Ground.chain }], guard := none }) (v := ?_) rfl (by kernel_rfl) (by kernel_rfl) (by kernel_rfl) (fun _ _ _ h => h) (Or.inl ⟨by rfl, ?_⟩) (by assumption) ?_
        rotate_left
        · ((intro w hSw; (try dsimp only at hSw); go_simp) <;> (with_reducible rfl))
        try simp only [Act.put, List.setIfInBounds_toArray, List.set_cons_zero, List.set_cons_succ]
        refine wpAnyH_take (i := 24) (oi := { dst := some 95, op := Go.Op.move (Go.Operand.tmp 9), type := 23, pos := "law.go:104", after := #[{ on := 23, ground := Go.Ground.guard }], guard := some (23, true) }) (v := ?_) rfl (by kernel_rfl) (by kernel_rfl) (by kernel_rfl) (fun _ _ _ h => h) (Or.inl ⟨by rfl, ?_⟩) (by assumption) ?_
        rotate_left
        · ((intro w hSw; (try dsimp only at hSw); go_simp) <;> (with_reducible rfl))
        try simp only [Act.put, List.setIfInBounds_toArray, List.set_cons_zero, List.set_cons_succ]
        refine wpAnyH_take (i := 25) (oi := { dst := some 96, op := Go.Op.indexAddr 23 (Go.Operand.tmp 95) (Go.Operand.const (Go.Value.int Go.IntKind.i64 1)), type := 0, pos := "law.go:104", after := #[{ on := 24, ground := Go.Ground.data }, { on := 23, ground := Go.Ground.guard }], guard := some (23, true) }) (v := ?_) rfl (by kernel_rfl) (by kernel_rfl) (by kernel_rfl) (fun _ _ _ h => h) (Or.inl ⟨by rfl, ?_⟩) (by assumption) ?_
        rotate_left
        · ((intro w hSw; (try dsimp only at hSw); go_simp) <;> (with_reducible rfl))
        try simp only [Act.put, List.setIfInBounds_toArray, List.set_cons_zero, List.set_cons_succ]
        refine wpAnyH_take (i := 26) (oi := { dst := some 97, op := Go.Op.fieldAddr 28 (Go.Operand.tmp 96) 4, type := 0, pos := "law.go:104", after := #[{ on := 25, ground := Go.Ground.data }, { on := 23, ground := Go.Ground.guard }], guard := some (23, true) }) (v := ?_) rfl (by kernel_rfl) (by kernel_rfl) (by kernel_rfl) (fun _ _ _ h => h) (Or.inl ⟨by rfl, ?_⟩) (by assumption) ?_
        rotate_left
        · ((intro w hSw; (try dsimp only at hSw); go_simp) <;> (with_reducible rfl))
        try simp only [Act.put, List.setIfInBounds_toArray, List.set_cons_zero, List.set_cons_succ]
        refine wpAnyH_take (i := 27) (oi := { dst := some 98, op := Go.Op.load 3 (Go.Operand.tmp 97), type := 3, pos := "law.go:104", after := #[{ on := 26, ground := Go.Ground.data }, { on := 23, ground := Go.Ground.guard }], guard := some (23, true) }) (v := ?_) rfl (by kernel_rfl) (by kernel_rfl) (by kernel_rfl) (fun _ _ _ h => h) (Or.inl ⟨by rfl, ?_⟩) (by assumption) ?_
        rotate_left
        · ((intro w hSw; (try dsimp only at hSw); go_simp) <;> (with_reducible rfl))
        try simp only [Act.put, List.setIfInBounds_toArray, List.set_cons_zero, List.set_cons_succ]
        refine wpAnyH_take (i := 28) (oi := { dst := some 99, op := Go.Op.move (Go.Operand.tmp 0), type := 40, pos := "law.go:104", after := #[{ on := 23, ground := Go.Ground.guard }], guard := some (23, true) }) (v := ?_) rfl (by kernel_rfl) (by kernel_rfl) (by kernel_rfl) (fun _ _ _ h => h) (Or.inl ⟨by rfl, ?_⟩) (by assumption) ?_
        rotate_left
        · ((intro w hSw; (try dsimp only at hSw); go_simp) <;> (with_reducible rfl))
        try simp only [Act.put, List.setIfInBounds_toArray, List.set_cons_zero, List.set_cons_succ]
        refine wpAnyH_take (i := 29) (oi := { dst := some 100, op := Go.Op.call { callee := Go.Callee.builtin Go.Builtin.len, args := #[Go.Operand.tmp 99], argTypes := #[40] }, type := 3, pos := "law.go:104", after := #[{ on := 28, ground := Go.Ground.data }, { on := 23, ground := Go.Ground.guard }], guard := some (23, true) }) (v := ?_) rfl (by kernel_rfl) (by kernel_rfl) (by kernel_rfl) (fun _ _ _ h => h) (Or.inl ⟨by rfl, ?_⟩) (by assumption) ?_
        rotate_left
        · ((intro w hSw; (try dsimp only at hSw); go_simp) <;> (with_reducible rfl))
        try simp only [Act.put, List.setIfInBounds_toArray, List.set_cons_zero, List.set_cons_succ]
        refine wpAnyH_take (i := 30) (oi := { dst := some 101, op := Go.Op.move (Go.Operand.tmp 5), type := 9, pos := "law.go:104", after := #[{ on := 23, ground := Go.Ground.guard }], guard := some (23, true) }) (v := ?_) rfl (by kernel_rfl) (by kernel_rfl) (by kernel_rfl) (fun _ _ _ h => h) (Or.inl ⟨by rfl, ?_⟩) (by assumption) ?_
        rotate_left
        · ((intro w hSw; (try dsimp only at hSw); go_simp) <;> (with_reducible rfl))
        try simp only [Act.put, List.setIfInBounds_toArray, List.set_cons_zero, List.set_cons_succ]
        refine wpAnyH_ready (rs := [31]) (by kernel_rfl) (by simp) ?_
        refine AllReadyH.cons (o := { dst := some 102, op := Go.Op.call { callee := Go.Callee.value (Go.Operand.func 16), args := #[Go.Operand.tmp 101], argTypes := #[9] }, type := 3, pos := "law.go:104", after := #[{ on := 30, ground := Go.Ground.data }, { on := 23, ground := Go.Ground.chain }, { on := 23, ground := Go.Ground.guard }], guard := some (23, true) }) rfl (fun K hK => ?_) AllReadyH.nil
        go_simp
        (first | (go_at_call 12; refine (num_says _ _).mono ?_; rintro e t' ⟨rfl, rfl⟩) | (go_at_call 16; refine (hCt _).mono ?_; rintro e t' ⟨rfl, rfl⟩))
        refine hK.out _ _ ?_ (fun hH2 => ?_)
        · ((try dsimp only); exact ⟨z4, z5, z6⟩)
        clear hK K hH1
        try simp only [Act.put, List.setIfInBounds_toArray, List.set_cons_zero, List.set_cons_succ]
        refine wpAnyH_take (i := 32) (oi := { dst := some 103, op := Go.Op.binOp Go.BinOp.add 3 (Go.Operand.tmp 100) (Go.Operand.tmp 102) 3, type := 3, pos := "law.go:104", after := #[{ on := 29, ground := Go.Ground.data }, { on := 31, ground := Go.Ground.data }, { on := 23, ground := Go.Ground.guard }], guard := some (23, true) }) (v := ?_) rfl (by kernel_rfl) (by kernel_rfl) (by kernel_rfl) (fun _ _ _ h => h) (Or.inl ⟨by rfl, ?_⟩) (by assumption) ?_
        rotate_left
        · ((intro w hSw; (try dsimp only at hSw); go_simp) <;> (with_reducible rfl))
        try simp only [Act.put, List.setIfInBounds_toArray, List.set_cons_zero, List.set_cons_succ]
        refine wpAnyH_take (i := 33) (oi := { dst := some 104, op := Go.Op.binOp Go.BinOp.add 3 (Go.Operand.tmp 103) (Go.Operand.const (Go.Value.int Go.IntKind.i64 4)) 3, type := 3, pos := "law.go:104", after := #[{ on := 32, ground := Go.Ground.data }, { on := 23, ground := Go.Ground.guard }], guard := some (23, true) }) (v := ?_) rfl (by kernel_rfl) (by kernel_rfl) (by kernel_rfl) (fun _ _ _ h => h) (Or.inl ⟨by rfl, ?_⟩) (by assumption) ?_
        rotate_left
        · ((intro w hSw; (try dsimp only at hSw); go_simp) <;> (with_reducible rfl))
        try simp only [Act.put, List.setIfInBounds_toArray, List.set_cons_zero, List.set_cons_succ]
        refine wpAnyH_take (i := 34) (oi := { dst := some 105, op := Go.Op.binOp Go.BinOp.eql 3 (Go.Operand.tmp 98) (Go.Operand.tmp 104) 3, type := 4, pos := "law.go:104", after := #[{ on := 27, ground := Go.Ground.data }, { on := 33, ground := Go.Ground.data }, { on := 23, ground := Go.Ground.guard }], guard := some (23, true) }) (v := ?_) rfl (by kernel_rfl) (by kernel_rfl) (by kernel_rfl) (fun _ _ _ h => h) (Or.inl ⟨by rfl, ?_⟩) (by assumption) ?_
        rotate_left
        · ((intro w hSw; (try dsimp only at hSw); go_simp) <;> (with_reducible rfl))
        try simp only [Act.put, List.setIfInBounds_toArray, List.set_cons_zero, List.set_cons_succ]
        refine wpAnyH_take (i := 35) (oi := { dst := some 106, op := Go.Op.pick (Go.Operand.tmp 94) (Go.Operand.tmp 105) (Go.Operand.const (Go.Value.bool false)), type := 4, pos := "law.go:104", after := #[{ on := 23, ground := Go.Ground.data }, { on := 34, ground := Go.Ground.data }], guard := none }) (v := ?_) rfl (by kernel_rfl) (by kernel_rfl) (by kernel_rfl) (fun _ _ _ h => h) (Or.inl ⟨by rfl, ?_⟩) (by assumption) ?_
        rotate_left
        · ((intro w hSw; (try dsimp only at hSw); go_simp) <;> (with_reducible rfl))
        try simp only [Act.put, List.setIfInBounds_toArray, List.set_cons_zero, List.set_cons_succ]
        refine wpAnyH_take (i := 36) (oi := { dst := some 2, op := Go.Op.assign (Go.Operand.tmp 106), type := 4, pos := "law.go:104", after := #[{ on := 35, ground := Go.Ground.data }, { on := 31, ground := Go.Ground.chain }, { on := 0, ground := Go.Ground.phase }, { on := 1, ground := Go.Ground.phase }, { on := 2, ground := Go.Ground.phase }, { on := 3, ground := Go.Ground.phase }, { on := 4, ground := Go.Ground.phase }, { on := 5, ground := Go.Ground.phase }, { on := 6, ground := Go.Ground.phase }, { on := 7, ground := Go.Ground.phase }, { on := 8, ground := Go.Ground.phase }, { on := 9, ground := Go.Ground.phase }, { on := 10, ground := Go.Ground.phase }, { on := 11, ground := Go.Ground.phase }, { on := 12, ground := Go.Ground.phase }, { on := 13, ground := Go.Ground.phase }, { on := 14, ground := Go.Ground.phase }, { on := 15, ground := Go.Ground.phase }, { on := 16, ground := Go.Ground.phase }, { on := 17, ground := Go.Ground.phase }, { on := 18, ground := Go.Ground.phase }, { on := 19, ground := Go.Ground.phase }, { on := 20, ground := Go.Ground.phase }, { on := 21, ground := Go.Ground.phase }, { on := 22, ground := Go.Ground.phase }, { on := 23, ground := Go.Ground.phase }, { on := 24, ground := Go.Ground.phase }, { on := 25, ground := Go.Ground.phase }, { on := 26, ground := Go.Ground.phase }, { on := 27, ground := Go.Ground.phase }, { on := 28, ground := Go.Ground.phase }, { on := 29, ground := Go.Ground.phase }, { on := 30, ground := Go.Ground.phase }, { on := 31, ground := Go.Ground.phase }, { on := 32, ground := Go.Ground.phase }, { on := 33, ground := Go.Ground.phase }, { on := 34, ground := Go.Ground.phase }, { on := 35, ground := Go.Ground.phase }], guard := none }) (v := ?_) rfl (by kernel_rfl) (by kernel_rfl) (by kernel_rfl) (fun _ _ _ h => h) (Or.inl ⟨by rfl, ?_⟩) (by assumption) ?_
        rotate_left
        · ((intro w hSw; (try dsimp only at hSw); go_simp) <;> (with_reducible rfl))
        try simp only [Act.put, List.setIfInBounds_toArray, List.set_cons_zero, List.set_cons_succ]
        refine wpAnyH_done (by kernel_rfl) ?_ _
        have hv : ((k : Int) + (C : Int) + 4 == IntKind.i64.wrap (IntKind.i64.wrap ((k : Int) + (C : Int)) + 4)) = true := by
          have w1 : IntKind.i64.wrap ((k : Int) + (C : Int)) = (k : Int) + (C : Int) := by rw [IntKind.wrap_i64]; omega
          rw [w1]
          have w2 : IntKind.i64.wrap ((k : Int) + (C : Int) + 4) = (k : Int) + (C : Int) + 4 := by rw [IntKind.wrap_i64]; omega
          rw [w2]
          exact beq_self_eq_true _
        rw [hv]
        go_wp2_with fail
        have hbe := HB4.out
        exact HO.out _ ⟨hbe.os, hbe.tape, hbe.output, hbe.size, hbe.block⟩
  · have y0 : (100 : Int) < (len0 : Int) := by omega
    clear hr
    go_enter Tryd.func6, Tryd.ntmps6
    go_wp2_with (go_at_call 9; refine (alive_says _ (HU.out _ (Below.refl _ _))).mono ?_; rintro e w1 ⟨rfl, hb1⟩; have HB1 := Lib.hid hb1; clear hb1)
    exact HO.out _ HB1.out
set_option maxRecDepth 100000 in
theorem lifted (os : Os) (started : os.Started) (H : Type) (enc : TypeId × Value → H) :
    ReturnsInHanded {} Tryd.checked os 6 .any (fun w args => (Rows.lexerStringsSpec.pre enc Tryd.prog Tryd.f6 [] false w args ∧ laidMetH Tryd.prog laid2 w) ∧ sizedMet enc Tryd.prog Tryd.f6 (OpenSpec.ofChange Rows.lexerStringsSpec) false w args)
      (Rows.lexerStringsSpec.post enc Tryd.prog Tryd.f6 false true false false) := by
  refine returnsInHanded_of_change_and (C := Tryd.checked) (X := fun w _ => laidMetH Tryd.prog laid2 w) (fun _ _ _ hh h => h.of_heap hh) Lex.own started (by kernel_rfl) Tryd.func6
    (ChangeSpec.witness_shaped (enc := enc) (C := Tryd.checked) (os := os) (X := fun w _ => laidMetH Tryd.prog laid2 w) false (World.laidAll Tryd.prog os laid2) #[.slice none 0 0] 8 (World.laidAll_os _ _ _) (World.shaped_of_ZipB (by kernel_rfl) (by kernel_rfl)) (by kernel_rfl) (by kernel_rfl) (by kernel_rfl)
      (by rw [MakeChecks.laidMetH_plain _ _ _ (by kernel_rfl)]; exact laidMet_laidAll _ (by kernel_rfl) (by kernel_rfl))) ?_
  intro W base args ds gs before hval0 hW _ _ hL _
  have hval : ∀ (j : Nat) t v, Tryd.f6.params[j]? = some t → args[j]? = some v → Value.okWide Tryd.prog W .any base t v := hval0
  have hW' := hW
  obtain ⟨p, q, hA0, hV, rfl, hfz, hnd⟩ := hW
  have hA : DataW.TrodAll enc Tryd.prog W 0 (fun _ => true) true Tryd.f6.params.toList args.toList ds p := hA0
  rw [Tryd.params6] at hA hval
  obtain ⟨v0, vs0, d0, ds0, p0, q0, hargs, rfl, rfl, h0, r0⟩ := trodAll_cons hA
  obtain ⟨rfl, rfl, rfl⟩ := trodAll_nil r0
  obtain rfl : args = #[v0] := by cases args; simp_all
  obtain ⟨rfl, rfl⟩ := trodVars_none hV
  obtain ⟨lp0, len0, cap0, f0, rfl, m0, hI0⟩ := open_ints (hval 0 40 v0 rfl rfl) h0
  have hT := tab_of_laid hL
  clear hA0 hval0
  simp only [List.append_nil] at hW'
  refine (walk lp0 len0 cap0 f0 m0 W hT hI0).mono fun e W' ⟨he, hb⟩ => ?_
  subst he
  exact ⟨_, rfl, _, _, _, [], _, [], hW', trodAll_cons_mk (shut_bool Tryd.underlying4 _) trodAll_mk0, (trodAll_cons_mk (Below.trod laidOut (by kernel_rfl) (of_decide_eq_true (by kernel_rfl)) h0 hb (fun x hx => by simpa using hW'.lt x hx)) trodAll_mk0), rfl, hb.frame _, fun h => by cases h⟩
theorem over : Rows.LexerStringsSaid :=
  OpenClaim.holds_of_wide 6 Tryd.f6 rfl rfl rfl rfl rfl rfl rfl ⟨rfl, rfl, rfl, rfl, rfl⟩ rfl rfl rfl rfl rfl (by kernel_rfl) Tryd.func6 (by kernel_rfl)
    (of_decide_eq_true (by kernel_rfl)) (by unfold Func.isWrapper; first | (rw [if_pos (by decide +kernel)]; kernel_rfl) | (rw [if_neg (by decide +kernel)]; exact ⟨rfl, rfl⟩))
    (fun os started H enc _ => lifted os started H enc)
/-- THE STATEMENT: the tied card. -/
theorem proved : Rows.LexerStringsCardSaid :=
  Claim7.holds_tied_plain_at .later [] [.data, .pinned] true (true, "09660570d19ad61ea6fcc418b4fa2f246f51f27fdcf28e094159d75741c40f88") false
    over (fun _ h => by cases h) (by kernel_rfl) (fun _ h => by cases h) lexerStrings_row_tie rfl ⟨rfl, rfl⟩ (by kernel_rfl) rfl
    (fun f fn hf hfn => by
      obtain rfl : f = 6 := Option.some.inj ((show Tryd.prog.funcNamed "trunnion/trunnionlaw11.LexerStrings" = some 6 by kernel_rfl).symm.trans hf) |>.symm
      obtain rfl : fn = Tryd.f6 := (Option.some.inj (Tryd.func6.symm.trans hfn)).symm
      exact ⟨by kernel_rfl, fun j t ht => by
        rw [Tryd.params6] at ht
        have hm : t ∈ [40] := by simpa using Array.mem_of_getElem? ht
        have hall : ([40].all fun u => !Tryd.prog.wantsStandIn u) = true := by kernel_rfl
        exact (show Tryd.prog.wantsStandIn t = false by simpa using List.all_eq_true.1 hall t hm)⟩)
    (by kernel_rfl)
end Go.Proofs.YtkgapellgfbdnaaDoor.lexerStrings
