
/-
  trunnionref1's Of: the machine of a state, as far as the laws read it: its Pc, its control registers.
-/
import Derived.Test.YtnccfdkkedomcaaCpuEnter
namespace Go.Proofs.Ytnccfdkkedomcaa.Ser
open Go.Proofs.Ytnccfdkkedomcaa
open Go.ChangeShapes Go.WideShapes Go.ChangeAt Go.RowKit
/-- A machine's block: 39 cells; Pc at 16, the control registers from 17 on. -/
def Mac (w : World) (g : Nat) (pc : Int) (f : Nat → Int) : Prop := ∃ cs : Array Value, w.heap[g]? = some (.cells cs 63) ∧ cs.size = 39 ∧ cs[16]? = some (i64 pc) ∧ ∀ j, j < 11 → cs[17 + j]? = some (i64 (f j))
section
variable {w w' : World} {g : Nat} {pc : Int} {f : Nat → Int}
theorem Mac.lt (h : Mac w g pc f) : g < w.heap.size := by obtain ⟨cs, h1, -⟩ := h; exact (Array.getElem?_eq_some_iff.1 h1).1
theorem Mac.kept (h : Mac w g pc f) {B : Nat} (hb : Below B w w') (hB : g < B) : Mac w' g pc f := by
  obtain ⟨cs, h1, h2⟩ := h; exact ⟨cs, (hb.block g hB).trans h1, h2⟩
theorem Mac.heap (h : Mac w g pc f) (e : w'.heap[g]? = w.heap[g]?) : Mac w' g pc f := by
  obtain ⟨cs, h1, h2⟩ := h; exact ⟨cs, e.trans h1, h2⟩
theorem Mac.pcv (h : Mac w g pc f) : w.cell? ⟨g, 16, none⟩ = some (i64 pc) := by
  obtain ⟨cs, h1, -, h3, -⟩ := h; rw [cell_of_row _ _ 16 _ _ _ h1]; exact h3
theorem Mac.reg (h : Mac w g pc f) {j : Nat} (hj : j < 11) : w.cell? ⟨g, 17 + j, none⟩ = some (i64 (f j)) := by
  obtain ⟨cs, h1, -, -, h4⟩ := h; rw [cell_of_row _ _ (17 + j) _ _ _ h1]; exact h4 j hj
theorem Mac.any (h : Mac w g pc f) {j : Nat} (hj : j < 39) : ∃ u, w.cell? ⟨g, j, none⟩ = some u := by
  obtain ⟨cs, h1, h2, -⟩ := h
  exact ⟨cs[j]'(by omega), by rw [cell_of_row _ _ j _ _ _ h1]; exact Array.getElem?_eq_getElem (by omega)⟩
theorem Mac.free (h : Mac w g pc f) (j : Nat) : w.frozen? ⟨g, j, none⟩ = false := by
  obtain ⟨cs, h1, -⟩ := h; simp [World.frozen?, h1]
theorem Mac.congr {f' : Nat → Int} (h : Mac w g pc f) (e : ∀ j, j < 11 → f j = f' j) : Mac w g pc f' := by
  obtain ⟨cs, h1, h2, h3, h4⟩ := h; exact ⟨cs, h1, h2, h3, fun j hj => by rw [← e j hj]; exact h4 j hj⟩
theorem Mac.off (h : Mac w g pc f) {j : Nat} (hj : j < 16 ∨ 27 < j) (v : Value) : Mac (w.setCell ⟨g, j, none⟩ v) g pc f := by
  obtain ⟨cs, h1, h2, h3, h4⟩ := h
  refine ⟨_, setCell_row h1 j v, by simpa using h2, ?_, fun i hi => ?_⟩
  · rw [Array.getElem?_setIfInBounds_ne (by omega)]; exact h3
  · rw [Array.getElem?_setIfInBounds_ne (by omega)]; exact h4 i hi
theorem Mac.setPc (h : Mac w g pc f) (v : Int) : Mac (w.setCell ⟨g, 16, none⟩ (i64 v)) g v f := by
  obtain ⟨cs, h1, h2, h3, h4⟩ := h
  refine ⟨_, setCell_row h1 16 _, by simpa using h2, ?_, fun i hi => ?_⟩
  · rw [Array.getElem?_setIfInBounds_self_of_lt (by omega)]
  · rw [Array.getElem?_setIfInBounds_ne (by omega)]; exact h4 i hi
theorem Mac.setReg (h : Mac w g pc f) {j : Nat} (hj : j < 11) (v : Int) : Mac (w.setCell ⟨g, 17 + j, none⟩ (i64 v)) g pc (fun i => if i = j then v else f i) := by
  obtain ⟨cs, h1, h2, h3, h4⟩ := h
  refine ⟨_, setCell_row h1 (17 + j) _, by simpa using h2, ?_, fun i hi => ?_⟩
  · rw [Array.getElem?_setIfInBounds_ne (by omega)]; exact h3
  · by_cases e : i = j
    · subst e; rw [Array.getElem?_setIfInBounds_self_of_lt (by omega)]; simp
    · rw [Array.getElem?_setIfInBounds_ne (by omega)]; show cs[17 + i]? = some (i64 (if i = j then v else f i)); rw [if_neg e]; exact h4 i hi
end
set_option maxRecDepth 100000 in
theorem newmem_says (w : World) : Calls Try.prog 77 #[i64 0] w fun e w' => ∃ a, e = .returned (.pointer (some a)) ∧ Below w.heap.size w w' := by
  obtain ⟨bb, hbb, hinfo⟩ := kdB.info
  obtain ⟨i, hi, hz0, hz1, hz2⟩ := info_parts hinfo
  obtain ⟨wm, hmk, -, h3⟩ := run_make_full (P := Try.prog) w w.heap.size 29 5 i _ 1 Try.underlying29 hi hz0 hz1 .i64 .i64 0 (by omega) (by unfold maxLen; omega) (Nat.le_refl _)
  have hb := Lib.hid (show Below w.heap.size w wm from ⟨h3.os, h3.tape, h3.output, h3.size, fun g hg => h3.block g hg (by simp)⟩)
  clear h3 hi hz0 hz1 hz2 hinfo
  have hmk : (Instr.makeSlice 29 (i64 0) (i64 0)).run Try.prog w = .ok (.slice (some ⟨w.heap.size, 0, none⟩) 0 0) wm := hmk
  go_enter Try.func77, Try.ntmps77
  go_wp2
  go_ret
  exact ⟨_, rfl, hb.out.alloc hb.out.size _⟩
/-- What is in the machine's control registers, when the first n have come. -/
def regsN (C : List Int) (n : Nat) : Nat → Int := fun j => if j < n then wd (C.getD j 0) else 0
theorem regsN_end (C : List Int) (n : Nat) (h : n = min C.length 11) (j : Nat) (hj : j < 11) : regsN C n j = wd ((pad C).getD j 0) := by
  have hp : (pad C).getD j 0 = C.getD j 0 := by
    unfold pad
    simp only [List.getD_eq_getElem?_getD, List.getElem?_append]
    by_cases hc : j < C.length
    · rw [if_pos hc]
    · rw [if_neg hc, List.getElem?_eq_none (by omega : C.length ≤ j), List.getElem?_replicate]
      split <;> rfl
  rw [hp]
  unfold regsN
  by_cases hc : j < n
  · rw [if_pos hc]
  · rw [if_neg hc, List.getD_eq_getElem?_getD, List.getElem?_eq_none (by omega)]; decide
theorem regsN_zero (C : List Int) : regsN C 0 = fun _ => 0 := by funext j; simp [regsN]
theorem regsN_succ (C : List Int) (c : Nat) : (fun i => if i = c then wd (C.getD c 0) else regsN C c i) = regsN C (c + 1) := by
  funext i
  unfold regsN
  by_cases h : i = c
  · subst h; simp
  · rw [if_neg h]
    by_cases h2 : i < c
    · rw [if_pos h2, if_pos (by omega)]
    · rw [if_neg h2, if_neg (by omega)]
set_option maxRecDepth 100000 in
set_option maxHeartbeats 4000000 in
theorem of_state {w : World} {v : Value} {s : St} (A : StL w w.heap.size v s) (hO : s.O.length ≤ 10000) :
    Calls Try.prog 57 #[v] w fun e w' => ∃ g, e = .returned (.pointer (some ⟨g, 0, none⟩)) ∧ w.heap.size ≤ g ∧ Mac w' g (wd s.pc) (fun j => wd ((pad s.C).getD j 0)) ∧ Below w.heap.size w w' := by
  obtain ⟨rp, rn, rc, cp, cn, cc, op, on, oc, rfl, h1, h2, h3⟩ := A
  rw [h3.len] at hO
  have HX := Lib.hid (Box6.new w (.slice rp rn rc) s.pc (.slice cp cn cc) s.h s.k (.slice op on oc))
  have HB0 := Lib.hid ((Below.refl w.heap.size w).alloc (Nat.le_refl _) (.cells #[.slice rp rn rc, i64 s.pc, .slice cp cn cc, .bool s.h, .bool s.k, .slice op on oc] 31))
  have H1 := Lib.hid h1; have H2 := Lib.hid h2; have H3 := Lib.hid h3; have HO := Lib.hid hO
  have hcl := Lib.hid h2.len
  clear h1 h2 h3 hO
  go_enter Try.func57, Try.ntmps57
  go_wp2_with (go_at_call 77; refine (newmem_says _).mono ?_; rintro e w1 ⟨am, rfl, k1⟩; have hb1 := Lib.hid (HB0.out.trans (k1.mono HB0.out.size)); have x1 := Lib.hid (HX.out.kept k1 HX.out.lt); have lw1 := Lib.hid (Nat.lt_of_lt_of_le HX.out.lt k1.size); clear k1)
  obtain ⟨G, hG⟩ : ∃ G, w1.heap.size = G := ⟨_, rfl⟩
  rw [hG]
  have m0 : Mac (w1.alloc (.cells #[i64 0, i64 0, i64 0, i64 0, i64 0, i64 0, i64 0, i64 0, i64 0, i64 0, i64 0, i64 0, i64 0, i64 0, i64 0, i64 0, i64 0, i64 0, i64 0, i64 0, i64 0, i64 0, i64 0, i64 0, i64 0, i64 0, i64 0, i64 0, .pointer (some am), .slice none 0 0, .slice none 0 0, .pointer none, i64 0, .pointer none, .bool false, .bool false, i64 0, .slice none 0 0, i64 0] 63)) G 0 (fun _ => 0) := by
    subst hG
    refine ⟨_, heap_alloc_new _ _, rfl, rfl, fun j hj => ?_⟩
    have : j = 0 ∨ j = 1 ∨ j = 2 ∨ j = 3 ∨ j = 4 ∨ j = 5 ∨ j = 6 ∨ j = 7 ∨ j = 8 ∨ j = 9 ∨ j = 10 := by omega
    rcases this with rfl | rfl | rfl | rfl | rfl | rfl | rfl | rfl | rfl | rfl | rfl <;> rfl
  have hlG : w.heap.size < G := by have := lw1.out; omega
  go_loopw [4] (fun i wr => ∃ c : Nat, 1 ≤ c ∧ c ≤ 16 ∧ i = .int .i64 c ∧ Mac wr G 0 (fun _ => 0) ∧ Box6 wr w.heap.size (.slice rp rn rc) s.pc (.slice cp cn cc) s.h s.k (.slice op on oc) ∧ Below w.heap.size w wr) (fun i _ => 16 - (intOf i).toNat)
  case atStart => exact ⟨1, by omega, by omega, rfl, m0, x1.out.kept ((Below.refl w1.heap.size w1).alloc (Nat.le_refl _) _) x1.out.lt, hb1.out.alloc hb1.out.size _⟩
  case round =>
    obtain ⟨c, hc1, hc2, rfl, M, X, hB⟩ := hrel
    clear m0
    have d0 := X.c0
    have d2 := X.c2
    have HM := Lib.hid M; have HXX := Lib.hid X; have HB := Lib.hid hB
    clear M X hB
    by_cases hcr : c < 16 ∧ c < rn
    · obtain ⟨r1, r2⟩ := hcr
      have j1 : (c : Int) < 16 := by omega
      have j2 : (c : Int) < (rn : Int) := by omega
      obtain ⟨b, off, rfl, hbl, e1⟩ := (H1.out.kept HB.out (Nat.le_refl _)).cell r2
      have k0 : ∀ v, (wr.setCell ⟨G, c, none⟩ v).drew.cell? ⟨w.heap.size, 0, none⟩ = some (.slice (some ⟨b, off, none⟩) rn rc) := fun v => (HXX.out.off (by omega) c v).c0
      have k1 : ∀ v, (wr.setCell ⟨G, c, none⟩ v).drew.cell? ⟨b, off + c, none⟩ = some (i64 (s.R.getD c 0)) := fun v => (World.cell?_of_block (Below.heap_setCell wr ⟨G, c, none⟩ v b (by show b ≠ G; omega))).trans e1
      have K0 := Lib.hid k0
      have K1 := Lib.hid k1
      clear k0 k1
      obtain ⟨u, m1⟩ := HM.out.any (j := c) (by omega)
      have m2 := HM.out.free c
      have hw := w_says (s.R.getD c 0)
      generalize s.R.getD c 0 = x at *
      go_upto_region 5 with fail
      go_region_held3 (fun u => u.cell? ⟨w.heap.size, 0, none⟩ = some (.slice (some ⟨b, off, none⟩) rn rc) ∧ u.cell? ⟨b, off + c, none⟩ = some (i64 x)) (first | exact ⟨d0, e1⟩ | exact ⟨K0.out _, K1.out _⟩ | assumption) (first | (go_at_call 23; refine (hw _).mono ?_; rintro e w' ⟨rfl, rfl⟩))
      all_goals
        go_wp2_with fail
        go_roundw
        case rel => exact ⟨c + 1, by omega, by omega, by go_num, (show Mac _ _ _ _ from HM.out).heap rfl |>.off (.inl r1) _, HXX.out.off (by omega) _ _, HB.out.drew.setCell (by show w.heap.size ≤ G; omega) _⟩
        case measure => simp [intOf]; omega
    · have hdd : ∀ P : Prop, (((c : Int) < 16 ∧ ¬ (c : Int) < (rn : Int)) → P) → ((¬ (c : Int) < 16) → P) → P := by
        intro P p1 p2
        by_cases h : c < 16
        · exact p1 ⟨by omega, by omega⟩
        · exact p2 (by omega)
      refine hdd _ (fun hj => ?_) (fun hj => ?_)
      all_goals
        try obtain ⟨j1, j2⟩ := hj
        clear hdd hcr d2
        go_wp2_with fail
        go_loopw [5] (fun i wr => ∃ d : Nat, d ≤ 11 ∧ d ≤ cn ∧ i = .int .i64 d ∧ Mac wr G 0 (regsN s.C d) ∧ Box6 wr w.heap.size (.slice rp rn rc) s.pc (.slice cp cn cc) s.h s.k (.slice op on oc) ∧ Below w.heap.size w wr) (fun i _ => 11 - (intOf i).toNat)
        case atStart => exact ⟨0, by omega, by omega, rfl, by rw [regsN_zero]; exact HM.out, HXX.out, HB.out⟩
        case round =>
          clear HM HXX HB
          obtain ⟨d, hd1, hd2, rfl, M, X, hB⟩ := hrel
          have d2 := X.c2
          have HM := Lib.hid M; have HXX := Lib.hid X; have HB := Lib.hid hB
          clear M X hB
          by_cases hdr : d < 11 ∧ d < cn
          · obtain ⟨r1, r2⟩ := hdr
            have j1 : (d : Int) < 11 := by omega
            have j2 : (d : Int) < (cn : Int) := by omega
            obtain ⟨b, off, rfl, hbl, e1⟩ := (H2.out.kept HB.out (Nat.le_refl _)).cell r2
            have k0 : ∀ v, (wr.setCell ⟨G, 17 + d, none⟩ v).drew.cell? ⟨w.heap.size, 2, none⟩ = some (.slice (some ⟨b, off, none⟩) cn cc) := fun v => (HXX.out.off (by omega) (17 + d) v).c2
            have k1 : ∀ v, (wr.setCell ⟨G, 17 + d, none⟩ v).drew.cell? ⟨b, off + d, none⟩ = some (i64 (s.C.getD d 0)) := fun v => (World.cell?_of_block (Below.heap_setCell wr ⟨G, 17 + d, none⟩ v b (by show b ≠ G; omega))).trans e1
            have K0 := Lib.hid k0
            have K1 := Lib.hid k1
            clear k0 k1
            have m1 := HM.out.reg r1
            have m2 := HM.out.free (17 + d)
            have M2 := Lib.hid (HM.out.setReg r1 (wd (s.C.getD d 0)))
            have RS := Lib.hid (regsN_succ s.C d)
            have hw := w_says (s.C.getD d 0)
            generalize regsN s.C d d = y at *
            generalize s.C.getD d 0 = x at *
            go_upto_region 9 with fail
            go_region_held3 (fun u => u.cell? ⟨w.heap.size, 2, none⟩ = some (.slice (some ⟨b, off, none⟩) cn cc) ∧ u.cell? ⟨b, off + d, none⟩ = some (i64 x)) (first | exact ⟨d2, e1⟩ | exact ⟨K0.out _, K1.out _⟩ | assumption) (first | (go_at_call 23; refine (hw _).mono ?_; rintro e w' ⟨rfl, rfl⟩))
            all_goals
              go_wp2_with fail
              go_roundw
              case rel => exact ⟨d + 1, by omega, by omega, by go_num, by rw [← RS.out]; exact M2.out, HXX.out.off (by omega) _ _, HB.out.drew.setCell (by show w.heap.size ≤ G; omega) _⟩
              case measure => simp [intOf]; omega
          · have hdn : d = min s.C.length 11 := by have := hcl.out; omega
            have hq := HXX.out.c1
            have hq3 := HXX.out.c3
            have hq4 := HXX.out.c4
            have hq5 := HXX.out.c5
            have mp := HM.out.pcv
            have mf16 := HM.out.free 16
            have mf34 := HM.out.free 34
            have mf35 := HM.out.free 35
            obtain ⟨u34, m34⟩ := HM.out.any (j := 34) (by omega)
            obtain ⟨u35, m35⟩ := HM.out.any (j := 35) (by omega)
            have hw := w_says s.pc
            have FIN := Lib.hid (fun j hj => regsN_end s.C d hdn j hj)
            clear hdn
            have M3 := Lib.hid (((HM.out.setPc (wd s.pc)).off (j := 34) (.inr (by omega)) (.bool s.h)).off (j := 35) (.inr (by omega)) (.bool s.k))
            have X3 := Lib.hid (((HXX.out.off (g := G) (by omega) 16 (i64 (wd s.pc))).off (g := G) (by omega) 34 (.bool s.h)).off (g := G) (by omega) 35 (.bool s.k))
            have B3 := Lib.hid (((HB.out.setCell (p := ⟨G, 16, none⟩) (by show w.heap.size ≤ G; omega) (i64 (wd s.pc))).setCell (p := ⟨G, 34, none⟩) (by show w.heap.size ≤ G; omega) (.bool s.h)).setCell (p := ⟨G, 35, none⟩) (by show w.heap.size ≤ G; omega) (.bool s.k))
            have SO := Lib.hid ((H3.out.kept B3.out (Nat.le_refl _)).src)
            have LN := Lib.hid H3.out.len; have NL := Lib.hid H3.out.nil
            by_cases e11 : d < 11
            · have j1 : (d : Int) < 11 := by omega
              have j2 : ¬ (d : Int) < (cn : Int) := by omega
              go_wp2_with (first
                | (go_at_call 23; refine (hw _).mono ?_; rintro e w' ⟨rfl, rfl⟩)
                | (at_builtin; (refine wpList_appK kdB rfl _ _ rfl (Nat.le_refl _) (R1 := []) rfl (ownK_nil _ _ _ _) s.O rfl LN.out NL.out SO.out (by have := HO.out; have h3 : ([] : List Int).length = 0 := rfl; omega) ?_; intro v' w4 o4 b4 _; obtain ⟨p4, c4, rfl, -, -⟩ := ownK_lie o4; have M4 := M3.out.kept b4 M3.out.lt; obtain ⟨u30, m30⟩ := M4.any (j := 30) (by omega); have f30 := M4.free 30; have HM4 := Lib.hid M4; have B4 := Lib.hid (B3.out.trans (b4.mono B3.out.size)); clear o4 b4 M4)))
              go_ret
              exact ⟨G, rfl, by omega, (HM4.out.off (.inr (by omega)) _).congr FIN.out, B4.out.setCell (by show w.heap.size ≤ G; omega) _⟩
            · have j1 : ¬ (d : Int) < 11 := by omega
              go_wp2_with (first
                | (go_at_call 23; refine (hw _).mono ?_; rintro e w' ⟨rfl, rfl⟩)
                | (at_builtin; (refine wpList_appK kdB rfl _ _ rfl (Nat.le_refl _) (R1 := []) rfl (ownK_nil _ _ _ _) s.O rfl LN.out NL.out SO.out (by have := HO.out; have h3 : ([] : List Int).length = 0 := rfl; omega) ?_; intro v' w4 o4 b4 _; obtain ⟨p4, c4, rfl, -, -⟩ := ownK_lie o4; have M4 := M3.out.kept b4 M3.out.lt; obtain ⟨u30, m30⟩ := M4.any (j := 30) (by omega); have f30 := M4.free 30; have HM4 := Lib.hid M4; have B4 := Lib.hid (B3.out.trans (b4.mono B3.out.size)); clear o4 b4 M4)))
              go_ret
              exact ⟨G, rfl, by omega, (HM4.out.off (.inr (by omega)) _).congr FIN.out, B4.out.setCell (by show w.heap.size ≤ G; omega) _⟩
end Go.Proofs.Ytnccfdkkedomcaa.Ser
