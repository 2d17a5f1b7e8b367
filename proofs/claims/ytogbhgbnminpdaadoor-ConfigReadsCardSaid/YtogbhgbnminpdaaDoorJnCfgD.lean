/-
  Package config: channelFits, channelsFit, and what it hands over.
-/
import Derived.Test.YtogbhgbnminpdaaDoorJnCfgAbc
set_option linter.unusedVariables false
set_option maxRecDepth 100000
set_option linter.unusedVariables false
namespace Go.Proofs.YtogbhgbnminpdaaDoor.Cfg
open Go.Proofs.YtogbhgbnminpdaaDoor
open Go.ChangeShapes Go.WideShapes Go.ChangeAt Go.RowKit
abbrev chV (x : Ch) : Value := .agg #[i64 x.kind, i64 x.frm, i64 x.to, i64 x.size, i64 x.depth]
/-- Blocks with these cells. -/
structure Bxs (B : Nat) (w0 w : World) (g : Nat) (vs : List Value) (g2 : Nat) (us : List Value) : Prop where
  b : Below B w0 w
  lt : g < w.heap.size ∧ g2 < w.heap.size
  at1 : ∀ (k : Nat) (v : Value), vs[k]? = some v → w.cell? ⟨g, k, none⟩ = some v
  at2 : ∀ (k : Nat) (v : Value), us[k]? = some v → w.cell? ⟨g2, k, none⟩ = some v
theorem Bxs.kept {B : Nat} {w0 w w' : World} {g g2 : Nat} {vs us : List Value} (h : Bxs B w0 w g vs g2 us) (hb : Below w.heap.size w w') (hB : B ≤ w.heap.size) : Bxs B w0 w' g vs g2 us :=
  ⟨h.b.trans (hb.mono hB), ⟨Nat.lt_of_lt_of_le h.lt.1 hb.size, Nat.lt_of_lt_of_le h.lt.2 hb.size⟩, fun k v hv => (World.cell?_of_block (hb.block g h.lt.1)).trans (h.at1 k v hv), fun k v hv => (World.cell?_of_block (hb.block g2 h.lt.2)).trans (h.at2 k v hv)⟩
set_option maxHeartbeats 4000000 in
theorem channelFits_says {w : World} (c : Cf) (p1 : Option Addr) (c1 : Nat) (p2 : Option Addr) (c2 : Nat) (p3 : Option Addr) (c3 : Nat) (hl : c.parts.length ≤ 9223372036854775807) (x : Ch) (b : Bool) (hb : b = true ↔ okC c.parts.length x) :
    Calls Tryd.prog 40 #[cfV c p1 c1 p2 c2 p3 c3, chV x] w fun e w' => e = .returned (.bool b) ∧ Below w.heap.size w w' := by
  obtain ⟨p, hp⟩ : ∃ p : Ending → World → Prop, p = fun e w' => e = .returned (.bool b) ∧ Below w.heap.size w w' := ⟨_, rfl⟩
  rw [← hp]
  have h1 := Lib.hid (fun (h : okC c.parts.length x) w' (hw : Below w.heap.size w w') => (by rw [hp, hb.2 h]; exact ⟨rfl, hw⟩ : p (.returned (.bool true)) w'))
  have h0 := Lib.hid (fun (h : ¬ okC c.parts.length x) w' (hw : Below w.heap.size w w') => (by rw [hp, (by cases b with | true => exact absurd (hb.1 rfl) h | false => rfl : b = false)]; exact ⟨rfl, hw⟩ : p (.returned (.bool false)) w'))
  clear hp hb
  have hP := Lib.hid (fun (n : Int) (b : Bool) (hb : b = true ↔ 0 ≤ n ∧ n < c.parts.length) (w : World) => isPart_says c p1 c1 p2 c2 p3 c3 n b hb hl w)
  obtain ⟨m, hm⟩ : ∃ m, c.parts.length = m := ⟨_, rfl⟩
  obtain ⟨pg, hpg⟩ : ∃ pg, c.pages = pg := ⟨_, rfl⟩
  obtain ⟨mj, hmj⟩ : ∃ mj, c.major = mj := ⟨_, rfl⟩
  obtain ⟨sw, hsw⟩ : ∃ sw, c.switch = sw := ⟨_, rfl⟩
  obtain ⟨n2, hn2⟩ : ∃ n2, c.chans.length = n2 := ⟨_, rfl⟩
  obtain ⟨n3, hn3⟩ : ∃ n3, c.wins.length = n3 := ⟨_, rfl⟩
  simp only [cfV] at hP ⊢
  rw [hm] at h1 h0 hl
  rw [hm, hpg, hmj, hsw, hn2, hn3] at hP
  rw [hm, hpg, hmj, hsw, hn2, hn3]
  clear hm hpg hmj hsw hn2 hn3
  obtain ⟨kd, fr, to, sz, dp⟩ := x
  simp only [chV]
  unfold okC at h1 h0
  simp only at h1 h0
  obtain ⟨h, hhz⟩ : ∃ h, w.heap.size = h := ⟨_, rfl⟩
  rw [hhz] at h1 h0
  obtain ⟨w1, hw1⟩ : ∃ w1, w1 = (w.alloc (.cells #[i64 pg, i64 mj, i64 sw, .slice p1 m c1, .slice p2 n2 c2, .slice p3 n3 c3] 52)).alloc (.cells #[i64 kd, i64 fr, i64 to, i64 sz, i64 dp] 49) := ⟨_, rfl⟩
  have hs1 : (w.alloc (.cells #[i64 pg, i64 mj, i64 sw, .slice p1 m c1, .slice p2 n2 c2, .slice p3 n3 c3] 52)).heap.size = h + 1 := by rw [← hhz]; simp
  have X1 := Lib.hid (show Bxs h w w1 h [i64 pg, i64 mj, i64 sw, .slice p1 m c1, .slice p2 n2 c2, .slice p3 n3 c3] (h + 1) [i64 kd, i64 fr, i64 to, i64 sz, i64 dp] by
    refine ⟨by rw [hw1]; exact ((Below.refl _ _).alloc (Nat.le_of_eq hhz.symm) _).alloc (by rw [hs1]; omega) _, by rw [hw1]; simp only [World.alloc] at hs1 ⊢; simp; omega, fun k v hv => ?_, fun k v hv => ?_⟩
    · rw [hw1, World.cell?_of_block (Below.heap_alloc _ _ _ (by rw [hs1]; exact Nat.lt_succ_self h)), ← hhz, cell_of_row _ _ k _ _ _ (heap_alloc_new _ _), ← Array.getElem?_toList]; exact hv
    · rw [hw1, ← hs1, cell_of_row _ _ k _ _ _ (heap_alloc_new _ _), ← Array.getElem?_toList]; exact hv)
  have hh1 : h ≤ w1.heap.size := Nat.le_of_lt X1.out.lt.1
  go_enter Tryd.func40, Tryd.ntmps40
  go_upto_region 1 with fail
  rw [← hw1]
  clear hw1 hs1 hhz
  have y0 := X1.out.at1 0 _ rfl; have y1 := X1.out.at1 1 _ rfl; have y2 := X1.out.at1 2 _ rfl; have y3 := X1.out.at1 3 _ rfl; have y4 := X1.out.at1 4 _ rfl; have y5 := X1.out.at1 5 _ rfl; have x0 := X1.out.at2 0 _ rfl; have x1 := X1.out.at2 1 _ rfl; have x2 := X1.out.at2 2 _ rfl; have x3 := X1.out.at2 3 _ rfl; have x4 := X1.out.at2 4 _ rfl
  by_cases hk0 : kd = 0
  · subst hk0
    have gk : 0 ≤ (0 : Int) ∧ (0 : Int) ≤ 1 := by omega
    have hk := within_yes gk
    by_cases gf : 0 ≤ fr ∧ fr < (m : Int)
    · have hpf := hP.out fr true ⟨fun _ => gf, fun _ => rfl⟩
      by_cases gt : 0 ≤ to ∧ to < (m : Int)
      · have hpt := hP.out to true ⟨fun _ => gt, fun _ => rfl⟩
        by_cases gn : fr ≠ to
        · have hne : (fr != to) = true := by simp [gn]
          by_cases gs : 1 ≤ sz ∧ sz ≤ 64
          · have hs := within_yes gs
            by_cases gd : 1 ≤ dp ∧ dp ≤ 1
            · have hd := within_yes gd
              have hr := Lib.hid (h1.out ⟨gk, gf, gt, gn, gs, by omega, fun _ => by omega⟩)
              clear hP h0 h1
              go_wp2_with (first | (go_at_call 34; (with_reducible refine (hd _).mono ?_); rintro e w2 ⟨rfl, rfl⟩) | (go_at_call 34; (with_reducible refine (hs _).mono ?_); rintro e w2 ⟨rfl, rfl⟩) | (go_at_call 41; (with_reducible refine (hpt _).mono ?_); rintro e w2 ⟨rfl, hb⟩; replace X1 := Lib.hid (X1.out.kept hb hh1); replace hh1 := Nat.le_trans hh1 hb.size; clear hb; have y0 := X1.out.at1 0 _ rfl; have y1 := X1.out.at1 1 _ rfl; have y2 := X1.out.at1 2 _ rfl; have y3 := X1.out.at1 3 _ rfl; have y4 := X1.out.at1 4 _ rfl; have y5 := X1.out.at1 5 _ rfl; have x0 := X1.out.at2 0 _ rfl; have x1 := X1.out.at2 1 _ rfl; have x2 := X1.out.at2 2 _ rfl; have x3 := X1.out.at2 3 _ rfl; have x4 := X1.out.at2 4 _ rfl) | (go_at_call 41; (with_reducible refine (hpf _).mono ?_); rintro e w2 ⟨rfl, hb⟩; replace X1 := Lib.hid (X1.out.kept hb hh1); replace hh1 := Nat.le_trans hh1 hb.size; clear hb; have y0 := X1.out.at1 0 _ rfl; have y1 := X1.out.at1 1 _ rfl; have y2 := X1.out.at1 2 _ rfl; have y3 := X1.out.at1 3 _ rfl; have y4 := X1.out.at1 4 _ rfl; have y5 := X1.out.at1 5 _ rfl; have x0 := X1.out.at2 0 _ rfl; have x1 := X1.out.at2 1 _ rfl; have x2 := X1.out.at2 2 _ rfl; have x3 := X1.out.at2 3 _ rfl; have x4 := X1.out.at2 4 _ rfl) | (go_at_call 34; (with_reducible refine (hk _).mono ?_); rintro e w2 ⟨rfl, rfl⟩))
              exact hr.out _ X1.out.b
            · have hd := within_no gd
              have hr := Lib.hid (h0.out (fun h => gd (by have h6 := h.2.2.2.2.2.1; have h7 := h.2.2.2.2.2.2; have := h7 rfl; omega)))
              clear hP h0 h1
              go_wp2_with (first | (go_at_call 34; (with_reducible refine (hd _).mono ?_); rintro e w2 ⟨rfl, rfl⟩) | (go_at_call 34; (with_reducible refine (hs _).mono ?_); rintro e w2 ⟨rfl, rfl⟩) | (go_at_call 41; (with_reducible refine (hpt _).mono ?_); rintro e w2 ⟨rfl, hb⟩; replace X1 := Lib.hid (X1.out.kept hb hh1); replace hh1 := Nat.le_trans hh1 hb.size; clear hb; have y0 := X1.out.at1 0 _ rfl; have y1 := X1.out.at1 1 _ rfl; have y2 := X1.out.at1 2 _ rfl; have y3 := X1.out.at1 3 _ rfl; have y4 := X1.out.at1 4 _ rfl; have y5 := X1.out.at1 5 _ rfl; have x0 := X1.out.at2 0 _ rfl; have x1 := X1.out.at2 1 _ rfl; have x2 := X1.out.at2 2 _ rfl; have x3 := X1.out.at2 3 _ rfl; have x4 := X1.out.at2 4 _ rfl) | (go_at_call 41; (with_reducible refine (hpf _).mono ?_); rintro e w2 ⟨rfl, hb⟩; replace X1 := Lib.hid (X1.out.kept hb hh1); replace hh1 := Nat.le_trans hh1 hb.size; clear hb; have y0 := X1.out.at1 0 _ rfl; have y1 := X1.out.at1 1 _ rfl; have y2 := X1.out.at1 2 _ rfl; have y3 := X1.out.at1 3 _ rfl; have y4 := X1.out.at1 4 _ rfl; have y5 := X1.out.at1 5 _ rfl; have x0 := X1.out.at2 0 _ rfl; have x1 := X1.out.at2 1 _ rfl; have x2 := X1.out.at2 2 _ rfl; have x3 := X1.out.at2 3 _ rfl; have x4 := X1.out.at2 4 _ rfl) | (go_at_call 34; (with_reducible refine (hk _).mono ?_); rintro e w2 ⟨rfl, rfl⟩))
              exact hr.out _ X1.out.b
          · have hs := within_no gs
            have hr := Lib.hid (h0.out (fun h => gs h.2.2.2.2.1))
            clear hP h0 h1
            go_wp2_with (first | (go_at_call 34; (with_reducible refine (hs _).mono ?_); rintro e w2 ⟨rfl, rfl⟩) | (go_at_call 41; (with_reducible refine (hpt _).mono ?_); rintro e w2 ⟨rfl, hb⟩; replace X1 := Lib.hid (X1.out.kept hb hh1); replace hh1 := Nat.le_trans hh1 hb.size; clear hb; have y0 := X1.out.at1 0 _ rfl; have y1 := X1.out.at1 1 _ rfl; have y2 := X1.out.at1 2 _ rfl; have y3 := X1.out.at1 3 _ rfl; have y4 := X1.out.at1 4 _ rfl; have y5 := X1.out.at1 5 _ rfl; have x0 := X1.out.at2 0 _ rfl; have x1 := X1.out.at2 1 _ rfl; have x2 := X1.out.at2 2 _ rfl; have x3 := X1.out.at2 3 _ rfl; have x4 := X1.out.at2 4 _ rfl) | (go_at_call 41; (with_reducible refine (hpf _).mono ?_); rintro e w2 ⟨rfl, hb⟩; replace X1 := Lib.hid (X1.out.kept hb hh1); replace hh1 := Nat.le_trans hh1 hb.size; clear hb; have y0 := X1.out.at1 0 _ rfl; have y1 := X1.out.at1 1 _ rfl; have y2 := X1.out.at1 2 _ rfl; have y3 := X1.out.at1 3 _ rfl; have y4 := X1.out.at1 4 _ rfl; have y5 := X1.out.at1 5 _ rfl; have x0 := X1.out.at2 0 _ rfl; have x1 := X1.out.at2 1 _ rfl; have x2 := X1.out.at2 2 _ rfl; have x3 := X1.out.at2 3 _ rfl; have x4 := X1.out.at2 4 _ rfl) | (go_at_call 34; (with_reducible refine (hk _).mono ?_); rintro e w2 ⟨rfl, rfl⟩))
            exact hr.out _ X1.out.b
        · have hne : (fr != to) = false := by simpa using gn
          have hr := Lib.hid (h0.out (fun h => gn h.2.2.2.1))
          clear hP h0 h1
          go_wp2_with (first | (go_at_call 41; (with_reducible refine (hpt _).mono ?_); rintro e w2 ⟨rfl, hb⟩; replace X1 := Lib.hid (X1.out.kept hb hh1); replace hh1 := Nat.le_trans hh1 hb.size; clear hb; have y0 := X1.out.at1 0 _ rfl; have y1 := X1.out.at1 1 _ rfl; have y2 := X1.out.at1 2 _ rfl; have y3 := X1.out.at1 3 _ rfl; have y4 := X1.out.at1 4 _ rfl; have y5 := X1.out.at1 5 _ rfl; have x0 := X1.out.at2 0 _ rfl; have x1 := X1.out.at2 1 _ rfl; have x2 := X1.out.at2 2 _ rfl; have x3 := X1.out.at2 3 _ rfl; have x4 := X1.out.at2 4 _ rfl) | (go_at_call 41; (with_reducible refine (hpf _).mono ?_); rintro e w2 ⟨rfl, hb⟩; replace X1 := Lib.hid (X1.out.kept hb hh1); replace hh1 := Nat.le_trans hh1 hb.size; clear hb; have y0 := X1.out.at1 0 _ rfl; have y1 := X1.out.at1 1 _ rfl; have y2 := X1.out.at1 2 _ rfl; have y3 := X1.out.at1 3 _ rfl; have y4 := X1.out.at1 4 _ rfl; have y5 := X1.out.at1 5 _ rfl; have x0 := X1.out.at2 0 _ rfl; have x1 := X1.out.at2 1 _ rfl; have x2 := X1.out.at2 2 _ rfl; have x3 := X1.out.at2 3 _ rfl; have x4 := X1.out.at2 4 _ rfl) | (go_at_call 34; (with_reducible refine (hk _).mono ?_); rintro e w2 ⟨rfl, rfl⟩))
          exact hr.out _ X1.out.b
      · have hpt := hP.out to false ⟨fun h => (by cases h), fun h => absurd h gt⟩
        have hr := Lib.hid (h0.out (fun h => gt h.2.2.1))
        clear hP h0 h1
        go_wp2_with (first | (go_at_call 41; (with_reducible refine (hpt _).mono ?_); rintro e w2 ⟨rfl, hb⟩; replace X1 := Lib.hid (X1.out.kept hb hh1); replace hh1 := Nat.le_trans hh1 hb.size; clear hb; have y0 := X1.out.at1 0 _ rfl; have y1 := X1.out.at1 1 _ rfl; have y2 := X1.out.at1 2 _ rfl; have y3 := X1.out.at1 3 _ rfl; have y4 := X1.out.at1 4 _ rfl; have y5 := X1.out.at1 5 _ rfl; have x0 := X1.out.at2 0 _ rfl; have x1 := X1.out.at2 1 _ rfl; have x2 := X1.out.at2 2 _ rfl; have x3 := X1.out.at2 3 _ rfl; have x4 := X1.out.at2 4 _ rfl) | (go_at_call 41; (with_reducible refine (hpf _).mono ?_); rintro e w2 ⟨rfl, hb⟩; replace X1 := Lib.hid (X1.out.kept hb hh1); replace hh1 := Nat.le_trans hh1 hb.size; clear hb; have y0 := X1.out.at1 0 _ rfl; have y1 := X1.out.at1 1 _ rfl; have y2 := X1.out.at1 2 _ rfl; have y3 := X1.out.at1 3 _ rfl; have y4 := X1.out.at1 4 _ rfl; have y5 := X1.out.at1 5 _ rfl; have x0 := X1.out.at2 0 _ rfl; have x1 := X1.out.at2 1 _ rfl; have x2 := X1.out.at2 2 _ rfl; have x3 := X1.out.at2 3 _ rfl; have x4 := X1.out.at2 4 _ rfl) | (go_at_call 34; (with_reducible refine (hk _).mono ?_); rintro e w2 ⟨rfl, rfl⟩))
        exact hr.out _ X1.out.b
    · have hpf := hP.out fr false ⟨fun h => (by cases h), fun h => absurd h gf⟩
      have hr := Lib.hid (h0.out (fun h => gf h.2.1))
      clear hP h0 h1
      go_wp2_with (first | (go_at_call 41; (with_reducible refine (hpf _).mono ?_); rintro e w2 ⟨rfl, hb⟩; replace X1 := Lib.hid (X1.out.kept hb hh1); replace hh1 := Nat.le_trans hh1 hb.size; clear hb; have y0 := X1.out.at1 0 _ rfl; have y1 := X1.out.at1 1 _ rfl; have y2 := X1.out.at1 2 _ rfl; have y3 := X1.out.at1 3 _ rfl; have y4 := X1.out.at1 4 _ rfl; have y5 := X1.out.at1 5 _ rfl; have x0 := X1.out.at2 0 _ rfl; have x1 := X1.out.at2 1 _ rfl; have x2 := X1.out.at2 2 _ rfl; have x3 := X1.out.at2 3 _ rfl; have x4 := X1.out.at2 4 _ rfl) | (go_at_call 34; (with_reducible refine (hk _).mono ?_); rintro e w2 ⟨rfl, rfl⟩))
      exact hr.out _ X1.out.b
  · have hk1 : (kd == 0) = false := by simpa using hk0
    by_cases gk : 0 ≤ (kd : Int) ∧ (kd : Int) ≤ 1
    · have hk := within_yes gk
      by_cases gf : 0 ≤ fr ∧ fr < (m : Int)
      · have hpf := hP.out fr true ⟨fun _ => gf, fun _ => rfl⟩
        by_cases gt : 0 ≤ to ∧ to < (m : Int)
        · have hpt := hP.out to true ⟨fun _ => gt, fun _ => rfl⟩
          by_cases gn : fr ≠ to
          · have hne : (fr != to) = true := by simp [gn]
            by_cases gs : 1 ≤ sz ∧ sz ≤ 64
            · have hs := within_yes gs
              by_cases gd : 1 ≤ dp ∧ dp ≤ 16
              · have hd := within_yes gd
                have hr := Lib.hid (h1.out ⟨gk, gf, gt, gn, gs, gd, fun h => absurd h hk0⟩)
                clear hP h0 h1
                go_wp2_with (first | (go_at_call 34; (with_reducible refine (hd _).mono ?_); rintro e w2 ⟨rfl, rfl⟩) | (go_at_call 34; (with_reducible refine (hs _).mono ?_); rintro e w2 ⟨rfl, rfl⟩) | (go_at_call 41; (with_reducible refine (hpt _).mono ?_); rintro e w2 ⟨rfl, hb⟩; replace X1 := Lib.hid (X1.out.kept hb hh1); replace hh1 := Nat.le_trans hh1 hb.size; clear hb; have y0 := X1.out.at1 0 _ rfl; have y1 := X1.out.at1 1 _ rfl; have y2 := X1.out.at1 2 _ rfl; have y3 := X1.out.at1 3 _ rfl; have y4 := X1.out.at1 4 _ rfl; have y5 := X1.out.at1 5 _ rfl; have x0 := X1.out.at2 0 _ rfl; have x1 := X1.out.at2 1 _ rfl; have x2 := X1.out.at2 2 _ rfl; have x3 := X1.out.at2 3 _ rfl; have x4 := X1.out.at2 4 _ rfl) | (go_at_call 41; (with_reducible refine (hpf _).mono ?_); rintro e w2 ⟨rfl, hb⟩; replace X1 := Lib.hid (X1.out.kept hb hh1); replace hh1 := Nat.le_trans hh1 hb.size; clear hb; have y0 := X1.out.at1 0 _ rfl; have y1 := X1.out.at1 1 _ rfl; have y2 := X1.out.at1 2 _ rfl; have y3 := X1.out.at1 3 _ rfl; have y4 := X1.out.at1 4 _ rfl; have y5 := X1.out.at1 5 _ rfl; have x0 := X1.out.at2 0 _ rfl; have x1 := X1.out.at2 1 _ rfl; have x2 := X1.out.at2 2 _ rfl; have x3 := X1.out.at2 3 _ rfl; have x4 := X1.out.at2 4 _ rfl) | (go_at_call 34; (with_reducible refine (hk _).mono ?_); rintro e w2 ⟨rfl, rfl⟩))
                exact hr.out _ X1.out.b
              · have hd := within_no gd
                have hr := Lib.hid (h0.out (fun h => gd (by have h6 := h.2.2.2.2.2.1; have h7 := h.2.2.2.2.2.2; skip; omega)))
                clear hP h0 h1
                go_wp2_with (first | (go_at_call 34; (with_reducible refine (hd _).mono ?_); rintro e w2 ⟨rfl, rfl⟩) | (go_at_call 34; (with_reducible refine (hs _).mono ?_); rintro e w2 ⟨rfl, rfl⟩) | (go_at_call 41; (with_reducible refine (hpt _).mono ?_); rintro e w2 ⟨rfl, hb⟩; replace X1 := Lib.hid (X1.out.kept hb hh1); replace hh1 := Nat.le_trans hh1 hb.size; clear hb; have y0 := X1.out.at1 0 _ rfl; have y1 := X1.out.at1 1 _ rfl; have y2 := X1.out.at1 2 _ rfl; have y3 := X1.out.at1 3 _ rfl; have y4 := X1.out.at1 4 _ rfl; have y5 := X1.out.at1 5 _ rfl; have x0 := X1.out.at2 0 _ rfl; have x1 := X1.out.at2 1 _ rfl; have x2 := X1.out.at2 2 _ rfl; have x3 := X1.out.at2 3 _ rfl; have x4 := X1.out.at2 4 _ rfl) | (go_at_call 41; (with_reducible refine (hpf _).mono ?_); rintro e w2 ⟨rfl, hb⟩; replace X1 := Lib.hid (X1.out.kept hb hh1); replace hh1 := Nat.le_trans hh1 hb.size; clear hb; have y0 := X1.out.at1 0 _ rfl; have y1 := X1.out.at1 1 _ rfl; have y2 := X1.out.at1 2 _ rfl; have y3 := X1.out.at1 3 _ rfl; have y4 := X1.out.at1 4 _ rfl; have y5 := X1.out.at1 5 _ rfl; have x0 := X1.out.at2 0 _ rfl; have x1 := X1.out.at2 1 _ rfl; have x2 := X1.out.at2 2 _ rfl; have x3 := X1.out.at2 3 _ rfl; have x4 := X1.out.at2 4 _ rfl) | (go_at_call 34; (with_reducible refine (hk _).mono ?_); rintro e w2 ⟨rfl, rfl⟩))
                exact hr.out _ X1.out.b
            · have hs := within_no gs
              have hr := Lib.hid (h0.out (fun h => gs h.2.2.2.2.1))
              clear hP h0 h1
              go_wp2_with (first | (go_at_call 34; (with_reducible refine (hs _).mono ?_); rintro e w2 ⟨rfl, rfl⟩) | (go_at_call 41; (with_reducible refine (hpt _).mono ?_); rintro e w2 ⟨rfl, hb⟩; replace X1 := Lib.hid (X1.out.kept hb hh1); replace hh1 := Nat.le_trans hh1 hb.size; clear hb; have y0 := X1.out.at1 0 _ rfl; have y1 := X1.out.at1 1 _ rfl; have y2 := X1.out.at1 2 _ rfl; have y3 := X1.out.at1 3 _ rfl; have y4 := X1.out.at1 4 _ rfl; have y5 := X1.out.at1 5 _ rfl; have x0 := X1.out.at2 0 _ rfl; have x1 := X1.out.at2 1 _ rfl; have x2 := X1.out.at2 2 _ rfl; have x3 := X1.out.at2 3 _ rfl; have x4 := X1.out.at2 4 _ rfl) | (go_at_call 41; (with_reducible refine (hpf _).mono ?_); rintro e w2 ⟨rfl, hb⟩; replace X1 := Lib.hid (X1.out.kept hb hh1); replace hh1 := Nat.le_trans hh1 hb.size; clear hb; have y0 := X1.out.at1 0 _ rfl; have y1 := X1.out.at1 1 _ rfl; have y2 := X1.out.at1 2 _ rfl; have y3 := X1.out.at1 3 _ rfl; have y4 := X1.out.at1 4 _ rfl; have y5 := X1.out.at1 5 _ rfl; have x0 := X1.out.at2 0 _ rfl; have x1 := X1.out.at2 1 _ rfl; have x2 := X1.out.at2 2 _ rfl; have x3 := X1.out.at2 3 _ rfl; have x4 := X1.out.at2 4 _ rfl) | (go_at_call 34; (with_reducible refine (hk _).mono ?_); rintro e w2 ⟨rfl, rfl⟩))
              exact hr.out _ X1.out.b
          · have hne : (fr != to) = false := by simpa using gn
            have hr := Lib.hid (h0.out (fun h => gn h.2.2.2.1))
            clear hP h0 h1
            go_wp2_with (first | (go_at_call 41; (with_reducible refine (hpt _).mono ?_); rintro e w2 ⟨rfl, hb⟩; replace X1 := Lib.hid (X1.out.kept hb hh1); replace hh1 := Nat.le_trans hh1 hb.size; clear hb; have y0 := X1.out.at1 0 _ rfl; have y1 := X1.out.at1 1 _ rfl; have y2 := X1.out.at1 2 _ rfl; have y3 := X1.out.at1 3 _ rfl; have y4 := X1.out.at1 4 _ rfl; have y5 := X1.out.at1 5 _ rfl; have x0 := X1.out.at2 0 _ rfl; have x1 := X1.out.at2 1 _ rfl; have x2 := X1.out.at2 2 _ rfl; have x3 := X1.out.at2 3 _ rfl; have x4 := X1.out.at2 4 _ rfl) | (go_at_call 41; (with_reducible refine (hpf _).mono ?_); rintro e w2 ⟨rfl, hb⟩; replace X1 := Lib.hid (X1.out.kept hb hh1); replace hh1 := Nat.le_trans hh1 hb.size; clear hb; have y0 := X1.out.at1 0 _ rfl; have y1 := X1.out.at1 1 _ rfl; have y2 := X1.out.at1 2 _ rfl; have y3 := X1.out.at1 3 _ rfl; have y4 := X1.out.at1 4 _ rfl; have y5 := X1.out.at1 5 _ rfl; have x0 := X1.out.at2 0 _ rfl; have x1 := X1.out.at2 1 _ rfl; have x2 := X1.out.at2 2 _ rfl; have x3 := X1.out.at2 3 _ rfl; have x4 := X1.out.at2 4 _ rfl) | (go_at_call 34; (with_reducible refine (hk _).mono ?_); rintro e w2 ⟨rfl, rfl⟩))
            exact hr.out _ X1.out.b
        · have hpt := hP.out to false ⟨fun h => (by cases h), fun h => absurd h gt⟩
          have hr := Lib.hid (h0.out (fun h => gt h.2.2.1))
          clear hP h0 h1
          go_wp2_with (first | (go_at_call 41; (with_reducible refine (hpt _).mono ?_); rintro e w2 ⟨rfl, hb⟩; replace X1 := Lib.hid (X1.out.kept hb hh1); replace hh1 := Nat.le_trans hh1 hb.size; clear hb; have y0 := X1.out.at1 0 _ rfl; have y1 := X1.out.at1 1 _ rfl; have y2 := X1.out.at1 2 _ rfl; have y3 := X1.out.at1 3 _ rfl; have y4 := X1.out.at1 4 _ rfl; have y5 := X1.out.at1 5 _ rfl; have x0 := X1.out.at2 0 _ rfl; have x1 := X1.out.at2 1 _ rfl; have x2 := X1.out.at2 2 _ rfl; have x3 := X1.out.at2 3 _ rfl; have x4 := X1.out.at2 4 _ rfl) | (go_at_call 41; (with_reducible refine (hpf _).mono ?_); rintro e w2 ⟨rfl, hb⟩; replace X1 := Lib.hid (X1.out.kept hb hh1); replace hh1 := Nat.le_trans hh1 hb.size; clear hb; have y0 := X1.out.at1 0 _ rfl; have y1 := X1.out.at1 1 _ rfl; have y2 := X1.out.at1 2 _ rfl; have y3 := X1.out.at1 3 _ rfl; have y4 := X1.out.at1 4 _ rfl; have y5 := X1.out.at1 5 _ rfl; have x0 := X1.out.at2 0 _ rfl; have x1 := X1.out.at2 1 _ rfl; have x2 := X1.out.at2 2 _ rfl; have x3 := X1.out.at2 3 _ rfl; have x4 := X1.out.at2 4 _ rfl) | (go_at_call 34; (with_reducible refine (hk _).mono ?_); rintro e w2 ⟨rfl, rfl⟩))
          exact hr.out _ X1.out.b
      · have hpf := hP.out fr false ⟨fun h => (by cases h), fun h => absurd h gf⟩
        have hr := Lib.hid (h0.out (fun h => gf h.2.1))
        clear hP h0 h1
        go_wp2_with (first | (go_at_call 41; (with_reducible refine (hpf _).mono ?_); rintro e w2 ⟨rfl, hb⟩; replace X1 := Lib.hid (X1.out.kept hb hh1); replace hh1 := Nat.le_trans hh1 hb.size; clear hb; have y0 := X1.out.at1 0 _ rfl; have y1 := X1.out.at1 1 _ rfl; have y2 := X1.out.at1 2 _ rfl; have y3 := X1.out.at1 3 _ rfl; have y4 := X1.out.at1 4 _ rfl; have y5 := X1.out.at1 5 _ rfl; have x0 := X1.out.at2 0 _ rfl; have x1 := X1.out.at2 1 _ rfl; have x2 := X1.out.at2 2 _ rfl; have x3 := X1.out.at2 3 _ rfl; have x4 := X1.out.at2 4 _ rfl) | (go_at_call 34; (with_reducible refine (hk _).mono ?_); rintro e w2 ⟨rfl, rfl⟩))
        exact hr.out _ X1.out.b
    · have hk := within_no gk
      have hr := Lib.hid (h0.out (fun h => gk h.1))
      clear hP h0 h1
      go_wp2_with (go_at_call 34; (with_reducible refine (hk _).mono ?_); rintro e w2 ⟨rfl, rfl⟩)
      exact hr.out _ X1.out.b
set_option maxHeartbeats 4000000 in
theorem cidx_says {w : World} {p : Option Addr} {m c : Nat} {l : List Ch} (L : LieS 5 w w.heap.size p m c (l.map chC)) (hm : m ≤ 9223372036854775807) (f : Nat) (cap : Array Value) (P : Ch → Prop) (dP : ∀ q, Decidable (P q))
    (eg : ∀ args w, (callFunc f args).run Tryd.prog w = .ok (.enter f args) w)
    (hc : ∀ (i : Nat) (q : Ch), l[i]? = some q → ∀ u, Below w.heap.size w u → ∀ b : Bool, (b = true ↔ P q) → Calls Tryd.prog f (#[chV q] ++ cap) u fun e w' => e = .returned (.bool b) ∧ Below u.heap.size u w') :
    Calls Tryd.prog 53 #[.slice p m c, .func (.func f) #[] cap] w (Found P l w) := by
  obtain ⟨r, hr⟩ : ∃ r, r = Found P l w := ⟨_, rfl⟩
  rw [← hr]
  have hlm : l.length = m := by have := L.len; rw [List.length_map] at this; exact this
  have hout1 := Lib.hid (fun wr (s : Srch P w wr l m) => (by rw [hr]; exact ⟨s.b, .inl ⟨fun i q hq => s.no i q (by have := (List.getElem?_eq_some_iff.1 hq).1; omega) hq, rfl⟩⟩ : r (.returned (i64 (-1))) wr))
  have hout2 := Lib.hid (fun (j : Nat) (x : Ch) wr w' (s : Srch P w wr l j) (hx : l[j]? = some x) (hp : P x) (b : Below wr.heap.size wr w') => (by rw [hr]; exact ⟨s.b.trans (b.mono s.b.size), .inr ⟨j, x, hx, hp, rfl⟩⟩ : r (.returned (i64 j)) w'))
  replace hc := Lib.hid hc
  clear hr
  go_enter Tryd.func53, Tryd.ntmps53
  go_wp2_with fail
  go_loopw [5, 8] (fun _ i wr => ∃ j : Nat, j ≤ m ∧ i = .int .i64 j ∧ Srch P w wr l j) (fun _ i _ => m - (intOf i).toNat)
  case atStart => exact ⟨0, Nat.zero_le _, rfl, Below.refl _ _, fun i q h => absurd h (Nat.not_lt_zero _)⟩
  case round =>
    obtain ⟨j, hj, rfl, s⟩ := hrel
    by_cases hjl : j < m
    · have hjI : (j : Int) < (m : Int) := by omega
      obtain ⟨x, hx⟩ : ∃ x, l[j]? = some x := ⟨_, List.getElem?_eq_getElem (by omega)⟩
      obtain ⟨b, off, rfl, hbl, y0, y1, y2, y3, y4⟩ := (L.kept s.b (Nat.le_refl _)).cell5 j x hx rfl
      by_cases hp : P x
      · have hc1 := Lib.hid (hc.out j x hx wr s.b true (by simp [hp]))
        have ho := Lib.hid (fun w' => hout2.out j x wr w' s hx hp)
        clear hc hout1 hout2 s hx L hp
        go_wp2_with (go_at_fn f; refine hc1.out.mono ?_; rintro e w' ⟨rfl, b2⟩)
        exact ho.out w' b2
      · have hc1 := Lib.hid (hc.out j x hx wr s.b false (by simp [hp]))
        have hn := Lib.hid (fun w' (b : Below wr.heap.size wr w') => s.next hx hp b)
        clear hc hout1 hout2 s hx L hp
        go_wp2_with (go_at_fn f; refine hc1.out.mono ?_; rintro e w' ⟨rfl, b2⟩)
        go_roundw
        case rel => exact ⟨j + 1, hjl, by go_num, hn.out w' b2⟩
        case measure => simp [intOf]; omega
    · have hkn : j = m := by omega
      subst hkn
      have ho := Lib.hid (hout1.out wr s)
      clear s hc hout1 hout2
      go_wp2
      exact ho.out
theorem ccon_says {w : World} {p : Option Addr} {m c : Nat} {l : List Ch} (L : LieS 5 w w.heap.size p m c (l.map chC)) (hm : m ≤ 9223372036854775807) (f : Nat) (cap : Array Value) (P : Ch → Prop) (dP : ∀ q, Decidable (P q))
    (eg : ∀ args w, (callFunc f args).run Tryd.prog w = .ok (.enter f args) w)
    (hc : ∀ (i : Nat) (q : Ch), l[i]? = some q → ∀ u, Below w.heap.size w u → ∀ b : Bool, (b = true ↔ P q) → Calls Tryd.prog f (#[chV q] ++ cap) u fun e w' => e = .returned (.bool b) ∧ Below u.heap.size u w')
    (b : Bool) (hb : b = true ↔ ∃ (i : Nat) (q : Ch), l[i]? = some q ∧ P q) :
    Calls Tryd.prog 38 #[.slice p m c, .func (.func f) #[] cap] w fun e w' => e = .returned (.bool b) ∧ Below w.heap.size w w' := by
  have hi := Lib.hid (cidx_says L hm f cap P dP eg hc)
  obtain ⟨r, hr⟩ : ∃ r : Ending → World → Prop, r = fun e w' => e = .returned (.bool b) ∧ Below w.heap.size w w' := ⟨_, rfl⟩
  rw [← hr]
  have h1 := Lib.hid (fun v w' (hv : v = b) (h : Below w.heap.size w w') => (by rw [hr, hv]; exact ⟨rfl, h⟩ : r (.returned (.bool v)) w'))
  clear hr hc L
  go_enter Tryd.func38, Tryd.ntmps38
  go_wp2_with (go_at_call 53; refine hi.out.mono ?_; rintro e w' ⟨hbl, (⟨hno, rfl⟩ | ⟨j, x, hx, hpx, rfl⟩)⟩)
  · exact h1.out false w' (by cases b with | false => rfl | true => obtain ⟨i, q, h2, h3⟩ := hb.1 rfl; exact absurd h3 (hno i q h2)) hbl
  · exact h1.out true w' ((hb.2 ⟨j, x, hx, hpx⟩).symm) hbl
end Go.Proofs.YtogbhgbnminpdaaDoor.Cfg
