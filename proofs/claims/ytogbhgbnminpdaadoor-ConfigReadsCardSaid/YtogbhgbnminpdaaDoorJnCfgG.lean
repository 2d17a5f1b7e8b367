/-
  Package config: Check.
-/
import Derived.Test.YtogbhgbnminpdaaDoorJnCfgAbc
import Derived.Test.YtogbhgbnminpdaaDoorJnCfgEf
set_option linter.unusedVariables false
set_option maxRecDepth 100000
set_option linter.unusedVariables false
namespace Go.Proofs.YtogbhgbnminpdaaDoor.Cfg
open Go.Proofs.YtogbhgbnminpdaaDoor
open Go.ChangeShapes Go.WideShapes Go.ChangeAt Go.RowKit
set_option maxHeartbeats 8000000 in
theorem check_says {w : World} {c : Cf} {p1 : Option Addr} {c1 : Nat} {p2 : Option Addr} {c2 : Nat} {p3 : Option Addr} {c3 : Nat}
    (L1 : LieS 3 w w.heap.size p1 c.parts.length c1 (c.parts.map ptC)) (L2 : LieS 5 w w.heap.size p2 c.chans.length c2 (c.chans.map chC)) (L3 : LieS 3 w w.heap.size p3 c.wins.length c3 (c.wins.map wnC)) (wf : Wf c) (hc1 : c1 ≤ 9223372036854775807) :
    Calls Tryd.prog 8 #[cfV c p1 c1 p2 c2 p3 c3] w fun e w' => e = .returned (i64 (chk c)) ∧ Below w.heap.size w w' := by
  obtain ⟨p, hp⟩ : ∃ p : Ending → World → Prop, p = fun e w' => e = .returned (i64 (chk c)) ∧ Below w.heap.size w w' := ⟨_, rfl⟩
  rw [← hp]
  have hr : ∀ v w', v = chk c → Below w.heap.size w w' → p (.returned (i64 v)) w' := fun v w' hv hb => by rw [hp, hv]; exact ⟨rfl, hb⟩
  clear hp
  have q1 := Lib.hid (fun (b : Bool) (hb : b = true ↔ hostOk c) (u : World) => hostFits_says c p1 c1 p2 c2 p3 c3 b hb u)
  have q2 := Lib.hid (fun (b : Bool) (hb : b = true ↔ partsOk c.parts) (u : World) (hu : Below w.heap.size w u) => partsFit_says c p2 c2 p3 c3 ((L1.kept hu (Nat.le_refl _)).wide hu.size) wf hc1 b hb)
  have q3 := Lib.hid (fun (h8 : c.parts.length ≤ 8) (hh : hostOk c) (b : Bool) (hb : b = true ↔ memOk c.pages c.parts) (u : World) (hu : Below w.heap.size w u) => memoryFits_says c p2 c2 p3 c3 ((L1.kept hu (Nat.le_refl _)).wide hu.size) wf h8 hh b hb)
  have q4 := Lib.hid (fun (b : Bool) (hb : b = true ↔ chansOk c.parts.length c.chans) (u : World) (hu : Below w.heap.size w u) => channelsFit_says c p1 c1 p3 c3 ((L2.kept hu (Nat.le_refl _)).wide hu.size) wf b hb)
  have q5 := Lib.hid (fun (b : Bool) (hb : b = true ↔ planOk c) (u : World) (hu : Below w.heap.size w u) => planFits_says c p1 c1 p2 c2 ((L3.kept hu (Nat.le_refl _)).wide hu.size) wf b hb)
  have hchk : chk c = chkB (@decide (hostOk c) (Classical.propDecidable _)) (@decide (partsOk c.parts) (Classical.propDecidable _)) (@decide (memOk c.pages c.parts) (Classical.propDecidable _)) (@decide (chansOk c.parts.length c.chans) (Classical.propDecidable _)) (@decide (planOk c) (Classical.propDecidable _)) := rfl
  rw [hchk] at hr
  have h8 : partsOk c.parts → c.parts.length ≤ 8 := fun h => h.1.2
  obtain ⟨m, hm⟩ : ∃ m, c.parts.length = m := ⟨_, rfl⟩
  obtain ⟨pg, hpg⟩ : ∃ pg, c.pages = pg := ⟨_, rfl⟩
  obtain ⟨mj, hmj⟩ : ∃ mj, c.major = mj := ⟨_, rfl⟩
  obtain ⟨sw, hsw⟩ : ∃ sw, c.switch = sw := ⟨_, rfl⟩
  obtain ⟨n2, hn2⟩ : ∃ n2, c.chans.length = n2 := ⟨_, rfl⟩
  obtain ⟨n3, hn3⟩ : ∃ n3, c.wins.length = n3 := ⟨_, rfl⟩
  simp only [cfV] at q1 q2 q3 q4 q5 ⊢
  rw [hm, hpg, hmj, hsw, hn2, hn3] at q1
  rw [hm, hpg, hmj, hsw, hn2, hn3] at q2
  rw [hm, hpg, hmj, hsw, hn2, hn3] at q3
  rw [hm, hpg, hmj, hsw, hn2, hn3] at q4
  rw [hm, hpg, hmj, hsw, hn2, hn3] at q5
  rw [hm, hpg, hmj, hsw, hn2, hn3]
  rw [hm, hpg] at hr
  rw [hm] at h8
  clear hm hpg hmj hsw hn2 hn3 L1 L2 L3 wf hchk
  replace hr := Lib.hid hr
  go_enter Tryd.func8, Tryd.ntmps8
  go_upto_region 3 with fail
  obtain ⟨w1, hw1⟩ : ∃ w1, w1 = (w.alloc (.cells #[i64 pg, i64 mj, i64 sw, .slice p1 m c1, .slice p2 n2 c2, .slice p3 n3 c3] 26)).alloc (.cells #[i64 pg, i64 mj, i64 sw, .slice p1 m c1, .slice p2 n2 c2, .slice p3 n3 c3] 52) := ⟨_, rfl⟩
  have B1 := Lib.hid (by rw [hw1]; exact ((Below.refl _ _).alloc (Nat.le_refl _) _).alloc (by simp) _ : Below w.heap.size w w1)
  rw [← hw1]
  clear hw1
  obtain ⟨O, hO⟩ : ∃ O, O = Value.agg #[i64 pg, i64 mj, i64 sw, .slice p1 m c1, .slice p2 n2 c2, .slice p3 n3 c3] := ⟨_, rfl⟩
  rw [← hO] at q1 q2 q3 q4 q5
  rw [← hO]
  obtain ⟨A, hA⟩ : ∃ A : Array Value, A = #[O] := ⟨_, rfl⟩
  rw [← hA] at q1 q2 q3 q4 q5
  rw [← hA]
  clear hO hA
  obtain ⟨T, hT⟩ : ∃ T : Value, T = .agg #[.func (.func 18) A #[], .int .i64 11, .func (.func 19) A #[], .int .i64 10, .func (.func 20) A #[], .int .i64 11, .func (.func 21) A #[], .int .i64 13, .func (.func 22) A #[], .int .i64 12] := ⟨_, rfl⟩
  have t0 : ∀ w, (Instr.index 55 T (.int .i64 0)).run Tryd.prog w = .ok (.agg #[.func (.func 18) A #[], .int .i64 11]) w := fun _ => by rw [hT]; kernel_rfl
  have t1 : ∀ w, (Instr.index 55 T (.int .i64 1)).run Tryd.prog w = .ok (.agg #[.func (.func 19) A #[], .int .i64 10]) w := fun _ => by rw [hT]; kernel_rfl
  have t2 : ∀ w, (Instr.index 55 T (.int .i64 2)).run Tryd.prog w = .ok (.agg #[.func (.func 20) A #[], .int .i64 11]) w := fun _ => by rw [hT]; kernel_rfl
  have t3 : ∀ w, (Instr.index 55 T (.int .i64 3)).run Tryd.prog w = .ok (.agg #[.func (.func 21) A #[], .int .i64 13]) w := fun _ => by rw [hT]; kernel_rfl
  have t4 : ∀ w, (Instr.index 55 T (.int .i64 4)).run Tryd.prog w = .ok (.agg #[.func (.func 22) A #[], .int .i64 12]) w := fun _ => by rw [hT]; kernel_rfl
  rw [← hT]
  clear hT
  refine wp_loop_rounds 6 ?_
  rw [rounds_succ]
  go_upto_region 5 with fail
  obtain ⟨w2, hw2⟩ : ∃ w2, w2 = (w1.alloc (.cells #[.func (.func 18) A #[], i64 11] 54)) := ⟨_, rfl⟩
  obtain ⟨g, hg⟩ : ∃ g, w1.heap.size = g := ⟨_, rfl⟩
  have B2 := Lib.hid (by rw [hw2]; exact B1.out.alloc B1.out.size _ : Below w.heap.size w w2)
  have v0 : w2.cell? ⟨g, 0, none⟩ = some (.func (.func 18) A #[]) := by rw [hw2, ← hg]; rw [cell_of_row _ _ 0 _ _ _ (heap_alloc_new _ _)]; rfl
  have v1 : w2.cell? ⟨g, 1, none⟩ = some (i64 11) := by rw [hw2, ← hg]; rw [cell_of_row _ _ 1 _ _ _ (heap_alloc_new _ _)]; rfl
  have hgl : g < w2.heap.size := by rw [hw2, ← hg]; simp
  try rw [hg]
  rw [← hw2]
  clear hw2 hg B1
  by_cases g1 : hostOk c
  · have hc := Lib.hid (q1.out true ⟨fun _ => g1, fun _ => rfl⟩ w2)
    clear v1
    go_wp2_with (go_at_call 18; (with_reducible refine hc.out.mono ?_); rintro e w1 ⟨rfl, hb⟩; have B1 := Lib.hid (B2.out.trans (hb.mono B2.out.size)); clear hb)
    clear hc v0 hgl B2
    rw [rounds_succ]
    go_upto_region 5 with fail
    obtain ⟨w2, hw2⟩ : ∃ w2, w2 = (w1.alloc (.cells #[.func (.func 19) A #[], i64 10] 54)) := ⟨_, rfl⟩
    obtain ⟨g, hg⟩ : ∃ g, w1.heap.size = g := ⟨_, rfl⟩
    have B2 := Lib.hid (by rw [hw2]; exact B1.out.alloc B1.out.size _ : Below w.heap.size w w2)
    have v0 : w2.cell? ⟨g, 0, none⟩ = some (.func (.func 19) A #[]) := by rw [hw2, ← hg]; rw [cell_of_row _ _ 0 _ _ _ (heap_alloc_new _ _)]; rfl
    have v1 : w2.cell? ⟨g, 1, none⟩ = some (i64 10) := by rw [hw2, ← hg]; rw [cell_of_row _ _ 1 _ _ _ (heap_alloc_new _ _)]; rfl
    have hgl : g < w2.heap.size := by rw [hw2, ← hg]; simp
    try rw [hg]
    rw [← hw2]
    clear hw2 hg B1
    by_cases g2 : partsOk c.parts
    · have hc := Lib.hid (q2.out true ⟨fun _ => g2, fun _ => rfl⟩ w2 B2.out)
      clear v1
      go_wp2_with (go_at_call 19; (with_reducible refine hc.out.mono ?_); rintro e w1 ⟨rfl, hb⟩; have B1 := Lib.hid (B2.out.trans (hb.mono B2.out.size)); clear hb)
      clear hc v0 hgl B2
      rw [rounds_succ]
      go_upto_region 5 with fail
      obtain ⟨w2, hw2⟩ : ∃ w2, w2 = (w1.alloc (.cells #[.func (.func 20) A #[], i64 11] 54)) := ⟨_, rfl⟩
      obtain ⟨g, hg⟩ : ∃ g, w1.heap.size = g := ⟨_, rfl⟩
      have B2 := Lib.hid (by rw [hw2]; exact B1.out.alloc B1.out.size _ : Below w.heap.size w w2)
      have v0 : w2.cell? ⟨g, 0, none⟩ = some (.func (.func 20) A #[]) := by rw [hw2, ← hg]; rw [cell_of_row _ _ 0 _ _ _ (heap_alloc_new _ _)]; rfl
      have v1 : w2.cell? ⟨g, 1, none⟩ = some (i64 11) := by rw [hw2, ← hg]; rw [cell_of_row _ _ 1 _ _ _ (heap_alloc_new _ _)]; rfl
      have hgl : g < w2.heap.size := by rw [hw2, ← hg]; simp
      try rw [hg]
      rw [← hw2]
      clear hw2 hg B1
      by_cases g3 : memOk pg c.parts
      · have hc := Lib.hid (q3.out (h8 g2) g1 true ⟨fun _ => g3, fun _ => rfl⟩ w2 B2.out)
        clear v1
        go_wp2_with (go_at_call 20; (with_reducible refine hc.out.mono ?_); rintro e w1 ⟨rfl, hb⟩; have B1 := Lib.hid (B2.out.trans (hb.mono B2.out.size)); clear hb)
        clear hc v0 hgl B2
        rw [rounds_succ]
        go_upto_region 5 with fail
        obtain ⟨w2, hw2⟩ : ∃ w2, w2 = (w1.alloc (.cells #[.func (.func 21) A #[], i64 13] 54)) := ⟨_, rfl⟩
        obtain ⟨g, hg⟩ : ∃ g, w1.heap.size = g := ⟨_, rfl⟩
        have B2 := Lib.hid (by rw [hw2]; exact B1.out.alloc B1.out.size _ : Below w.heap.size w w2)
        have v0 : w2.cell? ⟨g, 0, none⟩ = some (.func (.func 21) A #[]) := by rw [hw2, ← hg]; rw [cell_of_row _ _ 0 _ _ _ (heap_alloc_new _ _)]; rfl
        have v1 : w2.cell? ⟨g, 1, none⟩ = some (i64 13) := by rw [hw2, ← hg]; rw [cell_of_row _ _ 1 _ _ _ (heap_alloc_new _ _)]; rfl
        have hgl : g < w2.heap.size := by rw [hw2, ← hg]; simp
        try rw [hg]
        rw [← hw2]
        clear hw2 hg B1
        by_cases g4 : chansOk m c.chans
        · have hc := Lib.hid (q4.out true ⟨fun _ => g4, fun _ => rfl⟩ w2 B2.out)
          clear v1
          go_wp2_with (go_at_call 21; (with_reducible refine hc.out.mono ?_); rintro e w1 ⟨rfl, hb⟩; have B1 := Lib.hid (B2.out.trans (hb.mono B2.out.size)); clear hb)
          clear hc v0 hgl B2
          rw [rounds_succ]
          go_upto_region 5 with fail
          obtain ⟨w2, hw2⟩ : ∃ w2, w2 = (w1.alloc (.cells #[.func (.func 22) A #[], i64 12] 54)) := ⟨_, rfl⟩
          obtain ⟨g, hg⟩ : ∃ g, w1.heap.size = g := ⟨_, rfl⟩
          have B2 := Lib.hid (by rw [hw2]; exact B1.out.alloc B1.out.size _ : Below w.heap.size w w2)
          have v0 : w2.cell? ⟨g, 0, none⟩ = some (.func (.func 22) A #[]) := by rw [hw2, ← hg]; rw [cell_of_row _ _ 0 _ _ _ (heap_alloc_new _ _)]; rfl
          have v1 : w2.cell? ⟨g, 1, none⟩ = some (i64 12) := by rw [hw2, ← hg]; rw [cell_of_row _ _ 1 _ _ _ (heap_alloc_new _ _)]; rfl
          have hgl : g < w2.heap.size := by rw [hw2, ← hg]; simp
          try rw [hg]
          rw [← hw2]
          clear hw2 hg B1
          by_cases g5 : planOk c
          · have hc := Lib.hid (q5.out true ⟨fun _ => g5, fun _ => rfl⟩ w2 B2.out)
            clear v1
            go_wp2_with (go_at_call 22; (with_reducible refine hc.out.mono ?_); rintro e w1 ⟨rfl, hb⟩; have B1 := Lib.hid (B2.out.trans (hb.mono B2.out.size)); clear hb)
            clear hc v0 hgl B2
            have ho := Lib.hid (fun w' hb => hr.out 0 w' (by simp [chkB, g1, g2, g3, g4, g5]) hb)
            clear q1 q2 q3 q4 q5 hr
            rw [rounds_succ]
            go_wp2
            exact ho.out _ B1.out
          · have hc := Lib.hid (q5.out false ⟨fun h => (by cases h), fun h => absurd h g5⟩ w2 B2.out)
            have ho := Lib.hid (fun w' hb => hr.out 12 w' (by simp [chkB, g1, g2, g3, g4, g5]) hb)
            clear q1 q2 q3 q4 q5 hr
            go_wp2_with (go_at_call 22; (with_reducible refine hc.out.mono ?_); rintro e w1 ⟨rfl, hb⟩; have B1 := Lib.hid (B2.out.trans (hb.mono B2.out.size)); have v1 := (World.cell?_of_block (hb.block g hgl)).trans v1; clear hb)
            exact ho.out _ B1.out
        · have hc := Lib.hid (q4.out false ⟨fun h => (by cases h), fun h => absurd h g4⟩ w2 B2.out)
          have ho := Lib.hid (fun w' hb => hr.out 13 w' (by simp [chkB, g1, g2, g3, g4]) hb)
          clear q1 q2 q3 q4 q5 hr
          go_wp2_with (go_at_call 21; (with_reducible refine hc.out.mono ?_); rintro e w1 ⟨rfl, hb⟩; have B1 := Lib.hid (B2.out.trans (hb.mono B2.out.size)); have v1 := (World.cell?_of_block (hb.block g hgl)).trans v1; clear hb)
          exact ho.out _ B1.out
      · have hc := Lib.hid (q3.out (h8 g2) g1 false ⟨fun h => (by cases h), fun h => absurd h g3⟩ w2 B2.out)
        have ho := Lib.hid (fun w' hb => hr.out 11 w' (by simp [chkB, g1, g2, g3]) hb)
        clear q1 q2 q3 q4 q5 hr
        go_wp2_with (go_at_call 20; (with_reducible refine hc.out.mono ?_); rintro e w1 ⟨rfl, hb⟩; have B1 := Lib.hid (B2.out.trans (hb.mono B2.out.size)); have v1 := (World.cell?_of_block (hb.block g hgl)).trans v1; clear hb)
        exact ho.out _ B1.out
    · have hc := Lib.hid (q2.out false ⟨fun h => (by cases h), fun h => absurd h g2⟩ w2 B2.out)
      have ho := Lib.hid (fun w' hb => hr.out 10 w' (by simp [chkB, g1, g2]) hb)
      clear q1 q2 q3 q4 q5 hr
      go_wp2_with (go_at_call 19; (with_reducible refine hc.out.mono ?_); rintro e w1 ⟨rfl, hb⟩; have B1 := Lib.hid (B2.out.trans (hb.mono B2.out.size)); have v1 := (World.cell?_of_block (hb.block g hgl)).trans v1; clear hb)
      exact ho.out _ B1.out
  · have hc := Lib.hid (q1.out false ⟨fun h => (by cases h), fun h => absurd h g1⟩ w2)
    have ho := Lib.hid (fun w' hb => hr.out 11 w' (by simp [chkB, g1]) hb)
    clear q1 q2 q3 q4 q5 hr
    go_wp2_with (go_at_call 18; (with_reducible refine hc.out.mono ?_); rintro e w1 ⟨rfl, hb⟩; have B1 := Lib.hid (B2.out.trans (hb.mono B2.out.size)); have v1 := (World.cell?_of_block (hb.block g hgl)).trans v1; clear hb)
    exact ho.out _ B1.out
end Go.Proofs.YtogbhgbnminpdaaDoor.Cfg
