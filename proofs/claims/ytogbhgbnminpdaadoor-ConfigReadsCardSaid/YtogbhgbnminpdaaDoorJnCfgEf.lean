/-
  Package config: channelsFit; planFits. | Package config: planFits.
-/
import Derived.Test.YtogbhgbnminpdaaDoorJnCfgD
import Derived.Test.YtogbhgbnminpdaaDoorJnCfgAbc
set_option linter.unusedVariables false
set_option maxRecDepth 100000
set_option linter.unusedVariables false
namespace Go.Proofs.YtogbhgbnminpdaaDoor.Cfg
open Go.Proofs.YtogbhgbnminpdaaDoor
open Go.ChangeShapes Go.WideShapes Go.ChangeAt Go.RowKit
theorem cclos_says (c : Cf) (p1 : Option Addr) (c1 : Nat) (p2 : Option Addr) (c2 : Nat) (p3 : Option Addr) (c3 : Nat) (hl : c.parts.length ≤ 9223372036854775807) (x : Ch) (b : Bool) (hb : b = true ↔ ¬ okC c.parts.length x) {g : Nat} (w : World)
    (z : ∀ (k : Nat) (v : Value), [i64 c.pages, i64 c.major, i64 c.switch, .slice p1 c.parts.length c1, .slice p2 c.chans.length c2, .slice p3 c.wins.length c3][k]? = some v → w.cell? ⟨g, k, none⟩ = some v) (hg : g < w.heap.size) :
    Calls Tryd.prog 39 (#[chV x] ++ #[.pointer (some ⟨g, 0, none⟩)]) w fun e w' => e = .returned (.bool b) ∧ Below w.heap.size w w' := by
  obtain ⟨p, hp⟩ : ∃ p : Ending → World → Prop, p = fun e w' => e = .returned (.bool b) ∧ Below w.heap.size w w' := ⟨_, rfl⟩
  rw [← hp]
  have hc := Lib.hid (fun (w : World) => channelFits_says (w := w) c p1 c1 p2 c2 p3 c3 hl x (!b) (by cases b <;> simp at hb ⊢ <;> exact hb))
  have h1 := Lib.hid (fun w' (h : Below w.heap.size w w') => (by rw [hp]; exact ⟨rfl, h⟩ : p (.returned (.bool b)) w'))
  clear hp hb
  obtain ⟨m, hm⟩ : ∃ m, c.parts.length = m := ⟨_, rfl⟩
  obtain ⟨pg, hpg⟩ : ∃ pg, c.pages = pg := ⟨_, rfl⟩
  obtain ⟨mj, hmj⟩ : ∃ mj, c.major = mj := ⟨_, rfl⟩
  obtain ⟨sw, hsw⟩ : ∃ sw, c.switch = sw := ⟨_, rfl⟩
  obtain ⟨n2, hn2⟩ : ∃ n2, c.chans.length = n2 := ⟨_, rfl⟩
  obtain ⟨n3, hn3⟩ : ∃ n3, c.wins.length = n3 := ⟨_, rfl⟩
  simp only [cfV] at hc
  rw [hm, hpg, hmj, hsw, hn2, hn3] at hc
  rw [hm, hpg, hmj, hsw, hn2, hn3] at z
  clear hm hpg hmj hsw hn2 hn3 hl
  obtain ⟨kd, fr, to, sz, dp⟩ := x
  simp only [chV] at hc ⊢
  obtain ⟨w1, hw1⟩ : ∃ w1, w1 = w.alloc (.cells #[i64 kd, i64 fr, i64 to, i64 sz, i64 dp] 49) := ⟨_, rfl⟩
  have b1 := Lib.hid (by rw [hw1]; exact (Below.refl _ _).alloc (Nat.le_refl _) _ : Below w.heap.size w w1)
  have X1 : ∀ (k : Nat) (v : Value), [i64 kd, i64 fr, i64 to, i64 sz, i64 dp][k]? = some v → w1.cell? ⟨w.heap.size, k, none⟩ = some v := fun k v hv => by
    rw [hw1, cell_of_row _ _ k _ _ _ (heap_alloc_new _ _), ← Array.getElem?_toList]; exact hv
  have x0 := X1 0 _ rfl
  have x1 := X1 1 _ rfl
  have x2 := X1 2 _ rfl
  have x3 := X1 3 _ rfl
  have x4 := X1 4 _ rfl
  have z' : ∀ (k : Nat) (v : Value), [i64 pg, i64 mj, i64 sw, .slice p1 m c1, .slice p2 n2 c2, .slice p3 n3 c3][k]? = some v → w1.cell? ⟨g, k, none⟩ = some v := fun k v hv => (World.cell?_of_block (b1.out.block g hg)).trans (z k v hv)
  have z0 := z' 0 _ rfl
  have z1 := z' 1 _ rfl
  have z2 := z' 2 _ rfl
  have z3 := z' 3 _ rfl
  have z4 := z' 4 _ rfl
  have z5 := z' 5 _ rfl
  clear X1 z z' hg
  obtain ⟨h, hhz⟩ : ∃ h, w.heap.size = h := ⟨_, rfl⟩
  rw [hhz] at x0 x1 x2 x3 x4 h1 b1
  go_enter Tryd.func39, Tryd.ntmps39
  go_upto_region 1 with fail
  rw [← hw1]
  have hs : h ≤ w1.heap.size := Nat.le_trans (Nat.le_of_eq hhz.symm) b1.out.size
  clear hw1
  go_wp2_with (go_at_call 40; (with_reducible refine (hc.out _).mono ?_); rintro e w' ⟨rfl, hb⟩)
  have hr := h1.out w' (b1.out.trans (hb.mono hs))
  first
  | (rw [Bool.not_not]; exact hr)
  | exact hr
set_option maxHeartbeats 4000000 in
theorem channelsFit_says {w : World} (c : Cf) (p1 : Option Addr) (c1 : Nat) {p2 : Option Addr} {c2 : Nat} (p3 : Option Addr) (c3 : Nat) (L : LieS 5 w w.heap.size p2 c.chans.length c2 (c.chans.map chC)) (wf : Wf c) (b : Bool) (hb : b = true ↔ chansOk c.parts.length c.chans) :
    Calls Tryd.prog 21 #[cfV c p1 c1 p2 c2 p3 c3] w fun e w' => e = .returned (.bool b) ∧ Below w.heap.size w w' := by
  obtain ⟨p, hp⟩ : ∃ p : Ending → World → Prop, p = fun e w' => e = .returned (.bool b) ∧ Below w.heap.size w w' := ⟨_, rfl⟩
  rw [← hp]
  have h1 := Lib.hid (fun (h : chansOk c.parts.length c.chans) w' (hw : Below w.heap.size w w') => (by rw [hp, hb.2 h]; exact ⟨rfl, hw⟩ : p (.returned (.bool true)) w'))
  have h0 := Lib.hid (fun (h : ¬ chansOk c.parts.length c.chans) w' (hw : Below w.heap.size w w') => (by rw [hp, (by cases b with | true => exact absurd (hb.1 rfl) h | false => rfl : b = false)]; exact ⟨rfl, hw⟩ : p (.returned (.bool false)) w'))
  clear hp hb
  have hl := wf.len.1
  have hl2 := wf.len.2.1
  obtain ⟨h, hhz⟩ : ∃ h, w.heap.size = h := ⟨_, rfl⟩
  obtain ⟨w1, hw1⟩ : ∃ w1, w1 = w.alloc (.cells #[i64 c.pages, i64 c.major, i64 c.switch, .slice p1 c.parts.length c1, .slice p2 c.chans.length c2, .slice p3 c.wins.length c3] 52) := ⟨_, rfl⟩
  have b1 := Lib.hid (by rw [hw1]; exact (Below.refl _ _).alloc (Nat.le_of_eq hhz.symm) _ : Below h w w1)
  have hg1 : w1.heap.size = h + 1 := by rw [hw1, ← hhz]; simp
  have Z : ∀ (k : Nat) (v : Value), [i64 c.pages, i64 c.major, i64 c.switch, .slice p1 c.parts.length c1, .slice p2 c.chans.length c2, .slice p3 c.wins.length c3][k]? = some v → w1.cell? ⟨h, k, none⟩ = some v := fun k v hv => by
    rw [hw1, ← hhz, cell_of_row _ _ k _ _ _ (heap_alloc_new _ _), ← Array.getElem?_toList]; exact hv
  have z4 := Z 4 _ rfl
  rw [hhz] at L h1 h0
  have L1 : LieS 5 w1 w1.heap.size p2 c.chans.length c2 (c.chans.map chC) := (L.kept b1.out (Nat.le_refl _)).wide (by omega)
  have eg : ∀ args w, (callFunc 39 args).run Tryd.prog w = .ok (.enter 39 args) w := fun _ _ => by kernel_rfl
  have hcon := Lib.hid (fun (ba : Bool) hba => ccon_says L1 hl2 39 #[.pointer (some ⟨h, 0, none⟩)] (fun x => ¬ okC c.parts.length x) (fun q => Classical.propDecidable _) eg
    (fun i q _ u hu bq hbq => cclos_says c p1 c1 p2 c2 p3 c3 hl q bq hbq u (fun k v hv => (World.cell?_of_block (hu.block h (by omega))).trans (Z k v hv)) (by have := hu.size; omega)) ba hba)
  obtain ⟨m, hm⟩ : ∃ m, c.parts.length = m := ⟨_, rfl⟩
  obtain ⟨pg, hpg⟩ : ∃ pg, c.pages = pg := ⟨_, rfl⟩
  obtain ⟨mj, hmj⟩ : ∃ mj, c.major = mj := ⟨_, rfl⟩
  obtain ⟨sw, hsw⟩ : ∃ sw, c.switch = sw := ⟨_, rfl⟩
  obtain ⟨l, hll⟩ : ∃ l, c.chans = l := ⟨_, rfl⟩
  obtain ⟨n2, hn2⟩ : ∃ n2, l.length = n2 := ⟨_, rfl⟩
  obtain ⟨n3, hn3⟩ : ∃ n3, c.wins.length = n3 := ⟨_, rfl⟩
  simp only [cfV]
  rw [hm, hll] at h1 h0
  rw [hm, hll, hn2] at hcon
  rw [hll, hn2] at z4
  rw [hm, hpg, hmj, hsw, hll, hn2, hn3] at hw1 ⊢
  clear hpg hmj hsw hn3 Z L L1 eg wf
  go_enter Tryd.func21, Tryd.ntmps21
  go_upto_region 1 with fail
  rw [← hw1]
  clear hw1
  by_cases hn : (n2 : Int) ≤ 16
  · by_cases hA : ∃ (i : Nat) (x : Ch), l[i]? = some x ∧ ¬ okC m x
    · have hc := Lib.hid (hcon.out true ⟨fun _ => hA, fun _ => rfl⟩)
      have hr := Lib.hid (h0.out (fun hk => by obtain ⟨i, x, h2, h3⟩ := hA; exact h3 (hk.2 i x h2)))
      clear hcon h0 h1 hA
      go_wp2_with (go_at_call 38; (with_reducible refine hc.out.mono ?_); rintro e w' ⟨rfl, hbl⟩)
      exact hr.out _ (b1.out.trans (hbl.mono (by omega)))
    · have hc := Lib.hid (hcon.out false ⟨fun h => (by cases h), fun h => absurd h hA⟩)
      have hr := Lib.hid (h1.out ⟨by omega, fun k x hx => Classical.byContradiction fun h => hA ⟨k, x, hx, h⟩⟩)
      clear hcon h0 h1 hA
      go_wp2_with (go_at_call 38; (with_reducible refine hc.out.mono ?_); rintro e w' ⟨rfl, hbl⟩)
      exact hr.out _ (b1.out.trans (hbl.mono (by omega)))
  · have hr := Lib.hid (h0.out (fun hk => hn (by have := hk.1; omega)) w1 b1.out)
    clear hcon h0 h1
    go_wp2
    exact hr.out
end Go.Proofs.YtogbhgbnminpdaaDoor.Cfg
set_option maxRecDepth 100000
set_option linter.unusedVariables false
namespace Go.Proofs.YtogbhgbnminpdaaDoor.Cfg
open Go.Proofs.YtogbhgbnminpdaaDoor
open Go.ChangeShapes Go.WideShapes Go.ChangeAt Go.RowKit
/-- A configuration in a block, and what a window's box holds. -/
theorem endTo_succ (l : List Wn) (k : Nat) (x : Wn) (h : l[k]? = some x) : endTo l (k + 1) = x.start + x.len := by
  show (match l[k]? with | some x => x.start + x.len | none => 0) = _
  rw [h]
/-- Where windows end, as far as they can be. -/
theorem endTo_le {major switch n : Int} (l : List Wn) (k : Nat) (hs : 0 ≤ switch) (hmj : major ≤ 100000) (h : ∀ (j : Nat) (x : Wn), j < k → l[j]? = some x → okW major switch n (endTo l j) x) (hk : k ≤ l.length) (hm : 0 ≤ major) : 0 ≤ endTo l k ∧ endTo l k ≤ 100000 := by
  induction k with
  | zero => exact ⟨Int.le_refl _, by show (0 : Int) ≤ 100000; omega⟩
  | succ k ih =>
    have h1 := ih (fun j x hj => h j x (by omega)) (by omega)
    have h2 := List.getElem?_eq_getElem (show k < l.length by omega)
    obtain ⟨h3, h4, h5, -⟩ := h k _ (by omega) h2
    rw [endTo_succ l k _ h2]
    omega
set_option maxHeartbeats 8000000 in
theorem planFits_says {w : World} (c : Cf) (p1 : Option Addr) (c1 : Nat) (p2 : Option Addr) (c2 : Nat) {p3 : Option Addr} {c3 : Nat} (L : LieS 3 w w.heap.size p3 c.wins.length c3 (c.wins.map wnC)) (wf : Wf c) (b : Bool) (hb : b = true ↔ planOk c) :
    Calls Tryd.prog 22 #[cfV c p1 c1 p2 c2 p3 c3] w fun e w' => e = .returned (.bool b) ∧ Below w.heap.size w w' := by
  obtain ⟨p, hp⟩ : ∃ p : Ending → World → Prop, p = fun e w' => e = .returned (.bool b) ∧ Below w.heap.size w w' := ⟨_, rfl⟩
  rw [← hp]
  have h1 := Lib.hid (fun (h : planOk c) w' (hw : Below w.heap.size w w') => (by rw [hp, hb.2 h]; exact ⟨rfl, hw⟩ : p (.returned (.bool true)) w'))
  have h0 := Lib.hid (fun (h : ¬ planOk c) w' (hw : Below w.heap.size w w') => (by rw [hp, (by cases b with | true => exact absurd (hb.1 rfl) h | false => rfl : b = false)]; exact ⟨rfl, hw⟩ : p (.returned (.bool false)) w'))
  clear hp hb
  have hP := Lib.hid (fun (n : Int) (b : Bool) (hb : b = true ↔ 0 ≤ n ∧ n < c.parts.length) (w : World) => isPart_says c p1 c1 p2 c2 p3 c3 n b hb wf.len.1 w)
  have hsz := wf.nums.2
  have hlen := wf.len.2.2
  unfold planOk at h1 h0
  simp only [cfV] at hP ⊢
  obtain ⟨l, hl⟩ : ∃ l, c.wins = l := ⟨_, rfl⟩
  obtain ⟨pg, hpg⟩ : ∃ pg, c.pages = pg := ⟨_, rfl⟩
  obtain ⟨m, hm⟩ : ∃ m, l.length = m := ⟨_, rfl⟩
  obtain ⟨mj, hmj⟩ : ∃ mj, c.major = mj := ⟨_, rfl⟩
  obtain ⟨sw, hsw⟩ : ∃ sw, c.switch = sw := ⟨_, rfl⟩
  obtain ⟨n1, hn1⟩ : ∃ n1, c.parts.length = n1 := ⟨_, rfl⟩
  obtain ⟨n2, hn2⟩ : ∃ n2, c.chans.length = n2 := ⟨_, rfl⟩
  rw [hl] at L h1 h0 hsz hlen
  rw [hm] at L hlen
  rw [hmj, hsw, hn1] at h1 h0
  rw [hl, hm, hpg, hmj, hsw, hn1, hn2] at hP
  rw [hl, hm, hpg, hmj, hsw, hn1, hn2]
  clear hl hpg hmj hsw hn1 hn2 wf
  obtain ⟨h, hhz⟩ : ∃ h, w.heap.size = h := ⟨_, rfl⟩
  rw [hhz] at L h1 h0
  obtain ⟨w1, hw1⟩ : ∃ w1, w1 = w.alloc (.cells #[i64 pg, i64 mj, i64 sw, .slice p1 n1 c1, .slice p2 n2 c2, .slice p3 m c3] 52) := ⟨_, rfl⟩
  have b1 := Lib.hid (by rw [hw1]; exact (Below.refl _ _).alloc (Nat.le_of_eq hhz.symm) _ : Below h w w1)
  have hg1 : w1.heap.size = h + 1 := by rw [hw1, ← hhz]; simp
  have Z : ∀ (k : Nat) (v : Value), [i64 pg, i64 mj, i64 sw, .slice p1 n1 c1, .slice p2 n2 c2, .slice p3 m c3][k]? = some v → w1.cell? ⟨h, k, none⟩ = some v := fun k v hv => by
    rw [hw1, ← hhz, cell_of_row _ _ k _ _ _ (heap_alloc_new _ _), ← Array.getElem?_toList]; exact hv
  have z0 := Z 0 _ rfl
  have z1 := Z 1 _ rfl
  have z2 := Z 2 _ rfl
  have z3 := Z 3 _ rfl
  have z4 := Z 4 _ rfl
  have z5 := Z 5 _ rfl
  have hZ := Lib.hid Z
  have L1 := L.kept b1.out (Nat.le_refl _)
  have hlm : l.length = m := hm
  clear L Z
  go_enter Tryd.func22, Tryd.ntmps22
  go_upto_region 1 with fail
  try simp only [hhz]
  rw [← hw1]
  clear hw1
  by_cases g1 : 1 ≤ mj ∧ mj ≤ 100000
  · have hw := within_yes g1 w1
    by_cases g2 : 0 ≤ sw ∧ sw ≤ 1000
    · have hv := within_yes g2 w1
      by_cases g3 : 1 ≤ (m : Int) ∧ (m : Int) ≤ 32
      · have hu := within_yes g3 w1
        have hm8 : m ≤ 32 := by omega
        go_upto_region 4 with (first | (go_at_call 34; (with_reducible refine hw.mono ?_); rintro e w' ⟨rfl, rfl⟩) | (go_at_call 34; (with_reducible refine hv.mono ?_); rintro e w' ⟨rfl, rfl⟩) | (go_at_call 34; (with_reducible refine hu.mono ?_); rintro e w' ⟨rfl, rfl⟩))
        clear hw hv hu
        go_wp2
        clear z0 z1 z2 z3 z4 z5
        go_loopw [3, 5, 26] (fun s _ i wr => Below (h + 1) w1 wr ∧ ∃ j : Nat, j ≤ m ∧ i = .int .i64 j ∧ s = .int .i64 (endTo l j) ∧ ∀ (k : Nat) (x : Wn), k < j → l[k]? = some x → okW mj sw n1 (endTo l k) x) (fun _ _ i _ => m - (intOf i).toNat)
        case atStart => exact ⟨Below.refl _ _, 0, Nat.zero_le _, rfl, rfl, fun k p hk => absurd hk (Nat.not_lt_zero _)⟩
        case round =>
          obtain ⟨b2, j, hj, rfl, rfl, hk⟩ := hrel
          by_cases hjl : j < m
          · have hjI : (j : Int) < (m : Int) := by omega
            have hjb : j < 32 := by omega
            obtain ⟨x, hx⟩ : ∃ x, l[j]? = some x := ⟨_, List.getElem?_eq_getElem (by omega)⟩
            obtain ⟨b, off, rfl, hbl, y0, y1, y2⟩ := (L1.kept b2 (Nat.le_succ _)).cell3 j x hx rfl
            have hend := endTo_le l j g2.1 g1.2 hk (by omega) (by omega)
            have hnext := Lib.hid (fun hy : okW mj sw n1 (endTo l j) x => (⟨endTo_succ l j x hx, fun k q hkj hq => by
              by_cases e : k = j
              · subst e; rw [hx] at hq; cases hq; exact hy
              · exact hk k q (by omega) hq⟩ : endTo l (j + 1) = x.start + x.len ∧ ∀ (k : Nat) (q : Wn), k < j + 1 → l[k]? = some q → okW mj sw n1 (endTo l k) q))
            have hno := Lib.hid (fun (hy : ¬ okW mj sw n1 (endTo l j) x) w' (hw : Below (h + 1) w1 w') => h0.out (fun hm => hy (hm.2.2.2 j x hx)) w' (b1.out.trans (hw.mono (Nat.le_succ _))))
            obtain ⟨⟨hs1, hs2⟩, hs3, hs4⟩ := hsz j x hx
            obtain ⟨en, hen⟩ : ∃ en, endTo l j = en := ⟨_, rfl⟩
            obtain ⟨st, ln, pt⟩ := x
            simp only at hnext hno y0 y1 y2 hs1 hs2 hs3 hs4
            rw [hen] at hend hnext hno ⊢
            obtain ⟨he1, he2⟩ := hend
            clear hx L1 hk h1 h0 hen hsz
            go_upto_region 7 with fail
            obtain ⟨w2, hw2⟩ : ∃ w2, w2 = wr.alloc (.cells #[i64 st, i64 ln, i64 pt] 51) := ⟨_, rfl⟩
            have b3 := Lib.hid (by rw [hw2]; exact b2.alloc (by have := b2.size; omega) _ : Below (h + 1) w1 w2)
            obtain ⟨g, hg⟩ : ∃ g, wr.heap.size = g := ⟨_, rfl⟩
            have v0 : w2.cell? ⟨g, 0, none⟩ = some (i64 st) := by rw [hw2, ← hg]; rw [cell_of_row _ _ 0 _ _ _ (heap_alloc_new _ _)]; rfl
            have v1 : w2.cell? ⟨g, 1, none⟩ = some (i64 ln) := by rw [hw2, ← hg]; rw [cell_of_row _ _ 1 _ _ _ (heap_alloc_new _ _)]; rfl
            have v2 : w2.cell? ⟨g, 2, none⟩ = some (i64 pt) := by rw [hw2, ← hg]; rw [cell_of_row _ _ 2 _ _ _ (heap_alloc_new _ _)]; rfl
            have hg2 : w2.heap.size = g + 1 := by rw [hw2, ← hg]; simp
            have hZ2 := fun k v hv => (World.cell?_of_block (b3.out.block h (Nat.lt_succ_self _))).trans (hZ.out k v hv)
            have z0 := hZ2 0 _ rfl
            have z1 := hZ2 1 _ rfl
            have z2 := hZ2 2 _ rfl
            have z3 := hZ2 3 _ rfl
            have z4 := hZ2 4 _ rfl
            have z5 := hZ2 5 _ rfl
            have hgs := b2.size
            rw [hg, ← hw2]
            clear hw2 y0 y1 y2 hZ2
            by_cases k1 : st < en
            · have hn := Lib.hid (hno.out (fun hy => absurd hy.1 (by show ¬ en ≤ st; omega)) w2 b3.out)
              clear hno hnext b3 b1 hZ hP
              go_wp2
              exact hn.out
            by_cases k2 : ln ≤ sw
            · have hn := Lib.hid (hno.out (fun hy => absurd hy.2.1 (by show ¬ sw < ln; omega)) w2 b3.out)
              clear hno hnext b3 b1 hZ hP
              go_wp2
              exact hn.out
            have e1 : IntKind.i64.wrap (mj - st) = mj - st := by rw [IntKind.wrap_i64]; omega
            by_cases k3 : ln > mj - st
            · have hn := Lib.hid (hno.out (fun hy => absurd hy.2.2.1 (by show ¬ ln ≤ mj - st; omega)) w2 b3.out)
              clear hno hnext b3 b1 hZ hP
              go_wp2
              exact hn.out
            by_cases k4 : 0 ≤ pt ∧ pt < (n1 : Int)
            · have hp := Lib.hid (hP.out pt true ⟨fun _ => k4, fun _ => rfl⟩)
              have hn := Lib.hid (hnext.out ⟨by show en ≤ st; omega, by show sw < ln; omega, by show ln ≤ mj - st; omega, k4⟩)
              have e2 : IntKind.i64.wrap (st + ln) = st + ln := by rw [IntKind.wrap_i64]; omega
              clear hno hnext b1 hZ hP k4
              go_wp2_with (go_at_call 41; (with_reducible refine (hp.out _).mono ?_); rintro e w3 ⟨rfl, hb⟩; have b4 := Lib.hid (b3.out.trans (hb.mono (by omega))); have v0 := (World.cell?_of_block (hb.block g (by omega))).trans v0; have v1 := (World.cell?_of_block (hb.block g (by omega))).trans v1; clear hb)
              go_roundw
              case rel => exact ⟨b4.out, j + 1, hjl, by go_num, by rw [hn.out.1], hn.out.2⟩
              case measure => simp [intOf]; omega
            · have hp := Lib.hid (hP.out pt false ⟨fun h => (by cases h), fun h => absurd h k4⟩)
              have hn := Lib.hid (hno.out (fun hy => k4 hy.2.2.2))
              clear hno hnext b1 hZ hP k4
              go_wp2_with (go_at_call 41; (with_reducible refine (hp.out _).mono ?_); rintro e w3 ⟨rfl, hb⟩)
              exact hn.out _ (b3.out.trans (hb.mono (by omega)))
          · have hjm : j = m := by omega
            subst hjm
            have bb := b1.out.trans (b2.mono (Nat.le_succ _))
            have hall : ∀ (k : Nat) (p : Wn), l[k]? = some p → okW mj sw n1 (endTo l k) p := fun k q hq => hk k q (by have := (List.getElem?_eq_some_iff.1 hq).1; omega) hq
            have hr := Lib.hid (h1.out ⟨g1, g2, ⟨by omega, by omega⟩, hall⟩ wr bb)
            clear h1 h0 hall bb L1 hk hsz b2 hP hZ
            go_wp2
            exact hr.out
      · have hu := within_no g3 w1
        have hr := Lib.hid (h0.out (fun hm => g3 (by have := hm.2.2.1; omega)) w1 b1.out)
        clear h0 h1 hP hZ
        go_wp2_with (first | (go_at_call 34; (with_reducible refine hw.mono ?_); rintro e w' ⟨rfl, rfl⟩) | (go_at_call 34; (with_reducible refine hv.mono ?_); rintro e w' ⟨rfl, rfl⟩) | (go_at_call 34; (with_reducible refine hu.mono ?_); rintro e w' ⟨rfl, rfl⟩))
        exact hr.out
    · have hv := within_no g2 w1
      have hr := Lib.hid (h0.out (fun hm => g2 hm.2.1) w1 b1.out)
      clear h0 h1 hP hZ
      go_wp2_with (first | (go_at_call 34; (with_reducible refine hw.mono ?_); rintro e w' ⟨rfl, rfl⟩) | (go_at_call 34; (with_reducible refine hv.mono ?_); rintro e w' ⟨rfl, rfl⟩))
      exact hr.out
  · have hw := within_no g1 w1
    have hr := Lib.hid (h0.out (fun hm => g1 hm.1) w1 b1.out)
    clear h0 h1 hP hZ
    go_wp2_with (go_at_call 34; (with_reducible refine hw.mono ?_); rintro e w' ⟨rfl, rfl⟩)
    exact hr.out
end Go.Proofs.YtogbhgbnminpdaaDoor.Cfg
