
/-
  Package config: partsFit.
-/
import Derived.Test.YtlddclkophajbaaCfgB
set_option maxRecDepth 100000
set_option linter.unusedVariables false
namespace Go.Proofs.Ytlddclkophajbaa.Cfg
open Go.Proofs.Ytlddclkophajbaa
open Go.ChangeShapes Go.WideShapes Go.ChangeAt Go.RowKit
set_option maxHeartbeats 4000000 in
theorem partsFit_says {w : World} (c : Cf) {p1 : Option Addr} {c1 : Nat} (p2 : Option Addr) (c2 : Nat) (p3 : Option Addr) (c3 : Nat) (L : LieS 3 w w.heap.size p1 c.parts.length c1 (c.parts.map ptC)) (wf : Wf c) (hc1 : c1 ≤ 9223372036854775807) (b : Bool) (hb : b = true ↔ partsOk c.parts) :
    Calls Try.prog 20 #[cfV c p1 c1 p2 c2 p3 c3] w fun e w' => e = .returned (.bool b) ∧ Below w.heap.size w w' := by
  obtain ⟨p, hp⟩ : ∃ p : Ending → World → Prop, p = fun e w' => e = .returned (.bool b) ∧ Below w.heap.size w w' := ⟨_, rfl⟩
  rw [← hp]
  have h1 := Lib.hid (fun (h : partsOk c.parts) w' (hw : Below w.heap.size w w') => (by rw [hp, hb.2 h]; exact ⟨rfl, hw⟩ : p (.returned (.bool true)) w'))
  have h0 := Lib.hid (fun (h : ¬ partsOk c.parts) w' (hw : Below w.heap.size w w') => (by rw [hp, (by cases b with | true => exact absurd (hb.1 rfl) h | false => rfl : b = false)]; exact ⟨rfl, hw⟩ : p (.returned (.bool false)) w'))
  clear hp hb
  have hsz := wf.nums.1
  have hlen := wf.len.1
  obtain ⟨l, hl⟩ : ∃ l, c.parts = l := ⟨_, rfl⟩
  obtain ⟨pg, hpg⟩ : ∃ pg, c.pages = pg := ⟨_, rfl⟩
  obtain ⟨m, hm⟩ : ∃ m, l.length = m := ⟨_, rfl⟩
  simp only [cfV]
  rw [hl] at L h1 h0 hsz hlen
  rw [hl, hpg, hm]
  rw [hm] at L hlen
  obtain ⟨h, hhz⟩ : ∃ h, w.heap.size = h := ⟨_, rfl⟩
  rw [hhz] at L h1 h0
  obtain ⟨mj, hmj⟩ : ∃ mj, c.major = mj := ⟨_, rfl⟩
  obtain ⟨sw, hsw⟩ : ∃ sw, c.switch = sw := ⟨_, rfl⟩
  obtain ⟨n2, hn2⟩ : ∃ n2, c.chans.length = n2 := ⟨_, rfl⟩
  obtain ⟨n3, hn3⟩ : ∃ n3, c.wins.length = n3 := ⟨_, rfl⟩
  rw [hmj, hsw, hn2, hn3]
  clear hmj hsw hn2 hn3 hl hpg wf
  obtain ⟨w1, hw1⟩ : ∃ w1, w1 = w.alloc (.cells #[i64 pg, i64 mj, i64 sw, .slice p1 m c1, .slice p2 n2 c2, .slice p3 n3 c3] 49) := ⟨_, rfl⟩
  have b1 := Lib.hid (by rw [hw1]; exact (Below.refl _ _).alloc (Nat.le_of_eq hhz.symm) _ : Below h w w1)
  have hg1 : w1.heap.size = h + 1 := by rw [hw1, ← hhz]; simp
  have z3 : w1.cell? ⟨h, 3, none⟩ = some (.slice p1 m c1) := by rw [hw1, ← hhz]; rw [cell_of_row _ _ 3 _ _ _ (heap_alloc_new _ _)]; rfl
  have L1 := L.kept b1.out (Nat.le_refl _)
  have hlm : l.length = m := hm
  clear L
  go_enter Try.func20, Try.ntmps20
  go_upto_region 1 with fail
  try simp only [hhz]
  rw [← hw1]
  clear hw1
  by_cases hn : 1 ≤ (m : Int) ∧ (m : Int) ≤ 8
  · have hw := within_yes hn w1
    have hm8 : m ≤ 8 := by omega
    go_wp2_with (go_at_call 24; (with_reducible refine hw.mono ?_); rintro e w' ⟨rfl, rfl⟩)
    clear hw
    go_loopw [3, 4, 5, 14] (fun _ _ _ i wr => Below (h + 1) w1 wr ∧ ∃ j : Nat, j ≤ m ∧ i = .int .i64 j ∧ ∀ (k : Nat) (p : Pt), k < j → l[k]? = some p → okP l k p) (fun _ _ _ i _ => m - (intOf i).toNat)
    case atStart => exact ⟨Below.refl _ _, 0, Nat.zero_le _, rfl, fun k p hk => absurd hk (Nat.not_lt_zero _)⟩
    case round =>
      obtain ⟨b2, j, hj, rfl, hk⟩ := hrel
      by_cases hjl : j < m
      · have hjI : (j : Int) < (m : Int) := by omega
        have hj8 : j < 8 := by omega
        obtain ⟨x, hx⟩ : ∃ x, l[j]? = some x := ⟨_, List.getElem?_eq_getElem (by omega)⟩
        have Lr := L1.kept b2 (Nat.le_succ _)
        obtain ⟨b, off, rfl, hbl, y0, y1, y2⟩ := Lr.cell3 j x hx rfl
        have hnext := Lib.hid (fun hy : okP l j x => (fun k q hkj hq => by
          by_cases e : k = j
          · subst e; rw [hx] at hq; cases hq; exact hy
          · exact hk k q (by omega) hq : ∀ (k : Nat) (q : Pt), k < j + 1 → l[k]? = some q → okP l k q))
        have hno := Lib.hid (fun (hy : ¬ okP l j x) w' (hw : Below (h + 1) w1 w') => h0.out (fun hm => hy (hm.2 j x hx)) w' (b1.out.trans (hw.mono (Nat.le_succ _))))
        have hxs := (hsz j x hx).1
        have z3r := (World.cell?_of_block (b2.block h (by omega))).trans z3
        clear h1 h0 hk hx z3 L1
        go_upto_region 6 with fail
        obtain ⟨w2, hw2⟩ : ∃ w2, w2 = wr.alloc (.cells #[.string x.name, .int .i64 x.pages, .int .i64 x.act] 38) := ⟨_, rfl⟩
        have b3 := Lib.hid (by rw [hw2]; exact b2.alloc (by have := b2.size; omega) _ : Below (h + 1) w1 w2)
        obtain ⟨g, hg⟩ : ∃ g, wr.heap.size = g := ⟨_, rfl⟩
        have hgh : h < g := by have := b2.size; omega
        have v0 : w2.cell? ⟨g, 0, none⟩ = some (.string x.name) := by rw [hw2, ← hg]; rw [cell_of_row _ _ 0 _ _ _ (heap_alloc_new _ _)]; rfl
        have v2 : w2.cell? ⟨g, 2, none⟩ = some (i64 x.act) := by rw [hw2, ← hg]; rw [cell_of_row _ _ 2 _ _ _ (heap_alloc_new _ _)]; rfl
        have hg2 : w2.heap.size = g + 1 := by rw [hw2, ← hg]; simp
        have z3s : w2.cell? ⟨h, 3, none⟩ = some (.slice (some ⟨b, off, none⟩) m c1) := by rw [hw2]; exact (World.cell?_of_block (Below.heap_alloc _ _ _ (by show h < _; omega))).trans z3r
        have L2 : LieS 3 w2 h (some ⟨b, off, none⟩) m c1 (l.map ptC) := by rw [hw2]; exact Lr.kept (B' := wr.heap.size) (below_alloc _ _) (by omega)
        rw [hg, ← hw2]
        have hmc := L2.cap
        clear hw2 hg y0 y1 y2 b2 Lr z3r
        -- the search among those ahead
        have Lt : LieS 3 w2 w2.heap.size (some ⟨b, off, none⟩) j c1 ((l.take j).map ptC) := by
          have := (L2.take (m := j) (c' := c1) (by omega) (by omega) (fun e => by cases e)).wide (B' := w2.heap.size) (by omega)
          rw [List.map_take]; exact this
        have eg : ∀ args w, (callFunc 26 args).run Try.prog w = .ok (.enter 26 args) w := fun _ _ => by kernel_rfl
        have hcon := fun (ba : Bool) hba => pcon_says Lt (by omega) 26 #[.pointer (some ⟨g, 0, none⟩)] (fun q => q.name = x.name) (fun q => by infer_instance) eg
          (fun i q _ u hu bq hbq => pclos_says q x.name bq hbq u ((World.cell?_of_block (hu.block g (by omega))).trans v0) (by have := hu.size; omega)) ba hba
        have hahead : (∃ (i : Nat) (q : Pt), (l.take j)[i]? = some q ∧ q.name = x.name) ↔ ∃ (i : Nat) (q : Pt), i < j ∧ l[i]? = some q ∧ q.name = x.name := by
          constructor
          · rintro ⟨i, q, h2, h3⟩
            have hi : i < j := by have := (List.getElem?_eq_some_iff.1 h2).1; rw [List.length_take] at this; omega
            rw [List.getElem?_take_of_lt hi] at h2
            exact ⟨i, q, hi, h2, h3⟩
          · rintro ⟨i, q, hi, h2, h3⟩
            exact ⟨i, q, by rw [List.getElem?_take_of_lt hi]; exact h2, h3⟩
        clear Lt L2 eg hsz
        obtain ⟨nm, hnm⟩ : ∃ nm, x.name = nm := ⟨_, rfl⟩
        obtain ⟨ac, hac⟩ : ∃ ac, x.act = ac := ⟨_, rfl⟩
        by_cases hA : ∃ (i : Nat) (q : Pt), i < j ∧ l[i]? = some q ∧ q.name = x.name
        · have hcn := Lib.hid (hcon true ⟨fun _ => hahead.2 hA, fun _ => rfl⟩)
          have hn0 := Lib.hid (hno.out (fun hy => by obtain ⟨i, q, h2, h3, h4⟩ := hA; exact hy.2.2 i q h2 h3 h4))
          clear hcon hahead hA hno hnext v0 v2 hnm hac
          go_wp2_with (go_at_call 25; (with_reducible refine hcn.out.mono ?_); rintro e w' ⟨rfl, hbl⟩)
          exact hn0.out _ (b3.out.trans (hbl.mono (by omega)))
        · have hcn := Lib.hid (hcon false ⟨fun h => (by cases h), fun h => absurd (hahead.1 h) hA⟩)
          have hA' : ∀ (i : Nat) (q : Pt), i < j → l[i]? = some q → q.name ≠ x.name := fun i q h2 h3 h4 => hA ⟨i, q, h2, h3, h4⟩
          clear hcon hahead hA
          go_upto_region 7 with (go_at_call 25; (with_reducible refine hcn.out.mono ?_); rintro e w3 ⟨rfl, hbl⟩)
          have b4 := Lib.hid (b3.out.trans (hbl.mono (by omega)))
          have v0' := (World.cell?_of_block (hbl.block g (by omega))).trans v0
          have v2' := (World.cell?_of_block (hbl.block g (by omega))).trans v2
          clear v0 v2 b3 hcn hbl
          rw [hnm] at v0' hxs
          rw [hac] at v2'
          by_cases hN : okN nm
          · have hni := Lib.hid (isName_says nm true (by simp [hN]) w3 hxs)
            by_cases hA2 : 0 ≤ ac ∧ ac ≤ 1
            · have hw := within_yes hA2 w3
              have hn0 := Lib.hid (hnext.out ⟨by rw [hnm]; exact hN, by rw [hac]; exact hA2, hA'⟩)
              clear hno hnext hA' hN hA2 hnm hac hxs
              go_wp2_with (first | (go_at_call 24; (with_reducible refine hw.mono ?_); rintro e w' ⟨rfl, rfl⟩) | (go_at_call 27; (with_reducible refine hni.out.mono ?_); rintro e w' ⟨rfl, rfl⟩))
              go_roundw
              case rel => exact ⟨b4.out, j + 1, hjl, by go_num, hn0.out⟩
              case measure => simp [intOf]; omega
            · have hw := within_no hA2 w3
              have hn0 := Lib.hid (hno.out (fun hy => hA2 (by have := hy.2.1; rw [hac] at this; exact this)) w3 b4.out)
              clear hno hnext hA' hN hA2 hnm hac hxs
              go_wp2_with (first | (go_at_call 24; (with_reducible refine hw.mono ?_); rintro e w' ⟨rfl, rfl⟩) | (go_at_call 27; (with_reducible refine hni.out.mono ?_); rintro e w' ⟨rfl, rfl⟩))
              exact hn0.out
          · have hni := Lib.hid (isName_says nm false (by simp [hN]) w3 hxs)
            have hn0 := Lib.hid (hno.out (fun hy => hN (by have := hy.1; rw [hnm] at this; exact this)) w3 b4.out)
            clear hno hnext hA' hN hnm hac hxs
            go_wp2_with (go_at_call 27; (with_reducible refine hni.out.mono ?_); rintro e w' ⟨rfl, rfl⟩)
            exact hn0.out
      · have hjm : j = m := by omega
        subst hjm
        have bb := b1.out.trans (b2.mono (Nat.le_succ _))
        have hall : ∀ (k : Nat) (p : Pt), l[k]? = some p → okP l k p := fun k q hq => hk k q (by have := (List.getElem?_eq_some_iff.1 hq).1; omega) hq
        have hr := Lib.hid (h1.out ⟨⟨by omega, by omega⟩, hall⟩ wr bb)
        clear h1 h0 hall bb L1 z3 hk hsz b2
        go_wp2
        exact hr.out
  · have hw := within_no hn w1
    have hr := Lib.hid (h0.out (fun hm => hn (by have := hm.1; omega)) w1 b1.out)
    clear h0 h1
    go_wp2_with (go_at_call 24; (with_reducible refine hw.mono ?_); rintro e w' ⟨rfl, rfl⟩)
    exact hr.out
end Go.Proofs.Ytlddclkophajbaa.Cfg
