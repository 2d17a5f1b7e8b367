/-
  Package config: within, isName, isPart, hostFits, memoryFits. | Package config: partsFit, and what it hands over. | Package config: partsFit.
-/
import Derived.Test.YtogbhgbnminpdaaDoorJnCfgMath
set_option linter.unusedVariables false
set_option maxRecDepth 100000
set_option linter.unusedVariables false
namespace Go.Proofs.YtogbhgbnminpdaaDoor.Cfg
open Go.Proofs.YtogbhgbnminpdaaDoor
open Go.ChangeShapes Go.WideShapes Go.ChangeAt Go.RowKit
/-- Whether a number is within. -/
abbrev wn (n a b : Int) : Bool := decide (a ≤ n) && decide (n ≤ b)
theorem wn_yes {n a b : Int} (h : a ≤ n ∧ n ≤ b) : wn n a b = true := by simp [wn, h.1, h.2]
theorem wn_no {n a b : Int} (h : ¬ (a ≤ n ∧ n ≤ b)) : wn n a b = false := by
  by_cases ha : a ≤ n
  · have : ¬ n ≤ b := fun hb => h ⟨ha, hb⟩
    simp [wn, this]
  · simp [wn, ha]
theorem within_says (n a b : Int) (w : World) : Calls Tryd.prog 34 #[i64 n, i64 a, i64 b] w fun e w' => e = .returned (.bool (wn n a b)) ∧ w = w' := by
  obtain ⟨p, hp⟩ : ∃ p : Ending → World → Prop, p = fun e w' => e = .returned (.bool (wn n a b)) ∧ w = w' := ⟨_, rfl⟩
  rw [← hp]
  have h1 : p (.returned (.bool (wn n a b))) w := by rw [hp]; exact ⟨rfl, rfl⟩
  clear hp
  unfold wn at h1
  go_enter Tryd.func34, Tryd.ntmps34
  by_cases ha : a ≤ n <;> by_cases hb : n ≤ b <;> (simp only [ha, hb, decide_true, decide_false, Bool.true_and, Bool.false_and] at h1; go_wp2; exact h1)
theorem within_yes {n a b : Int} (h : a ≤ n ∧ n ≤ b) (w : World) : Calls Tryd.prog 34 #[i64 n, i64 a, i64 b] w fun e w' => e = .returned (.bool true) ∧ w = w' := by
  have := within_says n a b w; rw [wn_yes h] at this; exact this
theorem within_no {n a b : Int} (h : ¬ (a ≤ n ∧ n ≤ b)) (w : World) : Calls Tryd.prog 34 #[i64 n, i64 a, i64 b] w fun e w' => e = .returned (.bool false) ∧ w = w' := by
  have := within_says n a b w; rw [wn_no h] at this; exact this
/-- The bytes of a name, up to k. -/
def okTo (s : ByteArray) (k : Nat) : Prop := ∀ (j : Nat) (h : j < s.size), j < k → okB s[j].toNat
set_option maxHeartbeats 4000000 in
theorem isName_says (s : ByteArray) (b : Bool) (hb : b = true ↔ okN s) (w : World) (hs : s.size ≤ 9223372036854775807) : Calls Tryd.prog 37 #[.string s] w fun e w' => e = .returned (.bool b) ∧ w = w' := by
  obtain ⟨p, hp⟩ : ∃ p : Ending → World → Prop, p = fun e w' => e = .returned (.bool b) ∧ w = w' := ⟨_, rfl⟩
  rw [← hp]
  have h1 := Lib.hid (fun h : okN s => (by rw [hp, hb.2 h]; exact ⟨rfl, rfl⟩ : p (.returned (.bool true)) w))
  have h0 := Lib.hid (fun h : ¬ okN s => (by rw [hp, (by cases b with | true => exact absurd (hb.1 rfl) h | false => rfl : b = false)]; exact ⟨rfl, rfl⟩ : p (.returned (.bool false)) w))
  clear hp hb
  by_cases hl : 1 ≤ (s.size : Int) ∧ (s.size : Int) ≤ 20
  · have hw := within_yes hl w
    have hl2 : s.size ≤ 20 := by omega
    go_enter Tryd.func37, Tryd.ntmps37
    go_wp2_with (go_at_call 34; (with_reducible refine hw.mono ?_); rintro e w' ⟨rfl, rfl⟩)
    go_loopw [3, 4, 11] (fun _ _ i wr => wr = w ∧ ∃ j : Nat, j ≤ s.size ∧ i = .int .i64 j ∧ okTo s j) (fun _ _ i _ => s.size - (intOf i).toNat)
    case atStart => exact ⟨rfl, 0, Nat.zero_le _, rfl, fun j h hj => absurd hj (Nat.not_lt_zero _)⟩
    case round =>
      obtain ⟨rfl, j, hj, rfl, hk⟩ := hrel
      by_cases hjl : j < s.size
      · have hjI : (j : Int) < (s.size : Int) := by omega
        have hn : ¬ okB (s[j].toNat) → ¬ okN s := fun h1 h => h1 (h.2.2 j hjl)
        have hy : okB (s[j].toNat) → okTo s (j + 1) := fun h1 k h hkj => by
          by_cases e : k = j
          · subst e; exact h1
          · exact hk k h (by omega)
        have h0' := Lib.hid (fun h => h0.out (hn h))
        replace hy := Lib.hid hy
        clear hn h1 h0 hk hw
        by_cases a1 : 97 ≤ ((s[j].toNat : Nat) : Int)
        · by_cases a2 : ((s[j].toNat : Nat) : Int) ≤ 122
          · replace hy := Lib.hid (hy.out (.inl ⟨a1, a2⟩))
            clear h0'
            go_wp2
            go_roundw
            case rel => exact ⟨trivial, j + 1, hjl, by go_num, hy.out⟩
            case measure => simp [intOf]; omega
          · have h0'' := h0'.out (fun h => by unfold okB at h; omega)
            have a3 : ¬ ((s[j].toNat : Nat) : Int) ≤ 57 := by omega
            have a4 : 48 ≤ ((s[j].toNat : Nat) : Int) := by omega
            clear h0' hy
            go_wp2
            exact h0''
        · by_cases a3 : 48 ≤ ((s[j].toNat : Nat) : Int)
          · by_cases a4 : ((s[j].toNat : Nat) : Int) ≤ 57
            · replace hy := Lib.hid (hy.out (.inr ⟨a3, a4⟩))
              clear h0'
              go_wp2
              go_roundw
              case rel => exact ⟨trivial, j + 1, hjl, by go_num, hy.out⟩
              case measure => simp [intOf]; omega
            · have h0'' := h0'.out (fun h => by unfold okB at h; omega)
              clear h0' hy
              go_wp2
              exact h0''
          · have h0'' := h0'.out (fun h => by unfold okB at h; omega)
            clear h0' hy
            go_wp2
            exact h0''
      · have hjI : ¬ (j : Int) < (s.size : Int) := by omega
        have h1' := h1.out ⟨by omega, by omega, fun k h => hk k h (by omega)⟩
        go_wp2
        exact h1'
  · have hw := within_no hl w
    have h0' := h0.out (fun h => hl ⟨by have := h.1; omega, by have := h.2.1; omega⟩)
    go_enter Tryd.func37, Tryd.ntmps37
    go_wp2_with (go_at_call 34; (with_reducible refine hw.mono ?_); rintro e w' ⟨rfl, rfl⟩)
    exact h0'
/-- The value of a configuration. -/
abbrev cfV (c : Cf) (p1 : Option Addr) (c1 : Nat) (p2 : Option Addr) (c2 : Nat) (p3 : Option Addr) (c3 : Nat) : Value := .agg #[i64 c.pages, i64 c.major, i64 c.switch, .slice p1 c.parts.length c1, .slice p2 c.chans.length c2, .slice p3 c.wins.length c3]
theorem isPart_says (c : Cf) (p1 : Option Addr) (c1 : Nat) (p2 : Option Addr) (c2 : Nat) (p3 : Option Addr) (c3 : Nat) (n : Int) (b : Bool) (hb : b = true ↔ 0 ≤ n ∧ n < c.parts.length) (hl : c.parts.length ≤ 9223372036854775807) (w : World) :
    Calls Tryd.prog 41 #[cfV c p1 c1 p2 c2 p3 c3, i64 n] w fun e w' => e = .returned (.bool b) ∧ Below w.heap.size w w' := by
  obtain ⟨p, hp⟩ : ∃ p : Ending → World → Prop, p = fun e w' => e = .returned (.bool b) ∧ Below w.heap.size w w' := ⟨_, rfl⟩
  rw [← hp]
  obtain ⟨m, hm⟩ : ∃ m, c.parts.length = m := ⟨_, rfl⟩
  rw [hm] at hl hb
  simp only [cfV, hm]
  have hwn : wn n 0 ((m : Int) - 1) = b := by
    cases b with
    | true => exact wn_yes (by have := hb.1 rfl; omega)
    | false => exact wn_no (fun h => by have := hb.2 (by omega); cases this)
  have hw := fun w => within_says n 0 ((m : Int) - 1) w
  rw [hwn] at hw
  have h1 := Lib.hid (fun w' (h : Below w.heap.size w w') => (by rw [hp]; exact ⟨rfl, h⟩ : p (.returned (.bool b)) w'))
  clear hp hb hwn
  have e1 : IntKind.i64.wrap ((m : Int) - 1) = (m : Int) - 1 := by rw [IntKind.wrap_i64]; omega
  go_enter Tryd.func41, Tryd.ntmps41
  go_wp2_with (go_at_call 34; (with_reducible refine (hw _).mono ?_); rintro e w' ⟨rfl, rfl⟩)
  exact h1.out _ ((Below.refl _ _).alloc (Nat.le_refl _) _)
theorem hostFits_says (c : Cf) (p1 : Option Addr) (c1 : Nat) (p2 : Option Addr) (c2 : Nat) (p3 : Option Addr) (c3 : Nat) (b : Bool) (hb : b = true ↔ hostOk c) (w : World) :
    Calls Tryd.prog 18 #[cfV c p1 c1 p2 c2 p3 c3] w fun e w' => e = .returned (.bool b) ∧ Below w.heap.size w w' := by
  obtain ⟨p, hp⟩ : ∃ p : Ending → World → Prop, p = fun e w' => e = .returned (.bool b) ∧ Below w.heap.size w w' := ⟨_, rfl⟩
  rw [← hp]
  have hwn : wn c.pages 5 256 = b := by
    cases b with
    | true => exact wn_yes (hb.1 rfl)
    | false => exact wn_no (fun h => by have := hb.2 h; cases this)
  have hw := fun w => within_says c.pages 5 256 w
  rw [hwn] at hw
  have h1 := Lib.hid (fun w' (h : Below w.heap.size w w') => (by rw [hp]; exact ⟨rfl, h⟩ : p (.returned (.bool b)) w'))
  clear hp hb hwn
  go_enter Tryd.func18, Tryd.ntmps18
  go_wp2_with (go_at_call 34; (with_reducible refine (hw _).mono ?_); rintro e w' ⟨rfl, rfl⟩)
  exact h1.out _ ((Below.refl _ _).alloc (Nat.le_refl _) _)
set_option maxHeartbeats 4000000 in
theorem memoryFits_says {w : World} (c : Cf) {p1 : Option Addr} {c1 : Nat} (p2 : Option Addr) (c2 : Nat) (p3 : Option Addr) (c3 : Nat) (L : LieS 3 w w.heap.size p1 c.parts.length c1 (c.parts.map ptC)) (wf : Wf c) (h8 : c.parts.length ≤ 8) (hh : hostOk c) (b : Bool) (hb : b = true ↔ memOk c.pages c.parts) :
    Calls Tryd.prog 20 #[cfV c p1 c1 p2 c2 p3 c3] w fun e w' => e = .returned (.bool b) ∧ Below w.heap.size w w' := by
  obtain ⟨p, hp⟩ : ∃ p : Ending → World → Prop, p = fun e w' => e = .returned (.bool b) ∧ Below w.heap.size w w' := ⟨_, rfl⟩
  rw [← hp]
  have h1 := Lib.hid (fun (h : memOk c.pages c.parts) w' (hw : Below w.heap.size w w') => (by rw [hp, hb.2 h]; exact ⟨rfl, hw⟩ : p (.returned (.bool true)) w'))
  have h0 := Lib.hid (fun (h : ¬ memOk c.pages c.parts) w' (hw : Below w.heap.size w w') => (by rw [hp, (by cases b with | true => exact absurd (hb.1 rfl) h | false => rfl : b = false)]; exact ⟨rfl, hw⟩ : p (.returned (.bool false)) w'))
  clear hp hb
  obtain ⟨l, hl⟩ : ∃ l, c.parts = l := ⟨_, rfl⟩
  obtain ⟨pg, hpg⟩ : ∃ pg, c.pages = pg := ⟨_, rfl⟩
  obtain ⟨m, hm⟩ : ∃ m, l.length = m := ⟨_, rfl⟩
  have hpgs := hh
  unfold hostOk at hpgs
  simp only [cfV]
  rw [hl] at L h8 h1 h0
  rw [hpg] at hpgs h1 h0
  rw [hl, hpg, hm]
  rw [hm] at L h8
  obtain ⟨h, hhz⟩ : ∃ h, w.heap.size = h := ⟨_, rfl⟩
  rw [hhz] at L h1 h0
  obtain ⟨mj, hmj⟩ : ∃ mj, c.major = mj := ⟨_, rfl⟩
  obtain ⟨sw, hsw⟩ : ∃ sw, c.switch = sw := ⟨_, rfl⟩
  obtain ⟨n2, hn2⟩ : ∃ n2, c.chans.length = n2 := ⟨_, rfl⟩
  obtain ⟨n3, hn3⟩ : ∃ n3, c.wins.length = n3 := ⟨_, rfl⟩
  rw [hmj, hsw, hn2, hn3]
  clear hmj hsw hn2 hn3 hl hpg wf hh
  obtain ⟨w1, hw1⟩ : ∃ w1, w1 = w.alloc (.cells #[i64 pg, i64 mj, i64 sw, .slice p1 m c1, .slice p2 n2 c2, .slice p3 n3 c3] 52) := ⟨_, rfl⟩
  have b1 : Below h w w1 := by rw [hw1]; exact (Below.refl _ _).alloc (Nat.le_of_eq hhz.symm) _
  have hg1 : w1.heap.size = h + 1 := by rw [hw1, ← hhz]; simp
  have z0 : w1.cell? ⟨h, 0, none⟩ = some (i64 pg) := by rw [hw1, ← hhz]; rw [cell_of_row _ _ 0 _ _ _ (heap_alloc_new _ _)]; rfl
  have z3 : w1.cell? ⟨h, 3, none⟩ = some (.slice p1 m c1) := by rw [hw1, ← hhz]; rw [cell_of_row _ _ 3 _ _ _ (heap_alloc_new _ _)]; rfl
  have L1 := L.kept b1 (Nat.le_refl _)
  have hlm : l.length = m := hm
  clear L
  go_enter Tryd.func20, Tryd.ntmps20
  go_upto_region 1 with fail
  try simp only [hhz]
  rw [← hw1]
  clear hw1
  go_wp2
  go_loopw [3, 5, 9] (fun s _ i wr => Below (h + 1) w1 wr ∧ ∃ j : Nat, j ≤ m ∧ i = .int .i64 j ∧ s = .int .i64 (sumTo l j) ∧ ∀ (k : Nat) (p : Pt), k < j → l[k]? = some p → 1 ≤ p.pages ∧ p.pages ≤ 64) (fun _ _ i _ => m - (intOf i).toNat)
  case atStart => exact ⟨Below.refl _ _, 0, Nat.zero_le _, rfl, rfl, fun k p hk => absurd hk (Nat.not_lt_zero _)⟩
  case round =>
    obtain ⟨b2, j, hj, rfl, rfl, hk⟩ := hrel
    by_cases hjl : j < m
    · have hjI : (j : Int) < (m : Int) := by omega
      obtain ⟨x, hx⟩ : ∃ x, l[j]? = some x := ⟨_, List.getElem?_eq_getElem (by omega)⟩
      obtain ⟨b, off, rfl, hbl, y0, y1, y2⟩ := (L1.kept b2 (Nat.le_succ _)).cell3 j x hx rfl
      have hsum := sumTo_le l j hk (by omega)
      have hnext := Lib.hid (fun hy : 1 ≤ x.pages ∧ x.pages ≤ 64 => (⟨sumTo_succ l j x hx, fun k q hkj hq => by
        by_cases e : k = j
        · subst e; rw [hx] at hq; cases hq; exact hy
        · exact hk k q (by omega) hq⟩ : sumTo l (j + 1) = sumTo l j + x.pages ∧ ∀ (k : Nat) (q : Pt), k < j + 1 → l[k]? = some q → 1 ≤ q.pages ∧ q.pages ≤ 64))
      have hno := Lib.hid (fun (hy : ¬ (1 ≤ x.pages ∧ x.pages ≤ 64)) w' hw => h0.out (fun hm => hy (hm.1 j x hx)) w' hw)
      have bb := Lib.hid (b1.trans (b2.mono (Nat.le_succ _)))
      have hls := hsum.1
      have hlt := hsum.2
      have hj8 : sumTo l j ≤ 512 := by omega
      have hjb : j < 8 := by omega
      obtain ⟨sm, hsm⟩ : ∃ sm, sumTo l j = sm := ⟨_, rfl⟩
      rw [hsm] at hls hj8
      rw [hsm] at hnext ⊢
      clear hsum hlt hx L1 hk h1 h0 z0 z3 hsm hpgs h8
      go_upto_region 5 with fail
      obtain ⟨w2, hw2⟩ : ∃ w2, w2 = wr.alloc (.cells #[.string x.name, .int .i64 x.pages, .int .i64 x.act] 47) := ⟨_, rfl⟩
      have b3 := Lib.hid (by rw [hw2]; exact b2.alloc (by have := b2.size; omega) _ : Below (h + 1) w1 w2)
      obtain ⟨g, hg⟩ : ∃ g, wr.heap.size = g := ⟨_, rfl⟩
      have v1 : w2.cell? ⟨g, 1, none⟩ = some (i64 x.pages) := by rw [hw2, ← hg]; rw [cell_of_row _ _ 1 _ _ _ (heap_alloc_new _ _)]; rfl
      rw [hg, ← hw2]
      clear hw2 hg y0 y1 y2 b2
      obtain ⟨xp, hxp⟩ : ∃ xp, x.pages = xp := ⟨_, rfl⟩
      rw [hxp] at hnext hno v1
      clear hxp
      by_cases hy : 1 ≤ xp ∧ xp ≤ 64
      · have hw := within_yes hy w2
        have hn := hnext.out hy
        obtain ⟨q1, q2⟩ := hy
        have e1 : IntKind.i64.wrap (sm + xp) = sm + xp := by rw [IntKind.wrap_i64]; omega
        have hm1 := Lib.hid hn
        clear hn hno hnext q1 q2
        go_wp2_with (go_at_call 34; (with_reducible refine hw.mono ?_); rintro e w' ⟨rfl, rfl⟩)
        go_roundw
        case rel => exact ⟨b3.out, j + 1, hjl, by go_num, by rw [hm1.out.1], hm1.out.2⟩
        case measure => simp [intOf]; omega
      · have hw := within_no hy w2
        have hn := Lib.hid (hno.out hy _ (b1.trans (b3.out.mono (Nat.le_succ _))))
        clear hno hnext hy bb b3 b1
        go_wp2_with (go_at_call 34; (with_reducible refine hw.mono ?_); rintro e w' ⟨rfl, rfl⟩)
        exact hn.out
    · have hjm : j = m := by omega
      subst hjm
      have z0' := (World.cell?_of_block (b2.block h (Nat.lt_succ_self _))).trans z0
      have bb := b1.trans (b2.mono (Nat.le_succ _))
      have hsum := sumTo_le l j hk (by omega)
      have hall : ∀ (k : Nat) (p : Pt), l[k]? = some p → 1 ≤ p.pages ∧ p.pages ≤ 64 := fun k q hq => hk k q (by have := (List.getElem?_eq_some_iff.1 hq).1; omega) hq
      have e1 : IntKind.i64.wrap (pg - 4) = pg - 4 := by rw [IntKind.wrap_i64]; omega
      have hms : sumTo l l.length = sumTo l j := by rw [hlm]
      obtain ⟨sm, hsm⟩ : ∃ sm, sumTo l j = sm := ⟨_, rfl⟩
      by_cases hle : sm ≤ pg - 4
      · have hr := Lib.hid (h1.out ⟨hall, by rw [hms, hsm]; exact hle⟩ wr bb)
        rw [hsm]
        clear h1 h0 hall hsum hms hsm hk bb L1 z3
        go_wp2
        exact hr.out
      · have hr := Lib.hid (h0.out (fun hm => hle (by have := hm.2; rw [hms, hsm] at this; exact this)) wr bb)
        rw [hsm]
        clear h1 h0 hall hsum hms hsm hk bb L1 z3
        go_wp2
        exact hr.out
end Go.Proofs.YtogbhgbnminpdaaDoor.Cfg
set_option maxRecDepth 100000
set_option linter.unusedVariables false
namespace Go.Proofs.YtogbhgbnminpdaaDoor.Cfg
open Go.Proofs.YtogbhgbnminpdaaDoor
open Go.ChangeShapes Go.WideShapes Go.ChangeAt Go.RowKit
theorem name_eq (a b : ByteArray) : (a.toList == b.toList) = decide (a = b) := by
  by_cases h : a = b
  · subst h; simp
  · rw [decide_eq_false h]
    have h2 : ¬ a.toList = b.toList := by
      intro h'
      rw [ByteArray.toList_eq, ByteArray.toList_eq] at h'
      exact h (ByteArray.ext (Array.toList_inj.mp h'))
    simpa using h2
abbrev ptV (q : Pt) : Value := .agg #[.string q.name, i64 q.pages, i64 q.act]
theorem below_alloc (w : World) (o : Obj) : Below w.heap.size w (w.alloc o) := (Below.refl _ _).alloc (Nat.le_refl _) o
theorem pclos_says (q : Pt) (s : ByteArray) (b : Bool) (hb : b = true ↔ q.name = s) {g : Nat} (w : World) (z : w.cell? ⟨g, 0, none⟩ = some (.string s)) (hg : g < w.heap.size) :
    Calls Tryd.prog 36 (#[ptV q] ++ #[.pointer (some ⟨g, 0, none⟩)]) w fun e w' => e = .returned (.bool b) ∧ Below w.heap.size w w' := by
  obtain ⟨p, hp⟩ : ∃ p : Ending → World → Prop, p = fun e w' => e = .returned (.bool b) ∧ Below w.heap.size w w' := ⟨_, rfl⟩
  rw [← hp]
  have e1 : (q.name.toList == s.toList) = b := by
    rw [name_eq]
    cases b with
    | true => exact decide_eq_true (hb.1 rfl)
    | false => exact decide_eq_false (fun h => by have := hb.2 h; cases this)
  have h1 := Lib.hid (fun w' (h : Below w.heap.size w w') => (by rw [hp]; exact ⟨rfl, h⟩ : p (.returned (.bool b)) w'))
  clear hp hb
  obtain ⟨nm, hnm⟩ : ∃ nm, q.name = nm := ⟨_, rfl⟩
  obtain ⟨pg, hpg⟩ : ∃ pg, q.pages = pg := ⟨_, rfl⟩
  obtain ⟨ac, hac⟩ : ∃ ac, q.act = ac := ⟨_, rfl⟩
  simp only [ptV]
  rw [hnm] at e1
  rw [hnm, hpg, hac]
  obtain ⟨w1, hw1⟩ : ∃ w1, w1 = w.alloc (.cells #[.string nm, i64 pg, i64 ac] 47) := ⟨_, rfl⟩
  have b1 := Lib.hid (by rw [hw1]; exact below_alloc _ _ : Below w.heap.size w w1)
  have z1 := (World.cell?_of_block (b1.out.block g hg)).trans z
  have z2 : w1.cell? ⟨w.heap.size, 0, none⟩ = some (.string nm) := by rw [hw1]; rw [cell_of_row _ _ 0 _ _ _ (heap_alloc_new _ _)]; rfl
  clear z hg
  go_enter Tryd.func36, Tryd.ntmps36
  go_upto_region 1 with fail
  rw [← hw1]
  clear hw1
  go_wp2
  try rw [e1]
  exact h1.out _ b1.out
/-- Where the search stands. -/
structure Srch {α : Type} (P : α → Prop) (w wr : World) (l : List α) (j : Nat) : Prop where
  b : Below w.heap.size w wr
  no : ∀ (i : Nat) (q : α), i < j → l[i]? = some q → ¬ P q
theorem Srch.next {α : Type} {P : α → Prop} {w wr w' : World} {l : List α} {j : Nat} (s : Srch P w wr l j) {x : α} (hx : l[j]? = some x) (hn : ¬ P x) (b : Below wr.heap.size wr w') : Srch P w w' l (j + 1) :=
  ⟨s.b.trans (b.mono s.b.size), fun i q hi hq => by
    by_cases e : i = j
    · subst e; rw [hx] at hq; cases hq; exact hn
    · exact s.no i q (by omega) hq⟩
/-- What the search tells. -/
def Found {α : Type} (P : α → Prop) (l : List α) (w : World) (e : Ending) (w' : World) : Prop :=
  Below w.heap.size w w' ∧ (((∀ (i : Nat) (q : α), l[i]? = some q → ¬ P q) ∧ e = .returned (i64 (-1))) ∨ ∃ (j : Nat) (x : α), l[j]? = some x ∧ P x ∧ e = .returned (i64 j))
set_option maxHeartbeats 4000000 in
theorem pidx_says {w : World} {p : Option Addr} {m c : Nat} {l : List Pt} (L : LieS 3 w w.heap.size p m c (l.map ptC)) (hm : m ≤ 9223372036854775807) (f : Nat) (cap : Array Value) (P : Pt → Prop) (dP : ∀ q, Decidable (P q))
    (eg : ∀ args w, (callFunc f args).run Tryd.prog w = .ok (.enter f args) w)
    (hc : ∀ (i : Nat) (q : Pt), l[i]? = some q → ∀ u, Below w.heap.size w u → ∀ b : Bool, (b = true ↔ P q) → Calls Tryd.prog f (#[ptV q] ++ cap) u fun e w' => e = .returned (.bool b) ∧ Below u.heap.size u w') :
    Calls Tryd.prog 52 #[.slice p m c, .func (.func f) #[] cap] w (Found P l w) := by
  obtain ⟨r, hr⟩ : ∃ r, r = Found P l w := ⟨_, rfl⟩
  rw [← hr]
  have hlm : l.length = m := by have := L.len; rw [List.length_map] at this; exact this
  have hout1 := Lib.hid (fun wr (s : Srch P w wr l m) => (by rw [hr]; exact ⟨s.b, .inl ⟨fun i q hq => s.no i q (by have := (List.getElem?_eq_some_iff.1 hq).1; omega) hq, rfl⟩⟩ : r (.returned (i64 (-1))) wr))
  have hout2 := Lib.hid (fun (j : Nat) (x : Pt) wr w' (s : Srch P w wr l j) (hx : l[j]? = some x) (hp : P x) (b : Below wr.heap.size wr w') => (by rw [hr]; exact ⟨s.b.trans (b.mono s.b.size), .inr ⟨j, x, hx, hp, rfl⟩⟩ : r (.returned (i64 j)) w'))
  replace hc := Lib.hid hc
  clear hr
  go_enter Tryd.func52, Tryd.ntmps52
  go_wp2_with fail
  go_loopw [5, 8] (fun _ i wr => ∃ j : Nat, j ≤ m ∧ i = .int .i64 j ∧ Srch P w wr l j) (fun _ i _ => m - (intOf i).toNat)
  case atStart => exact ⟨0, Nat.zero_le _, rfl, Below.refl _ _, fun i q h => absurd h (Nat.not_lt_zero _)⟩
  case round =>
    obtain ⟨j, hj, rfl, s⟩ := hrel
    by_cases hjl : j < m
    · have hjI : (j : Int) < (m : Int) := by omega
      obtain ⟨x, hx⟩ : ∃ x, l[j]? = some x := ⟨_, List.getElem?_eq_getElem (by omega)⟩
      obtain ⟨b, off, rfl, hbl, y0, y1, y2⟩ := (L.kept s.b (Nat.le_refl _)).cell3 j x hx rfl
      by_cases hp : P x
      · have hc1 := Lib.hid (hc.out j x hx wr s.b true (by simp [hp]))
        have ho := Lib.hid (fun w' => hout2.out j x wr w' s hx hp)
        clear hc hout1 hout2 s hx L hp
        go_wp2_with (go_at_fn f; refine hc1.out.mono ?_; rintro e w' ⟨rfl, b2⟩)
        exact ho.out w' b2
      · have hc1 := Lib.hid (hc.out j x hx wr s.b false (by simp [hp]))
        have hn := Lib.hid (fun w' (b : Below wr.heap.size wr w') => s.next hx hp b)
        clear hc hout1 hout2 s hx L hp
        go_wp2_with (go_at_fn f; refine hc1.out.mono ?_; rintro e w' ⟨rfl, b2⟩)
        go_roundw
        case rel => exact ⟨j + 1, hjl, by go_num, hn.out w' b2⟩
        case measure => simp [intOf]; omega
    · have hkn : j = m := by omega
      subst hkn
      have ho := Lib.hid (hout1.out wr s)
      clear s hc hout1 hout2
      go_wp2
      exact ho.out
theorem pcon_says {w : World} {p : Option Addr} {m c : Nat} {l : List Pt} (L : LieS 3 w w.heap.size p m c (l.map ptC)) (hm : m ≤ 9223372036854775807) (f : Nat) (cap : Array Value) (P : Pt → Prop) (dP : ∀ q, Decidable (P q))
    (eg : ∀ args w, (callFunc f args).run Tryd.prog w = .ok (.enter f args) w)
    (hc : ∀ (i : Nat) (q : Pt), l[i]? = some q → ∀ u, Below w.heap.size w u → ∀ b : Bool, (b = true ↔ P q) → Calls Tryd.prog f (#[ptV q] ++ cap) u fun e w' => e = .returned (.bool b) ∧ Below u.heap.size u w')
    (b : Bool) (hb : b = true ↔ ∃ (i : Nat) (q : Pt), l[i]? = some q ∧ P q) :
    Calls Tryd.prog 35 #[.slice p m c, .func (.func f) #[] cap] w fun e w' => e = .returned (.bool b) ∧ Below w.heap.size w w' := by
  have hi := Lib.hid (pidx_says L hm f cap P dP eg hc)
  obtain ⟨r, hr⟩ : ∃ r : Ending → World → Prop, r = fun e w' => e = .returned (.bool b) ∧ Below w.heap.size w w' := ⟨_, rfl⟩
  rw [← hr]
  have h1 := Lib.hid (fun v w' (hv : v = b) (h : Below w.heap.size w w') => (by rw [hr, hv]; exact ⟨rfl, h⟩ : r (.returned (.bool v)) w'))
  clear hr hc L
  go_enter Tryd.func35, Tryd.ntmps35
  go_wp2_with (go_at_call 52; refine hi.out.mono ?_; rintro e w' ⟨hbl, (⟨hno, rfl⟩ | ⟨j, x, hx, hpx, rfl⟩)⟩)
  · exact h1.out false w' (by cases b with | false => rfl | true => obtain ⟨i, q, h2, h3⟩ := hb.1 rfl; exact absurd h3 (hno i q h2)) hbl
  · exact h1.out true w' ((hb.2 ⟨j, x, hx, hpx⟩).symm) hbl
end Go.Proofs.YtogbhgbnminpdaaDoor.Cfg
set_option maxRecDepth 100000
set_option linter.unusedVariables false
namespace Go.Proofs.YtogbhgbnminpdaaDoor.Cfg
open Go.Proofs.YtogbhgbnminpdaaDoor
open Go.ChangeShapes Go.WideShapes Go.ChangeAt Go.RowKit
set_option maxHeartbeats 4000000 in
theorem partsFit_says {w : World} (c : Cf) {p1 : Option Addr} {c1 : Nat} (p2 : Option Addr) (c2 : Nat) (p3 : Option Addr) (c3 : Nat) (L : LieS 3 w w.heap.size p1 c.parts.length c1 (c.parts.map ptC)) (wf : Wf c) (hc1 : c1 ≤ 9223372036854775807) (b : Bool) (hb : b = true ↔ partsOk c.parts) :
    Calls Tryd.prog 19 #[cfV c p1 c1 p2 c2 p3 c3] w fun e w' => e = .returned (.bool b) ∧ Below w.heap.size w w' := by
  obtain ⟨p, hp⟩ : ∃ p : Ending → World → Prop, p = fun e w' => e = .returned (.bool b) ∧ Below w.heap.size w w' := ⟨_, rfl⟩
  rw [← hp]
  have h1 := Lib.hid (fun (h : partsOk c.parts) w' (hw : Below w.heap.size w w') => (by rw [hp, hb.2 h]; exact ⟨rfl, hw⟩ : p (.returned (.bool true)) w'))
  have h0 := Lib.hid (fun (h : ¬ partsOk c.parts) w' (hw : Below w.heap.size w w') => (by rw [hp, (by cases b with | true => exact absurd (hb.1 rfl) h | false => rfl : b = false)]; exact ⟨rfl, hw⟩ : p (.returned (.bool false)) w'))
  clear hp hb
  have hsz := wf.nums.1
  have hlen := wf.len.1
  obtain ⟨l, hl⟩ : ∃ l, c.parts = l := ⟨_, rfl⟩
  obtain ⟨pg, hpg⟩ : ∃ pg, c.pages = pg := ⟨_, rfl⟩
  obtain ⟨m, hm⟩ : ∃ m, l.length = m := ⟨_, rfl⟩
  simp only [cfV]
  rw [hl] at L h1 h0 hsz hlen
  rw [hl, hpg, hm]
  rw [hm] at L hlen
  obtain ⟨h, hhz⟩ : ∃ h, w.heap.size = h := ⟨_, rfl⟩
  rw [hhz] at L h1 h0
  obtain ⟨mj, hmj⟩ : ∃ mj, c.major = mj := ⟨_, rfl⟩
  obtain ⟨sw, hsw⟩ : ∃ sw, c.switch = sw := ⟨_, rfl⟩
  obtain ⟨n2, hn2⟩ : ∃ n2, c.chans.length = n2 := ⟨_, rfl⟩
  obtain ⟨n3, hn3⟩ : ∃ n3, c.wins.length = n3 := ⟨_, rfl⟩
  rw [hmj, hsw, hn2, hn3]
  clear hmj hsw hn2 hn3 hl hpg wf
  obtain ⟨w1, hw1⟩ : ∃ w1, w1 = w.alloc (.cells #[i64 pg, i64 mj, i64 sw, .slice p1 m c1, .slice p2 n2 c2, .slice p3 n3 c3] 52) := ⟨_, rfl⟩
  have b1 := Lib.hid (by rw [hw1]; exact (Below.refl _ _).alloc (Nat.le_of_eq hhz.symm) _ : Below h w w1)
  have hg1 : w1.heap.size = h + 1 := by rw [hw1, ← hhz]; simp
  have z3 : w1.cell? ⟨h, 3, none⟩ = some (.slice p1 m c1) := by rw [hw1, ← hhz]; rw [cell_of_row _ _ 3 _ _ _ (heap_alloc_new _ _)]; rfl
  have L1 := L.kept b1.out (Nat.le_refl _)
  have hlm : l.length = m := hm
  clear L
  go_enter Tryd.func19, Tryd.ntmps19
  go_upto_region 1 with fail
  try simp only [hhz]
  rw [← hw1]
  clear hw1
  by_cases hn : 1 ≤ (m : Int) ∧ (m : Int) ≤ 8
  · have hw := within_yes hn w1
    have hm8 : m ≤ 8 := by omega
    go_wp2_with (go_at_call 34; (with_reducible refine hw.mono ?_); rintro e w' ⟨rfl, rfl⟩)
    clear hw
    go_loopw [3, 4, 5, 14] (fun _ _ _ i wr => Below (h + 1) w1 wr ∧ ∃ j : Nat, j ≤ m ∧ i = .int .i64 j ∧ ∀ (k : Nat) (p : Pt), k < j → l[k]? = some p → okP l k p) (fun _ _ _ i _ => m - (intOf i).toNat)
    case atStart => exact ⟨Below.refl _ _, 0, Nat.zero_le _, rfl, fun k p hk => absurd hk (Nat.not_lt_zero _)⟩
    case round =>
      obtain ⟨b2, j, hj, rfl, hk⟩ := hrel
      by_cases hjl : j < m
      · have hjI : (j : Int) < (m : Int) := by omega
        have hj8 : j < 8 := by omega
        obtain ⟨x, hx⟩ : ∃ x, l[j]? = some x := ⟨_, List.getElem?_eq_getElem (by omega)⟩
        have Lr := L1.kept b2 (Nat.le_succ _)
        obtain ⟨b, off, rfl, hbl, y0, y1, y2⟩ := Lr.cell3 j x hx rfl
        have hnext := Lib.hid (fun hy : okP l j x => (fun k q hkj hq => by
          by_cases e : k = j
          · subst e; rw [hx] at hq; cases hq; exact hy
          · exact hk k q (by omega) hq : ∀ (k : Nat) (q : Pt), k < j + 1 → l[k]? = some q → okP l k q))
        have hno := Lib.hid (fun (hy : ¬ okP l j x) w' (hw : Below (h + 1) w1 w') => h0.out (fun hm => hy (hm.2 j x hx)) w' (b1.out.trans (hw.mono (Nat.le_succ _))))
        have hxs := (hsz j x hx).1
        have z3r := (World.cell?_of_block (b2.block h (by omega))).trans z3
        clear h1 h0 hk hx z3 L1
        go_upto_region 6 with fail
        obtain ⟨w2, hw2⟩ : ∃ w2, w2 = wr.alloc (.cells #[.string x.name, .int .i64 x.pages, .int .i64 x.act] 47) := ⟨_, rfl⟩
        have b3 := Lib.hid (by rw [hw2]; exact b2.alloc (by have := b2.size; omega) _ : Below (h + 1) w1 w2)
        obtain ⟨g, hg⟩ : ∃ g, wr.heap.size = g := ⟨_, rfl⟩
        have hgh : h < g := by have := b2.size; omega
        have v0 : w2.cell? ⟨g, 0, none⟩ = some (.string x.name) := by rw [hw2, ← hg]; rw [cell_of_row _ _ 0 _ _ _ (heap_alloc_new _ _)]; rfl
        have v2 : w2.cell? ⟨g, 2, none⟩ = some (i64 x.act) := by rw [hw2, ← hg]; rw [cell_of_row _ _ 2 _ _ _ (heap_alloc_new _ _)]; rfl
        have hg2 : w2.heap.size = g + 1 := by rw [hw2, ← hg]; simp
        have z3s : w2.cell? ⟨h, 3, none⟩ = some (.slice (some ⟨b, off, none⟩) m c1) := by rw [hw2]; exact (World.cell?_of_block (Below.heap_alloc _ _ _ (by show h < _; omega))).trans z3r
        have L2 : LieS 3 w2 h (some ⟨b, off, none⟩) m c1 (l.map ptC) := by rw [hw2]; exact Lr.kept (B' := wr.heap.size) (below_alloc _ _) (by omega)
        rw [hg, ← hw2]
        have hmc := L2.cap
        clear hw2 hg y0 y1 y2 b2 Lr z3r
        -- the search among those ahead
        have Lt : LieS 3 w2 w2.heap.size (some ⟨b, off, none⟩) j c1 ((l.take j).map ptC) := by
          have := (L2.take (m := j) (c' := c1) (by omega) (by omega) (fun e => by cases e)).wide (B' := w2.heap.size) (by omega)
          rw [List.map_take]; exact this
        have eg : ∀ args w, (callFunc 36 args).run Tryd.prog w = .ok (.enter 36 args) w := fun _ _ => by kernel_rfl
        have hcon := fun (ba : Bool) hba => pcon_says Lt (by omega) 36 #[.pointer (some ⟨g, 0, none⟩)] (fun q => q.name = x.name) (fun q => by infer_instance) eg
          (fun i q _ u hu bq hbq => pclos_says q x.name bq hbq u ((World.cell?_of_block (hu.block g (by omega))).trans v0) (by have := hu.size; omega)) ba hba
        have hahead : (∃ (i : Nat) (q : Pt), (l.take j)[i]? = some q ∧ q.name = x.name) ↔ ∃ (i : Nat) (q : Pt), i < j ∧ l[i]? = some q ∧ q.name = x.name := by
          constructor
          · rintro ⟨i, q, h2, h3⟩
            have hi : i < j := by have := (List.getElem?_eq_some_iff.1 h2).1; rw [List.length_take] at this; omega
            rw [List.getElem?_take_of_lt hi] at h2
            exact ⟨i, q, hi, h2, h3⟩
          · rintro ⟨i, q, hi, h2, h3⟩
            exact ⟨i, q, by rw [List.getElem?_take_of_lt hi]; exact h2, h3⟩
        clear Lt L2 eg hsz
        obtain ⟨nm, hnm⟩ : ∃ nm, x.name = nm := ⟨_, rfl⟩
        obtain ⟨ac, hac⟩ : ∃ ac, x.act = ac := ⟨_, rfl⟩
        by_cases hA : ∃ (i : Nat) (q : Pt), i < j ∧ l[i]? = some q ∧ q.name = x.name
        · have hcn := Lib.hid (hcon true ⟨fun _ => hahead.2 hA, fun _ => rfl⟩)
          have hn0 := Lib.hid (hno.out (fun hy => by obtain ⟨i, q, h2, h3, h4⟩ := hA; exact hy.2.2 i q h2 h3 h4))
          clear hcon hahead hA hno hnext v0 v2 hnm hac
          go_wp2_with (go_at_call 35; (with_reducible refine hcn.out.mono ?_); rintro e w' ⟨rfl, hbl⟩)
          exact hn0.out _ (b3.out.trans (hbl.mono (by omega)))
        · have hcn := Lib.hid (hcon false ⟨fun h => (by cases h), fun h => absurd (hahead.1 h) hA⟩)
          have hA' : ∀ (i : Nat) (q : Pt), i < j → l[i]? = some q → q.name ≠ x.name := fun i q h2 h3 h4 => hA ⟨i, q, h2, h3, h4⟩
          clear hcon hahead hA
          go_upto_region 7 with (go_at_call 35; (with_reducible refine hcn.out.mono ?_); rintro e w3 ⟨rfl, hbl⟩)
          have b4 := Lib.hid (b3.out.trans (hbl.mono (by omega)))
          have v0' := (World.cell?_of_block (hbl.block g (by omega))).trans v0
          have v2' := (World.cell?_of_block (hbl.block g (by omega))).trans v2
          clear v0 v2 b3 hcn hbl
          rw [hnm] at v0' hxs
          rw [hac] at v2'
          by_cases hN : okN nm
          · have hni := Lib.hid (isName_says nm true (by simp [hN]) w3 hxs)
            by_cases hA2 : 0 ≤ ac ∧ ac ≤ 1
            · have hw := within_yes hA2 w3
              have hn0 := Lib.hid (hnext.out ⟨by rw [hnm]; exact hN, by rw [hac]; exact hA2, hA'⟩)
              clear hno hnext hA' hN hA2 hnm hac hxs
              go_wp2_with (first | (go_at_call 34; (with_reducible refine hw.mono ?_); rintro e w' ⟨rfl, rfl⟩) | (go_at_call 37; (with_reducible refine hni.out.mono ?_); rintro e w' ⟨rfl, rfl⟩))
              go_roundw
              case rel => exact ⟨b4.out, j + 1, hjl, by go_num, hn0.out⟩
              case measure => simp [intOf]; omega
            · have hw := within_no hA2 w3
              have hn0 := Lib.hid (hno.out (fun hy => hA2 (by have := hy.2.1; rw [hac] at this; exact this)) w3 b4.out)
              clear hno hnext hA' hN hA2 hnm hac hxs
              go_wp2_with (first | (go_at_call 34; (with_reducible refine hw.mono ?_); rintro e w' ⟨rfl, rfl⟩) | (go_at_call 37; (with_reducible refine hni.out.mono ?_); rintro e w' ⟨rfl, rfl⟩))
              exact hn0.out
          · have hni := Lib.hid (isName_says nm false (by simp [hN]) w3 hxs)
            have hn0 := Lib.hid (hno.out (fun hy => hN (by have := hy.1; rw [hnm] at this; exact this)) w3 b4.out)
            clear hno hnext hA' hN hnm hac hxs
            go_wp2_with (go_at_call 37; (with_reducible refine hni.out.mono ?_); rintro e w' ⟨rfl, rfl⟩)
            exact hn0.out
      · have hjm : j = m := by omega
        subst hjm
        have bb := b1.out.trans (b2.mono (Nat.le_succ _))
        have hall : ∀ (k : Nat) (p : Pt), l[k]? = some p → okP l k p := fun k q hq => hk k q (by have := (List.getElem?_eq_some_iff.1 hq).1; omega) hq
        have hr := Lib.hid (h1.out ⟨⟨by omega, by omega⟩, hall⟩ wr bb)
        clear h1 h0 hall bb L1 z3 hk hsz b2
        go_wp2
        exact hr.out
  · have hw := within_no hn w1
    have hr := Lib.hid (h0.out (fun hm => hn (by have := hm.1; omega)) w1 b1.out)
    clear h0 h1
    go_wp2_with (go_at_call 34; (with_reducible refine hw.mono ?_); rintro e w' ⟨rfl, rfl⟩)
    exact hr.out
end Go.Proofs.YtogbhgbnminpdaaDoor.Cfg
