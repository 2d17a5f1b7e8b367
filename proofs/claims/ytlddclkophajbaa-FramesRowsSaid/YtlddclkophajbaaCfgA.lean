
/-
  Package config: within, isName, isPart, hostFits, memoryFits.
-/
import Derived.Test.YtlddclkophajbaaCfgMath
set_option maxRecDepth 100000
set_option linter.unusedVariables false
namespace Go.Proofs.Ytlddclkophajbaa.Cfg
open Go.Proofs.Ytlddclkophajbaa
open Go.ChangeShapes Go.WideShapes Go.ChangeAt Go.RowKit
/-- Whether a number is within. -/
abbrev wn (n a b : Int) : Bool := decide (a ≤ n) && decide (n ≤ b)
theorem wn_yes {n a b : Int} (h : a ≤ n ∧ n ≤ b) : wn n a b = true := by simp [wn, h.1, h.2]
theorem wn_no {n a b : Int} (h : ¬ (a ≤ n ∧ n ≤ b)) : wn n a b = false := by
  by_cases ha : a ≤ n
  · have : ¬ n ≤ b := fun hb => h ⟨ha, hb⟩
    simp [wn, this]
  · simp [wn, ha]
theorem within_says (n a b : Int) (w : World) : Calls Try.prog 24 #[i64 n, i64 a, i64 b] w fun e w' => e = .returned (.bool (wn n a b)) ∧ w = w' := by
  obtain ⟨p, hp⟩ : ∃ p : Ending → World → Prop, p = fun e w' => e = .returned (.bool (wn n a b)) ∧ w = w' := ⟨_, rfl⟩
  rw [← hp]
  have h1 : p (.returned (.bool (wn n a b))) w := by rw [hp]; exact ⟨rfl, rfl⟩
  clear hp
  unfold wn at h1
  go_enter Try.func24, Try.ntmps24
  by_cases ha : a ≤ n <;> by_cases hb : n ≤ b <;> (simp only [ha, hb, decide_true, decide_false, Bool.true_and, Bool.false_and] at h1; go_wp2; exact h1)
theorem within_yes {n a b : Int} (h : a ≤ n ∧ n ≤ b) (w : World) : Calls Try.prog 24 #[i64 n, i64 a, i64 b] w fun e w' => e = .returned (.bool true) ∧ w = w' := by
  have := within_says n a b w; rw [wn_yes h] at this; exact this
theorem within_no {n a b : Int} (h : ¬ (a ≤ n ∧ n ≤ b)) (w : World) : Calls Try.prog 24 #[i64 n, i64 a, i64 b] w fun e w' => e = .returned (.bool false) ∧ w = w' := by
  have := within_says n a b w; rw [wn_no h] at this; exact this
/-- The bytes of a name, up to k. -/
def okTo (s : ByteArray) (k : Nat) : Prop := ∀ (j : Nat) (h : j < s.size), j < k → okB s[j].toNat
set_option maxHeartbeats 4000000 in
theorem isName_says (s : ByteArray) (b : Bool) (hb : b = true ↔ okN s) (w : World) (hs : s.size ≤ 9223372036854775807) : Calls Try.prog 27 #[.string s] w fun e w' => e = .returned (.bool b) ∧ w = w' := by
  obtain ⟨p, hp⟩ : ∃ p : Ending → World → Prop, p = fun e w' => e = .returned (.bool b) ∧ w = w' := ⟨_, rfl⟩
  rw [← hp]
  have h1 := Lib.hid (fun h : okN s => (by rw [hp, hb.2 h]; exact ⟨rfl, rfl⟩ : p (.returned (.bool true)) w))
  have h0 := Lib.hid (fun h : ¬ okN s => (by rw [hp, (by cases b with | true => exact absurd (hb.1 rfl) h | false => rfl : b = false)]; exact ⟨rfl, rfl⟩ : p (.returned (.bool false)) w))
  clear hp hb
  by_cases hl : 1 ≤ (s.size : Int) ∧ (s.size : Int) ≤ 20
  · have hw := within_yes hl w
    have hl2 : s.size ≤ 20 := by omega
    go_enter Try.func27, Try.ntmps27
    go_wp2_with (go_at_call 24; (with_reducible refine hw.mono ?_); rintro e w' ⟨rfl, rfl⟩)
    go_loopw [3, 4, 11] (fun _ _ i wr => wr = w ∧ ∃ j : Nat, j ≤ s.size ∧ i = .int .i64 j ∧ okTo s j) (fun _ _ i _ => s.size - (intOf i).toNat)
    case atStart => exact ⟨rfl, 0, Nat.zero_le _, rfl, fun j h hj => absurd hj (Nat.not_lt_zero _)⟩
    case round =>
      obtain ⟨rfl, j, hj, rfl, hk⟩ := hrel
      by_cases hjl : j < s.size
      · have hjI : (j : Int) < (s.size : Int) := by omega
        have hn : ¬ okB (s[j].toNat) → ¬ okN s := fun h1 h => h1 (h.2.2 j hjl)
        have hy : okB (s[j].toNat) → okTo s (j + 1) := fun h1 k h hkj => by
          by_cases e : k = j
          · subst e; exact h1
          · exact hk k h (by omega)
        have h0' := Lib.hid (fun h => h0.out (hn h))
        replace hy := Lib.hid hy
        clear hn h1 h0 hk hw
        by_cases a1 : 97 ≤ ((s[j].toNat : Nat) : Int)
        · by_cases a2 : ((s[j].toNat : Nat) : Int) ≤ 122
          · replace hy := Lib.hid (hy.out (.inl ⟨a1, a2⟩))
            clear h0'
            go_wp2
            go_roundw
            case rel => exact ⟨trivial, j + 1, hjl, by go_num, hy.out⟩
            case measure => simp [intOf]; omega
          · have h0'' := h0'.out (fun h => by unfold okB at h; omega)
            have a3 : ¬ ((s[j].toNat : Nat) : Int) ≤ 57 := by omega
            have a4 : 48 ≤ ((s[j].toNat : Nat) : Int) := by omega
            clear h0' hy
            go_wp2
            exact h0''
        · by_cases a3 : 48 ≤ ((s[j].toNat : Nat) : Int)
          · by_cases a4 : ((s[j].toNat : Nat) : Int) ≤ 57
            · replace hy := Lib.hid (hy.out (.inr ⟨a3, a4⟩))
              clear h0'
              go_wp2
              go_roundw
              case rel => exact ⟨trivial, j + 1, hjl, by go_num, hy.out⟩
              case measure => simp [intOf]; omega
            · have h0'' := h0'.out (fun h => by unfold okB at h; omega)
              clear h0' hy
              go_wp2
              exact h0''
          · have h0'' := h0'.out (fun h => by unfold okB at h; omega)
            clear h0' hy
            go_wp2
            exact h0''
      · have hjI : ¬ (j : Int) < (s.size : Int) := by omega
        have h1' := h1.out ⟨by omega, by omega, fun k h => hk k h (by omega)⟩
        go_wp2
        exact h1'
  · have hw := within_no hl w
    have h0' := h0.out (fun h => hl ⟨by have := h.1; omega, by have := h.2.1; omega⟩)
    go_enter Try.func27, Try.ntmps27
    go_wp2_with (go_at_call 24; (with_reducible refine hw.mono ?_); rintro e w' ⟨rfl, rfl⟩)
    exact h0'
/-- The value of a configuration. -/
abbrev cfV (c : Cf) (p1 : Option Addr) (c1 : Nat) (p2 : Option Addr) (c2 : Nat) (p3 : Option Addr) (c3 : Nat) : Value := .agg #[i64 c.pages, i64 c.major, i64 c.switch, .slice p1 c.parts.length c1, .slice p2 c.chans.length c2, .slice p3 c.wins.length c3]
theorem isPart_says (c : Cf) (p1 : Option Addr) (c1 : Nat) (p2 : Option Addr) (c2 : Nat) (p3 : Option Addr) (c3 : Nat) (n : Int) (b : Bool) (hb : b = true ↔ 0 ≤ n ∧ n < c.parts.length) (hl : c.parts.length ≤ 9223372036854775807) (w : World) :
    Calls Try.prog 31 #[cfV c p1 c1 p2 c2 p3 c3, i64 n] w fun e w' => e = .returned (.bool b) ∧ Below w.heap.size w w' := by
  obtain ⟨p, hp⟩ : ∃ p : Ending → World → Prop, p = fun e w' => e = .returned (.bool b) ∧ Below w.heap.size w w' := ⟨_, rfl⟩
  rw [← hp]
  obtain ⟨m, hm⟩ : ∃ m, c.parts.length = m := ⟨_, rfl⟩
  rw [hm] at hl hb
  simp only [cfV, hm]
  have hwn : wn n 0 ((m : Int) - 1) = b := by
    cases b with
    | true => exact wn_yes (by have := hb.1 rfl; omega)
    | false => exact wn_no (fun h => by have := hb.2 (by omega); cases this)
  have hw := fun w => within_says n 0 ((m : Int) - 1) w
  rw [hwn] at hw
  have h1 := Lib.hid (fun w' (h : Below w.heap.size w w') => (by rw [hp]; exact ⟨rfl, h⟩ : p (.returned (.bool b)) w'))
  clear hp hb hwn
  have e1 : IntKind.i64.wrap ((m : Int) - 1) = (m : Int) - 1 := by rw [IntKind.wrap_i64]; omega
  go_enter Try.func31, Try.ntmps31
  go_wp2_with (go_at_call 24; (with_reducible refine (hw _).mono ?_); rintro e w' ⟨rfl, rfl⟩)
  exact h1.out _ ((Below.refl _ _).alloc (Nat.le_refl _) _)
theorem hostFits_says (c : Cf) (p1 : Option Addr) (c1 : Nat) (p2 : Option Addr) (c2 : Nat) (p3 : Option Addr) (c3 : Nat) (b : Bool) (hb : b = true ↔ hostOk c) (w : World) :
    Calls Try.prog 19 #[cfV c p1 c1 p2 c2 p3 c3] w fun e w' => e = .returned (.bool b) ∧ Below w.heap.size w w' := by
  obtain ⟨p, hp⟩ : ∃ p : Ending → World → Prop, p = fun e w' => e = .returned (.bool b) ∧ Below w.heap.size w w' := ⟨_, rfl⟩
  rw [← hp]
  have hwn : wn c.pages 5 256 = b := by
    cases b with
    | true => exact wn_yes (hb.1 rfl)
    | false => exact wn_no (fun h => by have := hb.2 h; cases this)
  have hw := fun w => within_says c.pages 5 256 w
  rw [hwn] at hw
  have h1 := Lib.hid (fun w' (h : Below w.heap.size w w') => (by rw [hp]; exact ⟨rfl, h⟩ : p (.returned (.bool b)) w'))
  clear hp hb hwn
  go_enter Try.func19, Try.ntmps19
  go_wp2_with (go_at_call 24; (with_reducible refine (hw _).mono ?_); rintro e w' ⟨rfl, rfl⟩)
  exact h1.out _ ((Below.refl _ _).alloc (Nat.le_refl _) _)
set_option maxHeartbeats 4000000 in
theorem memoryFits_says {w : World} (c : Cf) {p1 : Option Addr} {c1 : Nat} (p2 : Option Addr) (c2 : Nat) (p3 : Option Addr) (c3 : Nat) (L : LieS 3 w w.heap.size p1 c.parts.length c1 (c.parts.map ptC)) (wf : Wf c) (h8 : c.parts.length ≤ 8) (hh : hostOk c) (b : Bool) (hb : b = true ↔ memOk c.pages c.parts) :
    Calls Try.prog 21 #[cfV c p1 c1 p2 c2 p3 c3] w fun e w' => e = .returned (.bool b) ∧ Below w.heap.size w w' := by
  obtain ⟨p, hp⟩ : ∃ p : Ending → World → Prop, p = fun e w' => e = .returned (.bool b) ∧ Below w.heap.size w w' := ⟨_, rfl⟩
  rw [← hp]
  have h1 := Lib.hid (fun (h : memOk c.pages c.parts) w' (hw : Below w.heap.size w w') => (by rw [hp, hb.2 h]; exact ⟨rfl, hw⟩ : p (.returned (.bool true)) w'))
  have h0 := Lib.hid (fun (h : ¬ memOk c.pages c.parts) w' (hw : Below w.heap.size w w') => (by rw [hp, (by cases b with | true => exact absurd (hb.1 rfl) h | false => rfl : b = false)]; exact ⟨rfl, hw⟩ : p (.returned (.bool false)) w'))
  clear hp hb
  obtain ⟨l, hl⟩ : ∃ l, c.parts = l := ⟨_, rfl⟩
  obtain ⟨pg, hpg⟩ : ∃ pg, c.pages = pg := ⟨_, rfl⟩
  obtain ⟨m, hm⟩ : ∃ m, l.length = m := ⟨_, rfl⟩
  have hpgs := hh
  unfold hostOk at hpgs
  simp only [cfV]
  rw [hl] at L h8 h1 h0
  rw [hpg] at hpgs h1 h0
  rw [hl, hpg, hm]
  rw [hm] at L h8
  obtain ⟨h, hhz⟩ : ∃ h, w.heap.size = h := ⟨_, rfl⟩
  rw [hhz] at L h1 h0
  obtain ⟨mj, hmj⟩ : ∃ mj, c.major = mj := ⟨_, rfl⟩
  obtain ⟨sw, hsw⟩ : ∃ sw, c.switch = sw := ⟨_, rfl⟩
  obtain ⟨n2, hn2⟩ : ∃ n2, c.chans.length = n2 := ⟨_, rfl⟩
  obtain ⟨n3, hn3⟩ : ∃ n3, c.wins.length = n3 := ⟨_, rfl⟩
  rw [hmj, hsw, hn2, hn3]
  clear hmj hsw hn2 hn3 hl hpg wf hh
  obtain ⟨w1, hw1⟩ : ∃ w1, w1 = w.alloc (.cells #[i64 pg, i64 mj, i64 sw, .slice p1 m c1, .slice p2 n2 c2, .slice p3 n3 c3] 49) := ⟨_, rfl⟩
  have b1 : Below h w w1 := by rw [hw1]; exact (Below.refl _ _).alloc (Nat.le_of_eq hhz.symm) _
  have hg1 : w1.heap.size = h + 1 := by rw [hw1, ← hhz]; simp
  have z0 : w1.cell? ⟨h, 0, none⟩ = some (i64 pg) := by rw [hw1, ← hhz]; rw [cell_of_row _ _ 0 _ _ _ (heap_alloc_new _ _)]; rfl
  have z3 : w1.cell? ⟨h, 3, none⟩ = some (.slice p1 m c1) := by rw [hw1, ← hhz]; rw [cell_of_row _ _ 3 _ _ _ (heap_alloc_new _ _)]; rfl
  have L1 := L.kept b1 (Nat.le_refl _)
  have hlm : l.length = m := hm
  clear L
  go_enter Try.func21, Try.ntmps21
  go_upto_region 1 with fail
  try simp only [hhz]
  rw [← hw1]
  clear hw1
  go_wp2
  go_loopw [3, 5, 9] (fun s _ i wr => Below (h + 1) w1 wr ∧ ∃ j : Nat, j ≤ m ∧ i = .int .i64 j ∧ s = .int .i64 (sumTo l j) ∧ ∀ (k : Nat) (p : Pt), k < j → l[k]? = some p → 1 ≤ p.pages ∧ p.pages ≤ 64) (fun _ _ i _ => m - (intOf i).toNat)
  case atStart => exact ⟨Below.refl _ _, 0, Nat.zero_le _, rfl, rfl, fun k p hk => absurd hk (Nat.not_lt_zero _)⟩
  case round =>
    obtain ⟨b2, j, hj, rfl, rfl, hk⟩ := hrel
    by_cases hjl : j < m
    · have hjI : (j : Int) < (m : Int) := by omega
      obtain ⟨x, hx⟩ : ∃ x, l[j]? = some x := ⟨_, List.getElem?_eq_getElem (by omega)⟩
      obtain ⟨b, off, rfl, hbl, y0, y1, y2⟩ := (L1.kept b2 (Nat.le_succ _)).cell3 j x hx rfl
      have hsum := sumTo_le l j hk (by omega)
      have hnext := Lib.hid (fun hy : 1 ≤ x.pages ∧ x.pages ≤ 64 => (⟨sumTo_succ l j x hx, fun k q hkj hq => by
        by_cases e : k = j
        · subst e; rw [hx] at hq; cases hq; exact hy
        · exact hk k q (by omega) hq⟩ : sumTo l (j + 1) = sumTo l j + x.pages ∧ ∀ (k : Nat) (q : Pt), k < j + 1 → l[k]? = some q → 1 ≤ q.pages ∧ q.pages ≤ 64))
      have hno := Lib.hid (fun (hy : ¬ (1 ≤ x.pages ∧ x.pages ≤ 64)) w' hw => h0.out (fun hm => hy (hm.1 j x hx)) w' hw)
      have bb := Lib.hid (b1.trans (b2.mono (Nat.le_succ _)))
      have hls := hsum.1
      have hlt := hsum.2
      have hj8 : sumTo l j ≤ 512 := by omega
      have hjb : j < 8 := by omega
      obtain ⟨sm, hsm⟩ : ∃ sm, sumTo l j = sm := ⟨_, rfl⟩
      rw [hsm] at hls hj8
      rw [hsm] at hnext ⊢
      clear hsum hlt hx L1 hk h1 h0 z0 z3 hsm hpgs h8
      go_upto_region 5 with fail
      obtain ⟨w2, hw2⟩ : ∃ w2, w2 = wr.alloc (.cells #[.string x.name, .int .i64 x.pages, .int .i64 x.act] 38) := ⟨_, rfl⟩
      have b3 := Lib.hid (by rw [hw2]; exact b2.alloc (by have := b2.size; omega) _ : Below (h + 1) w1 w2)
      obtain ⟨g, hg⟩ : ∃ g, wr.heap.size = g := ⟨_, rfl⟩
      have v1 : w2.cell? ⟨g, 1, none⟩ = some (i64 x.pages) := by rw [hw2, ← hg]; rw [cell_of_row _ _ 1 _ _ _ (heap_alloc_new _ _)]; rfl
      rw [hg, ← hw2]
      clear hw2 hg y0 y1 y2 b2
      obtain ⟨xp, hxp⟩ : ∃ xp, x.pages = xp := ⟨_, rfl⟩
      rw [hxp] at hnext hno v1
      clear hxp
      by_cases hy : 1 ≤ xp ∧ xp ≤ 64
      · have hw := within_yes hy w2
        have hn := hnext.out hy
        obtain ⟨q1, q2⟩ := hy
        have e1 : IntKind.i64.wrap (sm + xp) = sm + xp := by rw [IntKind.wrap_i64]; omega
        have hm1 := Lib.hid hn
        clear hn hno hnext q1 q2
        go_wp2_with (go_at_call 24; (with_reducible refine hw.mono ?_); rintro e w' ⟨rfl, rfl⟩)
        go_roundw
        case rel => exact ⟨b3.out, j + 1, hjl, by go_num, by rw [hm1.out.1], hm1.out.2⟩
        case measure => simp [intOf]; omega
      · have hw := within_no hy w2
        have hn := Lib.hid (hno.out hy _ (b1.trans (b3.out.mono (Nat.le_succ _))))
        clear hno hnext hy bb b3 b1
        go_wp2_with (go_at_call 24; (with_reducible refine hw.mono ?_); rintro e w' ⟨rfl, rfl⟩)
        exact hn.out
    · have hjm : j = m := by omega
      subst hjm
      have z0' := (World.cell?_of_block (b2.block h (Nat.lt_succ_self _))).trans z0
      have bb := b1.trans (b2.mono (Nat.le_succ _))
      have hsum := sumTo_le l j hk (by omega)
      have hall : ∀ (k : Nat) (p : Pt), l[k]? = some p → 1 ≤ p.pages ∧ p.pages ≤ 64 := fun k q hq => hk k q (by have := (List.getElem?_eq_some_iff.1 hq).1; omega) hq
      have e1 : IntKind.i64.wrap (pg - 4) = pg - 4 := by rw [IntKind.wrap_i64]; omega
      have hms : sumTo l l.length = sumTo l j := by rw [hlm]
      obtain ⟨sm, hsm⟩ : ∃ sm, sumTo l j = sm := ⟨_, rfl⟩
      by_cases hle : sm ≤ pg - 4
      · have hr := Lib.hid (h1.out ⟨hall, by rw [hms, hsm]; exact hle⟩ wr bb)
        rw [hsm]
        clear h1 h0 hall hsum hms hsm hk bb L1 z3
        go_wp2
        exact hr.out
      · have hr := Lib.hid (h0.out (fun hm => hle (by have := hm.2; rw [hms, hsm] at this; exact this)) wr bb)
        rw [hsm]
        clear h1 h0 hall hsum hms hsm hk bb L1 z3
        go_wp2
        exact hr.out
end Go.Proofs.Ytlddclkophajbaa.Cfg
