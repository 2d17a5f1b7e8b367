/-
  The laws' Big. | The law's One, num, alive.
-/
import Derived.Test.YtogbhgbnminpdaaDoorJnPlnAo
import Derived.Test.YtogbhgbnminpdaaDoorJnCfgG
import Derived.Test.YtogbhgbnminpdaaDoorJnCfgSt
set_option linter.unusedVariables false
set_option maxRecDepth 100000
set_option linter.unusedVariables false
namespace Go.Proofs.YtogbhgbnminpdaaDoor.Cfg
open Go.Proofs.YtogbhgbnminpdaaDoor
open Go.ChangeShapes Go.WideShapes Go.ChangeAt Go.RowKit
def bigP (c : Cf) : Prop := (20 < c.parts.length ∨ 40 < c.chans.length ∨ 60 < c.wins.length ∨ ∃ (k : Nat) (x : Pt), c.parts[k]? = some x ∧ 200 < x.name.size)
open Classical in
noncomputable def bigV (c : Cf) : Bool := decide (bigP c)
open Classical in
theorem bigV_t {c : Cf} (h : bigP c) : bigV c = true := by unfold bigV; exact decide_eq_true h
open Classical in
theorem bigV_f {c : Cf} (h : ¬ bigP c) : bigV c = false := by unfold bigV; exact decide_eq_false h
open Classical in
theorem bigV_no {c : Cf} (h : bigV c = false) : c.parts.length ≤ 20 ∧ c.chans.length ≤ 40 ∧ c.wins.length ≤ 60 := by
  have : ¬ bigP c := by unfold bigV at h; exact of_decide_eq_false h
  exact ⟨Nat.le_of_not_lt fun g => this (.inl g), Nat.le_of_not_lt fun g => this (.inr (.inl g)), Nat.le_of_not_lt fun g => this (.inr (.inr (.inl g)))⟩
set_option maxHeartbeats 8000000 in
theorem big_is {w : World} {c : Cf} {p1 : Option Addr} {c1 : Nat} {p2 : Option Addr} {c2 : Nat} {p3 : Option Addr} {c3 : Nat} (X : Cx w w.heap.size c p1 c1 p2 c2 p3 c3) :
    Calls Tryd.prog 6 #[cfV c p1 c1 p2 c2 p3 c3] w fun e w' => e = .returned (.bool (bigV c)) ∧ Below w.heap.size w w' := by
  obtain ⟨p, hp⟩ : ∃ p : Ending → World → Prop, p = fun e w' => e = .returned (.bool (bigV c)) ∧ Below w.heap.size w w' := ⟨_, rfl⟩
  rw [← hp]
  have HO := Lib.hid (fun w' (hw : Below w.heap.size w w') => (by rw [hp]; exact ⟨rfl, hw⟩ : p (.returned (.bool (bigV c))) w'))
  have q1 := Lib.hid (fun (g : 20 < c.parts.length) => (bigV_t (.inl g) : bigV c = true))
  have q2 := Lib.hid (fun (g : 40 < c.chans.length) => (bigV_t (.inr (.inl g)) : bigV c = true))
  have q3 := Lib.hid (fun (g : 60 < c.wins.length) => (bigV_t (.inr (.inr (.inl g))) : bigV c = true))
  have q4 := Lib.hid (fun (k : Nat) (x : Pt) (hx : c.parts[k]? = some x) (g : 200 < x.name.size) => (bigV_t (.inr (.inr (.inr ⟨k, x, hx, g⟩))) : bigV c = true))
  have q0 := Lib.hid (fun (g1 : ¬ 20 < c.parts.length) (g2 : ¬ 40 < c.chans.length) (g3 : ¬ 60 < c.wins.length) (g4 : ∀ (k : Nat) (x : Pt), c.parts[k]? = some x → ¬ 200 < x.name.size) => (bigV_f (by
    rintro (g | g | g | ⟨k, x, hx, g⟩)
    · exact g1 g
    · exact g2 g
    · exact g3 g
    · exact g4 k x hx g) : bigV c = false))
  obtain ⟨V, hV⟩ : ∃ V, bigV c = V := ⟨_, rfl⟩
  rw [hV] at HO
  simp only [hV] at q1 q2 q3 q4 q0
  clear hV
  clear hp
  obtain ⟨h, hhz⟩ : ∃ h, w.heap.size = h := ⟨_, rfl⟩
  rw [hhz] at HO
  have L3 := Lib.hid (hhz ▸ X.L1)
  have wl := X.wf.len
  obtain ⟨l, hl⟩ : ∃ l, c.parts = l := ⟨_, rfl⟩
  simp only [cfV, hl] at L3 wl q1 q4 q0 ⊢
  clear X
  obtain ⟨pg, qpg⟩ : ∃ pg, c.pages = pg := ⟨_, rfl⟩
  obtain ⟨mj, qmj⟩ : ∃ mj, c.major = mj := ⟨_, rfl⟩
  obtain ⟨sw, qsw⟩ : ∃ sw, c.switch = sw := ⟨_, rfl⟩
  obtain ⟨m, qm⟩ : ∃ m, l.length = m := ⟨_, rfl⟩
  obtain ⟨n2, qn2⟩ : ∃ n2, c.chans.length = n2 := ⟨_, rfl⟩
  obtain ⟨n3, qn3⟩ : ∃ n3, c.wins.length = n3 := ⟨_, rfl⟩
  simp only [qm, qn2, qn3] at L3 wl q1 q2 q3 q0
  simp only [qpg, qmj, qsw, qn2, qn3, qm]
  have hlm := qm
  clear qpg qmj qsw qn2 qn3 qm hl
  obtain ⟨w1, hw1⟩ : ∃ w1, w1 = w.alloc (.cells #[i64 pg, i64 mj, i64 sw, .slice p1 m c1, .slice p2 n2 c2, .slice p3 n3 c3] 26) := ⟨_, rfl⟩
  have b1 := Lib.hid (by rw [hw1]; exact (Below.refl _ _).alloc (Nat.le_of_eq hhz.symm) _ : Below h w w1)
  have hg1 : w1.heap.size = h + 1 := by rw [hw1, ← hhz]; simp
  have hZ := Lib.hid (fun k v hv => by
    rw [hw1, ← hhz, cell_of_row _ _ k _ _ _ (heap_alloc_new _ _), ← Array.getElem?_toList]; exact hv : ∀ (k : Nat) (v : Value), [i64 pg, i64 mj, i64 sw, .slice p1 m c1, .slice p2 n2 c2, .slice p3 n3 c3][k]? = some v → w1.cell? ⟨h, k, none⟩ = some v)
  have L1 := Lib.hid (L3.out.kept b1.out (Nat.le_refl _))
  clear L3
  have ho1 := Lib.hid (HO.out w1 b1.out)
  have z3 := hZ.out 3 _ rfl
  have z4 := hZ.out 4 _ rfl
  have z5 := hZ.out 5 _ rfl
  go_enter Tryd.func6, Tryd.ntmps6
  go_upto_region 1 with fail
  try simp only [hhz]
  rw [← hw1]
  clear hw1
  by_cases k1 : m > 20
  · have hv := q1.out (by omega)
    subst hv
    clear HO b1 L1 hZ wl q1 q2 q3 q4 q0
    go_wp2
    exact ho1.out
  by_cases k2 : n2 > 40
  · have hv := q2.out (by omega)
    subst hv
    clear HO b1 L1 hZ wl q1 q2 q3 q4 q0
    go_wp2
    exact ho1.out
  by_cases k3 : n3 > 60
  · have hv := q3.out (by omega)
    subst hv
    clear HO b1 L1 hZ wl q1 q2 q3 q4 q0
    go_wp2
    exact ho1.out
  clear ho1 wl
  go_wp2
  go_loopw [3] (fun i wr => wr = w1 ∧ ∃ j : Nat, j ≤ m ∧ i = .int .i64 j ∧ ∀ (k : Nat) (x : Pt), k < j → l[k]? = some x → ¬ 200 < x.name.size) (fun i _ => m - (intOf i).toNat)
  case atStart => exact ⟨rfl, 0, Nat.zero_le _, rfl, fun k x hk => absurd hk (Nat.not_lt_zero _)⟩
  case round =>
    obtain ⟨rfl, j, hj, rfl, hall⟩ := hrel
    by_cases hjl : j < m
    · have hjI : (j : Int) < (m : Int) := by omega
      have hjb : j < 20 := by omega
      obtain ⟨x, hx⟩ : ∃ x, l[j]? = some x := ⟨_, List.getElem?_eq_getElem (by omega)⟩
      obtain ⟨b, off, rfl, hbl, y0, y1, y2⟩ := L1.out.cell3 j x hx rfl
      obtain ⟨nm, pp, aa⟩ := x
      simp only at y0 y1 y2
      have ho := Lib.hid (HO.out wr b1.out)
      by_cases k4 : nm.size > 200
      · have hv := q4.out j _ hx k4
        subst hv
        clear b1 HO L1 hx hZ y1 y2 z4 hall q1 q2 q3 q4 q0
        go_wp2
        exact ho.out
      · have hnx := Lib.hid (fun (k : Nat) (q : Pt) (hk : k < j + 1) (hq : l[k]? = some q) => (by
          by_cases e : k = j
          · subst e; rw [hx] at hq; cases hq; exact k4
          · exact hall k q (by omega) hq : ¬ 200 < q.name.size))
        clear ho HO L1 hx hZ y1 y2 z4 hall q1 q2 q3 q4 q0
        go_wp2
        go_roundw
        case rel => exact ⟨(by first | trivial | rfl), j + 1, hjl, by go_num, hnx.out⟩
        case measure => simp [intOf]; omega
    · have hjm : j = m := by omega
      subst hjm
      have hv := q0.out (by omega) k2 k3 (fun k x hx => hall k x (by have := (List.getElem?_eq_some_iff.1 hx).1; omega) hx)
      subst hv
      have ho := Lib.hid (HO.out wr b1.out)
      clear HO L1 hZ b1 hall q1 q2 q3 q4 q0
      go_wp2
      exact ho.out
end Go.Proofs.YtogbhgbnminpdaaDoor.Cfg
set_option maxRecDepth 100000
set_option linter.unusedVariables false
namespace Go.Proofs.YtogbhgbnminpdaaDoor.Cfg
open Go.Proofs.YtogbhgbnminpdaaDoor
open Go.ChangeShapes Go.WideShapes Go.ChangeAt Go.RowKit
theorem num_says14 (n : Int) (w : World) : Calls Tryd.prog 11 #[i64 n] w fun e w' => e = .returned (i64 n) ∧ w = w' := by
  obtain ⟨r, hr⟩ : ∃ r : Ending → World → Prop, r = fun e w' => e = .returned (i64 n) ∧ w = w' := ⟨_, rfl⟩
  rw [← hr]
  have HO := Lib.hid (by rw [hr]; exact ⟨rfl, rfl⟩ : r (.returned (i64 n)) w)
  clear hr
  go_enter Tryd.func11, Tryd.ntmps11
  go_wp2
  exact HO.out
/-- A row of structs that was laid in a new block. -/
theorem ownS_new (E : TypeId) (st : Nat) (w : World) (B : Nat) (hB : B ≤ w.heap.size) (vs : List (List Value)) (he : Even st vs) (hn : vs.length ≤ 1000) : OwnS E st (w.alloc (.cells vs.flatten.toArray E)) B (.slice (some ⟨w.heap.size, 0, none⟩) vs.length vs.length) vs := by
  refine ⟨he.flat, .inr ⟨w.heap.size, vs.length, vs.flatten.toArray, rfl, hB, heap_alloc_new _ _, Nat.le_refl _, by unfold maxLen; omega, ?_, ?_⟩⟩
  · simp only [List.size_toArray]; rw [he.flat]
  · have := he.flat
    rw [← this]
    show vs.flatten.take vs.flatten.length = vs.flatten
    exact List.take_length
def oneC : Cf := ⟨5, 10, 0, [⟨⟨#[97]⟩, 1, 0⟩], [], [⟨0, 10, 0⟩]⟩
theorem okN_a : okN ⟨#[97]⟩ := ⟨by decide, by decide, fun k h => by
  have hk : k = 0 := by have : (ByteArray.mk #[97]).size = 1 := rfl; omega
  subst hk; have e : (ByteArray.mk #[97])[0].toNat = 97 := rfl; rw [e]; exact .inl ⟨by decide, by decide⟩⟩
theorem one_ok : chk oneC = 0 := by
  have g1 : hostOk oneC := by unfold hostOk oneC; decide
  have g2 : partsOk oneC.parts := ⟨by decide, fun k p hk => by
    match k, hk with
    | 0, hk => injection hk with hk; subst hk; exact ⟨okN_a, by decide, fun j q hj => by omega⟩
    | k + 1, hk => simp [oneC] at hk⟩
  have g3 : memOk oneC.pages oneC.parts := ⟨fun k p hk => by
    match k, hk with
    | 0, hk => injection hk with hk; subst hk; decide
    | k + 1, hk => simp [oneC] at hk, by decide⟩
  have g4 : chansOk oneC.parts.length oneC.chans := ⟨by decide, fun k p hk => by simp [oneC] at hk⟩
  have g5 : planOk oneC := ⟨by decide, by decide, by decide, fun k p hk => by
    match k, hk with
    | 0, hk => injection hk with hk; subst hk; exact ⟨by decide, by decide, by decide, by decide⟩
    | k + 1, hk => simp [oneC] at hk⟩
  show chkB _ _ _ _ _ = 0
  simp [chkB, g1, g2, g3, g4, g5]
theorem one_wf : Wf oneC := ⟨by decide, by decide, by decide, ⟨fun k p hk => by
    match k, hk with
    | 0, hk => injection hk with hk; subst hk; exact ⟨by decide, by decide⟩
    | k + 1, hk => simp [oneC] at hk, fun k p hk => by
    match k, hk with
    | 0, hk => injection hk with hk; subst hk; exact ⟨by decide, by decide⟩
    | k + 1, hk => simp [oneC] at hk⟩, by decide⟩
/-- One tells a configuration whose rows are the call's own. -/
def OneR (w : World) (e : Ending) (w' : World) : Prop := ∃ g1 g3, e = .returned (.agg #[i64 5, i64 10, i64 0, .slice (some ⟨g1, 0, none⟩) 1 1, .slice none 0 0, .slice (some ⟨g3, 0, none⟩) 1 1]) ∧ g1 ≠ g3 ∧ Below w.heap.size w w' ∧
  OwnS 47 3 w' w.heap.size (.slice (some ⟨g1, 0, none⟩) 1 1) (oneC.parts.map ptC) ∧ OwnS 51 3 w' w.heap.size (.slice (some ⟨g3, 0, none⟩) 1 1) (oneC.wins.map wnC)
theorem one_says (w : World) : Calls Tryd.prog 17 #[] w (OneR w) := by
  obtain ⟨r, hr⟩ : ∃ r, r = OneR w := ⟨_, rfl⟩
  rw [← hr]
  go_enter Tryd.func17, Tryd.ntmps17
  go_wp2
  obtain ⟨wa, hwa⟩ : ∃ wa, wa = w.alloc (.cells #[i64 5, i64 10, i64 0, .slice (some ⟨w.heap.size + 1, 0, none⟩) 1 1, .slice none 0 0, .slice (some ⟨w.heap.size + 1 + 1, 0, none⟩) 1 1] 26) := ⟨_, rfl⟩
  obtain ⟨wb, hwb⟩ : ∃ wb, wb = wa.alloc (.cells #[.string ⟨#[97]⟩, i64 1, i64 0] 47) := ⟨_, rfl⟩
  obtain ⟨wc, hwc⟩ : ∃ wc, wc = wb.alloc (.cells #[i64 0, i64 10, i64 0] 51) := ⟨_, rfl⟩
  rw [← hwa, ← hwb, ← hwc]
  have sa : wa.heap.size = w.heap.size + 1 := by rw [hwa]; simp
  have sb : wb.heap.size = w.heap.size + 1 + 1 := by rw [hwb]; simp [sa]
  have hbl : Below wa.heap.size wa wc := by rw [hwc, hwb]; exact (below_alloc _ _).alloc (by simp) _
  have hbl2 : Below wb.heap.size wb wc := by rw [hwc]; exact below_alloc _ _
  have Z : ∀ (k : Nat) (v : Value), [i64 5, i64 10, i64 0, Value.slice (some ⟨w.heap.size + 1, 0, none⟩) 1 1, .slice none 0 0, .slice (some ⟨w.heap.size + 1 + 1, 0, none⟩) 1 1][k]? = some v → wc.cell? ⟨w.heap.size, k, none⟩ = some v := fun k v hv => by
    rw [World.cell?_of_block (hbl.block w.heap.size (by omega)), hwa, cell_of_row _ _ k _ _ _ (heap_alloc_new _ _), ← Array.getElem?_toList]; exact hv
  have c0 := Z 0 _ rfl
  have c1 := Z 1 _ rfl
  have c2 := Z 2 _ rfl
  have c3 := Z 3 _ rfl
  have c4 := Z 4 _ rfl
  have c5 := Z 5 _ rfl
  refine bodyPost_ret (v := .agg #[i64 5, i64 10, i64 0, .slice (some ⟨w.heap.size + 1, 0, none⟩) 1 1, .slice none 0 0, .slice (some ⟨w.heap.size + 1 + 1, 0, none⟩) 1 1]) (by simp [results, Tryd.results17, go_sem, c0, c1, c2, c3, c4, c5]) rfl ?_
  rw [hr]
  refine ⟨_, _, rfl, by omega, ?_, ?_, ?_⟩
  · exact (show Below w.heap.size w wa by rw [hwa]; exact below_alloc _ _).trans (hbl.mono (by omega))
  · have h1 := ownS_new 47 3 wa w.heap.size (by omega) (oneC.parts.map ptC) (even_pt _) (by decide)
    rw [sa] at h1
    have h2 : OwnS 47 3 wb w.heap.size (.slice (some ⟨w.heap.size + 1, 0, none⟩) 1 1) (oneC.parts.map ptC) := by rw [hwb]; exact h1
    exact ownS_below h2 hbl2
  · have h1 := ownS_new 51 3 wb w.heap.size (by omega) (oneC.wins.map wnC) (even_wn _) (by decide)
    rw [sb] at h1
    rw [hwc]; exact h1
theorem alive14 (w : World) : Calls Tryd.prog 5 #[] w fun e w' => e = .returned (.bool true) ∧ Below w.heap.size w w' := by
  obtain ⟨r, hr⟩ : ∃ r : Ending → World → Prop, r = fun e w' => e = .returned (.bool true) ∧ Below w.heap.size w w' := ⟨_, rfl⟩
  rw [← hr]
  have HO := Lib.hid (fun u (b : Below w.heap.size w u) => (by rw [hr]; exact ⟨rfl, b⟩ : r (.returned (.bool true)) u))
  clear hr
  go_enter Tryd.func5, Tryd.ntmps5
  go_wp2_with (first
    | (go_at_call 8; (with_reducible refine (HC.out).mono ?_); rintro e w2 ⟨rfl, hb2⟩)
    | (go_at_call 11; (with_reducible refine (num_says14 _ _).mono ?_); rintro e t' ⟨rfl, rfl⟩)
    | (go_at_call 17; (with_reducible refine (one_says _).mono ?_); rintro e w1 ⟨g1, g3, rfl, hne, hb1, o1, o3⟩; have HC := Lib.hid (by
        obtain ⟨q1, c1, e1, m1, L1⟩ := ownS_lie o1 (even_pt _)
        obtain ⟨q3, c3, e3, m3, L3⟩ := ownS_lie o3 (even_wn _)
        injection e1 with e11 e12 e13
        injection e3 with e31 e32 e33
        subst e11 e31
        have := check_says (c := oneC) (p2 := none) (c2 := 0) L1 (lieS_nil 5 w1 w1.heap.size 0 (fun _ => rfl)) L3 one_wf (by rw [← e13]; omega)
        rw [one_ok, ← e13, ← e33] at this
        exact this : Calls Tryd.prog 8 #[.agg #[i64 5, i64 10, i64 0, .slice (some ⟨g1, 0, none⟩) 1 1, .slice none 0 0, .slice (some ⟨g3, 0, none⟩) 1 1]] w1 fun e w' => e = .returned (i64 0) ∧ Below w1.heap.size w1 w')))
  exact HO.out _ (hb1.trans (hb2.mono hb1.size))
end Go.Proofs.YtogbhgbnminpdaaDoor.Cfg
