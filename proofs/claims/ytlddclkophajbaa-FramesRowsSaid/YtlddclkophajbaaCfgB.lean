
/-
  Package config: partsFit, and what it hands over.
-/
import Derived.Test.YtlddclkophajbaaCfgA
set_option maxRecDepth 100000
set_option linter.unusedVariables false
namespace Go.Proofs.Ytlddclkophajbaa.Cfg
open Go.Proofs.Ytlddclkophajbaa
open Go.ChangeShapes Go.WideShapes Go.ChangeAt Go.RowKit
theorem name_eq (a b : ByteArray) : (a.toList == b.toList) = decide (a = b) := by
  by_cases h : a = b
  · subst h; simp
  · rw [decide_eq_false h]
    have h2 : ¬ a.toList = b.toList := by
      intro h'
      rw [ByteArray.toList_eq, ByteArray.toList_eq] at h'
      exact h (ByteArray.ext (Array.toList_inj.mp h'))
    simpa using h2
abbrev ptV (q : Pt) : Value := .agg #[.string q.name, i64 q.pages, i64 q.act]
theorem below_alloc (w : World) (o : Obj) : Below w.heap.size w (w.alloc o) := (Below.refl _ _).alloc (Nat.le_refl _) o
theorem pclos_says (q : Pt) (s : ByteArray) (b : Bool) (hb : b = true ↔ q.name = s) {g : Nat} (w : World) (z : w.cell? ⟨g, 0, none⟩ = some (.string s)) (hg : g < w.heap.size) :
    Calls Try.prog 26 (#[ptV q] ++ #[.pointer (some ⟨g, 0, none⟩)]) w fun e w' => e = .returned (.bool b) ∧ Below w.heap.size w w' := by
  obtain ⟨p, hp⟩ : ∃ p : Ending → World → Prop, p = fun e w' => e = .returned (.bool b) ∧ Below w.heap.size w w' := ⟨_, rfl⟩
  rw [← hp]
  have e1 : (q.name.toList == s.toList) = b := by
    rw [name_eq]
    cases b with
    | true => exact decide_eq_true (hb.1 rfl)
    | false => exact decide_eq_false (fun h => by have := hb.2 h; cases this)
  have h1 := Lib.hid (fun w' (h : Below w.heap.size w w') => (by rw [hp]; exact ⟨rfl, h⟩ : p (.returned (.bool b)) w'))
  clear hp hb
  obtain ⟨nm, hnm⟩ : ∃ nm, q.name = nm := ⟨_, rfl⟩
  obtain ⟨pg, hpg⟩ : ∃ pg, q.pages = pg := ⟨_, rfl⟩
  obtain ⟨ac, hac⟩ : ∃ ac, q.act = ac := ⟨_, rfl⟩
  simp only [ptV]
  rw [hnm] at e1
  rw [hnm, hpg, hac]
  obtain ⟨w1, hw1⟩ : ∃ w1, w1 = w.alloc (.cells #[.string nm, i64 pg, i64 ac] 38) := ⟨_, rfl⟩
  have b1 := Lib.hid (by rw [hw1]; exact below_alloc _ _ : Below w.heap.size w w1)
  have z1 := (World.cell?_of_block (b1.out.block g hg)).trans z
  have z2 : w1.cell? ⟨w.heap.size, 0, none⟩ = some (.string nm) := by rw [hw1]; rw [cell_of_row _ _ 0 _ _ _ (heap_alloc_new _ _)]; rfl
  clear z hg
  go_enter Try.func26, Try.ntmps26
  go_upto_region 1 with fail
  rw [← hw1]
  clear hw1
  go_wp2
  try rw [e1]
  exact h1.out _ b1.out
/-- Where the search stands. -/
structure Srch {α : Type} (P : α → Prop) (w wr : World) (l : List α) (j : Nat) : Prop where
  b : Below w.heap.size w wr
  no : ∀ (i : Nat) (q : α), i < j → l[i]? = some q → ¬ P q
theorem Srch.next {α : Type} {P : α → Prop} {w wr w' : World} {l : List α} {j : Nat} (s : Srch P w wr l j) {x : α} (hx : l[j]? = some x) (hn : ¬ P x) (b : Below wr.heap.size wr w') : Srch P w w' l (j + 1) :=
  ⟨s.b.trans (b.mono s.b.size), fun i q hi hq => by
    by_cases e : i = j
    · subst e; rw [hx] at hq; cases hq; exact hn
    · exact s.no i q (by omega) hq⟩
/-- What the search tells. -/
def Found {α : Type} (P : α → Prop) (l : List α) (w : World) (e : Ending) (w' : World) : Prop :=
  Below w.heap.size w w' ∧ (((∀ (i : Nat) (q : α), l[i]? = some q → ¬ P q) ∧ e = .returned (i64 (-1))) ∨ ∃ (j : Nat) (x : α), l[j]? = some x ∧ P x ∧ e = .returned (i64 j))
set_option maxHeartbeats 4000000 in
theorem pidx_says {w : World} {p : Option Addr} {m c : Nat} {l : List Pt} (L : LieS 3 w w.heap.size p m c (l.map ptC)) (hm : m ≤ 9223372036854775807) (f : Nat) (cap : Array Value) (P : Pt → Prop) (dP : ∀ q, Decidable (P q))
    (eg : ∀ args w, (callFunc f args).run Try.prog w = .ok (.enter f args) w)
    (hc : ∀ (i : Nat) (q : Pt), l[i]? = some q → ∀ u, Below w.heap.size w u → ∀ b : Bool, (b = true ↔ P q) → Calls Try.prog f (#[ptV q] ++ cap) u fun e w' => e = .returned (.bool b) ∧ Below u.heap.size u w') :
    Calls Try.prog 32 #[.slice p m c, .func (.func f) #[] cap] w (Found P l w) := by
  obtain ⟨r, hr⟩ : ∃ r, r = Found P l w := ⟨_, rfl⟩
  rw [← hr]
  have hlm : l.length = m := by have := L.len; rw [List.length_map] at this; exact this
  have hout1 := Lib.hid (fun wr (s : Srch P w wr l m) => (by rw [hr]; exact ⟨s.b, .inl ⟨fun i q hq => s.no i q (by have := (List.getElem?_eq_some_iff.1 hq).1; omega) hq, rfl⟩⟩ : r (.returned (i64 (-1))) wr))
  have hout2 := Lib.hid (fun (j : Nat) (x : Pt) wr w' (s : Srch P w wr l j) (hx : l[j]? = some x) (hp : P x) (b : Below wr.heap.size wr w') => (by rw [hr]; exact ⟨s.b.trans (b.mono s.b.size), .inr ⟨j, x, hx, hp, rfl⟩⟩ : r (.returned (i64 j)) w'))
  replace hc := Lib.hid hc
  clear hr
  go_enter Try.func32, Try.ntmps32
  go_wp2_with fail
  go_loopw [5, 8] (fun _ i wr => ∃ j : Nat, j ≤ m ∧ i = .int .i64 j ∧ Srch P w wr l j) (fun _ i _ => m - (intOf i).toNat)
  case atStart => exact ⟨0, Nat.zero_le _, rfl, Below.refl _ _, fun i q h => absurd h (Nat.not_lt_zero _)⟩
  case round =>
    obtain ⟨j, hj, rfl, s⟩ := hrel
    by_cases hjl : j < m
    · have hjI : (j : Int) < (m : Int) := by omega
      obtain ⟨x, hx⟩ : ∃ x, l[j]? = some x := ⟨_, List.getElem?_eq_getElem (by omega)⟩
      obtain ⟨b, off, rfl, hbl, y0, y1, y2⟩ := (L.kept s.b (Nat.le_refl _)).cell3 j x hx rfl
      by_cases hp : P x
      · have hc1 := Lib.hid (hc.out j x hx wr s.b true (by simp [hp]))
        have ho := Lib.hid (fun w' => hout2.out j x wr w' s hx hp)
        clear hc hout1 hout2 s hx L hp
        go_wp2_with (go_at_fn f; refine hc1.out.mono ?_; rintro e w' ⟨rfl, b2⟩)
        exact ho.out w' b2
      · have hc1 := Lib.hid (hc.out j x hx wr s.b false (by simp [hp]))
        have hn := Lib.hid (fun w' (b : Below wr.heap.size wr w') => s.next hx hp b)
        clear hc hout1 hout2 s hx L hp
        go_wp2_with (go_at_fn f; refine hc1.out.mono ?_; rintro e w' ⟨rfl, b2⟩)
        go_roundw
        case rel => exact ⟨j + 1, hjl, by go_num, hn.out w' b2⟩
        case measure => simp [intOf]; omega
    · have hkn : j = m := by omega
      subst hkn
      have ho := Lib.hid (hout1.out wr s)
      clear s hc hout1 hout2
      go_wp2
      exact ho.out
theorem pcon_says {w : World} {p : Option Addr} {m c : Nat} {l : List Pt} (L : LieS 3 w w.heap.size p m c (l.map ptC)) (hm : m ≤ 9223372036854775807) (f : Nat) (cap : Array Value) (P : Pt → Prop) (dP : ∀ q, Decidable (P q))
    (eg : ∀ args w, (callFunc f args).run Try.prog w = .ok (.enter f args) w)
    (hc : ∀ (i : Nat) (q : Pt), l[i]? = some q → ∀ u, Below w.heap.size w u → ∀ b : Bool, (b = true ↔ P q) → Calls Try.prog f (#[ptV q] ++ cap) u fun e w' => e = .returned (.bool b) ∧ Below u.heap.size u w')
    (b : Bool) (hb : b = true ↔ ∃ (i : Nat) (q : Pt), l[i]? = some q ∧ P q) :
    Calls Try.prog 25 #[.slice p m c, .func (.func f) #[] cap] w fun e w' => e = .returned (.bool b) ∧ Below w.heap.size w w' := by
  have hi := Lib.hid (pidx_says L hm f cap P dP eg hc)
  obtain ⟨r, hr⟩ : ∃ r : Ending → World → Prop, r = fun e w' => e = .returned (.bool b) ∧ Below w.heap.size w w' := ⟨_, rfl⟩
  rw [← hr]
  have h1 := Lib.hid (fun v w' (hv : v = b) (h : Below w.heap.size w w') => (by rw [hr, hv]; exact ⟨rfl, h⟩ : r (.returned (.bool v)) w'))
  clear hr hc L
  go_enter Try.func25, Try.ntmps25
  go_wp2_with (go_at_call 32; refine hi.out.mono ?_; rintro e w' ⟨hbl, (⟨hno, rfl⟩ | ⟨j, x, hx, hpx, rfl⟩)⟩)
  · exact h1.out false w' (by cases b with | false => rfl | true => obtain ⟨i, q, h2, h3⟩ := hb.1 rfl; exact absurd h3 (hno i q h2)) hbl
  · exact h1.out true w' ((hb.2 ⟨j, x, hx, hpx⟩).symm) hbl
end Go.Proofs.Ytlddclkophajbaa.Cfg
