
/-
  Flush: the function that it hands over, the search, the sweep.
-/
import Derived.Test.YtkcjhhppfolajaaTlbEv
import Derived.Shelf.Abstract
namespace Go.Proofs.Ytkcjhhppfolajaa
open Go.ChangeShapes Go.WideShapes Go.ChangeAt Go.RowKit
theorem hidF {p : Prop} (h : p) : Hid p := h
/-- What the function of Flush reads. -/
structure Clo (W : World) (h m bt bx : Nat) (tag : Int) : Prop where
  ct : W.cell? ⟨bt, 0, none⟩ = some (i64 tag)
  cx : W.cell? ⟨bx, 0, none⟩ = some (.pointer (some ⟨h, 0, none⟩))
  ch : W.cell? ⟨h, 1, none⟩ = some (.map (some m))
theorem Clo.kept {W W' : World} {h m bt bx : Nat} {tag : Int} {S : Nat → Prop} (c : Clo W h m bt bx tag) (b : But S W W') (h1 : ¬ S bt) (h2 : ¬ S bx) (h3 : ¬ S h) : Clo W' h m bt bx tag :=
  ⟨b.cell c.ct h1, b.cell c.cx h2, b.cell c.ch h3⟩
/-- The values that it has captured. -/
abbrev cap2 (bt bx : Nat) : Array Value := #[.pointer (some ⟨bt, 0, none⟩), .pointer (some ⟨bx, 0, none⟩)]
theorem clo_no {W : World} {h m bt bx : Nat} {tag : Int} (c : Clo W h m bt bx tag) (k : Key) (hk : ¬ k.1 = tag) :
    Calls Try.prog 15 (#[.agg #[i64 k.1, i64 k.2]] ++ cap2 bt bx) W fun e w' => e = .returned (.bool false) ∧ But (fun _ => False) W w' := by
  obtain ⟨a, b⟩ := k
  have b0 : But (fun _ => False) W (W.alloc (.cells #[i64 a, i64 b] 42)) := (But.refl _ W).alloc _
  have h1 := b0.cell c.ct id
  have h0 := c.ct
  go_enter Try.func15, Try.ntmps15
  go_wp2
  go_ret
  exact ⟨rfl, b0⟩
theorem clo_yes {W : World} {h m bt bx : Nat} {tag : Int} (c : Clo W h m bt bx tag) {A B : List Ent} {x : Ent} (hm : MapF W m (tlook (A ++ x :: B)) (A ++ x :: B).length) (hu : Uniq (A ++ x :: B)) (hki : KeyIn x.1) (hk : x.1.1 = tag) :
    Calls Try.prog 15 (#[.agg #[i64 x.1.1, i64 x.1.2]] ++ cap2 bt bx) W fun e w' => e = .returned (.bool true) ∧ MapF w' m (tlook (A ++ B)) (A ++ B).length ∧ But (fun i => i = m) W w' := by
  obtain ⟨⟨a, b⟩, e⟩ := x
  have hk : a = tag := hk
  subst hk
  have b0 : But (fun _ => False) W (W.alloc (.cells #[i64 a, i64 b] 42)) := (But.refl _ W).alloc _
  have hm0 : MapF (W.alloc (.cells #[i64 a, i64 b] 42)).drew m (tlook (A ++ ((a, b), e) :: B)) (A ++ ((a, b), e) :: B).length := hm.kept (b0.block m hm.lt id)
  obtain ⟨w1, hrun, hm1, ht1⟩ := hm0.cut hu hki
  have hb : But (fun i => i = m) W w1 := (b0.mono (fun _ h => h.elim)).drew.map rfl ht1
  have h1 := b0.cell c.ct id
  have h2 := b0.cell c.cx id
  have h3 := b0.cell c.ch id
  have h0 := c.ct
  have HR := hidF hrun
  clear hrun hm0 b0
  go_enter Try.func15, Try.ntmps15
  go_wp2_with fail
  go_region_law (refine step_delete rfl (.tmp 12) (.tmp 13) rfl m (a, b) (by simp [Act.eval]) (by simp [Act.eval]) HR.out ?_)
  all_goals
    go_wp2
    go_ret
    exact ⟨rfl, hm1, hb⟩
/-- What the search tells: that none of the tag is there; or the first one, which is gone from the map. -/
def Found (m : Nat) (l : List Ent) (tag : Int) (w : World) (e : Ending) (w' : World) : Prop :=
  ((∀ y ∈ l, ¬ y.1.1 = tag) ∧ e = .returned (i64 (-1)) ∧ MapF w' m (tlook l) l.length ∧ But (fun i => i = m) w w') ∨
  ∃ j, ∃ h : j < l.length, (∀ i (hi : i < l.length), i < j → ¬ l[i].1.1 = tag) ∧ l[j].1.1 = tag ∧ e = .returned (i64 j) ∧ MapF w' m (tlook (l.take j ++ l.drop (j + 1))) (l.take j ++ l.drop (j + 1)).length ∧ But (fun i => i = m) w w'
structure Srch (w wr : World) (l : List Ent) (tag : Int) (j : Nat) : Prop where
  b : But (fun _ => False) w wr
  no : ∀ i (hi : i < l.length), i < j → ¬ l[i].1.1 = tag
theorem split_at (l : List Ent) (j : Nat) (h : j < l.length) : l = l.take j ++ l[j] :: l.drop (j + 1) := by simp
set_option maxRecDepth 100000 in
set_option maxHeartbeats 4000000 in
theorem index_says {w : World} {h m bt bx g cap : Nat} {tag : Int} {l : List Ent} (c : Clo w h m bt bx tag) (hK : Keys w g cap (l.map (·.1))) (hm : MapF w m (tlook l) l.length) (hu : Uniq l) (hki : ∀ x ∈ l, KeyIn x.1) :
    Calls Try.prog 17 #[.slice (some ⟨g, 0, none⟩) l.length cap, .func (.func 15) #[] (cap2 bt bx)] w (Found m l tag w) := by
  obtain ⟨r, hr⟩ : ∃ r, r = Found m l tag w := ⟨_, rfl⟩
  rw [← hr]
  have hout1 : ∀ wr, Srch w wr l tag l.length → r (.returned (i64 (-1))) wr := by
    intro wr s
    rw [hr]
    refine .inl ⟨fun y hy => ?_, rfl, hm.kept (s.b.block m hm.lt id), s.b.mono fun _ h => h.elim⟩
    obtain ⟨i, hi, rfl⟩ := List.mem_iff_getElem.1 hy
    exact s.no i hi hi
  have hout2 : ∀ j (hj : j < l.length) wr w', Srch w wr l tag j → l[j].1.1 = tag → MapF w' m (tlook (l.take j ++ l.drop (j + 1))) (l.take j ++ l.drop (j + 1)).length → But (fun i => i = m) wr w' → r (.returned (i64 j)) w' := by
    intro j hj wr w' s ht h1 h2
    rw [hr]
    exact .inr ⟨j, hj, s.no, ht, rfl, h1, (s.b.mono fun _ h => h.elim).trans h2⟩
  have hmx := hK.le
  have hcm : cap ≤ 9223372036854775807 := hK.capl
  rw [List.length_map] at hmx
  have eg : ∀ args w, (callFunc 15 args).run Try.prog w = .ok (.enter 15 args) w := fun _ _ => by kernel_rfl
  clear hr
  go_enter Try.func17, Try.ntmps17
  go_wp2_with fail
  go_loopw [5, 8] (fun _ i wr => ∃ j : Nat, j ≤ l.length ∧ i = .int .i64 j ∧ Srch w wr l tag j) (fun _ i _ => l.length - (intOf i).toNat)
  case atStart => exact ⟨0, Nat.zero_le _, rfl, But.refl _ _, fun i _ h => absurd h (Nat.not_lt_zero _)⟩
  case round =>
    obtain ⟨j, hj, rfl, s⟩ := hrel
    by_cases hjl : j < l.length
    · obtain ⟨x, hx⟩ : ∃ x, x = l[j] := ⟨_, rfl⟩
      obtain ⟨c0, c1⟩ := (hK.kept (s.b.block g hK.lt id)).cell j (by rw [List.length_map]; exact hjl)
      have hxk : (l.map (·.1))[j]'(by rw [List.length_map]; exact hjl) = x.1 := by rw [hx]; simp
      rw [hxk] at c0 c1
      have cr := c.kept s.b id id id
      have hsp := split_at l j hjl
      rw [← hx] at hsp
      have hmr : MapF wr m (tlook (l.take j ++ x :: l.drop (j + 1))) (l.take j ++ x :: l.drop (j + 1)).length := by rw [← hsp]; exact hm.kept (s.b.block m hm.lt id)
      have hur : Uniq (l.take j ++ x :: l.drop (j + 1)) := by rw [← hsp]; exact hu
      have hkx := hki x (by rw [hx]; exact List.getElem_mem hjl)
      by_cases ht : x.1.1 = tag
      · have hc := hidF (clo_yes cr hmr hur hkx ht)
        have ho := hidF (fun w' => hout2 j hjl wr w' s (by rw [← hx]; exact ht))
        clear hsp hmr hur hkx cr hx hxk s hK hm hu hki hout1 hout2 c ht
        go_wp2_with (go_at_fn 15; refine hc.out.mono ?_; rintro e w' ⟨rfl, hm2, b2⟩)
        exact ho.out w' hm2 b2
      · have hc := hidF (clo_no cr x.1 ht)
        have hn : Hid (∀ w', But (fun _ => False) wr w' → Srch w w' l tag (j + 1)) := by
          intro w' b
          refine ⟨s.b.trans b, fun i hi h => ?_⟩
          by_cases hij : i = j
          · subst hij; rw [← hx]; exact ht
          · exact s.no i hi (by omega)
        clear hsp hmr hur hkx cr hx hxk s hK hm hu hki hout1 hout2 c ht
        go_wp2_with (go_at_fn 15; refine hc.out.mono ?_; rintro e w' ⟨rfl, b2⟩)
        go_roundw
        case rel => exact ⟨j + 1, hjl, by go_num, hn.out w' b2⟩
        case measure => simp [intOf]; omega
    · have hkn : j = l.length := by omega
      subst hkn
      have ho := hout1 wr s
      clear s hK hm hu hki hout1 hout2 c
      go_wp2
      exact ho
/-- Where the sweep stands: j keys have been looked at. -/
structure Swp (w wr : World) (m g cap : Nat) (l : List Ent) (tag : Int) (j : Nat) : Prop where
  lt : (tflush (l.take j) tag).length < j
  kk : ∃ ys, Keys wr g cap ys ∧ ys.length = l.length ∧ ys.take (tflush (l.take j) tag).length = (tflush (l.take j) tag).map (·.1) ∧ ys.drop j = (l.drop j).map (·.1)
  mp : MapF wr m (tlook (tflush (l.take j) tag ++ l.drop j)) (tflush (l.take j) tag ++ l.drop j).length
  b : But (fun i => i = m ∨ i = g) w wr
theorem Swp.gone {w wr w' : World} {m g cap : Nat} {l : List Ent} {tag : Int} {j : Nat} (s : Swp w wr m g cap l tag j) (hj : j < l.length) (ht : l[j].1.1 = tag) (hmg : m ≠ g)
    (hm : MapF w' m (tlook (tflush (l.take j) tag ++ l.drop (j + 1))) (tflush (l.take j) tag ++ l.drop (j + 1)).length) (b : But (fun i => i = m) wr w') : Swp w w' m g cap l tag (j + 1) := by
  have e := flush_snoc l tag j hj
  rw [if_pos ht] at e
  obtain ⟨ys, k1, k2, k3, k4⟩ := s.kk
  have hl := s.lt
  refine ⟨by rw [e]; omega, ⟨ys, k1.kept (b.block g k1.lt (fun h => hmg h.symm)), k2, by rw [e]; exact k3, ?_⟩, by rw [e]; exact hm, s.b.trans (b.mono fun i h => .inl h)⟩
  rw [← List.drop_drop, k4, ← List.map_drop, List.drop_drop]
theorem Swp.stays {w wr w' : World} {m g cap : Nat} {l : List Ent} {tag : Int} {j : Nat} (s : Swp w wr m g cap l tag j) (hj : j < l.length) (ht : ¬ l[j].1.1 = tag) (hmg : m ≠ g) (b : But (fun _ => False) wr w') {x : Ent} (hx : x = l[j]) :
    Swp w ((w'.setCell ⟨g, (tflush (l.take j) tag).length * 2, none⟩ (i64 x.1.1)).setCell ⟨g, (tflush (l.take j) tag).length * 2 + 1, none⟩ (i64 x.1.2)) m g cap l tag (j + 1) := by
  have e := flush_snoc l tag j hj
  rw [if_neg ht, ← hx] at e
  obtain ⟨ys, k1, k2, k3, k4⟩ := s.kk
  have hl := s.lt
  have k5 := (k1.kept (b.block g k1.lt id)).set (tflush (l.take j) tag).length x.1
  have hm := s.mp.kept (b.block m s.mp.lt id)
  have hm2 := hm.kept (w' := (w'.setCell ⟨g, (tflush (l.take j) tag).length * 2, none⟩ (i64 x.1.1)).setCell ⟨g, (tflush (l.take j) tag).length * 2 + 1, none⟩ (i64 x.1.2)) ((Below.heap_setCell _ _ _ _ hmg).trans (Below.heap_setCell _ _ _ _ hmg))
  have hd : l.drop j = x :: l.drop (j + 1) := by rw [hx]; simp
  refine ⟨by rw [e]; simp; omega, ⟨_, k5, by simpa using k2, ?_, ?_⟩, ?_, ((s.b.trans (b.mono fun i h => h.elim)).setCell _ (.inr rfl) _).setCell _ (.inr rfl) _⟩
  · rw [e, List.length_append, List.length_singleton, List.map_append, ← k3]
    generalize (tflush (l.take j) tag).length = i at *
    rw [List.take_add_one, List.take_set_of_le (Nat.le_refl _), List.getElem?_set_self (by omega)]
    rfl
  · rw [List.drop_set_of_lt (by omega), ← List.drop_drop, k4, ← List.map_drop, List.drop_drop]
  · rw [e, List.append_assoc]
    show MapF _ m (tlook (tflush (l.take j) tag ++ x :: l.drop (j + 1))) (tflush (l.take j) tag ++ x :: l.drop (j + 1)).length
    rw [← hd]
    exact hm2
theorem flush_none {l : List Ent} {tag : Int} (h : ∀ y ∈ l, ¬ y.1.1 = tag) : tflush l tag = l := by
  unfold tflush
  rw [List.filter_eq_self]
  intro y hy
  simpa using h y hy
theorem Swp.start {w w' : World} {m g cap : Nat} {l : List Ent} {tag : Int} {j : Nat} (hK : Keys w g cap (l.map (·.1))) (hj : j < l.length) (hno : ∀ i (hi : i < l.length), i < j → ¬ l[i].1.1 = tag) (ht : l[j].1.1 = tag) (hmg : m ≠ g)
    (hm : MapF w' m (tlook (l.take j ++ l.drop (j + 1))) (l.take j ++ l.drop (j + 1)).length) (b : But (fun i => i = m) w w') : (tflush (l.take (j + 1)) tag).length = j ∧ Swp w w' m g cap l tag (j + 1) := by
  have e0 : tflush (l.take j) tag = l.take j := flush_none fun y hy => by
    obtain ⟨i, hi, rfl⟩ := List.mem_iff_getElem.1 hy
    rw [List.length_take] at hi
    rw [List.getElem_take]
    exact hno i (by omega) (by omega)
  have e := flush_snoc l tag j hj
  rw [if_pos ht, e0] at e
  have hl : (l.take j).length = j := by rw [List.length_take]; omega
  refine ⟨by rw [e, hl], by rw [e, hl]; omega, ⟨_, hK.kept (b.block g hK.lt (fun h => hmg h.symm)), by simp, by rw [e, hl, List.map_take], by rw [List.map_drop]⟩, by rw [e]; exact hm, b.mono fun i h => .inl h⟩
theorem Swp.done {w wr : World} {m g cap : Nat} {l : List Ent} {tag : Int} (s : Swp w wr m g cap l tag l.length) (hmg : m ≠ g) :
    (∀ ty, (Builtin.clear_ #[38] ty #[.slice (some ⟨g, (tflush l tag).length * 2, none⟩) (l.length - (tflush l tag).length) (cap - (tflush l tag).length)]).run Try.prog wr = .ok (.tuple #[]) (wr.setCells g ((tflush l tag).length * 2) (kc (List.replicate (l.length - (tflush l tag).length) (0, 0))))) ∧
    Keys (wr.setCells g ((tflush l tag).length * 2) (kc (List.replicate (l.length - (tflush l tag).length) (0, 0)))) g cap ((tflush l tag).map (·.1)) ∧
    MapF (wr.setCells g ((tflush l tag).length * 2) (kc (List.replicate (l.length - (tflush l tag).length) (0, 0)))) m (tlook (tflush l tag)) (tflush l tag).length ∧
    But (fun i => i = m ∨ i = g) w (wr.setCells g ((tflush l tag).length * 2) (kc (List.replicate (l.length - (tflush l tag).length) (0, 0)))) := by
  have e : l.take l.length = l := List.take_length
  obtain ⟨lt, ⟨ys, k1, k2, k3, k4⟩, mp, b⟩ := s
  rw [e] at lt k3 mp
  rw [List.drop_length, List.append_nil] at mp
  have hle := k1.le
  refine ⟨fun ty => run_clear_keys k1 ty _ _ _ (by omega) (by omega), ?_, mp.kept (setCells_other g _ _ _ m hmg), b.setCells _ _ (.inr rfl) _⟩
  have h := (k1.over (tflush l tag).length (List.replicate (l.length - (tflush l tag).length) (0, 0)) (by omega) (by simp; omega)).take (tflush l tag).length
  rw [List.take_append_of_le_length (by rw [List.length_take]; omega), List.take_take, Nat.min_self, k3] at h
  exact h
end Go.Proofs.Ytkcjhhppfolajaa
