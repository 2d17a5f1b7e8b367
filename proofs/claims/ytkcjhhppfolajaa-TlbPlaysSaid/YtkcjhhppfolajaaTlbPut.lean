
/-
  Put.
-/
import Derived.Test.YtkcjhhppfolajaaTlbEv
namespace Go.Proofs.Ytkcjhhppfolajaa
open Go.ChangeShapes Go.WideShapes Go.ChangeAt Go.RowKit
theorem hidIn {p : Prop} (h : p) : Hid p := h
theorem look_put_has {l : List Ent} (hu : Uniq l) (n : Nat) (k : Key) (e : Int) (hs : (tlook l k).isSome = true) (k' : Key) : tlook (tput n l k e) k' = upd (tlook l) k (some e) k' := by
  unfold upd
  by_cases hk : k' = k
  · rw [if_pos hk, hk, look_put_same n l hu]
  · rw [if_neg hk]
    have hkeys : (tput n l k e).map (·.1) = l.map (·.1) := by unfold tput; rw [if_pos hs, map_put_keys]
    cases hc : tlook l k' with
    | none => rw [look_none] at hc ⊢; rw [hkeys]; exact hc
    | some a =>
      refine look_mem (uniq_put hu n k e) ?_
      unfold tput
      rw [if_pos hs]
      refine List.mem_map.2 ⟨(k', a), mem_of_look hc, ?_⟩
      rw [if_neg]
      simpa using hk
/-- An entry that is there is written over. -/
theorem Tl.over {w w1 w2 : World} {h m g n : Nat} {l : List Ent} (ht : Tl w h m g n l) {k : Key} {e : Int} (hs : (tlook l k).isSome = true) (hb : But (fun _ => False) w w1) (hm : MapF w2 m (upd (tlook l) k (some e)) (if (tlook l k).isSome then l.length else l.length + 1)) (hw : w1.mapTurned w2 m) : Did h m g n (tput n l k e) w w2 := by
  have hkeys : (tput n l k e).map (·.1) = l.map (·.1) := by unfold tput; rw [if_pos hs, map_put_keys]
  have hlen : (tput n l k e).length = l.length := by have := congrArg List.length hkeys; simpa using this
  have b1 : But (fun i => i = m) w w2 := (hb.mono (fun _ h => h.elim)).map rfl hw
  obtain ⟨lh, lm⟩ := ht.lt
  obtain ⟨v, hv, ha⟩ := ht.hd
  refine ⟨g, ⟨⟨v, (b1.block h lh ht.hm).trans hv, ?_⟩, ?_, uniq_put ht.uq n k e, ?_, ht.n1, ht.n2, by rw [hlen]; exact ht.le, ht.hm, Nat.lt_of_lt_of_le ht.lg b1.size⟩, .inl rfl, b1.mono (fun i hi => .inr (.inl hi))⟩
  · rw [hkeys]
    rcases ha with ha | ⟨cap, e1, hK, d1, d2⟩
    · exact .inl ha
    · exact .inr ⟨cap, e1, hK.kept (b1.block g hK.lt (fun e => d2 e.symm)), d1, d2⟩
  · rw [if_pos hs] at hm
    rw [hlen]
    exact hm.congr fun k' _ => (look_put_has ht.uq n k e hs k').symm
  · intro x hx
    have : x.1 ∈ l.map (·.1) := by rw [← hkeys]; exact List.mem_map.2 ⟨x, hx, rfl⟩
    obtain ⟨y, hy, he⟩ := List.mem_map.1 this
    rw [← he]; exact ht.ki y hy
set_option maxRecDepth 100000 in
set_option maxHeartbeats 4000000 in
theorem put_has {w : World} {h m g n : Nat} {l : List Ent} (ht : Tl w h m g n l) (t v e : Int) (hk : KeyIn (t, v)) (he : -9223372036854775808 ≤ e ∧ e ≤ 9223372036854775807) (hs : (tlook l (t, v)).isSome = true) :
    Calls Try.prog 9 #[.pointer (some ⟨h, 0, none⟩), i64 t, i64 v, i64 e] w fun x w' => x = .returned (.tuple #[]) ∧ Did h m g n (tput n l (t, v) e) w w' := by
  obtain ⟨r, hr⟩ : ∃ r : Ending → World → Prop, r = fun x w' => x = .returned (.tuple #[]) ∧ Did h m g n (tput n l (t, v) e) w w' := ⟨_, rfl⟩
  rw [← hr]
  have b0 : But (fun _ => False) w (w.alloc (.cells #[.int .i64 t, .int .i64 v] 42)) := (But.refl _ w).alloc _
  have T0 := ht.kept b0 id id id
  obtain ⟨a, h1, -⟩ := T0.hd
  have c1 : (w.alloc (.cells #[.int .i64 t, .int .i64 v] 42)).cell? ⟨h, 1, none⟩ = some (.map (some m)) := by rw [cell_of_row _ h 1 _ _ _ h1]; rfl
  have hl := (T0.mp.kept (w' := (w.alloc (.cells #[.int .i64 t, .int .i64 v] 42)).drew) rfl).look hk
  rw [hs] at hl
  obtain ⟨w1, hrun, hm1, ht1⟩ := (T0.mp.kept (w' := (w.alloc (.cells #[.int .i64 t, .int .i64 v] 42)).drew.drew) rfl).put hk he (by have := ht.le; have := ht.n2; omega)
  have hout : r (.returned (.tuple #[])) w1 := by rw [hr]; exact ⟨rfl, ht.over hs b0.drew.drew hm1 ht1⟩
  generalize (tlook l (t, v)).getD 0 = e0 at hl
  clear hr hm1 ht1 T0 b0 h1 hs hk he ht
  go_enter Try.func9, Try.ntmps9
  go_wp2
  go_region
  go_wp2
  go_region
  go_wp2
  go_end0
  exact hout
theorem look_snoc {l : List Ent} {k : Key} {e : Int} (hno : tlook l k = none) (k' : Key) : tlook (l ++ [(k, e)]) k' = upd (tlook l) k (some e) k' := by
  unfold upd tlook
  rw [List.find?_append]
  by_cases hk : k' = k
  · subst hk
    have : l.find? (fun x => x.1 == k') = none := by unfold tlook at hno; simpa using hno
    rw [if_pos rfl, this]
    simp
  · rw [if_neg hk]
    have : ((k, e) :: ([] : List Ent)).find? (fun x => x.1 == k') = none := by simp; exact fun h => hk h.symm
    rw [this, Option.or_none]
theorem Did.then {w w1 w2 : World} {h m g n : Nat} {l1 l2 : List Ent} (h1 : Did h m g n l1 w w1) (h2 : ∀ g1, Tl w1 h m g1 n l1 → Did h m g1 n l2 w1 w2) : Did h m g n l2 w w2 := by
  obtain ⟨g1, t1, e1, b1⟩ := h1
  obtain ⟨g2, t2, e2, b2⟩ := h2 g1 t1
  refine ⟨g2, t2, ?_, b1.then b2 (fun _ h => h) (fun i hi h => ?_)⟩
  · have := b1.size; omega
  · rcases h with h | h | h
    · exact .inl h
    · exact .inr (.inl h)
    · refine .inr (.inr ?_); omega
/-- What is known of a world ahead of 't.ages = append(t.ages, k); t.entries[k] = entry', and of what follows. -/
structure Tail (W X : World) (h m g n b : Nat) (l : List Ent) (k : Key) (e : Int) (v : Value) : Prop where
  c2 : W.cell? ⟨h, 2, none⟩ = some v
  own : X.ownsRow 0 42 2 v l.length (kc (l.map (·.1)))
  rest : ∀ g' cap' w6, w6.ownsRow 0 42 2 (.slice (some ⟨g', 0, none⟩) (l.length + 1) cap') (l.length + 1) (kc (l.map (·.1)) ++ kc [k]) → X.grownBy w6 v.ownBlock → (v.ownBlock = some g' ∨ g' = X.heap.size) →
    w6.cell? ⟨h, 2, none⟩ = some v ∧ w6.frozen? ⟨h, 2, none⟩ = false ∧ w6.cell? ⟨h, 1, none⟩ = some (.map (some m)) ∧ w6.cell? ⟨b, 0, none⟩ = some (i64 k.1) ∧ w6.cell? ⟨b, 1, none⟩ = some (i64 k.2) ∧
    ∃ w7, (Instr.mapUpdate 37 (.map (some m)) (.agg #[i64 k.1, i64 k.2]) (i64 e)).run Try.prog (w6.setCell ⟨h, 2, none⟩ (.slice (some ⟨g', 0, none⟩) (l.length + 1) cap')).drew = .ok () w7 ∧ Did h m g n (l ++ [(k, e)]) W w7
theorem Ages.own {w : World} {h m g : Nat} {v : Value} {ks : List Key} (ha : Ages w h m g v ks) (B : Nat) (hB : B ≤ g) : w.ownsRow B 42 2 v ks.length (kc ks) ∧ (v.ownBlock = none ∨ (v.ownBlock = some g ∧ h ≠ g ∧ m ≠ g)) := by
  rcases ha with ⟨rfl, rfl⟩ | ⟨cap, rfl, hK, d⟩
  · exact ⟨World.ownsRow_nil _ _ _ _, .inl rfl⟩
  · exact ⟨hK.owns hB, .inr ⟨rfl, d⟩⟩
theorem Tl.tail {W X : World} {h m g n b : Nat} {l : List Ent} (ht : Tl W h m g n l) (bX : But (fun _ => False) W X) {k : Key} {e : Int} (hk : KeyIn k) (he : -9223372036854775808 ≤ e ∧ e ≤ 9223372036854775807) (hno : tlook l k = none) (hl : l.length < n)
    (hb : W.heap[b]? = Option.some (.cells #[i64 k.1, i64 k.2] 42 (0, 0))) (hbh : b ≠ h ∧ b ≠ m ∧ b ≠ g) {v : Value} (hv : W.heap[h]? = Option.some (.cells #[i64 n, .map (Option.some m), v] 40 (0, 0))) : Tail W X h m g n b l k e v := by
  obtain ⟨v', hv', ha⟩ := ht.hd
  obtain rfl : v = v' := by rw [hv] at hv'; simpa using hv'
  obtain ⟨lh, lm⟩ := ht.lt
  have lb : b < W.heap.size := (Array.getElem?_eq_some_iff.1 hb).1
  obtain ⟨own, hob⟩ := ha.own 0 (Nat.zero_le _)
  rw [List.length_map] at own
  refine ⟨by rw [cell_of_row W h 2 _ _ _ hv]; rfl, ?_, ?_⟩
  · exact own.kept (w' := X) (row := Option.none) ⟨bX.os, bX.tape, bX.output, bX.size, fun j hj _ => bX.block j hj id⟩ (by rcases hob with h | ⟨h, -⟩ <;> rw [h] <;> simp)
  · intro g' cap' w6 hown hgrow hat
    have b6 : But (fun i => i = g) W w6 := (bX.mono (fun _ h => h.elim)).grown hgrow (by
      intro j hj
      rcases hob with h | ⟨h, -⟩ <;> rw [h] at hj
      · cases hj
      · injection hj with hj; exact hj.symm)
    have hg6 : (g' = g ∧ h ≠ g ∧ m ≠ g) ∨ W.heap.size ≤ g' := by
      rcases hat with hat | hat
      · rcases hob with h | ⟨h, d⟩ <;> rw [h] at hat
        · cases hat
        · injection hat with hat; exact .inl ⟨hat.symm, d⟩
      · right; rw [hat]; exact bX.size
    have hgd : v.ownBlock = Option.none ∨ (h ≠ g ∧ m ≠ g) := by
      rcases hob with h | ⟨h, d⟩
      · exact .inl h
      · exact .inr d
    have k6 : ∀ j, j < W.heap.size → (j = h ∨ j = m ∨ j = b) → w6.heap[j]? = W.heap[j]? := by
      intro j hj hjj
      refine (hgrow.block j (Nat.lt_of_lt_of_le hj bX.size) ?_).trans (bX.block j hj id)
      rcases hob with h | ⟨h, d1, d2⟩ <;> rw [h]
      · simp
      · intro e1; injection e1 with e1
        rcases hjj with rfl | rfl | rfl
        · exact d1 e1
        · exact d2 e1
        · exact hbh.2.2 e1
    have hv6 := (k6 h lh (.inl rfl)).trans hv
    have hb6 := (k6 b lb (.inr (.inr rfl))).trans hb
    have hm6 : MapF (w6.setCell ⟨h, 2, none⟩ (.slice (Option.some ⟨g', 0, none⟩) (l.length + 1) cap')).drew m (tlook l) l.length :=
      ht.mp.kept ((Below.heap_setCell _ _ _ _ (fun e => ht.hm e.symm)).trans (k6 m lm (.inr (.inl rfl))))
    have hle := ht.le
    have hn2 := ht.n2
    obtain ⟨w7, hrun, hm7, ht7⟩ := hm6.put hk he (by omega)
    rw [hno] at hm7
    have hm7 : MapF w7 m (tlook (l ++ [(k, e)])) (l ++ [(k, e)]).length := by
      rw [List.length_append, List.length_singleton]
      exact MapF.congr hm7 (fun k' _ => (look_snoc hno k').symm)
    have hkeys : (l ++ [(k, e)]).map (·.1) = l.map (·.1) ++ [k] := by simp
    rw [← kc_append, ← hkeys] at hown
    obtain ⟨hlen, hK6⟩ := Keys.of (l.length + 1) hown
    have hgh : h ≠ g' ∧ m ≠ g' := by
      rcases hg6 with ⟨rfl, d⟩ | hg6
      · exact d
      · omega
    have lg6 := hK6.lt
    have bT : But (fun i => i = h ∨ i = m ∨ i = g) W w7 := (((b6.mono (fun i hi => .inr (.inr hi))).setCell ⟨h, 2, none⟩ (.inl rfl) _).drew).map (.inr (.inl rfl)) ht7
    have b67 : But (fun i => i = m) (w6.setCell ⟨h, 2, none⟩ (.slice (Option.some ⟨g', 0, none⟩) (l.length + 1) cap')).drew w7 := (But.refl _ _).map rfl ht7
    have hsz : (w6.setCell ⟨h, 2, none⟩ (.slice (Option.some ⟨g', 0, none⟩) (l.length + 1) cap')).drew.heap.size = w6.heap.size := by simp [World.setCell, World.drew]
    have s6 := b6.size
    have hv7 : w7.heap[h]? = Option.some (.cells #[i64 n, .map (Option.some m), .slice (Option.some ⟨g', 0, none⟩) (l.length + 1) cap'] 40 (0, 0)) :=
      (b67.block h (by rw [hsz]; omega) ht.hm).trans (setCell_row hv6 2 _)
    have hK7 : Keys w7 g' cap' ((l ++ [(k, e)]).map (·.1)) :=
      hK6.kept ((b67.block g' (by rw [hsz]; omega) (fun e => hgh.2 e.symm)).trans (Below.heap_setCell _ _ _ _ (fun e => hgh.1 e.symm)))
    have huq : Uniq (l ++ [(k, e)]) := by
      have := uniq_put ht.uq n k e
      unfold tput at this
      rw [hno, if_neg (by simp), if_pos hl] at this
      exact this
    refine ⟨by rw [cell_of_row w6 h 2 _ _ _ hv6]; rfl, by simp [World.frozen?, hv6], by rw [cell_of_row w6 h 1 _ _ _ hv6]; rfl, by rw [cell_of_row w6 b 0 _ _ _ hb6]; rfl, by rw [cell_of_row w6 b 1 _ _ _ hb6]; rfl, w7, hrun,
      g', ⟨⟨_, hv7, .inr ⟨cap', by rw [← hlen], hK7, hgh⟩⟩, hm7, huq, ?_, ht.n1, ht.n2, by simp; omega, ht.hm, hK7.lt⟩, by rcases hg6 with ⟨h, -⟩ | h; exact .inl h; exact .inr h, bT⟩
    intro x hx
    rcases List.mem_append.1 hx with hx | hx
    · exact ht.ki x hx
    · rw [List.mem_singleton.1 hx]; exact hk
set_option maxRecDepth 100000 in
set_option maxHeartbeats 4000000 in
theorem put_room {w : World} {h m g n : Nat} {l : List Ent} (ht : Tl w h m g n l) (t v e : Int) (hk : KeyIn (t, v)) (he : -9223372036854775808 ≤ e ∧ e ≤ 9223372036854775807) (hs : tlook l (t, v) = none) (hroom : l.length < n) :
    Calls Try.prog 9 #[.pointer (some ⟨h, 0, none⟩), i64 t, i64 v, i64 e] w fun x w' => x = .returned (.tuple #[]) ∧ Did h m g n (l ++ [(((t, v) : Key), e)]) w w' := by
  obtain ⟨r, hr⟩ : ∃ r : Ending → World → Prop, r = fun x w' => x = .returned (.tuple #[]) ∧ Did h m g n (l ++ [(((t, v) : Key), e)]) w w' := ⟨_, rfl⟩
  rw [← hr]
  obtain ⟨i0, hi0, hz0, hz1, hz2⟩ := info_parts info_key
  have b0 : But (fun _ => False) w (w.alloc (.cells #[.int .i64 t, .int .i64 v] 42)) := (But.refl _ w).alloc _
  have T0 := ht.kept b0 id id id
  obtain ⟨lh, lm⟩ := ht.lt
  obtain ⟨av, h0, -⟩ := ht.hd
  have c0 : w.cell? ⟨h, 0, none⟩ = some (i64 n) := by rw [cell_of_row _ h 0 _ _ _ h0]; rfl
  have c1 : w.cell? ⟨h, 1, none⟩ = some (.map (some m)) := by rw [cell_of_row _ h 1 _ _ _ h0]; rfl
  have c2 : w.cell? ⟨h, 2, none⟩ = some av := by rw [cell_of_row _ h 2 _ _ _ h0]; rfl
  have a0 := b0.cell c0 id
  have a1 := b0.cell c1 id
  have a2 := b0.cell c2 id
  have hl := (T0.mp.kept (w' := (w.alloc (.cells #[.int .i64 t, .int .i64 v] 42)).drew) rfl).look hk
  rw [hs] at hl
  have T1 : Tl (w.alloc (.cells #[.int .i64 t, .int .i64 v] 42)).drew.drew h m g n l := ht.kept b0.drew.drew id id id
  have hb2 : (w.alloc (.cells #[.int .i64 t, .int .i64 v] 42)).drew.drew.heap[w.heap.size]? = some (.cells #[i64 t, i64 v] 42 (0, 0)) := heap_alloc_new w _
  have lg := ht.lg
  have bX : But (fun _ => False) (w.alloc (.cells #[.int .i64 t, .int .i64 v] 42)).drew.drew ((w.alloc (.cells #[.int .i64 t, .int .i64 v] 42)).alloc (.cells #[.int .i64 t, .int .i64 v] 42)).drew.drew.drew := (((But.refl _ _).alloc _).drew.drew).drew.trans ⟨rfl, rfl, rfl, Nat.le_refl _, fun _ _ _ => rfl⟩
  have tl := T1.tail bX hk he hs hroom hb2 (by omega) ((b0.block h lh id).trans h0)
  have rest := hidIn tl.rest
  have HO := hidIn tl.own
  have hw : But (fun _ => False) w (w.alloc (.cells #[.int .i64 t, .int .i64 v] 42)).drew.drew := b0.drew.drew
  have hout : ∀ w7, Did h m g n (l ++ [(((t, v) : Key), e)]) (w.alloc (.cells #[.int .i64 t, .int .i64 v] 42)).drew.drew w7 → r (.returned (.tuple #[])) w7 := by
    intro w7 hd
    rw [hr]
    obtain ⟨g7, t7, e7, b7⟩ := hd
    exact ⟨rfl, g7, t7, by have := hw.size; omega, hw.then b7 (fun _ h => h.elim) (fun _ _ h => h)⟩
  have hne : ((l.length : Int) == (n : Int)) = false := by rw [beq_eq_false_iff_ne]; omega
  have hln : l.length ≤ 256 := Nat.le_trans ht.le ht.n2
  have HN : Hid (∀ j u, (kc [((t, v) : Key)])[j]? = some u → ((w.alloc (.cells #[.int .i64 t, .int .i64 v] 42)).alloc (.cells #[.int .i64 t, .int .i64 v] 42)).drew.drew.drew.cell? ((⟨w.heap.size + 1, 0, none⟩ : Addr).add j) = some u) := by
    refine World.news_of_block (t := 42) (fr := (0, 0)) ?_
    have := heap_alloc_new (w.alloc (.cells #[.int .i64 t, .int .i64 v] 42)) (.cells #[.int .i64 t, .int .i64 v] 42)
    rw [show (w.alloc (.cells #[.int .i64 t, .int .i64 v] 42)).heap.size = w.heap.size + 1 by simp] at this
    exact this
  have hmx : l.length + 1 ≤ maxLen := by unfold maxLen; omega
  have hby : (l.length + 1) * 16 ≤ 140737488355328 := by omega
  clear tl hw hb2 b0 h0 T0 hr bX
  go_enter Try.func9, Try.ntmps9
  go_wp2
  go_region
  go_wp2_with fail
  go_region_held3 (fun u => u.cell? ⟨h, 0, none⟩ = some (i64 n)) (first | exact a0 | assumption) ((go_at_call 13; refine (len_says T1).mono ?_; rintro e w' ⟨rfl, rfl⟩))
  go_wp2_with fail
  go_region_law (refine step_append_lies _ rfl (.tmp 38) (.tmp 40) 38 rfl 0 42 i0 _ 2 16 Try.underlying38 hi0 hz0 hz1 hz2 rfl (by decide) av l.length (kc (l.map (fun x : Ent => x.1))) (by simp [Act.eval]) HO.out ⟨w.heap.size + 1, 0, none⟩ 1 1 (kc [((t, v) : Key)]) (by simp [Act.eval]) rfl HN.out (kc_one _) (by decide) hmx hby (Nat.zero_le _) _ rfl ?_; intro g' cap' w6 hown hgrow hat hlt; obtain ⟨d1, d2, d3, d4, d5, w7, hrun, hd⟩ := rest.out g' cap' w6 hown hgrow hat; have hd := hout w7 hd)
  all_goals
    go_wp2_with fail
    go_region
    go_wp2
    go_end0
    exact hd
theorem evict_zero (l : List Ent) (h : 0 < l.length) : tevict l 0 = l.drop 1 := by
  unfold tevict
  rw [if_pos (by omega), Int.toNat_zero, List.eraseIdx_zero, List.drop_one]
/-- What is known behind the eviction. -/
structure Behind (w2 X : World) (h m n b : Nat) (l2 : List Ent) (k : Key) (e : Int) (av : Value) (r : Ending → World → Prop) : Prop where
  c1 : w2.cell? ⟨h, 1, none⟩ = some (.map (some m))
  c2 : w2.cell? ⟨h, 2, none⟩ = some av
  c3 : (w2.alloc (.cells #[i64 k.1, i64 k.2] 42)).cell? ⟨h, 2, none⟩ = some av
  x0 : w2.cell? ⟨b, 0, none⟩ = some (i64 k.1)
  x1 : w2.cell? ⟨b, 1, none⟩ = some (i64 k.2)
  tl : ∃ g2, Tail w2 X h m g2 n b l2 k e av ∧ ∀ w7, Did h m g2 n (l2 ++ [(k, e)]) w2 w7 → r (.returned (.tuple #[])) w7
  hn : ∀ j u, (kc [k])[j]? = some u → X.cell? ((⟨w2.heap.size, 0, none⟩ : Addr).add j) = some u
set_option maxRecDepth 100000 in
set_option maxHeartbeats 4000000 in
theorem put_full {w : World} {h m g n : Nat} {l : List Ent} (ht : Tl w h m g n l) (t v e : Int) (hk : KeyIn (t, v)) (he : -9223372036854775808 ≤ e ∧ e ≤ 9223372036854775807) (hs : tlook l (t, v) = none) (hfull : l.length = n) :
    Calls Try.prog 9 #[.pointer (some ⟨h, 0, none⟩), i64 t, i64 v, i64 e] w fun x w' => x = .returned (.tuple #[]) ∧ Did h m g n (tevict l 0 ++ [(((t, v) : Key), e)]) w w' := by
  obtain ⟨r, hr⟩ : ∃ r : Ending → World → Prop, r = fun x w' => x = .returned (.tuple #[]) ∧ Did h m g n (tevict l 0 ++ [(((t, v) : Key), e)]) w w' := ⟨_, rfl⟩
  rw [← hr]
  obtain ⟨i0, hi0, hz0, hz1, hz2⟩ := info_parts info_key
  have b0 : But (fun _ => False) w (w.alloc (.cells #[.int .i64 t, .int .i64 v] 42)) := (But.refl _ w).alloc _
  have T0 := ht.kept b0 id id id
  obtain ⟨lh, lm⟩ := ht.lt
  have lg := ht.lg
  obtain ⟨av, h0, -⟩ := ht.hd
  have c0 : w.cell? ⟨h, 0, none⟩ = some (i64 n) := by rw [cell_of_row _ h 0 _ _ _ h0]; rfl
  have c1 : w.cell? ⟨h, 1, none⟩ = some (.map (some m)) := by rw [cell_of_row _ h 1 _ _ _ h0]; rfl
  have a0 := b0.cell c0 id
  have a1 := b0.cell c1 id
  have hl := (T0.mp.kept (w' := (w.alloc (.cells #[.int .i64 t, .int .i64 v] 42)).drew) rfl).look hk
  rw [hs] at hl
  have hw : But (fun _ => False) w (w.alloc (.cells #[.int .i64 t, .int .i64 v] 42)).drew.drew := b0.drew.drew
  have T1 : Tl (w.alloc (.cells #[.int .i64 t, .int .i64 v] 42)).drew.drew h m g n l := ht.kept hw id id id
  have hb2 : (w.alloc (.cells #[.int .i64 t, .int .i64 v] 42)).drew.drew.heap[w.heap.size]? = some (.cells #[i64 t, i64 v] 42 (0, 0)) := heap_alloc_new w _
  have hev := evict_zero l (by have := ht.n1; omega)
  have hle2 : (tevict l 0).length < n := by have := ht.n1; rw [hev, List.length_drop]; omega
  have hno2 : tlook (tevict l 0) (t, v) = none := by
    rw [look_none] at hs ⊢
    rw [hev, List.map_drop]
    exact fun h => hs (List.mem_of_mem_drop h)
  have F : ∀ w2 g2, Tl w2 h m g2 n (tevict l 0) → (g2 = g ∨ (w.alloc (.cells #[.int .i64 t, .int .i64 v] 42)).drew.drew.heap.size ≤ g2) → But (fun i => i = h ∨ i = m ∨ i = g) (w.alloc (.cells #[.int .i64 t, .int .i64 v] 42)).drew.drew w2 → ∃ av, Behind w2 (w2.alloc (.cells #[.int .i64 t, .int .i64 v] 42)).drew h m n w.heap.size (tevict l 0) (t, v) e av r := by
    intro w2 g2 T2 e2 b2
    obtain ⟨av2, h2, -⟩ := T2.hd
    have hsz : (w.alloc (.cells #[.int .i64 t, .int .i64 v] 42)).drew.drew.heap.size = w.heap.size + 1 := by simp [World.drew]
    have hbx := (b2.block w.heap.size (by omega) (by omega)).trans hb2
    have tl := T2.tail (X := (w2.alloc (.cells #[.int .i64 t, .int .i64 v] 42)).drew) (((But.refl _ w2).alloc _).drew) hk he hno2 hle2 hbx (by omega) h2
    have c22 : w2.cell? ⟨h, 2, none⟩ = some av2 := by rw [cell_of_row _ h 2 _ _ _ h2]; rfl
    refine ⟨av2, by rw [cell_of_row _ h 1 _ _ _ h2]; rfl, c22, ((But.refl (fun _ => False) w2).alloc _).cell c22 id, by rw [cell_of_row _ _ 0 _ _ _ hbx]; rfl, by rw [cell_of_row _ _ 1 _ _ _ hbx]; rfl, ⟨g2, tl, ?_⟩, ?_⟩
    · intro w7 hd
      rw [hr]
      refine ⟨rfl, ?_⟩
      obtain ⟨g7, t7, e7, b7⟩ := hd
      have s2 := b2.size
      refine ⟨g7, t7, by omega, (hw.then b2 (fun _ h => h.elim) (fun _ _ h => h)).then b7 (fun _ h => h) (fun i hi h => ?_)⟩
      rcases h with h | h | h
      · exact .inl h
      · exact .inr (.inl h)
      · refine .inr (.inr ?_); omega
    · exact World.news_of_block (t := 42) (fr := (0, 0)) (heap_alloc_new w2 _)
  have hmx : (tevict l 0).length + 1 ≤ maxLen := by have := ht.n2; unfold maxLen; omega
  have hby : ((tevict l 0).length + 1) * 16 ≤ 140737488355328 := by have := ht.n2; omega
  have heq : ((l.length : Int) == (n : Int)) = true := by rw [hfull]; simp
  have HEV := hidIn (evict_says T1 0)
  have HF := hidIn F
  generalize tevict l 0 = l2 at *
  clear F hev hno2 hle2 hb2 hw T0 b0 h0 hr hs
  go_enter Try.func9, Try.ntmps9
  go_wp2
  go_region
  go_wp2_with fail
  go_region_held3 (fun u => u.cell? ⟨h, 0, none⟩ = some (i64 n)) (first | exact a0 | assumption) ((go_at_call 13; refine (len_says T1).mono ?_; rintro e w' ⟨rfl, rfl⟩))
  go_wp2_with (go_at_call 12; refine HEV.out.mono ?_; rintro e w2 ⟨rfl, g2, T2, e2, b2⟩; obtain ⟨bv, bh⟩ := HF.out w2 g2 T2 e2 b2; have d1 := bh.c1; have d2 := bh.c2; have d5 := bh.c3; have d3 := bh.x0; have d4 := bh.x1; obtain ⟨g3, tl, hout⟩ := bh.tl; have rest := hidIn tl.rest; have HO := hidIn tl.own; have HN := hidIn bh.hn; have hout := hidIn hout; clear tl bh T2 e2 b2)
  go_region_law (refine step_append_lies _ rfl (.tmp 38) (.tmp 40) 38 rfl 0 42 i0 _ 2 16 Try.underlying38 hi0 hz0 hz1 hz2 rfl (by decide) bv l2.length (kc (l2.map (fun x : Ent => x.1))) (by simp [Act.eval]) HO.out ⟨w2.heap.size, 0, none⟩ 1 1 (kc [((t, v) : Key)]) (by simp [Act.eval]) rfl HN.out (kc_one _) (by decide) hmx hby (Nat.zero_le _) _ rfl ?_; intro g' cap' w6 hown hgrow hat hlt; obtain ⟨f1, f2, f3, f4, f5, w7, hrun, hd⟩ := rest.out g' cap' w6 hown hgrow hat; have hd := hout.out w7 hd)
  all_goals
    go_wp2_with fail
    go_region
    go_wp2
    go_end0
    exact hd
theorem put_says {w : World} {h m g n : Nat} {l : List Ent} (ht : Tl w h m g n l) (t v e : Int) (hk : KeyIn (t, v)) (he : -9223372036854775808 ≤ e ∧ e ≤ 9223372036854775807) :
    Calls Try.prog 9 #[.pointer (some ⟨h, 0, none⟩), i64 t, i64 v, i64 e] w fun x w' => x = .returned (.tuple #[]) ∧ Did h m g n (tput n l (t, v) e) w w' := by
  cases hs : tlook l (t, v) with
  | some a => exact put_has ht t v e hk he (by rw [hs]; rfl)
  | none =>
    have hle := ht.le
    by_cases hl : l.length < n
    · have e1 : tput n l (t, v) e = l ++ [((t, v), e)] := by unfold tput; rw [hs, if_neg (by simp), if_pos hl]
      rw [e1]; exact put_room ht t v e hk he hs hl
    · have e1 : tput n l (t, v) e = tevict l 0 ++ [((t, v), e)] := by
        have := ht.n1
        unfold tput; rw [hs, if_neg (by simp), if_neg hl, evict_zero l (by omega)]
      rw [e1]; exact put_full ht t v e hk he hs (by omega)
end Go.Proofs.Ytkcjhhppfolajaa
