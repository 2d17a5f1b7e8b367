
/-
  Evict.
-/
import Derived.Test.YtkcjhhppfolajaaTlbDel
namespace Go.Proofs.Ytkcjhhppfolajaa
open Go.ChangeShapes Go.WideShapes Go.ChangeAt Go.RowKit
theorem look_mid {A B : List Ent} {x : Ent} (hu : Uniq (A ++ x :: B)) (k : Key) : tlook (A ++ B) k = upd (tlook (A ++ x :: B)) x.1 none k := by
  unfold upd
  by_cases hk : k = x.1
  · rw [if_pos hk, look_none, hk]
    unfold Uniq at hu
    rw [List.map_append, List.map_cons, List.nodup_append] at hu
    obtain ⟨-, h2, h3⟩ := hu
    rw [List.nodup_cons] at h2
    rw [List.map_append, List.mem_append]
    rintro (h | h)
    · exact h3 _ h _ (List.mem_cons_self) rfl
    · exact h2.1 h
  · rw [if_neg hk]
    unfold tlook
    rw [List.find?_append, List.find?_append, List.find?_cons]
    have : (x.1 == k) = false := by rw [beq_eq_false_iff_ne]; exact fun h => hk h.symm
    rw [this]
theorem uniq_mid {A B : List Ent} {x : Ent} (hu : Uniq (A ++ x :: B)) : Uniq (A ++ B) := by
  unfold Uniq at *
  exact hu.sublist ((List.Sublist.append_left (List.sublist_cons_self _ _) _).map _)
theorem mid_some {A B : List Ent} {x : Ent} : (tlook (A ++ x :: B) x.1).isSome = true := by
  rw [look_isSome]; simp
/-- A key of the map goes. -/
theorem MapF.cut {w : World} {m : Nat} {A B : List Ent} {x : Ent} (h : MapF w m (tlook (A ++ x :: B)) (A ++ x :: B).length) (hu : Uniq (A ++ x :: B)) (hk : KeyIn x.1) :
    ∃ w', (∀ ty, (Builtin.delete_ #[37, 42] ty #[.map (some m), .agg #[i64 x.1.1, i64 x.1.2]]).run Try.prog w = .ok (.tuple #[]) w') ∧ MapF w' m (tlook (A ++ B)) (A ++ B).length ∧ w.mapTurned w' m := by
  obtain ⟨w', h1, h2, h3⟩ := h.del hk
  rw [mid_some, if_pos rfl] at h2
  refine ⟨w', h1, ?_, h3⟩
  have e : (A ++ B).length = (A ++ x :: B).length - 1 := by simp
  rw [e]
  exact h2.congr fun k _ => (look_mid hu k).symm
/-- 'delete(m, k)' at a step of a region that draws its order. -/
theorem step_delete {ops : Array Oper} {o : Oper} {a : Act} {w w1 : World} {K : Act → World → Prop} {Q : Exit → Act → World → Prop} {E : Prop} (hg : o.guard = none) (s x : Operand)
    (hop : o.op = Op.call { callee := Callee.builtin Builtin.delete, args := #[s, x], argTypes := #[37, 42] }) (m : Nat) (k : Key) (hs : a.eval s = .map (some m)) (hx : a.eval x = .agg #[i64 k.1, i64 k.2])
    (hr : ∀ ty, (Builtin.delete_ #[37, 42] ty #[.map (some m), .agg #[i64 k.1, i64 k.2]]).run Try.prog w = .ok (.tuple #[]) w1) (hK : K (a.put o.dst (.tuple #[])) w1) :
    if Region.wanted o (yielded ops a.tmps) = true then Oper.wp Try.prog o a w K Q else E := by
  have hw : Region.wanted o (yielded ops a.tmps) = true := by simp [Region.wanted, hg]
  rw [if_pos hw]
  unfold Oper.wp
  simp [execOp, hop, resolve, invoke, builtin, hs, hx, hr, Result.andThen]
  exact hK
theorem Tl.live {w : World} {h m g n : Nat} {l : List Ent} (ht : Tl w h m g n l) (hl : 0 < l.length) : ∃ cap, w.heap[h]? = Option.some (.cells #[i64 n, .map (Option.some m), .slice (Option.some ⟨g, 0, none⟩) l.length cap] 40 (0, 0)) ∧ Keys w g cap (l.map (·.1)) ∧ h ≠ g ∧ m ≠ g := by
  obtain ⟨v, h1, ⟨rfl, h2⟩ | ⟨cap, rfl, h2⟩⟩ := ht.hd
  · rw [List.map_eq_nil_iff] at h2; subst h2; simp at hl
  · rw [List.length_map] at h1; exact ⟨cap, h1, h2⟩
theorem Did.same {w : World} {h m g n : Nat} {l : List Ent} (ht : Tl w h m g n l) : Did h m g n l w w := ⟨g, ht, .inl rfl, But.refl _ _⟩
theorem evict_no {w : World} {h m g n : Nat} {l : List Ent} (ht : Tl w h m g n l) (k : Int) (hk : k < 0 ∨ (l.length : Int) ≤ k) : Calls Try.prog 12 #[.pointer (some ⟨h, 0, none⟩), i64 k] w fun e w' => e = .returned (.tuple #[]) ∧ Did h m g n (tevict l k) w w' := by
  have hd := Did.same ht
  rw [evict_none l k (by omega)]
  obtain ⟨r, hr⟩ : ∃ r : Ending → World → Prop, r = fun e w' => e = .returned (.tuple #[]) ∧ Did h m g n l w w' := ⟨_, rfl⟩
  rw [← hr]
  have hout : r (.returned (.tuple #[])) w := by rw [hr]; exact ⟨rfl, hd⟩
  clear hr hd
  have hx : k < 0 ∨ (¬ k < 0 ∧ (l.length : Int) ≤ k) := by omega
  rcases hx with h1 | ⟨h1, h2⟩
  · go_enter Try.func12, Try.ntmps12
    go_wp2_with (go_at_call 13; refine (len_says ht).mono ?_; rintro e w' ⟨rfl, rfl⟩)
    go_end0
    exact hout
  · go_enter Try.func12, Try.ntmps12
    go_wp2_with (go_at_call 13; refine (len_says ht).mono ?_; rintro e w' ⟨rfl, rfl⟩)
    go_end0
    exact hout
set_option maxRecDepth 100000 in
set_option maxHeartbeats 4000000 in
theorem evict_yes {w : World} {h m g n : Nat} {l : List Ent} (ht : Tl w h m g n l) (k : Nat) (hk : k < l.length) : Calls Try.prog 12 #[.pointer (some ⟨h, 0, none⟩), i64 k] w fun e w' => e = .returned (.tuple #[]) ∧ Did h m g n (tevict l k) w w' := by
  obtain ⟨r, hr⟩ : ∃ r : Ending → World → Prop, r = fun e w' => e = .returned (.tuple #[]) ∧ Did h m g n (tevict l k) w w' := ⟨_, rfl⟩
  rw [← hr]
  obtain ⟨cap, hh, hK, d1, d2⟩ := ht.live (by omega)
  obtain ⟨lh, lm⟩ := ht.lt
  have lg := hK.lt
  have hkm : k < (l.map (·.1)).length := by rw [List.length_map]; exact hk
  obtain ⟨x, hx⟩ : ∃ x, x = l[k] := ⟨_, rfl⟩
  have hsp : l = l.take k ++ x :: l.drop (k + 1) := by rw [hx]; simp
  have hu : Uniq (l.take k ++ x :: l.drop (k + 1)) := by rw [← hsp]; exact ht.uq
  have hkx : KeyIn x.1 := ht.ki x (by rw [hx]; exact List.getElem_mem hk)
  have hmp : MapF w.drew m (tlook (l.take k ++ x :: l.drop (k + 1))) (l.take k ++ x :: l.drop (k + 1)).length := by rw [← hsp]; exact ht.mp.kept rfl
  obtain ⟨w1, hrun, hmp1, ht1⟩ := hmp.cut hu hkx
  have b1 : But (fun i => i = m) w w1 := (But.refl (fun i => i = m) w).drew.map rfl ht1
  obtain ⟨c1, c2⟩ := hK.cell k hkm
  have hxk : (l.map (·.1))[k] = x.1 := by rw [hx]; simp
  rw [hxk] at c1 c2
  have c3 : w.cell? ⟨h, 1, none⟩ = Option.some (.map (Option.some m)) := by rw [cell_of_row w h 1 _ _ _ hh]; rfl
  have c4 : w.cell? ⟨h, 2, none⟩ = Option.some (.slice (Option.some ⟨g, 0, none⟩) l.length cap) := by rw [cell_of_row w h 2 _ _ _ hh]; rfl
  have S0 : w.drew.cell? ⟨h, 1, none⟩ = Option.some (.map (Option.some m)) ∧ w.drew.cell? ⟨h, 2, none⟩ = Option.some (.slice (Option.some ⟨g, 0, none⟩) l.length cap) ∧ w.drew.cell? ⟨g, k * 2, none⟩ = Option.some (i64 x.1.1) ∧ w.drew.cell? ⟨g, k * 2 + 1, none⟩ = Option.some (i64 x.1.2) := ⟨c3, c4, c1, c2⟩
  have S1 : w1.cell? ⟨h, 1, none⟩ = Option.some (.map (Option.some m)) ∧ w1.cell? ⟨h, 2, none⟩ = Option.some (.slice (Option.some ⟨g, 0, none⟩) l.length cap) ∧ w1.cell? ⟨g, k * 2, none⟩ = Option.some (i64 x.1.1) ∧ w1.cell? ⟨g, k * 2 + 1, none⟩ = Option.some (i64 x.1.2) :=
    ⟨b1.cell c3 ht.hm, b1.cell c4 ht.hm, b1.cell c1 (fun e => d2 e.symm), b1.cell c2 (fun e => d2 e.symm)⟩
  have hK1 : Keys w1 g cap (l.map (·.1)) := hK.kept (b1.block g lg (fun e => d2 e.symm))
  have hh1 := (b1.block h lh ht.hm).trans hh
  have hdel := delete_says hK1 k hkm
  rw [List.length_map] at hdel
  have hout : ∀ w2, Keys w2 g cap ((l.map (·.1)).eraseIdx k) → But (fun b => b = g) w1 w2 → r (.returned (.tuple #[])) (w2.setCell ⟨h, 2, none⟩ (.slice (Option.some ⟨g, 0, none⟩) (l.length - 1) cap)) := by
    intro w2 k2 b2
    have hh2 := (b2.block h (by have := b1.size; omega) d1).trans hh1
    have b3 := (b2.mono (T := fun i => i = h ∨ i = m ∨ i = g) (fun i hi => .inr (.inr hi))).setCell ⟨h, 2, none⟩ (.inl rfl) (.slice (Option.some ⟨g, 0, none⟩) (l.length - 1) cap)
    have k3 := k2.kept (w' := w2.setCell ⟨h, 2, none⟩ (.slice (Option.some ⟨g, 0, none⟩) (l.length - 1) cap)) (Below.heap_setCell _ _ _ _ (fun e => d1 e.symm))
    have m3 := hmp1.kept (w' := w2.setCell ⟨h, 2, none⟩ (.slice (Option.some ⟨g, 0, none⟩) (l.length - 1) cap)) ((Below.heap_setCell _ _ _ _ (fun e => ht.hm e.symm)).trans (b2.block m (by have := b1.size; omega) d2))
    have e1 : tevict l k = l.take k ++ l.drop (k + 1) := evict_parts l k hk
    have e2 : (tevict l k).map (·.1) = (l.map (·.1)).eraseIdx k := by rw [e1, List.eraseIdx_eq_take_drop_succ, List.map_append, List.map_take, List.map_drop]
    have e3 : ((l.map (·.1)).eraseIdx k).length = l.length - 1 := by rw [List.length_eraseIdx, if_pos hkm, List.length_map]
    rw [hr]
    refine ⟨rfl, g, ⟨⟨_, setCell_row hh2 2 _, .inr ⟨cap, by rw [e2, e3], by rw [e2]; exact k3, d1, d2⟩⟩, by rw [e1]; exact m3, uniq_evict ht.uq _, ?_, ht.n1, ht.n2, Nat.le_trans (evict_length _ _) ht.le, ht.hm, k3.lt⟩, .inl rfl, (b1.mono (fun i hi => .inr (.inl hi))).trans b3⟩
    intro y hy
    rw [e1] at hy
    rcases List.mem_append.1 hy with hy | hy
    · exact ht.ki y (List.mem_of_mem_take hy)
    · exact ht.ki y (List.mem_of_mem_drop hy)
  have f2 : ∀ w2, But (fun b => b = g) w1 w2 → w2.cell? ⟨h, 2, none⟩ = Option.some (.slice (Option.some ⟨g, 0, none⟩) l.length cap) ∧ w2.frozen? ⟨h, 2, none⟩ = false := by
    intro w2 b2
    have hh2 := (b2.block h (by have := b1.size; omega) d1).trans hh1
    exact ⟨by rw [cell_of_row w2 h 2 _ _ _ hh2]; rfl, by simp [World.frozen?, hh2]⟩
  have HR : Hid (∀ ty, (Builtin.delete_ #[37, 42] ty #[.map (Option.some m), .agg #[i64 x.1.1, i64 x.1.2]]).run Try.prog w.drew = .ok (.tuple #[]) w1) := hrun
  have hk0 : ¬ (k : Int) < 0 := by omega
  have hk1 : (k : Int) < (l.length : Int) := by omega
  have hwr : IntKind.i64.wrap ((k : Int) + 1) = (k : Int) + 1 := by have := ht.le; have := ht.n2; rw [IntKind.wrap_i64]; omega
  have c42 := S1.2.1
  clear hr hrun hmp hmp1 hsp hu hkx hx hxk c1 c2 c3 c4 hh hh1 hK hK1 b1 ht1 lh lm lg hkm
  go_enter Try.func12, Try.ntmps12
  go_wp2_with (go_at_call 13; refine (len_says ht).mono ?_; rintro e w' ⟨rfl, rfl⟩)
  go_region_held3 (fun u => u.cell? ⟨h, 1, none⟩ = Option.some (.map (Option.some m)) ∧ u.cell? ⟨h, 2, none⟩ = Option.some (.slice (Option.some ⟨g, 0, none⟩) l.length cap) ∧ u.cell? ⟨g, k * 2, none⟩ = Option.some (i64 x.1.1) ∧ u.cell? ⟨g, k * 2 + 1, none⟩ = Option.some (i64 x.1.2)) (first | exact S0 | exact S1) (refine step_delete rfl (.tmp 15) (.tmp 22) rfl m x.1 (by simp [Act.eval]) (by simp [Act.eval]) HR.out ?_)
  go_wp2_with (go_at_call 16; refine hdel.mono ?_; rintro e w2 ⟨rfl, k2, b2⟩; obtain ⟨f3, f4⟩ := f2 w2 b2)
  go_end0
  exact hout _ k2 b2
theorem evict_says {w : World} {h m g n : Nat} {l : List Ent} (ht : Tl w h m g n l) (k : Int) : Calls Try.prog 12 #[.pointer (some ⟨h, 0, none⟩), i64 k] w fun e w' => e = .returned (.tuple #[]) ∧ Did h m g n (tevict l k) w w' := by
  by_cases hk : 0 ≤ k ∧ k < l.length
  · obtain ⟨j, rfl⟩ := Int.eq_ofNat_of_zero_le hk.1
    exact evict_yes ht j (by omega)
  · exact evict_no ht k (by omega)
end Go.Proofs.Ytkcjhhppfolajaa
