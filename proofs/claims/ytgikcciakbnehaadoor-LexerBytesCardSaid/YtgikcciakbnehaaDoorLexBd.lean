
/-
  strings.Builder's WriteRune, String; utf8's DecodeRuneInString at this program.
-/
import Derived.Test.YtgikcciakbnehaaDoorShelf
import Derived.Test.YtgikcciakbnehaaDoorBytes
import Derived.Lib.RuneBytes
set_option maxRecDepth 100000
namespace Go.Proofs.YtgikcciakbnehaaDoor.Lex
open Go.Proofs.YtgikcciakbnehaaDoor Go.Proofs.YtgikcciakbnehaaDoor.Ser
open Go.ChangeShapes Go.WideShapes Go.ChangeAt Go.RowKit
/-- A builder in block b that holds bytes. -/
def Bld (b : Nat) (bs : List Value) (w : World) : Prop := Lib.IsBuilder 72 5 b b bs w
theorem own_kept' {w w' : World} {B e s n : Nat} {v : Value} {xs : List Value} (h : w.ownsRow B e s v n xs) (hb : ∀ g, v.ownBlock = some g → w'.heap[g]? = w.heap[g]?) : w'.ownsRow B e s v n xs := by
  obtain ⟨h0, h1 | ⟨g, cap, cur, rfl, h2, h3, h4⟩⟩ := h
  · exact ⟨h0, .inl h1⟩
  · exact ⟨h0, .inr ⟨g, cap, cur, rfl, h2, (hb g rfl).trans h3, h4⟩⟩
set_option maxRecDepth 100000 in
theorem check_says {b : Nat} {bs : List Value} {w : World} (h : Bld b bs w) : Calls Tryd.prog 45 #[.pointer (some ⟨b, 0, none⟩)] w fun e w' => e = .returned (.tuple #[]) ∧ Lib.BuilderAt 72 5 b b (.pointer (some ⟨b, 0, none⟩)) bs w' ∧ Below b w w' := by
  rcases h with h | h
  · have c0 := h.cell0
    have f0 := h.frozen0
    obtain ⟨r, hr⟩ : ∃ r : Ending → World → Prop, r = fun e w' => e = .returned (.tuple #[]) ∧ Lib.BuilderAt 72 5 b b (.pointer (some ⟨b, 0, none⟩)) bs w' ∧ Below b w w' := ⟨_, rfl⟩
    rw [← hr]
    have hout : r (.returned (.tuple #[])) (w.setCell ⟨b, 0, none⟩ (.pointer (some ⟨b, 0, none⟩))) := by
      rw [hr]
      exact ⟨rfl, h.used _, (Below.refl b w).setCell (p := ⟨b, 0, none⟩) h.1 _⟩
    have hsh := h.shape
    clear hr h
    obtain ⟨j, hj, hjs⟩ := Option.map_eq_some_iff.1 Tryd.Builder_Extra_169.sizeBuilder
    go_enter Tryd.func45, Tryd.ntmps45
    go_wp2
    rw [Lib.run_to_unsafe w ⟨b, 0, none⟩ Tryd.underlying70 Tryd.underlying85 hj (by rw [hjs]; decide) hsh (Nat.zero_lt_succ 1)]
    simp only [Result.andThen]
    rw [Oper.upon_value]
    go_wp2
    rw [run_callFunc_extern Tryd.func47 (by kernel_rfl) (by kernel_rfl) (by kernel_rfl) (e := Extern.AbiNoEscape.same) (by kernel_rfl)]
    rw [Lib.run_noEscape]
    simp only [Result.andThen]
    rw [Oper.upon_value]
    go_wp2
    rw [Lib.run_from_unsafe w ⟨b, 0, none⟩ Tryd.underlying85 Tryd.underlying70 hj hsh Tryd.Builder_Extra_169.liesBuilder]
    simp only [Result.andThen]
    rw [Oper.upon_value]
    go_wp2
    first | exact hout | (go_end0; exact hout)
  · have c0 := h.cell0
    obtain ⟨r, hr⟩ : ∃ r : Ending → World → Prop, r = fun e w' => e = .returned (.tuple #[]) ∧ Lib.BuilderAt 72 5 b b (.pointer (some ⟨b, 0, none⟩)) bs w' ∧ Below b w w' := ⟨_, rfl⟩
    rw [← hr]
    have hout : r (.returned (.tuple #[])) w := by
      rw [hr]
      exact ⟨rfl, h, Below.refl b w⟩
    clear hr h
    obtain ⟨j, hj, hjs⟩ := Option.map_eq_some_iff.1 Tryd.Builder_Extra_169.sizeBuilder
    go_enter Tryd.func45, Tryd.ntmps45
    go_wp2
    rw [Lib.run_neq_ptr_same w _ Tryd.underlying70 hj]
    go_wp2
    first | exact hout | (go_end0; exact hout)
set_option maxRecDepth 100000 in
set_option maxHeartbeats 2000000 in
theorem writeRune_says {b : Nat} {bs : List Value} {w : World} (h : Bld b bs w) (x : Int) (x0 : -2147483648 ≤ x) (x1 : x ≤ 2147483647) (hlen : bs.length ≤ 1000000) :
    Calls Tryd.prog 42 #[.pointer (some ⟨b, 0, none⟩), .int .i32 x] w fun e w' => (∃ n, e = .returned (.tuple #[.int .i64 n, .nilIface])) ∧ Bld b (bs ++ Lib.runeCells x) w' ∧ Below b w w' := by
  have hk4 := Lib.runeCells_le x
  go_enter Tryd.func42, Tryd.ntmps42
  go_wp2_with (go_at_call 45; refine (check_says h).mono ?_)
  rintro e w1 ⟨rfl, h1, hb1⟩
  obtain ⟨hB, v, hbk, hown, hne⟩ := h1
  obtain ⟨ao, cap, rfl⟩ : ∃ ao cap, v = .slice ao bs.length cap := by
    rcases hown.2 with ⟨hv, h0⟩ | ⟨g, cap, cur, hv, _⟩
    · exact ⟨none, 0, by rw [hv, h0]⟩
    · exact ⟨_, _, hv⟩
  have c0 : w1.cell? ⟨b, 0, none⟩ = some (.pointer (some ⟨b, 0, none⟩)) := by rw [Lib.cell_of_heap hbk]; rfl
  have c1 : w1.cell? ⟨b, 1, none⟩ = some (.slice ao bs.length cap) := by rw [Lib.cell_of_heap hbk]; rfl
  have hlt : b < w1.heap.size := (Array.getElem?_eq_some_iff.1 hbk).1
  go_wp2_with (go_at_call 46; refine (Tryd.utf8_AppendRune_plain b _ bs.length bs x x0 x1 _ hown (by omega) (by omega)).mono ?_)
  rintro e w2 ⟨v', rfl, hown', o, hgrow⟩
  have hb2 : w2.heap[b]? = some (.cells #[.pointer (some ⟨b, 0, none⟩), .slice ao bs.length cap] 72 (0, 0)) := by
    rw [hgrow.block b (by simp; omega) (fun e => hne e.symm), Lib.alloc_old w1 _ b hlt]
    exact hbk
  have d0 : w2.cell? ⟨b, 0, none⟩ = some (.pointer (some ⟨b, 0, none⟩)) := by rw [Lib.cell_of_heap hb2]; rfl
  have d1 : w2.cell? ⟨b, 1, none⟩ = some (.slice ao bs.length cap) := by rw [Lib.cell_of_heap hb2]; rfl
  have f1 : w2.frozen? ⟨b, 1, none⟩ = false := Lib.frozen_of_heap hb2 1
  obtain ⟨g, cap', rfl⟩ : ∃ g cap', v' = .slice (some ⟨g, 0, none⟩) (bs.length + (Lib.runeCells x).length) cap' := by
    rcases hown'.2 with ⟨_, h0⟩ | ⟨g, cap', cur, hv, _⟩
    · omega
    · exact ⟨g, cap', hv⟩
  go_wp2
  go_ret2
  refine ⟨⟨_, rfl⟩, ?_, ?_⟩
  · refine .inr (Lib.BuilderAt.put (T := 72) (e := 5) hB hb2 (bs' := bs ++ Lib.runeCells x) (by simpa using hown') (by decide))
  · exact ((hb1.alloc (by omega) _).grown hgrow (by simp; omega) (fun k hk => (hown.lt k hk).1)).setCell (p := ⟨b, 1, none⟩) hB _
/-- A new builder. -/
theorem bld_new (w : World) : Bld w.heap.size [] (w.alloc (.cells #[.pointer none, .slice none 0 0] 72)) :=
  .inl ⟨Nat.le_refl _, .slice none 0 0, (MapKept.heap_alloc w _).1, World.ownsRow_nil _ _ _ _, fun e => by cases e⟩
theorem bld_kept {b : Nat} {bs : List Value} {w w' : World} {S : Nat → Prop} (h : Bld b bs w) (hb : But S w w') (hS : ∀ i, S i → i < b) : Bld b bs w' := by
  have key : ∀ p, Lib.BuilderAt 72 5 b b p bs w → Lib.BuilderAt 72 5 b b p bs w' := by
    rintro p ⟨h1, v, h2, h3, h4⟩
    refine ⟨h1, v, (hb.block b (Array.getElem?_eq_some_iff.1 h2).1 (fun hs => by have := hS b hs; omega)).trans h2, ?_, h4⟩
    refine own_kept' h3 fun i hi => ?_
    obtain ⟨i1, i2⟩ := h3.lt i hi
    exact hb.block i i2 (fun hs => by have := hS i hs; omega)
  exact h.imp (key _) (key _)
theorem string_says {b : Nat} {l : List UInt8} {w : World} (h : Bld b (Lib.byteCells l) w) : Calls Tryd.prog 43 #[.pointer (some ⟨b, 0, none⟩)] w fun e w' => e = .returned (.string ⟨l.toArray⟩) ∧ Below b w w' := by
  refine Tryd.Builder_String_any b b l w h ?_
  rcases h with ⟨_, v, h2, _⟩ | ⟨_, v, h2, _⟩ <;> exact Nat.le_of_lt (Array.getElem?_eq_some_iff.1 h2).1
end Go.Proofs.YtgikcciakbnehaaDoor.Lex
