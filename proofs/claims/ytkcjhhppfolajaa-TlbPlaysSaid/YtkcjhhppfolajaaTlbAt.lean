
/-
  A Tlb of the call's own: its calls, by what it holds; trunnionlaw6.alive.
-/
import Derived.Test.YtkcjhhppfolajaaTlbPut
import Derived.Test.YtkcjhhppfolajaaTlbDf
import Derived.Deep.Cut
namespace Go.Proofs.Ytkcjhhppfolajaa
open Go.ChangeShapes Go.WideShapes Go.ChangeAt Go.RowKit
/-- A Tlb that the call (begun in W) has made; nothing that lay in W has turned. -/
structure At (W w : World) (h m n : Nat) (l : List Ent) : Prop where
  t : ∃ g, Tl w h m g n l ∧ W.heap.size ≤ g
  lh : W.heap.size ≤ h
  lm : W.heap.size ≤ m
  b : Below W.heap.size W w
section
variable {W w w' : World} {h m n : Nat} {l : List Ent}
theorem At.did {g : Nat} {l' : List Ent} (a : At W w h m n l) (hg : W.heap.size ≤ g) (d : Did h m g n l' w w') : At W w' h m n l' := by
  obtain ⟨g', t, e, b⟩ := d
  have := a.b.size
  refine ⟨⟨g', t, by omega⟩, a.lh, a.lm, a.b.trans (b.below this fun i hi => ?_)⟩
  have := a.lh; have := a.lm
  omega
theorem At.grow (a : At W w h m n l) (b : Below w.heap.size w w') : At W w' h m n l := by
  obtain ⟨⟨g, t, hg⟩, h1, h2, h3⟩ := a
  exact ⟨⟨g, t.grow b, hg⟩, h1, h2, h3.trans (b.mono h3.size)⟩
theorem At.len (a : At W w h m n l) : l.length ≤ n := by obtain ⟨⟨g, t, hg⟩, -⟩ := a; exact t.le
theorem At.uq (a : At W w h m n l) : Uniq l := by obtain ⟨⟨g, t, hg⟩, -⟩ := a; exact t.uq
end
theorem new_at {W w : World} (b : Below W.heap.size W w) (n : Int) : Calls Try.prog 8 #[i64 n] w fun e w' => ∃ h m, e = .returned (.pointer (some ⟨h, 0, none⟩)) ∧ At W w' h m (places n) [] := by
  refine (new_says n w).mono ?_
  rintro e w' ⟨h, m, ⟨rfl, t, lh, lm, b2⟩⟩
  have := b.size
  exact ⟨h, m, rfl, ⟨h, t, by omega⟩, by omega, by omega, b.trans (b2.mono this)⟩
theorem put_at {W w : World} {h m n : Nat} {l : List Ent} (a : At W w h m n l) (t v e : Int) (ht : -9223372036854775808 ≤ t ∧ t ≤ 9223372036854775807) (hv : -9223372036854775808 ≤ v ∧ v ≤ 9223372036854775807) (he : -9223372036854775808 ≤ e ∧ e ≤ 9223372036854775807) :
    Calls Try.prog 9 #[.pointer (some ⟨h, 0, none⟩), i64 t, i64 v, i64 e] w fun x w' => x = .returned (.tuple #[]) ∧ At W w' h m n (tput n l (t, v) e) := by
  obtain ⟨g, tl, hg⟩ := a.t
  refine (put_says tl t v e ⟨ht, hv⟩ he).mono ?_
  rintro x w' ⟨rfl, d⟩
  exact ⟨rfl, a.did hg d⟩
theorem look_at {W w : World} {h m n : Nat} {l : List Ent} (a : At W w h m n l) (t v : Int) (ht : -9223372036854775808 ≤ t ∧ t ≤ 9223372036854775807) (hv : -9223372036854775808 ≤ v ∧ v ≤ 9223372036854775807) :
    Calls Try.prog 10 #[.pointer (some ⟨h, 0, none⟩), i64 t, i64 v] w fun e w' => e = lk l t v ∧ w = w' := by
  obtain ⟨g, tl, hg⟩ := a.t
  exact look_says tl t v ⟨ht, hv⟩
theorem flush_at {W w : World} {h m n : Nat} {l : List Ent} (a : At W w h m n l) (t : Int) :
    Calls Try.prog 11 #[.pointer (some ⟨h, 0, none⟩), i64 t] w fun x w' => x = .returned (.tuple #[]) ∧ At W w' h m n (tflush l t) := by
  obtain ⟨g, tl, hg⟩ := a.t
  refine (flush_says tl t).mono ?_
  rintro x w' ⟨rfl, d⟩
  exact ⟨rfl, a.did hg d⟩
theorem evict_at {W w : World} {h m n : Nat} {l : List Ent} (a : At W w h m n l) (k : Int) :
    Calls Try.prog 12 #[.pointer (some ⟨h, 0, none⟩), i64 k] w fun x w' => x = .returned (.tuple #[]) ∧ At W w' h m n (tevict l k) := by
  obtain ⟨g, tl, hg⟩ := a.t
  refine (evict_says tl k).mono ?_
  rintro x w' ⟨rfl, d⟩
  exact ⟨rfl, a.did hg d⟩
theorem len_at {W w : World} {h m n : Nat} {l : List Ent} (a : At W w h m n l) :
    Calls Try.prog 13 #[.pointer (some ⟨h, 0, none⟩)] w fun e w' => e = .returned (i64 l.length) ∧ w = w' := by
  obtain ⟨g, tl, hg⟩ := a.t
  exact len_says tl
theorem alive_list : tput (places 1) (tput (places 1) [] (0, 1) 5) (0, 2) 6 = [((0, 2), 6)] := by rfl
theorem alive_l1 : lk [((0, 2), 6)] 0 1 = .returned (.tuple #[i64 0, .bool false]) := by rfl
theorem alive_l2 : lk [((0, 2), 6)] 0 2 = .returned (.tuple #[i64 6, .bool true]) := by rfl
set_option maxRecDepth 100000 in
set_option maxHeartbeats 4000000 in
theorem alive6_says (w : World) : Calls Try.prog 7 #[] w fun e w' => e = .returned (.bool true) ∧ Below w.heap.size w w' := by
  have B0 := Below.refl w.heap.size w
  go_enter Try.func7, Try.ntmps7
  go_upto_region 4 with (go_at_call 8; refine (new_at B0 _).mono ?_; rintro e w1 ⟨h, m, rfl, A⟩)
  go_upto_region 5 with (go_at_call 9; refine (put_at A _ _ _ (by omega) (by omega) (by omega)).mono ?_; rintro e w2 ⟨rfl, A2⟩)
  go_upto_region 6 with (go_at_call 9; refine (put_at A2 _ _ _ (by omega) (by omega) (by omega)).mono ?_; rintro e w3 ⟨rfl, A3⟩; rw [alive_list] at A3)
  go_upto_region 7 with (go_at_call 10; refine (look_at A3 _ _ (by omega) (by omega)).mono ?_; rintro e w4 ⟨rfl, rfl⟩; rw [alive_l1])
  go_wp2_with (first | (go_at_call 10; refine (look_at A3 _ _ (by omega) (by omega)).mono ?_; rintro e w4 ⟨rfl, rfl⟩; rw [alive_l2]) | (go_at_call 13; refine (len_at A3).mono ?_; rintro e w4 ⟨rfl, rfl⟩))
  go_ret
  trace_state
  exact ⟨rfl, A3.b⟩
end Go.Proofs.Ytkcjhhppfolajaa
