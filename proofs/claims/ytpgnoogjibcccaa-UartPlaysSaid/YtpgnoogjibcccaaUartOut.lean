
/-
  Package uart: Out.
-/
import Derived.Test.YtpgnoogjibcccaaUartLoad
import Derived.Lib.SliceRun
namespace Go.Proofs.Ytpgnoogjibcccaa.Ser
open Go.Proofs.Ytpgnoogjibcccaa
open Go.ChangeShapes Go.WideShapes Go.ChangeAt Go.RowKit
/-- Bytes of the call's own are answered. -/
def NewRow (w : World) (tx : List Int) (e : Ending) (w' : World) : Prop := ∃ p c, e = .returned (.slice p tx.length c) ∧ Own w' w.heap.size (.slice p tx.length c) tx ∧ Below w.heap.size w w'
theorem own_none (w : World) : Own (w.alloc (.cells #[] 5)) w.heap.size (.slice (some ⟨w.heap.size, 0, none⟩) 0 0) [] :=
  ⟨rfl, .inr ⟨w.heap.size, 0, #[], rfl, Nat.le_refl _, heap_alloc_new _ _, Nat.le_refl _, by unfold maxLen; omega, rfl, rfl⟩⟩
theorem clone_says {w : World} {v : Value} {tx : List Int} (ho : Own w 0 v tx) (hl : tx.length < 100000) : Calls Try.prog 16 #[v] w (NewRow w tx) := by
  obtain ⟨r, hr⟩ : ∃ r, r = NewRow w tx := ⟨_, rfl⟩
  rw [← hr]
  obtain ⟨p, c, rfl, hn, -, -⟩ := own_form ho
  cases p with
  | none =>
    obtain ⟨rfl, rfl⟩ := hn rfl
    have h1 : r (.returned (.slice none 0 0)) w := by rw [hr]; exact ⟨none, 0, rfl, own_nil _ _, Below.refl _ _⟩
    clear hr ho hn hl
    have he : ∀ w : World, (binOp .eql 26 (.slice none 0 0) (.slice none 0 0)).run Try.prog w = .ok (.bool true) w := fun w => Lib.run_eql_slice_nil w _ _ none 0 0 0 0 Try.underlying26
    go_enter Try.func16, Try.ntmps16
    go_wp2
    exact h1
  | some ad =>
    have K : ∀ v' w1, Own w1 w.heap.size v' ([] ++ tx) → (w.alloc (.cells #[] 5)).grownBy w1 (some w.heap.size) → r (.returned v') w1 := by
      intro v' w1 h1 h2
      rw [List.nil_append] at h1
      obtain ⟨p', c', rfl, -⟩ := own_form h1
      rw [hr]
      exact ⟨p', c', rfl, h1, ((Below.refl _ _).alloc (Nat.le_refl _) _).grown h2 (by simp) (by simp)⟩
    have hs : Src (w.alloc (.cells #[] 5)) (some ad) tx := by
      refine own_src (B := 0) (w := w.alloc (.cells #[] 5)) (n := tx.length) (c := c) (own_kept ho fun g hg => Below.heap_alloc _ _ _ (ho.lt g hg).2)
    have HO := Lib.hid (own_none w)
    have HS := Lib.hid hs; have HK := Lib.hid K; have HL := Lib.hid hl
    clear hs K hl hr hn ho
    obtain ⟨n, hn⟩ : ∃ n, tx.length = n := ⟨_, rfl⟩
    rw [hn]
    have HN := Lib.hid hn
    clear hn
    have he : ∀ w : World, (binOp .eql 26 (.slice (some ad) n c) (.slice none 0 0)).run Try.prog w = .ok (.bool false) w := fun w => Lib.run_eql_slice_nil w _ _ (some ad) n c 0 0 Try.underlying26
    go_enter Try.func16, Try.ntmps16
    go_wp2_with (at_builtin; (refine wpList_app rfl _ _ rfl (by simp) (R1 := []) rfl HO.out tx rfl HN.out (fun e => by cases e) HS.out (by have h1 := HL.out; have h2 := HN.out; have h3 : ([] : List Int).length = 0 := rfl; omega) ?_; intro v' w1 k1 k2 k3; have d3 := Lib.hid (HK.out v' w1 k1 k2); clear k1 k2 k3))
    exact d3.out
theorem out_says {w : World} {h : Nat} {rx tx ring : List Int} {f : Nat} {v : Value} (U : UaAt w h rx tx ring f v) (hl : tx.length < 100000) : Calls Try.prog 14 #[.pointer (some ⟨h, 0, none⟩)] w (NewRow w tx) := by
  have c18 := U.c18
  have hc := clone_says U.own hl
  clear U hl
  go_enter Try.func14, Try.ntmps14
  go_wp2_with (go_at_call 16; refine hc.mono ?_; rintro e w1 ⟨p, c, rfl, h1, h2⟩)
  go_ret
  exact ⟨p, c, rfl, h1, h2⟩
end Go.Proofs.Ytpgnoogjibcccaa.Ser
