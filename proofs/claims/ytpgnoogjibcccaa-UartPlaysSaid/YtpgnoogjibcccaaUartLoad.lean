
/-
  Package uart: Load, Store, Out.
-/
import Derived.Test.YtpgnoogjibcccaaUartTab
namespace Go.Proofs.Ytpgnoogjibcccaa.Ser
open Go.Proofs.Ytpgnoogjibcccaa
open Go.ChangeShapes Go.WideShapes Go.ChangeAt Go.RowKit
theorem Step.after {F : Nat → Prop} {P' : Thing} {w w' w'' : World} (b : Below w.heap.size w w') (h : Step F P' w' w'') : Step F P' w w'' := by
  obtain ⟨F', p, n, b'⟩ := h
  have := b.size
  refine ⟨F', p, fun i hi => ?_, (But.of (S := F) b (Nat.le_refl _)).trans b'⟩
  rcases n i hi with h | h
  · exact .inl h
  · exact .inr (by omega)
theorem Thing.is.later {P : Thing} {F : Nat → Prop} {w w' : World} (p : P.is w F) (b : Below w.heap.size w w') : P.is w' F :=
  P.firm _ _ _ p fun i hi => b.block i (P.lt _ _ p i hi)
set_option maxRecDepth 100000 in
theorem load_4 (h : Nat) (rx tx : List Int) : Turns 9 #[.pointer (some ⟨h, 0, none⟩), i64 4] (.returned (.tuple #[i64 (ulv rx 4), .bool true])) (Ua h rx tx) (Ua h (ulr rx 4) tx) := by
  intro w F hp
  have ht := take_says h rx tx
  generalize Ua h rx tx = T at *
  generalize ulv rx 4 = v at *
  go_enter Try.func9, Try.ntmps9
  go_wp2_with (first
    | (go_at_call 19; refine (ht _ F (hp.later (hb.alloc (by have := hb.size; omega) _))).mono ?_; rintro e w2 ⟨rfl, hs⟩)
    | (go_at_call 15; refine (at_4 w).mono ?_; rintro e w1 ⟨rfl, hb⟩))
  go_ret2
  exact ⟨rfl, hs.after (hb.alloc (by have := hb.size; omega) _)⟩
set_option maxRecDepth 100000 in
theorem load_0 (h : Nat) (rx tx : List Int) : Turns 9 #[.pointer (some ⟨h, 0, none⟩), i64 0] (.returned (.tuple #[i64 0, .bool true])) (Ua h rx tx) (Ua h rx tx) := by
  intro w F hp
  generalize Ua h rx tx = T at *
  go_enter Try.func9, Try.ntmps9
  go_wp2_with (first
    | (go_at_call 17; refine (nothing_says h _).mono ?_; rintro e w2 ⟨rfl, rfl⟩)
    | (go_at_call 15; refine (at_0 w).mono ?_; rintro e w1 ⟨rfl, hb⟩))
  go_ret2
  exact ⟨rfl, .still (hb.alloc (by have := hb.size; omega) _) hp⟩
set_option maxRecDepth 100000 in
theorem load_8 (h : Nat) (rx tx : List Int) : Turns 9 #[.pointer (some ⟨h, 0, none⟩), i64 8] (.returned (.tuple #[i64 rx.length, .bool true])) (Ua h rx tx) (Ua h rx tx) := by
  intro w F hp
  have ht : ∀ w, (Ua h rx tx).is w F → Calls Try.prog 13 #[.pointer (some ⟨h, 0, none⟩)] w fun e w' => e = .returned (i64 rx.length) ∧ w = w' := by
    rintro w ⟨ring, f, v, U, -⟩
    exact waiting_says U
  generalize Ua h rx tx = T at *
  generalize rx.length = c at *
  go_enter Try.func9, Try.ntmps9
  go_wp2_with (first
    | (go_at_call 13; refine (ht _ (hp.later (hb.alloc (by have := hb.size; omega) _))).mono ?_; rintro e w2 ⟨rfl, rfl⟩)
    | (go_at_call 15; refine (at_8 w).mono ?_; rintro e w1 ⟨rfl, hb⟩))
  go_ret2
  exact ⟨rfl, .still (hb.alloc (by have := hb.size; omega) _) hp⟩
set_option maxRecDepth 100000 in
theorem load_no (h : Nat) (rx tx : List Int) (off : Int) (ho : -9223372036854775808 ≤ off ∧ off ≤ 9223372036854775807) (h0 : off ≠ 0) (h4 : off ≠ 4) (h8 : off ≠ 8) : Turns 9 #[.pointer (some ⟨h, 0, none⟩), i64 off] (.returned (.tuple #[i64 0, .bool false])) (Ua h rx tx) (Ua h rx tx) := by
  intro w F hp
  generalize Ua h rx tx = T at *
  go_enter Try.func9, Try.ntmps9
  go_wp2_with (go_at_call 15; refine (at_no off ho h0 h4 h8 w).mono ?_; rintro e w1 ⟨rfl, hb⟩)
  go_ret2
  exact ⟨rfl, .still (hb.alloc (by have := hb.size; omega) _) hp⟩
/-- Load. -/
theorem load_says (h : Nat) (rx tx : List Int) (off : Int) (ho : -9223372036854775808 ≤ off ∧ off ≤ 9223372036854775807) : Turns 9 #[.pointer (some ⟨h, 0, none⟩), i64 off] (.returned (.tuple #[i64 (ulv rx off), .bool (uok off)])) (Ua h rx tx) (Ua h (ulr rx off) tx) := by
  by_cases h4 : off = 4
  · subst h4; exact load_4 h rx tx
  · have hr : ulr rx off = rx := by unfold ulr; rw [if_neg h4]
    rw [hr]
    by_cases h8 : off = 8
    · subst h8
      have hv : ulv rx 8 = rx.length := by unfold ulv; rw [if_neg (by decide), if_pos rfl]
      rw [hv]; exact load_8 h rx tx
    · have hv : ulv rx off = 0 := by unfold ulv; rw [if_neg h4, if_neg h8]
      rw [hv]
      by_cases h0 : off = 0
      · subst h0; exact load_0 h rx tx
      · have hk : uok off = false := by unfold uok; simp [h0, h4, h8]
        rw [hk]; exact load_no h rx tx off ho h0 h4 h8
set_option maxRecDepth 100000 in
theorem store_0 (h : Nat) (rx tx : List Int) (x : Int) (hl : tx.length < 100000) : Turns 7 #[.pointer (some ⟨h, 0, none⟩), i64 0, i64 x] (.returned (.bool true)) (Ua h rx tx) (Ua h rx (ust tx 0 x)) := by
  intro w F hp
  have ht := write_says h rx tx x hl
  generalize Ua h rx tx = T at *
  go_enter Try.func7, Try.ntmps7
  go_wp2_with (first
    | (go_at_call 18; refine (ht _ F (hp.later (hb.alloc (by have := hb.size; omega) _))).mono ?_; rintro e w2 ⟨rfl, hs⟩)
    | (go_at_call 15; refine (at_0 w).mono ?_; rintro e w1 ⟨rfl, hb⟩))
  go_ret
  exact ⟨rfl, hs.after (hb.alloc (by have := hb.size; omega) _)⟩
set_option maxRecDepth 100000 in
theorem store_4 (h : Nat) (rx tx : List Int) (x : Int) : Turns 7 #[.pointer (some ⟨h, 0, none⟩), i64 4, i64 x] (.returned (.bool true)) (Ua h rx tx) (Ua h rx tx) := by
  intro w F hp
  generalize Ua h rx tx = T at *
  go_enter Try.func7, Try.ntmps7
  go_wp2_with (first
    | (go_at_call 20; refine (ignore_says h x _).mono ?_; rintro e w2 ⟨rfl, rfl⟩)
    | (go_at_call 15; refine (at_4 w).mono ?_; rintro e w1 ⟨rfl, hb⟩))
  go_ret
  exact ⟨rfl, .still (hb.alloc (by have := hb.size; omega) _) hp⟩
set_option maxRecDepth 100000 in
theorem store_8 (h : Nat) (rx tx : List Int) (x : Int) : Turns 7 #[.pointer (some ⟨h, 0, none⟩), i64 8, i64 x] (.returned (.bool true)) (Ua h rx tx) (Ua h rx tx) := by
  intro w F hp
  generalize Ua h rx tx = T at *
  go_enter Try.func7, Try.ntmps7
  go_wp2_with (first
    | (go_at_call 20; refine (ignore_says h x _).mono ?_; rintro e w2 ⟨rfl, rfl⟩)
    | (go_at_call 15; refine (at_8 w).mono ?_; rintro e w1 ⟨rfl, hb⟩))
  go_ret
  exact ⟨rfl, .still (hb.alloc (by have := hb.size; omega) _) hp⟩
set_option maxRecDepth 100000 in
theorem store_no (h : Nat) (rx tx : List Int) (off x : Int) (ho : -9223372036854775808 ≤ off ∧ off ≤ 9223372036854775807) (h0 : off ≠ 0) (h4 : off ≠ 4) (h8 : off ≠ 8) : Turns 7 #[.pointer (some ⟨h, 0, none⟩), i64 off, i64 x] (.returned (.bool false)) (Ua h rx tx) (Ua h rx tx) := by
  intro w F hp
  generalize Ua h rx tx = T at *
  go_enter Try.func7, Try.ntmps7
  go_wp2_with (go_at_call 15; refine (at_no off ho h0 h4 h8 w).mono ?_; rintro e w1 ⟨rfl, hb⟩)
  go_ret
  exact ⟨rfl, .still (hb.alloc (by have := hb.size; omega) _) hp⟩
/-- Store. -/
theorem store_says (h : Nat) (rx tx : List Int) (off x : Int) (ho : -9223372036854775808 ≤ off ∧ off ≤ 9223372036854775807) (hl : tx.length < 100000) : Turns 7 #[.pointer (some ⟨h, 0, none⟩), i64 off, i64 x] (.returned (.bool (uok off))) (Ua h rx tx) (Ua h rx (ust tx off x)) := by
  by_cases h0 : off = 0
  · subst h0; exact store_0 h rx tx x hl
  · have hr : ust tx off x = tx := by unfold ust; rw [if_neg h0]
    rw [hr]
    by_cases h4 : off = 4
    · subst h4; exact store_4 h rx tx x
    · by_cases h8 : off = 8
      · subst h8; exact store_8 h rx tx x
      · have hk : uok off = false := by unfold uok; simp [h0, h4, h8]
        rw [hk]; exact store_no h rx tx off x ho h0 h4 h8
end Go.Proofs.Ytpgnoogjibcccaa.Ser
