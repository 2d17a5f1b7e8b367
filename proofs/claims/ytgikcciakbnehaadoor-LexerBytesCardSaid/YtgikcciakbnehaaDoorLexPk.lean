
/-
  The document's own lexer in memory: peek, letter, digit, hex, escape.
-/
import Derived.Test.YtgikcciakbnehaaDoorLexRf
import Derived.Test.YtgikcciakbnehaaDoorLexRd
import Derived.Deep.Draws
set_option maxRecDepth 100000
namespace Go.Proofs.YtgikcciakbnehaaDoor.Lex
open Go.Proofs.YtgikcciakbnehaaDoor Go.Proofs.YtgikcciakbnehaaDoor.Ser
open Go.ChangeShapes Go.WideShapes Go.ChangeAt Go.RowKit
/-- It stands at byte k of the text; line, column, error. -/
structure Xr (w : World) (h : Nat) (s : ByteArray) (k : Nat) (l c e : Int) : Prop where
  hd : w.heap[h]? = some (.cells #[.string s, i64 k, i64 l, i64 c, i64 e] 50 (0, 0))
section
variable {w : World} {h k : Nat} {s : ByteArray} {l c e : Int}
theorem Xr.text (X : Xr w h s k l c e) : w.cell? ⟨h, 0, none⟩ = some (.string s) := by rw [cell_of_row w h 0 _ _ _ X.hd]; rfl
theorem Xr.at_ (X : Xr w h s k l c e) : w.cell? ⟨h, 1, none⟩ = some (i64 k) := by rw [cell_of_row w h 1 _ _ _ X.hd]; rfl
theorem Xr.line (X : Xr w h s k l c e) : w.cell? ⟨h, 2, none⟩ = some (i64 l) := by rw [cell_of_row w h 2 _ _ _ X.hd]; rfl
theorem Xr.col (X : Xr w h s k l c e) : w.cell? ⟨h, 3, none⟩ = some (i64 c) := by rw [cell_of_row w h 3 _ _ _ X.hd]; rfl
theorem Xr.err (X : Xr w h s k l c e) : w.cell? ⟨h, 4, none⟩ = some (i64 e) := by rw [cell_of_row w h 4 _ _ _ X.hd]; rfl
theorem Xr.fr (X : Xr w h s k l c e) (i : Nat) : w.frozen? ⟨h, i, none⟩ = false := by simp [World.frozen?, X.hd]
end
/-- The runes from here on. -/
def rsAt (s : ByteArray) (k : Nat) : List Int := rs (s.data.toList.drop k)
theorem rsAt_end {s : ByteArray} {k : Nat} (h : s.size ≤ k) : rsAt s k = [-1] := by
  unfold rsAt
  rw [List.drop_eq_nil_of_le (by show s.data.toList.length ≤ k; rw [Array.length_toList]; exact h)]
  rfl
theorem rsAt_rune {s : ByteArray} {k : Nat} (h : k < s.size) : (runeP (s.data.toList.drop k) = (0, 0) ∧ rsAt s k = [-2]) ∨ (∃ (r : Int) (n : Nat), runeP (s.data.toList.drop k) = (r, n) ∧ 1 ≤ n ∧ k + n ≤ s.size ∧ rune r ∧ rsAt s k = r :: rsAt s (k + n)) := by
  have hl : s.data.toList.length = s.size := Array.length_toList
  have hne : s.data.toList.drop k ≠ [] := by
    rw [← List.length_pos_iff, List.length_drop]; omega
  unfold rsAt
  rcases rs_cases (s.data.toList.drop k) with ⟨e, _⟩ | ⟨_, hb, e⟩ | ⟨_, hb, e⟩
  · exact absurd e hne
  · left
    exact ⟨by unfold runeP; rw [if_pos hb], e⟩
  · right
    have h1 := Lib.decodeL_width (s.data.toList.drop k)
    have h2 := decodeL_le _ hne
    rw [List.length_drop] at h2
    refine ⟨_, _, by unfold runeP; rw [if_neg hb], h1, by omega, decodeL_rune' _, ?_⟩
    rw [e, List.drop_drop]
section
variable {w : World} {h k : Nat} {s : ByteArray} {l c e : Int}
set_option maxRecDepth 100000 in
set_option maxHeartbeats 4000000 in
theorem peek_says (hX : Xr w h s k l c e) (hs : s.size ≤ 65536) (hk : k ≤ s.size) : Calls Tryd.prog 14 #[.pointer (some ⟨h, 0, none⟩)] w fun e w' => e = .returned (i64 (hd (rsAt s k))) ∧ ∃ n, w' = w.drewN n := by
  have x0 := hX.text
  have x1 := hX.at_
  have k0 : (0 : Int) ≤ (k : Int) := Int.natCast_nonneg k
  by_cases hlt : k < s.size
  · have hI : ¬ (s.size : Int) ≤ (k : Int) := by omega
    have HR := Lib.hid (fun u => rune_says s k hlt hs u)
    rcases rsAt_rune hlt with ⟨e1, e2⟩ | ⟨r, n, e1, hn, -, -, e2⟩
    · rw [e1] at HR
      rw [e2]
      clear hX e1 e2
      go_enter Tryd.func14, Tryd.ntmps14
      go_wp2_with fail
      go_region
      go_wp2_with fail
      go_region_with (go_at_call 35; refine (HR.out _).mono ?_; rintro e w' ⟨rfl, rfl⟩)
      all_goals go_wp2_with fail
      all_goals (go_ret; exact ⟨rfl, 2, rfl⟩)
    · rw [e1] at HR
      rw [e2]
      have hn0 : ((n : Int) == 0) = false := by rw [beq_eq_false_iff_ne]; omega
      clear hX e1 e2
      go_enter Tryd.func14, Tryd.ntmps14
      go_wp2_with fail
      go_region
      go_wp2_with fail
      go_region_with (go_at_call 35; refine (HR.out _).mono ?_; rintro e w' ⟨rfl, rfl⟩)
      all_goals go_wp2_with fail
      all_goals (go_ret; exact ⟨rfl, 2, rfl⟩)
  · have hI : (s.size : Int) ≤ (k : Int) := by omega
    rw [rsAt_end (by omega)]
    clear hX
    go_enter Tryd.func14, Tryd.ntmps14
    go_wp2_with fail
    go_region
    go_wp2_with fail
    go_ret
    exact ⟨rfl, 1, rfl⟩
set_option maxRecDepth 100000 in
set_option maxHeartbeats 4000000 in
/-- One rune further. -/
theorem pass_says (hX : Xr w h s k l c e) (hs : s.size ≤ 65536) (hk : k < s.size) (hc : 1 ≤ c ∧ c ≤ 65537) (hl : 1 ≤ l ∧ l ≤ 65537) {r : Int} {n : Nat} (hr : runeP (s.data.toList.drop k) = (r, n)) (hn : k + n ≤ s.size) :
    Calls Tryd.prog 15 #[.pointer (some ⟨h, 0, none⟩)] w fun e' w' => e' = .returned (.tuple #[]) ∧ Xr w' h s (k + n) (if r = 10 then l + 1 else l) (if r = 10 then 1 else c + 1) e ∧ But (fun i => i = h) w w' := by
  have x0 := hX.text
  have x1 := hX.at_
  have x2 := hX.line
  have x3 := hX.col
  have f1 := hX.fr 1
  have f2 := hX.fr 2
  have f3 := hX.fr 3
  have k0 : (0 : Int) ≤ (k : Int) := Int.natCast_nonneg k
  have n0 : (0 : Int) ≤ (n : Int) := Int.natCast_nonneg n
  have kn : (k : Int) + (n : Int) ≤ 65536 := by omega
  obtain ⟨c0, c1⟩ := hc
  obtain ⟨l0, l1⟩ := hl
  have HR := Lib.hid (fun u => rune_says s k hk hs u)
  rw [hr] at HR
  have ek : ((k + n : Nat) : Int) = (k : Int) + (n : Int) := by omega
  obtain ⟨p, hp⟩ : ∃ p : Ending → World → Prop, p = fun e' w' => e' = .returned (.tuple #[]) ∧ Xr w' h s (k + n) (if r = 10 then l + 1 else l) (if r = 10 then 1 else c + 1) e ∧ But (fun i => i = h) w w' := ⟨_, rfl⟩
  rw [← hp]
  have hd := hX.hd
  have o1 : r = 10 → p (.returned (.tuple #[])) ((((w.setCell ⟨h, 1, none⟩ (i64 ((k : Int) + n))).setCell ⟨h, 3, none⟩ (i64 (c + 1))).setCell ⟨h, 2, none⟩ (i64 (l + 1))).setCell ⟨h, 3, none⟩ (i64 1)).drew := by
    intro h10
    rw [hp]
    refine ⟨rfl, ⟨?_⟩, (((((But.refl (fun i => i = h) w).setCell ⟨h, 1, none⟩ rfl _).setCell ⟨h, 3, none⟩ rfl _).setCell ⟨h, 2, none⟩ rfl _).setCell ⟨h, 3, none⟩ rfl _).drew⟩
    rw [if_pos h10, if_pos h10, ek]
    exact setCell_row (setCell_row (setCell_row (setCell_row hd 1 (i64 ((k : Int) + n))) 3 (i64 (c + 1))) 2 (i64 (l + 1))) 3 (i64 1)
  have o2 : r ≠ 10 → p (.returned (.tuple #[])) ((w.setCell ⟨h, 1, none⟩ (i64 ((k : Int) + n))).setCell ⟨h, 3, none⟩ (i64 (c + 1))).drew := by
    intro h10
    rw [hp]
    refine ⟨rfl, ⟨?_⟩, (((But.refl (fun i => i = h) w).setCell ⟨h, 1, none⟩ rfl _).setCell ⟨h, 3, none⟩ rfl _).drew⟩
    rw [if_neg h10, if_neg h10, ek]
    exact setCell_row (setCell_row hd 1 (i64 ((k : Int) + n))) 3 (i64 (c + 1))
  clear hr hX hp hd ek
  by_cases h10 : r = 10
  · have o3 := o1 h10
    clear o1 o2
    subst h10
    go_enter Tryd.func15, Tryd.ntmps15
    go_wp2_with fail
    go_region_with (go_at_call 35; refine (HR.out _).mono ?_; rintro e w' ⟨rfl, rfl⟩)
    all_goals go_wp2_with fail
    all_goals (go_end0; exact o3)
  · have f10 : (r == 10) = false := by rw [beq_eq_false_iff_ne]; exact h10
    have o3 := o2 h10
    clear o1 o2
    go_enter Tryd.func15, Tryd.ntmps15
    go_wp2_with fail
    go_region_with (go_at_call 35; refine (HR.out _).mono ?_; rintro e w' ⟨rfl, rfl⟩)
    all_goals go_wp2_with fail
    all_goals (go_end0; exact o3)
end
end Go.Proofs.YtgikcciakbnehaaDoor.Lex
