
/-
  Frames apart, plainly; a row of what has been seen.
-/
import Derived.Test.YtlddclkophajbaaFrmI
import Derived.Test.YtlddclkophajbaaFrmF
import Derived.Laws.MakeOwn
set_option maxRecDepth 100000
set_option linter.unusedVariables false
namespace Go.Proofs.Ytlddclkophajbaa.Cfg
open Go.Proofs.Ytlddclkophajbaa
open Go.ChangeShapes Go.WideShapes Go.ChangeAt Go.RowKit
/-- The frames from 4 up to T have been seen. -/
def seenRow (T : Nat) : Array Value := ((List.range 257).map fun k => Value.bool (decide (4 ≤ k ∧ k < T))).toArray
theorem seenRow_size (T : Nat) : (seenRow T).size = 257 := by simp [seenRow]
theorem seenRow_at (T k : Nat) (h : k < 257) : (seenRow T)[k]? = some (.bool (decide (4 ≤ k ∧ k < T))) := by
  simp [seenRow, h]
theorem seen_start : madeCells #[.bool false] 257 = seenRow 4 := by
  have e : ∀ k, k < 257 → (madeCells #[.bool false] 257)[k]? = (seenRow 4)[k]? := by
    intro k hk
    rw [seenRow_at 4 k hk]
    simp only [madeCells, Array.getElem?_map, Array.getElem?_range, hk, if_true, Option.map_some]
    have hd : decide (4 ≤ k ∧ k < 4) = false := decide_eq_false (by omega)
    rw [hd]
    simp [Nat.mod_one]
  apply Array.ext_getElem?
  intro k
  by_cases hk : k < 257
  · exact e k hk
  · rw [Array.getElem?_eq_none (by rw [size_madeCells]; omega), Array.getElem?_eq_none (by rw [seenRow_size]; omega)]
theorem seen_next {T : Nat} (h4 : 4 ≤ T) (h : T < 257) : (seenRow T).setIfInBounds T (.bool true) = seenRow (T + 1) := by
  apply Array.ext_getElem?
  intro k
  by_cases hk : k < 257
  · rw [Array.getElem?_setIfInBounds, seenRow_at _ k hk, seenRow_at _ k hk]
    by_cases e : T = k
    · subst e
      rw [if_pos rfl, if_pos (by rw [seenRow_size]; exact hk)]
      have hd : decide (4 ≤ T ∧ T < T + 1) = true := decide_eq_true (by omega)
      rw [hd]
    · rw [if_neg e]
      have hd : decide (4 ≤ k ∧ k < T + 1) = decide (4 ≤ k ∧ k < T) := by
        by_cases q : 4 ≤ k ∧ k < T
        · rw [decide_eq_true q, decide_eq_true (by omega)]
        · rw [decide_eq_false q, decide_eq_false (by omega)]
      rw [hd]
  · rw [Array.getElem?_eq_none (by rw [Array.size_setIfInBounds, seenRow_size]; omega), Array.getElem?_eq_none (by rw [seenRow_size]; omega)]
structure Sn (w : World) (B g T : Nat) : Prop where
  lo : B ≤ g
  row : w.heap[g]? = some (.cells (seenRow T) 4)
section
variable {w w' : World} {B g T : Nat}
theorem Sn.lt (S : Sn w B g T) : g < w.heap.size := (Array.getElem?_eq_some_iff.1 S.row).1
theorem Sn.at (S : Sn w B g T) (k : Nat) (hk : k < 257) : w.cell? ⟨g, k, none⟩ = some (.bool (decide (4 ≤ k ∧ k < T))) := by
  rw [cell_of_row _ _ k _ _ _ S.row]; exact seenRow_at T k hk
theorem Sn.fr (S : Sn w B g T) (k : Nat) : w.frozen? ⟨g, k, none⟩ = false := by simp [World.frozen?, S.row]
theorem Sn.kept (S : Sn w B g T) (hb : Below w.heap.size w w') : Sn w' B g T := ⟨S.lo, (hb.block g S.lt).trans S.row⟩
theorem Sn.set (S : Sn w B g T) (h4 : 4 ≤ T) (h : T < 257) : Sn (w.setCell ⟨g, T, none⟩ (.bool true)) B g (T + 1) := ⟨S.lo, by rw [setCell_row S.row, seen_next h4 h]⟩
theorem run_seen (w : World) : (Instr.makeSlice 36 (.int .i64 257) (.int .i64 257)).run Try.prog w = .ok (.slice (some ⟨w.heap.size, 0, none⟩) 257 257) (w.alloc (.cells (seenRow 4) 4)) := by
  have hq : (Try.prog.info? 4).map (fun i => (i.zero, i.size, i.bytes)) = some (some (.bool false), 1, 1) := by kernel_rfl
  obtain ⟨i, hi, hq⟩ := Option.map_eq_some_iff.1 hq
  simp only [Prod.mk.injEq] at hq
  obtain ⟨hz, hs, hb⟩ := hq
  have := run_make (P := Try.prog) w 36 4 i (.bool false) Try.underlying36 hi hz .i64 .i64 257 257 (by decide) (by decide) (by rw [hb]; decide) (by decide)
  rw [hs] at this
  exact this.trans (by rw [← seen_start]; rfl)
end
/-- What a configuration that can be has, of its frames. -/
structure Ap (c : Cf) : Prop where
  ln : 1 ≤ c.parts.length ∧ c.parts.length ≤ 8
  pg : 5 ≤ c.pages ∧ c.pages ≤ 256
  bd : ∀ (k : Nat) (x : Pt), c.parts[k]? = some x → 0 ≤ sumTo c.parts k ∧ sumTo c.parts (k + 1) = sumTo c.parts k + x.pages ∧ 1 ≤ x.pages ∧ x.pages ≤ 64 ∧ 4 + sumTo c.parts k + x.pages ≤ c.pages
  here : ∀ (k : Nat) (x : Pt), c.parts[k]? = some x → ∀ i : Int, 0 ≤ i → i < x.pages → hostV c k i = (4 + sumTo c.parts k + i, true) ∧ guestV c (4 + sumTo c.parts k + i) = ((k : Int), i)
  more : ∀ (k : Nat) (x : Pt), c.parts[k]? = some x → hostV c k x.pages = (0, false)
  all : 0 ≤ sumTo c.parts c.parts.length ∧ 4 + sumTo c.parts c.parts.length ≤ c.pages
  low : ∀ h : Int, 0 ≤ h → h < 4 → (guestV c h).1 = -1
  mid : ∀ h : Int, 4 ≤ h → h < 4 + sumTo c.parts c.parts.length → 0 ≤ (guestV c h).1
  top : ∀ h : Int, 4 + sumTo c.parts c.parts.length ≤ h → h < c.pages → (guestV c h).1 = -2
theorem ap_of {c : Cf} (g : chk c = 0) : Ap c := by
  have hd := hd_of g
  have hp : ∀ (k : Nat) (p : Pt), c.parts[k]? = some p → 1 ≤ p.pages ∧ p.pages ≤ 64 := hd.mem.1
  have hall : 4 + sumTo c.parts c.parts.length ≤ c.pages := by have := hd.mem.2; omega
  have hbd : ∀ (k : Nat) (x : Pt), c.parts[k]? = some x → 0 ≤ sumTo c.parts k ∧ sumTo c.parts (k + 1) = sumTo c.parts k + x.pages ∧ 1 ≤ x.pages ∧ x.pages ≤ 64 ∧ 4 + sumTo c.parts k + x.pages ≤ c.pages := fun k x hx => by
    have hk := (List.getElem?_eq_some_iff.1 hx).1
    have h1 := sumTo_succ c.parts k x hx
    have h2 := hp k x hx
    have h3 := hd.sum (k := k) (by omega)
    have h4 := sumTo_mono hp (k + 1) (c.parts.length - (k + 1)) (by omega)
    rw [show k + 1 + (c.parts.length - (k + 1)) = c.parts.length by omega] at h4
    omega
  have hpg : ∀ (k : Nat) (x : Pt), c.parts[k]? = some x → pgOf c.parts (k : Int) = x.pages := fun k x hx => by unfold pgOf; rw [Int.toNat_natCast, hx]
  have hok : ∀ (k : Nat) (x : Pt), c.parts[k]? = some x → okA c (k : Int) := fun k x hx => ⟨g, by omega, by have := (List.getElem?_eq_some_iff.1 hx).1; omega⟩
  refine ⟨hd.ln, hd.pg, hbd, fun k x hx i h0 h1 => ⟨?_, ?_⟩, fun k x hx => ?_, ⟨(hd.sum (Nat.le_refl _)).1, hall⟩, fun h h0 h1 => ?_, fun h h0 h1 => ?_, fun h h0 h1 => ?_⟩
  · unfold hostV
    rw [hpg k x hx, if_pos ⟨hok k x hx, h0, h1⟩, Int.toNat_natCast]
  · have hb := hbd k x hx
    unfold guestV
    rw [if_pos ⟨g, by omega, by omega⟩, if_neg (by omega), (by omega : 4 + sumTo c.parts k + i - 4 = sumTo c.parts k + i), gsL_at 0 k x i hp hx h0 h1, Int.zero_add]
  · unfold hostV
    rw [hpg k x hx, if_neg (fun q => by omega)]
  · unfold guestV
    rw [if_pos ⟨g, by omega, by have := hd.pg; omega⟩, if_pos h1]
  · unfold guestV
    rw [if_pos ⟨g, by omega, by omega⟩, if_neg (by omega)]
    rcases gsL_bd (l := c.parts) 0 (h - 4) (by omega) (by omega) with q | q
    · omega
    · exact q
  · have := (hd.sum (k := c.parts.length) (Nat.le_refl _)).1
    unfold guestV
    rw [if_pos ⟨g, by omega, by omega⟩, if_neg (by omega), gsL_none 0 (h - 4) hp (by omega)]
end Go.Proofs.Ytlddclkophajbaa.Cfg
