
/-
  A state that came in, opened; the laws' frame.
-/
import Derived.Test.YtnccfdkkedomcaaCpuSt
import Derived.Carry
import Derived.OpenShut
import Derived.Deep.Slices
namespace Go.Proofs.Ytnccfdkkedomcaa.Ser
open Go.Proofs.Ytnccfdkkedomcaa
open Go.ChangeShapes Go.WideShapes Go.ChangeAt Go.RowKit
theorem laidOut : laidOutB Try.prog = true := by kernel_rfl
theorem cells8 : Try.prog.cellsOf 5 = 1 := by kernel_rfl
theorem cellsI : Try.prog.cellsOf 3 = 1 := by kernel_rfl
theorem cellsSI : Try.prog.cellsOf 28 = 1 := by kernel_rfl
theorem cellsSB : Try.prog.cellsOf 29 = 1 := by kernel_rfl
theorem cellsB : Try.prog.cellsOf 4 = 1 := by kernel_rfl
theorem cellsS : Try.prog.cellsOf 31 = 6 := by kernel_rfl
theorem own : ownKnob Try.prog.godebug = none := by kernel_rfl
section
variable {H : Type} {enc : TypeId × Value → H} {W : World}
/-- A row that came in. -/
theorem lie_open {T E : TypeId} {k : IntKind} {fuel : Nat} {c0 : Value} {x : DataW H × List MemPlace} (hT : Try.prog.underlying T = some (.slice E)) (hE : Try.prog.underlying E = some (.int k)) (hc : Try.prog.cellsOf E = 1) (hf : DataW.trod enc Try.prog W 0 (fun _ => true) true fuel T [c0] = some x) :
    ∃ p n c xs, c0 = .slice p n c ∧ Lie k W W.heap.size p n c xs ∧ (n : Int) ≤ 9223372036854775807 := by
  rcases open_ints hT hE hc hf with ⟨hcs, -⟩ | ⟨a, len, cap, zs, hcs, _, hl, hm, hz, -, hcell, hwz⟩
  · injection hcs with hcs
    exact ⟨none, 0, 0, [], hcs, ⟨rfl, Nat.le_refl _, fun _ => rfl, fun h => by omega⟩, by omega⟩
  · injection hcs with hcs
    simp only [if_true] at hz
    refine ⟨some a, len, cap, zs.take len, hcs, ⟨by rw [List.length_take, hz]; omega, hl, (fun h => by cases h), fun hp => ?_⟩, by unfold maxLen at hm; omega⟩
    obtain ⟨b, off, spot⟩ := a
    have hspot : spot = none := by simpa [Addr.add] using World.cell?_spot (hcell 0 (by omega))
    subst hspot
    refine ⟨b, off, rfl, by simpa [Addr.add] using World.block_lt_of_cell? W _ (hcell 0 (by omega)), fun j y hy => ?_⟩
    have hj : j < (zs.take len).length := (List.getElem?_eq_some_iff.1 hy).1
    have hj2 : j < len := by rw [List.length_take] at hj; omega
    have h1 := hcell j (by omega)
    rw [Addr.add_lit] at h1
    rw [List.getElem?_take_of_lt hj2] at hy
    rw [h1]
    obtain ⟨hy1, hy2⟩ := List.getElem?_eq_some_iff.1 hy
    rw [← hy2]; simp [List.getD, hy1]
/-- A state, opened. -/
theorem open_state {v : Value} {d : DataW H} {p : List MemPlace} {base : Nat} (hv : Value.okWide Try.prog W .any base 31 v) (h : DataW.Trod enc Try.prog W 0 (fun _ => true) true 31 v d p) :
    ∃ s : St, StL W W.heap.size v s ∧ ((s.R.length : Int) ≤ 9223372036854775807 ∧ (s.C.length : Int) ≤ 9223372036854775807 ∧ (s.O.length : Int) ≤ 9223372036854775807) := by
  obtain ⟨cs, rfl, hsz⟩ := okWide_struct Try.underlying31 hv
  rw [cellsS] at hsz
  obtain ⟨l⟩ := cs
  match l, hsz with
  | [c0, c1, c2, c3, c4, c5], _ =>
    obtain ⟨fuel, hf⟩ := h
    obtain ⟨xs, n, _, hx, _, hlen, hg⟩ := DataW.trod_struct Try.underlying31 hf
    match xs, hlen with
    | [y0, y1, y2, y3, y4, y5], _ =>
      have g0 : DataW.trod enc Try.prog W 0 (fun _ => true) true n 28 [c0] = some y0 := by simpa [Value.cells, cellsI, cellsSI, cellsSB, cellsB] using hg 0 _ rfl
      have g1 : DataW.trod enc Try.prog W 0 (fun _ => true) true n 3 [c1] = some y1 := by simpa [Value.cells, cellsI, cellsSI, cellsSB, cellsB] using hg 1 _ rfl
      have g2 : DataW.trod enc Try.prog W 0 (fun _ => true) true n 28 [c2] = some y2 := by simpa [Value.cells, cellsI, cellsSI, cellsSB, cellsB] using hg 2 _ rfl
      have g3 : DataW.trod enc Try.prog W 0 (fun _ => true) true n 4 [c3] = some y3 := by simpa [Value.cells, cellsI, cellsSI, cellsSB, cellsB] using hg 3 _ rfl
      have g4 : DataW.trod enc Try.prog W 0 (fun _ => true) true n 4 [c4] = some y4 := by simpa [Value.cells, cellsI, cellsSI, cellsSB, cellsB] using hg 4 _ rfl
      have g5 : DataW.trod enc Try.prog W 0 (fun _ => true) true n 29 [c5] = some y5 := by simpa [Value.cells, cellsI, cellsSI, cellsSB, cellsB] using hg 5 _ rfl
      obtain ⟨rp, rn, rc, R, e0, L0, m0⟩ := lie_open Try.underlying28 Try.underlying3 cellsI g0
      obtain ⟨pc, e1, -, -⟩ := DataW.trod_int Try.underlying3 g1
      obtain ⟨cp, cn, cc, C, e2, L2, m2⟩ := lie_open Try.underlying28 Try.underlying3 cellsI g2
      obtain ⟨bh, e3, -⟩ := DataW.trod_bool Try.underlying4 g3
      obtain ⟨bk, e4, -⟩ := DataW.trod_bool Try.underlying4 g4
      obtain ⟨op, on, oc, O, e5, L5, m5⟩ := lie_open Try.underlying29 Try.underlying5 cells8 g5
      have e1 := List.head_eq_of_cons_eq e1
      have e3 := List.head_eq_of_cons_eq e3
      have e4 := List.head_eq_of_cons_eq e4
      subst e0 e1 e2 e3 e4 e5
      exact ⟨⟨R, pc, C, bh, bk, O⟩, ⟨rp, rn, rc, cp, cn, cc, op, on, oc, rfl, L0, L2, L5⟩, by rw [L0.len]; exact m0, by rw [L2.len]; exact m2, by rw [L5.len]; exact m5⟩
end
end Go.Proofs.Ytnccfdkkedomcaa.Ser
