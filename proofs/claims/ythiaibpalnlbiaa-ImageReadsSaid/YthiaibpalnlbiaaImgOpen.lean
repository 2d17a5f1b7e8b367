/-
  An image, and bytes, that came in, opened; the example (alive).
-/
import Derived.Test.YthiaibpalnlbiaaImgT
import Derived.Carry
import Derived.OpenShut
import Derived.Deep.Slices
set_option maxRecDepth 100000
namespace Go.Proofs.Ythiaibpalnlbiaa.Img
open Go.Proofs.Ythiaibpalnlbiaa Go.Proofs.Ythiaibpalnlbiaa.Ser
open Go.ChangeShapes Go.WideShapes Go.ChangeAt Go.RowKit
set_option linter.unusedVariables false
theorem laidOut : laidOutB Try.prog = true := by kernel_rfl
theorem cells8 : Try.prog.cellsOf 5 = 1 := by kernel_rfl
theorem cellsI : Try.prog.cellsOf 3 = 1 := by kernel_rfl
theorem cellsSB : Try.prog.cellsOf 22 = 1 := by kernel_rfl
theorem cellsImg : Try.prog.cellsOf 24 = 2 := by kernel_rfl
theorem own : ownKnob Try.prog.godebug = none := by kernel_rfl
section
variable {H : Type} {enc : TypeId × Value → H} {W : World}
/-- Bytes that came in. -/
theorem lie_bytes {fuel : Nat} {c0 : Value} {x : DataW H × List MemPlace} (hf : DataW.trod enc Try.prog W 0 (fun _ => true) true fuel 22 [c0] = some x) :
    ∃ p n c xs, c0 = .slice p n c ∧ Lie .u8 W W.heap.size p n c xs ∧ Byt xs ∧ n ≤ 9223372036854775807 ∧ c ≤ 9223372036854775807 := by
  rcases open_ints Try.underlying22 Try.underlying5 cells8 hf with ⟨hcs, -⟩ | ⟨a, len, cap, zs, hcs, _, hl, hm, hz, -, hcell, hwz⟩
  · injection hcs with hcs
    exact ⟨none, 0, 0, [], hcs, ⟨rfl, Nat.le_refl _, fun _ => rfl, fun h => by omega⟩, (fun b hb => by cases hb), by omega, by omega⟩
  · injection hcs with hcs
    simp only [if_true] at hz
    refine ⟨some a, len, cap, zs.take len, hcs, ⟨by rw [List.length_take, hz]; omega, hl, (fun h => by cases h), fun hp => ?_⟩, fun b hb => ?_, by unfold maxLen at hm; omega, by unfold maxLen at hm; omega⟩
    · obtain ⟨b, off, spot⟩ := a
      have hspot : spot = none := by simpa [Addr.add] using World.cell?_spot (hcell 0 (by omega))
      subst hspot
      refine ⟨b, off, rfl, by simpa [Addr.add] using World.block_lt_of_cell? W _ (hcell 0 (by omega)), fun j y hy => ?_⟩
      have hj : j < (zs.take len).length := (List.getElem?_eq_some_iff.1 hy).1
      have hj2 : j < len := by rw [List.length_take] at hj; omega
      have h1 := hcell j (by omega)
      rw [Addr.add_lit] at h1
      rw [List.getElem?_take_of_lt hj2] at hy
      rw [h1]
      obtain ⟨hy1, hy2⟩ := List.getElem?_eq_some_iff.1 hy
      rw [← hy2]; simp [List.getD, hy1]
    · have := hwz b (List.mem_of_mem_take hb)
      simp [Lit.wf, show IntKind.u8.min = 0 by decide, show IntKind.u8.max = 255 by decide] at this
      omega
theorem open_bytesI {v : Value} {d : DataW H} {p : List MemPlace} {base : Nat} (hv : Value.okWide Try.prog W .any base 22 v) (h : DataW.Trod enc Try.prog W 0 (fun _ => true) true 22 v d p) :
    ∃ p n c xs, v = .slice p n c ∧ Lie .u8 W W.heap.size p n c xs ∧ Byt xs ∧ n ≤ 9223372036854775807 ∧ c ≤ 9223372036854775807 := by
  obtain ⟨a0, len0, cap0, rfl⟩ := okWide_slice Try.underlying22 hv
  obtain ⟨fuel, hf⟩ := h
  exact lie_bytes (fuel := fuel) (x := (d, p)) (by simpa [Value.cells] using hf)
/-- An image, opened. -/
theorem open_img {v : Value} {d : DataW H} {p : List MemPlace} {base : Nat} (hv : Value.okWide Try.prog W .any base 24 v) (h : DataW.Trod enc Try.prog W 0 (fun _ => true) true 24 v d p) :
    ∃ e p n c xs, v = imgV e p n c ∧ (-9223372036854775808 ≤ e ∧ e ≤ 9223372036854775807) ∧ Lie .u8 W W.heap.size p n c xs ∧ Byt xs ∧ n ≤ 9223372036854775807 ∧ c ≤ 9223372036854775807 := by
  obtain ⟨cs, rfl, hsz⟩ := okWide_struct Try.underlying24 hv
  rw [cellsImg] at hsz
  obtain ⟨l⟩ := cs
  match l, hsz with
  | [c0, c1], _ =>
    obtain ⟨fuel, hf⟩ := h
    obtain ⟨xs, n, _, hx, _, hlen, hg⟩ := DataW.trod_struct Try.underlying24 hf
    match xs, hlen with
    | [y0, y1], _ =>
      have g0 : DataW.trod enc Try.prog W 0 (fun _ => true) true n 3 [c0] = some y0 := by simpa [Value.cells, cellsI, cellsSB] using hg 0 _ rfl
      have g1 : DataW.trod enc Try.prog W 0 (fun _ => true) true n 22 [c1] = some y1 := by simpa [Value.cells, cellsI, cellsSB] using hg 1 _ rfl
      obtain ⟨e, e1, -, w1⟩ := DataW.trod_int Try.underlying3 g0
      obtain ⟨p', n', c', ys, e2, L, hb, m1, m2⟩ := lie_bytes g1
      have e1 := List.head_eq_of_cons_eq e1
      subst e1 e2
      refine ⟨e, p', n', c', ys, rfl, ?_, L, hb, m1, m2⟩
      simp [Lit.wf, show IntKind.i64.min = -9223372036854775808 by decide, show IntKind.i64.max = 9223372036854775807 by decide] at w1
      omega
end
theorem num_says13 (n : Int) (w : World) : Calls Try.prog 10 #[i64 n] w fun e w' => e = .returned (i64 n) ∧ w = w' := by
  obtain ⟨r, hr⟩ : ∃ r : Ending → World → Prop, r = fun e w' => e = .returned (i64 n) ∧ w = w' := ⟨_, rfl⟩
  rw [← hr]
  have HO := Lib.hid (by rw [hr]; exact ⟨rfl, rfl⟩ : r (.returned (i64 n)) w)
  clear hr
  go_enter Try.func10, Try.ntmps10
  go_wp2
  exact HO.out
theorem lie_none (w : World) (B : Nat) : Lie .u8 w B none 0 0 [] := ⟨rfl, Nat.le_refl _, fun _ => rfl, fun h => by omega⟩
theorem alive13 (w : World) : Calls Try.prog 6 #[] w fun e w' => e = .returned (.bool true) ∧ Below w.heap.size w w' := by
  obtain ⟨r, hr⟩ : ∃ r : Ending → World → Prop, r = fun e w' => e = .returned (.bool true) ∧ Below w.heap.size w w' := ⟨_, rfl⟩
  rw [← hr]
  have HO := Lib.hid (fun u (b : Below w.heap.size w u) => (by rw [hr]; exact ⟨rfl, b⟩ : r (.returned (.bool true)) u))
  have HP := Lib.hid (pack_says 0 (by omega) (lie_none w w.heap.size) (fun b hb => by cases hb) (by omega))
  rw [show packO 0 [] = [84, 82, 85, 49, 0, 0, 0, 0, 0, 0, 0, 0, 44, 1, 0, 0] by decide, show chk 0 0 = 0 by decide] at HP
  clear hr
  go_enter Try.func6, Try.ntmps6
  go_upto_region 2 with (go_at_call 8; (with_reducible refine HP.out.mono ?_); rintro en w1 ⟨p, m, c, rfl, hm, o, b⟩; have HB := Lib.hid b; have L1 := Lib.hid (lie_of o); clear o b hm)
  have cv := conv_lie L1.out
  rw [show strOfNums [84, 82, 85, 49, 0, 0, 0, 0, 0, 0, 0, 0, 44, 1, 0, 0] = ⟨#[84, 82, 85, 49, 0, 0, 0, 0, 0, 0, 0, 0, 44, 1, 0, 0]⟩ from rfl] at cv
  go_wp2_with (go_at_call 10; refine (num_says13 _ _).mono ?_; rintro e t' ⟨rfl, rfl⟩)
  exact HO.out _ HB.out
end Go.Proofs.Ythiaibpalnlbiaa.Img
