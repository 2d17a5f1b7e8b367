/-
  Bytes that came in, opened; what law ConfigReads asks of both readings.
-/
import Derived.Test.YtogbhgbnminpdaaDoorJnPckUn
import Derived.Test.YtogbhgbnminpdaaDoorJnLa
import Derived.Test.YtogbhgbnminpdaaDoorJnPlnAo
import Derived.Carry
import Derived.OpenShut
import Derived.Deep.Slices
set_option linter.unusedVariables false
set_option maxRecDepth 100000
set_option linter.unusedVariables false
namespace Go.Proofs.YtogbhgbnminpdaaDoor.Pck
open Go.Proofs.YtogbhgbnminpdaaDoor Go.Proofs.YtogbhgbnminpdaaDoor.Ser Go.Proofs.YtogbhgbnminpdaaDoor.Img Go.Proofs.YtogbhgbnminpdaaDoor.Cfg
open Go.ChangeShapes Go.WideShapes Go.ChangeAt Go.RowKit
set_option linter.unusedVariables false
theorem cells8 : Tryd.prog.cellsOf 5 = 1 := by kernel_rfl
section
variable {H : Type} {enc : TypeId × Value → H} {W : World}
/-- Bytes that came in. -/
theorem lie_bytes {fuel : Nat} {c0 : Value} {x : DataW H × List MemPlace} (hf : DataW.trod enc Tryd.prog W 0 (fun _ => true) true fuel 32 [c0] = some x) :
    ∃ p n c xs, c0 = .slice p n c ∧ Lie .u8 W W.heap.size p n c xs ∧ Byt xs ∧ n ≤ 9223372036854775807 ∧ c ≤ 9223372036854775807 := by
  rcases open_ints Tryd.underlying32 Tryd.underlying5 cells8 hf with ⟨hcs, -⟩ | ⟨a, len, cap, zs, hcs, _, hl, hm, hz, -, hcell, hwz⟩
  · injection hcs with hcs
    exact ⟨none, 0, 0, [], hcs, ⟨rfl, Nat.le_refl _, fun _ => rfl, fun h => by omega⟩, (fun b hb => by cases hb), by omega, by omega⟩
  · injection hcs with hcs
    simp only [if_true] at hz
    refine ⟨some a, len, cap, zs.take len, hcs, ⟨by rw [List.length_take, hz]; omega, hl, (fun h => by cases h), fun hp => ?_⟩, fun b hb => ?_, by unfold maxLen at hm; omega, by unfold maxLen at hm; omega⟩
    · obtain ⟨b, off, spot⟩ := a
      have hspot : spot = none := by simpa [Addr.add] using World.cell?_spot (hcell 0 (by omega))
      subst hspot
      refine ⟨b, off, rfl, by simpa [Addr.add] using World.block_lt_of_cell? W _ (hcell 0 (by omega)), fun j y hy => ?_⟩
      have hj : j < (zs.take len).length := (List.getElem?_eq_some_iff.1 hy).1
      have hj2 : j < len := by rw [List.length_take] at hj; omega
      have h1 := hcell j (by omega)
      rw [Addr.add_lit] at h1
      rw [List.getElem?_take_of_lt hj2] at hy
      rw [h1]
      obtain ⟨hy1, hy2⟩ := List.getElem?_eq_some_iff.1 hy
      rw [← hy2]; simp [List.getD, hy1]
    · have := hwz b (List.mem_of_mem_take hb)
      simp [Lit.wf, show IntKind.u8.min = 0 by decide, show IntKind.u8.max = 255 by decide] at this
      omega
theorem open_bytesI {v : Value} {d : DataW H} {p : List MemPlace} {base : Nat} (hv : Value.okWide Tryd.prog W .any base 32 v) (h : DataW.Trod enc Tryd.prog W 0 (fun _ => true) true 32 v d p) :
    ∃ p n c xs, v = .slice p n c ∧ Lie .u8 W W.heap.size p n c xs ∧ Byt xs ∧ n ≤ 9223372036854775807 ∧ c ≤ 9223372036854775807 := by
  obtain ⟨a0, len0, cap0, rfl⟩ := okWide_slice Tryd.underlying32 hv
  obtain ⟨fuel, hf⟩ := h
  exact lie_bytes (fuel := fuel) (x := (d, p)) (by simpa [Value.cells] using hf)
end
section
variable {w : World} {p : Option Addr} {n q : Nat} {xs : List Int}
/-- A configuration that is told, its rows. -/
def Tells (w : World) (c : Cf) (x : Int) (e : Ending) (w' : World) : Prop := Below w.heap.size w w' ∧ ∃ p1 c1 p2 c2 p3 c3, e = .returned (.tuple #[cfV c p1 c1 p2 c2 p3 c3, i64 x]) ∧ LieS 3 w' w'.heap.size p1 c.parts.length c1 (c.parts.map ptC) ∧ LieS 5 w' w'.heap.size p2 c.chans.length c2 (c.chans.map chC) ∧ LieS 3 w' w'.heap.size p3 c.wins.length c3 (c.wins.map wnC)
def zCf : Cf := ⟨0, 0, 0, [], [], []⟩
/-- Both readings tell the same. -/
theorem both (xs : List Int) : ∃ (c : Cf) (x : Int), (c.parts.length ≤ 1000000 ∧ c.chans.length ≤ 1000000 ∧ c.wins.length ≤ 1000000) ∧
    (∀ (w : World) (p : Option Addr) (n q : Nat), Lie .u8 w w.heap.size p n q xs → Byt xs → q ≤ 9223372036854775807 → w.cell? ⟨0, 0, none⟩ = some (.iface 105 (hnd 67)) → Calls Tryd.prog 14 #[.slice p n q] w (Tells w c x)) ∧
    (∀ (w : World) (p : Option Addr) (n q : Nat), Lie .u8 w w.heap.size p n q xs → Byt xs → n ≤ 5000 → Calls Tryd.prog 16 #[.slice p n q] w (Tells w c x)) := by
  have nil3 : ∀ (w : World) (B : Nat), LieS 3 w B none 0 0 [] := fun w B => lieS_nil 3 w B 0 (fun _ => rfl)
  by_cases h : ∃ c, Cfg.chk c = 0 ∧ packC c = xs
  · obtain ⟨c, hz, hx⟩ := h
    obtain ⟨-, ⟨a1, a2, a3⟩, -⟩ := nums_ok hz
    have huniq : ∀ c', Cfg.chk c' = 0 → packC c' = xs → c' = c := fun c' h0 hp => by
      have e1 := rdC_pack h0
      rw [hp, ← hx, rdC_pack hz] at e1
      injection e1 with e1
      exact e1.symm
    refine ⟨c, 0, by omega, fun w p n q L hb hq hg => (unpack_says L hb hq hg).mono fun e w' ⟨bw, h⟩ => ?_, fun w p n q L hb hn => (runpack_says L hb hn).mono fun e w' ⟨bw, h⟩ => ?_⟩
    · rcases h with ⟨c', v, h0, hp, he, p1, c1, p2, c2, p3, c3, rfl, l1, l2, l3, -⟩ | ⟨hn, -⟩
      · obtain rfl := huniq c' h0 hp
        exact ⟨bw, p1, c1, p2, c2, p3, c3, he, l1, l2, l3⟩
      · exact absurd hx (hn c hz)
    · rcases h with ⟨c', p1, c1, p2, c2, p3, c3, h0, hp, he, l1, l2, l3⟩ | ⟨hn, -⟩
      · obtain rfl := huniq c' h0 hp
        exact ⟨bw, p1, c1, p2, c2, p3, c3, he, l1, l2, l3⟩
      · exact absurd hx (hn c hz)
  · refine ⟨zCf, 4, ⟨by decide, by decide, by decide⟩, fun w p n q L hb hq hg => (unpack_says L hb hq hg).mono fun e w' ⟨bw, g⟩ => ?_, fun w p n q L hb hn => (runpack_says L hb hn).mono fun e w' ⟨bw, g⟩ => ?_⟩
    · rcases g with ⟨c', v, h0, hp, -⟩ | ⟨-, he⟩
      · exact absurd ⟨c', h0, hp⟩ h
      · exact ⟨bw, none, 0, none, 0, none, 0, he, nil3 w' _, lieS_nil 5 w' _ 0 (fun _ => rfl), nil3 w' _⟩
    · rcases g with ⟨c', p1, c1, p2, c2, p3, c3, h0, hp, -⟩ | ⟨-, he⟩
      · exact absurd ⟨c', h0, hp⟩ h
      · exact ⟨bw, none, 0, none, 0, none, 0, he, nil3 w' _, lieS_nil 5 w' _ 0 (fun _ => rfl), nil3 w' _⟩
end
end Go.Proofs.YtogbhgbnminpdaaDoor.Pck
