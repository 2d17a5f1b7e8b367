
/-
  The laws' Big.
-/
import Derived.Test.YtlddclkophajbaaPlnA
set_option maxRecDepth 100000
set_option linter.unusedVariables false
namespace Go.Proofs.Ytlddclkophajbaa.Cfg
open Go.Proofs.Ytlddclkophajbaa
open Go.ChangeShapes Go.WideShapes Go.ChangeAt Go.RowKit
set_option maxHeartbeats 8000000 in
theorem big_says {w : World} {c : Cf} {p1 : Option Addr} {c1 : Nat} {p2 : Option Addr} {c2 : Nat} {p3 : Option Addr} {c3 : Nat} (X : Cx w w.heap.size c p1 c1 p2 c2 p3 c3) :
    Calls Try.prog 7 #[cfV c p1 c1 p2 c2 p3 c3] w fun e w' => ∃ b, e = .returned (.bool b) ∧ Below w.heap.size w w' := by
  obtain ⟨p, hp⟩ : ∃ p : Ending → World → Prop, p = fun e w' => ∃ b, e = .returned (.bool b) ∧ Below w.heap.size w w' := ⟨_, rfl⟩
  rw [← hp]
  have HO := Lib.hid (fun (b : Bool) w' (hw : Below w.heap.size w w') => (by rw [hp]; exact ⟨b, rfl, hw⟩ : p (.returned (.bool b)) w'))
  clear hp
  obtain ⟨h, hhz⟩ : ∃ h, w.heap.size = h := ⟨_, rfl⟩
  rw [hhz] at HO
  have L3 := Lib.hid (hhz ▸ X.L1)
  have wl := X.wf.len
  obtain ⟨l, hl⟩ : ∃ l, c.parts = l := ⟨_, rfl⟩
  simp only [cfV, hl] at L3 wl ⊢
  clear X
  obtain ⟨pg, qpg⟩ : ∃ pg, c.pages = pg := ⟨_, rfl⟩
  obtain ⟨mj, qmj⟩ : ∃ mj, c.major = mj := ⟨_, rfl⟩
  obtain ⟨sw, qsw⟩ : ∃ sw, c.switch = sw := ⟨_, rfl⟩
  obtain ⟨m, qm⟩ : ∃ m, l.length = m := ⟨_, rfl⟩
  obtain ⟨n2, qn2⟩ : ∃ n2, c.chans.length = n2 := ⟨_, rfl⟩
  obtain ⟨n3, qn3⟩ : ∃ n3, c.wins.length = n3 := ⟨_, rfl⟩
  simp only [qm, qn2, qn3] at L3 wl
  simp only [qpg, qmj, qsw, qn2, qn3, qm]
  have hlm := qm
  clear qpg qmj qsw qn2 qn3 qm hl
  obtain ⟨w1, hw1⟩ : ∃ w1, w1 = w.alloc (.cells #[i64 pg, i64 mj, i64 sw, .slice p1 m c1, .slice p2 n2 c2, .slice p3 n3 c3] 26) := ⟨_, rfl⟩
  have b1 := Lib.hid (by rw [hw1]; exact (Below.refl _ _).alloc (Nat.le_of_eq hhz.symm) _ : Below h w w1)
  have hg1 : w1.heap.size = h + 1 := by rw [hw1, ← hhz]; simp
  have hZ := Lib.hid (fun k v hv => by
    rw [hw1, ← hhz, cell_of_row _ _ k _ _ _ (heap_alloc_new _ _), ← Array.getElem?_toList]; exact hv : ∀ (k : Nat) (v : Value), [i64 pg, i64 mj, i64 sw, .slice p1 m c1, .slice p2 n2 c2, .slice p3 n3 c3][k]? = some v → w1.cell? ⟨h, k, none⟩ = some v)
  have L1 := Lib.hid (L3.out.kept b1.out (Nat.le_refl _))
  clear L3
  have ho1 := Lib.hid (fun b => HO.out b w1 b1.out)
  have z3 := hZ.out 3 _ rfl
  have z4 := hZ.out 4 _ rfl
  have z5 := hZ.out 5 _ rfl
  go_enter Try.func7, Try.ntmps7
  go_upto_region 1 with fail
  try simp only [hhz]
  rw [← hw1]
  clear hw1
  by_cases k1 : m > 20
  · clear HO b1 L1 hZ wl
    go_wp2
    exact ho1.out _
  by_cases k2 : n2 > 40
  · clear HO b1 L1 hZ wl
    go_wp2
    exact ho1.out _
  by_cases k3 : n3 > 60
  · clear HO b1 L1 hZ wl
    go_wp2
    exact ho1.out _
  clear ho1 wl
  go_wp2
  go_loopw [3] (fun i wr => wr = w1 ∧ ∃ j : Nat, j ≤ m ∧ i = .int .i64 j) (fun i _ => m - (intOf i).toNat)
  case atStart => exact ⟨rfl, 0, Nat.zero_le _, rfl⟩
  case round =>
    obtain ⟨rfl, j, hj, rfl⟩ := hrel
    by_cases hjl : j < m
    · have hjI : (j : Int) < (m : Int) := by omega
      have hjb : j < 20 := by omega
      obtain ⟨x, hx⟩ : ∃ x, l[j]? = some x := ⟨_, List.getElem?_eq_getElem (by omega)⟩
      obtain ⟨b, off, rfl, hbl, y0, y1, y2⟩ := L1.out.cell3 j x hx rfl
      obtain ⟨nm, pp, aa⟩ := x
      simp only at y0 y1 y2
      have ho := Lib.hid (fun b => HO.out b wr b1.out)
      clear HO L1 hx hZ y1 y2 z4
      by_cases k4 : nm.size > 200
      · clear b1
        go_wp2
        exact ho.out _
      · clear ho
        go_wp2
        go_roundw
        case rel => exact ⟨(by first | trivial | rfl), j + 1, hjl, by go_num⟩
        case measure => simp [intOf]; omega
    · have hjm : j = m := by omega
      subst hjm
      have ho := Lib.hid (fun b => HO.out b wr b1.out)
      clear HO L1 hZ b1
      go_wp2
      exact ho.out _
end Go.Proofs.Ytlddclkophajbaa.Cfg
