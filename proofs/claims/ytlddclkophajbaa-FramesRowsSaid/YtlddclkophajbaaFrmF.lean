
/-
  Package frames: Host.
-/
import Derived.Test.YtlddclkophajbaaFrmB
set_option maxRecDepth 100000
set_option linter.unusedVariables false
namespace Go.Proofs.Ytlddclkophajbaa.Cfg
open Go.Proofs.Ytlddclkophajbaa
open Go.ChangeShapes Go.WideShapes Go.ChangeAt Go.RowKit
set_option maxHeartbeats 8000000 in
theorem host_says {w : World} {c : Cf} {p1 : Option Addr} {c1 : Nat} {p2 : Option Addr} {c2 : Nat} {p3 : Option Addr} {c3 : Nat} (X : Cx w w.heap.size c p1 c1 p2 c2 p3 c3) (part frame : Int) :
    Calls Try.prog 8 #[cfV c p1 c1 p2 c2 p3 c3, i64 part, i64 frame] w fun e w' => e = .returned (.tuple #[i64 (hostV c part frame).1, .bool (hostV c part frame).2]) ∧ Below w.heap.size w w' := by
  obtain ⟨p, hp⟩ : ∃ p : Ending → World → Prop, p = fun e w' => e = .returned (.tuple #[i64 (hostV c part frame).1, .bool (hostV c part frame).2]) ∧ Below w.heap.size w w' := ⟨_, rfl⟩
  rw [← hp]
  have HO := Lib.hid (fun w' (hw : Below w.heap.size w w') => (by rw [hp]; exact ⟨rfl, hw⟩ : p (.returned (.tuple #[i64 (hostV c part frame).1, .bool (hostV c part frame).2])) w'))
  clear hp
  obtain ⟨h, hhz⟩ : ∃ h, w.heap.size = h := ⟨_, rfl⟩
  rw [hhz] at HO
  have h1 := Lib.hid (fun (g : okA c part ∧ 0 ≤ frame ∧ frame < pgOf c.parts part) w' (hw : Below h w w') => (by have := HO.out w' hw; unfold hostV at this; rw [if_pos g] at this; exact this : p (.returned (.tuple #[i64 (4 + sumTo c.parts part.toNat + frame), .bool true])) w'))
  have h0 := Lib.hid (fun (g : ¬ (okA c part ∧ 0 ≤ frame ∧ frame < pgOf c.parts part)) w' (hw : Below h w w') => (by have := HO.out w' hw; unfold hostV at this; rw [if_neg g] at this; exact this : p (.returned (.tuple #[i64 0, .bool false])) w'))
  clear HO
  have HI := Lib.hid (fun (u : World) (hu : Below h w u) => first_says (X.later hu (Nat.le_of_eq hhz) (by omega)) part)
  have hF' : okA c part → firstV c part = 4 + sumTo c.parts part.toNat := fun g => if_pos g
  have hF := Lib.hid hF'
  have hF0' : ¬ okA c part → firstV c part = -1 := fun g => if_neg g
  have hF0 := Lib.hid hF0'
  clear hF' hF0'
  have hA := Lib.hid (fun (g : okA c part) => (by have hd := hd_of g.1; exact ⟨hd.ln, g.2, fun k hk => hd.sum hk, fun k x hx => hd.at hx⟩ : (1 ≤ c.parts.length ∧ c.parts.length ≤ 8) ∧ (0 ≤ part ∧ part < c.parts.length) ∧ (∀ k, k ≤ c.parts.length → 0 ≤ sumTo c.parts k ∧ sumTo c.parts k ≤ 512) ∧ (∀ (k : Nat) (x : Pt), c.parts[k]? = some x → 1 ≤ x.pages ∧ x.pages ≤ 64)))
  obtain ⟨F, eF⟩ : ∃ F, firstV c part = F := ⟨_, rfl⟩
  obtain ⟨ok, eok⟩ : ∃ ok, okA c part = ok := ⟨_, rfl⟩
  simp only [eF, eok] at h1 h0 HI hF hF0 hA
  clear eF eok
  have L1 := Lib.hid (hhz ▸ X.L1)
  obtain ⟨l, hl⟩ : ∃ l, c.parts = l := ⟨_, rfl⟩
  simp only [cfV, hl] at h1 h0 HI hF hF0 hA L1 ⊢
  obtain ⟨pg, qpg⟩ : ∃ pg, c.pages = pg := ⟨_, rfl⟩
  obtain ⟨mj, qmj⟩ : ∃ mj, c.major = mj := ⟨_, rfl⟩
  obtain ⟨sw, qsw⟩ : ∃ sw, c.switch = sw := ⟨_, rfl⟩
  obtain ⟨m, qm⟩ : ∃ m, l.length = m := ⟨_, rfl⟩
  obtain ⟨n2, qn2⟩ : ∃ n2, c.chans.length = n2 := ⟨_, rfl⟩
  obtain ⟨n3, qn3⟩ : ∃ n3, c.wins.length = n3 := ⟨_, rfl⟩
  simp only [qpg, qmj, qsw, qn2, qn3, qm] at h1 h0 HI hF hF0 hA L1
  simp only [qpg, qmj, qsw, qn2, qn3, qm]
  have hlm := qm
  clear qpg qmj qsw qm qn2 qn3 hl X
  obtain ⟨w1, hw1⟩ : ∃ w1, w1 = w.alloc (.cells #[i64 pg, i64 mj, i64 sw, .slice p1 m c1, .slice p2 n2 c2, .slice p3 n3 c3] 26) := ⟨_, rfl⟩
  have b1 := Lib.hid (by rw [hw1]; exact (Below.refl _ _).alloc (Nat.le_of_eq hhz.symm) _ : Below h w w1)
  have hg1 : w1.heap.size = h + 1 := by rw [hw1, ← hhz]; simp
  have hZ := Lib.hid (fun k v hv => by
    rw [hw1, ← hhz, cell_of_row _ _ k _ _ _ (heap_alloc_new _ _), ← Array.getElem?_toList]; exact hv : ∀ (k : Nat) (v : Value), [i64 pg, i64 mj, i64 sw, Value.slice p1 m c1, .slice p2 n2 c2, .slice p3 n3 c3][k]? = some v → w1.cell? ⟨h, k, none⟩ = some v)
  go_enter Try.func8, Try.ntmps8
  go_upto_region 1 with fail
  try simp only [hhz]
  rw [← hw1]
  clear hw1
  have hS := Lib.hid (fun u (b : Below (h + 1) w1 u) => (by
    have hZ2 := fun k v hv => (World.cell?_of_block (b.block h (Nat.lt_succ_self _))).trans (hZ.out k v hv)
    exact ⟨b, hZ2 0 _ rfl, hZ2 1 _ rfl, hZ2 2 _ rfl, hZ2 3 _ rfl, hZ2 4 _ rfl, hZ2 5 _ rfl⟩ : (fun u => Below (h + 1) w1 u ∧ u.cell? ⟨h, 0, none⟩ = some (i64 pg) ∧ u.cell? ⟨h, 1, none⟩ = some (i64 mj) ∧ u.cell? ⟨h, 2, none⟩ = some (i64 sw) ∧ u.cell? ⟨h, 3, none⟩ = some (.slice p1 m c1) ∧ u.cell? ⟨h, 4, none⟩ = some (.slice p2 n2 c2) ∧ u.cell? ⟨h, 5, none⟩ = some (.slice p3 n3 c3)) u))
  have HBB := Lib.hid (fun u (hu : Below (h + 1) w1 u) => b1.out.trans (hu.mono (Nat.le_succ _)))
  obtain ⟨-, z0, z1, z2, z3, z4, z5⟩ := hS.out w1 (Below.refl _ _)
  replace L1 := Lib.hid (L1.out.kept b1.out (Nat.le_refl _))
  clear hZ
  have hi := HI.out w1 b1.out
  rw [hg1] at hi
  replace hi := Lib.hid hi
  clear HI
  by_cases g : ok
  · obtain ⟨hl8, ⟨g0, g1⟩, hs, hv⟩ := hA.out g
    have eF := hF.out g
    have hs1 := hs part.toNat (by omega)
    obtain ⟨j, rfl⟩ : ∃ j : Nat, part = (j : Int) := ⟨part.toNat, by omega⟩
    rw [Int.toNat_natCast] at eF hs1 h1
    obtain ⟨sj, hsj⟩ : ∃ sj, sumTo l j = sj := ⟨_, rfl⟩
    rw [hsj] at eF hs1 h1
    have hjb : j < 8 := by omega
    obtain ⟨x, hx⟩ : ∃ x, l[j]? = some x := ⟨_, List.getElem?_eq_getElem (by omega)⟩
    have hx0 := hv j x hx
    have hpo : pgOf l (j : Int) = x.pages := by unfold pgOf; rw [Int.toNat_natCast, hx]
    rw [hpo] at h1 h0
    clear hpo hs hv hF hF0 hA hsj
    subst eF
    go_upto_region 2 with (go_at_call 12; (with_reducible refine hi.out.mono ?_); rintro e w2 ⟨rfl, hb⟩; have hw2 := Lib.hid hb; clear hb; obtain ⟨-, y0, y1, y2, y3, y4, y5⟩ := hS.out w2 hw2.out)
    clear z0 z1 z2 z3 z4 z5 hi
    obtain ⟨b, off, rfl, hbl, v0, v1, v2⟩ := (L1.out.kept hw2.out (Nat.le_succ _)).cell3 j x hx rfl
    obtain ⟨nm, y, ac⟩ := x
    simp only at hx0 v0 v1 v2 h1 h0
    clear hx L1
    have ef1 : (4 + sj == -1) = false := by rw [beq_eq_false_iff_ne]; omega
    by_cases k1 : frame < 0
    · have ho := Lib.hid (h0.out (fun q => by omega) w2 (HBB.out _ hw2.out))
      clear h1 h0 hS HBB
      go_wp2
      exact ho.out
    by_cases k2 : frame < y
    · have ho := Lib.hid (h1.out ⟨g, by omega, k2⟩ w2 (HBB.out _ hw2.out))
      have e1 : IntKind.i64.wrap (4 + sj + frame) = 4 + sj + frame := by rw [IntKind.wrap_i64]; omega
      clear h1 h0 hS HBB
      go_wp2
      exact ho.out
    · have ho := Lib.hid (h0.out (fun q => k2 q.2.2) w2 (HBB.out _ hw2.out))
      clear h1 h0 hS HBB
      go_wp2
      exact ho.out
  · have ho := Lib.hid (h0.out (fun q => g q.1))
    have eF := hF0.out g
    subst eF
    clear h1 h0 hF hF0 hA
    go_upto_region 2 with (go_at_call 12; (with_reducible refine hi.out.mono ?_); rintro e w2 ⟨rfl, hb⟩; have hw2 := Lib.hid hb; clear hb; obtain ⟨-, y0, y1, y2, y3, y4, y5⟩ := hS.out w2 hw2.out)
    clear z0 z1 z2 z3 z4 z5 hi
    go_wp2
    exact ho.out _ (HBB.out _ hw2.out)
end Go.Proofs.Ytlddclkophajbaa.Cfg
