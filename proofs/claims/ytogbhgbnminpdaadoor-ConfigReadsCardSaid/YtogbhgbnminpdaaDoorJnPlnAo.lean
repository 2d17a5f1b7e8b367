/-
  Package plan: isAsked. A configuration that lies, as an argument. | A configuration that came in, opened.
-/
import Derived.Test.YtogbhgbnminpdaaDoorJnPlnMath
import Derived.Test.YtogbhgbnminpdaaDoorJnCfgG
import Derived.Test.YtogbhgbnminpdaaDoorJnCfgR
import Derived.Carry
import Derived.OpenShut
import Derived.Deep.Slices
set_option linter.unusedVariables false
set_option maxRecDepth 100000
set_option linter.unusedVariables false
namespace Go.Proofs.YtogbhgbnminpdaaDoor.Cfg
open Go.Proofs.YtogbhgbnminpdaaDoor
open Go.ChangeShapes Go.WideShapes Go.ChangeAt Go.RowKit
/-- A configuration that lies, its rows below B. -/
structure Cx (w : World) (B : Nat) (c : Cf) (p1 : Option Addr) (c1 : Nat) (p2 : Option Addr) (c2 : Nat) (p3 : Option Addr) (c3 : Nat) : Prop where
  L1 : LieS 3 w B p1 c.parts.length c1 (c.parts.map ptC)
  L2 : LieS 5 w B p2 c.chans.length c2 (c.chans.map chC)
  L3 : LieS 3 w B p3 c.wins.length c3 (c.wins.map wnC)
  wf : Wf c
  cap : c1 ≤ 9223372036854775807
section
variable {w w' : World} {B B' : Nat} {c : Cf} {p1 : Option Addr} {c1 : Nat} {p2 : Option Addr} {c2 : Nat} {p3 : Option Addr} {c3 : Nat}
theorem Cx.kept (X : Cx w B c p1 c1 p2 c2 p3 c3) (hb : Below B' w w') (hB : B ≤ B') : Cx w' B c p1 c1 p2 c2 p3 c3 :=
  ⟨X.L1.kept hb hB, X.L2.kept hb hB, X.L3.kept hb hB, X.wf, X.cap⟩
theorem Cx.wide (X : Cx w B c p1 c1 p2 c2 p3 c3) (hB : B ≤ B') : Cx w B' c p1 c1 p2 c2 p3 c3 :=
  ⟨X.L1.wide hB, X.L2.wide hB, X.L3.wide hB, X.wf, X.cap⟩
theorem Cx.later (X : Cx w B c p1 c1 p2 c2 p3 c3) (hb : Below B' w w') (hB : B ≤ B') (hz : B' ≤ w.heap.size) : Cx w' w'.heap.size c p1 c1 p2 c2 p3 c3 :=
  (X.kept hb hB).wide (Nat.le_trans hB (Nat.le_trans hz hb.size))
theorem check_cx (X : Cx w w.heap.size c p1 c1 p2 c2 p3 c3) : Calls Tryd.prog 8 #[cfV c p1 c1 p2 c2 p3 c3] w fun e w' => e = .returned (i64 (chk c)) ∧ Below w.heap.size w w' :=
  check_says X.L1 X.L2 X.L3 X.wf X.cap
theorem rcheck_cx (X : Cx w w.heap.size c p1 c1 p2 c2 p3 c3) : Calls Tryd.prog 12 #[cfV c p1 c1 p2 c2 p3 c3] w fun e w' => e = .returned (i64 (chk c)) ∧ Below w.heap.size w w' :=
  rcheck_says X.L1 X.L2 X.L3 X.wf
end
/-- The cell of one int of a row. -/
theorem LieS.cell1 {w : World} {B n c : Nat} {p : Option Addr} {l : List Int} (h : LieS 1 w B p n c (l.map fun t => [i64 t])) (i : Nat) (x : Int) (hx : l[i]? = some x) :
    ∃ b off, p = some ⟨b, off, none⟩ ∧ b < B ∧ w.cell? ⟨b, off + i, none⟩ = some (i64 x) := by
  have hi : i < n := by have := (List.getElem?_eq_some_iff.1 hx).1; have := h.len; rw [List.length_map] at this; omega
  obtain ⟨b, off, e, hl, ha⟩ := h.at_ (by omega)
  have hm : (l.map fun t => [i64 t])[i]? = some [i64 x] := by rw [List.getElem?_map, hx]; rfl
  have := ha i _ hm 0 _ rfl
  rw [Nat.mul_one, Nat.add_zero] at this
  exact ⟨b, off, e, hl, this⟩
end Go.Proofs.YtogbhgbnminpdaaDoor.Cfg
set_option maxRecDepth 100000
set_option linter.unusedVariables false
namespace Go.Proofs.YtogbhgbnminpdaaDoor.Cfg
open Go.Proofs.YtogbhgbnminpdaaDoor
open Go.ChangeShapes Go.WideShapes Go.ChangeAt Go.RowKit
theorem laidOut : laidOutB Tryd.prog = true := by kernel_rfl
theorem own : ownKnob Tryd.prog.godebug = none := by kernel_rfl
theorem cellsI : Tryd.prog.cellsOf 3 = 1 := by kernel_rfl
theorem cellsStr : Tryd.prog.cellsOf 9 = 1 := by kernel_rfl
theorem cellsPt : Tryd.prog.cellsOf 47 = 3 := by kernel_rfl
theorem cellsCh : Tryd.prog.cellsOf 49 = 5 := by kernel_rfl
theorem cellsWn : Tryd.prog.cellsOf 51 = 3 := by kernel_rfl
theorem cellsSP : Tryd.prog.cellsOf 22 = 1 := by kernel_rfl
theorem cellsSC : Tryd.prog.cellsOf 23 = 1 := by kernel_rfl
theorem cellsSW : Tryd.prog.cellsOf 24 = 1 := by kernel_rfl
theorem cellsCfg : Tryd.prog.cellsOf 26 = 6 := by kernel_rfl
theorem i64_wf {n : Int} (h : (Lit.int .i64 n).wf = true) : -9223372036854775808 ≤ n ∧ n ≤ 9223372036854775807 := by
  simp [Lit.wf, IntKind.min, IntKind.max, IntKind.signed, IntKind.bits] at h; omega
abbrev inI (n : Int) : Prop := -9223372036854775808 ≤ n ∧ n ≤ 9223372036854775807
section
variable {H : Type} {enc : TypeId × Value → H} {W : World}
theorem open_pt {fuel : Nat} {cs : List Value} {x : DataW H × List MemPlace} (hf : DataW.trod enc Tryd.prog W 0 (fun _ => true) true fuel 47 cs = some x) :
    ∃ a : Pt, cs = ptC a ∧ (a.name.size ≤ 9223372036854775807 ∧ inI a.pages) := by
  obtain ⟨xs, m, -, -, hl, hxl, hg⟩ := DataW.trod_struct Tryd.underlying47 hf
  rw [cellsPt] at hl
  match cs, hl with
  | [c0, c1, c2], _ =>
    match xs, hxl with
    | [y0, y1, y2], _ =>
      have g0 := hg 0 _ rfl
      have g1 := hg 1 _ rfl
      have g2 := hg 2 _ rfl
      simp [cellsI, cellsStr] at g0 g1 g2
      obtain ⟨n0, e0, -, w0⟩ := DataW.trod_string Tryd.underlying9 g0
      obtain ⟨n1, e1, -, w1⟩ := DataW.trod_int Tryd.underlying3 g1
      obtain ⟨n2, e2, -, w2⟩ := DataW.trod_int Tryd.underlying3 g2
      simp at e0 e1 e2
      subst e0 e1 e2
      exact ⟨⟨n0, n1, n2⟩, rfl, by unfold maxLen at w0; show n0.size ≤ _; omega, i64_wf w1⟩
theorem open_ch {fuel : Nat} {cs : List Value} {x : DataW H × List MemPlace} (hf : DataW.trod enc Tryd.prog W 0 (fun _ => true) true fuel 49 cs = some x) :
    ∃ a : Ch, cs = chC a ∧ True := by
  obtain ⟨xs, m, -, -, hl, hxl, hg⟩ := DataW.trod_struct Tryd.underlying49 hf
  rw [cellsCh] at hl
  match cs, hl with
  | [c0, c1, c2, c3, c4], _ =>
    match xs, hxl with
    | [y0, y1, y2, y3, y4], _ =>
      have g0 := hg 0 _ rfl
      have g1 := hg 1 _ rfl
      have g2 := hg 2 _ rfl
      have g3 := hg 3 _ rfl
      have g4 := hg 4 _ rfl
      simp [cellsI] at g0 g1 g2 g3 g4
      obtain ⟨n0, e0, -, w0⟩ := DataW.trod_int Tryd.underlying3 g0
      obtain ⟨n1, e1, -, w1⟩ := DataW.trod_int Tryd.underlying3 g1
      obtain ⟨n2, e2, -, w2⟩ := DataW.trod_int Tryd.underlying3 g2
      obtain ⟨n3, e3, -, w3⟩ := DataW.trod_int Tryd.underlying3 g3
      obtain ⟨n4, e4, -, w4⟩ := DataW.trod_int Tryd.underlying3 g4
      simp at e0 e1 e2 e3 e4
      subst e0 e1 e2 e3 e4
      exact ⟨⟨n0, n1, n2, n3, n4⟩, rfl, True.intro⟩
theorem open_wn {fuel : Nat} {cs : List Value} {x : DataW H × List MemPlace} (hf : DataW.trod enc Tryd.prog W 0 (fun _ => true) true fuel 51 cs = some x) :
    ∃ a : Wn, cs = wnC a ∧ (inI a.start ∧ inI a.len) := by
  obtain ⟨xs, m, -, -, hl, hxl, hg⟩ := DataW.trod_struct Tryd.underlying51 hf
  rw [cellsWn] at hl
  match cs, hl with
  | [c0, c1, c2], _ =>
    match xs, hxl with
    | [y0, y1, y2], _ =>
      have g0 := hg 0 _ rfl
      have g1 := hg 1 _ rfl
      have g2 := hg 2 _ rfl
      simp [cellsI] at g0 g1 g2
      obtain ⟨n0, e0, -, w0⟩ := DataW.trod_int Tryd.underlying3 g0
      obtain ⟨n1, e1, -, w1⟩ := DataW.trod_int Tryd.underlying3 g1
      obtain ⟨n2, e2, -, w2⟩ := DataW.trod_int Tryd.underlying3 g2
      simp at e0 e1 e2
      subst e0 e1 e2
      exact ⟨⟨n0, n1, n2⟩, rfl, i64_wf w0, i64_wf w1⟩
/-- A row of structs that came in. -/
theorem lie_rows {α : Type} {T E : TypeId} {st : Nat} (hT : Tryd.prog.underlying T = some (.slice E)) (hE : Tryd.prog.cellsOf E = st) (hst : 0 < st) (f : α → List Value) (hf : ∀ a, (f a).length = st) (Q : α → Prop)
    (op : ∀ (fuel : Nat) (cs : List Value) (x : DataW H × List MemPlace), DataW.trod enc Tryd.prog W 0 (fun _ => true) true fuel E cs = some x → ∃ a, cs = f a ∧ Q a)
    {fuel : Nat} {c0 : Value} {x : DataW H × List MemPlace} (h : DataW.trod enc Tryd.prog W 0 (fun _ => true) true fuel T [c0] = some x) :
    ∃ p c, ∃ l : List α, c0 = .slice p l.length c ∧ LieS st W W.heap.size p l.length c (l.map f) ∧ (∀ (k : Nat) (a : α), l[k]? = some a → Q a) ∧ l.length ≤ 9223372036854775807 ∧ c ≤ 9223372036854775807 := by
  rcases DataW.trod_slice hT h with ⟨hcs, -⟩ | ⟨a, len, cap, elems, rest, n, -, hcs, -, hb, hl, hm, hlen, hel, -, -⟩
  · injection hcs with hcs
    exact ⟨none, 0, [], hcs, lieS_nil st W W.heap.size 0 (fun _ => rfl), fun k a hk => by simp at hk, by simp, by omega⟩
  · injection hcs with hcs
    rw [hE] at hel
    have each : ∀ i, i < len → ∃ x : α, (∀ k, k < st → W.cell? ((a.add (i * st)).add k) = (f x)[k]?) ∧ Q x := by
      intro i hi
      have h1 := hel i hi
      rw [List.getElem?_eq_getElem (by rw [hlen]; exact hi)] at h1
      obtain ⟨cs', h2, h3⟩ := Option.bind_eq_some_iff.1 h1
      obtain ⟨x, rfl, hx⟩ := op _ _ _ h3
      obtain ⟨-, -, h4⟩ := World.cells?_some h2
      exact ⟨x, h4, hx⟩
    by_cases h0 : len = 0
    · subst h0
      exact ⟨some a, cap, [], hcs, lieS_nil st W W.heap.size cap (fun e => by cases e), fun k a hk => by simp at hk, by simp, by unfold maxLen at hm; omega⟩
    · have : Nonempty α := ⟨(each 0 (by omega)).choose⟩
      have : Inhabited α := ⟨Classical.choice this⟩
      obtain ⟨g, hg⟩ := Go.Deep.choose_lt each
      have hll : ((List.range len).map g).length = len := by simp
      have hgk : ∀ (k : Nat) (b : α), ((List.range len).map g)[k]? = some b → k < len ∧ b = g k := fun k b hk => by
        have hk2 : k < len := by have := (List.getElem?_eq_some_iff.1 hk).1; rwa [hll] at this
        rw [List.getElem?_map, List.getElem?_range hk2] at hk
        exact ⟨hk2, (Option.some.inj hk).symm⟩
      refine ⟨some a, cap, (List.range len).map g, by rw [hll]; exact hcs, ⟨by rw [List.length_map], by rw [hll]; exact hl, (fun e => by cases e), fun hp => ?_⟩, fun k b hk => ?_, by rw [hll]; unfold maxLen at hm; omega, by unfold maxLen at hm; omega⟩
      · obtain ⟨b, off, spot⟩ := a
        obtain ⟨v0, hv0⟩ : ∃ v0, (f (g 0))[0]? = some v0 := ⟨_, List.getElem?_eq_getElem (by rw [hf]; exact hst)⟩
        have h00 := ((hg 0 (by omega)).1 0 hst).trans hv0
        have hspot : spot = none := by simpa [Addr.add] using World.cell?_spot h00
        subst hspot
        refine ⟨b, off, rfl, by simpa [Addr.add] using World.block_lt_of_cell? W _ h00, fun i y hy k v hv => ?_⟩
        rw [List.getElem?_map] at hy
        obtain ⟨z, hz, rfl⟩ := Option.map_eq_some_iff.1 hy
        obtain ⟨hi, rfl⟩ := hgk i z hz
        have h5 := (hg i hi).1 k (by have := (List.getElem?_eq_some_iff.1 hv).1; rwa [hf] at this)
        simp only [Addr.add_lit] at h5
        exact h5.trans hv
      · obtain ⟨hi, rfl⟩ := hgk k b hk
        exact (hg k hi).2
/-- A configuration, opened. -/
theorem open_cfg {v : Value} {d : DataW H} {p : List MemPlace} {base : Nat} (hv : Value.okWide Tryd.prog W .any base 26 v) (h : DataW.Trod enc Tryd.prog W 0 (fun _ => true) true 26 v d p) :
    ∃ c p1 c1 p2 c2 p3 c3, v = cfV c p1 c1 p2 c2 p3 c3 ∧ Cx W W.heap.size c p1 c1 p2 c2 p3 c3 := by
  obtain ⟨cs, rfl, hsz⟩ := okWide_struct Tryd.underlying26 hv
  rw [cellsCfg] at hsz
  obtain ⟨l⟩ := cs
  match l, hsz with
  | [k0, k1, k2, k3, k4, k5], _ =>
    obtain ⟨fuel, hf⟩ := h
    obtain ⟨xs, n, _, hx, _, hlen, hg⟩ := DataW.trod_struct Tryd.underlying26 hf
    match xs, hlen with
    | [y0, y1, y2, y3, y4, y5], _ =>
      have g0 : DataW.trod enc Tryd.prog W 0 (fun _ => true) true n 3 [k0] = some y0 := by simpa [Value.cells, cellsI, cellsSP, cellsSC, cellsSW] using hg 0 _ rfl
      have g1 : DataW.trod enc Tryd.prog W 0 (fun _ => true) true n 3 [k1] = some y1 := by simpa [Value.cells, cellsI, cellsSP, cellsSC, cellsSW] using hg 1 _ rfl
      have g2 : DataW.trod enc Tryd.prog W 0 (fun _ => true) true n 3 [k2] = some y2 := by simpa [Value.cells, cellsI, cellsSP, cellsSC, cellsSW] using hg 2 _ rfl
      have g3 : DataW.trod enc Tryd.prog W 0 (fun _ => true) true n 22 [k3] = some y3 := by simpa [Value.cells, cellsI, cellsSP, cellsSC, cellsSW] using hg 3 _ rfl
      have g4 : DataW.trod enc Tryd.prog W 0 (fun _ => true) true n 23 [k4] = some y4 := by simpa [Value.cells, cellsI, cellsSP, cellsSC, cellsSW] using hg 4 _ rfl
      have g5 : DataW.trod enc Tryd.prog W 0 (fun _ => true) true n 24 [k5] = some y5 := by simpa [Value.cells, cellsI, cellsSP, cellsSC, cellsSW] using hg 5 _ rfl
      obtain ⟨n0, e0, -, w0⟩ := DataW.trod_int Tryd.underlying3 g0
      obtain ⟨n1, e1, -, w1⟩ := DataW.trod_int Tryd.underlying3 g1
      obtain ⟨n2, e2, -, w2⟩ := DataW.trod_int Tryd.underlying3 g2
      obtain ⟨p1, c1, l1, e3, L1, q1, m1, mc1⟩ := lie_rows Tryd.underlying22 cellsPt (by decide) ptC (fun _ => rfl) _ (fun _ _ _ h => open_pt h) g3
      obtain ⟨p2, c2, l2, e4, L2, q2, m2, mc2⟩ := lie_rows Tryd.underlying23 cellsCh (by decide) chC (fun _ => rfl) _ (fun _ _ _ h => open_ch h) g4
      obtain ⟨p3, c3, l3, e5, L3, q3, m3, mc3⟩ := lie_rows Tryd.underlying24 cellsWn (by decide) wnC (fun _ => rfl) _ (fun _ _ _ h => open_wn h) g5
      have e0 := List.head_eq_of_cons_eq e0
      have e1 := List.head_eq_of_cons_eq e1
      have e2 := List.head_eq_of_cons_eq e2
      subst e0 e1 e2 e3 e4 e5
      exact ⟨⟨n0, n1, n2, l1, l2, l3⟩, p1, c1, p2, c2, p3, c3, rfl, L1, L2, L3, ⟨i64_wf w0, i64_wf w1, i64_wf w2, ⟨q1, q3⟩, ⟨m1, m2, m3⟩⟩, mc1⟩
end
end Go.Proofs.YtogbhgbnminpdaaDoor.Cfg
