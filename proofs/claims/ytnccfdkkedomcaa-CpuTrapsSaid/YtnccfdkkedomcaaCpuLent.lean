
/-
  Lent: a state in memory of its own, one number more behind each row (laid by mklent.py).
-/
import Derived.Test.YtnccfdkkedomcaaCpuKeep
import Derived.Test.YtnccfdkkedomcaaCpuNest2
import Derived.Deep.RegionLaw
namespace Go.Proofs.Ytnccfdkkedomcaa.Ser
open Go.Proofs.Ytnccfdkkedomcaa
open Go.ChangeShapes Go.WideShapes Go.ChangeAt Go.RowKit
/-- A row, one number more than is told behind it. -/
abbrev OwnX (E : TypeId) (k : IntKind) (w : World) (B g n q : Nat) (xs : List Int) (x : Int) : Prop := OwnK E k w B (.slice (some ⟨g, 0, none⟩) (n + 1) q) (xs ++ [x])
theorem src_cell {k : IntKind} {w : World} {g : Nat} {x : Int} (h : w.cell? ⟨g, 0, none⟩ = some (.int k x)) : SrcK k w (some ⟨g, 0, none⟩) [x] := by
  intro _
  refine ⟨_, rfl, fun j u hu => ?_⟩
  have hj : j = 0 := by have := (List.getElem?_eq_some_iff.1 hu).1; simp at this; omega
  subst hj
  rw [Addr.add_lit]
  simp at hu
  rw [← hu]
  exact h
theorem chain {w ua u1 : World} (h : Below w.heap.size w ua) (t : Below ua.heap.size ua u1) : Below w.heap.size w u1 ∧ w.heap.size ≤ ua.heap.size := ⟨h.trans (t.mono h.size), h.size⟩
theorem new_cell (w : World) (v : Value) (t : TypeId) : (w.alloc (.cells #[v] t)).cell? ⟨w.heap.size, 0, none⟩ = some v := by
  rw [cell_of_row _ _ 0 _ _ _ (heap_alloc_new _ _)]; rfl
theorem ownX_box {E : TypeId} {k : IntKind} {w wx : World} {g n q : Nat} {xs : List Int} {x : Int} (h : OwnX E k wx (w.heap.size + 2) g n q xs x) (j : Nat) (v : Value) : OwnX E k (wx.setCell ⟨w.heap.size, j, none⟩ v) (w.heap.size + 2) g n q xs x :=
  ownK_off h (fun e => by have := (h.lt _ e).1; omega) _ _

set_option maxRecDepth 100000 in
set_option maxHeartbeats 8000000 in
theorem lent_says {w : World} {v : Value} {s : St} (A : StL w w.heap.size v s) (hf : fit s) : Calls Try.prog 15 #[v] w fun e w' => ∃ g1 q1 g2 q2 g3 q3,
    e = .returned (.agg #[.slice (some ⟨g1, 0, none⟩) s.R.length q1, i64 s.pc, .slice (some ⟨g2, 0, none⟩) s.C.length q2, .bool s.h, .bool s.k, .slice (some ⟨g3, 0, none⟩) s.O.length q3]) ∧
    OwnX 3 .i64 w' (w.heap.size) g1 s.R.length q1 s.R (-71) ∧ OwnX 3 .i64 w' (w.heap.size) g2 s.C.length q2 s.C (-71) ∧ OwnX 5 .u8 w' (w.heap.size) g3 s.O.length q3 s.O 171 ∧ Below w.heap.size w w' := by
  obtain ⟨rp, rn, rc, cp, cn, cc, op, on, oc, rfl, h1, h2, h3⟩ := A
  obtain ⟨f1, f2, f3⟩ := hf
  rw [h1.len, h2.len, h3.len]
  rw [h1.len] at f1; rw [h2.len] at f2; rw [h3.len] at f3
  have hT := Two6.start w (.slice rp rn rc) s.pc (.slice cp cn cc) s.h s.k (.slice op on oc)
  go_enter Try.func15, Try.ntmps15
  go_upto_region 1 with fail
  obtain ⟨wk, hw2⟩ : ∃ w2, w2 = ((w.alloc (.cells #[.slice rp rn rc, i64 s.pc, .slice cp cn cc, .bool s.h, .bool s.k, .slice op on oc] 31)).alloc (.cells #[.slice none 0 0, i64 0, .slice none 0 0, .bool false, .bool false, .slice none 0 0] 31)) := ⟨_, rfl⟩
  rw [← hw2] at hT ⊢
  clear hw2
  go_cut [] from 3 (fun wx => ∃ g1 q1, Two6 w wx (.slice (some ⟨g1, 0, none⟩) rn q1) s.pc (.slice cp cn cc) s.h s.k (.slice op on oc) ∧ OwnX 3 .i64 wx (w.heap.size + 2) g1 rn q1 s.R (-71))
  case first =>
    have T := hT
    have LX := h1
    have fX : rn ≤ 1000 := by omega
    clear hT h1 h2 h3 f1 f2 f3
    have HT := Lib.hid T
    have N := Lib.hid LX.len; have Q := Lib.hid LX.nil; have HF := Lib.hid fX
    have hd0 : Below wk.heap.size wk wk.drew := (Below.refl _ _).drew
    have hd1 : ∀ o, Below wk.heap.size wk (wk.alloc o).drew := fun o => ((Below.refl _ _).alloc (Nat.le_refl _) o).drew
    have HS := Lib.hid (fun u (kk : Below wk.heap.size wk u) => ((LX.kept T.b (Nat.le_refl _)).kept kk (by have := T.lt; omega)).src)
    have d0 := T.x.c0
    have dA := cell_alloc d0 (.cells #[.int .i64 (-71)] 3)
    have hzl : wk.heap.size < (wk.alloc (.cells #[.int .i64 (-71)] 3)).drew.heap.size := by show wk.heap.size < (wk.alloc _).heap.size; simp
    have hzb : (wk.alloc (.cells #[.int .i64 (-71)] 3)).drew.cell? ⟨wk.heap.size, 0, none⟩ = some (.int .i64 (-71)) := new_cell _ _ _
    have hsn : (0 : Int) ≤ (rn : Int) := by omega
    clear T
    go_region_law (first
      | (refine step_appK kdI rfl _ _ rfl (by first | exact hz1 | (have := hz1; simp; omega)) rfl (ownK_below HO1.out ((Below.refl _ _).alloc (Nat.le_refl _) (.cells #[.int .i64 (-71)] 3))) [(-71 : Int)] (p := some ⟨u1.heap.size, 0, none⟩) (m := 1) (c := 1) rfl rfl (fun e => by cases e) (src_cell (new_cell _ _ _)) (by have := N.out; have := HF.out; simp; omega) ?_; intro v2 u2 o2 t2 _; have b2 : Below wk.heap.size wk u2 := (by first | with_reducible exact b1.trans t2 | with_reducible exact (b1.alloc b1.size _).trans t2); obtain ⟨g, q, rfl, m1, m2, m3, m4, -⟩ := ownK_cell (j := 0) o2 (by simp); obtain ⟨ln, hln⟩ : ∃ ln, (s.R ++ [(-71 : Int)]).length = ln := ⟨_, rfl⟩; rw [hln] at o2 m2 ⊢; have hln2 : ln = rn + 1 := (by rw [← hln, List.length_append, N.out]; rfl); have iq : (rn : Int) ≤ (q : Int) := (by omega); have iq2 : (q : Int) ≤ 9223372036854775807 := (by unfold maxLen at m1; omega); have e2 := (HT.out.x.kept b2 HT.out.x.lt).c0; have f2 := (HT.out.x.kept b2 HT.out.x.lt).free 0; have HO2 := Lib.hid o2; have HL2 := Lib.hid hln2; have HB2 := Lib.hid b2; have HG2 := Lib.hid m3; clear o2 t2 hln hln2 b2 m1 m2 m3 m4)
      | (refine step_appK kdI rfl _ _ rfl (by first | exact hz1 | (have := hz1; simp; omega)) rfl HO1.out [(-71 : Int)] (p := some ⟨wk.heap.size, 0, none⟩) (m := 1) (c := 1) rfl rfl (fun e => by cases e) (src_cell zb) (by have := N.out; have := HF.out; simp; omega) ?_; intro v2 u2 o2 t2 _; have b2 : Below wk.heap.size wk u2 := (by first | with_reducible exact b1.trans t2 | with_reducible exact (b1.alloc b1.size _).trans t2); obtain ⟨g, q, rfl, m1, m2, m3, m4, -⟩ := ownK_cell (j := 0) o2 (by simp); obtain ⟨ln, hln⟩ : ∃ ln, (s.R ++ [(-71 : Int)]).length = ln := ⟨_, rfl⟩; rw [hln] at o2 m2 ⊢; have hln2 : ln = rn + 1 := (by rw [← hln, List.length_append, N.out]; rfl); have iq : (rn : Int) ≤ (q : Int) := (by omega); have iq2 : (q : Int) ≤ 9223372036854775807 := (by unfold maxLen at m1; omega); have e2 := (HT.out.x.kept b2 HT.out.x.lt).c0; have f2 := (HT.out.x.kept b2 HT.out.x.lt).free 0; have HO2 := Lib.hid o2; have HL2 := Lib.hid hln2; have HB2 := Lib.hid b2; have HG2 := Lib.hid m3; clear o2 t2 hln hln2 b2 m1 m2 m3 m4)
      | (refine step_appK kdI rfl _ _ rfl (Nat.le_refl _) (v1 := .slice none 0 0) (R1 := []) rfl (ownK_nil _ _ _ _) s.R (p := rp) (m := rn) (c := rc) rfl N.out Q.out (HS.out _ (by first | with_reducible exact hd0 | with_reducible exact hd1 _)) (by have := HF.out; have h3 : ([] : List Int).length = 0 := rfl; omega) ?_; intro v1 u1 o1 t1 _; rw [List.nil_append] at o1; have b1 : Below wk.heap.size wk u1 := (by first | with_reducible exact hd0.trans (t1.mono hd0.size) | with_reducible exact (hd1 _).trans (t1.mono (hd1 _).size)); have hz1 := b1.size; obtain ⟨p1, q1, rfl, -, -⟩ := ownK_lie o1; have HO1 := Lib.hid (ownK_mono (B' := wk.heap.size) o1 (by first | with_reducible exact hd0.size | with_reducible exact (hd1 _).size)); have e1 := (HT.out.x.kept b1 HT.out.x.lt).c0; have e1A := cell_alloc e1 (.cells #[.int .i64 (-71)] 3); (first | with_reducible have zb := cell_kept t1 hzl hzb | skip)))
    all_goals
      go_wp2_with fail
      go_meet
      case rel =>
        have e := HL2.out
        subst e
        exact ⟨g, q, (HT.out.call HB2.out).set0 _, ownX_box (ownK_mono HO2.out HT.out.lt) 0 _⟩
  case rest =>
    clear hT
    obtain ⟨g1, q1, T, O1⟩ := hcut
    have HP1 := Lib.hid O1
    clear O1
    go_upto_region 2 with fail
    obtain ⟨wk, hwk⟩ : ∃ wk, wk = wc := ⟨_, rfl⟩
    rw [← hwk] at T HP1 ⊢
    clear hwk
    go_cut [] from 3 (fun wx => ∃ g2 q2, Two6 w wx (.slice (some ⟨g1, 0, none⟩) rn q1) s.pc (.slice (some ⟨g2, 0, none⟩) cn q2) s.h s.k (.slice op on oc) ∧ OwnX 3 .i64 wx (w.heap.size + 2) g2 cn q2 s.C (-71) ∧ OwnX 3 .i64 wx (w.heap.size + 2) g1 rn q1 s.R (-71))
    case first =>
      have LX := h2
      have fX : cn ≤ 1000 := by omega
      clear h1 h2 h3 f1 f2 f3
      have HT := Lib.hid T
      have N := Lib.hid LX.len; have Q := Lib.hid LX.nil; have HF := Lib.hid fX
      have hd0 : Below wk.heap.size wk wk.drew := (Below.refl _ _).drew
      have hd1 : ∀ o, Below wk.heap.size wk (wk.alloc o).drew := fun o => ((Below.refl _ _).alloc (Nat.le_refl _) o).drew
      have HS := Lib.hid (fun u (kk : Below wk.heap.size wk u) => ((LX.kept T.b (Nat.le_refl _)).kept kk (by have := T.lt; omega)).src)
      have d0 := T.x.c2
      have dA := cell_alloc d0 (.cells #[.int .i64 (-71)] 3)
      have hzl : wk.heap.size < (wk.alloc (.cells #[.int .i64 (-71)] 3)).drew.heap.size := by show wk.heap.size < (wk.alloc _).heap.size; simp
      have hzb : (wk.alloc (.cells #[.int .i64 (-71)] 3)).drew.cell? ⟨wk.heap.size, 0, none⟩ = some (.int .i64 (-71)) := new_cell _ _ _
      have hsn : (0 : Int) ≤ (cn : Int) := by omega
      clear T
      go_region_law (first
        | (refine step_appK kdI rfl _ _ rfl (by first | exact hz1 | (have := hz1; simp; omega)) rfl (ownK_below HO1.out ((Below.refl _ _).alloc (Nat.le_refl _) (.cells #[.int .i64 (-71)] 3))) [(-71 : Int)] (p := some ⟨u1.heap.size, 0, none⟩) (m := 1) (c := 1) rfl rfl (fun e => by cases e) (src_cell (new_cell _ _ _)) (by have := N.out; have := HF.out; simp; omega) ?_; intro v2 u2 o2 t2 _; have b2 : Below wk.heap.size wk u2 := (by first | with_reducible exact b1.trans t2 | with_reducible exact (b1.alloc b1.size _).trans t2); obtain ⟨g, q, rfl, m1, m2, m3, m4, -⟩ := ownK_cell (j := 0) o2 (by simp); obtain ⟨ln, hln⟩ : ∃ ln, (s.C ++ [(-71 : Int)]).length = ln := ⟨_, rfl⟩; rw [hln] at o2 m2 ⊢; have hln2 : ln = cn + 1 := (by rw [← hln, List.length_append, N.out]; rfl); have iq : (cn : Int) ≤ (q : Int) := (by omega); have iq2 : (q : Int) ≤ 9223372036854775807 := (by unfold maxLen at m1; omega); have e2 := (HT.out.x.kept b2 HT.out.x.lt).c2; have f2 := (HT.out.x.kept b2 HT.out.x.lt).free 2; have HO2 := Lib.hid o2; have HL2 := Lib.hid hln2; have HB2 := Lib.hid b2; have HG2 := Lib.hid m3; clear o2 t2 hln hln2 b2 m1 m2 m3 m4)
        | (refine step_appK kdI rfl _ _ rfl (by first | exact hz1 | (have := hz1; simp; omega)) rfl HO1.out [(-71 : Int)] (p := some ⟨wk.heap.size, 0, none⟩) (m := 1) (c := 1) rfl rfl (fun e => by cases e) (src_cell zb) (by have := N.out; have := HF.out; simp; omega) ?_; intro v2 u2 o2 t2 _; have b2 : Below wk.heap.size wk u2 := (by first | with_reducible exact b1.trans t2 | with_reducible exact (b1.alloc b1.size _).trans t2); obtain ⟨g, q, rfl, m1, m2, m3, m4, -⟩ := ownK_cell (j := 0) o2 (by simp); obtain ⟨ln, hln⟩ : ∃ ln, (s.C ++ [(-71 : Int)]).length = ln := ⟨_, rfl⟩; rw [hln] at o2 m2 ⊢; have hln2 : ln = cn + 1 := (by rw [← hln, List.length_append, N.out]; rfl); have iq : (cn : Int) ≤ (q : Int) := (by omega); have iq2 : (q : Int) ≤ 9223372036854775807 := (by unfold maxLen at m1; omega); have e2 := (HT.out.x.kept b2 HT.out.x.lt).c2; have f2 := (HT.out.x.kept b2 HT.out.x.lt).free 2; have HO2 := Lib.hid o2; have HL2 := Lib.hid hln2; have HB2 := Lib.hid b2; have HG2 := Lib.hid m3; clear o2 t2 hln hln2 b2 m1 m2 m3 m4)
        | (refine step_appK kdI rfl _ _ rfl (Nat.le_refl _) (v1 := .slice none 0 0) (R1 := []) rfl (ownK_nil _ _ _ _) s.C (p := cp) (m := cn) (c := cc) rfl N.out Q.out (HS.out _ (by first | with_reducible exact hd0 | with_reducible exact hd1 _)) (by have := HF.out; have h3 : ([] : List Int).length = 0 := rfl; omega) ?_; intro v1 u1 o1 t1 _; rw [List.nil_append] at o1; have b1 : Below wk.heap.size wk u1 := (by first | with_reducible exact hd0.trans (t1.mono hd0.size) | with_reducible exact (hd1 _).trans (t1.mono (hd1 _).size)); have hz1 := b1.size; obtain ⟨p1, q1, rfl, -, -⟩ := ownK_lie o1; have HO1 := Lib.hid (ownK_mono (B' := wk.heap.size) o1 (by first | with_reducible exact hd0.size | with_reducible exact (hd1 _).size)); have e1 := (HT.out.x.kept b1 HT.out.x.lt).c2; have e1A := cell_alloc e1 (.cells #[.int .i64 (-71)] 3); (first | with_reducible have zb := cell_kept t1 hzl hzb | skip)))
      all_goals
        go_wp2_with fail
        go_meet
        case rel =>
          have e := HL2.out
          subst e
          exact ⟨g, q, (HT.out.call HB2.out).set2 _, ownX_box (ownK_mono HO2.out HT.out.lt) 2 _, ownX_box (ownK_below HP1.out HB2.out) 2 _⟩
    case rest =>
      clear T HP1
      obtain ⟨g2, q2, T, O2, O1⟩ := hcut
      have HP1 := Lib.hid O1
      have HP2 := Lib.hid O2
      clear O1 O2
      go_upto_region 3 with fail
      obtain ⟨wk, hwk⟩ : ∃ wk, wk = wc := ⟨_, rfl⟩
      rw [← hwk] at T HP1 HP2 ⊢
      clear hwk
      go_cut [] from 3 (fun wx => ∃ g3 q3, Two6 w wx (.slice (some ⟨g1, 0, none⟩) rn q1) s.pc (.slice (some ⟨g2, 0, none⟩) cn q2) s.h s.k (.slice (some ⟨g3, 0, none⟩) on q3) ∧ OwnX 5 .u8 wx (w.heap.size + 2) g3 on q3 s.O 171 ∧ OwnX 3 .i64 wx (w.heap.size + 2) g2 cn q2 s.C (-71) ∧ OwnX 3 .i64 wx (w.heap.size + 2) g1 rn q1 s.R (-71))
      case first =>
        have LX := h3
        have fX : on ≤ 1000 := by omega
        clear h1 h2 h3 f1 f2 f3
        have HT := Lib.hid T
        have N := Lib.hid LX.len; have Q := Lib.hid LX.nil; have HF := Lib.hid fX
        have hd0 : Below wk.heap.size wk wk.drew := (Below.refl _ _).drew
        have hd1 : ∀ o, Below wk.heap.size wk (wk.alloc o).drew := fun o => ((Below.refl _ _).alloc (Nat.le_refl _) o).drew
        have HS := Lib.hid (fun u (kk : Below wk.heap.size wk u) => ((LX.kept T.b (Nat.le_refl _)).kept kk (by have := T.lt; omega)).src)
        have d0 := T.x.c5
        have dA := cell_alloc d0 (.cells #[.int .u8 (171)] 5)
        have hzl : wk.heap.size < (wk.alloc (.cells #[.int .u8 (171)] 5)).drew.heap.size := by show wk.heap.size < (wk.alloc _).heap.size; simp
        have hzb : (wk.alloc (.cells #[.int .u8 (171)] 5)).drew.cell? ⟨wk.heap.size, 0, none⟩ = some (.int .u8 (171)) := new_cell _ _ _
        have hsn : (0 : Int) ≤ (on : Int) := by omega
        clear T
        go_region_law (first
          | (refine step_appK kdB rfl _ _ rfl (by first | exact hz1 | (have := hz1; simp; omega)) rfl (ownK_below HO1.out ((Below.refl _ _).alloc (Nat.le_refl _) (.cells #[.int .u8 (171)] 5))) [(171 : Int)] (p := some ⟨u1.heap.size, 0, none⟩) (m := 1) (c := 1) rfl rfl (fun e => by cases e) (src_cell (new_cell _ _ _)) (by have := N.out; have := HF.out; simp; omega) ?_; intro v2 u2 o2 t2 _; have b2 : Below wk.heap.size wk u2 := (by first | with_reducible exact b1.trans t2 | with_reducible exact (b1.alloc b1.size _).trans t2); obtain ⟨g, q, rfl, m1, m2, m3, m4, -⟩ := ownK_cell (j := 0) o2 (by simp); obtain ⟨ln, hln⟩ : ∃ ln, (s.O ++ [(171 : Int)]).length = ln := ⟨_, rfl⟩; rw [hln] at o2 m2 ⊢; have hln2 : ln = on + 1 := (by rw [← hln, List.length_append, N.out]; rfl); have iq : (on : Int) ≤ (q : Int) := (by omega); have iq2 : (q : Int) ≤ 9223372036854775807 := (by unfold maxLen at m1; omega); have e2 := (HT.out.x.kept b2 HT.out.x.lt).c5; have f2 := (HT.out.x.kept b2 HT.out.x.lt).free 5; have HO2 := Lib.hid o2; have HL2 := Lib.hid hln2; have HB2 := Lib.hid b2; have HG2 := Lib.hid m3; clear o2 t2 hln hln2 b2 m1 m2 m3 m4)
          | (refine step_appK kdB rfl _ _ rfl (by first | exact hz1 | (have := hz1; simp; omega)) rfl HO1.out [(171 : Int)] (p := some ⟨wk.heap.size, 0, none⟩) (m := 1) (c := 1) rfl rfl (fun e => by cases e) (src_cell zb) (by have := N.out; have := HF.out; simp; omega) ?_; intro v2 u2 o2 t2 _; have b2 : Below wk.heap.size wk u2 := (by first | with_reducible exact b1.trans t2 | with_reducible exact (b1.alloc b1.size _).trans t2); obtain ⟨g, q, rfl, m1, m2, m3, m4, -⟩ := ownK_cell (j := 0) o2 (by simp); obtain ⟨ln, hln⟩ : ∃ ln, (s.O ++ [(171 : Int)]).length = ln := ⟨_, rfl⟩; rw [hln] at o2 m2 ⊢; have hln2 : ln = on + 1 := (by rw [← hln, List.length_append, N.out]; rfl); have iq : (on : Int) ≤ (q : Int) := (by omega); have iq2 : (q : Int) ≤ 9223372036854775807 := (by unfold maxLen at m1; omega); have e2 := (HT.out.x.kept b2 HT.out.x.lt).c5; have f2 := (HT.out.x.kept b2 HT.out.x.lt).free 5; have HO2 := Lib.hid o2; have HL2 := Lib.hid hln2; have HB2 := Lib.hid b2; have HG2 := Lib.hid m3; clear o2 t2 hln hln2 b2 m1 m2 m3 m4)
          | (refine step_appK kdB rfl _ _ rfl (Nat.le_refl _) (v1 := .slice none 0 0) (R1 := []) rfl (ownK_nil _ _ _ _) s.O (p := op) (m := on) (c := oc) rfl N.out Q.out (HS.out _ (by first | with_reducible exact hd0 | with_reducible exact hd1 _)) (by have := HF.out; have h3 : ([] : List Int).length = 0 := rfl; omega) ?_; intro v1 u1 o1 t1 _; rw [List.nil_append] at o1; have b1 : Below wk.heap.size wk u1 := (by first | with_reducible exact hd0.trans (t1.mono hd0.size) | with_reducible exact (hd1 _).trans (t1.mono (hd1 _).size)); have hz1 := b1.size; obtain ⟨p1, q1, rfl, -, -⟩ := ownK_lie o1; have HO1 := Lib.hid (ownK_mono (B' := wk.heap.size) o1 (by first | with_reducible exact hd0.size | with_reducible exact (hd1 _).size)); have e1 := (HT.out.x.kept b1 HT.out.x.lt).c5; have e1A := cell_alloc e1 (.cells #[.int .u8 (171)] 5); (first | with_reducible have zb := cell_kept t1 hzl hzb | skip)))
        all_goals
          go_wp2_with fail
          go_meet
          case rel =>
            have e := HL2.out
            subst e
            exact ⟨g, q, (HT.out.call HB2.out).set5 _, ownX_box (ownK_mono HO2.out HT.out.lt) 5 _, ownX_box (ownK_below HP2.out HB2.out) 5 _, ownX_box (ownK_below HP1.out HB2.out) 5 _⟩
      case rest =>
        clear T HP1 HP2
        obtain ⟨g3, q3, T, O3, O2, O1⟩ := hcut
        obtain ⟨b0, b1, b2, b3, b4, b5⟩ := T.x.cells
        obtain ⟨d0, d1, d2, d3, d4, d5⟩ := T.y.cells
        obtain ⟨e0, e1, e2, e3, e4, e5⟩ := T.y.frees
        have Y := T.y.six (.slice (some ⟨g1, 0, none⟩) rn q1) s.pc (.slice (some ⟨g2, 0, none⟩) cn q2) s.h s.k (.slice (some ⟨g3, 0, none⟩) on q3)
        obtain ⟨y0, y1, y2, y3, y4, y5⟩ := Y.cells
        have R1 := Lib.hid (ownK_mono (six_own O1 (b := w.heap.size + 1) (by omega) (.slice (some ⟨g1, 0, none⟩) rn q1) (i64 s.pc) (.slice (some ⟨g2, 0, none⟩) cn q2) (.bool s.h) (.bool s.k) (.slice (some ⟨g3, 0, none⟩) on q3)) (show w.heap.size ≤ w.heap.size + 2 by omega))
        have R2 := Lib.hid (ownK_mono (six_own O2 (b := w.heap.size + 1) (by omega) (.slice (some ⟨g1, 0, none⟩) rn q1) (i64 s.pc) (.slice (some ⟨g2, 0, none⟩) cn q2) (.bool s.h) (.bool s.k) (.slice (some ⟨g3, 0, none⟩) on q3)) (show w.heap.size ≤ w.heap.size + 2 by omega))
        have R3 := Lib.hid (ownK_mono (six_own O3 (b := w.heap.size + 1) (by omega) (.slice (some ⟨g1, 0, none⟩) rn q1) (i64 s.pc) (.slice (some ⟨g2, 0, none⟩) cn q2) (.bool s.h) (.bool s.k) (.slice (some ⟨g3, 0, none⟩) on q3)) (show w.heap.size ≤ w.heap.size + 2 by omega))
        have hB := Lib.hid (six_below T.b (b := w.heap.size + 1) (by omega) (.slice (some ⟨g1, 0, none⟩) rn q1) (i64 s.pc) (.slice (some ⟨g2, 0, none⟩) cn q2) (.bool s.h) (.bool s.k) (.slice (some ⟨g3, 0, none⟩) on q3))
        clear T O1 O2 O3 Y h1 h2 h3
        go_wp2_with fail
        exact bodyPost_ret (v := .agg #[.slice (some ⟨g1, 0, none⟩) rn q1, i64 s.pc, .slice (some ⟨g2, 0, none⟩) cn q2, .bool s.h, .bool s.k, .slice (some ⟨g3, 0, none⟩) on q3]) (by simp [results, Try.results15, go_sem, y0, y1, y2, y3, y4, y5]) rfl ⟨g1, q1, g2, q2, g3, q3, rfl, R1.out, R2.out, R3.out, hB.out⟩
end Go.Proofs.Ytnccfdkkedomcaa.Ser
