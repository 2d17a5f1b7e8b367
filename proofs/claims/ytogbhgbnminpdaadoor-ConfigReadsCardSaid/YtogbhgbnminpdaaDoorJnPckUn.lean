/-
  The reference: Unpack.
-/
import Derived.Test.YtogbhgbnminpdaaDoorJnPckUa
import Derived.Test.YtogbhgbnminpdaaDoorJnPckM
import Derived.Test.YtogbhgbnminpdaaDoorJnLa
import Derived.Test.YtogbhgbnminpdaaDoorJnPlnAo
import Derived.Deep.QuietTactic
import Derived.BigQuiet
set_option linter.unusedVariables false
set_option maxRecDepth 100000
set_option linter.unusedVariables false
namespace Go.Proofs.YtogbhgbnminpdaaDoor.Pck
open Go.Proofs.YtogbhgbnminpdaaDoor Go.Proofs.YtogbhgbnminpdaaDoor.Ser Go.Proofs.YtogbhgbnminpdaaDoor.Img Go.Proofs.YtogbhgbnminpdaaDoor.Cfg
open Go.ChangeShapes Go.WideShapes Go.ChangeAt Go.RowKit
set_option linter.unusedVariables false
theorem Cg.num {B : Nat} {w : World} {hb : Nat} {c : Cf} {v1 v2 v3 : Value} (C : Cg B w hb c v1 v2 v3) (c' : Cf) (k : Nat) (u : Value) (h : [i64 c.pages, i64 c.major, i64 c.switch, v1, v2, v3].set k u = [i64 c'.pages, i64 c'.major, i64 c'.switch, v1, v2, v3]) (hp : c'.parts = c.parts) (hc : c'.chans = c.chans) (hw : c'.wins = c.wins) : Cg B (w.setCell ⟨hb, k, none⟩ u) hb c' v1 v2 v3 := by
  have e := cut_size w C.1
  have h := cg_of (C.2.num c' k u h hp hc hw)
  rw [e] at h; exact h
theorem Cg.fr {B : Nat} {w : World} {hb : Nat} {c : Cf} {v1 v2 v3 : Value} (C : Cg B w hb c v1 v2 v3) (k : Nat) : w.frozen? ⟨hb, k, none⟩ = false := C.2.fr k
theorem kc_oth {g h : Nat} {w w' : World} {o : Obj} (k : w.heap[h]? = some o) (b : Oth g w w') (hg : h ≠ g) : w'.heap[h]? = some o := (b.block h (Array.getElem?_eq_some_iff.1 k).1 hg).trans k
theorem strOf_size (xs : List Int) : (strOfNums xs).size = xs.length := by
  have := congrArg List.length (strOfNums_data xs)
  simp at this
  exact this
theorem run_sub {pb po n4 q b3 ks : Nat} (h1 : b3 + ks ≤ n4) (h2 : n4 < q) (w : World) : (Instr.slice 32 (.slice (some ⟨pb, po, none⟩) n4 q) (some (.int .i64 (b3 : Int))) (some (.int .i64 ((b3 : Int) + (ks : Int)))) none).run Tryd.prog w = .ok (.slice (some ⟨pb, po + b3, none⟩) ks (q - b3)) w := by
  have ht : Tryd.prog.underlying 32 = some (.slice (Tryd.prog.elem 32)) := by kernel_rfl
  have hsz : (sizeOf (Tryd.prog.elem 32)).run Tryd.prog w = .ok 1 w := by kernel_rfl
  have := run_slice_lh (P := Tryd.prog) (w := w) 32 (some ⟨pb, po, none⟩) n4 q ht .i64 .i64 (b3 : Int) ((b3 : Int) + (ks : Int)) (by omega) (by omega) (by omega)
  rw [this, hsz]
  have e1 : ((b3 : Int) + (ks : Int)).toNat = b3 + ks := by omega
  have e2 : b3 + ks - b3 = ks := by omega
  have e3 : ¬ q = b3 := by omega
  simp [Result.andThen, sliced, e1, e2, e3, Addr.add_lit]
theorem Oth.past {g B : Nat} {w u u' : World} (o : Oth g w u) (b : Below B u u') (hB : w.heap.size ≤ B) : Oth g w u' :=
  ⟨b.os.trans o.os, b.tape.trans o.tape, b.output.trans o.output, Nat.le_trans o.size b.size, fun k hk hg => (b.block k (by omega)).trans (o.block k hk hg)⟩
/-- Windows whose numbers are ints. -/
def WfW (l : List Wn) : Prop := ∀ (k : Nat) (x : Wn), l[k]? = some x → (-9223372036854775808 ≤ x.start ∧ x.start ≤ 9223372036854775807) ∧ (-9223372036854775808 ≤ x.len ∧ x.len ≤ 9223372036854775807)
def WfC (l : List Ch) : Prop := True
theorem WfC.snoc {l : List Ch} (h : WfC l) {x : Ch} (hx : True) : WfC (l ++ [x]) := True.intro
theorem WfW.snoc {l : List Wn} (h : WfW l) {x : Wn} (hx : (-9223372036854775808 ≤ x.start ∧ x.start ≤ 9223372036854775807) ∧ (-9223372036854775808 ≤ x.len ∧ x.len ≤ 9223372036854775807)) : WfW (l ++ [x]) := fun k y hy => by
  by_cases hk : k < l.length
  · rw [List.getElem?_append_left hk] at hy; exact h k y hy
  · rw [List.getElem?_append_right (by omega)] at hy
    have : k - l.length = 0 := by have := (List.getElem?_eq_some_iff.1 hy).1; simp at this; omega
    rw [this] at hy
    injection hy with hy; subst hy; exact hx
/-- Partitions whose numbers are ints. -/
def WfL (l : List Pt) : Prop := ∀ (k : Nat) (x : Pt), l[k]? = some x → x.name.size ≤ 9223372036854775807 ∧ (-9223372036854775808 ≤ x.pages ∧ x.pages ≤ 9223372036854775807)
theorem WfL.snoc {l : List Pt} (h : WfL l) {x : Pt} (hx : x.name.size ≤ 9223372036854775807 ∧ (-9223372036854775808 ≤ x.pages ∧ x.pages ≤ 9223372036854775807)) : WfL (l ++ [x]) := fun k y hy => by
  by_cases hk : k < l.length
  · rw [List.getElem?_append_left hk] at hy; exact h k y hy
  · rw [List.getElem?_append_right (by omega)] at hy
    have : k - l.length = 0 := by have := (List.getElem?_eq_some_iff.1 hy).1; simp at this; omega
    rw [this] at hy
    injection hy with hy; subst hy; exact hx
abbrev zC : Array Value := #[.int .i64 0, .int .i64 0, .int .i64 0, .slice none 0 0, .slice none 0 0, .slice none 0 0]
/-- What the reference's Unpack tells. -/
def RUn (w : World) (xs : List Int) (e : Ending) (w' : World) : Prop := Below w.heap.size w w' ∧
  ((∃ (c : Cf) (p1 : Option Addr) (c1 : Nat) (p2 : Option Addr) (c2 : Nat) (p3 : Option Addr) (c3 : Nat), Cfg.chk c = 0 ∧ packC c = xs ∧ e = .returned (.tuple #[cfV c p1 c1 p2 c2 p3 c3, i64 0]) ∧ LieS 3 w' w'.heap.size p1 c.parts.length c1 (c.parts.map ptC) ∧ LieS 5 w' w'.heap.size p2 c.chans.length c2 (c.chans.map chC) ∧ LieS 3 w' w'.heap.size p3 c.wins.length c3 (c.wins.map wnC)) ∨
   ((∀ (c : Cf), Cfg.chk c = 0 → packC c ≠ xs) ∧ e = .returned (.tuple #[.agg zC, i64 4])))
theorem trc_list : (strOfNums [84, 82, 67, 49]).toList = [84, 82, 67, 49] := by decide +kernel
theorem one_or (xs : List Int) : ∃ (c : Cf) (V : Prop), (V → Cfg.chk c = 0 ∧ packC c = xs) ∧ (¬ V → ∀ (c' : Cf), Cfg.chk c' = 0 → packC c' ≠ xs) := by
  by_cases h : ∃ c, Cfg.chk c = 0 ∧ packC c = xs
  · obtain ⟨c, hc⟩ := h
    exact ⟨c, True, fun _ => hc, fun n => absurd trivial n⟩
  · exact ⟨⟨0, 0, 0, [], [], []⟩, False, fun n => n.elim, fun _ c' h1 h2 => h ⟨c', h1, h2⟩⟩
set_option maxHeartbeats 16000000 in
theorem runpack_says {w : World} {p : Option Addr} {n q : Nat} {xs : List Int} (L : Lie .u8 w w.heap.size p n q xs) (hb : Byt xs) (hn : n ≤ 5000) :
    Calls Tryd.prog 16 #[.slice p n q] w (RUn w xs) := by
  obtain ⟨r, hr⟩ : ∃ r, r = RUn w xs := ⟨_, rfl⟩
  rw [← hr]
  obtain ⟨c, V, hV, hNV⟩ := one_or xs
  obtain ⟨h, hh⟩ : ∃ h, w.heap.size = h := ⟨_, rfl⟩
  have HN := Lib.hid (fun (nv : ¬ V) (u : World) (b : Below h w u) => (by rw [hr]; exact ⟨by rw [hh]; exact b, .inr ⟨hNV nv, rfl⟩⟩ : r (.returned (.tuple #[.agg zC, i64 4])) u))
  have HY := Lib.hid (fun (v : V) (u : World) (b : Below h w u) (p1 : Option Addr) (c1 : Nat) (p2 : Option Addr) (c2 : Nat) (p3 : Option Addr) (c3 : Nat) (l1 : LieS 3 u u.heap.size p1 c.parts.length c1 (c.parts.map ptC)) (l2 : LieS 5 u u.heap.size p2 c.chans.length c2 (c.chans.map chC)) (l3 : LieS 3 u u.heap.size p3 c.wins.length c3 (c.wins.map wnC)) => (by rw [hr]; exact ⟨by rw [hh]; exact b, .inl ⟨c, p1, c1, p2, c2, p3, c3, (hV v).1, (hV v).2, rfl, l1, l2, l3⟩⟩ : r (.returned (.tuple #[cfV c p1 c1 p2 c2 p3 c3, i64 0])) u))
  have hpk := Lib.hid (fun (v : V) => (by rw [← (hV v).2]; unfold packC; rw [head_split]; simp only [List.append_assoc] : xs = [84, 82, 67, 49] ++ (nums [c.pages, c.major, c.switch, (c.parts.length : Int)] ++ (tP c 0 ++ nums [(headC c).sum]))))
  have hch := Lib.hid (fun (v : V) => (hV v).1)
  have hLn := L.len
  have hV8 : V → 24 ≤ n := fun v => by
    have := congrArg List.length (hpk.out v)
    simp only [List.length_append, nums_len, List.length_cons, List.length_nil] at this
    omega
  rw [hh] at L
  obtain ⟨w1, hw1⟩ : ∃ w1, w1 = w.alloc (.cells #[.int .i64 0, .int .i64 0, .int .i64 0, .slice none 0 0, .slice none 0 0, .slice none 0 0] 26) := ⟨_, rfl⟩
  have b1 : Below h w w1 := by rw [hw1]; exact (Below.refl _ _).alloc (Nat.le_of_eq hh.symm) _
  have hg1 : w1.heap.size = h + 1 := by rw [hw1, ← hh]; simp
  have hK1 : w1.heap[h]? = some (.cells #[.int .i64 0, .int .i64 0, .int .i64 0, .slice none 0 0, .slice none 0 0, .slice none 0 0] 26) := by rw [hw1, ← hh]; exact heap_alloc_new _ _
  have L1 := Lib.hid (L.kept b1 (Nat.le_refl _))
  have B1 := Lib.hid b1
  have hK := Lib.hid hK1
  have LX := Lib.hid L
  have HB := Lib.hid hb
  have hVh := Lib.hid hV
  have hNh := Lib.hid hNV
  clear hr L b1 hK1 hb hV hNV
  go_enter Tryd.func16, Tryd.ntmps16
  go_upto_region 1 with fail
  try simp only [hh]
  rw [← hw1]
  clear hw1
  by_cases k8 : n < 8
  · have k8I : (n : Int) < 8 := by omega
    have ho := Lib.hid (HN.out (fun v => by have := hV8 v; omega))
    have y0 : w1.cell? ⟨h, 0, none⟩ = some (.int .i64 0) := by rw [cell_of_row _ _ 0 _ _ _ hK.out]; rfl
    have y1 : w1.cell? ⟨h, 1, none⟩ = some (.int .i64 0) := by rw [cell_of_row _ _ 1 _ _ _ hK.out]; rfl
    have y2 : w1.cell? ⟨h, 2, none⟩ = some (.int .i64 0) := by rw [cell_of_row _ _ 2 _ _ _ hK.out]; rfl
    have y3 : w1.cell? ⟨h, 3, none⟩ = some (.slice none 0 0) := by rw [cell_of_row _ _ 3 _ _ _ hK.out]; rfl
    have y4 : w1.cell? ⟨h, 4, none⟩ = some (.slice none 0 0) := by rw [cell_of_row _ _ 4 _ _ _ hK.out]; rfl
    have y5 : w1.cell? ⟨h, 5, none⟩ = some (.slice none 0 0) := by rw [cell_of_row _ _ 5 _ _ _ hK.out]; rfl
    have f0 : w1.frozen? ⟨h, 0, none⟩ = false := by simp [World.frozen?, hK.out]
    have f1 : w1.frozen? ⟨h, 1, none⟩ = false := by simp [World.frozen?, hK.out]
    have f2 : w1.frozen? ⟨h, 2, none⟩ = false := by simp [World.frozen?, hK.out]
    have f3 : w1.frozen? ⟨h, 3, none⟩ = false := by simp [World.frozen?, hK.out]
    have f4 : w1.frozen? ⟨h, 4, none⟩ = false := by simp [World.frozen?, hK.out]
    have f5 : w1.frozen? ⟨h, 5, none⟩ = false := by simp [World.frozen?, hK.out]
    clear hV8 HN HY hpk hch L1 hVh hNh
    go_wp2
    clear y0 y1 y2 y3 y4 y5 f0 f1 f2 f3 f4 f5
    obtain ⟨w9, hw9⟩ : ∃ w9, w9 = ((((((w1.setCell ⟨h, 0, none⟩ (.int .i64 0)).setCell ⟨h, 1, none⟩ (.int .i64 0)).setCell ⟨h, 2, none⟩ (.int .i64 0)).setCell ⟨h, 3, none⟩ (.slice none 0 0)).setCell ⟨h, 4, none⟩ (.slice none 0 0)).setCell ⟨h, 5, none⟩ (.slice none 0 0)) := ⟨_, rfl⟩
    rw [← hw9]
    have hr9 : w9.heap[h]? = some (.cells #[.int .i64 0, .int .i64 0, .int .i64 0, .slice none 0 0, .slice none 0 0, .slice none 0 0] 26) := by rw [hw9]; exact (Cfg.setCell_row (Cfg.setCell_row (Cfg.setCell_row (Cfg.setCell_row (Cfg.setCell_row (Cfg.setCell_row hK.out 0 _) 1 _) 2 _) 3 _) 4 _) 5 _)
    have ot : Oth h w1 w9 := by rw [hw9]; exact ((((((oth_set h w1 0 _).trans (oth_set h _ 1 _)).trans (oth_set h _ 2 _)).trans (oth_set h _ 3 _)).trans (oth_set h _ 4 _)).trans (oth_set h _ 5 _))
    clear hw9
    have cq0 : w9.cell? ⟨h, 0, none⟩ = some (.int .i64 0) := by rw [cell_of_row _ _ 0 _ _ _ hr9]; rfl
    have cq1 : w9.cell? ⟨h, 1, none⟩ = some (.int .i64 0) := by rw [cell_of_row _ _ 1 _ _ _ hr9]; rfl
    have cq2 : w9.cell? ⟨h, 2, none⟩ = some (.int .i64 0) := by rw [cell_of_row _ _ 2 _ _ _ hr9]; rfl
    have cq3 : w9.cell? ⟨h, 3, none⟩ = some (.slice none 0 0) := by rw [cell_of_row _ _ 3 _ _ _ hr9]; rfl
    have cq4 : w9.cell? ⟨h, 4, none⟩ = some (.slice none 0 0) := by rw [cell_of_row _ _ 4 _ _ _ hr9]; rfl
    have cq5 : w9.cell? ⟨h, 5, none⟩ = some (.slice none 0 0) := by rw [cell_of_row _ _ 5 _ _ _ hr9]; rfl
    refine bodyPost_ret (v := .tuple #[.agg #[.int .i64 0, .int .i64 0, .int .i64 0, .slice none 0 0, .slice none 0 0, .slice none 0 0], i64 4]) (by simp [results, Tryd.results16, go_sem, cq0, cq1, cq2, cq3, cq4, cq5]) rfl ?_
    exact ho.out w9 (B1.out.trans (ot.below (Nat.le_refl _) (by omega)))
  have k8I : 8 ≤ (n : Int) := by omega
  have T4 := Lib.hid (conv_lie (take_all L1.out 4 (c' := q) (by omega) (by have := L1.out.cap; omega) L1.out.nil))
  have t4 := T4.out
  have hqn : (4 : Int) ≤ (q : Int) := by have := L1.out.cap; omega
  by_cases k4 : xs.take 4 = [84, 82, 67, 49]
  rotate_left
  · have ho := Lib.hid (HN.out (fun v => k4 (by rw [hpk.out v]; rfl)))
    have hcmp : ((strOfNums (xs.take 4)).toList == [84, 82, 67, 49]) = false := by
      have := strOf_eq (byt_take HB.out 4) (ys := [84, 82, 67, 49]) (by intro x hx; simp at hx; omega)
      rw [decide_eq_false k4, trc_list] at this
      exact this
    obtain ⟨A, hA⟩ : ∃ A, strOfNums (xs.take 4) = A := ⟨_, rfl⟩
    rw [hA] at t4 hcmp
    clear hA
    have y0 : w1.cell? ⟨h, 0, none⟩ = some (.int .i64 0) := by rw [cell_of_row _ _ 0 _ _ _ hK.out]; rfl
    have y1 : w1.cell? ⟨h, 1, none⟩ = some (.int .i64 0) := by rw [cell_of_row _ _ 1 _ _ _ hK.out]; rfl
    have y2 : w1.cell? ⟨h, 2, none⟩ = some (.int .i64 0) := by rw [cell_of_row _ _ 2 _ _ _ hK.out]; rfl
    have y3 : w1.cell? ⟨h, 3, none⟩ = some (.slice none 0 0) := by rw [cell_of_row _ _ 3 _ _ _ hK.out]; rfl
    have y4 : w1.cell? ⟨h, 4, none⟩ = some (.slice none 0 0) := by rw [cell_of_row _ _ 4 _ _ _ hK.out]; rfl
    have y5 : w1.cell? ⟨h, 5, none⟩ = some (.slice none 0 0) := by rw [cell_of_row _ _ 5 _ _ _ hK.out]; rfl
    have f0 : w1.frozen? ⟨h, 0, none⟩ = false := by simp [World.frozen?, hK.out]
    have f1 : w1.frozen? ⟨h, 1, none⟩ = false := by simp [World.frozen?, hK.out]
    have f2 : w1.frozen? ⟨h, 2, none⟩ = false := by simp [World.frozen?, hK.out]
    have f3 : w1.frozen? ⟨h, 3, none⟩ = false := by simp [World.frozen?, hK.out]
    have f4 : w1.frozen? ⟨h, 4, none⟩ = false := by simp [World.frozen?, hK.out]
    have f5 : w1.frozen? ⟨h, 5, none⟩ = false := by simp [World.frozen?, hK.out]
    clear hV8 HN HY hpk hch L1 hVh hNh T4
    go_wp2
    clear y0 y1 y2 y3 y4 y5 f0 f1 f2 f3 f4 f5
    obtain ⟨w9, hw9⟩ : ∃ w9, w9 = ((((((w1.setCell ⟨h, 0, none⟩ (.int .i64 0)).setCell ⟨h, 1, none⟩ (.int .i64 0)).setCell ⟨h, 2, none⟩ (.int .i64 0)).setCell ⟨h, 3, none⟩ (.slice none 0 0)).setCell ⟨h, 4, none⟩ (.slice none 0 0)).setCell ⟨h, 5, none⟩ (.slice none 0 0)) := ⟨_, rfl⟩
    rw [← hw9]
    have hr9 : w9.heap[h]? = some (.cells #[.int .i64 0, .int .i64 0, .int .i64 0, .slice none 0 0, .slice none 0 0, .slice none 0 0] 26) := by rw [hw9]; exact (Cfg.setCell_row (Cfg.setCell_row (Cfg.setCell_row (Cfg.setCell_row (Cfg.setCell_row (Cfg.setCell_row hK.out 0 _) 1 _) 2 _) 3 _) 4 _) 5 _)
    have ot : Oth h w1 w9 := by rw [hw9]; exact ((((((oth_set h w1 0 _).trans (oth_set h _ 1 _)).trans (oth_set h _ 2 _)).trans (oth_set h _ 3 _)).trans (oth_set h _ 4 _)).trans (oth_set h _ 5 _))
    clear hw9
    have cq0 : w9.cell? ⟨h, 0, none⟩ = some (.int .i64 0) := by rw [cell_of_row _ _ 0 _ _ _ hr9]; rfl
    have cq1 : w9.cell? ⟨h, 1, none⟩ = some (.int .i64 0) := by rw [cell_of_row _ _ 1 _ _ _ hr9]; rfl
    have cq2 : w9.cell? ⟨h, 2, none⟩ = some (.int .i64 0) := by rw [cell_of_row _ _ 2 _ _ _ hr9]; rfl
    have cq3 : w9.cell? ⟨h, 3, none⟩ = some (.slice none 0 0) := by rw [cell_of_row _ _ 3 _ _ _ hr9]; rfl
    have cq4 : w9.cell? ⟨h, 4, none⟩ = some (.slice none 0 0) := by rw [cell_of_row _ _ 4 _ _ _ hr9]; rfl
    have cq5 : w9.cell? ⟨h, 5, none⟩ = some (.slice none 0 0) := by rw [cell_of_row _ _ 5 _ _ _ hr9]; rfl
    refine bodyPost_ret (v := .tuple #[.agg #[.int .i64 0, .int .i64 0, .int .i64 0, .slice none 0 0, .slice none 0 0, .slice none 0 0], i64 4]) (by simp [results, Tryd.results16, go_sem, cq0, cq1, cq2, cq3, cq4, cq5]) rfl ?_
    exact ho.out w9 (B1.out.trans (ot.below (Nat.le_refl _) (by omega)))
  have hcmp : ((strOfNums (xs.take 4)).toList == [84, 82, 67, 49]) = true := by
    have := strOf_eq (byt_take HB.out 4) (ys := [84, 82, 67, 49]) (by intro x hx; simp at hx; omega)
    rw [decide_eq_true k4, trc_list] at this
    exact this
  obtain ⟨A, hA⟩ : ∃ A, strOfNums (xs.take 4) = A := ⟨_, rfl⟩
  rw [hA] at t4 hcmp
  clear hA T4 k4
  have e1 : IntKind.i64.wrap ((n : Int) - 4) = (n : Int) - 4 := by rw [IntKind.wrap_i64]; omega
  have i0 : 0 ≤ (n : Int) - 4 := by omega
  have i1 : (n : Int) - 4 ≤ (q : Int) := by have := L1.out.cap; omega
  have i2 : ((n : Int) - 4).toNat = n - 4 := by omega
  obtain ⟨n4, hn4⟩ : ∃ n4, n - 4 = n4 := ⟨_, rfl⟩
  rw [hn4] at i2
  have hn4' : n = n4 + 4 := by omega
  replace hn4' := Lib.hid hn4'
  clear hn4
  go_upto_region 4 with fail
  obtain ⟨g, hg⟩ : ∃ g, h + 1 = g := ⟨_, rfl⟩
  obtain ⟨h2, hh2⟩ : ∃ h2, g + 1 = h2 := ⟨_, rfl⟩
  obtain ⟨ys, hys⟩ : ∃ ys, xs.take n4 = ys := ⟨_, rfl⟩
  have HYs := Lib.hid (by rw [← hys]; exact byt_take HB.out n4 : Byt ys)
  obtain ⟨pb, po, rfl, hpbl, -⟩ := L1.out.at_ (by omega)
  obtain ⟨w2, hw2⟩ : ∃ w2, w2 = w1.alloc (.cells #[.slice (some ⟨pb, po, none⟩) n4 q, .int .i64 4, .bool false] 76) := ⟨_, rfl⟩
  have b12 : Below w1.heap.size w1 w2 := by rw [hw2]; exact below_alloc _ _
  have hg2 : w2.heap.size = h2 := by rw [hw2]; simp [hg1]; omega
  have R2 : Rr h w2 g (some ⟨pb, po, none⟩) n4 q ys 4 false := ⟨by rw [hw2, ← hg, ← hg1]; exact heap_alloc_new _ _, by rw [← hys]; exact (take_all L1.out n4 (by have := hn4'.out; omega) (by have := hn4'.out; have := L1.out.cap; omega) L1.out.nil).kept (b12.mono (by omega)) (Nat.le_refl _), by omega, by have := hn4'.out; omega⟩
  have K2 := (b12.block h (by omega)).trans hK.out
  have B2 := B1.out.trans (b12.mono (by omega))
  have KY := Lib.hid (fun (v : V) => (by
    have e := hpk.out v
    have hl := congrArg List.length e
    rw [← List.append_assoc, ← List.append_assoc] at e
    simp only [List.length_append, nums_len, List.length_cons, List.length_nil] at hl
    have e2 : ys = ([84, 82, 67, 49] ++ nums [c.pages, c.major, c.switch, (c.parts.length : Int)]) ++ tP c 0 := by
      rw [← hys, e]
      exact List.take_left' (by simp only [List.length_append, nums_len, List.length_cons, List.length_nil]; have := hn4'.out; omega)
    rw [e2, List.append_assoc]
    rfl : ys.drop 4 = nums [c.pages, c.major, c.switch, (c.parts.length : Int)] ++ tP c 0))
  obtain ⟨w3, hw3⟩ : ∃ w3, w3 = w2.alloc (.cells #[.int .i64 0, .int .i64 0, .int .i64 0, .slice none 0 0, .slice none 0 0, .slice none 0 0] 26) := ⟨_, rfl⟩
  have b23 : Below w2.heap.size w2 w3 := by rw [hw3]; exact below_alloc _ _
  have hgh2 : g < h2 := by omega
  have R3 := Lib.hid (R2.kept b23)
  have K3 := Lib.hid ((b23.block h (by omega)).trans K2)
  have B3 := Lib.hid (B2.trans (b23.mono (by omega)))
  have C3 := Lib.hid (by rw [hw3]; exact cg_new hg2 0 0 0 : Cg h2 w3 h2 ⟨0, 0, 0, [], [], []⟩ (.slice none 0 0) (.slice none 0 0) (.slice none 0 0))
  have KN3 := Lib.hid (fun (v : V) => And.intro (rfl : false = false) (KY.out v))
  have hok := Lib.hid (fun (v : V) => nums_ok (hch.out v))
  have hn5 : n4 ≤ 5000 := by have := hn4'.out; omega
  have hn4q : n4 + 4 ≤ q := by have := hn4'.out; have := L1.out.cap; omega
  go_upto_region 5 with fail
  try simp only [hg1]
  try rw [hg]
  rw [← hw2]
  try rw [hg2]
  rw [← hw3]
  try simp only [hh2]
  have hhg : h < g := by omega
  have hhh2 : h < h2 := by omega
  clear hw2 hw3 b12 b23 R2 K2 B2 KY hys hpk L1 hK B1 hg1 hg2 hg hh2
  have HC3 := Lib.hid (un_says R3.out HYs.out (by omega) (c.pages) ([c.major, c.switch, (c.parts.length : Int)]) (tP c 0) KN3.out (fun v => (hok.out v).1.1))
  go_upto_region 6 with (go_at_call 33; (with_reducible refine HC3.out.mono ?_); rintro e t4 ⟨v4, a4, bad4, rfl, r', o', vb', kn'⟩; have RT := Lib.hid r'; have OT := Lib.hid o'; have VB4 := Lib.hid vb'; have KV4 := Lib.hid (fun v => (kn' v).1); have KN4 := Lib.hid (fun v => (kn' v).2); have CT := Lib.hid (C3.out.oth o' hgh2); clear r' o' vb' kn'; have zc := CT.out.at 0 _ rfl; have zf := CT.out.fr 0)
  have B4 := Lib.hid (B3.out.trans ((OT.out.below (by omega) (by have := R3.out.lt; omega)).trans (below_setCell (Below.refl h t4) h2 0 (by omega) (i64 v4))))
  have K4 := Lib.hid (((below_setCell (Below.refl h2 t4) h2 0 (Nat.le_refl _) (i64 v4)).block h (by omega)).trans (kc_oth K3.out OT.out (by omega)))
  have R4 := Lib.hid (RT.out.keptB (below_setCell (Below.refl h2 t4) h2 0 (Nat.le_refl _) (i64 v4)) hgh2)
  have C4' : Cg h2 (t4.setCell ⟨h2, 0, none⟩ (i64 v4)) h2 ⟨v4, 0, 0, [], [], []⟩ (.slice none 0 0) (.slice none 0 0) (.slice none 0 0) := CT.out.num ⟨v4, 0, 0, [], [], []⟩ 0 (i64 v4) rfl rfl rfl rfl
  have C4 := Lib.hid C4'
  obtain ⟨u4, hu4⟩ : ∃ u, u = t4.setCell ⟨h2, 0, none⟩ (i64 v4) := ⟨_, rfl⟩
  rw [← hu4] at B4 K4 R4 C4 ⊢
  clear hu4 C4' CT OT RT zc zf HC3 B3 K3 R3 C3 KN3
  have HC4 := Lib.hid (un_says R4.out HYs.out (by omega) (c.major) ([c.switch, (c.parts.length : Int)]) (tP c 0) KN4.out (fun v => (hok.out v).1.2.1))
  go_upto_region 7 with (go_at_call 33; (with_reducible refine HC4.out.mono ?_); rintro e t5 ⟨v5, a5, bad5, rfl, r', o', vb', kn'⟩; have RT := Lib.hid r'; have OT := Lib.hid o'; have VB5 := Lib.hid vb'; have KV5 := Lib.hid (fun v => (kn' v).1); have KN5 := Lib.hid (fun v => (kn' v).2); have CT := Lib.hid (C4.out.oth o' hgh2); clear r' o' vb' kn'; have zc := CT.out.at 1 _ rfl; have zf := CT.out.fr 1)
  have B5 := Lib.hid (B4.out.trans ((OT.out.below (by omega) (by have := R4.out.lt; omega)).trans (below_setCell (Below.refl h t5) h2 1 (by omega) (i64 v5))))
  have K5 := Lib.hid (((below_setCell (Below.refl h2 t5) h2 1 (Nat.le_refl _) (i64 v5)).block h (by omega)).trans (kc_oth K4.out OT.out (by omega)))
  have R5 := Lib.hid (RT.out.keptB (below_setCell (Below.refl h2 t5) h2 1 (Nat.le_refl _) (i64 v5)) hgh2)
  have C5' : Cg h2 (t5.setCell ⟨h2, 1, none⟩ (i64 v5)) h2 ⟨v4, v5, 0, [], [], []⟩ (.slice none 0 0) (.slice none 0 0) (.slice none 0 0) := CT.out.num ⟨v4, v5, 0, [], [], []⟩ 1 (i64 v5) rfl rfl rfl rfl
  have C5 := Lib.hid C5'
  obtain ⟨u5, hu5⟩ : ∃ u, u = t5.setCell ⟨h2, 1, none⟩ (i64 v5) := ⟨_, rfl⟩
  rw [← hu5] at B5 K5 R5 C5 ⊢
  clear hu5 C5' CT OT RT zc zf HC4 B4 K4 R4 C4 KN4
  have HC5 := Lib.hid (un_says R5.out HYs.out (by omega) (c.switch) ([(c.parts.length : Int)]) (tP c 0) KN5.out (fun v => (hok.out v).1.2.2))
  go_upto_region 8 with (go_at_call 33; (with_reducible refine HC5.out.mono ?_); rintro e t6 ⟨v6, a6, bad6, rfl, r', o', vb', kn'⟩; have RT := Lib.hid r'; have OT := Lib.hid o'; have VB6 := Lib.hid vb'; have KV6 := Lib.hid (fun v => (kn' v).1); have KN6 := Lib.hid (fun v => (kn' v).2); have CT := Lib.hid (C5.out.oth o' hgh2); clear r' o' vb' kn'; have zc := CT.out.at 2 _ rfl; have zf := CT.out.fr 2)
  have B6 := Lib.hid (B5.out.trans ((OT.out.below (by omega) (by have := R5.out.lt; omega)).trans (below_setCell (Below.refl h t6) h2 2 (by omega) (i64 v6))))
  have K6 := Lib.hid (((below_setCell (Below.refl h2 t6) h2 2 (Nat.le_refl _) (i64 v6)).block h (by omega)).trans (kc_oth K5.out OT.out (by omega)))
  have R6 := Lib.hid (RT.out.keptB (below_setCell (Below.refl h2 t6) h2 2 (Nat.le_refl _) (i64 v6)) hgh2)
  have C6' : Cg h2 (t6.setCell ⟨h2, 2, none⟩ (i64 v6)) h2 ⟨v4, v5, v6, [], [], []⟩ (.slice none 0 0) (.slice none 0 0) (.slice none 0 0) := CT.out.num ⟨v4, v5, v6, [], [], []⟩ 2 (i64 v6) rfl rfl rfl rfl
  have C6 := Lib.hid C6'
  obtain ⟨u6, hu6⟩ : ∃ u, u = t6.setCell ⟨h2, 2, none⟩ (i64 v6) := ⟨_, rfl⟩
  rw [← hu6] at B6 K6 R6 C6 ⊢
  clear hu6 C6' CT OT RT zc zf HC5 B5 K5 R5 C5 KN5
  have HC6 := Lib.hid (un_says R6.out HYs.out (by omega) (c.parts.length : Int) [] (tP c 0) KN6.out (fun v => by have := (hok.out v).2.1.1; omega))
  go_upto_region 9 with (go_at_call 33; (with_reducible refine HC6.out.mono ?_); rintro e t7 ⟨v7, a7, bad7, rfl, r', o', vb', kn'⟩; have RT := Lib.hid r'; have OT := Lib.hid o'; have VB7 := Lib.hid vb'; have KV7 := Lib.hid (fun v => (kn' v).1); have KN7 := Lib.hid (fun v => (kn' v).2); clear r' o' vb' kn')
  have C7 := Lib.hid (C6.out.oth OT.out hgh2)
  have K7 := Lib.hid (kc_oth K6.out OT.out (by omega))
  have B7 := Lib.hid (B6.out.trans (OT.out.below (by omega) (by have := R6.out.lt; omega)))
  have R7 := Lib.hid RT.out
  clear HC6 OT RT C6 K6 B6 R6 KN6
  go_cut [7] from 300 (fun i wx => i = .int .i64 0 ∧ wx = t7)
  case first => go_wp2; go_meet; case rel => exact ⟨rfl, rfl⟩
  case rest =>
  obtain ⟨rfl, rfl⟩ := hcut
  refine ‹∀ (a : Act) (w : World), Code.wp _ _ _ a w → _› _ _ ?_
  go_cut [] from 300 (fun wx => ∃ (l : List Pt) (a : Nat) (bad : Bool) (vp : Value), Rr h wx g (some ⟨pb, po, none⟩) n4 q ys a bad ∧ Cg h2 wx h2 ⟨v4, v5, v6, l, [], []⟩ vp (.slice none 0 0) (.slice none 0 0) ∧ wx.heap[h]? = some (.cells #[.int .i64 0, .int .i64 0, .int .i64 0, .slice none 0 0, .slice none 0 0, .slice none 0 0] 26) ∧ Below h w wx ∧ l.length ≤ 9 ∧ WfL l ∧ (V → bad = false ∧ ys.drop a = nums [(c.chans.length : Int)] ++ tC c 0 ∧ l = c.parts))
  case first =>
    rename World => wS
    go_wp2
    go_loopw [7, 8, 9] (fun i _ _ wr => ∃ (k a : Nat) (bad : Bool) (l : List Pt) (vp : Value), k ≤ 9 ∧ i = .int .i64 k ∧ l.length = k ∧ Rr h wr g (some ⟨pb, po, none⟩) n4 q ys a bad ∧ Cg h2 wr h2 ⟨v4, v5, v6, l, [], []⟩ vp (.slice none 0 0) (.slice none 0 0) ∧ wr.heap[h]? = some (.cells #[.int .i64 0, .int .i64 0, .int .i64 0, .slice none 0 0, .slice none 0 0, .slice none 0 0] 26) ∧ Below h w wr ∧ WfL l ∧ (V → bad = false ∧ ys.drop a = tP c k ∧ l = c.parts.take k ∧ k ≤ c.parts.length)) (fun i _ _ _ => 9 - (intOf i).toNat)
    case atStart => exact ⟨0, _, _, [], _, by omega, rfl, rfl, R7.out, C7.out, K7.out, B7.out, fun k x hx => by simp at hx, fun v => ⟨(KN7.out v).1, by have := (KN7.out v).2; exact this, rfl, by omega⟩⟩
    case round =>
      obtain ⟨k, a, bad, l, vp, hk9, rfl, hlk, r0, c0, k0, b0, wl, kn⟩ := hrel
      clear R7 C7 K7 B7 KN7
      have hEX := Lib.hid (fun (hv : V → k = c.parts.length) => (⟨l, a, bad, vp, r0, c0, k0, b0, by omega, wl, fun v => by
        obtain ⟨q1, q2, q3, q4⟩ := kn v
        have e := hv v
        subst e
        exact ⟨q1, by rw [q2, tP_end], by rw [q3, List.take_length]⟩⟩ : ∃ (l : List Pt) (a : Nat) (bad : Bool) (vp : Value), Rr h wr g (some ⟨pb, po, none⟩) n4 q ys a bad ∧ Cg h2 wr h2 ⟨v4, v5, v6, l, [], []⟩ vp (.slice none 0 0) (.slice none 0 0) ∧ wr.heap[h]? = some (.cells #[.int .i64 0, .int .i64 0, .int .i64 0, .slice none 0 0, .slice none 0 0, .slice none 0 0] 26) ∧ Below h w wr ∧ l.length ≤ 9 ∧ WfL l ∧ (V → bad = false ∧ ys.drop a = nums [(c.chans.length : Int)] ++ tC c 0 ∧ l = c.parts)))
      have x2 := r0.c2
      have vb7 := VB7.out
      have R0 := Lib.hid r0
      have C0 := Lib.hid c0
      have K0 := Lib.hid k0
      have B0 := Lib.hid b0
      have WL := Lib.hid wl
      have KN := Lib.hid kn
      have HLK := Lib.hid hlk
      clear r0 c0 k0 b0 wl kn hlk
      by_cases k1 : (k : Int) < v7
      rotate_left
      · have ho := Lib.hid (hEX.out (fun v => by have := KV7.out v; have := (KN.out v).2.2.2; omega))
        clear hEX R0 C0 K0 B0 WL KN HLK
        go_wp2
        go_meet
        case rel => exact ho.out
      cases bad with
      | true =>
        have ho := Lib.hid (hEX.out (fun v => by have := (KN.out v).1; cases this))
        clear hEX R0 C0 K0 B0 WL KN HLK
        go_wp2
        go_meet
        case rel => exact ho.out
      | false =>
      by_cases k9 : k < 9
      rotate_left
      · have ho := Lib.hid (hEX.out (fun v => by have := (KN.out v).2.2.2; have := (hok.out v).2.1.1; omega))
        have k9I : ¬ (k : Int) < 9 := by omega
        clear hEX R0 C0 K0 B0 WL KN HLK
        go_wp2
        go_meet
        case rel => exact ho.out
      have k9I : (k : Int) < 9 := by omega
      have hkl := Lib.hid (fun (v : V) => (by have := KV7.out v; omega : k < c.parts.length))
      have hpo := Lib.hid (fun (v : V) => (hok.out v).2.2.1 k (hkl.out v))
      have HC0 := Lib.hid (un_says R0.out HYs.out (by omega) ((ptAt c k).name.size : Int) [(ptAt c k).pages, (ptAt c k).act] (nameL (ptAt c k).name ++ tP c (k + 1)) (fun v => ⟨rfl, by rw [(KN.out v).2.1, tP_succ c k (hkl.out v)]⟩) (fun v => by have := (hpo.out v).1; omega))
      go_upto_region 13 with (go_at_call 33; (with_reducible refine HC0.out.mono ?_); rintro e t8 ⟨v8, a8, bad8, rfl, r', o', vb', kn'⟩; have RT := Lib.hid r'; have OT := Lib.hid o'; have VB8 := Lib.hid vb'; have KV8 := Lib.hid (fun v => (kn' v).1); have KN8 := Lib.hid (fun v => (kn' v).2); clear r' o' vb' kn')
      have O8 := Lib.hid OT.out
      have R8 := Lib.hid RT.out
      clear HC0 OT RT x2
      obtain ⟨gx, hgx⟩ : ∃ gx, t8.heap.size = gx := ⟨_, rfl⟩
      obtain ⟨t9, ht9⟩ : ∃ t9, t9 = t8.alloc (.cells #[.string ⟨#[]⟩, .int .i64 0, .int .i64 0] 47) := ⟨_, rfl⟩
      have b89 : Below t8.heap.size t8 t9 := by rw [ht9]; exact below_alloc _ _
      have hgg : h2 < gx := by have := C0.out.2.lt; have := O8.out.size; omega
      have hwx : wr.heap.size ≤ gx := by have := O8.out.size; omega
      have P9 := Lib.hid (by rw [ht9, ← hgx]; exact heap_alloc_new _ _ : t9.heap[gx]? = some (.cells #[.string ⟨#[]⟩, .int .i64 0, .int .i64 0] 47))
      have R9 := Lib.hid (R8.out.kept b89)
      have O9 := Lib.hid (O8.out.past b89 (by omega))
      go_upto_region 14 with fail
      try rw [hgx]
      rw [← ht9]
      clear ht9 b89 R8 O8
      have HC9 := Lib.hid (un_says R9.out HYs.out (by omega) (ptAt c k).pages [(ptAt c k).act] (nameL (ptAt c k).name ++ tP c (k + 1)) KN8.out (fun v => (hpo.out v).2.1))
      have PA := Lib.hid (fun (u : World) (o : Oth g t9 u) => (kc_oth P9.out o (by omega)))
      go_upto_region 15 with (go_at_call 33; (with_reducible refine HC9.out.mono ?_); rintro e t10 ⟨v10, a10, bad10, rfl, r', o', vb', kn'⟩; have RT := Lib.hid r'; have OT := Lib.hid o'; have VB10 := Lib.hid vb'; have KV10 := Lib.hid (fun v => (kn' v).1); have KN10 := Lib.hid (fun v => (kn' v).2); clear r' o' vb' kn'; have pz := PA.out _ OT.out; have y1 : t10.cell? ⟨gx, 1, none⟩ = some (.int .i64 0) := (by rw [cell_of_row _ _ 1 _ _ _ pz]; rfl); have f1 : t10.frozen? ⟨gx, 1, none⟩ = false := (by simp [World.frozen?, pz]))
      have P10 := Lib.hid (by have := Cfg.setCell_row pz 1 (i64 v10); exact this : (t10.setCell ⟨gx, 1, none⟩ (i64 v10)).heap[gx]? = some (.cells #[.string ⟨#[]⟩, .int .i64 v10, .int .i64 0] 47))
      have bs10 := below_setCell (Below.refl gx t10) gx 1 (Nat.le_refl _) (i64 v10)
      have R10 := Lib.hid (RT.out.keptB bs10 (by omega))
      have O10 := Lib.hid ((O9.out.trans OT.out).past bs10 (by omega))
      obtain ⟨u10, hu10⟩ : ∃ u, u = t10.setCell ⟨gx, 1, none⟩ (i64 v10) := ⟨_, rfl⟩
      rw [← hu10] at P10 R10 O10 ⊢
      clear hu10 bs10 pz y1 f1 HC9 PA OT RT R9 O9 P9 KN8
      have HC10 := Lib.hid (un_says R10.out HYs.out (by omega) (ptAt c k).act [] (nameL (ptAt c k).name ++ tP c (k + 1)) KN10.out (fun v => (hpo.out v).2.2))
      have PA := Lib.hid (fun (u : World) (o : Oth g u10 u) => (kc_oth P10.out o (by omega)))
      go_upto_region 16 with (go_at_call 33; (with_reducible refine HC10.out.mono ?_); rintro e t11 ⟨v11, a11, bad11, rfl, r', o', vb', kn'⟩; have RT := Lib.hid r'; have OT := Lib.hid o'; have VB11 := Lib.hid vb'; have KV11 := Lib.hid (fun v => (kn' v).1); have KN11 := Lib.hid (fun v => (kn' v).2); clear r' o' vb' kn'; have pz := PA.out _ OT.out; have y1 : t11.cell? ⟨gx, 2, none⟩ = some (.int .i64 0) := (by rw [cell_of_row _ _ 2 _ _ _ pz]; rfl); have f1 : t11.frozen? ⟨gx, 2, none⟩ = false := (by simp [World.frozen?, pz]))
      have P11 := Lib.hid (by have := Cfg.setCell_row pz 2 (i64 v11); exact this : (t11.setCell ⟨gx, 2, none⟩ (i64 v11)).heap[gx]? = some (.cells #[.string ⟨#[]⟩, .int .i64 v10, .int .i64 v11] 47))
      have bs11 := below_setCell (Below.refl gx t11) gx 2 (Nat.le_refl _) (i64 v11)
      have R11 := Lib.hid (RT.out.keptB bs11 (by omega))
      have O11 := Lib.hid ((O10.out.trans OT.out).past bs11 (by omega))
      obtain ⟨u11, hu11⟩ : ∃ u, u = t11.setCell ⟨gx, 2, none⟩ (i64 v11) := ⟨_, rfl⟩
      rw [← hu11] at P11 R11 O11 ⊢
      clear hu11 bs11 pz y1 f1 HC10 PA OT RT R10 O10 P10 KN10
      have hle := R11.out.le
      have vb8 := VB8.out
      have e11 : IntKind.i64.wrap ((n4 : Int) - (a11 : Int)) = (n4 : Int) - (a11 : Int) := by rw [IntKind.wrap_i64]; omega
      have hS := Lib.hid (fun u (hu : Below u11.heap.size u11 u) => (⟨(R11.out.kept hu).c0, (R11.out.kept hu).c1⟩ : (fun u => u.cell? ⟨g, 0, none⟩ = some (.slice (some ⟨pb, po, none⟩) n4 q) ∧ u.cell? ⟨g, 1, none⟩ = some (i64 a11)) u))
      have hdr : Below u11.heap.size u11 u11.drew := (Below.refl _ _).drew
      have R12 := Lib.hid (R11.out.kept hdr)
      have O12 := Lib.hid (O11.out.past hdr (by have := O11.out.size; omega))
      have P12 := Lib.hid (show u11.drew.heap[gx]? = some (.cells #[.string ⟨#[]⟩, .int .i64 v10, .int .i64 v11] 47) from P11.out)
      by_cases kb : v8 > (n4 : Int) - (a11 : Int)
      · have rows16 := True.intro
        refine wp_region_held_drew (S := (fun u => u.cell? ⟨g, 0, none⟩ = some (.slice (some ⟨pb, po, none⟩) n4 q) ∧ u.cell? ⟨g, 1, none⟩ = some (i64 a11))) (by kernel_rfl) ?_ (fun hH0 => ?_)
        · ((try dsimp only); (first | assumption | exact hS.out _ (Below.refl _ _) | exact hS.out _ (Below.refl _ _).drew))
        refine wpAnyH_take (i := 0) (oi := { dst := some 68, op := Go.Op.move (Go.Operand.tmp 8), type := 3, pos := "config.go:149", after := #[], guard := none }) (v := ?_) rfl (by kernel_rfl) (by kernel_rfl) (by kernel_rfl) (fun _ _ _ h => h) (Or.inl ⟨by rfl, ?_⟩) (by assumption) ?_
        rotate_left
        · ((intro w hSw; (try dsimp only at hSw); go_simp) <;> (with_reducible rfl))
        try simp only [Act.put, List.setIfInBounds_toArray, List.set_cons_zero, List.set_cons_succ]
        refine wpAnyH_take (i := 1) (oi := { dst := some 69, op := Go.Op.move (Go.Operand.tmp 4), type := 74, pos := "config.go:149", after := #[], guard := none }) (v := ?_) rfl (by kernel_rfl) (by kernel_rfl) (by kernel_rfl) (fun _ _ _ h => h) (Or.inl ⟨by rfl, ?_⟩) (by assumption) ?_
        rotate_left
        · ((intro w hSw; (try dsimp only at hSw); go_simp) <;> (with_reducible rfl))
        try simp only [Act.put, List.setIfInBounds_toArray, List.set_cons_zero, List.set_cons_succ]
        refine wpAnyH_take (i := 2) (oi := { dst := some 70, op := Go.Op.nilCheck (Go.Operand.tmp 69), type := 0, pos := "config.go:149", after := #[{ on := 1, ground := Go.Ground.data }], guard := none }) (v := ?_) rfl (by kernel_rfl) (by kernel_rfl) (by kernel_rfl) (fun _ _ _ h => h) (Or.inl ⟨by rfl, ?_⟩) (by assumption) ?_
        rotate_left
        · ((intro w hSw; (try dsimp only at hSw); go_simp) <;> (with_reducible rfl))
        try simp only [Act.put, List.setIfInBounds_toArray, List.set_cons_zero, List.set_cons_succ]
        refine wpAnyH_take (i := 3) (oi := { dst := some 71, op := Go.Op.fieldAddr 76 (Go.Operand.tmp 70) 0, type := 0, pos := "config.go:149", after := #[{ on := 2, ground := Go.Ground.data }], guard := none }) (v := ?_) rfl (by kernel_rfl) (by kernel_rfl) (by kernel_rfl) (fun _ _ _ h => h) (Or.inl ⟨by rfl, ?_⟩) (by assumption) ?_
        rotate_left
        · ((intro w hSw; (try dsimp only at hSw); go_simp) <;> (with_reducible rfl))
        try simp only [Act.put, List.setIfInBounds_toArray, List.set_cons_zero, List.set_cons_succ]
        refine wpAnyH_take (i := 4) (oi := { dst := some 72, op := Go.Op.load 32 (Go.Operand.tmp 71), type := 32, pos := "config.go:149", after := #[{ on := 3, ground := Go.Ground.data }], guard := none }) (v := ?_) rfl (by kernel_rfl) (by kernel_rfl) (by kernel_rfl) (fun _ _ _ h => h) (Or.inl ⟨by rfl, ?_⟩) (by assumption) ?_
        rotate_left
        · ((intro w hSw; (try dsimp only at hSw); go_simp) <;> (with_reducible rfl))
        try simp only [Act.put, List.setIfInBounds_toArray, List.set_cons_zero, List.set_cons_succ]
        refine wpAnyH_take (i := 5) (oi := { dst := some 73, op := Go.Op.call { callee := Go.Callee.builtin Go.Builtin.len, args := #[Go.Operand.tmp 72], argTypes := #[32] }, type := 3, pos := "config.go:149", after := #[{ on := 4, ground := Go.Ground.data }], guard := none }) (v := ?_) rfl (by kernel_rfl) (by kernel_rfl) (by kernel_rfl) (fun _ _ _ h => h) (Or.inl ⟨by rfl, ?_⟩) (by assumption) ?_
        rotate_left
        · ((intro w hSw; (try dsimp only at hSw); go_simp) <;> (with_reducible rfl))
        try simp only [Act.put, List.setIfInBounds_toArray, List.set_cons_zero, List.set_cons_succ]
        refine wpAnyH_take (i := 6) (oi := { dst := some 74, op := Go.Op.move (Go.Operand.tmp 4), type := 74, pos := "config.go:149", after := #[], guard := none }) (v := ?_) rfl (by kernel_rfl) (by kernel_rfl) (by kernel_rfl) (fun _ _ _ h => h) (Or.inl ⟨by rfl, ?_⟩) (by assumption) ?_
        rotate_left
        · ((intro w hSw; (try dsimp only at hSw); go_simp) <;> (with_reducible rfl))
        try simp only [Act.put, List.setIfInBounds_toArray, List.set_cons_zero, List.set_cons_succ]
        refine wpAnyH_take (i := 7) (oi := { dst := some 75, op := Go.Op.nilCheck (Go.Operand.tmp 74), type := 0, pos := "config.go:149", after := #[{ on := 6, ground := Go.Ground.data }], guard := none }) (v := ?_) rfl (by kernel_rfl) (by kernel_rfl) (by kernel_rfl) (fun _ _ _ h => h) (Or.inl ⟨by rfl, ?_⟩) (by assumption) ?_
        rotate_left
        · ((intro w hSw; (try dsimp only at hSw); go_simp) <;> (with_reducible rfl))
        try simp only [Act.put, List.setIfInBounds_toArray, List.set_cons_zero, List.set_cons_succ]
        refine wpAnyH_take (i := 8) (oi := { dst := some 76, op := Go.Op.fieldAddr 76 (Go.Operand.tmp 75) 1, type := 0, pos := "config.go:149", after := #[{ on := 7, ground := Go.Ground.data }], guard := none }) (v := ?_) rfl (by kernel_rfl) (by kernel_rfl) (by kernel_rfl) (fun _ _ _ h => h) (Or.inl ⟨by rfl, ?_⟩) (by assumption) ?_
        rotate_left
        · ((intro w hSw; (try dsimp only at hSw); go_simp) <;> (with_reducible rfl))
        try simp only [Act.put, List.setIfInBounds_toArray, List.set_cons_zero, List.set_cons_succ]
        refine wpAnyH_take (i := 9) (oi := { dst := some 77, op := Go.Op.load 3 (Go.Operand.tmp 76), type := 3, pos := "config.go:149", after := #[{ on := 8, ground := Go.Ground.data }], guard := none }) (v := ?_) rfl (by kernel_rfl) (by kernel_rfl) (by kernel_rfl) (fun _ _ _ h => h) (Or.inl ⟨by rfl, ?_⟩) (by assumption) ?_
        rotate_left
        · ((intro w hSw; (try dsimp only at hSw); go_simp) <;> (with_reducible rfl))
        try simp only [Act.put, List.setIfInBounds_toArray, List.set_cons_zero, List.set_cons_succ]
        refine wpAnyH_take (i := 10) (oi := { dst := some 78, op := Go.Op.binOp Go.BinOp.sub 3 (Go.Operand.tmp 73) (Go.Operand.tmp 77) 3, type := 3, pos := "config.go:149", after := #[{ on := 5, ground := Go.Ground.data }, { on := 9, ground := Go.Ground.data }], guard := none }) (v := ?_) rfl (by kernel_rfl) (by kernel_rfl) (by kernel_rfl) (fun _ _ _ h => h) (Or.inl ⟨by rfl, ?_⟩) (by assumption) ?_
        rotate_left
        · ((intro w hSw; (try dsimp only at hSw); go_simp) <;> (with_reducible rfl))
        try simp only [Act.put, List.setIfInBounds_toArray, List.set_cons_zero, List.set_cons_succ]
        refine wpAnyH_take (i := 11) (oi := { dst := some 79, op := Go.Op.binOp Go.BinOp.gtr 3 (Go.Operand.tmp 68) (Go.Operand.tmp 78) 3, type := 4, pos := "config.go:149", after := #[{ on := 0, ground := Go.Ground.data }, { on := 10, ground := Go.Ground.data }], guard := none }) (v := ?_) rfl (by kernel_rfl) (by kernel_rfl) (by kernel_rfl) (fun _ _ _ h => h) (Or.inl ⟨by rfl, ?_⟩) (by assumption) ?_
        rotate_left
        · ((intro w hSw; (try dsimp only at hSw); go_simp) <;> (with_reducible rfl))
        try simp only [Act.put, List.setIfInBounds_toArray, List.set_cons_zero, List.set_cons_succ]
        refine wpAnyH_done (by kernel_rfl) ?_ _
        have z2 := R12.out.c2
        have f2 := R12.out.fr 2
        have bs := below_setC (Below.refl g u11.drew) g 2 (Nat.le_refl _) (.bool true)
        have os := O12.out.trans (oth_set g u11.drew 2 (.bool true))
        have ho := Lib.hid (⟨l, a11, true, vp, R12.out.set2, C0.out.oth os hgh2, kc_oth K0.out os (by omega), B0.out.trans (os.below (by omega) (by have := R0.out.lt; omega)), by have := HLK.out; omega, WL.out, fun v => by
          exfalso
          have q1 := (KN11.out v).2
          have hl := congrArg List.length q1
          have e8 := KV8.out v
          rw [List.length_drop, R11.out.lie.len, List.length_append, List.length_append, nameL_len] at hl
          omega⟩ : ∃ (l : List Pt) (a : Nat) (bad : Bool) (vp : Value), Rr h (u11.drew.setCell ⟨g, 2, none⟩ (.bool true)) g (some ⟨pb, po, none⟩) n4 q ys a bad ∧ Cg h2 (u11.drew.setCell ⟨g, 2, none⟩ (.bool true)) h2 ⟨v4, v5, v6, l, [], []⟩ vp (.slice none 0 0) (.slice none 0 0) ∧ (u11.drew.setCell ⟨g, 2, none⟩ (.bool true)).heap[h]? = some (.cells #[.int .i64 0, .int .i64 0, .int .i64 0, .slice none 0 0, .slice none 0 0, .slice none 0 0] 26) ∧ Below h w (u11.drew.setCell ⟨g, 2, none⟩ (.bool true)) ∧ l.length ≤ 9 ∧ WfL l ∧ (V → bad = false ∧ ys.drop a = nums [(c.chans.length : Int)] ++ tC c 0 ∧ l = c.parts))
        clear hS R11 O11 P11 R12 O12 P12 hEX C0 K0 B0 WL KN HLK R0 os bs
        go_wp2
        go_meet
        case rel => exact ho.out
      · have rows16 := True.intro
        refine wp_region_held_drew (S := (fun u => u.cell? ⟨g, 0, none⟩ = some (.slice (some ⟨pb, po, none⟩) n4 q) ∧ u.cell? ⟨g, 1, none⟩ = some (i64 a11))) (by kernel_rfl) ?_ (fun hH0 => ?_)
        · ((try dsimp only); (first | assumption | exact hS.out _ (Below.refl _ _) | exact hS.out _ (Below.refl _ _).drew))
        refine wpAnyH_take (i := 0) (oi := { dst := some 68, op := Go.Op.move (Go.Operand.tmp 8), type := 3, pos := "config.go:149", after := #[], guard := none }) (v := ?_) rfl (by kernel_rfl) (by kernel_rfl) (by kernel_rfl) (fun _ _ _ h => h) (Or.inl ⟨by rfl, ?_⟩) (by assumption) ?_
        rotate_left
        · ((intro w hSw; (try dsimp only at hSw); go_simp) <;> (with_reducible rfl))
        try simp only [Act.put, List.setIfInBounds_toArray, List.set_cons_zero, List.set_cons_succ]
        refine wpAnyH_take (i := 1) (oi := { dst := some 69, op := Go.Op.move (Go.Operand.tmp 4), type := 74, pos := "config.go:149", after := #[], guard := none }) (v := ?_) rfl (by kernel_rfl) (by kernel_rfl) (by kernel_rfl) (fun _ _ _ h => h) (Or.inl ⟨by rfl, ?_⟩) (by assumption) ?_
        rotate_left
        · ((intro w hSw; (try dsimp only at hSw); go_simp) <;> (with_reducible rfl))
        try simp only [Act.put, List.setIfInBounds_toArray, List.set_cons_zero, List.set_cons_succ]
        refine wpAnyH_take (i := 2) (oi := { dst := some 70, op := Go.Op.nilCheck (Go.Operand.tmp 69), type := 0, pos := "config.go:149", after := #[{ on := 1, ground := Go.Ground.data }], guard := none }) (v := ?_) rfl (by kernel_rfl) (by kernel_rfl) (by kernel_rfl) (fun _ _ _ h => h) (Or.inl ⟨by rfl, ?_⟩) (by assumption) ?_
        rotate_left
        · ((intro w hSw; (try dsimp only at hSw); go_simp) <;> (with_reducible rfl))
        try simp only [Act.put, List.setIfInBounds_toArray, List.set_cons_zero, List.set_cons_succ]
        refine wpAnyH_take (i := 3) (oi := { dst := some 71, op := Go.Op.fieldAddr 76 (Go.Operand.tmp 70) 0, type := 0, pos := "config.go:149", after := #[{ on := 2, ground := Go.Ground.data }], guard := none }) (v := ?_) rfl (by kernel_rfl) (by kernel_rfl) (by kernel_rfl) (fun _ _ _ h => h) (Or.inl ⟨by rfl, ?_⟩) (by assumption) ?_
        rotate_left
        · ((intro w hSw; (try dsimp only at hSw); go_simp) <;> (with_reducible rfl))
        try simp only [Act.put, List.setIfInBounds_toArray, List.set_cons_zero, List.set_cons_succ]
        refine wpAnyH_take (i := 4) (oi := { dst := some 72, op := Go.Op.load 32 (Go.Operand.tmp 71), type := 32, pos := "config.go:149", after := #[{ on := 3, ground := Go.Ground.data }], guard := none }) (v := ?_) rfl (by kernel_rfl) (by kernel_rfl) (by kernel_rfl) (fun _ _ _ h => h) (Or.inl ⟨by rfl, ?_⟩) (by assumption) ?_
        rotate_left
        · ((intro w hSw; (try dsimp only at hSw); go_simp) <;> (with_reducible rfl))
        try simp only [Act.put, List.setIfInBounds_toArray, List.set_cons_zero, List.set_cons_succ]
        refine wpAnyH_take (i := 5) (oi := { dst := some 73, op := Go.Op.call { callee := Go.Callee.builtin Go.Builtin.len, args := #[Go.Operand.tmp 72], argTypes := #[32] }, type := 3, pos := "config.go:149", after := #[{ on := 4, ground := Go.Ground.data }], guard := none }) (v := ?_) rfl (by kernel_rfl) (by kernel_rfl) (by kernel_rfl) (fun _ _ _ h => h) (Or.inl ⟨by rfl, ?_⟩) (by assumption) ?_
        rotate_left
        · ((intro w hSw; (try dsimp only at hSw); go_simp) <;> (with_reducible rfl))
        try simp only [Act.put, List.setIfInBounds_toArray, List.set_cons_zero, List.set_cons_succ]
        refine wpAnyH_take (i := 6) (oi := { dst := some 74, op := Go.Op.move (Go.Operand.tmp 4), type := 74, pos := "config.go:149", after := #[], guard := none }) (v := ?_) rfl (by kernel_rfl) (by kernel_rfl) (by kernel_rfl) (fun _ _ _ h => h) (Or.inl ⟨by rfl, ?_⟩) (by assumption) ?_
        rotate_left
        · ((intro w hSw; (try dsimp only at hSw); go_simp) <;> (with_reducible rfl))
        try simp only [Act.put, List.setIfInBounds_toArray, List.set_cons_zero, List.set_cons_succ]
        refine wpAnyH_take (i := 7) (oi := { dst := some 75, op := Go.Op.nilCheck (Go.Operand.tmp 74), type := 0, pos := "config.go:149", after := #[{ on := 6, ground := Go.Ground.data }], guard := none }) (v := ?_) rfl (by kernel_rfl) (by kernel_rfl) (by kernel_rfl) (fun _ _ _ h => h) (Or.inl ⟨by rfl, ?_⟩) (by assumption) ?_
        rotate_left
        · ((intro w hSw; (try dsimp only at hSw); go_simp) <;> (with_reducible rfl))
        try simp only [Act.put, List.setIfInBounds_toArray, List.set_cons_zero, List.set_cons_succ]
        refine wpAnyH_take (i := 8) (oi := { dst := some 76, op := Go.Op.fieldAddr 76 (Go.Operand.tmp 75) 1, type := 0, pos := "config.go:149", after := #[{ on := 7, ground := Go.Ground.data }], guard := none }) (v := ?_) rfl (by kernel_rfl) (by kernel_rfl) (by kernel_rfl) (fun _ _ _ h => h) (Or.inl ⟨by rfl, ?_⟩) (by assumption) ?_
        rotate_left
        · ((intro w hSw; (try dsimp only at hSw); go_simp) <;> (with_reducible rfl))
        try simp only [Act.put, List.setIfInBounds_toArray, List.set_cons_zero, List.set_cons_succ]
        refine wpAnyH_take (i := 9) (oi := { dst := some 77, op := Go.Op.load 3 (Go.Operand.tmp 76), type := 3, pos := "config.go:149", after := #[{ on := 8, ground := Go.Ground.data }], guard := none }) (v := ?_) rfl (by kernel_rfl) (by kernel_rfl) (by kernel_rfl) (fun _ _ _ h => h) (Or.inl ⟨by rfl, ?_⟩) (by assumption) ?_
        rotate_left
        · ((intro w hSw; (try dsimp only at hSw); go_simp) <;> (with_reducible rfl))
        try simp only [Act.put, List.setIfInBounds_toArray, List.set_cons_zero, List.set_cons_succ]
        refine wpAnyH_take (i := 10) (oi := { dst := some 78, op := Go.Op.binOp Go.BinOp.sub 3 (Go.Operand.tmp 73) (Go.Operand.tmp 77) 3, type := 3, pos := "config.go:149", after := #[{ on := 5, ground := Go.Ground.data }, { on := 9, ground := Go.Ground.data }], guard := none }) (v := ?_) rfl (by kernel_rfl) (by kernel_rfl) (by kernel_rfl) (fun _ _ _ h => h) (Or.inl ⟨by rfl, ?_⟩) (by assumption) ?_
        rotate_left
        · ((intro w hSw; (try dsimp only at hSw); go_simp) <;> (with_reducible rfl))
        try simp only [Act.put, List.setIfInBounds_toArray, List.set_cons_zero, List.set_cons_succ]
        refine wpAnyH_take (i := 11) (oi := { dst := some 79, op := Go.Op.binOp Go.BinOp.gtr 3 (Go.Operand.tmp 68) (Go.Operand.tmp 78) 3, type := 4, pos := "config.go:149", after := #[{ on := 0, ground := Go.Ground.data }, { on := 10, ground := Go.Ground.data }], guard := none }) (v := ?_) rfl (by kernel_rfl) (by kernel_rfl) (by kernel_rfl) (fun _ _ _ h => h) (Or.inl ⟨by rfl, ?_⟩) (by assumption) ?_
        rotate_left
        · ((intro w hSw; (try dsimp only at hSw); go_simp) <;> (with_reducible rfl))
        try simp only [Act.put, List.setIfInBounds_toArray, List.set_cons_zero, List.set_cons_succ]
        refine wpAnyH_done (by kernel_rfl) ?_ _
        obtain ⟨u12, hu12⟩ : ∃ u, u = u11.drew := ⟨_, rfl⟩
        rw [← hu12] at R12 O12 P12 ⊢
        clear hu12 hdr hS R11 O11 P11
        obtain ⟨ks, rfl⟩ := Int.eq_ofNat_of_zero_le vb8.1
        have hks : a11 + ks ≤ n4 := by omega
        have hqn4 : n4 < q := by omega
        obtain ⟨nm, hnm⟩ : ∃ nm, strOfNums ((ys.drop a11).take ks) = nm := ⟨_, rfl⟩
        have e12 : IntKind.i64.wrap ((a11 : Int) + (ks : Int)) = (a11 : Int) + (ks : Int) := by rw [IntKind.wrap_i64]; omega
        have hsub := run_sub (pb := pb) (po := po) hks hqn4
        have hS := Lib.hid (fun u (r : Rr h u g (some ⟨pb, po, none⟩) n4 q ys a11 bad11) => (⟨r.c0, r.c1, by
          have := conv_lie (take_all (drop_lie r.lie a11 r.le) ks (c' := q - a11) (by omega) (by omega) (fun e => by cases e))
          rw [hnm, Option.map_some, Addr.add_lit] at this
          exact this⟩ : (fun u => u.cell? ⟨g, 0, none⟩ = some (.slice (some ⟨pb, po, none⟩) n4 q) ∧ u.cell? ⟨g, 1, none⟩ = some (i64 a11) ∧ (convert 32 9 (.slice (some ⟨pb, po + a11, none⟩) ks (q - a11))).run Tryd.prog u = .ok (.string nm) u) u))
        have RD := Lib.hid (R12.out.kept (Below.refl _ u12).drew)
        have PD := Lib.hid (show u12.drew.heap[gx]? = some (.cells #[.string ⟨#[]⟩, .int .i64 v10, .int .i64 v11] 47) from P12.out)
        have y0 : u12.drew.cell? ⟨gx, 0, none⟩ = some (.string ⟨#[]⟩) := by rw [cell_of_row _ _ 0 _ _ _ PD.out]; rfl
        have f0 : u12.drew.frozen? ⟨gx, 0, none⟩ = false := by simp [World.frozen?, PD.out]
        have bs13 := below_setCell (Below.refl gx u12.drew) gx 0 (Nat.le_refl _) (.string nm)
        have R13 := Lib.hid (RD.out.keptB bs13 (by omega))
        have P13 := Lib.hid (by have := Cfg.setCell_row PD.out 0 (.string nm); exact this : (u12.drew.setCell ⟨gx, 0, none⟩ (.string nm)).heap[gx]? = some (.cells #[.string nm, .int .i64 v10, .int .i64 v11] 47))
        have O13 := Lib.hid ((O12.out.past ((Below.refl _ u12).drew : Below u12.heap.size u12 u12.drew) (by have := O12.out.size; omega)).past bs13 (by omega))
        go_upto_region 18 with fail
        refine wp_region_held_drew (S := (fun u => u.cell? ⟨g, 0, none⟩ = some (.slice (some ⟨pb, po, none⟩) n4 q) ∧ u.cell? ⟨g, 1, none⟩ = some (i64 a11) ∧ (convert 32 9 (.slice (some ⟨pb, po + a11, none⟩) ks (q - a11))).run Tryd.prog u = .ok (.string nm) u)) (by kernel_rfl) ?_ (fun hH0 => ?_)
        · ((try dsimp only); (first | assumption | exact hS.out _ R12.out | exact hS.out _ RD.out | exact hS.out _ R13.out))
        refine wpAnyH_take (i := 0) (oi := { dst := some 83, op := Go.Op.move (Go.Operand.tmp 4), type := 74, pos := "config.go:153", after := #[], guard := none }) (v := ?_) rfl (by kernel_rfl) (by kernel_rfl) (by kernel_rfl) (fun _ _ _ h => h) (Or.inl ⟨by rfl, ?_⟩) (by assumption) ?_
        rotate_left
        · ((intro w hSw; (try dsimp only at hSw); go_simp) <;> (with_reducible rfl))
        try simp only [Act.put, List.setIfInBounds_toArray, List.set_cons_zero, List.set_cons_succ]
        refine wpAnyH_take (i := 1) (oi := { dst := some 84, op := Go.Op.nilCheck (Go.Operand.tmp 83), type := 0, pos := "config.go:153", after := #[{ on := 0, ground := Go.Ground.data }], guard := none }) (v := ?_) rfl (by kernel_rfl) (by kernel_rfl) (by kernel_rfl) (fun _ _ _ h => h) (Or.inl ⟨by rfl, ?_⟩) (by assumption) ?_
        rotate_left
        · ((intro w hSw; (try dsimp only at hSw); go_simp) <;> (with_reducible rfl))
        try simp only [Act.put, List.setIfInBounds_toArray, List.set_cons_zero, List.set_cons_succ]
        refine wpAnyH_take (i := 2) (oi := { dst := some 85, op := Go.Op.fieldAddr 76 (Go.Operand.tmp 84) 0, type := 0, pos := "config.go:153", after := #[{ on := 1, ground := Go.Ground.data }], guard := none }) (v := ?_) rfl (by kernel_rfl) (by kernel_rfl) (by kernel_rfl) (fun _ _ _ h => h) (Or.inl ⟨by rfl, ?_⟩) (by assumption) ?_
        rotate_left
        · ((intro w hSw; (try dsimp only at hSw); go_simp) <;> (with_reducible rfl))
        try simp only [Act.put, List.setIfInBounds_toArray, List.set_cons_zero, List.set_cons_succ]
        refine wpAnyH_take (i := 3) (oi := { dst := some 86, op := Go.Op.load 32 (Go.Operand.tmp 85), type := 32, pos := "config.go:153", after := #[{ on := 2, ground := Go.Ground.data }], guard := none }) (v := ?_) rfl (by kernel_rfl) (by kernel_rfl) (by kernel_rfl) (fun _ _ _ h => h) (Or.inl ⟨by rfl, ?_⟩) (by assumption) ?_
        rotate_left
        · ((intro w hSw; (try dsimp only at hSw); go_simp) <;> (with_reducible rfl))
        try simp only [Act.put, List.setIfInBounds_toArray, List.set_cons_zero, List.set_cons_succ]
        refine wpAnyH_take (i := 4) (oi := { dst := some 87, op := Go.Op.move (Go.Operand.tmp 4), type := 74, pos := "config.go:153", after := #[], guard := none }) (v := ?_) rfl (by kernel_rfl) (by kernel_rfl) (by kernel_rfl) (fun _ _ _ h => h) (Or.inl ⟨by rfl, ?_⟩) (by assumption) ?_
        rotate_left
        · ((intro w hSw; (try dsimp only at hSw); go_simp) <;> (with_reducible rfl))
        try simp only [Act.put, List.setIfInBounds_toArray, List.set_cons_zero, List.set_cons_succ]
        refine wpAnyH_take (i := 5) (oi := { dst := some 88, op := Go.Op.nilCheck (Go.Operand.tmp 87), type := 0, pos := "config.go:153", after := #[{ on := 4, ground := Go.Ground.data }], guard := none }) (v := ?_) rfl (by kernel_rfl) (by kernel_rfl) (by kernel_rfl) (fun _ _ _ h => h) (Or.inl ⟨by rfl, ?_⟩) (by assumption) ?_
        rotate_left
        · ((intro w hSw; (try dsimp only at hSw); go_simp) <;> (with_reducible rfl))
        try simp only [Act.put, List.setIfInBounds_toArray, List.set_cons_zero, List.set_cons_succ]
        refine wpAnyH_take (i := 6) (oi := { dst := some 89, op := Go.Op.fieldAddr 76 (Go.Operand.tmp 88) 1, type := 0, pos := "config.go:153", after := #[{ on := 5, ground := Go.Ground.data }], guard := none }) (v := ?_) rfl (by kernel_rfl) (by kernel_rfl) (by kernel_rfl) (fun _ _ _ h => h) (Or.inl ⟨by rfl, ?_⟩) (by assumption) ?_
        rotate_left
        · ((intro w hSw; (try dsimp only at hSw); go_simp) <;> (with_reducible rfl))
        try simp only [Act.put, List.setIfInBounds_toArray, List.set_cons_zero, List.set_cons_succ]
        refine wpAnyH_take (i := 7) (oi := { dst := some 90, op := Go.Op.load 3 (Go.Operand.tmp 89), type := 3, pos := "config.go:153", after := #[{ on := 6, ground := Go.Ground.data }], guard := none }) (v := ?_) rfl (by kernel_rfl) (by kernel_rfl) (by kernel_rfl) (fun _ _ _ h => h) (Or.inl ⟨by rfl, ?_⟩) (by assumption) ?_
        rotate_left
        · ((intro w hSw; (try dsimp only at hSw); go_simp) <;> (with_reducible rfl))
        try simp only [Act.put, List.setIfInBounds_toArray, List.set_cons_zero, List.set_cons_succ]
        refine wpAnyH_take (i := 8) (oi := { dst := some 91, op := Go.Op.move (Go.Operand.tmp 4), type := 74, pos := "config.go:153", after := #[], guard := none }) (v := ?_) rfl (by kernel_rfl) (by kernel_rfl) (by kernel_rfl) (fun _ _ _ h => h) (Or.inl ⟨by rfl, ?_⟩) (by assumption) ?_
        rotate_left
        · ((intro w hSw; (try dsimp only at hSw); go_simp) <;> (with_reducible rfl))
        try simp only [Act.put, List.setIfInBounds_toArray, List.set_cons_zero, List.set_cons_succ]
        refine wpAnyH_take (i := 9) (oi := { dst := some 92, op := Go.Op.nilCheck (Go.Operand.tmp 91), type := 0, pos := "config.go:153", after := #[{ on := 8, ground := Go.Ground.data }], guard := none }) (v := ?_) rfl (by kernel_rfl) (by kernel_rfl) (by kernel_rfl) (fun _ _ _ h => h) (Or.inl ⟨by rfl, ?_⟩) (by assumption) ?_
        rotate_left
        · ((intro w hSw; (try dsimp only at hSw); go_simp) <;> (with_reducible rfl))
        try simp only [Act.put, List.setIfInBounds_toArray, List.set_cons_zero, List.set_cons_succ]
        refine wpAnyH_take (i := 10) (oi := { dst := some 93, op := Go.Op.fieldAddr 76 (Go.Operand.tmp 92) 1, type := 0, pos := "config.go:153", after := #[{ on := 9, ground := Go.Ground.data }], guard := none }) (v := ?_) rfl (by kernel_rfl) (by kernel_rfl) (by kernel_rfl) (fun _ _ _ h => h) (Or.inl ⟨by rfl, ?_⟩) (by assumption) ?_
        rotate_left
        · ((intro w hSw; (try dsimp only at hSw); go_simp) <;> (with_reducible rfl))
        try simp only [Act.put, List.setIfInBounds_toArray, List.set_cons_zero, List.set_cons_succ]
        refine wpAnyH_take (i := 11) (oi := { dst := some 94, op := Go.Op.load 3 (Go.Operand.tmp 93), type := 3, pos := "config.go:153", after := #[{ on := 10, ground := Go.Ground.data }], guard := none }) (v := ?_) rfl (by kernel_rfl) (by kernel_rfl) (by kernel_rfl) (fun _ _ _ h => h) (Or.inl ⟨by rfl, ?_⟩) (by assumption) ?_
        rotate_left
        · ((intro w hSw; (try dsimp only at hSw); go_simp) <;> (with_reducible rfl))
        try simp only [Act.put, List.setIfInBounds_toArray, List.set_cons_zero, List.set_cons_succ]
        refine wpAnyH_take (i := 12) (oi := { dst := some 95, op := Go.Op.move (Go.Operand.tmp 8), type := 3, pos := "config.go:153", after := #[], guard := none }) (v := ?_) rfl (by kernel_rfl) (by kernel_rfl) (by kernel_rfl) (fun _ _ _ h => h) (Or.inl ⟨by rfl, ?_⟩) (by assumption) ?_
        rotate_left
        · ((intro w hSw; (try dsimp only at hSw); go_simp) <;> (with_reducible rfl))
        try simp only [Act.put, List.setIfInBounds_toArray, List.set_cons_zero, List.set_cons_succ]
        refine wpAnyH_take (i := 13) (oi := { dst := some 96, op := Go.Op.binOp Go.BinOp.add 3 (Go.Operand.tmp 94) (Go.Operand.tmp 95) 3, type := 3, pos := "config.go:153", after := #[{ on := 11, ground := Go.Ground.data }, { on := 12, ground := Go.Ground.data }], guard := none }) (v := ?_) rfl (by kernel_rfl) (by kernel_rfl) (by kernel_rfl) (fun _ _ _ h => h) (Or.inl ⟨by rfl, ?_⟩) (by assumption) ?_
        rotate_left
        · ((intro w hSw; (try dsimp only at hSw); go_simp) <;> (with_reducible rfl))
        try simp only [Act.put, List.setIfInBounds_toArray, List.set_cons_zero, List.set_cons_succ]
        refine wpAnyH_take (i := 14) (oi := { dst := some 97, op := Go.Op.slice 32 (Go.Operand.tmp 86) (some (Go.Operand.tmp 90)) (some (Go.Operand.tmp 96)) none, type := 32, pos := "config.go:153", after := #[{ on := 3, ground := Go.Ground.data }, { on := 7, ground := Go.Ground.data }, { on := 13, ground := Go.Ground.data }], guard := none }) (v := ?_) rfl (by kernel_rfl) (by kernel_rfl) (by kernel_rfl) (fun _ _ _ h => h) (Or.inl ⟨by rfl, ?_⟩) (by assumption) ?_
        rotate_left
        · ((intro w hSw; (try dsimp only at hSw); go_simp) <;> (with_reducible rfl))
        try simp only [Act.put, List.setIfInBounds_toArray, List.set_cons_zero, List.set_cons_succ]
        refine wpAnyH_take (i := 15) (oi := { dst := some 98, op := Go.Op.convert 32 9 (Go.Operand.tmp 97), type := 9, pos := "config.go:153", after := #[{ on := 14, ground := Go.Ground.data }], guard := none }) (v := ?_) rfl (by kernel_rfl) (by kernel_rfl) (by kernel_rfl) (fun _ _ _ h => h) (Or.inl ⟨by rfl, ?_⟩) (by assumption) ?_
        rotate_left
        · ((intro w hSw; (try dsimp only at hSw); go_simp) <;> (with_reducible rfl))
        try simp only [Act.put, List.setIfInBounds_toArray, List.set_cons_zero, List.set_cons_succ]
        refine wpAnyH_take (i := 16) (oi := { dst := some 99, op := Go.Op.fieldAddr 47 (Go.Operand.tmp 9) 0, type := 0, pos := "config.go:153", after := #[{ on := 0, ground := Go.Ground.phase }, { on := 1, ground := Go.Ground.phase }, { on := 2, ground := Go.Ground.phase }, { on := 3, ground := Go.Ground.phase }, { on := 4, ground := Go.Ground.phase }, { on := 5, ground := Go.Ground.phase }, { on := 6, ground := Go.Ground.phase }, { on := 7, ground := Go.Ground.phase }, { on := 8, ground := Go.Ground.phase }, { on := 9, ground := Go.Ground.phase }, { on := 10, ground := Go.Ground.phase }, { on := 11, ground := Go.Ground.phase }, { on := 12, ground := Go.Ground.phase }, { on := 13, ground := Go.Ground.phase }, { on := 14, ground := Go.Ground.phase }, { on := 15, ground := Go.Ground.phase }], guard := none }) (v := ?_) rfl (by kernel_rfl) (by kernel_rfl) (by kernel_rfl) (fun _ _ _ h => h) (Or.inl ⟨by rfl, ?_⟩) (by assumption) ?_
        rotate_left
        · ((intro w hSw; (try dsimp only at hSw); go_simp) <;> (with_reducible rfl))
        try simp only [Act.put, List.setIfInBounds_toArray, List.set_cons_zero, List.set_cons_succ]
        refine wpAnyH_ready (rs := [17]) (by kernel_rfl) (by simp) ?_
        refine AllReadyH.cons (o := { dst := none, op := Go.Op.store 9 (Go.Operand.tmp 99) (Go.Operand.tmp 98), type := 0, pos := "config.go:153", after := #[{ on := 16, ground := Go.Ground.data }, { on := 15, ground := Go.Ground.data }, { on := 0, ground := Go.Ground.phase }, { on := 1, ground := Go.Ground.phase }, { on := 2, ground := Go.Ground.phase }, { on := 3, ground := Go.Ground.phase }, { on := 4, ground := Go.Ground.phase }, { on := 5, ground := Go.Ground.phase }, { on := 6, ground := Go.Ground.phase }, { on := 7, ground := Go.Ground.phase }, { on := 8, ground := Go.Ground.phase }, { on := 9, ground := Go.Ground.phase }, { on := 10, ground := Go.Ground.phase }, { on := 11, ground := Go.Ground.phase }, { on := 12, ground := Go.Ground.phase }, { on := 13, ground := Go.Ground.phase }, { on := 14, ground := Go.Ground.phase }, { on := 15, ground := Go.Ground.phase }], guard := none }) rfl (fun K hK => ?_) AllReadyH.nil
        go_simp
        refine hK.out _ _ ?_ (fun hH1 => ?_)
        · ((try dsimp only); (first | assumption | exact hS.out _ R12.out | exact hS.out _ RD.out | exact hS.out _ R13.out))
        clear hK K hH0
        try simp only [Act.put, List.setIfInBounds_toArray, List.set_cons_zero, List.set_cons_succ]
        refine wpAnyH_done (by kernel_rfl) ?_ _
        obtain ⟨u13, hu13⟩ : ∃ u, u = (u12.setCell ⟨gx, 0, none⟩ (.string nm)).drew := ⟨_, rfl⟩
        have e13 : u13 = u12.drew.setCell ⟨gx, 0, none⟩ (.string nm) := hu13.trans rfl
        rw [← e13] at R13 P13 O13
        rw [← hu13]
        clear hu13 e13 bs13 y0 f0 PD RD hS hsub R12 O12 P12
        have z1 := R13.out.c1
        have f1 := R13.out.fr 1
        have os := oth_set g u13 1 (i64 ((a11 + ks : Nat) : Int))
        have R14 := Lib.hid (R13.out.set1 (a11 + ks) hks)
        have P14 := Lib.hid (kc_oth P13.out os (by omega))
        have O14 := Lib.hid (O13.out.trans os)
        rw [show ((a11 + ks : Nat) : Int) = (a11 : Int) + (ks : Int) from by omega] at R14 P14 O14
        clear os
        go_upto_region 20 with fail
        obtain ⟨u14, hu14⟩ : ∃ u, u = u13.setCell ⟨g, 1, none⟩ (i64 ((a11 : Int) + (ks : Int))) := ⟨_, rfl⟩
        rw [← hu14] at R14 P14 O14 ⊢
        clear hu14 z1 f1 R13 P13 O13
        have C14 := Lib.hid (C0.out.oth O14.out hgh2)
        have K14 := Lib.hid (kc_oth K0.out O14.out (by omega))
        have B14 := Lib.hid (B0.out.trans (O14.out.below (by omega) (by have := R0.out.lt; omega)))
        obtain ⟨l1, c1, e1', -, -, -⟩ := ownS_form C14.out.own1
        obtain ⟨m1, hm1⟩ : ∃ m1, (l.map ptC).length = m1 := ⟨_, rfl⟩
        rw [show ((⟨v4, v5, v6, l, [], []⟩ : Cf).parts.map ptC).length = m1 from hm1] at e1'
        subst e1'
        have z3 := C14.out.at 3 _ rfl
        have x0 : u14.cell? ⟨gx, 0, none⟩ = some (.string nm) := by rw [cell_of_row _ _ 0 _ _ _ P14.out]; rfl
        have x1 : u14.cell? ⟨gx, 1, none⟩ = some (.int .i64 v10) := by rw [cell_of_row _ _ 1 _ _ _ P14.out]; rfl
        have x2 : u14.cell? ⟨gx, 2, none⟩ = some (.int .i64 v11) := by rw [cell_of_row _ _ 2 _ _ _ P14.out]; rfl
        have CN := Lib.hid (C14.out.oth (oth_below (below_alloc u14 (.cells #[.string nm, .int .i64 v10, .int .i64 v11] 47))) hgh2)
        have SN := Lib.hid (src_new u14 3 [.string nm, .int .i64 v10, .int .i64 v11] 47 : SrcS 3 (u14.alloc (.cells #[.string nm, .int .i64 v10, .int .i64 v11] 47)) (some ⟨u14.heap.size, 0, none⟩) [[.string nm, .int .i64 v10, .int .i64 v11]])
        have SZ := Lib.hid (by have := HLK.out; rw [List.length_map]; omega : (l.map ptC).length + 1 ≤ 1000000)
        have hfin := Lib.hid (fun v' w4 (o4 : OwnS 47 3 w4 h2 v' (l.map ptC ++ [[.string nm, .int .i64 v10, .int .i64 v11]])) (b4 : Below h2 (u14.alloc (.cells #[.string nm, .int .i64 v10, .int .i64 v11] 47)) w4) (g4 : (u14.alloc (.cells #[.string nm, .int .i64 v10, .int .i64 v11] 47)).grownBy w4 (Value.slice l1 m1 c1).ownBlock) (hv : v'.ownBlock = (Value.slice l1 m1 c1).ownBlock ∨ v'.ownBlock = some (u14.alloc (.cells #[.string nm, .int .i64 v10, .int .i64 v11] 47)).heap.size) => (by
          have hs14 : h2 < u14.heap.size := C14.out.2.lt
          have ba : Below h2 u14 (w4.setCell ⟨h2, 3, none⟩ v') := below_setCell (((below_alloc u14 _).mono (by omega)).trans b4) h2 3 (Nat.le_refl _) v'
          have hnw : v' = v' := rfl
          refine ⟨(by rw [World.cell?_of_block (g4.block h2 CN.out.2.lt (fun e => CN.out.2.ne.1 e.symm))]; exact CN.out.at 3 _ rfl), (by have hq := (g4.block h2 CN.out.2.lt (fun e => CN.out.2.ne.1 e.symm)).trans CN.out.2.hd; simp [World.frozen?, hq]), k + 1, a11 + ks, bad11, l ++ [⟨nm, v10, v11⟩], v', by omega, by show Value.int .i64 ((k : Int) + 1) = _; rw [Int.natCast_add]; rfl, by rw [List.length_append, HLK.out]; rfl, R14.out.keptB ba hgh2, CN.out.app1 (l := l ++ [⟨nm, v10, v11⟩]) (by rw [List.map_append]; exact o4) g4 hv, (ba.block h (by omega)).trans K14.out, B14.out.trans (ba.mono (by omega)), WL.out.snoc ⟨by show nm.size ≤ _; rw [← hnm, strOf_size, List.length_take, List.length_drop]; omega, by have := VB10.out; show _ ≤ v10 ∧ v10 ≤ _; omega⟩, fun v => ?_⟩
          obtain ⟨q1, q2⟩ := KN11.out v
          obtain ⟨k1, k2, k3, k4⟩ := KN.out v
          have hk1 := hkl.out v
          have e8 := KV8.out v
          have eks : ks = (ptAt c k).name.size := by omega
          have q3 : ys.drop a11 = nameL (ptAt c k).name ++ tP c (k + 1) := q2
          have enm : nm = (ptAt c k).name := by
            rw [← hnm, q3, eks, List.take_left' (nameL_len _), nameL_str]
          refine ⟨q1, ?_, ?_, by omega⟩
          · rw [← List.drop_drop, q3, eks, List.drop_left' (nameL_len _)]
          · rw [k3, take_at c.parts k ⟨⟨#[]⟩, 0, 0⟩ hk1, enm, KV10.out v, KV11.out v] :
          w4.cell? ⟨h2, 3, none⟩ = some (.slice l1 m1 c1) ∧ w4.frozen? ⟨h2, 3, none⟩ = false ∧ ∃ (k' a : Nat) (bad : Bool) (l : List Pt) (vp : Value), k' ≤ 9 ∧ Value.int .i64 ((k : Int) + 1) = .int .i64 k' ∧ l.length = k' ∧ Rr h (w4.setCell ⟨h2, 3, none⟩ v') g (some ⟨pb, po, none⟩) n4 q ys a bad ∧ Cg h2 (w4.setCell ⟨h2, 3, none⟩ v') h2 ⟨v4, v5, v6, l, [], []⟩ vp (.slice none 0 0) (.slice none 0 0) ∧ (w4.setCell ⟨h2, 3, none⟩ v').heap[h]? = some (.cells #[.int .i64 0, .int .i64 0, .int .i64 0, .slice none 0 0, .slice none 0 0, .slice none 0 0] 26) ∧ Below h w (w4.setCell ⟨h2, 3, none⟩ v') ∧ WfL l ∧ (V → bad = false ∧ ys.drop a = tP c k' ∧ l = c.parts.take k' ∧ k' ≤ c.parts.length)))
        have hmI : m1 ≤ 9 := by have := HLK.out; rw [← hm1, List.length_map]; omega
        clear hm1
        clear hEX C0 K0 B0 WL KN HLK R0 KN11 KV8 KV10 KV11 hkl hpo C14 K14 B14 R14 P14 O14 hnm
        have HEv := Lib.hid (even_pt [⟨nm, v10, v11⟩])
        go_wp2_with (at_builtin; go_loud ((refine wpList_appS kdP rfl _ _ rfl CN.out.size (v1 := .slice l1 m1 c1) (R1 := l.map ptC) rfl CN.out.own1 (p := some ⟨u14.heap.size, 0, none⟩) (m := 1) (c := 1) [[.string nm, .int .i64 v10, .int .i64 v11]] HEv.out rfl rfl (fun e => by cases e) SN.out SZ.out ?_); intro v' w4' o4 b4 g4 hv; have hf := hfin.out v' w4' o4 b4 g4 hv; obtain ⟨zq, fq, hx⟩ := hf; have HX := Lib.hid hx; obtain ⟨p5, c5, e5, -, -, -⟩ := ownS_form o4; obtain ⟨n5, hn5'⟩ : ∃ n5, (l.map ptC ++ [[Value.string nm, .int .i64 v10, .int .i64 v11]]).length = n5 := ⟨_, rfl⟩; rw [hn5'] at e5; clear hn5' o4 b4 g4 hv hx; subst e5))
        go_roundw
        case rel => exact HX.out
        case measure => simp [intOf]; omega
  case rest =>
  obtain ⟨lp, ap, badp, vp, rp, cp, kp, bp, lenp, wfp, knp⟩ := hcut
  refine ‹∀ (a : Act) (w : World), Code.wp _ _ _ a w → _› _ _ ?_
  rename World => wP2
  have KP := Lib.hid (fun v => (knp v).2.2)
  have KNp := Lib.hid (fun v => (⟨(knp v).1, (knp v).2.1⟩ : badp = false ∧ ys.drop ap = nums ((c.chans.length : Int) :: []) ++ tC c 0))
  have WP := Lib.hid wfp
  have LNP := Lib.hid lenp
  have RP := Lib.hid rp
  have CP := Lib.hid cp
  have KPk := Lib.hid kp
  have BP := Lib.hid bp
  clear rp cp kp bp lenp wfp knp
  have HCp := Lib.hid (un_says RP.out HYs.out (by omega) (c.chans.length : Int) [] (tC c 0) KNp.out (fun v => by have := (hok.out v).2.1.2.1; omega))
  go_upto_region 22 with (go_at_call 33; (with_reducible refine HCp.out.mono ?_); rintro e t20 ⟨v20, a20, bad20, rfl, r', o', vb', kn'⟩; have RT := Lib.hid r'; have OT := Lib.hid o'; have VB20 := Lib.hid vb'; have KV20 := Lib.hid (fun v => (kn' v).1); have KN20 := Lib.hid (fun v => (kn' v).2); clear r' o' vb' kn')
  have C7 := Lib.hid (CP.out.oth OT.out hgh2)
  have K7 := Lib.hid (kc_oth KPk.out OT.out (by omega))
  have B7 := Lib.hid (BP.out.trans (OT.out.below (by omega) (by have := RP.out.lt; omega)))
  have R7 := Lib.hid RT.out
  clear HCp OT RT CP KPk BP RP KNp
  go_cut [10] from 300 (fun i wx => i = .int .i64 0 ∧ wx = t20)
  case first => go_wp2; go_meet; case rel => exact ⟨rfl, rfl⟩
  case rest =>
  obtain ⟨rfl, rfl⟩ := hcut
  refine ‹∀ (a : Act) (w : World), Code.wp _ _ _ a w → _› _ _ ?_
  go_cut [] from 300 (fun wx => ∃ (l : List Ch) (a : Nat) (bad : Bool) (vl : Value), Rr h wx g (some ⟨pb, po, none⟩) n4 q ys a bad ∧ Cg h2 wx h2 ⟨v4, v5, v6, lp, l, []⟩ vp vl (.slice none 0 0) ∧ wx.heap[h]? = some (.cells #[.int .i64 0, .int .i64 0, .int .i64 0, .slice none 0 0, .slice none 0 0, .slice none 0 0] 26) ∧ Below h w wx ∧ l.length ≤ 17 ∧ WfC l ∧ (V → bad = false ∧ ys.drop a = nums [(c.wins.length : Int)] ++ tW c 0 ∧ l = c.chans))
  case first =>
    rename World => wS
    go_wp2
    go_loopw [10, 11] (fun i _ wr => ∃ (k a : Nat) (bad : Bool) (l : List Ch) (vl : Value), k ≤ 17 ∧ i = .int .i64 k ∧ l.length = k ∧ Rr h wr g (some ⟨pb, po, none⟩) n4 q ys a bad ∧ Cg h2 wr h2 ⟨v4, v5, v6, lp, l, []⟩ vp vl (.slice none 0 0) ∧ wr.heap[h]? = some (.cells #[.int .i64 0, .int .i64 0, .int .i64 0, .slice none 0 0, .slice none 0 0, .slice none 0 0] 26) ∧ Below h w wr ∧ WfC l ∧ (V → bad = false ∧ ys.drop a = tC c k ∧ l = c.chans.take k ∧ k ≤ c.chans.length)) (fun i _ _ => 17 - (intOf i).toNat)
    case atStart => exact ⟨0, _, _, [], _, by omega, rfl, rfl, R7.out, C7.out, K7.out, B7.out, True.intro, fun v => ⟨(KN20.out v).1, by have := (KN20.out v).2; exact this, rfl, by omega⟩⟩
    case round =>
      obtain ⟨k, a, bad, l, vl, hk9, rfl, hlk, r0, c0, k0, b0, wl, kn⟩ := hrel
      clear R7 C7 K7 B7
      have hEX := Lib.hid (fun (hv : V → k = c.chans.length) => (⟨l, a, bad, vl, r0, c0, k0, b0, by omega, wl, fun v => by
        obtain ⟨q1, q2, q3, q4⟩ := kn v
        have e := hv v
        subst e
        exact ⟨q1, by rw [q2, tC_end], by rw [q3, List.take_length]⟩⟩ : ∃ (l : List Ch) (a : Nat) (bad : Bool) (vl : Value), Rr h wr g (some ⟨pb, po, none⟩) n4 q ys a bad ∧ Cg h2 wr h2 ⟨v4, v5, v6, lp, l, []⟩ vp vl (.slice none 0 0) ∧ wr.heap[h]? = some (.cells #[.int .i64 0, .int .i64 0, .int .i64 0, .slice none 0 0, .slice none 0 0, .slice none 0 0] 26) ∧ Below h w wr ∧ l.length ≤ 17 ∧ WfC l ∧ (V → bad = false ∧ ys.drop a = nums [(c.wins.length : Int)] ++ tW c 0 ∧ l = c.chans)))
      have x2 := r0.c2
      have vb7 := VB20.out
      have R0 := Lib.hid r0
      have C0 := Lib.hid c0
      have K0 := Lib.hid k0
      have B0 := Lib.hid b0
      have WL := Lib.hid wl
      have KN := Lib.hid kn
      have HLK := Lib.hid hlk
      clear r0 c0 k0 b0 wl kn hlk
      by_cases k1 : (k : Int) < v20
      rotate_left
      · have ho := Lib.hid (hEX.out (fun v => by have := KV20.out v; have := (KN.out v).2.2.2; omega))
        clear hEX R0 C0 K0 B0 WL KN HLK
        go_wp2
        go_meet
        case rel => exact ho.out
      cases bad with
      | true =>
        have ho := Lib.hid (hEX.out (fun v => by have := (KN.out v).1; cases this))
        clear hEX R0 C0 K0 B0 WL KN HLK
        go_wp2
        go_meet
        case rel => exact ho.out
      | false =>
      by_cases k9 : k < 17
      rotate_left
      · have ho := Lib.hid (hEX.out (fun v => by have := (KN.out v).2.2.2; have := (hok.out v).2.1.2.1; omega))
        have k9I : ¬ (k : Int) < 17 := by omega
        clear hEX R0 C0 K0 B0 WL KN HLK
        go_wp2
        go_meet
        case rel => exact ho.out
      have k9I : (k : Int) < 17 := by omega
      have hkl := Lib.hid (fun (v : V) => (by have := KV20.out v; omega : k < c.chans.length))
      have hpo := Lib.hid (fun (v : V) => (hok.out v).2.2.2.1 k (hkl.out v))
      have KNs0 := Lib.hid (fun (v : V) => (⟨rfl, by rw [(KN.out v).2.1, tC_succ c k (hkl.out v)]⟩ : false = false ∧ ys.drop a = nums [(chAt c k).kind, (chAt c k).frm, (chAt c k).to, (chAt c k).size, (chAt c k).depth] ++ tC c (k + 1)))
      obtain ⟨gx, hgx⟩ : ∃ gx, wr.heap.size = gx := ⟨_, rfl⟩
      obtain ⟨s0, hs0⟩ : ∃ s, s = wr.alloc (.cells #[.int .i64 0, .int .i64 0, .int .i64 0, .int .i64 0, .int .i64 0] 49) := ⟨_, rfl⟩
      have b89 : Below wr.heap.size wr s0 := by rw [hs0]; exact below_alloc _ _
      have hgg : h2 < gx := by have := C0.out.2.lt; omega
      have hwx : wr.heap.size ≤ gx := by omega
      have Ps0 := Lib.hid (by rw [hs0, ← hgx]; exact heap_alloc_new _ _ : s0.heap[gx]? = some (.cells #[.int .i64 0, .int .i64 0, .int .i64 0, .int .i64 0, .int .i64 0] 49))
      have Rs0 := Lib.hid (R0.out.kept b89)
      have Os0 := Lib.hid ((Oth.refl g wr).past b89 (Nat.le_refl _))
      go_upto_region 26 with fail
      try rw [hgx]
      rw [← hs0]
      clear hs0 b89 x2
      have HC21 := Lib.hid (un_says Rs0.out HYs.out (by omega) (chAt c k).kind [(chAt c k).frm, (chAt c k).to, (chAt c k).size, (chAt c k).depth] (tC c (k + 1)) KNs0.out (fun v => (hpo.out v).1))
      have PA := Lib.hid (fun (u : World) (o : Oth g s0 u) => (kc_oth Ps0.out o (by omega)))
      go_upto_region 27 with (go_at_call 33; (with_reducible refine HC21.out.mono ?_); rintro e t21 ⟨v21, a21, bad21, rfl, r', o', vb', kn'⟩; have RT := Lib.hid r'; have OT := Lib.hid o'; have VB21 := Lib.hid vb'; have KV21 := Lib.hid (fun v => (kn' v).1); have KN21 := Lib.hid (fun v => (kn' v).2); clear r' o' vb' kn'; have pz := PA.out _ OT.out; have y1 : t21.cell? ⟨gx, 0, none⟩ = some (.int .i64 0) := (by rw [cell_of_row _ _ 0 _ _ _ pz]; rfl); have f1 : t21.frozen? ⟨gx, 0, none⟩ = false := (by simp [World.frozen?, pz]))
      have Ps1 := Lib.hid (by have := Cfg.setCell_row pz 0 (i64 v21); exact this : (t21.setCell ⟨gx, 0, none⟩ (i64 v21)).heap[gx]? = some (.cells #[.int .i64 v21, .int .i64 0, .int .i64 0, .int .i64 0, .int .i64 0] 49))
      have bsx := below_setCell (Below.refl gx t21) gx 0 (Nat.le_refl _) (i64 v21)
      have Rs1 := Lib.hid (RT.out.keptB bsx (by omega))
      have Os1 := Lib.hid ((Os0.out.trans OT.out).past bsx (by omega))
      obtain ⟨s1, hsx⟩ : ∃ u, u = t21.setCell ⟨gx, 0, none⟩ (i64 v21) := ⟨_, rfl⟩
      rw [← hsx] at Ps1 Rs1 Os1 ⊢
      clear hsx bsx pz y1 f1 HC21 PA OT RT Rs0 Os0 Ps0 KNs0
      have HC22 := Lib.hid (un_says Rs1.out HYs.out (by omega) (chAt c k).frm [(chAt c k).to, (chAt c k).size, (chAt c k).depth] (tC c (k + 1)) KN21.out (fun v => (hpo.out v).2.1))
      have PA := Lib.hid (fun (u : World) (o : Oth g s1 u) => (kc_oth Ps1.out o (by omega)))
      go_upto_region 28 with (go_at_call 33; (with_reducible refine HC22.out.mono ?_); rintro e t22 ⟨v22, a22, bad22, rfl, r', o', vb', kn'⟩; have RT := Lib.hid r'; have OT := Lib.hid o'; have VB22 := Lib.hid vb'; have KV22 := Lib.hid (fun v => (kn' v).1); have KN22 := Lib.hid (fun v => (kn' v).2); clear r' o' vb' kn'; have pz := PA.out _ OT.out; have y1 : t22.cell? ⟨gx, 1, none⟩ = some (.int .i64 0) := (by rw [cell_of_row _ _ 1 _ _ _ pz]; rfl); have f1 : t22.frozen? ⟨gx, 1, none⟩ = false := (by simp [World.frozen?, pz]))
      have Ps2 := Lib.hid (by have := Cfg.setCell_row pz 1 (i64 v22); exact this : (t22.setCell ⟨gx, 1, none⟩ (i64 v22)).heap[gx]? = some (.cells #[.int .i64 v21, .int .i64 v22, .int .i64 0, .int .i64 0, .int .i64 0] 49))
      have bsx := below_setCell (Below.refl gx t22) gx 1 (Nat.le_refl _) (i64 v22)
      have Rs2 := Lib.hid (RT.out.keptB bsx (by omega))
      have Os2 := Lib.hid ((Os1.out.trans OT.out).past bsx (by omega))
      obtain ⟨s2, hsx⟩ : ∃ u, u = t22.setCell ⟨gx, 1, none⟩ (i64 v22) := ⟨_, rfl⟩
      rw [← hsx] at Ps2 Rs2 Os2 ⊢
      clear hsx bsx pz y1 f1 HC22 PA OT RT Rs1 Os1 Ps1 KN21
      have HC23 := Lib.hid (un_says Rs2.out HYs.out (by omega) (chAt c k).to [(chAt c k).size, (chAt c k).depth] (tC c (k + 1)) KN22.out (fun v => (hpo.out v).2.2.1))
      have PA := Lib.hid (fun (u : World) (o : Oth g s2 u) => (kc_oth Ps2.out o (by omega)))
      go_upto_region 29 with (go_at_call 33; (with_reducible refine HC23.out.mono ?_); rintro e t23 ⟨v23, a23, bad23, rfl, r', o', vb', kn'⟩; have RT := Lib.hid r'; have OT := Lib.hid o'; have VB23 := Lib.hid vb'; have KV23 := Lib.hid (fun v => (kn' v).1); have KN23 := Lib.hid (fun v => (kn' v).2); clear r' o' vb' kn'; have pz := PA.out _ OT.out; have y1 : t23.cell? ⟨gx, 2, none⟩ = some (.int .i64 0) := (by rw [cell_of_row _ _ 2 _ _ _ pz]; rfl); have f1 : t23.frozen? ⟨gx, 2, none⟩ = false := (by simp [World.frozen?, pz]))
      have Ps3 := Lib.hid (by have := Cfg.setCell_row pz 2 (i64 v23); exact this : (t23.setCell ⟨gx, 2, none⟩ (i64 v23)).heap[gx]? = some (.cells #[.int .i64 v21, .int .i64 v22, .int .i64 v23, .int .i64 0, .int .i64 0] 49))
      have bsx := below_setCell (Below.refl gx t23) gx 2 (Nat.le_refl _) (i64 v23)
      have Rs3 := Lib.hid (RT.out.keptB bsx (by omega))
      have Os3 := Lib.hid ((Os2.out.trans OT.out).past bsx (by omega))
      obtain ⟨s3, hsx⟩ : ∃ u, u = t23.setCell ⟨gx, 2, none⟩ (i64 v23) := ⟨_, rfl⟩
      rw [← hsx] at Ps3 Rs3 Os3 ⊢
      clear hsx bsx pz y1 f1 HC23 PA OT RT Rs2 Os2 Ps2 KN22
      have HC24 := Lib.hid (un_says Rs3.out HYs.out (by omega) (chAt c k).size [(chAt c k).depth] (tC c (k + 1)) KN23.out (fun v => (hpo.out v).2.2.2.1))
      have PA := Lib.hid (fun (u : World) (o : Oth g s3 u) => (kc_oth Ps3.out o (by omega)))
      go_upto_region 30 with (go_at_call 33; (with_reducible refine HC24.out.mono ?_); rintro e t24 ⟨v24, a24, bad24, rfl, r', o', vb', kn'⟩; have RT := Lib.hid r'; have OT := Lib.hid o'; have VB24 := Lib.hid vb'; have KV24 := Lib.hid (fun v => (kn' v).1); have KN24 := Lib.hid (fun v => (kn' v).2); clear r' o' vb' kn'; have pz := PA.out _ OT.out; have y1 : t24.cell? ⟨gx, 3, none⟩ = some (.int .i64 0) := (by rw [cell_of_row _ _ 3 _ _ _ pz]; rfl); have f1 : t24.frozen? ⟨gx, 3, none⟩ = false := (by simp [World.frozen?, pz]))
      have Ps4 := Lib.hid (by have := Cfg.setCell_row pz 3 (i64 v24); exact this : (t24.setCell ⟨gx, 3, none⟩ (i64 v24)).heap[gx]? = some (.cells #[.int .i64 v21, .int .i64 v22, .int .i64 v23, .int .i64 v24, .int .i64 0] 49))
      have bsx := below_setCell (Below.refl gx t24) gx 3 (Nat.le_refl _) (i64 v24)
      have Rs4 := Lib.hid (RT.out.keptB bsx (by omega))
      have Os4 := Lib.hid ((Os3.out.trans OT.out).past bsx (by omega))
      obtain ⟨s4, hsx⟩ : ∃ u, u = t24.setCell ⟨gx, 3, none⟩ (i64 v24) := ⟨_, rfl⟩
      rw [← hsx] at Ps4 Rs4 Os4 ⊢
      clear hsx bsx pz y1 f1 HC24 PA OT RT Rs3 Os3 Ps3 KN23
      have HC25 := Lib.hid (un_says Rs4.out HYs.out (by omega) (chAt c k).depth [] (tC c (k + 1)) KN24.out (fun v => (hpo.out v).2.2.2.2))
      have PA := Lib.hid (fun (u : World) (o : Oth g s4 u) => (kc_oth Ps4.out o (by omega)))
      go_upto_region 31 with (go_at_call 33; (with_reducible refine HC25.out.mono ?_); rintro e t25 ⟨v25, a25, bad25, rfl, r', o', vb', kn'⟩; have RT := Lib.hid r'; have OT := Lib.hid o'; have VB25 := Lib.hid vb'; have KV25 := Lib.hid (fun v => (kn' v).1); have KN25 := Lib.hid (fun v => (kn' v).2); clear r' o' vb' kn'; have pz := PA.out _ OT.out; have y1 : t25.cell? ⟨gx, 4, none⟩ = some (.int .i64 0) := (by rw [cell_of_row _ _ 4 _ _ _ pz]; rfl); have f1 : t25.frozen? ⟨gx, 4, none⟩ = false := (by simp [World.frozen?, pz]))
      have Ps5 := Lib.hid (by have := Cfg.setCell_row pz 4 (i64 v25); exact this : (t25.setCell ⟨gx, 4, none⟩ (i64 v25)).heap[gx]? = some (.cells #[.int .i64 v21, .int .i64 v22, .int .i64 v23, .int .i64 v24, .int .i64 v25] 49))
      have bsx := below_setCell (Below.refl gx t25) gx 4 (Nat.le_refl _) (i64 v25)
      have Rs5 := Lib.hid (RT.out.keptB bsx (by omega))
      have Os5 := Lib.hid ((Os4.out.trans OT.out).past bsx (by omega))
      obtain ⟨s5, hsx⟩ : ∃ u, u = t25.setCell ⟨gx, 4, none⟩ (i64 v25) := ⟨_, rfl⟩
      rw [← hsx] at Ps5 Rs5 Os5 ⊢
      clear hsx bsx pz y1 f1 HC25 PA OT RT Rs4 Os4 Ps4 KN24
      have C14 := Lib.hid (C0.out.oth Os5.out hgh2)
      have K14 := Lib.hid (kc_oth K0.out Os5.out (by omega))
      have B14 := Lib.hid (B0.out.trans (Os5.out.below (by omega) (by have := R0.out.lt; omega)))
      obtain ⟨l1, c1, e1', -, -, -⟩ := ownS_form C14.out.own2
      obtain ⟨m1, hm1⟩ : ∃ m1, (l.map chC).length = m1 := ⟨_, rfl⟩
      rw [show ((⟨v4, v5, v6, lp, l, []⟩ : Cf).chans.map chC).length = m1 from hm1] at e1'
      subst e1'
      have z3 := C14.out.at 4 _ rfl
      have x0 : s5.cell? ⟨gx, 0, none⟩ = some (.int .i64 v21) := by rw [cell_of_row _ _ 0 _ _ _ Ps5.out]; rfl
      have x1 : s5.cell? ⟨gx, 1, none⟩ = some (.int .i64 v22) := by rw [cell_of_row _ _ 1 _ _ _ Ps5.out]; rfl
      have x2 : s5.cell? ⟨gx, 2, none⟩ = some (.int .i64 v23) := by rw [cell_of_row _ _ 2 _ _ _ Ps5.out]; rfl
      have x3 : s5.cell? ⟨gx, 3, none⟩ = some (.int .i64 v24) := by rw [cell_of_row _ _ 3 _ _ _ Ps5.out]; rfl
      have x4 : s5.cell? ⟨gx, 4, none⟩ = some (.int .i64 v25) := by rw [cell_of_row _ _ 4 _ _ _ Ps5.out]; rfl
      have CN := Lib.hid (C14.out.oth (oth_below (below_alloc s5 (.cells #[.int .i64 v21, .int .i64 v22, .int .i64 v23, .int .i64 v24, .int .i64 v25] 49))) hgh2)
      have SN := Lib.hid (src_new s5 5 [.int .i64 v21, .int .i64 v22, .int .i64 v23, .int .i64 v24, .int .i64 v25] 49 : SrcS 5 (s5.alloc (.cells #[.int .i64 v21, .int .i64 v22, .int .i64 v23, .int .i64 v24, .int .i64 v25] 49)) (some ⟨s5.heap.size, 0, none⟩) [[.int .i64 v21, .int .i64 v22, .int .i64 v23, .int .i64 v24, .int .i64 v25]])
      have SZ := Lib.hid (by have := HLK.out; rw [List.length_map]; omega : (l.map chC).length + 1 ≤ 1000000)
      have hfin := Lib.hid (fun v' w4 (o4 : OwnS 49 5 w4 h2 v' (l.map chC ++ [[Value.int .i64 v21, .int .i64 v22, .int .i64 v23, .int .i64 v24, .int .i64 v25]])) (b4 : Below h2 (s5.alloc (.cells #[.int .i64 v21, .int .i64 v22, .int .i64 v23, .int .i64 v24, .int .i64 v25] 49)) w4) (g4 : (s5.alloc (.cells #[.int .i64 v21, .int .i64 v22, .int .i64 v23, .int .i64 v24, .int .i64 v25] 49)).grownBy w4 (Value.slice l1 m1 c1).ownBlock) (hv : v'.ownBlock = (Value.slice l1 m1 c1).ownBlock ∨ v'.ownBlock = some (s5.alloc (.cells #[.int .i64 v21, .int .i64 v22, .int .i64 v23, .int .i64 v24, .int .i64 v25] 49)).heap.size) => (by
        have hs14 : h2 < s5.heap.size := C14.out.2.lt
        have ba : Below h2 s5 (w4.setCell ⟨h2, 4, none⟩ v') := below_setCell (((below_alloc s5 _).mono (by omega)).trans b4) h2 4 (Nat.le_refl _) v'
        refine ⟨(by rw [World.cell?_of_block (g4.block h2 CN.out.2.lt (fun e => CN.out.2.ne.2.1 e.symm))]; exact CN.out.at 4 _ rfl), (by have hq := (g4.block h2 CN.out.2.lt (fun e => CN.out.2.ne.2.1 e.symm)).trans CN.out.2.hd; simp [World.frozen?, hq]), k + 1, a25, bad25, l ++ [⟨v21, v22, v23, v24, v25⟩], v', by omega, by show Value.int .i64 ((k : Int) + 1) = _; rw [Int.natCast_add]; rfl, by rw [List.length_append, HLK.out]; rfl, Rs5.out.keptB ba hgh2, CN.out.app2 (l := l ++ [⟨v21, v22, v23, v24, v25⟩]) (by rw [List.map_append]; exact o4) g4 hv, (ba.block h (by omega)).trans K14.out, B14.out.trans (ba.mono (by omega)), WL.out.snoc (x := ⟨v21, v22, v23, v24, v25⟩) (trivial), fun v => ?_⟩
        obtain ⟨q1, q2⟩ := KN25.out v
        obtain ⟨k1, k2, k3, k4⟩ := KN.out v
        have hk1 := hkl.out v
        refine ⟨q1, q2, ?_, by omega⟩
        rw [k3, take_at c.chans k ⟨0, 0, 0, 0, 0⟩ hk1, KV21.out v, KV22.out v, KV23.out v, KV24.out v, KV25.out v] :
        w4.cell? ⟨h2, 4, none⟩ = some (.slice l1 m1 c1) ∧ w4.frozen? ⟨h2, 4, none⟩ = false ∧ ∃ (k' a : Nat) (bad : Bool) (l : List Ch) (vl : Value), k' ≤ 17 ∧ Value.int .i64 ((k : Int) + 1) = .int .i64 k' ∧ l.length = k' ∧ Rr h (w4.setCell ⟨h2, 4, none⟩ v') g (some ⟨pb, po, none⟩) n4 q ys a bad ∧ Cg h2 (w4.setCell ⟨h2, 4, none⟩ v') h2 ⟨v4, v5, v6, lp, l, []⟩ vp vl (.slice none 0 0) ∧ (w4.setCell ⟨h2, 4, none⟩ v').heap[h]? = some (.cells #[.int .i64 0, .int .i64 0, .int .i64 0, .slice none 0 0, .slice none 0 0, .slice none 0 0] 26) ∧ Below h w (w4.setCell ⟨h2, 4, none⟩ v') ∧ WfC l ∧ (V → bad = false ∧ ys.drop a = tC c k' ∧ l = c.chans.take k' ∧ k' ≤ c.chans.length)))
      have hmI : m1 ≤ 17 := by have := HLK.out; rw [← hm1, List.length_map]; omega
      clear hm1
      clear hEX C0 K0 B0 WL KN HLK R0 KN25 KV21 KV22 KV23 KV24 KV25 hkl hpo C14 K14 B14 Rs5 Ps5 Os5
      have HEv := Lib.hid (even_ch [⟨v21, v22, v23, v24, v25⟩])
      go_wp2_with (at_builtin; (refine wpList_appS kdC rfl _ _ rfl CN.out.size (v1 := .slice l1 m1 c1) (R1 := l.map chC) rfl CN.out.own2 (p := some ⟨s5.heap.size, 0, none⟩) (m := 1) (c := 1) [[.int .i64 v21, .int .i64 v22, .int .i64 v23, .int .i64 v24, .int .i64 v25]] HEv.out rfl rfl (fun e => by cases e) SN.out SZ.out ?_); intro v' w4' o4 b4 g4 hv; have hf := hfin.out v' w4' o4 b4 g4 hv; obtain ⟨zq, fq, hx⟩ := hf; have HX := Lib.hid hx; obtain ⟨p5, c5, e5, -, -, -⟩ := ownS_form o4; obtain ⟨n5, hn5'⟩ : ∃ n5, (l.map chC ++ [[Value.int .i64 v21, .int .i64 v22, .int .i64 v23, .int .i64 v24, .int .i64 v25]]).length = n5 := ⟨_, rfl⟩; rw [hn5'] at e5; clear hn5' o4 b4 g4 hv hx; subst e5)
      go_roundw
      case rel => exact HX.out
      case measure => simp [intOf]; omega
  case rest =>
  obtain ⟨lc, ap, badp, vc, rp, cp, kp, bp, lenp, wfp, knp⟩ := hcut
  refine ‹∀ (a : Act) (w : World), Code.wp _ _ _ a w → _› _ _ ?_
  rename World => wP3
  have KC2 := Lib.hid (fun v => (knp v).2.2)
  have KNp := Lib.hid (fun v => (⟨(knp v).1, (knp v).2.1⟩ : badp = false ∧ ys.drop ap = nums ((c.wins.length : Int) :: []) ++ tW c 0))
  have LNC := Lib.hid lenp
  have RP := Lib.hid rp
  have CP := Lib.hid cp
  have KPk := Lib.hid kp
  have BP := Lib.hid bp
  clear rp cp kp bp lenp wfp knp
  have HCp := Lib.hid (un_says RP.out HYs.out (by omega) (c.wins.length : Int) [] (tW c 0) KNp.out (fun v => by have := (hok.out v).2.1.2.2; omega))
  go_upto_region 33 with (go_at_call 33; (with_reducible refine HCp.out.mono ?_); rintro e t30 ⟨v30, a30, bad30, rfl, r', o', vb', kn'⟩; have RT := Lib.hid r'; have OT := Lib.hid o'; have VB30 := Lib.hid vb'; have KV30 := Lib.hid (fun v => (kn' v).1); have KN30 := Lib.hid (fun v => (kn' v).2); clear r' o' vb' kn')
  have C7 := Lib.hid (CP.out.oth OT.out hgh2)
  have K7 := Lib.hid (kc_oth KPk.out OT.out (by omega))
  have B7 := Lib.hid (BP.out.trans (OT.out.below (by omega) (by have := RP.out.lt; omega)))
  have R7 := Lib.hid RT.out
  clear HCp OT RT CP KPk BP RP KNp
  go_cut [12] from 300 (fun i wx => i = .int .i64 0 ∧ wx = t30)
  case first => go_wp2; go_meet; case rel => exact ⟨rfl, rfl⟩
  case rest =>
  obtain ⟨rfl, rfl⟩ := hcut
  refine ‹∀ (a : Act) (w : World), Code.wp _ _ _ a w → _› _ _ ?_
  go_cut [] from 300 (fun wx => ∃ (l : List Wn) (a : Nat) (bad : Bool) (vl : Value), Rr h wx g (some ⟨pb, po, none⟩) n4 q ys a bad ∧ Cg h2 wx h2 ⟨v4, v5, v6, lp, lc, l⟩ vp vc vl ∧ wx.heap[h]? = some (.cells #[.int .i64 0, .int .i64 0, .int .i64 0, .slice none 0 0, .slice none 0 0, .slice none 0 0] 26) ∧ Below h w wx ∧ l.length ≤ 33 ∧ WfW l ∧ (V → bad = false ∧ l = c.wins))
  case first =>
    rename World => wS
    go_wp2
    go_loopw [12, 13] (fun i _ wr => ∃ (k a : Nat) (bad : Bool) (l : List Wn) (vl : Value), k ≤ 33 ∧ i = .int .i64 k ∧ l.length = k ∧ Rr h wr g (some ⟨pb, po, none⟩) n4 q ys a bad ∧ Cg h2 wr h2 ⟨v4, v5, v6, lp, lc, l⟩ vp vc vl ∧ wr.heap[h]? = some (.cells #[.int .i64 0, .int .i64 0, .int .i64 0, .slice none 0 0, .slice none 0 0, .slice none 0 0] 26) ∧ Below h w wr ∧ WfW l ∧ (V → bad = false ∧ ys.drop a = tW c k ∧ l = c.wins.take k ∧ k ≤ c.wins.length)) (fun i _ _ => 33 - (intOf i).toNat)
    case atStart => exact ⟨0, _, _, [], _, by omega, rfl, rfl, R7.out, C7.out, K7.out, B7.out, fun k x hx => by simp at hx, fun v => ⟨(KN30.out v).1, by have := (KN30.out v).2; exact this, rfl, by omega⟩⟩
    case round =>
      obtain ⟨k, a, bad, l, vl, hk9, rfl, hlk, r0, c0, k0, b0, wl, kn⟩ := hrel
      clear R7 C7 K7 B7
      have hEX := Lib.hid (fun (hv : V → k = c.wins.length) => (⟨l, a, bad, vl, r0, c0, k0, b0, by omega, wl, fun v => by
        obtain ⟨q1, q2, q3, q4⟩ := kn v
        have e := hv v
        subst e
        exact ⟨q1, by rw [q3, List.take_length]⟩⟩ : ∃ (l : List Wn) (a : Nat) (bad : Bool) (vl : Value), Rr h wr g (some ⟨pb, po, none⟩) n4 q ys a bad ∧ Cg h2 wr h2 ⟨v4, v5, v6, lp, lc, l⟩ vp vc vl ∧ wr.heap[h]? = some (.cells #[.int .i64 0, .int .i64 0, .int .i64 0, .slice none 0 0, .slice none 0 0, .slice none 0 0] 26) ∧ Below h w wr ∧ l.length ≤ 33 ∧ WfW l ∧ (V → bad = false ∧ l = c.wins)))
      have x2 := r0.c2
      have vb7 := VB30.out
      have R0 := Lib.hid r0
      have C0 := Lib.hid c0
      have K0 := Lib.hid k0
      have B0 := Lib.hid b0
      have WL := Lib.hid wl
      have KN := Lib.hid kn
      have HLK := Lib.hid hlk
      clear r0 c0 k0 b0 wl kn hlk
      by_cases k1 : (k : Int) < v30
      rotate_left
      · have ho := Lib.hid (hEX.out (fun v => by have := KV30.out v; have := (KN.out v).2.2.2; omega))
        clear hEX R0 C0 K0 B0 WL KN HLK
        go_wp2
        go_meet
        case rel => exact ho.out
      cases bad with
      | true =>
        have ho := Lib.hid (hEX.out (fun v => by have := (KN.out v).1; cases this))
        clear hEX R0 C0 K0 B0 WL KN HLK
        go_wp2
        go_meet
        case rel => exact ho.out
      | false =>
      by_cases k9 : k < 33
      rotate_left
      · have ho := Lib.hid (hEX.out (fun v => by have := (KN.out v).2.2.2; have := (hok.out v).2.1.2.2; omega))
        have k9I : ¬ (k : Int) < 33 := by omega
        clear hEX R0 C0 K0 B0 WL KN HLK
        go_wp2
        go_meet
        case rel => exact ho.out
      have k9I : (k : Int) < 33 := by omega
      have hkl := Lib.hid (fun (v : V) => (by have := KV30.out v; omega : k < c.wins.length))
      have hpo := Lib.hid (fun (v : V) => (hok.out v).2.2.2.2 k (hkl.out v))
      have KNs0 := Lib.hid (fun (v : V) => (⟨rfl, by rw [(KN.out v).2.1, tW_succ c k (hkl.out v)]⟩ : false = false ∧ ys.drop a = nums [(wnAt c k).start, (wnAt c k).len, (wnAt c k).part] ++ tW c (k + 1)))
      obtain ⟨gx, hgx⟩ : ∃ gx, wr.heap.size = gx := ⟨_, rfl⟩
      obtain ⟨s0, hs0⟩ : ∃ s, s = wr.alloc (.cells #[.int .i64 0, .int .i64 0, .int .i64 0] 51) := ⟨_, rfl⟩
      have b89 : Below wr.heap.size wr s0 := by rw [hs0]; exact below_alloc _ _
      have hgg : h2 < gx := by have := C0.out.2.lt; omega
      have hwx : wr.heap.size ≤ gx := by omega
      have Ps0 := Lib.hid (by rw [hs0, ← hgx]; exact heap_alloc_new _ _ : s0.heap[gx]? = some (.cells #[.int .i64 0, .int .i64 0, .int .i64 0] 51))
      have Rs0 := Lib.hid (R0.out.kept b89)
      have Os0 := Lib.hid ((Oth.refl g wr).past b89 (Nat.le_refl _))
      go_upto_region 37 with fail
      try rw [hgx]
      rw [← hs0]
      clear hs0 b89 x2
      have HC31 := Lib.hid (un_says Rs0.out HYs.out (by omega) (wnAt c k).start [(wnAt c k).len, (wnAt c k).part] (tW c (k + 1)) KNs0.out (fun v => (hpo.out v).1))
      have PA := Lib.hid (fun (u : World) (o : Oth g s0 u) => (kc_oth Ps0.out o (by omega)))
      go_upto_region 38 with (go_at_call 33; (with_reducible refine HC31.out.mono ?_); rintro e t31 ⟨v31, a31, bad31, rfl, r', o', vb', kn'⟩; have RT := Lib.hid r'; have OT := Lib.hid o'; have VB31 := Lib.hid vb'; have KV31 := Lib.hid (fun v => (kn' v).1); have KN31 := Lib.hid (fun v => (kn' v).2); clear r' o' vb' kn'; have pz := PA.out _ OT.out; have y1 : t31.cell? ⟨gx, 0, none⟩ = some (.int .i64 0) := (by rw [cell_of_row _ _ 0 _ _ _ pz]; rfl); have f1 : t31.frozen? ⟨gx, 0, none⟩ = false := (by simp [World.frozen?, pz]))
      have Ps1 := Lib.hid (by have := Cfg.setCell_row pz 0 (i64 v31); exact this : (t31.setCell ⟨gx, 0, none⟩ (i64 v31)).heap[gx]? = some (.cells #[.int .i64 v31, .int .i64 0, .int .i64 0] 51))
      have bsx := below_setCell (Below.refl gx t31) gx 0 (Nat.le_refl _) (i64 v31)
      have Rs1 := Lib.hid (RT.out.keptB bsx (by omega))
      have Os1 := Lib.hid ((Os0.out.trans OT.out).past bsx (by omega))
      obtain ⟨s1, hsx⟩ : ∃ u, u = t31.setCell ⟨gx, 0, none⟩ (i64 v31) := ⟨_, rfl⟩
      rw [← hsx] at Ps1 Rs1 Os1 ⊢
      clear hsx bsx pz y1 f1 HC31 PA OT RT Rs0 Os0 Ps0 KNs0
      have HC32 := Lib.hid (un_says Rs1.out HYs.out (by omega) (wnAt c k).len [(wnAt c k).part] (tW c (k + 1)) KN31.out (fun v => (hpo.out v).2.1))
      have PA := Lib.hid (fun (u : World) (o : Oth g s1 u) => (kc_oth Ps1.out o (by omega)))
      go_upto_region 39 with (go_at_call 33; (with_reducible refine HC32.out.mono ?_); rintro e t32 ⟨v32, a32, bad32, rfl, r', o', vb', kn'⟩; have RT := Lib.hid r'; have OT := Lib.hid o'; have VB32 := Lib.hid vb'; have KV32 := Lib.hid (fun v => (kn' v).1); have KN32 := Lib.hid (fun v => (kn' v).2); clear r' o' vb' kn'; have pz := PA.out _ OT.out; have y1 : t32.cell? ⟨gx, 1, none⟩ = some (.int .i64 0) := (by rw [cell_of_row _ _ 1 _ _ _ pz]; rfl); have f1 : t32.frozen? ⟨gx, 1, none⟩ = false := (by simp [World.frozen?, pz]))
      have Ps2 := Lib.hid (by have := Cfg.setCell_row pz 1 (i64 v32); exact this : (t32.setCell ⟨gx, 1, none⟩ (i64 v32)).heap[gx]? = some (.cells #[.int .i64 v31, .int .i64 v32, .int .i64 0] 51))
      have bsx := below_setCell (Below.refl gx t32) gx 1 (Nat.le_refl _) (i64 v32)
      have Rs2 := Lib.hid (RT.out.keptB bsx (by omega))
      have Os2 := Lib.hid ((Os1.out.trans OT.out).past bsx (by omega))
      obtain ⟨s2, hsx⟩ : ∃ u, u = t32.setCell ⟨gx, 1, none⟩ (i64 v32) := ⟨_, rfl⟩
      rw [← hsx] at Ps2 Rs2 Os2 ⊢
      clear hsx bsx pz y1 f1 HC32 PA OT RT Rs1 Os1 Ps1 KN31
      have HC33 := Lib.hid (un_says Rs2.out HYs.out (by omega) (wnAt c k).part [] (tW c (k + 1)) KN32.out (fun v => (hpo.out v).2.2))
      have PA := Lib.hid (fun (u : World) (o : Oth g s2 u) => (kc_oth Ps2.out o (by omega)))
      go_upto_region 40 with (go_at_call 33; (with_reducible refine HC33.out.mono ?_); rintro e t33 ⟨v33, a33, bad33, rfl, r', o', vb', kn'⟩; have RT := Lib.hid r'; have OT := Lib.hid o'; have VB33 := Lib.hid vb'; have KV33 := Lib.hid (fun v => (kn' v).1); have KN33 := Lib.hid (fun v => (kn' v).2); clear r' o' vb' kn'; have pz := PA.out _ OT.out; have y1 : t33.cell? ⟨gx, 2, none⟩ = some (.int .i64 0) := (by rw [cell_of_row _ _ 2 _ _ _ pz]; rfl); have f1 : t33.frozen? ⟨gx, 2, none⟩ = false := (by simp [World.frozen?, pz]))
      have Ps3 := Lib.hid (by have := Cfg.setCell_row pz 2 (i64 v33); exact this : (t33.setCell ⟨gx, 2, none⟩ (i64 v33)).heap[gx]? = some (.cells #[.int .i64 v31, .int .i64 v32, .int .i64 v33] 51))
      have bsx := below_setCell (Below.refl gx t33) gx 2 (Nat.le_refl _) (i64 v33)
      have Rs3 := Lib.hid (RT.out.keptB bsx (by omega))
      have Os3 := Lib.hid ((Os2.out.trans OT.out).past bsx (by omega))
      obtain ⟨s3, hsx⟩ : ∃ u, u = t33.setCell ⟨gx, 2, none⟩ (i64 v33) := ⟨_, rfl⟩
      rw [← hsx] at Ps3 Rs3 Os3 ⊢
      clear hsx bsx pz y1 f1 HC33 PA OT RT Rs2 Os2 Ps2 KN32
      have C14 := Lib.hid (C0.out.oth Os3.out hgh2)
      have K14 := Lib.hid (kc_oth K0.out Os3.out (by omega))
      have B14 := Lib.hid (B0.out.trans (Os3.out.below (by omega) (by have := R0.out.lt; omega)))
      obtain ⟨l1, c1, e1', -, -, -⟩ := ownS_form C14.out.own3
      obtain ⟨m1, hm1⟩ : ∃ m1, (l.map wnC).length = m1 := ⟨_, rfl⟩
      rw [show ((⟨v4, v5, v6, lp, lc, l⟩ : Cf).wins.map wnC).length = m1 from hm1] at e1'
      subst e1'
      have z3 := C14.out.at 5 _ rfl
      have x0 : s3.cell? ⟨gx, 0, none⟩ = some (.int .i64 v31) := by rw [cell_of_row _ _ 0 _ _ _ Ps3.out]; rfl
      have x1 : s3.cell? ⟨gx, 1, none⟩ = some (.int .i64 v32) := by rw [cell_of_row _ _ 1 _ _ _ Ps3.out]; rfl
      have x2 : s3.cell? ⟨gx, 2, none⟩ = some (.int .i64 v33) := by rw [cell_of_row _ _ 2 _ _ _ Ps3.out]; rfl
      have CN := Lib.hid (C14.out.oth (oth_below (below_alloc s3 (.cells #[.int .i64 v31, .int .i64 v32, .int .i64 v33] 51))) hgh2)
      have SN := Lib.hid (src_new s3 3 [.int .i64 v31, .int .i64 v32, .int .i64 v33] 51 : SrcS 3 (s3.alloc (.cells #[.int .i64 v31, .int .i64 v32, .int .i64 v33] 51)) (some ⟨s3.heap.size, 0, none⟩) [[.int .i64 v31, .int .i64 v32, .int .i64 v33]])
      have SZ := Lib.hid (by have := HLK.out; rw [List.length_map]; omega : (l.map wnC).length + 1 ≤ 1000000)
      have hfin := Lib.hid (fun v' w4 (o4 : OwnS 51 3 w4 h2 v' (l.map wnC ++ [[Value.int .i64 v31, .int .i64 v32, .int .i64 v33]])) (b4 : Below h2 (s3.alloc (.cells #[.int .i64 v31, .int .i64 v32, .int .i64 v33] 51)) w4) (g4 : (s3.alloc (.cells #[.int .i64 v31, .int .i64 v32, .int .i64 v33] 51)).grownBy w4 (Value.slice l1 m1 c1).ownBlock) (hv : v'.ownBlock = (Value.slice l1 m1 c1).ownBlock ∨ v'.ownBlock = some (s3.alloc (.cells #[.int .i64 v31, .int .i64 v32, .int .i64 v33] 51)).heap.size) => (by
        have hs14 : h2 < s3.heap.size := C14.out.2.lt
        have ba : Below h2 s3 (w4.setCell ⟨h2, 5, none⟩ v') := below_setCell (((below_alloc s3 _).mono (by omega)).trans b4) h2 5 (Nat.le_refl _) v'
        refine ⟨(by rw [World.cell?_of_block (g4.block h2 CN.out.2.lt (fun e => CN.out.2.ne.2.2 e.symm))]; exact CN.out.at 5 _ rfl), (by have hq := (g4.block h2 CN.out.2.lt (fun e => CN.out.2.ne.2.2 e.symm)).trans CN.out.2.hd; simp [World.frozen?, hq]), k + 1, a33, bad33, l ++ [⟨v31, v32, v33⟩], v', by omega, by show Value.int .i64 ((k : Int) + 1) = _; rw [Int.natCast_add]; rfl, by rw [List.length_append, HLK.out]; rfl, Rs3.out.keptB ba hgh2, CN.out.app3 (l := l ++ [⟨v31, v32, v33⟩]) (by rw [List.map_append]; exact o4) g4 hv, (ba.block h (by omega)).trans K14.out, B14.out.trans (ba.mono (by omega)), WL.out.snoc (x := ⟨v31, v32, v33⟩) (⟨by have := VB31.out; show _ ≤ v31 ∧ v31 ≤ _; omega, by have := VB32.out; show _ ≤ v32 ∧ v32 ≤ _; omega⟩), fun v => ?_⟩
        obtain ⟨q1, q2⟩ := KN33.out v
        obtain ⟨k1, k2, k3, k4⟩ := KN.out v
        have hk1 := hkl.out v
        refine ⟨q1, q2, ?_, by omega⟩
        rw [k3, take_at c.wins k ⟨0, 0, 0⟩ hk1, KV31.out v, KV32.out v, KV33.out v] :
        w4.cell? ⟨h2, 5, none⟩ = some (.slice l1 m1 c1) ∧ w4.frozen? ⟨h2, 5, none⟩ = false ∧ ∃ (k' a : Nat) (bad : Bool) (l : List Wn) (vl : Value), k' ≤ 33 ∧ Value.int .i64 ((k : Int) + 1) = .int .i64 k' ∧ l.length = k' ∧ Rr h (w4.setCell ⟨h2, 5, none⟩ v') g (some ⟨pb, po, none⟩) n4 q ys a bad ∧ Cg h2 (w4.setCell ⟨h2, 5, none⟩ v') h2 ⟨v4, v5, v6, lp, lc, l⟩ vp vc vl ∧ (w4.setCell ⟨h2, 5, none⟩ v').heap[h]? = some (.cells #[.int .i64 0, .int .i64 0, .int .i64 0, .slice none 0 0, .slice none 0 0, .slice none 0 0] 26) ∧ Below h w (w4.setCell ⟨h2, 5, none⟩ v') ∧ WfW l ∧ (V → bad = false ∧ ys.drop a = tW c k' ∧ l = c.wins.take k' ∧ k' ≤ c.wins.length)))
      have hmI : m1 ≤ 33 := by have := HLK.out; rw [← hm1, List.length_map]; omega
      clear hm1
      clear hEX C0 K0 B0 WL KN HLK R0 KN33 KV31 KV32 KV33 hkl hpo C14 K14 B14 Rs3 Ps3 Os3
      have HEv := Lib.hid (even_wn [⟨v31, v32, v33⟩])
      go_wp2_with (at_builtin; (refine wpList_appS kdW rfl _ _ rfl CN.out.size (v1 := .slice l1 m1 c1) (R1 := l.map wnC) rfl CN.out.own3 (p := some ⟨s3.heap.size, 0, none⟩) (m := 1) (c := 1) [[.int .i64 v31, .int .i64 v32, .int .i64 v33]] HEv.out rfl rfl (fun e => by cases e) SN.out SZ.out ?_); intro v' w4' o4 b4 g4 hv; have hf := hfin.out v' w4' o4 b4 g4 hv; obtain ⟨zq, fq, hx⟩ := hf; have HX := Lib.hid hx; obtain ⟨p5, c5, e5, -, -, -⟩ := ownS_form o4; obtain ⟨n5, hn5'⟩ : ∃ n5, (l.map wnC ++ [[Value.int .i64 v31, .int .i64 v32, .int .i64 v33]]).length = n5 := ⟨_, rfl⟩; rw [hn5'] at e5; clear hn5' o4 b4 g4 hv hx; subst e5)
      go_roundw
      case rel => exact HX.out
      case measure => simp [intOf]; omega
  case rest =>
  obtain ⟨lw, aw, badw, vw, rp, cp, kp, bp, lenp, wfp, knp⟩ := hcut
  refine ‹∀ (a : Act) (w : World), Code.wp _ _ _ a w → _› _ _ ?_
  rename World => wz
  have RZ := Lib.hid rp
  have CZ := Lib.hid cp
  have KZ := Lib.hid kp
  have BZ := Lib.hid bp
  have KW := Lib.hid (fun v => (knp v).2)
  have KB := Lib.hid (fun v => (knp v).1)
  have WW := Lib.hid wfp
  have LW := Lib.hid lenp
  clear rp cp kp bp lenp wfp knp
  obtain ⟨q1, d1, q2, d2, q3, d3, e1', e2', e3', hmx, M1, M2, M3⟩ := CZ.out.lies
  have hn1 : (⟨v4, v5, v6, lp, lc, lw⟩ : Cf).parts.length = lp.length := rfl
  obtain ⟨cz, hcz⟩ : ∃ cz : Cf, cz = ⟨v4, v5, v6, lp, lc, lw⟩ := ⟨_, rfl⟩
  have wfz : Wf cz := by
    rw [hcz]
    refine ⟨by have := VB4.out; show _ ≤ v4 ∧ v4 ≤ _; omega, by have := VB5.out; show _ ≤ v5 ∧ v5 ≤ _; omega, by have := VB6.out; show _ ≤ v6 ∧ v6 ≤ _; omega, ⟨fun k x hx => WP.out k x hx, fun k x hx => WW.out k x hx⟩, ⟨by have := LNP.out; show lp.length ≤ _; omega, by have := LNC.out; show lc.length ≤ _; omega, by have := LW.out; show lw.length ≤ _; omega⟩⟩
  have hveq := Lib.hid (fun (v : V) => (by rw [hcz, KV4.out v, KV5.out v, KV6.out v, KP.out v, KC2.out v, KW.out v] : cz = c))
  have Xz : Cx wz wz.heap.size cz q1 d1 q2 d2 q3 d3 := by rw [hcz]; exact ⟨M1, M2, M3, hcz ▸ wfz, by have := hmx.1; unfold maxLen at this; omega⟩
  have HPK := Lib.hid (rpack_says Xz.L1 Xz.L2 Xz.L3 Xz.wf)
  have HXz := Lib.hid Xz
  have e1 : vp = .slice q1 cz.parts.length d1 := by rw [hcz]; exact e1'
  have e2 : vc = .slice q2 cz.chans.length d2 := by rw [hcz]; exact e2'
  have e3 : vw = .slice q3 cz.wins.length d3 := by rw [hcz]; exact e3'
  have g4 : cz.pages = v4 := by rw [hcz]
  have g5 : cz.major = v5 := by rw [hcz]
  have g6 : cz.switch = v6 := by rw [hcz]
  clear e1' e2' e3' hmx M1 M2 M3 hn1 Xz wfz
  rw [← hcz] at CZ
  obtain ⟨n1, hn1⟩ : ∃ n1, cz.parts.length = n1 := ⟨_, rfl⟩
  obtain ⟨n2, hn2⟩ : ∃ n2, cz.chans.length = n2 := ⟨_, rfl⟩
  obtain ⟨n3, hn3⟩ : ∃ n3, cz.wins.length = n3 := ⟨_, rfl⟩
  rw [hn1] at e1
  rw [hn2] at e2
  rw [hn3] at e3
  subst e1 e2 e3
  have z0 : wz.cell? ⟨h2, 0, none⟩ = some (i64 v4) := by rw [← g4]; exact CZ.out.at 0 _ rfl
  have z1 : wz.cell? ⟨h2, 1, none⟩ = some (i64 v5) := by rw [← g5]; exact CZ.out.at 1 _ rfl
  have z2 : wz.cell? ⟨h2, 2, none⟩ = some (i64 v6) := by rw [← g6]; exact CZ.out.at 2 _ rfl
  have z3 := CZ.out.at 3 _ rfl
  have z4 := CZ.out.at 4 _ rfl
  have z5 := CZ.out.at 5 _ rfl
  simp only [cfV, g4, g5, g6, hn1, hn2, hn3] at HPK
  have hPl := Lib.hid (packO_len cz)
  obtain ⟨P, hP⟩ : ∃ P, packO cz = P := ⟨_, rfl⟩
  obtain ⟨kk, hkk⟩ : ∃ kk, Cfg.chk cz = kk := ⟨_, rfl⟩
  have hPk := Lib.hid (fun (h : kk = 0) => (by rw [← hP]; exact if_pos (hkk.trans h) : P = packC cz))
  have hk0 := Lib.hid (fun (v : V) => (by rw [← hkk, hveq.out v]; exact hch.out v : kk = 0))
  have hkr := Lib.hid (fun (h : kk = 0) => hkk.trans h)
  rw [hP, hkk] at HPK
  clear hP hkk
  have hc1 := Lib.hid hn1
  have hc2 := Lib.hid hn2
  have hc3 := Lib.hid hn3
  have hc4 := Lib.hid (And.intro g4 (And.intro g5 g6))
  clear hn1 hn2 hn3 g4 g5 g6 hcz
  go_upto_region 42 with (go_at_call 10; (with_reducible refine HPK.out.mono ?_); rintro e wy ⟨pW, nW, qW, rfl, oW, hb⟩; have BY := Lib.hid hb; have LW2 := Lib.hid (lie_own oW); clear hb oW)
  clear z0 z1 z2 z3 z4 z5 HPK
  have RY := Lib.hid (RZ.out.kept BY.out)
  have CY := Lib.hid (CZ.out.oth (oth_below BY.out) hgh2)
  have KY2 := Lib.hid ((BY.out.block h (Array.getElem?_eq_some_iff.1 KZ.out).1).trans KZ.out)
  have BB := Lib.hid (BZ.out.trans (BY.out.mono (by have := BZ.out.size; omega)))
  have XY := Lib.hid (HXz.out.later BY.out (Nat.le_refl _) (Nat.le_refl _))
  clear RZ CZ KZ BZ HXz
  have xb := RY.out.c2
  have hNn := Lib.hid (fun (nv : ¬ V) => HN.out nv)
  have KY3 := KY2
  by_cases kb : badw = true
  · subst kb
    have ho := Lib.hid (hNn.out (fun v => by have := KB.out v; cases this))
    have y0 : wy.cell? ⟨h, 0, none⟩ = some (.int .i64 0) := by rw [cell_of_row _ _ 0 _ _ _ KY2.out]; rfl
    have y1 : wy.cell? ⟨h, 1, none⟩ = some (.int .i64 0) := by rw [cell_of_row _ _ 1 _ _ _ KY2.out]; rfl
    have y2 : wy.cell? ⟨h, 2, none⟩ = some (.int .i64 0) := by rw [cell_of_row _ _ 2 _ _ _ KY2.out]; rfl
    have y3 : wy.cell? ⟨h, 3, none⟩ = some (.slice none 0 0) := by rw [cell_of_row _ _ 3 _ _ _ KY2.out]; rfl
    have y4 : wy.cell? ⟨h, 4, none⟩ = some (.slice none 0 0) := by rw [cell_of_row _ _ 4 _ _ _ KY2.out]; rfl
    have y5 : wy.cell? ⟨h, 5, none⟩ = some (.slice none 0 0) := by rw [cell_of_row _ _ 5 _ _ _ KY2.out]; rfl
    have f0 : wy.frozen? ⟨h, 0, none⟩ = false := by simp [World.frozen?, KY2.out]
    have f1 : wy.frozen? ⟨h, 1, none⟩ = false := by simp [World.frozen?, KY2.out]
    have f2 : wy.frozen? ⟨h, 2, none⟩ = false := by simp [World.frozen?, KY2.out]
    have f3 : wy.frozen? ⟨h, 3, none⟩ = false := by simp [World.frozen?, KY2.out]
    have f4 : wy.frozen? ⟨h, 4, none⟩ = false := by simp [World.frozen?, KY2.out]
    have f5 : wy.frozen? ⟨h, 5, none⟩ = false := by simp [World.frozen?, KY2.out]
    clear RY CY XY BY KY3 HY HN hveq hPk hk0 hkr hch KW KB KP KC2 HB hVh hNh LX LW2 hPl hc1 hc2 hc3 hc4 KV4 KV5 KV6 KV7 KV20 KV30 hok WP WW
    go_wp2
    clear y0 y1 y2 y3 y4 y5 f0 f1 f2 f3 f4 f5
    obtain ⟨w9, hw9⟩ : ∃ w9, w9 = ((((((wy.setCell ⟨h, 0, none⟩ (.int .i64 0)).setCell ⟨h, 1, none⟩ (.int .i64 0)).setCell ⟨h, 2, none⟩ (.int .i64 0)).setCell ⟨h, 3, none⟩ (.slice none 0 0)).setCell ⟨h, 4, none⟩ (.slice none 0 0)).setCell ⟨h, 5, none⟩ (.slice none 0 0)) := ⟨_, rfl⟩
    rw [← hw9]
    have hr9 : w9.heap[h]? = some (.cells #[.int .i64 0, .int .i64 0, .int .i64 0, .slice none 0 0, .slice none 0 0, .slice none 0 0] 26) := by rw [hw9]; exact (Cfg.setCell_row (Cfg.setCell_row (Cfg.setCell_row (Cfg.setCell_row (Cfg.setCell_row (Cfg.setCell_row KY2.out 0 _) 1 _) 2 _) 3 _) 4 _) 5 _)
    have ot : Oth h wy w9 := by rw [hw9]; exact ((((((oth_set h wy 0 _).trans (oth_set h _ 1 _)).trans (oth_set h _ 2 _)).trans (oth_set h _ 3 _)).trans (oth_set h _ 4 _)).trans (oth_set h _ 5 _))
    clear hw9
    have cq0 : w9.cell? ⟨h, 0, none⟩ = some (.int .i64 0) := by rw [cell_of_row _ _ 0 _ _ _ hr9]; rfl
    have cq1 : w9.cell? ⟨h, 1, none⟩ = some (.int .i64 0) := by rw [cell_of_row _ _ 1 _ _ _ hr9]; rfl
    have cq2 : w9.cell? ⟨h, 2, none⟩ = some (.int .i64 0) := by rw [cell_of_row _ _ 2 _ _ _ hr9]; rfl
    have cq3 : w9.cell? ⟨h, 3, none⟩ = some (.slice none 0 0) := by rw [cell_of_row _ _ 3 _ _ _ hr9]; rfl
    have cq4 : w9.cell? ⟨h, 4, none⟩ = some (.slice none 0 0) := by rw [cell_of_row _ _ 4 _ _ _ hr9]; rfl
    have cq5 : w9.cell? ⟨h, 5, none⟩ = some (.slice none 0 0) := by rw [cell_of_row _ _ 5 _ _ _ hr9]; rfl
    refine bodyPost_ret (v := .tuple #[.agg #[.int .i64 0, .int .i64 0, .int .i64 0, .slice none 0 0, .slice none 0 0, .slice none 0 0], i64 4]) (by simp [results, Tryd.results16, go_sem, cq0, cq1, cq2, cq3, cq4, cq5]) rfl ?_
    exact ho.out w9 (BB.out.trans (ot.below (Nat.le_refl _) (by have := BB.out.size; omega)))
  have kb2 : badw = false := by cases badw with | true => exact absurd rfl kb | false => rfl
  subst kb2
  clear kb
  by_cases kz : kk = 0
  rotate_left
  · have kz2 : (kk != 0) = true := by simpa using kz
    have ho := Lib.hid (hNn.out (fun v => kz (hk0.out v)))
    have y0 : wy.cell? ⟨h, 0, none⟩ = some (.int .i64 0) := by rw [cell_of_row _ _ 0 _ _ _ KY2.out]; rfl
    have y1 : wy.cell? ⟨h, 1, none⟩ = some (.int .i64 0) := by rw [cell_of_row _ _ 1 _ _ _ KY2.out]; rfl
    have y2 : wy.cell? ⟨h, 2, none⟩ = some (.int .i64 0) := by rw [cell_of_row _ _ 2 _ _ _ KY2.out]; rfl
    have y3 : wy.cell? ⟨h, 3, none⟩ = some (.slice none 0 0) := by rw [cell_of_row _ _ 3 _ _ _ KY2.out]; rfl
    have y4 : wy.cell? ⟨h, 4, none⟩ = some (.slice none 0 0) := by rw [cell_of_row _ _ 4 _ _ _ KY2.out]; rfl
    have y5 : wy.cell? ⟨h, 5, none⟩ = some (.slice none 0 0) := by rw [cell_of_row _ _ 5 _ _ _ KY2.out]; rfl
    have f0 : wy.frozen? ⟨h, 0, none⟩ = false := by simp [World.frozen?, KY2.out]
    have f1 : wy.frozen? ⟨h, 1, none⟩ = false := by simp [World.frozen?, KY2.out]
    have f2 : wy.frozen? ⟨h, 2, none⟩ = false := by simp [World.frozen?, KY2.out]
    have f3 : wy.frozen? ⟨h, 3, none⟩ = false := by simp [World.frozen?, KY2.out]
    have f4 : wy.frozen? ⟨h, 4, none⟩ = false := by simp [World.frozen?, KY2.out]
    have f5 : wy.frozen? ⟨h, 5, none⟩ = false := by simp [World.frozen?, KY2.out]
    clear RY CY XY BY KY3 HY HN hveq hPk hk0 hkr hch KW KB KP KC2 HB hVh hNh LX LW2 hPl hc1 hc2 hc3 hc4 KV4 KV5 KV6 KV7 KV20 KV30 hok WP WW
    go_wp2
    clear y0 y1 y2 y3 y4 y5 f0 f1 f2 f3 f4 f5
    obtain ⟨w9, hw9⟩ : ∃ w9, w9 = ((((((wy.setCell ⟨h, 0, none⟩ (.int .i64 0)).setCell ⟨h, 1, none⟩ (.int .i64 0)).setCell ⟨h, 2, none⟩ (.int .i64 0)).setCell ⟨h, 3, none⟩ (.slice none 0 0)).setCell ⟨h, 4, none⟩ (.slice none 0 0)).setCell ⟨h, 5, none⟩ (.slice none 0 0)) := ⟨_, rfl⟩
    rw [← hw9]
    have hr9 : w9.heap[h]? = some (.cells #[.int .i64 0, .int .i64 0, .int .i64 0, .slice none 0 0, .slice none 0 0, .slice none 0 0] 26) := by rw [hw9]; exact (Cfg.setCell_row (Cfg.setCell_row (Cfg.setCell_row (Cfg.setCell_row (Cfg.setCell_row (Cfg.setCell_row KY2.out 0 _) 1 _) 2 _) 3 _) 4 _) 5 _)
    have ot : Oth h wy w9 := by rw [hw9]; exact ((((((oth_set h wy 0 _).trans (oth_set h _ 1 _)).trans (oth_set h _ 2 _)).trans (oth_set h _ 3 _)).trans (oth_set h _ 4 _)).trans (oth_set h _ 5 _))
    clear hw9
    have cq0 : w9.cell? ⟨h, 0, none⟩ = some (.int .i64 0) := by rw [cell_of_row _ _ 0 _ _ _ hr9]; rfl
    have cq1 : w9.cell? ⟨h, 1, none⟩ = some (.int .i64 0) := by rw [cell_of_row _ _ 1 _ _ _ hr9]; rfl
    have cq2 : w9.cell? ⟨h, 2, none⟩ = some (.int .i64 0) := by rw [cell_of_row _ _ 2 _ _ _ hr9]; rfl
    have cq3 : w9.cell? ⟨h, 3, none⟩ = some (.slice none 0 0) := by rw [cell_of_row _ _ 3 _ _ _ hr9]; rfl
    have cq4 : w9.cell? ⟨h, 4, none⟩ = some (.slice none 0 0) := by rw [cell_of_row _ _ 4 _ _ _ hr9]; rfl
    have cq5 : w9.cell? ⟨h, 5, none⟩ = some (.slice none 0 0) := by rw [cell_of_row _ _ 5 _ _ _ hr9]; rfl
    refine bodyPost_ret (v := .tuple #[.agg #[.int .i64 0, .int .i64 0, .int .i64 0, .slice none 0 0, .slice none 0 0, .slice none 0 0], i64 4]) (by simp [results, Tryd.results16, go_sem, cq0, cq1, cq2, cq3, cq4, cq5]) rfl ?_
    exact ho.out w9 (BB.out.trans (ot.below (Nat.le_refl _) (by have := BB.out.size; omega)))
  have hPz := hPk.out kz
  have hchz := hkr.out kz
  have kz2 : (kk != 0) = false := by simp [kz]
  have hbP : Byt P := by rw [hPz]; exact fun x hx => (List.mem_append.1 hx).elim (head_byt' cz x) (nums_byt _ x)
  have cvW := conv_lie LW2.out
  have cvX := conv_lie ((LX.out).kept BB.out (Nat.le_refl _))
  have hcmp := strOf_eq hbP HB.out
  obtain ⟨A1, hA1⟩ : ∃ A1, strOfNums P = A1 := ⟨_, rfl⟩
  obtain ⟨A2, hA2⟩ : ∃ A2, strOfNums xs = A2 := ⟨_, rfl⟩
  rw [hA1] at cvW hcmp
  rw [hA2] at cvX hcmp
  clear hA1 hA2
  by_cases kx : P = xs
  rotate_left
  · rw [decide_eq_false kx] at hcmp
    have ho := Lib.hid (hNn.out (fun v => kx (by rw [hPz, hveq.out v]; exact (hVh.out v).2)))
    clear hPz hchz hbP kx
    have y0 : wy.cell? ⟨h, 0, none⟩ = some (.int .i64 0) := by rw [cell_of_row _ _ 0 _ _ _ KY2.out]; rfl
    have y1 : wy.cell? ⟨h, 1, none⟩ = some (.int .i64 0) := by rw [cell_of_row _ _ 1 _ _ _ KY2.out]; rfl
    have y2 : wy.cell? ⟨h, 2, none⟩ = some (.int .i64 0) := by rw [cell_of_row _ _ 2 _ _ _ KY2.out]; rfl
    have y3 : wy.cell? ⟨h, 3, none⟩ = some (.slice none 0 0) := by rw [cell_of_row _ _ 3 _ _ _ KY2.out]; rfl
    have y4 : wy.cell? ⟨h, 4, none⟩ = some (.slice none 0 0) := by rw [cell_of_row _ _ 4 _ _ _ KY2.out]; rfl
    have y5 : wy.cell? ⟨h, 5, none⟩ = some (.slice none 0 0) := by rw [cell_of_row _ _ 5 _ _ _ KY2.out]; rfl
    have f0 : wy.frozen? ⟨h, 0, none⟩ = false := by simp [World.frozen?, KY2.out]
    have f1 : wy.frozen? ⟨h, 1, none⟩ = false := by simp [World.frozen?, KY2.out]
    have f2 : wy.frozen? ⟨h, 2, none⟩ = false := by simp [World.frozen?, KY2.out]
    have f3 : wy.frozen? ⟨h, 3, none⟩ = false := by simp [World.frozen?, KY2.out]
    have f4 : wy.frozen? ⟨h, 4, none⟩ = false := by simp [World.frozen?, KY2.out]
    have f5 : wy.frozen? ⟨h, 5, none⟩ = false := by simp [World.frozen?, KY2.out]
    clear RY CY XY BY KY3 HY HN hveq hPk hk0 hkr hch KW KB KP KC2 HB hVh hNh LX LW2 hPl hc1 hc2 hc3 hc4 KV4 KV5 KV6 KV7 KV20 KV30 hok WP WW
    go_wp2
    clear y0 y1 y2 y3 y4 y5 f0 f1 f2 f3 f4 f5
    obtain ⟨w9, hw9⟩ : ∃ w9, w9 = ((((((wy.setCell ⟨h, 0, none⟩ (.int .i64 0)).setCell ⟨h, 1, none⟩ (.int .i64 0)).setCell ⟨h, 2, none⟩ (.int .i64 0)).setCell ⟨h, 3, none⟩ (.slice none 0 0)).setCell ⟨h, 4, none⟩ (.slice none 0 0)).setCell ⟨h, 5, none⟩ (.slice none 0 0)) := ⟨_, rfl⟩
    rw [← hw9]
    have hr9 : w9.heap[h]? = some (.cells #[.int .i64 0, .int .i64 0, .int .i64 0, .slice none 0 0, .slice none 0 0, .slice none 0 0] 26) := by rw [hw9]; exact (Cfg.setCell_row (Cfg.setCell_row (Cfg.setCell_row (Cfg.setCell_row (Cfg.setCell_row (Cfg.setCell_row KY2.out 0 _) 1 _) 2 _) 3 _) 4 _) 5 _)
    have ot : Oth h wy w9 := by rw [hw9]; exact ((((((oth_set h wy 0 _).trans (oth_set h _ 1 _)).trans (oth_set h _ 2 _)).trans (oth_set h _ 3 _)).trans (oth_set h _ 4 _)).trans (oth_set h _ 5 _))
    clear hw9
    have cq0 : w9.cell? ⟨h, 0, none⟩ = some (.int .i64 0) := by rw [cell_of_row _ _ 0 _ _ _ hr9]; rfl
    have cq1 : w9.cell? ⟨h, 1, none⟩ = some (.int .i64 0) := by rw [cell_of_row _ _ 1 _ _ _ hr9]; rfl
    have cq2 : w9.cell? ⟨h, 2, none⟩ = some (.int .i64 0) := by rw [cell_of_row _ _ 2 _ _ _ hr9]; rfl
    have cq3 : w9.cell? ⟨h, 3, none⟩ = some (.slice none 0 0) := by rw [cell_of_row _ _ 3 _ _ _ hr9]; rfl
    have cq4 : w9.cell? ⟨h, 4, none⟩ = some (.slice none 0 0) := by rw [cell_of_row _ _ 4 _ _ _ hr9]; rfl
    have cq5 : w9.cell? ⟨h, 5, none⟩ = some (.slice none 0 0) := by rw [cell_of_row _ _ 5 _ _ _ hr9]; rfl
    refine bodyPost_ret (v := .tuple #[.agg #[.int .i64 0, .int .i64 0, .int .i64 0, .slice none 0 0, .slice none 0 0, .slice none 0 0], i64 4]) (by simp [results, Tryd.results16, go_sem, cq0, cq1, cq2, cq3, cq4, cq5]) rfl ?_
    exact ho.out w9 (BB.out.trans (ot.below (Nat.le_refl _) (by have := BB.out.size; omega)))
  rw [decide_eq_true kx] at hcmp
  have hv : V := Classical.byContradiction (fun nv => hNh.out nv cz hchz (by rw [← hPz]; exact kx))
  have ho := Lib.hid (fun (w9 : World) (ot : Oth h wy w9) => (by
    obtain ⟨q1', d1', q2', d2', q3', d3', e1, e2, e3, -, M1, M2, M3⟩ := (CY.out.oth ot hhh2).lies
    rw [hc1.out] at e1
    rw [hc2.out] at e2
    rw [hc3.out] at e3
    injection e1 with e11 e12 e13
    injection e2 with e21 e22 e23
    injection e3 with e31 e32 e33
    subst e11 e13 e21 e23 e31 e33
    obtain ⟨g4, g5, g6⟩ := hc4.out
    have h1 := hc1.out
    have h2' := hc2.out
    have h3 := hc3.out
    rw [hveq.out hv] at M1 M2 M3 g4 g5 g6 h1 h2' h3
    have := HY.out hv w9 (BB.out.trans (ot.below (Nat.le_refl _) (by have := BB.out.size; omega))) q1 d1 q2 d2 q3 d3 M1 M2 M3
    simp only [cfV, g4, g5, g6, h1, h2', h3] at this
    exact this : r (.returned (.tuple #[.agg #[i64 v4, i64 v5, i64 v6, .slice q1 n1 d1, .slice q2 n2 d2, .slice q3 n3 d3], i64 0])) w9))
  have z0 : wy.cell? ⟨h2, 0, none⟩ = some (i64 v4) := by rw [← hc4.out.1]; exact CY.out.at 0 _ rfl
  have z1 : wy.cell? ⟨h2, 1, none⟩ = some (i64 v5) := by rw [← hc4.out.2.1]; exact CY.out.at 1 _ rfl
  have z2 : wy.cell? ⟨h2, 2, none⟩ = some (i64 v6) := by rw [← hc4.out.2.2]; exact CY.out.at 2 _ rfl
  have z3 := CY.out.at 3 _ rfl
  have z4 := CY.out.at 4 _ rfl
  have z5 := CY.out.at 5 _ rfl
  have y0 : wy.cell? ⟨h, 0, none⟩ = some (.int .i64 0) := by rw [cell_of_row _ _ 0 _ _ _ KY2.out]; rfl
  have y1 : wy.cell? ⟨h, 1, none⟩ = some (.int .i64 0) := by rw [cell_of_row _ _ 1 _ _ _ KY2.out]; rfl
  have y2 : wy.cell? ⟨h, 2, none⟩ = some (.int .i64 0) := by rw [cell_of_row _ _ 2 _ _ _ KY2.out]; rfl
  have y3 : wy.cell? ⟨h, 3, none⟩ = some (.slice none 0 0) := by rw [cell_of_row _ _ 3 _ _ _ KY2.out]; rfl
  have y4 : wy.cell? ⟨h, 4, none⟩ = some (.slice none 0 0) := by rw [cell_of_row _ _ 4 _ _ _ KY2.out]; rfl
  have y5 : wy.cell? ⟨h, 5, none⟩ = some (.slice none 0 0) := by rw [cell_of_row _ _ 5 _ _ _ KY2.out]; rfl
  have f0 : wy.frozen? ⟨h, 0, none⟩ = false := by simp [World.frozen?, KY2.out]
  have f1 : wy.frozen? ⟨h, 1, none⟩ = false := by simp [World.frozen?, KY2.out]
  have f2 : wy.frozen? ⟨h, 2, none⟩ = false := by simp [World.frozen?, KY2.out]
  have f3 : wy.frozen? ⟨h, 3, none⟩ = false := by simp [World.frozen?, KY2.out]
  have f4 : wy.frozen? ⟨h, 4, none⟩ = false := by simp [World.frozen?, KY2.out]
  have f5 : wy.frozen? ⟨h, 5, none⟩ = false := by simp [World.frozen?, KY2.out]
  clear hPz hchz hbP kx hv RY CY XY BY KY3 HY HN hveq hPk hk0 hkr hch KW KB KP KC2 HB hVh hNh LX LW2 hPl hc1 hc2 hc3 hc4 KV4 KV5 KV6 KV7 KV20 KV30 hok WP WW
  go_wp2
  clear y0 y1 y2 y3 y4 y5 f0 f1 f2 f3 f4 f5
  obtain ⟨w9, hw9⟩ : ∃ w9, w9 = ((((((wy.setCell ⟨h, 0, none⟩ (i64 v4)).setCell ⟨h, 1, none⟩ (i64 v5)).setCell ⟨h, 2, none⟩ (i64 v6)).setCell ⟨h, 3, none⟩ (.slice q1 n1 d1)).setCell ⟨h, 4, none⟩ (.slice q2 n2 d2)).setCell ⟨h, 5, none⟩ (.slice q3 n3 d3)) := ⟨_, rfl⟩
  rw [← hw9]
  have hr9 : w9.heap[h]? = some (.cells #[i64 v4, i64 v5, i64 v6, .slice q1 n1 d1, .slice q2 n2 d2, .slice q3 n3 d3] 26) := by rw [hw9]; exact (Cfg.setCell_row (Cfg.setCell_row (Cfg.setCell_row (Cfg.setCell_row (Cfg.setCell_row (Cfg.setCell_row KY2.out 0 _) 1 _) 2 _) 3 _) 4 _) 5 _)
  have ot : Oth h wy w9 := by rw [hw9]; exact ((((((oth_set h wy 0 _).trans (oth_set h _ 1 _)).trans (oth_set h _ 2 _)).trans (oth_set h _ 3 _)).trans (oth_set h _ 4 _)).trans (oth_set h _ 5 _))
  clear hw9
  have cq0 : w9.cell? ⟨h, 0, none⟩ = some (i64 v4) := by rw [cell_of_row _ _ 0 _ _ _ hr9]; rfl
  have cq1 : w9.cell? ⟨h, 1, none⟩ = some (i64 v5) := by rw [cell_of_row _ _ 1 _ _ _ hr9]; rfl
  have cq2 : w9.cell? ⟨h, 2, none⟩ = some (i64 v6) := by rw [cell_of_row _ _ 2 _ _ _ hr9]; rfl
  have cq3 : w9.cell? ⟨h, 3, none⟩ = some (.slice q1 n1 d1) := by rw [cell_of_row _ _ 3 _ _ _ hr9]; rfl
  have cq4 : w9.cell? ⟨h, 4, none⟩ = some (.slice q2 n2 d2) := by rw [cell_of_row _ _ 4 _ _ _ hr9]; rfl
  have cq5 : w9.cell? ⟨h, 5, none⟩ = some (.slice q3 n3 d3) := by rw [cell_of_row _ _ 5 _ _ _ hr9]; rfl
  refine bodyPost_ret (v := .tuple #[.agg #[i64 v4, i64 v5, i64 v6, .slice q1 n1 d1, .slice q2 n2 d2, .slice q3 n3 d3], i64 0]) (by simp [results, Tryd.results16, go_sem, cq0, cq1, cq2, cq3, cq4, cq5]) rfl ?_
  exact ho.out w9 ot
end Go.Proofs.YtogbhgbnminpdaaDoor.Pck
