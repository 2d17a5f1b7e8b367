
/-
  Stay: a lent state is as it was.
-/
import Derived.Test.YtnccfdkkedomcaaCpuSame
import Derived.Test.YtnccfdkkedomcaaCpuEn
import Derived.Test.YtnccfdkkedomcaaCpuNest2
namespace Go.Proofs.Ytnccfdkkedomcaa.Ser
open Go.Proofs.Ytnccfdkkedomcaa
open Go.ChangeShapes Go.WideShapes Go.ChangeAt Go.RowKit
theorem lie_init {k : IntKind} {w : World} {B n c : Nat} {p : Option Addr} {xs : List Int} {x : Int} (h : Lie k w B p (n + 1) c (xs ++ [x])) : Lie k w B p n c xs := by
  have hl : xs.length = n := by have := h.len; simp at this; omega
  refine ⟨hl, by have := h.cap; omega, h.nil, fun hn => ?_⟩
  obtain ⟨b, off, e, h1, h2⟩ := h.at_ (by omega)
  refine ⟨b, off, e, h1, fun i y hy => h2 i y ?_⟩
  rw [List.getElem?_append_left (List.getElem?_eq_some_iff.1 hy).1]; exact hy
theorem lie_last {k : IntKind} {w : World} {B n c g : Nat} {xs : List Int} {x : Int} (h : Lie k w B (some ⟨g, 0, none⟩) (n + 1) c (xs ++ [x])) : w.cell? ⟨g, n, none⟩ = some (.int k x) := by
  have hl : xs.length = n := by have := h.len; simp at this; omega
  obtain ⟨b, off, e, h1, h2⟩ := h.at_ (by omega)
  injection e with e
  injection e with e1 e2
  subst e1 e2
  have := h2 n x (by rw [← hl, List.getElem?_append_right (Nat.le_refl _)]; simp)
  rw [Nat.zero_add] at this
  exact this
/-- A lent state: one number more behind each row. -/
def FullL (w : World) (v : Value) (s : St) : Prop := ∃ g1 q1 g2 q2 g3 q3, v = .agg #[.slice (some ⟨g1, 0, none⟩) s.R.length q1, i64 s.pc, .slice (some ⟨g2, 0, none⟩) s.C.length q2, .bool s.h, .bool s.k, .slice (some ⟨g3, 0, none⟩) s.O.length q3] ∧
  (q1 ≤ maxLen ∧ q2 ≤ maxLen ∧ q3 ≤ maxLen) ∧ Lie .i64 w w.heap.size (some ⟨g1, 0, none⟩) (s.R.length + 1) q1 (s.R ++ [-71]) ∧ Lie .i64 w w.heap.size (some ⟨g2, 0, none⟩) (s.C.length + 1) q2 (s.C ++ [-71]) ∧ Lie .u8 w w.heap.size (some ⟨g3, 0, none⟩) (s.O.length + 1) q3 (s.O ++ [171])
theorem FullL.later {w w' : World} {v : Value} {s : St} (h : FullL w v s) (hb : Below w.heap.size w w') : FullL w' v s := by
  obtain ⟨g1, q1, g2, q2, g3, q3, e, m, l1, l2, l3⟩ := h
  exact ⟨g1, q1, g2, q2, g3, q3, e, m, (l1.kept hb (Nat.le_refl _)).wide hb.size, (l2.kept hb (Nat.le_refl _)).wide hb.size, (l3.kept hb (Nat.le_refl _)).wide hb.size⟩
theorem FullL.lies {w : World} {v : Value} {s : St} (h : FullL w v s) : StL w w.heap.size v s := by
  obtain ⟨g1, q1, g2, q2, g3, q3, e, m, l1, l2, l3⟩ := h
  exact ⟨_, _, _, _, _, _, _, _, _, e, lie_init l1, lie_init l2, lie_init l3⟩
set_option maxRecDepth 100000 in
set_option maxHeartbeats 4000000 in
theorem stay_says {w : World} {v1 v2 : Value} {s : St} (F : FullL w v1 s) (B : StL w w.heap.size v2 s) (hl : s.R.length ≤ 100000 ∧ s.C.length ≤ 100000 ∧ s.O.length ≤ 100000) :
    Calls Try.prog 21 #[v1, v2] w fun e w' => e = .returned (.bool true) ∧ Below w.heap.size w w' := by
  have HSame := Lib.hid (fun (u : World) (k : Below w.heap.size w u) => same_state (F.lies.later k) (B.later k) hl.1 hl.2.1)
  have HF := Lib.hid (fun (u : World) (k : Below w.heap.size w u) => F.later k)
  obtain ⟨g1, q1, g2, q2, g3, q3, rfl, ⟨m1, m2, m3⟩, L1, L2, L3⟩ := F
  obtain ⟨rp, rn, rc, cp, cn, cc, op, on, oc, rfl, h1, h2, h3⟩ := B
  have HC1 := Lib.hid (fun (u : World) (k : Below w.heap.size w u) => lie_last (L1.kept k (Nat.le_refl _)))
  have HC2 := Lib.hid (fun (u : World) (k : Below w.heap.size w u) => lie_last (L2.kept k (Nat.le_refl _)))
  have HC3 := Lib.hid (fun (u : World) (k : Below w.heap.size w u) => lie_last (L3.kept k (Nat.le_refl _)))
  have c1 := L1.cap; have c2 := L2.cap; have c3 := L3.cap
  rw [h1.len] at c1 HC1 HSame ⊢
  rw [h2.len] at c2 HC2 HSame ⊢
  rw [h3.len] at c3 HC3 HSame ⊢
  have b1 : rn ≤ 100000 := by rw [← h1.len]; exact hl.1
  have b2 : cn ≤ 100000 := by rw [← h2.len]; exact hl.2.1
  have b3 : on ≤ 100000 := by rw [← h3.len]; exact hl.2.2
  have i1 : (rn : Int) + 1 ≤ (q1 : Int) := by omega
  have i2 : (cn : Int) + 1 ≤ (q2 : Int) := by omega
  have i3 : (on : Int) + 1 ≤ (q3 : Int) := by omega
  have j1 : (q1 : Int) ≤ 9223372036854775807 := by unfold maxLen at m1; omega
  have j2 : (q2 : Int) ≤ 9223372036854775807 := by unfold maxLen at m2; omega
  have j3 : (q3 : Int) ≤ 9223372036854775807 := by unfold maxLen at m3; omega
  have k1 : (rn : Int) ≤ 100000 := by omega
  have k2 : (cn : Int) ≤ 100000 := by omega
  have k3 : (on : Int) ≤ 100000 := by omega
  have X := Box6.new w (.slice (some ⟨g1, 0, none⟩) rn q1) s.pc (.slice (some ⟨g2, 0, none⟩) cn q2) s.h s.k (.slice (some ⟨g3, 0, none⟩) on q3)
  have hs : (w.alloc (.cells #[.slice (some ⟨g1, 0, none⟩) rn q1, i64 s.pc, .slice (some ⟨g2, 0, none⟩) cn q2, .bool s.h, .bool s.k, .slice (some ⟨g3, 0, none⟩) on q3] 31)).heap.size = w.heap.size + 1 := by simp
  have Y := Box6.new (w.alloc (.cells #[.slice (some ⟨g1, 0, none⟩) rn q1, i64 s.pc, .slice (some ⟨g2, 0, none⟩) cn q2, .bool s.h, .bool s.k, .slice (some ⟨g3, 0, none⟩) on q3] 31)) (.slice rp rn rc) s.pc (.slice cp cn cc) s.h s.k (.slice op on oc)
  have hb1 := (Below.refl w.heap.size w).alloc (Nat.le_refl _) (.cells #[.slice (some ⟨g1, 0, none⟩) rn q1, i64 s.pc, .slice (some ⟨g2, 0, none⟩) cn q2, .bool s.h, .bool s.k, .slice (some ⟨g3, 0, none⟩) on q3] 31)
  have hb2 := hb1.alloc hb1.size (.cells #[.slice rp rn rc, i64 s.pc, .slice cp cn cc, .bool s.h, .bool s.k, .slice op on oc] 31)
  have X2 := X.kept ((Below.refl _ _).alloc (Nat.le_refl _) (.cells #[.slice rp rn rc, i64 s.pc, .slice cp cn cc, .bool s.h, .bool s.k, .slice op on oc] 31)) X.lt
  rw [hs] at Y
  have HX := Lib.hid X2; have HY := Lib.hid Y; have HB := Lib.hid hb2
  clear L1 L2 L3 h1 h2 h3 hl c1 c2 c3 b1 b2 b3 m1 m2 m3 X Y X2 hb1 hb2 hs HF
  go_enter Try.func21, Try.ntmps21
  go_wp2_with (go_at_call 18; refine (HSame.out _ HB.out).mono ?_; rintro e u1 ⟨rfl, t1⟩; have t2 := HB.out.trans (t1.mono HB.out.size); have X1 := HX.out.kept t1 HX.out.lt; have e0 := X1.c0; have e2 := X1.c2; have e5 := X1.c5; have z1 := HC1.out _ t2; have z2 := HC2.out _ t2; have z3 := HC3.out _ t2)
  trace_state
  go_ret
  exact ⟨ret_bool (by simp), t2⟩
end Go.Proofs.Ytnccfdkkedomcaa.Ser
