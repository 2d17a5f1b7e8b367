/-
  The name of every operation, the operation of every name and the text of every instruction are those that the document tells (law IsaNames returns true).
  No condition on the arguments: whatever they are. The card ties the three listed tables of Go's library to the program's text.
-/
import Derived.Test.YtpjonhcbhgalpaaDoorIsaFrame
import Derived.Test.YtpjonhcbhgalpaaDoorCards
import Derived.Test.YtpjonhcbhgalpaaDoorTie
import Derived.SevenTiedAt
import Derived.Test.YtpjonhcbhgalpaaDoorIsaRShow
import Derived.Test.YtpjonhcbhgalpaaDoorIsaROp
import Derived.Deep.RegionHeld3
import Derived.ChangeMaps5
namespace Go.Proofs.YtpjonhcbhgalpaaDoor.isaNames
open Go Go.ChangeShapes Go.WideShapes Go.ChangeAt Go.RowKit
set_option linter.unusedVariables false
theorem keep5 {V u u' : World} {B : Nat} {v0 v1 v2 v3 v4 : Value} (hB : B < V.heap.size) (h : Below u.heap.size u u')
    (hS : u.cell? ⟨B, 0, none⟩ = some v0 ∧ u.cell? ⟨B, 1, none⟩ = some v1 ∧ u.cell? ⟨B, 2, none⟩ = some v2 ∧ u.cell? ⟨B, 3, none⟩ = some v3 ∧ u.cell? ⟨B, 4, none⟩ = some v4 ∧ Below V.heap.size V u) :
    u'.cell? ⟨B, 0, none⟩ = some v0 ∧ u'.cell? ⟨B, 1, none⟩ = some v1 ∧ u'.cell? ⟨B, 2, none⟩ = some v2 ∧ u'.cell? ⟨B, 3, none⟩ = some v3 ∧ u'.cell? ⟨B, 4, none⟩ = some v4 ∧ Below V.heap.size V u' := by
  obtain ⟨h0, h1, h2, h3, h4, hb⟩ := hS
  have hs := hb.size
  have hc : ∀ k, u'.cell? ⟨B, k, none⟩ = u.cell? ⟨B, k, none⟩ := fun k => h.cell (p := ⟨B, k, none⟩) (by show B < _; omega)
  exact ⟨(hc 0).trans h0, (hc 1).trans h1, (hc 2).trans h2, (hc 3).trans h3, (hc 4).trans h4, hb.trans (h.mono hs)⟩
theorem tab5 {W V u : World} {B : Nat} {v0 v1 v2 v3 v4 : Value} (hT : Tab W) (hV : Below W.heap.size W V)
    (hS : u.cell? ⟨B, 0, none⟩ = some v0 ∧ u.cell? ⟨B, 1, none⟩ = some v1 ∧ u.cell? ⟨B, 2, none⟩ = some v2 ∧ u.cell? ⟨B, 3, none⟩ = some v3 ∧ u.cell? ⟨B, 4, none⟩ = some v4 ∧ Below V.heap.size V u) : Tab u :=
  hT.later (hV.trans (hS.2.2.2.2.2.mono hV.size))
theorem below5 {W V u : World} {B : Nat} {v0 v1 v2 v3 v4 : Value} (hV : Below W.heap.size W V)
    (hS : u.cell? ⟨B, 0, none⟩ = some v0 ∧ u.cell? ⟨B, 1, none⟩ = some v1 ∧ u.cell? ⟨B, 2, none⟩ = some v2 ∧ u.cell? ⟨B, 3, none⟩ = some v3 ∧ u.cell? ⟨B, 4, none⟩ = some v4 ∧ Below V.heap.size V u) : Below W.heap.size W u :=
  hV.trans (hS.2.2.2.2.2.mono hV.size)
/-- What the call does. -/
def Fine (W : World) (e : Ending) (W' : World) : Prop := e = .returned (.bool true) ∧ Below W.heap.size W W'
set_option maxHeartbeats 8000000 in
theorem walk (x0 : Int) (w0 : (Lit.int .i64 x0).wf = true) (s1 : ByteArray) (w1 : s1.size ≤ maxLen) (o2 a2 b2 c2 m2 : Int) (wo2 : (Lit.int .i64 o2).wf = true) (wa2 : (Lit.int .i64 a2).wf = true) (wb2 : (Lit.int .i64 b2).wf = true) (wc2 : (Lit.int .i64 c2).wf = true) (wm2 : (Lit.int .i64 m2).wf = true) (W : World) (hT : Tab W) :
    Calls Tryd.prog 3 #[.int .i64 x0, .string s1, insV o2 a2 b2 c2 m2] W (Fine W) := by
  by_cases hl : 1000 < s1.size
  · have hl' : (1000 : Int) < s1.size := by omega
    go_enter Tryd.func3, Tryd.ntmps3
    go_wp2_with (first | (go_at_call 5; refine (alive_says _ (hT.later ((Below.refl _ _).alloc (Nat.le_refl _) _))).mono ?_; rintro e u1 ⟨rfl, hb1⟩))
    go_ret
    exact ⟨ret_bool rfl, ((Below.refl _ _).alloc (Nat.le_refl _) _).trans (hb1.mono (by simp))⟩
  · have hl' : (s1.size : Int) ≤ 1000 := by omega
    have hl2 : s1.size ≤ 1000 := by omega
    clear hl
    cases hn : (opN x0).toList.isEmpty
    · have ho : (opOf (opN x0) == x0) = true := by rw [op_name _ hn]; simp
      go_enter Tryd.func3, Tryd.ntmps3
      go_upto_region 5 with (first | (go_at_call 5; refine (alive_says _ (hT.later ((Below.refl _ _).alloc (Nat.le_refl _) _))).mono ?_; rintro e u1 ⟨rfl, hb1⟩; obtain ⟨hc1, hf1⟩ := bcell hb1; have hz1 : W.heap.size < u1.heap.size := (by have := hb1.size; simp at this; omega); have hV : Below W.heap.size W u1 := ((Below.refl _ _).alloc (Nat.le_refl _) _).trans (hb1.mono (by simp))) | (go_at_call 6; refine (form_says _ _).mono ?_; rintro e w' ⟨rfl, rfl⟩))
      have hr : u1.heap[W.heap.size]? = some (.cells #[.int .i64 o2, .int .i64 a2, .int .i64 b2, .int .i64 c2, .int .i64 m2] 23 (0, 0)) := (hb1.block _ (by simp)).trans (MapKept.heap_alloc W _).1
      have q0 := cell_heap hr 0 _ rfl
      have q1 := cell_heap hr 1 _ rfl
      have q2 := cell_heap hr 2 _ rfl
      have q3 := cell_heap hr 3 _ rfl
      have q4 := cell_heap hr 4 _ rfl
      clear hr hc1 hf1 hb1
      go_region_held3 (fun u' => u'.cell? ⟨W.heap.size, 0, none⟩ = some (.int .i64 o2) ∧ u'.cell? ⟨W.heap.size, 1, none⟩ = some (.int .i64 a2) ∧ u'.cell? ⟨W.heap.size, 2, none⟩ = some (.int .i64 b2) ∧ u'.cell? ⟨W.heap.size, 3, none⟩ = some (.int .i64 c2) ∧ u'.cell? ⟨W.heap.size, 4, none⟩ = some (.int .i64 m2) ∧ Below u1.heap.size u1 u') (first | assumption | (with_reducible exact keep5 hz1 (by assumption) (by assumption)) | exact ⟨q0, q1, q2, q3, q4, Below.refl _ _⟩ | exact ⟨q0, q1, q2, q3, q4, (Below.refl _ _).drew⟩)
        (first | (go_at_call 7; refine (name_says _ _).mono ?_; rintro e t' ⟨rfl, ht'⟩) | (go_at_call 8; refine (op_says _ _).mono ?_; rintro e t' ⟨rfl, ht'⟩) | (go_at_call 9; refine (rop_says _ _).mono ?_; rintro e t' ⟨rfl, rfl⟩) | (go_at_call 10; refine (show_says _ _ _ _ _ _ (tab5 hT hV (by assumption))).mono ?_; rintro e t' ⟨rfl, ht'⟩) | (go_at_call 11; refine (rshow_says _ _ _ _ _ _).mono ?_; rintro e t' ⟨rfl, ht'⟩))
      all_goals go_wp2_with fail
      all_goals go_ret
      all_goals exact ⟨ret_bool (by simp), below5 hV (by assumption)⟩
    · have hx : opN x0 = ⟨#[]⟩ := bytes_ext (by rw [ByteArray.toList_eq] at hn; simpa using hn)
      have hform := form_says x0
      have hname := name_says x0
      rw [hx] at hform hname
      clear hn hx
      go_enter Tryd.func3, Tryd.ntmps3
      go_upto_region 5 with (first | (go_at_call 5; refine (alive_says _ (hT.later ((Below.refl _ _).alloc (Nat.le_refl _) _))).mono ?_; rintro e u1 ⟨rfl, hb1⟩; obtain ⟨hc1, hf1⟩ := bcell hb1; have hz1 : W.heap.size < u1.heap.size := (by have := hb1.size; simp at this; omega); have hV : Below W.heap.size W u1 := ((Below.refl _ _).alloc (Nat.le_refl _) _).trans (hb1.mono (by simp))) | (go_at_call 6; refine (hform _).mono ?_; rintro e w' ⟨rfl, rfl⟩))
      have hr : u1.heap[W.heap.size]? = some (.cells #[.int .i64 o2, .int .i64 a2, .int .i64 b2, .int .i64 c2, .int .i64 m2] 23 (0, 0)) := (hb1.block _ (by simp)).trans (MapKept.heap_alloc W _).1
      have q0 := cell_heap hr 0 _ rfl
      have q1 := cell_heap hr 1 _ rfl
      have q2 := cell_heap hr 2 _ rfl
      have q3 := cell_heap hr 3 _ rfl
      have q4 := cell_heap hr 4 _ rfl
      clear hr hc1 hf1 hb1
      refine wp_region_held_drew (S := (fun u' => u'.cell? ⟨W.heap.size, 0, none⟩ = some (.int .i64 o2) ∧ u'.cell? ⟨W.heap.size, 1, none⟩ = some (.int .i64 a2) ∧ u'.cell? ⟨W.heap.size, 2, none⟩ = some (.int .i64 b2) ∧ u'.cell? ⟨W.heap.size, 3, none⟩ = some (.int .i64 c2) ∧ u'.cell? ⟨W.heap.size, 4, none⟩ = some (.int .i64 m2) ∧ Below u1.heap.size u1 u')) (by kernel_rfl) ?_ (fun hH0 => ?_)
      · ((try dsimp only); (first | assumption | (with_reducible exact keep5 hz1 (by assumption) (by assumption)) | exact ⟨q0, q1, q2, q3, q4, Below.refl _ _⟩ | exact ⟨q0, q1, q2, q3, q4, (Below.refl _ _).drew⟩))
      refine wpAnyH_take (i := 0) (oi := { dst := some 24, op := Go.Op.move (Go.Operand.tmp 0), type := 3, pos := "law.go:57", after := #[], guard := none }) (v := ?_) rfl (by kernel_rfl) (by kernel_rfl) (by kernel_rfl) (fun _ _ _ h => h) (Or.inl ⟨by rfl, ?_⟩) (by assumption) ?_
      rotate_left
      · ((intro w hSw; (try dsimp only at hSw); go_simp) <;> (with_reducible rfl))
      try simp only [Act.put, List.setIfInBounds_toArray, List.set_cons_zero, List.set_cons_succ]
      refine wpAnyH_take (i := 2) (oi := { dst := some 26, op := Go.Op.move (Go.Operand.tmp 9), type := 9, pos := "law.go:57", after := #[], guard := none }) (v := ?_) rfl (by kernel_rfl) (by kernel_rfl) (by kernel_rfl) (fun _ _ _ h => h) (Or.inl ⟨by rfl, ?_⟩) (by assumption) ?_
      rotate_left
      · ((intro w hSw; (try dsimp only at hSw); go_simp) <;> (with_reducible rfl))
      try simp only [Act.put, List.setIfInBounds_toArray, List.set_cons_zero, List.set_cons_succ]
      refine wpAnyH_ready (rs := [1]) (by kernel_rfl) (by simp) ?_
      refine AllReadyH.cons (o := { dst := some 25, op := Go.Op.call { callee := Go.Callee.value (Go.Operand.func 7), args := #[Go.Operand.tmp 24], argTypes := #[3] }, type := 9, pos := "law.go:57", after := #[{ on := 0, ground := Go.Ground.data }], guard := none }) rfl (fun K hK => ?_) AllReadyH.nil
      go_simp
      (first | (go_at_call 7; refine (hname _).mono ?_; rintro e t' ⟨rfl, ht'⟩) | (go_at_call 8; refine (op_says _ _).mono ?_; rintro e t' ⟨rfl, ht'⟩) | (go_at_call 9; refine (rop_says _ _).mono ?_; rintro e t' ⟨rfl, rfl⟩) | (go_at_call 10; refine (show_says _ _ _ _ _ _ (tab5 hT hV (by assumption))).mono ?_; rintro e t' ⟨rfl, ht'⟩) | (go_at_call 11; refine (rshow_says _ _ _ _ _ _).mono ?_; rintro e t' ⟨rfl, ht'⟩))
      refine hK.out _ _ ?_ (fun hH1 => ?_)
      · ((try dsimp only); (first | assumption | (with_reducible exact keep5 hz1 (by assumption) (by assumption)) | exact ⟨q0, q1, q2, q3, q4, Below.refl _ _⟩ | exact ⟨q0, q1, q2, q3, q4, (Below.refl _ _).drew⟩))
      clear hK K hH0
      try simp only [Act.put, List.setIfInBounds_toArray, List.set_cons_zero, List.set_cons_succ]
      refine wpAnyH_take (i := 3) (oi := { dst := some 27, op := Go.Op.binOp Go.BinOp.eql 9 (Go.Operand.tmp 25) (Go.Operand.tmp 26) 9, type := 4, pos := "law.go:57", after := #[{ on := 1, ground := Go.Ground.data }, { on := 2, ground := Go.Ground.data }], guard := none }) (v := ?_) rfl (by kernel_rfl) (by kernel_rfl) (by kernel_rfl) (fun _ _ _ h => h) (Or.inl ⟨by rfl, ?_⟩) (by assumption) ?_
      rotate_left
      · ((intro w hSw; (try dsimp only at hSw); go_simp) <;> (with_reducible rfl))
      try simp only [Act.put, List.setIfInBounds_toArray, List.set_cons_zero, List.set_cons_succ]
      refine wpAnyH_take (i := 4) (oi := { dst := some 28, op := Go.Op.move (Go.Operand.tmp 27), type := 4, pos := "law.go:57", after := #[{ on := 3, ground := Go.Ground.data }, { on := 1, ground := Go.Ground.chain }], guard := none }) (v := ?_) rfl (by kernel_rfl) (by kernel_rfl) (by kernel_rfl) (fun _ _ _ h => h) (Or.inl ⟨by rfl, ?_⟩) (by assumption) ?_
      rotate_left
      · ((intro w hSw; (try dsimp only at hSw); go_simp) <;> (with_reducible rfl))
      try simp only [Act.put, List.setIfInBounds_toArray, List.set_cons_zero, List.set_cons_succ]
      refine wpAnyH_take (i := 5) (oi := { dst := some 29, op := Go.Op.move (Go.Operand.tmp 1), type := 9, pos := "law.go:57", after := #[{ on := 4, ground := Go.Ground.guard }], guard := some (4, true) }) (v := ?_) rfl (by kernel_rfl) (by kernel_rfl) (by kernel_rfl) (fun _ _ _ h => h) (Or.inl ⟨by rfl, ?_⟩) (by assumption) ?_
      rotate_left
      · ((intro w hSw; (try dsimp only at hSw); go_simp) <;> (with_reducible rfl))
      try simp only [Act.put, List.setIfInBounds_toArray, List.set_cons_zero, List.set_cons_succ]
      refine wpAnyH_take (i := 7) (oi := { dst := some 31, op := Go.Op.move (Go.Operand.tmp 1), type := 9, pos := "law.go:57", after := #[{ on := 4, ground := Go.Ground.guard }], guard := some (4, true) }) (v := ?_) rfl (by kernel_rfl) (by kernel_rfl) (by kernel_rfl) (fun _ _ _ h => h) (Or.inl ⟨by rfl, ?_⟩) (by assumption) ?_
      rotate_left
      · ((intro w hSw; (try dsimp only at hSw); go_simp) <;> (with_reducible rfl))
      try simp only [Act.put, List.setIfInBounds_toArray, List.set_cons_zero, List.set_cons_succ]
      refine wpAnyH_ready (rs := [6]) (by kernel_rfl) (by simp) ?_
      refine AllReadyH.cons (o := { dst := some 30, op := Go.Op.call { callee := Go.Callee.value (Go.Operand.func 8), args := #[Go.Operand.tmp 29], argTypes := #[9] }, type := 3, pos := "law.go:57", after := #[{ on := 5, ground := Go.Ground.data }, { on := 4, ground := Go.Ground.chain }, { on := 4, ground := Go.Ground.guard }], guard := some (4, true) }) rfl (fun K hK => ?_) AllReadyH.nil
      go_simp
      (first | (go_at_call 7; refine (hname _).mono ?_; rintro e t' ⟨rfl, ht'⟩) | (go_at_call 8; refine (op_says _ _).mono ?_; rintro e t' ⟨rfl, ht'⟩) | (go_at_call 9; refine (rop_says _ _).mono ?_; rintro e t' ⟨rfl, rfl⟩) | (go_at_call 10; refine (show_says _ _ _ _ _ _ (tab5 hT hV (by assumption))).mono ?_; rintro e t' ⟨rfl, ht'⟩) | (go_at_call 11; refine (rshow_says _ _ _ _ _ _).mono ?_; rintro e t' ⟨rfl, ht'⟩))
      refine hK.out _ _ ?_ (fun hH2 => ?_)
      · ((try dsimp only); (first | assumption | (with_reducible exact keep5 hz1 (by assumption) (by assumption)) | exact ⟨q0, q1, q2, q3, q4, Below.refl _ _⟩ | exact ⟨q0, q1, q2, q3, q4, (Below.refl _ _).drew⟩))
      clear hK K hH1
      try simp only [Act.put, List.setIfInBounds_toArray, List.set_cons_zero, List.set_cons_succ]
      refine wpAnyH_ready (rs := [8]) (by kernel_rfl) (by simp) ?_
      refine AllReadyH.cons (o := { dst := some 32, op := Go.Op.call { callee := Go.Callee.value (Go.Operand.func 9), args := #[Go.Operand.tmp 31], argTypes := #[9] }, type := 3, pos := "law.go:57", after := #[{ on := 7, ground := Go.Ground.data }, { on := 6, ground := Go.Ground.chain }, { on := 4, ground := Go.Ground.guard }], guard := some (4, true) }) rfl (fun K hK => ?_) AllReadyH.nil
      go_simp
      (first | (go_at_call 7; refine (hname _).mono ?_; rintro e t' ⟨rfl, ht'⟩) | (go_at_call 8; refine (op_says _ _).mono ?_; rintro e t' ⟨rfl, ht'⟩) | (go_at_call 9; refine (rop_says _ _).mono ?_; rintro e t' ⟨rfl, rfl⟩) | (go_at_call 10; refine (show_says _ _ _ _ _ _ (tab5 hT hV (by assumption))).mono ?_; rintro e t' ⟨rfl, ht'⟩) | (go_at_call 11; refine (rshow_says _ _ _ _ _ _).mono ?_; rintro e t' ⟨rfl, ht'⟩))
      refine hK.out _ _ ?_ (fun hH3 => ?_)
      · ((try dsimp only); (first | assumption | (with_reducible exact keep5 hz1 (by assumption) (by assumption)) | exact ⟨q0, q1, q2, q3, q4, Below.refl _ _⟩ | exact ⟨q0, q1, q2, q3, q4, (Below.refl _ _).drew⟩))
      clear hK K hH2
      try simp only [Act.put, List.setIfInBounds_toArray, List.set_cons_zero, List.set_cons_succ]
      refine wpAnyH_take (i := 9) (oi := { dst := some 33, op := Go.Op.binOp Go.BinOp.eql 3 (Go.Operand.tmp 30) (Go.Operand.tmp 32) 3, type := 4, pos := "law.go:57", after := #[{ on := 6, ground := Go.Ground.data }, { on := 8, ground := Go.Ground.data }, { on := 4, ground := Go.Ground.guard }], guard := some (4, true) }) (v := ?_) rfl (by kernel_rfl) (by kernel_rfl) (by kernel_rfl) (fun _ _ _ h => h) (Or.inl ⟨by rfl, ?_⟩) (by assumption) ?_
      rotate_left
      · ((intro w hSw; (try dsimp only at hSw); go_simp) <;> (with_reducible rfl))
      try simp only [Act.put, List.setIfInBounds_toArray, List.set_cons_zero, List.set_cons_succ]
      refine wpAnyH_take (i := 10) (oi := { dst := some 34, op := Go.Op.pick (Go.Operand.tmp 28) (Go.Operand.tmp 33) (Go.Operand.const (Go.Value.bool false)), type := 4, pos := "law.go:57", after := #[{ on := 4, ground := Go.Ground.data }, { on := 9, ground := Go.Ground.data }], guard := none }) (v := ?_) rfl (by kernel_rfl) (by kernel_rfl) (by kernel_rfl) (fun _ _ _ h => h) (Or.inl ⟨by rfl, ?_⟩) (by assumption) ?_
      rotate_left
      · ((intro w hSw; (try dsimp only at hSw); go_simp) <;> (with_reducible rfl))
      try simp only [Act.put, List.setIfInBounds_toArray, List.set_cons_zero, List.set_cons_succ]
      refine wpAnyH_take (i := 11) (oi := { dst := some 35, op := Go.Op.move (Go.Operand.tmp 34), type := 4, pos := "law.go:57", after := #[{ on := 10, ground := Go.Ground.data }, { on := 8, ground := Go.Ground.chain }], guard := none }) (v := ?_) rfl (by kernel_rfl) (by kernel_rfl) (by kernel_rfl) (fun _ _ _ h => h) (Or.inl ⟨by rfl, ?_⟩) (by assumption) ?_
      rotate_left
      · ((intro w hSw; (try dsimp only at hSw); go_simp) <;> (with_reducible rfl))
      try simp only [Act.put, List.setIfInBounds_toArray, List.set_cons_zero, List.set_cons_succ]
      refine wpAnyH_take (i := 12) (oi := { dst := some 36, op := Go.Op.load 23 (Go.Operand.tmp 5), type := 23, pos := "law.go:57", after := #[{ on := 11, ground := Go.Ground.guard }], guard := some (11, true) }) (v := ?_) rfl (by kernel_rfl) (by kernel_rfl) (by kernel_rfl) (fun _ _ _ h => h) (Or.inl ⟨by rfl, ?_⟩) (by assumption) ?_
      rotate_left
      · ((intro w hSw; (try dsimp only at hSw); go_simp) <;> (with_reducible rfl))
      try simp only [Act.put, List.setIfInBounds_toArray, List.set_cons_zero, List.set_cons_succ]
      refine wpAnyH_take (i := 14) (oi := { dst := some 38, op := Go.Op.load 23 (Go.Operand.tmp 5), type := 23, pos := "law.go:57", after := #[{ on := 11, ground := Go.Ground.guard }], guard := some (11, true) }) (v := ?_) rfl (by kernel_rfl) (by kernel_rfl) (by kernel_rfl) (fun _ _ _ h => h) (Or.inl ⟨by rfl, ?_⟩) (by assumption) ?_
      rotate_left
      · ((intro w hSw; (try dsimp only at hSw); go_simp) <;> (with_reducible rfl))
      try simp only [Act.put, List.setIfInBounds_toArray, List.set_cons_zero, List.set_cons_succ]
      refine wpAnyH_ready (rs := [13]) (by kernel_rfl) (by simp) ?_
      refine AllReadyH.cons (o := { dst := some 37, op := Go.Op.call { callee := Go.Callee.value (Go.Operand.func 10), args := #[Go.Operand.tmp 36], argTypes := #[23] }, type := 9, pos := "law.go:57", after := #[{ on := 12, ground := Go.Ground.data }, { on := 11, ground := Go.Ground.chain }, { on := 11, ground := Go.Ground.guard }], guard := some (11, true) }) rfl (fun K hK => ?_) AllReadyH.nil
      go_simp
      (first | (go_at_call 7; refine (hname _).mono ?_; rintro e t' ⟨rfl, ht'⟩) | (go_at_call 8; refine (op_says _ _).mono ?_; rintro e t' ⟨rfl, ht'⟩) | (go_at_call 9; refine (rop_says _ _).mono ?_; rintro e t' ⟨rfl, rfl⟩) | (go_at_call 10; refine (show_says _ _ _ _ _ _ (tab5 hT hV (by assumption))).mono ?_; rintro e t' ⟨rfl, ht'⟩) | (go_at_call 11; refine (rshow_says _ _ _ _ _ _).mono ?_; rintro e t' ⟨rfl, ht'⟩))
      refine hK.out _ _ ?_ (fun hH4 => ?_)
      · ((try dsimp only); (first | assumption | (with_reducible exact keep5 hz1 (by assumption) (by assumption)) | exact ⟨q0, q1, q2, q3, q4, Below.refl _ _⟩ | exact ⟨q0, q1, q2, q3, q4, (Below.refl _ _).drew⟩))
      clear hK K hH3
      try simp only [Act.put, List.setIfInBounds_toArray, List.set_cons_zero, List.set_cons_succ]
      refine wpAnyH_ready (rs := [15]) (by kernel_rfl) (by simp) ?_
      refine AllReadyH.cons (o := { dst := some 39, op := Go.Op.call { callee := Go.Callee.value (Go.Operand.func 11), args := #[Go.Operand.tmp 38], argTypes := #[23] }, type := 9, pos := "law.go:57", after := #[{ on := 14, ground := Go.Ground.data }, { on := 13, ground := Go.Ground.chain }, { on := 11, ground := Go.Ground.guard }], guard := some (11, true) }) rfl (fun K hK => ?_) AllReadyH.nil
      go_simp
      (first | (go_at_call 7; refine (hname _).mono ?_; rintro e t' ⟨rfl, ht'⟩) | (go_at_call 8; refine (op_says _ _).mono ?_; rintro e t' ⟨rfl, ht'⟩) | (go_at_call 9; refine (rop_says _ _).mono ?_; rintro e t' ⟨rfl, rfl⟩) | (go_at_call 10; refine (show_says _ _ _ _ _ _ (tab5 hT hV (by assumption))).mono ?_; rintro e t' ⟨rfl, ht'⟩) | (go_at_call 11; refine (rshow_says _ _ _ _ _ _).mono ?_; rintro e t' ⟨rfl, ht'⟩))
      refine hK.out _ _ ?_ (fun hH5 => ?_)
      · ((try dsimp only); (first | assumption | (with_reducible exact keep5 hz1 (by assumption) (by assumption)) | exact ⟨q0, q1, q2, q3, q4, Below.refl _ _⟩ | exact ⟨q0, q1, q2, q3, q4, (Below.refl _ _).drew⟩))
      clear hK K hH4
      try simp only [Act.put, List.setIfInBounds_toArray, List.set_cons_zero, List.set_cons_succ]
      refine wpAnyH_take (i := 16) (oi := { dst := some 40, op := Go.Op.binOp Go.BinOp.eql 9 (Go.Operand.tmp 37) (Go.Operand.tmp 39) 9, type := 4, pos := "law.go:57", after := #[{ on := 13, ground := Go.Ground.data }, { on := 15, ground := Go.Ground.data }, { on := 11, ground := Go.Ground.guard }], guard := some (11, true) }) (v := ?_) rfl (by kernel_rfl) (by kernel_rfl) (by kernel_rfl) (fun _ _ _ h => h) (Or.inl ⟨by rfl, ?_⟩) (by assumption) ?_
      rotate_left
      · ((intro w hSw; (try dsimp only at hSw); go_simp) <;> (with_reducible rfl))
      try simp only [Act.put, List.setIfInBounds_toArray, List.set_cons_zero, List.set_cons_succ]
      refine wpAnyH_take (i := 17) (oi := { dst := some 41, op := Go.Op.pick (Go.Operand.tmp 35) (Go.Operand.tmp 40) (Go.Operand.const (Go.Value.bool false)), type := 4, pos := "law.go:57", after := #[{ on := 11, ground := Go.Ground.data }, { on := 16, ground := Go.Ground.data }], guard := none }) (v := ?_) rfl (by kernel_rfl) (by kernel_rfl) (by kernel_rfl) (fun _ _ _ h => h) (Or.inl ⟨by rfl, ?_⟩) (by assumption) ?_
      rotate_left
      · ((intro w hSw; (try dsimp only at hSw); go_simp) <;> (with_reducible rfl))
      try simp only [Act.put, List.setIfInBounds_toArray, List.set_cons_zero, List.set_cons_succ]
      refine wpAnyH_take (i := 18) (oi := { dst := some 42, op := Go.Op.move (Go.Operand.tmp 41), type := 4, pos := "law.go:57", after := #[{ on := 17, ground := Go.Ground.data }, { on := 15, ground := Go.Ground.chain }], guard := none }) (v := ?_) rfl (by kernel_rfl) (by kernel_rfl) (by kernel_rfl) (fun _ _ _ h => h) (Or.inl ⟨by rfl, ?_⟩) (by assumption) ?_
      rotate_left
      · ((intro w hSw; (try dsimp only at hSw); go_simp) <;> (with_reducible rfl))
      try simp only [Act.put, List.setIfInBounds_toArray, List.set_cons_zero, List.set_cons_succ]
      refine wpAnyH_take (i := 19) (oi := { dst := some 43, op := Go.Op.move (Go.Operand.tmp 9), type := 9, pos := "law.go:57", after := #[{ on := 18, ground := Go.Ground.guard }], guard := some (18, true) }) (v := ?_) rfl (by kernel_rfl) (by kernel_rfl) (by kernel_rfl) (fun _ _ _ h => h) (Or.inl ⟨by rfl, ?_⟩) (by assumption) ?_
      rotate_left
      · ((intro w hSw; (try dsimp only at hSw); go_simp) <;> (with_reducible rfl))
      try simp only [Act.put, List.setIfInBounds_toArray, List.set_cons_zero, List.set_cons_succ]
      refine wpAnyH_take (i := 20) (oi := { dst := some 44, op := Go.Op.binOp Go.BinOp.eql 9 (Go.Operand.tmp 43) (Go.Operand.const (Go.Value.string { data := #[] })) 9, type := 4, pos := "law.go:57", after := #[{ on := 19, ground := Go.Ground.data }, { on := 18, ground := Go.Ground.guard }], guard := some (18, true) }) (v := ?_) rfl (by kernel_rfl) (by kernel_rfl) (by kernel_rfl) (fun _ _ _ h => h) (Or.inl ⟨by rfl, ?_⟩) (by assumption) ?_
      rotate_left
      · ((intro w hSw; (try dsimp only at hSw); go_simp) <;> (with_reducible rfl))
      try simp only [Act.put, List.setIfInBounds_toArray, List.set_cons_zero, List.set_cons_succ]
      refine wpAnyH_take (i := 21) (oi := { dst := some 45, op := Go.Op.move (Go.Operand.tmp 44), type := 4, pos := "law.go:57", after := #[{ on := 20, ground := Go.Ground.data }, { on := 18, ground := Go.Ground.chain }, { on := 18, ground := Go.Ground.guard }], guard := some (18, true) }) (v := ?_) rfl (by kernel_rfl) (by kernel_rfl) (by kernel_rfl) (fun _ _ _ h => h) (Or.inl ⟨by rfl, ?_⟩) (by assumption) ?_
      rotate_left
      · ((intro w hSw; (try dsimp only at hSw); go_simp) <;> (with_reducible rfl))
      try simp only [Act.put, List.setIfInBounds_toArray, List.set_cons_zero, List.set_cons_succ]
      refine wpAnyH_take (i := 22) (oi := { dst := some 46, op := Go.Op.move (Go.Operand.tmp 9), type := 9, pos := "law.go:57", after := #[{ on := 21, ground := Go.Ground.guard }], guard := some (21, false) }) (v := undef) rfl (by kernel_rfl) (by kernel_rfl) (by kernel_rfl) (fun _ _ _ h => h) (Or.inr ⟨by rfl, rfl⟩) (by assumption) ?_
      try simp only [Act.put, List.setIfInBounds_toArray, List.set_cons_zero, List.set_cons_succ]
      refine wpAnyH_take (i := 23) (oi := { dst := some 47, op := Go.Op.call { callee := Go.Callee.value (Go.Operand.func 8), args := #[Go.Operand.tmp 46], argTypes := #[9] }, type := 3, pos := "law.go:57", after := #[{ on := 22, ground := Go.Ground.data }, { on := 21, ground := Go.Ground.chain }, { on := 21, ground := Go.Ground.guard }], guard := some (21, false) }) (v := undef) rfl (by kernel_rfl) (by kernel_rfl) (by kernel_rfl) (fun _ _ _ h => h) (Or.inr ⟨by rfl, rfl⟩) (by assumption) ?_
      try simp only [Act.put, List.setIfInBounds_toArray, List.set_cons_zero, List.set_cons_succ]
      refine wpAnyH_take (i := 24) (oi := { dst := some 48, op := Go.Op.move (Go.Operand.tmp 0), type := 3, pos := "law.go:57", after := #[{ on := 21, ground := Go.Ground.guard }], guard := some (21, false) }) (v := undef) rfl (by kernel_rfl) (by kernel_rfl) (by kernel_rfl) (fun _ _ _ h => h) (Or.inr ⟨by rfl, rfl⟩) (by assumption) ?_
      try simp only [Act.put, List.setIfInBounds_toArray, List.set_cons_zero, List.set_cons_succ]
      refine wpAnyH_take (i := 25) (oi := { dst := some 49, op := Go.Op.binOp Go.BinOp.eql 3 (Go.Operand.tmp 47) (Go.Operand.tmp 48) 3, type := 4, pos := "law.go:57", after := #[{ on := 23, ground := Go.Ground.data }, { on := 24, ground := Go.Ground.data }, { on := 21, ground := Go.Ground.guard }], guard := some (21, false) }) (v := undef) rfl (by kernel_rfl) (by kernel_rfl) (by kernel_rfl) (fun _ _ _ h => h) (Or.inr ⟨by rfl, rfl⟩) (by assumption) ?_
      try simp only [Act.put, List.setIfInBounds_toArray, List.set_cons_zero, List.set_cons_succ]
      refine wpAnyH_take (i := 26) (oi := { dst := some 50, op := Go.Op.pick (Go.Operand.tmp 45) (Go.Operand.const (Go.Value.bool true)) (Go.Operand.tmp 49), type := 4, pos := "law.go:57", after := #[{ on := 21, ground := Go.Ground.data }, { on := 25, ground := Go.Ground.data }, { on := 18, ground := Go.Ground.guard }], guard := some (18, true) }) (v := ?_) rfl (by kernel_rfl) (by kernel_rfl) (by kernel_rfl) (fun _ _ _ h => h) (Or.inl ⟨by rfl, ?_⟩) (by assumption) ?_
      rotate_left
      · ((intro w hSw; (try dsimp only at hSw); go_simp) <;> (with_reducible rfl))
      try simp only [Act.put, List.setIfInBounds_toArray, List.set_cons_zero, List.set_cons_succ]
      refine wpAnyH_take (i := 27) (oi := { dst := some 51, op := Go.Op.pick (Go.Operand.tmp 42) (Go.Operand.tmp 50) (Go.Operand.const (Go.Value.bool false)), type := 4, pos := "law.go:57", after := #[{ on := 18, ground := Go.Ground.data }, { on := 26, ground := Go.Ground.data }], guard := none }) (v := ?_) rfl (by kernel_rfl) (by kernel_rfl) (by kernel_rfl) (fun _ _ _ h => h) (Or.inl ⟨by rfl, ?_⟩) (by assumption) ?_
      rotate_left
      · ((intro w hSw; (try dsimp only at hSw); go_simp) <;> (with_reducible rfl))
      try simp only [Act.put, List.setIfInBounds_toArray, List.set_cons_zero, List.set_cons_succ]
      refine wpAnyH_take (i := 28) (oi := { dst := some 6, op := Go.Op.assign (Go.Operand.tmp 51), type := 4, pos := "law.go:57", after := #[{ on := 27, ground := Go.Ground.data }, { on := 23, ground := Go.Ground.chain }, { on := 0, ground := Go.Ground.phase }, { on := 1, ground := Go.Ground.phase }, { on := 2, ground := Go.Ground.phase }, { on := 3, ground := Go.Ground.phase }, { on := 4, ground := Go.Ground.phase }, { on := 5, ground := Go.Ground.phase }, { on := 6, ground := Go.Ground.phase }, { on := 7, ground := Go.Ground.phase }, { on := 8, ground := Go.Ground.phase }, { on := 9, ground := Go.Ground.phase }, { on := 10, ground := Go.Ground.phase }, { on := 11, ground := Go.Ground.phase }, { on := 12, ground := Go.Ground.phase }, { on := 13, ground := Go.Ground.phase }, { on := 14, ground := Go.Ground.phase }, { on := 15, ground := Go.Ground.phase }, { on := 16, ground := Go.Ground.phase }, { on := 17, ground := Go.Ground.phase }, { on := 18, ground := Go.Ground.phase }, { on := 19, ground := Go.Ground.phase }, { on := 20, ground := Go.Ground.phase }, { on := 21, ground := Go.Ground.phase }, { on := 22, ground := Go.Ground.phase }, { on := 23, ground := Go.Ground.phase }, { on := 24, ground := Go.Ground.phase }, { on := 25, ground := Go.Ground.phase }, { on := 26, ground := Go.Ground.phase }, { on := 27, ground := Go.Ground.phase }], guard := none }) (v := ?_) rfl (by kernel_rfl) (by kernel_rfl) (by kernel_rfl) (fun _ _ _ h => h) (Or.inl ⟨by rfl, ?_⟩) (by assumption) ?_
      rotate_left
      · ((intro w hSw; (try dsimp only at hSw); go_simp) <;> (with_reducible rfl))
      try simp only [Act.put, List.setIfInBounds_toArray, List.set_cons_zero, List.set_cons_succ]
      refine wpAnyH_done (by kernel_rfl) ?_ _
      all_goals go_wp2_with fail
      all_goals go_ret
      all_goals exact ⟨ret_bool (by simp), below5 hV (by assumption)⟩
set_option maxRecDepth 100000 in
theorem door_met (os : Os) (args : Array Value) : laidMetH Tryd.prog laid3 ((World.doorLaid Tryd.prog 4000 os).forCall (fun _ _ => 0) ⟨#[], args, []⟩).memory := by
  rw [MakeChecks.laidMetH_plain _ _ _ (by kernel_rfl)]
  exact laidMet_of_run' 8 (by kernel_rfl) (by kernel_rfl)
set_option maxRecDepth 100000 in
theorem lifted (os : Os) (started : os.Started) (H : Type) (enc : TypeId × Value → H) :
    ReturnsInHanded {} Tryd.checked os 3 .any (fun w args => (Rows.isaNamesSpec.pre enc Tryd.prog Tryd.f3 [] false w args ∧ laidMetH Tryd.prog laid3 w) ∧ sizedMet enc Tryd.prog Tryd.f3 (OpenSpec.ofChange Rows.isaNamesSpec) false w args)
      (Rows.isaNamesSpec.post enc Tryd.prog Tryd.f3 false true false false) := by
  refine returnsInHanded_of_change_and (C := Tryd.checked) (X := fun w _ => laidMetH Tryd.prog laid3 w) (fun _ _ _ hh h => h.of_heap hh) own started (by kernel_rfl) Tryd.func3
    (ChangeSpec.witness_shaped (enc := enc) (C := Tryd.checked) (os := os) (X := fun w _ => laidMetH Tryd.prog laid3 w) false (World.doorLaid Tryd.prog 4000 os) #[.int .i64 0, .string ⟨#[]⟩, insV 0 0 0 0 0] 8 rfl (World.shaped_of_RefB (by kernel_rfl) (by kernel_rfl)) (by kernel_rfl) (by kernel_rfl) (by kernel_rfl) (door_met os _)) ?_
  intro W base args ds gs before hval0 hW _ _ hL _
  have hval : ∀ (j : Nat) t v, Tryd.f3.params[j]? = some t → args[j]? = some v → Value.okWide Tryd.prog W .any base t v := hval0
  have hW' := hW
  obtain ⟨p, q, hA0, hV, rfl, hfz, hnd⟩ := hW
  have hA : DataW.TrodAll enc Tryd.prog W 0 (fun _ => true) true Tryd.f3.params.toList args.toList ds p := hA0
  rw [Tryd.params3] at hA hval
  obtain ⟨v0, vs0, d0, ds0, p0, q0, hargs, rfl, rfl, h0, r0⟩ := trodAll_cons hA
  obtain ⟨v1, vs1, d1, ds1, p1, q1, rfl, rfl, rfl, h1, r1⟩ := trodAll_cons r0
  obtain ⟨v2, vs2, d2, ds2, p2, q2, rfl, rfl, rfl, h2, r2⟩ := trodAll_cons r1
  obtain ⟨rfl, rfl, rfl⟩ := trodAll_nil r2
  obtain rfl : args = #[v0, v1, v2] := by cases args; simp_all
  obtain ⟨rfl, rfl⟩ := trodVars_none hV
  obtain ⟨x0, rfl, rfl, rfl, w0⟩ := open_int Tryd.underlying3 (hval 0 3 v0 rfl rfl) h0
  obtain ⟨s1, rfl, rfl, rfl, w1⟩ := Go.ChangeMaps.open_string Tryd.underlying9 (hval 1 9 v1 rfl rfl) h1
  obtain ⟨o2, a2, b2, c2, m2, rfl, rfl, rfl, wo2, wa2, wb2, wc2, wm2⟩ := open_ins (hval 2 23 v2 rfl rfl) h2
  have hT := tab_of_laid hL
  clear hA0 hval0
  simp only [List.append_nil] at hW'
  refine (walk x0 w0 s1 w1 o2 a2 b2 c2 m2 wo2 wa2 wb2 wc2 wm2 W hT).mono fun e W' ⟨he, hb⟩ => ?_
  subst he
  exact ⟨_, rfl, _, _, _, [], [], [], hW', trodAll_cons_mk (shut_bool Tryd.underlying4 _) trodAll_mk0, (trodAll_cons_mk (shut_int Tryd.underlying3 w0) (trodAll_cons_mk (Go.ChangeMaps.shut_string Tryd.underlying9 w1) (trodAll_cons_mk (shut_ins wo2 wa2 wb2 wc2 wm2) trodAll_mk0))), rfl, hb.frame _, fun h => by cases h⟩
theorem over : Rows.IsaNamesSaid :=
  OpenClaim.holds_of_wide 3 Tryd.f3 rfl rfl rfl rfl rfl rfl rfl ⟨rfl, rfl, rfl, rfl, rfl⟩ rfl rfl rfl rfl rfl (by kernel_rfl) Tryd.func3 (by kernel_rfl)
    (of_decide_eq_true (by kernel_rfl)) (by unfold Func.isWrapper; first | (rw [if_pos (by decide +kernel)]; kernel_rfl) | (rw [if_neg (by decide +kernel)]; exact ⟨rfl, rfl⟩))
    (fun os started H enc _ => lifted os started H enc)
/-- THE STATEMENT: the tied card. -/
theorem proved : Rows.IsaNamesCardSaid :=
  Claim7.holds_tied_plain_at .later [] [.data, .data, .data] true (true, "6753cfa9d74ad9fbf2ab071209190af29343bcd78e9a87f831d0e1e71281b9a9") false
    over (fun _ h => by cases h) (by kernel_rfl) (fun _ h => by cases h) isaNames_row_tie rfl ⟨rfl, rfl⟩ (by kernel_rfl) rfl
    (fun f fn hf hfn => by
      obtain rfl : f = 3 := Option.some.inj ((show Tryd.prog.funcNamed "trunnion/trunnionlaw2.IsaNames" = some 3 by kernel_rfl).symm.trans hf) |>.symm
      obtain rfl : fn = Tryd.f3 := (Option.some.inj (Tryd.func3.symm.trans hfn)).symm
      exact ⟨by kernel_rfl, fun j t ht => by
        rw [Tryd.params3] at ht
        have hm : t ∈ [3, 9, 23] := by simpa using Array.mem_of_getElem? ht
        have hall : ([3, 9, 23].all fun u => !Tryd.prog.wantsStandIn u) = true := by kernel_rfl
        exact (show Tryd.prog.wantsStandIn t = false by simpa using List.all_eq_true.1 hall t hm)⟩)
    (by kernel_rfl)
end Go.Proofs.YtpjonhcbhgalpaaDoor.isaNames
