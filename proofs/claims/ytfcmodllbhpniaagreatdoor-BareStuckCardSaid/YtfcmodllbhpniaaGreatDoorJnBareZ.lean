/-
  Package bare: New.
-/
import Derived.Test.YtfcmodllbhpniaaGreatDoorJnYz
import Derived.StillTailTactics
import Derived.Deep.RegionWith
set_option linter.unusedVariables false
set_option maxRecDepth 100000
set_option linter.unusedVariables false
namespace Go.Proofs.YtfcmodllbhpniaaGreatDoor.Ser
open Go.Proofs.YtfcmodllbhpniaaGreatDoor
open Go.ChangeShapes Go.WideShapes Go.ChangeAt Go.RowKit
section
variable {w : World}
theorem lie_take {k : IntKind} {u : World} {B n c : Nat} {p : Option Addr} {xs : List Int} (L : Lie k u B p n c xs) (m : Nat) (h : m ≤ n) : Lie k u B p m c (xs.take m) :=
  ⟨by rw [List.length_take, L.len]; omega, Nat.le_trans h L.cap, L.nil, fun hm => by
    obtain ⟨b, off, e, hlt, ha⟩ := L.at_ (by omega)
    refine ⟨b, off, e, hlt, fun j x hx => ?_⟩
    have hj : j < m := by have := (List.getElem?_eq_some_iff.1 hx).1; rw [List.length_take] at this; omega
    rw [List.getElem?_take_of_lt hj] at hx
    exact ha _ _ hx⟩
theorem byt_of_take {xs : List Int} (h : Byt xs) (n : Nat) : Byt (xs.take n) := byt_take h n
set_option maxHeartbeats 2000000 in
theorem bm_new (n en : Int) {p : Option Addr} {k c : Nat} {xs : List Int} (li : Lie .u8 w w.heap.size p k c xs) (hk : k ≤ 100000) (hb : Byt xs) :
    Calls Tryz.prog 9 #[i64 n, .agg #[i64 en, .slice p k c], .nilIface] w fun e w' => ∃ h hm g bv F, e = .returned (.pointer (some ⟨h, 0, none⟩)) ∧ (Bm ⟨h, hm, g, bv, xs.take (pg n * 4096), wd en⟩ (Ma.anew ⟨h, hm, g, bv, xs.take (pg n * 4096), wd en⟩ (pg n * 4096) [])).is w' F ∧ (∀ i, F i → w.heap.size ≤ i) ∧ Below w.heap.size w w' := by
  obtain ⟨r, hr⟩ : ∃ r : Ending → World → Prop, r = fun e w' => ∃ h hm g bv F, e = .returned (.pointer (some ⟨h, 0, none⟩)) ∧ (Bm ⟨h, hm, g, bv, xs.take (pg n * 4096), wd en⟩ (Ma.anew ⟨h, hm, g, bv, xs.take (pg n * 4096), wd en⟩ (pg n * 4096) [])).is w' F ∧ (∀ i, F i → w.heap.size ≤ i) ∧ Below w.heap.size w w' := ⟨_, rfl⟩
  rw [← hr]
  have b1 : Below w.heap.size w (w.alloc (.cells #[i64 en, .slice p k c] 24)) := (Below.refl _ w).alloc (Nat.le_refl _) _
  go_enter Tryz.func9, Tryz.ntmps9
  go_upto_region 1 with fail
  obtain ⟨w1, hw1⟩ : ∃ w1, w1 = w.alloc (.cells #[i64 en, .slice p k c] 24) := ⟨_, rfl⟩
  have hI : w1.heap[w.heap.size]? = some (.cells #[i64 en, .slice p k c] 24) := by rw [hw1]; exact heap_alloc_new _ _
  rw [← hw1] at b1 ⊢
  clear hw1
  have i0 : w1.cell? ⟨w.heap.size, 0, none⟩ = some (i64 en) := by rw [cell_of_row _ _ 0 _ _ _ hI]; rfl
  have hd1 : Below w1.heap.size w1 w1.drew := (Below.refl _ _).drew
  have hnew := new_says n w1.drew
  have hof := of_says en
  have HI := Lib.hid (fun (u : World) (x : Below w1.heap.size w1 u) => cell_later x i0)
  have HP := Lib.hid hI; have HB := Lib.hid b1; have HL := Lib.hid li
  clear hI b1 li
  have HS4 := Lib.hid (show pg n * 4096 % 4 = 0 ∧ pg n * 4096 ≤ 1048576 by have := pg_le n; omega)
  have HWd := Lib.hid (wdb en)
  generalize hS : pg n * 4096 = S at hnew HS4 hr
  generalize wd en = ew at hof hr HWd
  have HO := Lib.hid (fun h hm g bv F u (p1 : (Bm ⟨h, hm, g, bv, xs.take S, ew⟩ (Ma.anew ⟨h, hm, g, bv, xs.take S, ew⟩ S [])).is u F) (p2 : ∀ i, F i → w.heap.size ≤ i) (p3 : Below w.heap.size w u) => (by rw [hr]; exact ⟨h, hm, g, bv, F, rfl, p1, p2, p3⟩ : r (.returned (.pointer (some ⟨h, 0, none⟩))) u))
  clear hr hS
  go_cut [7] from 8 (fun s7 wx => ∃ h hm g, s7 = .pointer (some ⟨h, 0, none⟩) ∧ wx.heap[h]? = some (.cells (mz (.slice none 0 0) ew hm) 69 (0, 0)) ∧ Mem 87 wx hm g (List.replicate S 0) ∧ (h ≠ hm ∧ h ≠ g ∧ w1.heap.size ≤ h ∧ w1.heap.size ≤ hm ∧ w1.heap.size ≤ g) ∧ Below w1.heap.size w1 wx)
  case first =>
    go_region_with (first
      | (go_at_call 27; refine (hof _).mono ?_; rintro e w' ⟨rfl, rfl⟩)
      | (go_at_call 26; refine hnew.mono ?_; rintro e w3 ⟨hm, g, ⟨rfl, M3, lh, lg, b3⟩⟩; have j0 := HI.out _ (hd1.trans b3); have HM := Lib.hid M3; have HB3 := Lib.hid b3; clear M3 b3))
    all_goals
      go_wp2_with fail
      go_meet
      case rel =>
        have m3 := HM.out
        have lh3 : hm < w3.heap.size := (Array.getElem?_eq_some_iff.1 m3.hd).1
        have lg3 : g < w3.heap.size := (Array.getElem?_eq_some_iff.1 m3.ce).1
        have b3 : Below w1.heap.size w1 w3 := hd1.trans HB3.out
        have l1 : w1.heap.size ≤ hm := lh
        have l2 : w1.heap.size ≤ g := lg
        refine ⟨w3.heap.size, hm, g, rfl, heap_alloc_new _ _, ⟨(Below.heap_alloc _ _ _ lh3).trans m3.hd, (Below.heap_alloc _ _ _ lg3).trans m3.ce, m3.ne, m3.byt, m3.le⟩, ⟨by omega, by omega, b3.size, l1, l2⟩, b3.alloc b3.size _⟩
  case rest =>
    obtain ⟨h, hm, g, rfl, hh, M, ⟨n1, n2, l1, l2, l3⟩, bx⟩ := hcut
    have hI : wc.heap[w.heap.size]? = some (.cells #[i64 en, .slice p k c] 24) := by
      have h1 := HP.out
      exact (bx.block _ (Array.getElem?_eq_some_iff.1 h1).1).trans h1
    have i1 : wc.cell? ⟨w.heap.size, 1, none⟩ = some (.slice p k c) := by rw [cell_of_row _ _ 1 _ _ _ hI]; rfl
    have m0 : wc.cell? ⟨h, 0, none⟩ = some (.slice none 0 0) := by rw [cell_of_row _ _ 0 _ _ _ hh]; rfl
    have m3 : wc.cell? ⟨h, 3, none⟩ = some (.pointer (some ⟨hm, 0, none⟩)) := by rw [cell_of_row _ _ 3 _ _ _ hh]; rfl
    have mf : wc.frozen? ⟨h, 0, none⟩ = false := by simp [World.frozen?, hh]
    have hB := HB.out.trans (bx.mono HB.out.size)
    have lw : w.heap.size < w1.heap.size := (Array.getElem?_eq_some_iff.1 HP.out).1
    have li := (HL.out.kept hB (Nat.le_refl _)).wide hB.size
    have hsz := size_says (w := wc.drew) (h := hm) (g := g) (bs := List.replicate S 0) ⟨M.hd, M.ce, M.ne, M.byt, M.le⟩
    rw [List.length_replicate] at hsz
    have HH := Lib.hid hh; have HM := Lib.hid M; have HBX := Lib.hid bx; have HLI := Lib.hid li; have HBW := Lib.hid hB
    have hcap := li.cap
    have HBy := Lib.hid hb
    have HF0 := Lib.hid (fun q (w5 : World) p5 n5 q5 (b5 : Below wc.heap.size wc.drew w5) (o5 : OwnK 5 .u8 w5 wc.heap.size (.slice p5 n5 q5) (xs.take q)) (hq : (xs.take q) = xs.take S) (hqS : (xs.take S).length ≤ S) (u : World) (hu : u = w5.setCell ⟨h, 0, none⟩ (.slice p5 n5 q5)) => (by
      have h5 : w5.heap[h]? = some (.cells (mz (.slice none 0 0) ew hm) 69 (0, 0)) := (b5.block h (Array.getElem?_eq_some_iff.1 HH.out).1).trans HH.out
      have M5 : Mem 87 w5 hm g (List.replicate S 0) := ⟨(b5.block hm (Array.getElem?_eq_some_iff.1 HM.out.hd).1).trans HM.out.hd, (b5.block g (Array.getElem?_eq_some_iff.1 HM.out.ce).1).trans HM.out.ce, HM.out.ne, HM.out.byt, HM.out.le⟩
      have lh : h < wc.heap.size := (Array.getElem?_eq_some_iff.1 HH.out).1
      have lm : hm < wc.heap.size := (Array.getElem?_eq_some_iff.1 HM.out.hd).1
      have lg : g < wc.heap.size := (Array.getElem?_eq_some_iff.1 HM.out.ce).1
      have h6 : u.heap[h]? = some (.cells (mz (.slice p5 n5 q5) ew hm) 69 (0, 0)) := by rw [hu, setCell_row h5]; rfl
      have M6 : Mem 87 u hm g (List.replicate S 0) := by rw [hu]; exact ⟨(Below.heap_setCell _ _ _ _ (by show hm ≠ h; omega)).trans M5.hd, (Below.heap_setCell _ _ _ _ (by show g ≠ h; omega)).trans M5.ce, M5.ne, M5.byt, M5.le⟩
      have o6 : OwnK 5 .u8 u wc.heap.size (.slice p5 n5 q5) (xs.take S) := by rw [hu, ← hq]; exact ownK_off o5 (fun e => by have := (o5.lt h e).1; omega) _ _
      have G6 := new_bones h6 M6 o6 n1 n2 lh lm lg
      have hrs := bm_reset G6 rfl (L := ⟨h, hm, g, .slice p5 n5 q5, xs.take S, ew⟩) (byt_of_take HBy.out S) (by rw [List.length_replicate]) HS4.out.2 hqS (anew_fine HS4.out.1 HS4.out.2 hqS (byt_of_take HBy.out S) HWd.out (fun b hb => by cases hb))
      refine hrs.mono fun e u' ⟨he, hs⟩ => ⟨he, ?_⟩
      obtain ⟨F', p', nF, bF⟩ := hs
      have hlow : ∀ i, (i = h ∨ i = hm ∨ i = g ∨ (Value.slice p5 n5 q5).ownBlock = some i) → w.heap.size ≤ i := by
        rintro i (rfl | rfl | rfl | hi)
        · omega
        · omega
        · omega
        · have := (o6.lt i hi).1; omega
      have hbu : Below w.heap.size w u := by
        have e1 : Below w.heap.size w w5 := (HBW.out.trans (⟨rfl, rfl, rfl, Nat.le_refl _, fun _ _ => rfl⟩ : Below w.heap.size wc wc.drew)).trans (b5.mono (by have := HBW.out.size; omega))
        rw [hu]
        exact e1.trans ⟨rfl, rfl, rfl, by simp [World.setCell], fun i hi => Below.heap_setCell _ _ _ _ (by show i ≠ h; omega)⟩
      have hsz5 : wc.heap.size ≤ u.heap.size := by rw [hu]; have := b5.size; simpa [World.setCell] using this
      exact HO.out h hm g _ F' u' p' (fun i hi => by
        rcases nF i hi with hi | hi
        · exact hlow i hi
        · have := HBW.out.size; omega) (hbu.trans (bF.below hbu.size hlow)) : Calls Tryz.prog 16 #[.pointer (some ⟨h, 0, none⟩)] u fun e u' => e = .returned (.tuple #[]) ∧ r (.returned (.pointer (some ⟨h, 0, none⟩))) u'))
    clear hh M bx hI li hB i0 hd1 hnew hof HI
    have hlw : w.heap.size < h := by omega
    by_cases hkS : k ≤ S
    · have e1 : ¬ ((S : Int) < k) := by omega
      have e2 : (k : Int) ≤ S := by omega
      have hxk : xs.take k = xs := List.take_of_length_le (Nat.le_of_eq HL.out.len)
      have hxS : xs.take S = xs := List.take_of_length_le (by rw [HL.out.len]; exact hkS)
      go_upto_region 2 with fail
      have hcl := clone_b (w := wc.drew) ((HLI.out.kept (Below.refl _ wc).drew (Nat.le_refl _)).wide (Nat.le_refl _)) hk
      refine wp_region_held_drew (S := (fun u => u.cell? ⟨w.heap.size, 1, none⟩ = some (.slice p k c) ∧ u.cell? ⟨h, 3, none⟩ = some (.pointer (some ⟨hm, 0, none⟩)))) (by kernel_rfl) ?_ (fun hH0 => ?_)
      · ((try dsimp only); (first | exact ⟨i1, m3⟩ | exact ⟨j1, j3⟩ | exact ⟨q1, q3⟩))
      refine wpAnyH_take (i := 0) (oi := { dst := some 15, op := Go.Op.move (Go.Operand.tmp 7), type := 26, pos := "bare.go:86", after := #[], guard := none }) (v := ?_) rfl (by kernel_rfl) (by kernel_rfl) (by kernel_rfl) (fun _ _ _ h => h) (Or.inl ⟨by rfl, ?_⟩) (by assumption) ?_
      rotate_left
      · ((intro w hSw; (try dsimp only at hSw); go_simp) <;> (with_reducible rfl))
      try simp only [Act.put, List.setIfInBounds_toArray, List.set_cons_zero, List.set_cons_succ]
      refine wpAnyH_take (i := 1) (oi := { dst := some 16, op := Go.Op.fieldAddr 24 (Go.Operand.tmp 4) 1, type := 0, pos := "bare.go:86", after := #[], guard := none }) (v := ?_) rfl (by kernel_rfl) (by kernel_rfl) (by kernel_rfl) (fun _ _ _ h => h) (Or.inl ⟨by rfl, ?_⟩) (by assumption) ?_
      rotate_left
      · ((intro w hSw; (try dsimp only at hSw); go_simp) <;> (with_reducible rfl))
      try simp only [Act.put, List.setIfInBounds_toArray, List.set_cons_zero, List.set_cons_succ]
      refine wpAnyH_take (i := 2) (oi := { dst := some 17, op := Go.Op.load 22 (Go.Operand.tmp 16), type := 22, pos := "bare.go:86", after := #[{ on := 1, ground := Go.Ground.data }], guard := none }) (v := ?_) rfl (by kernel_rfl) (by kernel_rfl) (by kernel_rfl) (fun _ _ _ h => h) (Or.inl ⟨by rfl, ?_⟩) (by assumption) ?_
      rotate_left
      · ((intro w hSw; (try dsimp only at hSw); go_simp) <;> (with_reducible rfl))
      try simp only [Act.put, List.setIfInBounds_toArray, List.set_cons_zero, List.set_cons_succ]
      refine wpAnyH_take (i := 3) (oi := { dst := some 18, op := Go.Op.fieldAddr 24 (Go.Operand.tmp 4) 1, type := 0, pos := "bare.go:86", after := #[], guard := none }) (v := ?_) rfl (by kernel_rfl) (by kernel_rfl) (by kernel_rfl) (fun _ _ _ h => h) (Or.inl ⟨by rfl, ?_⟩) (by assumption) ?_
      rotate_left
      · ((intro w hSw; (try dsimp only at hSw); go_simp) <;> (with_reducible rfl))
      try simp only [Act.put, List.setIfInBounds_toArray, List.set_cons_zero, List.set_cons_succ]
      refine wpAnyH_take (i := 4) (oi := { dst := some 19, op := Go.Op.load 22 (Go.Operand.tmp 18), type := 22, pos := "bare.go:86", after := #[{ on := 3, ground := Go.Ground.data }], guard := none }) (v := ?_) rfl (by kernel_rfl) (by kernel_rfl) (by kernel_rfl) (fun _ _ _ h => h) (Or.inl ⟨by rfl, ?_⟩) (by assumption) ?_
      rotate_left
      · ((intro w hSw; (try dsimp only at hSw); go_simp) <;> (with_reducible rfl))
      try simp only [Act.put, List.setIfInBounds_toArray, List.set_cons_zero, List.set_cons_succ]
      refine wpAnyH_take (i := 5) (oi := { dst := some 20, op := Go.Op.call { callee := Go.Callee.builtin Go.Builtin.len, args := #[Go.Operand.tmp 19], argTypes := #[22] }, type := 3, pos := "bare.go:86", after := #[{ on := 4, ground := Go.Ground.data }], guard := none }) (v := ?_) rfl (by kernel_rfl) (by kernel_rfl) (by kernel_rfl) (fun _ _ _ h => h) (Or.inl ⟨by rfl, ?_⟩) (by assumption) ?_
      rotate_left
      · ((intro w hSw; (try dsimp only at hSw); go_simp) <;> (with_reducible rfl))
      try simp only [Act.put, List.setIfInBounds_toArray, List.set_cons_zero, List.set_cons_succ]
      refine wpAnyH_take (i := 6) (oi := { dst := some 21, op := Go.Op.move (Go.Operand.tmp 7), type := 26, pos := "bare.go:86", after := #[], guard := none }) (v := ?_) rfl (by kernel_rfl) (by kernel_rfl) (by kernel_rfl) (fun _ _ _ h => h) (Or.inl ⟨by rfl, ?_⟩) (by assumption) ?_
      rotate_left
      · ((intro w hSw; (try dsimp only at hSw); go_simp) <;> (with_reducible rfl))
      try simp only [Act.put, List.setIfInBounds_toArray, List.set_cons_zero, List.set_cons_succ]
      refine wpAnyH_take (i := 7) (oi := { dst := some 22, op := Go.Op.nilCheck (Go.Operand.tmp 21), type := 0, pos := "bare.go:86", after := #[{ on := 6, ground := Go.Ground.data }], guard := none }) (v := ?_) rfl (by kernel_rfl) (by kernel_rfl) (by kernel_rfl) (fun _ _ _ h => h) (Or.inl ⟨by rfl, ?_⟩) (by assumption) ?_
      rotate_left
      · ((intro w hSw; (try dsimp only at hSw); go_simp) <;> (with_reducible rfl))
      try simp only [Act.put, List.setIfInBounds_toArray, List.set_cons_zero, List.set_cons_succ]
      refine wpAnyH_take (i := 8) (oi := { dst := some 23, op := Go.Op.fieldAddr 69 (Go.Operand.tmp 22) 3, type := 0, pos := "bare.go:86", after := #[{ on := 7, ground := Go.Ground.data }], guard := none }) (v := ?_) rfl (by kernel_rfl) (by kernel_rfl) (by kernel_rfl) (fun _ _ _ h => h) (Or.inl ⟨by rfl, ?_⟩) (by assumption) ?_
      rotate_left
      · ((intro w hSw; (try dsimp only at hSw); go_simp) <;> (with_reducible rfl))
      try simp only [Act.put, List.setIfInBounds_toArray, List.set_cons_zero, List.set_cons_succ]
      refine wpAnyH_take (i := 9) (oi := { dst := some 24, op := Go.Op.load 63 (Go.Operand.tmp 23), type := 63, pos := "bare.go:86", after := #[{ on := 8, ground := Go.Ground.data }], guard := none }) (v := ?_) rfl (by kernel_rfl) (by kernel_rfl) (by kernel_rfl) (fun _ _ _ h => h) (Or.inl ⟨by rfl, ?_⟩) (by assumption) ?_
      rotate_left
      · ((intro w hSw; (try dsimp only at hSw); go_simp) <;> (with_reducible rfl))
      try simp only [Act.put, List.setIfInBounds_toArray, List.set_cons_zero, List.set_cons_succ]
      refine wpAnyH_ready (rs := [10]) (by kernel_rfl) (by simp) ?_
      refine AllReadyH.cons (o := { dst := some 25, op := Go.Op.call { callee := Go.Callee.value (Go.Operand.func 29), args := #[Go.Operand.tmp 24], argTypes := #[63] }, type := 3, pos := "bare.go:86", after := #[{ on := 9, ground := Go.Ground.data }], guard := none }) rfl (fun K hK => ?_) AllReadyH.nil
      go_simp
      (first | (go_at_call 29; refine hsz.mono ?_; rintro e w' ⟨rfl, rfl⟩) | (go_at_call 28; refine hcl.mono ?_; intro e w5 hq; obtain ⟨p5, n5, q5, he, -, o5, b5⟩ := hq; subst he; have h5 : w5.heap[h]? = some (.cells (mz (.slice none 0 0) ew hm) 69 (0, 0)) := (b5.block h (Array.getElem?_eq_some_iff.1 HH.out).1).trans HH.out; have m5 : w5.cell? ⟨h, 0, none⟩ = some (.slice none 0 0) := (cell_of_row _ _ 0 _ _ _ h5).trans rfl; have f5 : w5.frozen? ⟨h, 0, none⟩ = false := (by simp [World.frozen?, h5]); have j1 : w5.cell? ⟨w.heap.size, 1, none⟩ = some (.slice p k c) := (World.cell?_of_block (b5.block w.heap.size (World.block_lt_of_cell? wc _ i1))).trans i1; have j3 : w5.cell? ⟨h, 3, none⟩ = some (.pointer (some ⟨hm, 0, none⟩)) := (World.cell?_of_block (b5.block h (Array.getElem?_eq_some_iff.1 HH.out).1)).trans m3; have q3 : (w5.setCell ⟨h, 0, none⟩ (.slice p5 n5 q5)).cell? ⟨h, 3, none⟩ = some (.pointer (some ⟨hm, 0, none⟩)) := (by rw [cell_of_row _ h 3 _ _ _ (setCell_row h5 0 _)]; rfl); have q1 : (w5.setCell ⟨h, 0, none⟩ (.slice p5 n5 q5)).cell? ⟨w.heap.size, 1, none⟩ = some (.slice p k c) := ((World.cell?_of_block (Below.heap_setCell _ _ _ _ (by show w.heap.size ≠ h; omega))).trans j1); have O5 := Lib.hid o5; have B5 := Lib.hid b5; clear h5 o5 b5))
      refine hK.out _ _ ?_ (fun hH1 => ?_)
      · ((try dsimp only); (first | exact ⟨i1, m3⟩ | exact ⟨j1, j3⟩ | exact ⟨q1, q3⟩))
      clear hK K hH0
      try simp only [Act.put, List.setIfInBounds_toArray, List.set_cons_zero, List.set_cons_succ]
      refine wpAnyH_take (i := 11) (oi := { dst := some 26, op := Go.Op.call { callee := Go.Callee.builtin Go.Builtin.min, args := #[Go.Operand.tmp 20, Go.Operand.tmp 25], argTypes := #[3, 3] }, type := 3, pos := "bare.go:86", after := #[{ on := 5, ground := Go.Ground.data }, { on := 10, ground := Go.Ground.data }], guard := none }) (v := ?_) rfl (by kernel_rfl) (by kernel_rfl) (by kernel_rfl) (fun _ _ _ h => h) (Or.inl ⟨by rfl, ?_⟩) (by assumption) ?_
      rotate_left
      · ((intro w hSw; (try dsimp only at hSw); go_simp) <;> (with_reducible rfl))
      try simp only [Act.put, List.setIfInBounds_toArray, List.set_cons_zero, List.set_cons_succ]
      refine wpAnyH_take (i := 12) (oi := { dst := some 27, op := Go.Op.slice 22 (Go.Operand.tmp 17) none (some (Go.Operand.tmp 26)) none, type := 22, pos := "bare.go:86", after := #[{ on := 2, ground := Go.Ground.data }, { on := 11, ground := Go.Ground.data }], guard := none }) (v := ?_) rfl (by kernel_rfl) (by kernel_rfl) (by kernel_rfl) (fun _ _ _ h => h) (Or.inl ⟨by rfl, ?_⟩) (by assumption) ?_
      rotate_left
      · ((intro w hSw; (try dsimp only at hSw); go_simp) <;> (with_reducible rfl))
      try simp only [Act.put, List.setIfInBounds_toArray, List.set_cons_zero, List.set_cons_succ]
      refine wpAnyH_ready (rs := [13]) (by kernel_rfl) (by simp) ?_
      refine AllReadyH.cons (o := { dst := some 28, op := Go.Op.call { callee := Go.Callee.value (Go.Operand.func 28), args := #[Go.Operand.tmp 27], argTypes := #[22] }, type := 22, pos := "bare.go:86", after := #[{ on := 12, ground := Go.Ground.data }, { on := 10, ground := Go.Ground.chain }], guard := none }) rfl (fun K hK => ?_) AllReadyH.nil
      go_simp
      (first | (go_at_call 29; refine hsz.mono ?_; rintro e w' ⟨rfl, rfl⟩) | (go_at_call 28; refine hcl.mono ?_; intro e w5 hq; obtain ⟨p5, n5, q5, he, -, o5, b5⟩ := hq; subst he; have h5 : w5.heap[h]? = some (.cells (mz (.slice none 0 0) ew hm) 69 (0, 0)) := (b5.block h (Array.getElem?_eq_some_iff.1 HH.out).1).trans HH.out; have m5 : w5.cell? ⟨h, 0, none⟩ = some (.slice none 0 0) := (cell_of_row _ _ 0 _ _ _ h5).trans rfl; have f5 : w5.frozen? ⟨h, 0, none⟩ = false := (by simp [World.frozen?, h5]); have j1 : w5.cell? ⟨w.heap.size, 1, none⟩ = some (.slice p k c) := (World.cell?_of_block (b5.block w.heap.size (World.block_lt_of_cell? wc _ i1))).trans i1; have j3 : w5.cell? ⟨h, 3, none⟩ = some (.pointer (some ⟨hm, 0, none⟩)) := (World.cell?_of_block (b5.block h (Array.getElem?_eq_some_iff.1 HH.out).1)).trans m3; have q3 : (w5.setCell ⟨h, 0, none⟩ (.slice p5 n5 q5)).cell? ⟨h, 3, none⟩ = some (.pointer (some ⟨hm, 0, none⟩)) := (by rw [cell_of_row _ h 3 _ _ _ (setCell_row h5 0 _)]; rfl); have q1 : (w5.setCell ⟨h, 0, none⟩ (.slice p5 n5 q5)).cell? ⟨w.heap.size, 1, none⟩ = some (.slice p k c) := ((World.cell?_of_block (Below.heap_setCell _ _ _ _ (by show w.heap.size ≠ h; omega))).trans j1); have O5 := Lib.hid o5; have B5 := Lib.hid b5; clear h5 o5 b5))
      refine hK.out _ _ ?_ (fun hH2 => ?_)
      · ((try dsimp only); (first | exact ⟨i1, m3⟩ | exact ⟨j1, j3⟩ | exact ⟨q1, q3⟩))
      clear hK K hH1
      try simp only [Act.put, List.setIfInBounds_toArray, List.set_cons_zero, List.set_cons_succ]
      refine wpAnyH_take (i := 14) (oi := { dst := some 29, op := Go.Op.nilCheck (Go.Operand.tmp 15), type := 0, pos := "bare.go:86", after := #[{ on := 0, ground := Go.Ground.data }, { on := 0, ground := Go.Ground.phase }, { on := 1, ground := Go.Ground.phase }, { on := 2, ground := Go.Ground.phase }, { on := 3, ground := Go.Ground.phase }, { on := 4, ground := Go.Ground.phase }, { on := 5, ground := Go.Ground.phase }, { on := 6, ground := Go.Ground.phase }, { on := 7, ground := Go.Ground.phase }, { on := 8, ground := Go.Ground.phase }, { on := 9, ground := Go.Ground.phase }, { on := 10, ground := Go.Ground.phase }, { on := 11, ground := Go.Ground.phase }, { on := 12, ground := Go.Ground.phase }, { on := 13, ground := Go.Ground.phase }], guard := none }) (v := ?_) rfl (by kernel_rfl) (by kernel_rfl) (by kernel_rfl) (fun _ _ _ h => h) (Or.inl ⟨by rfl, ?_⟩) (by assumption) ?_
      rotate_left
      · ((intro w hSw; (try dsimp only at hSw); go_simp) <;> (with_reducible rfl))
      try simp only [Act.put, List.setIfInBounds_toArray, List.set_cons_zero, List.set_cons_succ]
      refine wpAnyH_take (i := 15) (oi := { dst := some 30, op := Go.Op.fieldAddr 69 (Go.Operand.tmp 29) 0, type := 0, pos := "bare.go:86", after := #[{ on := 14, ground := Go.Ground.data }, { on := 0, ground := Go.Ground.phase }, { on := 1, ground := Go.Ground.phase }, { on := 2, ground := Go.Ground.phase }, { on := 3, ground := Go.Ground.phase }, { on := 4, ground := Go.Ground.phase }, { on := 5, ground := Go.Ground.phase }, { on := 6, ground := Go.Ground.phase }, { on := 7, ground := Go.Ground.phase }, { on := 8, ground := Go.Ground.phase }, { on := 9, ground := Go.Ground.phase }, { on := 10, ground := Go.Ground.phase }, { on := 11, ground := Go.Ground.phase }, { on := 12, ground := Go.Ground.phase }, { on := 13, ground := Go.Ground.phase }], guard := none }) (v := ?_) rfl (by kernel_rfl) (by kernel_rfl) (by kernel_rfl) (fun _ _ _ h => h) (Or.inl ⟨by rfl, ?_⟩) (by assumption) ?_
      rotate_left
      · ((intro w hSw; (try dsimp only at hSw); go_simp) <;> (with_reducible rfl))
      try simp only [Act.put, List.setIfInBounds_toArray, List.set_cons_zero, List.set_cons_succ]
      refine wpAnyH_ready (rs := [16]) (by kernel_rfl) (by simp) ?_
      refine AllReadyH.cons (o := { dst := none, op := Go.Op.store 22 (Go.Operand.tmp 30) (Go.Operand.tmp 28), type := 0, pos := "bare.go:86", after := #[{ on := 15, ground := Go.Ground.data }, { on := 13, ground := Go.Ground.data }, { on := 13, ground := Go.Ground.chain }, { on := 0, ground := Go.Ground.phase }, { on := 1, ground := Go.Ground.phase }, { on := 2, ground := Go.Ground.phase }, { on := 3, ground := Go.Ground.phase }, { on := 4, ground := Go.Ground.phase }, { on := 5, ground := Go.Ground.phase }, { on := 6, ground := Go.Ground.phase }, { on := 7, ground := Go.Ground.phase }, { on := 8, ground := Go.Ground.phase }, { on := 9, ground := Go.Ground.phase }, { on := 10, ground := Go.Ground.phase }, { on := 11, ground := Go.Ground.phase }, { on := 12, ground := Go.Ground.phase }, { on := 13, ground := Go.Ground.phase }], guard := none }) rfl (fun K hK => ?_) AllReadyH.nil
      go_simp
      refine hK.out _ _ ?_ (fun hH3 => ?_)
      · ((try dsimp only); (first | exact ⟨i1, m3⟩ | exact ⟨j1, j3⟩ | exact ⟨q1, q3⟩))
      clear hK K hH2
      try simp only [Act.put, List.setIfInBounds_toArray, List.set_cons_zero, List.set_cons_succ]
      refine wpAnyH_done (by kernel_rfl) ?_ _
      obtain ⟨w6, hw6⟩ : ∃ w6, w6 = w5.setCell ⟨h, 0, none⟩ (.slice p5 n5 q5) := ⟨_, rfl⟩
      have hrs := HF0.out k w5 p5 n5 q5 B5.out (by rw [hxk]; exact O5.out) (by rw [hxk, hxS]) (by rw [hxS, HL.out.len]; exact hkS) w6 hw6
      rw [← hw6]
      clear hw6 m5 f5 j1 j3 q1 q3 i1 m3 m0 mf
      have hnn : ∀ u : World, (binOp .neq 62 .nilIface .nilIface).run Tryz.prog u = .ok (.bool false) u := fun u => by rfl
      go_wp2_with (go_at_call 16; refine hrs.mono ?_; rintro e w7 ⟨rfl, hR⟩; have HR := Lib.hid hR; clear hR)
      exact HR.out
    · have e1 : (S : Int) < k := by omega
      have e2 : (S : Int) ≤ c := by omega
      have e3 : (0 : Int) ≤ (S : Int) := Int.natCast_nonneg S
      have e4 : S ≤ c := by omega
      go_upto_region 2 with fail
      have hcl := clone_b (w := wc.drew) (lie_take ((HLI.out.kept (Below.refl _ wc).drew (Nat.le_refl _)).wide (Nat.le_refl _)) S (by omega)) (by omega)
      refine wp_region_held_drew (S := (fun u => u.cell? ⟨w.heap.size, 1, none⟩ = some (.slice p k c) ∧ u.cell? ⟨h, 3, none⟩ = some (.pointer (some ⟨hm, 0, none⟩)))) (by kernel_rfl) ?_ (fun hH0 => ?_)
      · ((try dsimp only); (first | exact ⟨i1, m3⟩ | exact ⟨j1, j3⟩ | exact ⟨q1, q3⟩))
      refine wpAnyH_take (i := 0) (oi := { dst := some 15, op := Go.Op.move (Go.Operand.tmp 7), type := 26, pos := "bare.go:86", after := #[], guard := none }) (v := ?_) rfl (by kernel_rfl) (by kernel_rfl) (by kernel_rfl) (fun _ _ _ h => h) (Or.inl ⟨by rfl, ?_⟩) (by assumption) ?_
      rotate_left
      · ((intro w hSw; (try dsimp only at hSw); go_simp) <;> (with_reducible rfl))
      try simp only [Act.put, List.setIfInBounds_toArray, List.set_cons_zero, List.set_cons_succ]
      refine wpAnyH_take (i := 1) (oi := { dst := some 16, op := Go.Op.fieldAddr 24 (Go.Operand.tmp 4) 1, type := 0, pos := "bare.go:86", after := #[], guard := none }) (v := ?_) rfl (by kernel_rfl) (by kernel_rfl) (by kernel_rfl) (fun _ _ _ h => h) (Or.inl ⟨by rfl, ?_⟩) (by assumption) ?_
      rotate_left
      · ((intro w hSw; (try dsimp only at hSw); go_simp) <;> (with_reducible rfl))
      try simp only [Act.put, List.setIfInBounds_toArray, List.set_cons_zero, List.set_cons_succ]
      refine wpAnyH_take (i := 2) (oi := { dst := some 17, op := Go.Op.load 22 (Go.Operand.tmp 16), type := 22, pos := "bare.go:86", after := #[{ on := 1, ground := Go.Ground.data }], guard := none }) (v := ?_) rfl (by kernel_rfl) (by kernel_rfl) (by kernel_rfl) (fun _ _ _ h => h) (Or.inl ⟨by rfl, ?_⟩) (by assumption) ?_
      rotate_left
      · ((intro w hSw; (try dsimp only at hSw); go_simp) <;> (with_reducible rfl))
      try simp only [Act.put, List.setIfInBounds_toArray, List.set_cons_zero, List.set_cons_succ]
      refine wpAnyH_take (i := 3) (oi := { dst := some 18, op := Go.Op.fieldAddr 24 (Go.Operand.tmp 4) 1, type := 0, pos := "bare.go:86", after := #[], guard := none }) (v := ?_) rfl (by kernel_rfl) (by kernel_rfl) (by kernel_rfl) (fun _ _ _ h => h) (Or.inl ⟨by rfl, ?_⟩) (by assumption) ?_
      rotate_left
      · ((intro w hSw; (try dsimp only at hSw); go_simp) <;> (with_reducible rfl))
      try simp only [Act.put, List.setIfInBounds_toArray, List.set_cons_zero, List.set_cons_succ]
      refine wpAnyH_take (i := 4) (oi := { dst := some 19, op := Go.Op.load 22 (Go.Operand.tmp 18), type := 22, pos := "bare.go:86", after := #[{ on := 3, ground := Go.Ground.data }], guard := none }) (v := ?_) rfl (by kernel_rfl) (by kernel_rfl) (by kernel_rfl) (fun _ _ _ h => h) (Or.inl ⟨by rfl, ?_⟩) (by assumption) ?_
      rotate_left
      · ((intro w hSw; (try dsimp only at hSw); go_simp) <;> (with_reducible rfl))
      try simp only [Act.put, List.setIfInBounds_toArray, List.set_cons_zero, List.set_cons_succ]
      refine wpAnyH_take (i := 5) (oi := { dst := some 20, op := Go.Op.call { callee := Go.Callee.builtin Go.Builtin.len, args := #[Go.Operand.tmp 19], argTypes := #[22] }, type := 3, pos := "bare.go:86", after := #[{ on := 4, ground := Go.Ground.data }], guard := none }) (v := ?_) rfl (by kernel_rfl) (by kernel_rfl) (by kernel_rfl) (fun _ _ _ h => h) (Or.inl ⟨by rfl, ?_⟩) (by assumption) ?_
      rotate_left
      · ((intro w hSw; (try dsimp only at hSw); go_simp) <;> (with_reducible rfl))
      try simp only [Act.put, List.setIfInBounds_toArray, List.set_cons_zero, List.set_cons_succ]
      refine wpAnyH_take (i := 6) (oi := { dst := some 21, op := Go.Op.move (Go.Operand.tmp 7), type := 26, pos := "bare.go:86", after := #[], guard := none }) (v := ?_) rfl (by kernel_rfl) (by kernel_rfl) (by kernel_rfl) (fun _ _ _ h => h) (Or.inl ⟨by rfl, ?_⟩) (by assumption) ?_
      rotate_left
      · ((intro w hSw; (try dsimp only at hSw); go_simp) <;> (with_reducible rfl))
      try simp only [Act.put, List.setIfInBounds_toArray, List.set_cons_zero, List.set_cons_succ]
      refine wpAnyH_take (i := 7) (oi := { dst := some 22, op := Go.Op.nilCheck (Go.Operand.tmp 21), type := 0, pos := "bare.go:86", after := #[{ on := 6, ground := Go.Ground.data }], guard := none }) (v := ?_) rfl (by kernel_rfl) (by kernel_rfl) (by kernel_rfl) (fun _ _ _ h => h) (Or.inl ⟨by rfl, ?_⟩) (by assumption) ?_
      rotate_left
      · ((intro w hSw; (try dsimp only at hSw); go_simp) <;> (with_reducible rfl))
      try simp only [Act.put, List.setIfInBounds_toArray, List.set_cons_zero, List.set_cons_succ]
      refine wpAnyH_take (i := 8) (oi := { dst := some 23, op := Go.Op.fieldAddr 69 (Go.Operand.tmp 22) 3, type := 0, pos := "bare.go:86", after := #[{ on := 7, ground := Go.Ground.data }], guard := none }) (v := ?_) rfl (by kernel_rfl) (by kernel_rfl) (by kernel_rfl) (fun _ _ _ h => h) (Or.inl ⟨by rfl, ?_⟩) (by assumption) ?_
      rotate_left
      · ((intro w hSw; (try dsimp only at hSw); go_simp) <;> (with_reducible rfl))
      try simp only [Act.put, List.setIfInBounds_toArray, List.set_cons_zero, List.set_cons_succ]
      refine wpAnyH_take (i := 9) (oi := { dst := some 24, op := Go.Op.load 63 (Go.Operand.tmp 23), type := 63, pos := "bare.go:86", after := #[{ on := 8, ground := Go.Ground.data }], guard := none }) (v := ?_) rfl (by kernel_rfl) (by kernel_rfl) (by kernel_rfl) (fun _ _ _ h => h) (Or.inl ⟨by rfl, ?_⟩) (by assumption) ?_
      rotate_left
      · ((intro w hSw; (try dsimp only at hSw); go_simp) <;> (with_reducible rfl))
      try simp only [Act.put, List.setIfInBounds_toArray, List.set_cons_zero, List.set_cons_succ]
      refine wpAnyH_ready (rs := [10]) (by kernel_rfl) (by simp) ?_
      refine AllReadyH.cons (o := { dst := some 25, op := Go.Op.call { callee := Go.Callee.value (Go.Operand.func 29), args := #[Go.Operand.tmp 24], argTypes := #[63] }, type := 3, pos := "bare.go:86", after := #[{ on := 9, ground := Go.Ground.data }], guard := none }) rfl (fun K hK => ?_) AllReadyH.nil
      go_simp
      (first | (go_at_call 29; refine hsz.mono ?_; rintro e w' ⟨rfl, rfl⟩) | (go_at_call 28; refine hcl.mono ?_; intro e w5 hq; obtain ⟨p5, n5, q5, he, -, o5, b5⟩ := hq; subst he; have h5 : w5.heap[h]? = some (.cells (mz (.slice none 0 0) ew hm) 69 (0, 0)) := (b5.block h (Array.getElem?_eq_some_iff.1 HH.out).1).trans HH.out; have m5 : w5.cell? ⟨h, 0, none⟩ = some (.slice none 0 0) := (cell_of_row _ _ 0 _ _ _ h5).trans rfl; have f5 : w5.frozen? ⟨h, 0, none⟩ = false := (by simp [World.frozen?, h5]); have j1 : w5.cell? ⟨w.heap.size, 1, none⟩ = some (.slice p k c) := (World.cell?_of_block (b5.block w.heap.size (World.block_lt_of_cell? wc _ i1))).trans i1; have j3 : w5.cell? ⟨h, 3, none⟩ = some (.pointer (some ⟨hm, 0, none⟩)) := (World.cell?_of_block (b5.block h (Array.getElem?_eq_some_iff.1 HH.out).1)).trans m3; have q3 : (w5.setCell ⟨h, 0, none⟩ (.slice p5 n5 q5)).cell? ⟨h, 3, none⟩ = some (.pointer (some ⟨hm, 0, none⟩)) := (by rw [cell_of_row _ h 3 _ _ _ (setCell_row h5 0 _)]; rfl); have q1 : (w5.setCell ⟨h, 0, none⟩ (.slice p5 n5 q5)).cell? ⟨w.heap.size, 1, none⟩ = some (.slice p k c) := ((World.cell?_of_block (Below.heap_setCell _ _ _ _ (by show w.heap.size ≠ h; omega))).trans j1); have O5 := Lib.hid o5; have B5 := Lib.hid b5; clear h5 o5 b5))
      refine hK.out _ _ ?_ (fun hH1 => ?_)
      · ((try dsimp only); (first | exact ⟨i1, m3⟩ | exact ⟨j1, j3⟩ | exact ⟨q1, q3⟩))
      clear hK K hH0
      try simp only [Act.put, List.setIfInBounds_toArray, List.set_cons_zero, List.set_cons_succ]
      refine wpAnyH_take (i := 11) (oi := { dst := some 26, op := Go.Op.call { callee := Go.Callee.builtin Go.Builtin.min, args := #[Go.Operand.tmp 20, Go.Operand.tmp 25], argTypes := #[3, 3] }, type := 3, pos := "bare.go:86", after := #[{ on := 5, ground := Go.Ground.data }, { on := 10, ground := Go.Ground.data }], guard := none }) (v := ?_) rfl (by kernel_rfl) (by kernel_rfl) (by kernel_rfl) (fun _ _ _ h => h) (Or.inl ⟨by rfl, ?_⟩) (by assumption) ?_
      rotate_left
      · ((intro w hSw; (try dsimp only at hSw); go_simp) <;> (with_reducible rfl))
      try simp only [Act.put, List.setIfInBounds_toArray, List.set_cons_zero, List.set_cons_succ]
      refine wpAnyH_take (i := 12) (oi := { dst := some 27, op := Go.Op.slice 22 (Go.Operand.tmp 17) none (some (Go.Operand.tmp 26)) none, type := 22, pos := "bare.go:86", after := #[{ on := 2, ground := Go.Ground.data }, { on := 11, ground := Go.Ground.data }], guard := none }) (v := ?_) rfl (by kernel_rfl) (by kernel_rfl) (by kernel_rfl) (fun _ _ _ h => h) (Or.inl ⟨by rfl, ?_⟩) (by assumption) ?_
      rotate_left
      · ((intro w hSw; (try dsimp only at hSw); go_simp) <;> (with_reducible rfl))
      try simp only [Act.put, List.setIfInBounds_toArray, List.set_cons_zero, List.set_cons_succ]
      refine wpAnyH_ready (rs := [13]) (by kernel_rfl) (by simp) ?_
      refine AllReadyH.cons (o := { dst := some 28, op := Go.Op.call { callee := Go.Callee.value (Go.Operand.func 28), args := #[Go.Operand.tmp 27], argTypes := #[22] }, type := 22, pos := "bare.go:86", after := #[{ on := 12, ground := Go.Ground.data }, { on := 10, ground := Go.Ground.chain }], guard := none }) rfl (fun K hK => ?_) AllReadyH.nil
      go_simp
      (first | (go_at_call 29; refine hsz.mono ?_; rintro e w' ⟨rfl, rfl⟩) | (go_at_call 28; refine hcl.mono ?_; intro e w5 hq; obtain ⟨p5, n5, q5, he, -, o5, b5⟩ := hq; subst he; have h5 : w5.heap[h]? = some (.cells (mz (.slice none 0 0) ew hm) 69 (0, 0)) := (b5.block h (Array.getElem?_eq_some_iff.1 HH.out).1).trans HH.out; have m5 : w5.cell? ⟨h, 0, none⟩ = some (.slice none 0 0) := (cell_of_row _ _ 0 _ _ _ h5).trans rfl; have f5 : w5.frozen? ⟨h, 0, none⟩ = false := (by simp [World.frozen?, h5]); have j1 : w5.cell? ⟨w.heap.size, 1, none⟩ = some (.slice p k c) := (World.cell?_of_block (b5.block w.heap.size (World.block_lt_of_cell? wc _ i1))).trans i1; have j3 : w5.cell? ⟨h, 3, none⟩ = some (.pointer (some ⟨hm, 0, none⟩)) := (World.cell?_of_block (b5.block h (Array.getElem?_eq_some_iff.1 HH.out).1)).trans m3; have q3 : (w5.setCell ⟨h, 0, none⟩ (.slice p5 n5 q5)).cell? ⟨h, 3, none⟩ = some (.pointer (some ⟨hm, 0, none⟩)) := (by rw [cell_of_row _ h 3 _ _ _ (setCell_row h5 0 _)]; rfl); have q1 : (w5.setCell ⟨h, 0, none⟩ (.slice p5 n5 q5)).cell? ⟨w.heap.size, 1, none⟩ = some (.slice p k c) := ((World.cell?_of_block (Below.heap_setCell _ _ _ _ (by show w.heap.size ≠ h; omega))).trans j1); have O5 := Lib.hid o5; have B5 := Lib.hid b5; clear h5 o5 b5))
      refine hK.out _ _ ?_ (fun hH2 => ?_)
      · ((try dsimp only); (first | exact ⟨i1, m3⟩ | exact ⟨j1, j3⟩ | exact ⟨q1, q3⟩))
      clear hK K hH1
      try simp only [Act.put, List.setIfInBounds_toArray, List.set_cons_zero, List.set_cons_succ]
      refine wpAnyH_take (i := 14) (oi := { dst := some 29, op := Go.Op.nilCheck (Go.Operand.tmp 15), type := 0, pos := "bare.go:86", after := #[{ on := 0, ground := Go.Ground.data }, { on := 0, ground := Go.Ground.phase }, { on := 1, ground := Go.Ground.phase }, { on := 2, ground := Go.Ground.phase }, { on := 3, ground := Go.Ground.phase }, { on := 4, ground := Go.Ground.phase }, { on := 5, ground := Go.Ground.phase }, { on := 6, ground := Go.Ground.phase }, { on := 7, ground := Go.Ground.phase }, { on := 8, ground := Go.Ground.phase }, { on := 9, ground := Go.Ground.phase }, { on := 10, ground := Go.Ground.phase }, { on := 11, ground := Go.Ground.phase }, { on := 12, ground := Go.Ground.phase }, { on := 13, ground := Go.Ground.phase }], guard := none }) (v := ?_) rfl (by kernel_rfl) (by kernel_rfl) (by kernel_rfl) (fun _ _ _ h => h) (Or.inl ⟨by rfl, ?_⟩) (by assumption) ?_
      rotate_left
      · ((intro w hSw; (try dsimp only at hSw); go_simp) <;> (with_reducible rfl))
      try simp only [Act.put, List.setIfInBounds_toArray, List.set_cons_zero, List.set_cons_succ]
      refine wpAnyH_take (i := 15) (oi := { dst := some 30, op := Go.Op.fieldAddr 69 (Go.Operand.tmp 29) 0, type := 0, pos := "bare.go:86", after := #[{ on := 14, ground := Go.Ground.data }, { on := 0, ground := Go.Ground.phase }, { on := 1, ground := Go.Ground.phase }, { on := 2, ground := Go.Ground.phase }, { on := 3, ground := Go.Ground.phase }, { on := 4, ground := Go.Ground.phase }, { on := 5, ground := Go.Ground.phase }, { on := 6, ground := Go.Ground.phase }, { on := 7, ground := Go.Ground.phase }, { on := 8, ground := Go.Ground.phase }, { on := 9, ground := Go.Ground.phase }, { on := 10, ground := Go.Ground.phase }, { on := 11, ground := Go.Ground.phase }, { on := 12, ground := Go.Ground.phase }, { on := 13, ground := Go.Ground.phase }], guard := none }) (v := ?_) rfl (by kernel_rfl) (by kernel_rfl) (by kernel_rfl) (fun _ _ _ h => h) (Or.inl ⟨by rfl, ?_⟩) (by assumption) ?_
      rotate_left
      · ((intro w hSw; (try dsimp only at hSw); go_simp) <;> (with_reducible rfl))
      try simp only [Act.put, List.setIfInBounds_toArray, List.set_cons_zero, List.set_cons_succ]
      refine wpAnyH_ready (rs := [16]) (by kernel_rfl) (by simp) ?_
      refine AllReadyH.cons (o := { dst := none, op := Go.Op.store 22 (Go.Operand.tmp 30) (Go.Operand.tmp 28), type := 0, pos := "bare.go:86", after := #[{ on := 15, ground := Go.Ground.data }, { on := 13, ground := Go.Ground.data }, { on := 13, ground := Go.Ground.chain }, { on := 0, ground := Go.Ground.phase }, { on := 1, ground := Go.Ground.phase }, { on := 2, ground := Go.Ground.phase }, { on := 3, ground := Go.Ground.phase }, { on := 4, ground := Go.Ground.phase }, { on := 5, ground := Go.Ground.phase }, { on := 6, ground := Go.Ground.phase }, { on := 7, ground := Go.Ground.phase }, { on := 8, ground := Go.Ground.phase }, { on := 9, ground := Go.Ground.phase }, { on := 10, ground := Go.Ground.phase }, { on := 11, ground := Go.Ground.phase }, { on := 12, ground := Go.Ground.phase }, { on := 13, ground := Go.Ground.phase }], guard := none }) rfl (fun K hK => ?_) AllReadyH.nil
      go_simp
      refine hK.out _ _ ?_ (fun hH3 => ?_)
      · ((try dsimp only); (first | exact ⟨i1, m3⟩ | exact ⟨j1, j3⟩ | exact ⟨q1, q3⟩))
      clear hK K hH2
      try simp only [Act.put, List.setIfInBounds_toArray, List.set_cons_zero, List.set_cons_succ]
      refine wpAnyH_done (by kernel_rfl) ?_ _
      obtain ⟨w6, hw6⟩ : ∃ w6, w6 = w5.setCell ⟨h, 0, none⟩ (.slice p5 n5 q5) := ⟨_, rfl⟩
      have hrs := HF0.out S w5 p5 n5 q5 B5.out (by exact O5.out) rfl (by rw [List.length_take]; omega) w6 hw6
      rw [← hw6]
      clear hw6 m5 f5 j1 j3 q1 q3 i1 m3 m0 mf
      have hnn : ∀ u : World, (binOp .neq 62 .nilIface .nilIface).run Tryz.prog u = .ok (.bool false) u := fun u => by rfl
      go_wp2_with (go_at_call 16; refine hrs.mono ?_; rintro e w7 ⟨rfl, hR⟩; have HR := Lib.hid hR; clear hR)
      exact HR.out
end
end Go.Proofs.YtfcmodllbhpniaaGreatDoor.Ser
