
/-
  The contract of package isa's Show.
-/
import Derived.Test.YtpjonhcbhgalpaaDoorIsaNum
import Derived.Test.YtpjonhcbhgalpaaDoorIsaDec
import Derived.Deep.RegionHeld3
namespace Go.Proofs.YtpjonhcbhgalpaaDoor
open Go.ChangeShapes Go.WideShapes Go.ChangeAt Go.RowKit
theorem info_str : (Tryd.prog.info? 9).map (fun i => (i.zero, i.size, i.bytes)) = some (some (.string ByteArray.empty), 1, 16) := by kernel_rfl
theorem numS_size (n : Int) (h0 : -9223372036854775808 ≤ n) (h1 : n ≤ 9223372036854775807) : (numS n).size ≤ 21 := by
  have := Lib.itoa_length_le n h0 h1
  show (Lib.itoa n).toArray.size ≤ 21
  simpa using this
theorem cell_one (w : World) (v : Value) (t : TypeId) : ∀ (j : Nat) (u : Value), [v][j]? = some u → (w.alloc (.cells #[v] t)).cell? ((⟨w.heap.size, 0, none⟩ : Addr).add j) = some u := by
  intro j u h
  match j, h with
  | 0, h => simp only [List.getElem?_cons_zero, Option.some.injEq] at h; subst h; exact cell_heap (MapKept.heap_alloc w _).1 0 _ rfl
  | j + 1, h => simp at h
theorem own_form {w : World} {base size n : Nat} {e : TypeId} {v : Value} {xs : List Value} (h : w.ownsRow base e size v n xs) (hn : 0 < n) : ∃ g cap, v = .slice (some ⟨g, 0, none⟩) n cap := by
  rcases h.2 with ⟨_, h0⟩ | ⟨g, cap, _, hv, _⟩
  · omega
  · exact ⟨g, cap, hv⟩
theorem ownsRow_below {u u' : World} {base : Nat} {e : TypeId} {size : Nat} {v : Value} {n : Nat} {xs : List Value} (h : u.ownsRow base e size v n xs) (hb : Below u.heap.size u u') : u'.ownsRow base e size v n xs := by
  obtain ⟨h1, h2⟩ := h
  refine ⟨h1, ?_⟩
  rcases h2 with h2 | ⟨g, cap, cur, hv, hg, hh, r⟩
  · exact .inl h2
  · exact .inr ⟨g, cap, cur, hv, hg, by rw [hb.block g (Array.getElem?_eq_some_iff.1 hh).1]; exact hh, r⟩
/-- Texts put together with a comma and a blank between. -/
def joinS (ss : List ByteArray) : ByteArray := ⟨(Lib.join (ss.map (·.data.toList)) [44, 32]).toArray⟩
theorem lens_le (xs : List (List UInt8)) (h : ∀ x ∈ xs, x.length ≤ 22) : Lib.lens xs ≤ 22 * xs.length := by
  induction xs with
  | nil => simp [Lib.lens]
  | cons x r ih =>
    have h1 := h x (by simp)
    have h2 := ih (fun y hy => h y (by simp [hy]))
    simp only [Lib.lens, List.map_cons, List.sum_cons, List.length_cons] at *
    omega
theorem join_le (ss : List ByteArray) (h : ∀ s ∈ ss, s.size ≤ 22) (hl : ss.length ≤ 4) : (joinS ss).size ≤ 96 := by
  show (Lib.join (ss.map (·.data.toList)) [44, 32]).toArray.size ≤ 96
  rw [List.size_toArray]
  match ss, h, hl with
  | [], _, _ => simp [Lib.join_nil]
  | s :: r, h, hl =>
    rw [List.map_cons, Lib.join_length]
    have h2 := lens_le ((s :: r).map (·.data.toList)) (by
      intro x hx
      obtain ⟨y, hy, rfl⟩ := List.mem_map.1 hx
      have := h y hy
      show y.data.toList.length ≤ 22
      rw [Array.length_toList]; exact this)
    simp only [List.length_map, List.length_cons, List.map_cons] at h2 hl ⊢
    simp only [List.length_nil]
    omega
theorem join_own {u u' : World} {base g cap n : Nat} (ss : List ByteArray) (hown : u.ownsRow base 9 1 (.slice (some ⟨g, 0, none⟩) n cap) n (ss.map Value.string)) (hn : ss.length = n) (hb : Below u.heap.size u u') (h : ∀ s ∈ ss, s.size ≤ 22) (hl : ss.length ≤ 4) :
    Calls Tryd.prog 17 #[.slice (some ⟨g, 0, none⟩) n cap, .string ⟨#[44, 32]⟩] u' fun e w' => e = .returned (.string (joinS ss)) ∧ Below u'.heap.size u' w' := by
  subst hn
  have hg : g < u.heap.size := (hown.lt g rfl).2
  have hcap : ss.length ≤ cap := by
    rcases hown.2 with ⟨h1, _⟩ | ⟨g', cap', cur, hv, _, _, h3, _⟩
    · cases h1
    · cases hv; exact h3
  refine Tryd.strings_Join g 0 cap ss ⟨#[44, 32]⟩ u' (fun j x hj => ?_) (by have := hb.size; omega) (by omega) hcap ?_
  · have hjl : j < ss.length := (List.getElem?_eq_some_iff.1 hj).1
    have hc := hown.cellAt j (by omega)
    rw [Nat.zero_add, hb.cell (p := ⟨g, j, none⟩) hg, hc, List.getElem?_map, hj]
    rfl
  · have := join_le ss h hl
    have e : (joinS ss).size = (Lib.join (ss.map (·.data.toList)) [44, 32]).length := by show (Lib.join _ _).toArray.size = _; simp
    show (Lib.join (ss.map (·.data.toList)) [44, 32]).length ≤ _
    omega
theorem opN_size (op : Int) : (opN op).size ≤ 5 := by
  by_cases h0 : op < 0
  · rw [opN_neg op h0]; decide
  · by_cases h1 : 70 < op
    · rw [opN_great op h1]; decide
    · have := op_cases op (by omega) (by omega)
      rcases this with rfl | rfl | rfl | rfl | rfl | rfl | rfl | rfl | rfl | rfl | rfl | rfl | rfl | rfl | rfl | rfl | rfl | rfl | rfl | rfl | rfl | rfl | rfl | rfl | rfl | rfl | rfl | rfl | rfl | rfl | rfl | rfl | rfl | rfl | rfl | rfl | rfl | rfl | rfl | rfl | rfl | rfl | rfl | rfl | rfl | rfl | rfl | rfl | rfl | rfl | rfl | rfl | rfl | rfl | rfl | rfl | rfl | rfl | rfl | rfl | rfl | rfl | rfl | rfl | rfl | rfl | rfl | rfl | rfl | rfl | rfl <;> decide
theorem keep1 {W u w'' : World} {Y : Nat} {v : Value} (hY : Y < W.heap.size) (h : Below u.heap.size u w'') (hS : u.cell? ⟨Y, 0, none⟩ = some v ∧ Below W.heap.size W u) : w''.cell? ⟨Y, 0, none⟩ = some v ∧ Below W.heap.size W w'' :=
  ⟨by rw [h.cell (p := ⟨Y, 0, none⟩) (by have := hS.2.size; show Y < _; omega)]; exact hS.1, hS.2.trans (h.mono hS.2.size)⟩
theorem below1 {W u : World} {Y : Nat} {v : Value} (hS : u.cell? ⟨Y, 0, none⟩ = some v ∧ Below W.heap.size W u) : Below W.heap.size W u := hS.2
theorem ret_str {s t : ByteArray} (h : s = t) : Ending.returned (.string s) = .returned (.string t) := by rw [h]
theorem bytes_ext {s t : ByteArray} (h : s.data.toList = t.data.toList) : s = t := by
  cases s; cases t; congr 1; exact Array.toList_inj.1 h
theorem rN (a : Int) : ((⟨#[114]⟩ : ByteArray) ++ numS a).data.toList = rS a := by
  unfold numS rS; simp
theorem r_size (a : Int) (h : (numS a).size ≤ 21) : ((⟨#[114]⟩ : ByteArray) ++ numS a).size ≤ 22 := by
  rw [ByteArray.size_append]; show 1 + _ ≤ 22; omega
theorem show_fin (op a b c m : Int) (ss : List ByteArray) (hE : encE op a b c m = 0) (hne : ss ≠ []) (hs : ss.map (·.data.toList) = flds (fR (opF op)) (fB (opF op)) a b c m) : opN op ++ (⟨#[32]⟩ : ByteArray) ++ joinS ss = showS op a b c m := by
  refine bytes_ext ?_
  have hne' : flds (fR (opF op)) (fB (opF op)) a b c m ≠ [] := by rw [← hs]; simpa using hne
  have e : (showS op a b c m).data.toList = (opN op).data.toList ++ 32 :: Lib.join (flds (fR (opF op)) (fB (opF op)) a b c m) [44, 32] := by
    unfold showS showL tailL
    rw [if_pos hE, if_neg hne']
  rw [e, ← hs]
  unfold joinS
  simp
/-- What is known of the world in which the texts are put together. -/
structure Laid (w W : World) (X Y Z A : Nat) (op a b c m q : Int) : Prop where
  old : Below w.heap.size w W
  x4 : W.cell? ⟨X, 4, none⟩ = some (.int .i64 m)
  y0 : W.cell? ⟨Y, 0, none⟩ = some (.string (opN op))
  z1 : W.cell? ⟨Z, 1, none⟩ = some (.int .i64 q)
  a0 : W.cell? ⟨A, 0, none⟩ = some (.int .i64 a)
  a1 : W.cell? ⟨A, 1, none⟩ = some (.int .i64 b)
  a2 : W.cell? ⟨A, 2, none⟩ = some (.int .i64 c)
  lX : X < W.heap.size
  lY : Y < W.heap.size
  lZ : Z < W.heap.size
  lA : A < W.heap.size
set_option maxHeartbeats 8000000 in
theorem show_3_0 (op a b c m : Int) (hE : encE op a b c m = 0) (hR : fR (opF op) = 3) (hB : fB (opF op) = 0) (a0 : 0 ≤ a) (a1 : a ≤ 15) (b0 : 0 ≤ b) (b1 : b ≤ 15) (c0 : 0 ≤ c) (c1 : c ≤ 15) (m0 : -524288 ≤ m) (m1 : m ≤ 524287) (w : World) (_ : Tab w) : Calls Tryd.prog 10 #[insV op a b c m] w fun e w' => e = .returned (.string (showS op a b c m)) ∧ Below w.heap.size w w' := by
  obtain ⟨i0, hi, hz0, hz1, hzz⟩ := info_parts info_str
  have hE' : (encE op a b c m != 0) = false := by simpa using hE
  have hf := opF_bd op
  have hEh := Lib.hid hE
  have na := numS_size a (by omega) (by omega)
  have nb := numS_size b (by omega) (by omega)
  have nc := numS_size c (by omega) (by omega)
  have nm := numS_size m (by omega) (by omega)
  clear hE
  go_enter Tryd.func10, Tryd.ntmps10
  go_wp2_with (first | (go_at_call 12; (with_reducible refine (encode_says _ _ _ _ _ _).mono ?_); rintro e w1 ⟨rfl, hb1⟩; obtain ⟨hc1, hf1⟩ := bcell hb1; have hz1 : w.heap.size < w1.heap.size := (by have := hb1.size; simp at this; omega)) | (go_at_call 14; refine (operationOf_says _ _).mono ?_; rintro e w2 ⟨rfl, hb2⟩; obtain ⟨hc2, hf2⟩ := bcell hb2; have hz2 : w1.heap.size ≤ w2.heap.size := hb2.size; have hz2' : w.heap.size < w2.heap.size := (by omega)) | (go_at_call 15; refine (formOf_says _ hf.1 hf.2 _).mono ?_; rintro e w3 ⟨rfl, hb3⟩; obtain ⟨hc3, hf3⟩ := bcell hb3; have hz3 : w2.heap.size < w3.heap.size := (by have := hb3.size; simp at this; omega); have hz3' : w1.heap.size < w3.heap.size := (by omega); have hz3'' : w.heap.size < w3.heap.size := (by omega)))
  obtain ⟨W, hW⟩ : ∃ W : World, W = (w3.alloc (Obj.cells #[Value.int IntKind.i64 3, Value.int IntKind.i64 0, Value.int IntKind.i64 (fL (opF op)), Value.int IntKind.i64 (fH (opF op))] 41)).alloc (Obj.cells #[i64 a, i64 b, i64 c] 3) := ⟨_, rfl⟩
  rw [← hW]
  have hL : Laid w W w.heap.size w2.heap.size w3.heap.size (w3.heap.size + 1) op a b c m 0 := by
    have s1 : w3.heap.size + 1 < W.heap.size := by rw [hW]; simp only [World.size_alloc]; omega
    have hX : W.heap[w.heap.size]? = some (.cells #[i64 op, i64 a, i64 b, i64 c, i64 m] 23 (0, 0)) := by
      rw [hW, Below.heap_alloc _ _ _ (by simp only [World.size_alloc]; omega), Below.heap_alloc _ _ _ (by omega), hb3.block _ (by simp only [World.size_alloc]; omega), Below.heap_alloc _ _ _ (by omega), hb2.block _ (by omega), hb1.block _ (by simp)]
      exact (MapKept.heap_alloc w _).1
    have hY : W.heap[w2.heap.size]? = some (.cells #[.string (opN op), i64 (opF op)] 38 (0, 0)) := by
      rw [hW, Below.heap_alloc _ _ _ (by simp only [World.size_alloc]; omega), Below.heap_alloc _ _ _ (by omega), hb3.block _ (by simp)]
      exact (MapKept.heap_alloc w2 _).1
    have hZ : W.heap[w3.heap.size]? = some (.cells #[i64 3, i64 0, i64 (fL (opF op)), i64 (fH (opF op))] 41 (0, 0)) := by
      rw [hW, Below.heap_alloc _ _ _ (by simp)]
      exact (MapKept.heap_alloc w3 _).1
    have hA : W.heap[w3.heap.size + 1]? = some (.cells #[i64 a, i64 b, i64 c] 3 (0, 0)) := by
      rw [hW]; have := (MapKept.heap_alloc (w3.alloc (Obj.cells #[Value.int IntKind.i64 3, Value.int IntKind.i64 0, Value.int IntKind.i64 (fL (opF op)), Value.int IntKind.i64 (fH (opF op))] 41)) (Obj.cells #[i64 a, i64 b, i64 c] 3)).1
      rw [World.size_alloc] at this; exact this
    have hO : Below w.heap.size w W := by
      rw [hW]; exact ((((((Below.refl _ _).alloc (Nat.le_refl _) _).trans (hb1.mono (by simp))).trans (hb2.mono (by omega))).alloc (by omega) _).trans (hb3.mono (by simp; omega))).alloc (by omega) _ |>.alloc (by simp; omega) _
    exact ⟨hO, cell_heap hX 4 _ rfl, cell_heap hY 0 _ rfl, cell_heap hZ 1 _ rfl, cell_heap hA 0 _ rfl, cell_heap hA 1 _ rfl, cell_heap hA 2 _ rfl, by omega, by omega, by omega, s1⟩
  clear hW hb1 hb2 hb3 hc1 hc2 hc3 hf1 hf2 hf3 hz1 hz2 hz2' hz3 hz3' hz3'' hE'
  obtain ⟨hO, x4, y0, z1, d0, d1, d2, lX, lY, lZ, lA⟩ := hL
  refine wp_loop_rounds 4 ?_
  rw [rounds_succ]
  go_wp2_with (first | (go_at_call 16; refine (itoa_reg a a0 a1 _).mono ?_; rintro e w' ⟨rfl, rfl⟩) | (at_builtin; refine wpList_append_own _ rfl _ _ 43 rfl W.heap.size 9 i0 (.string ByteArray.empty) 1 16 Tryd.underlying43 hi hz0 hz1 hzz rfl (by decide) _ _ _ rfl (World.ownsRow_nil _ _ _ _) ⟨W.heap.size, 0, none⟩ 1 1 [.string _] rfl rfl (cell_one _ _ _) (fun x hx => by simp at hx; subst hx; rfl) (by unfold maxLen; omega) (by omega) (by simp; try omega) ?_; intro v1 u1 hown1 hgrow1 _; obtain ⟨g1, cap1, rfl⟩ := own_form hown1 (by decide); have ub1 : Below W.heap.size W u1 := Below.grown (Below.alloc (Below.refl _ _) (by try omega) _) hgrow1 (by simp; try omega) (fun k hk => absurd (show (none : Option Nat) = some k from hk) (by simp)); obtain ⟨uc1, uf1⟩ := bcell ub1; have us1 : W.heap.size ≤ u1.heap.size := ub1.size))
  rw [rounds_succ]
  go_wp2_with (first | (go_at_call 16; refine (itoa_reg b b0 b1 _).mono ?_; rintro e w' ⟨rfl, rfl⟩) | (at_builtin; refine wpList_append_own _ rfl _ _ 43 rfl W.heap.size 9 i0 (.string ByteArray.empty) 1 16 Tryd.underlying43 hi hz0 hz1 hzz rfl (by decide) _ _ _ rfl (hown1.alloc _) ⟨u1.heap.size, 0, none⟩ 1 1 [.string _] rfl rfl (cell_one _ _ _) (fun x hx => by simp at hx; subst hx; rfl) (by unfold maxLen; omega) (by omega) (by simp; try omega) ?_; intro v2 u2 hown2 hgrow2 _; obtain ⟨g2, cap2, rfl⟩ := own_form hown2 (by decide); have ub2 : Below W.heap.size W u2 := Below.grown (Below.alloc ub1 (by try omega) _) hgrow2 (by simp; try omega) (fun k hk => (hown1.lt k hk).1); obtain ⟨uc2, uf2⟩ := bcell ub2; have us2 : W.heap.size ≤ u2.heap.size := ub2.size))
  rw [rounds_succ]
  go_wp2_with (first | (go_at_call 16; refine (itoa_reg c c0 c1 _).mono ?_; rintro e w' ⟨rfl, rfl⟩) | (at_builtin; refine wpList_append_own _ rfl _ _ 43 rfl W.heap.size 9 i0 (.string ByteArray.empty) 1 16 Tryd.underlying43 hi hz0 hz1 hzz rfl (by decide) _ _ _ rfl (hown2.alloc _) ⟨u2.heap.size, 0, none⟩ 1 1 [.string _] rfl rfl (cell_one _ _ _) (fun x hx => by simp at hx; subst hx; rfl) (by unfold maxLen; omega) (by omega) (by simp; try omega) ?_; intro v3 u3 hown3 hgrow3 _; obtain ⟨g3, cap3, rfl⟩ := own_form hown3 (by decide); have ub3 : Below W.heap.size W u3 := Below.grown (Below.alloc ub2 (by try omega) _) hgrow3 (by simp; try omega) (fun k hk => (hown2.lt k hk).1); obtain ⟨uc3, uf3⟩ := bcell ub3; have us3 : W.heap.size ≤ u3.heap.size := ub3.size))
  rw [rounds_succ]
  go_wp2_with fail
  have nO := opN_size op
  have nJ := join_le [(⟨#[114]⟩ : ByteArray) ++ numS a, (⟨#[114]⟩ : ByteArray) ++ numS b, (⟨#[114]⟩ : ByteArray) ++ numS c] (by simp only [List.mem_cons, List.not_mem_nil, or_false]; intro s hs; rcases hs with rfl | rfl | rfl; exact r_size _ na; exact r_size _ nb; exact r_size _ nc) (by simp)
  have k1 : ∀ w, (Op.stringOp .add (opN op) (⟨#[32]⟩ : ByteArray)).run Tryd.prog w = .ok (.string (opN op ++ ⟨#[32]⟩)) w := fun w => run_string_add_sum w _ _ (by show (opN op).size + 1 ≤ _; omega)
  have k2 : ∀ w, (Op.stringOp .add (opN op ++ (⟨#[32]⟩ : ByteArray)) (joinS [(⟨#[114]⟩ : ByteArray) ++ numS a, (⟨#[114]⟩ : ByteArray) ++ numS b, (⟨#[114]⟩ : ByteArray) ++ numS c])).run Tryd.prog w = .ok (.string (opN op ++ ⟨#[32]⟩ ++ joinS [(⟨#[114]⟩ : ByteArray) ++ numS a, (⟨#[114]⟩ : ByteArray) ++ numS b, (⟨#[114]⟩ : ByteArray) ++ numS c])) w := fun w => run_string_add_sum w _ _ (by rw [ByteArray.size_append]; show (opN op).size + 1 + _ ≤ _; omega)
  have y1 : u3.cell? ⟨w2.heap.size, 0, none⟩ = some (.string (opN op)) := (uc3 _ _ lY).trans y0
  go_region_held3 (fun u' => u'.cell? ⟨w2.heap.size, 0, none⟩ = some (.string (opN op)) ∧ Below W.heap.size W u') (first | assumption | (with_reducible exact keep1 lY (by assumption) (by assumption)) | exact ⟨y1, ub3⟩ | exact ⟨y1, ub3.drew⟩)
    (first | (go_at_call 17; refine (join_own [(⟨#[114]⟩ : ByteArray) ++ numS a, (⟨#[114]⟩ : ByteArray) ++ numS b, (⟨#[114]⟩ : ByteArray) ++ numS c] hown3 rfl (by first | exact Below.refl _ _ | exact (Below.refl _ _).drew) (by simp only [List.mem_cons, List.not_mem_nil, or_false]; intro s hs; rcases hs with rfl | rfl | rfl; exact r_size _ na; exact r_size _ nb; exact r_size _ nc) (by simp)).mono ?_; rintro e u' ⟨rfl, hu'⟩))
  all_goals go_wp2_with fail
  all_goals go_ret
  all_goals exact ⟨ret_str (show_fin op a b c m _ hEh.out (by simp) (by rw [hR, hB]; simp only [List.map_cons, List.map_nil, rN]; rfl)), hO.trans ((below1 (by assumption)).mono hO.size)⟩
set_option maxHeartbeats 8000000 in
theorem show_2_16 (op a b c m : Int) (hE : encE op a b c m = 0) (hR : fR (opF op) = 2) (hB : fB (opF op) = 16) (a0 : 0 ≤ a) (a1 : a ≤ 15) (b0 : 0 ≤ b) (b1 : b ≤ 15) (c0 : 0 ≤ c) (c1 : c ≤ 15) (m0 : -524288 ≤ m) (m1 : m ≤ 524287) (w : World) (hT : Tab w) : Calls Tryd.prog 10 #[insV op a b c m] w fun e w' => e = .returned (.string (showS op a b c m)) ∧ Below w.heap.size w w' := by
  obtain ⟨i0, hi, hz0, hz1, hzz⟩ := info_parts info_str
  have hE' : (encE op a b c m != 0) = false := by simpa using hE
  have hf := opF_bd op
  have hEh := Lib.hid hE
  have na := numS_size a (by omega) (by omega)
  have nb := numS_size b (by omega) (by omega)
  have nc := numS_size c (by omega) (by omega)
  have nm := numS_size m (by omega) (by omega)
  clear hE
  go_enter Tryd.func10, Tryd.ntmps10
  go_wp2_with (first | (go_at_call 12; (with_reducible refine (encode_says _ _ _ _ _ _).mono ?_); rintro e w1 ⟨rfl, hb1⟩; obtain ⟨hc1, hf1⟩ := bcell hb1; have hz1 : w.heap.size < w1.heap.size := (by have := hb1.size; simp at this; omega)) | (go_at_call 14; refine (operationOf_says _ _).mono ?_; rintro e w2 ⟨rfl, hb2⟩; obtain ⟨hc2, hf2⟩ := bcell hb2; have hz2 : w1.heap.size ≤ w2.heap.size := hb2.size; have hz2' : w.heap.size < w2.heap.size := (by omega)) | (go_at_call 15; refine (formOf_says _ hf.1 hf.2 _).mono ?_; rintro e w3 ⟨rfl, hb3⟩; obtain ⟨hc3, hf3⟩ := bcell hb3; have hz3 : w2.heap.size < w3.heap.size := (by have := hb3.size; simp at this; omega); have hz3' : w1.heap.size < w3.heap.size := (by omega); have hz3'' : w.heap.size < w3.heap.size := (by omega)))
  obtain ⟨W, hW⟩ : ∃ W : World, W = (w3.alloc (Obj.cells #[Value.int IntKind.i64 2, Value.int IntKind.i64 16, Value.int IntKind.i64 (fL (opF op)), Value.int IntKind.i64 (fH (opF op))] 41)).alloc (Obj.cells #[i64 a, i64 b, i64 c] 3) := ⟨_, rfl⟩
  rw [← hW]
  have hL : Laid w W w.heap.size w2.heap.size w3.heap.size (w3.heap.size + 1) op a b c m 16 := by
    have s1 : w3.heap.size + 1 < W.heap.size := by rw [hW]; simp only [World.size_alloc]; omega
    have hX : W.heap[w.heap.size]? = some (.cells #[i64 op, i64 a, i64 b, i64 c, i64 m] 23 (0, 0)) := by
      rw [hW, Below.heap_alloc _ _ _ (by simp only [World.size_alloc]; omega), Below.heap_alloc _ _ _ (by omega), hb3.block _ (by simp only [World.size_alloc]; omega), Below.heap_alloc _ _ _ (by omega), hb2.block _ (by omega), hb1.block _ (by simp)]
      exact (MapKept.heap_alloc w _).1
    have hY : W.heap[w2.heap.size]? = some (.cells #[.string (opN op), i64 (opF op)] 38 (0, 0)) := by
      rw [hW, Below.heap_alloc _ _ _ (by simp only [World.size_alloc]; omega), Below.heap_alloc _ _ _ (by omega), hb3.block _ (by simp)]
      exact (MapKept.heap_alloc w2 _).1
    have hZ : W.heap[w3.heap.size]? = some (.cells #[i64 2, i64 16, i64 (fL (opF op)), i64 (fH (opF op))] 41 (0, 0)) := by
      rw [hW, Below.heap_alloc _ _ _ (by simp)]
      exact (MapKept.heap_alloc w3 _).1
    have hA : W.heap[w3.heap.size + 1]? = some (.cells #[i64 a, i64 b, i64 c] 3 (0, 0)) := by
      rw [hW]; have := (MapKept.heap_alloc (w3.alloc (Obj.cells #[Value.int IntKind.i64 2, Value.int IntKind.i64 16, Value.int IntKind.i64 (fL (opF op)), Value.int IntKind.i64 (fH (opF op))] 41)) (Obj.cells #[i64 a, i64 b, i64 c] 3)).1
      rw [World.size_alloc] at this; exact this
    have hO : Below w.heap.size w W := by
      rw [hW]; exact ((((((Below.refl _ _).alloc (Nat.le_refl _) _).trans (hb1.mono (by simp))).trans (hb2.mono (by omega))).alloc (by omega) _).trans (hb3.mono (by simp; omega))).alloc (by omega) _ |>.alloc (by simp; omega) _
    exact ⟨hO, cell_heap hX 4 _ rfl, cell_heap hY 0 _ rfl, cell_heap hZ 1 _ rfl, cell_heap hA 0 _ rfl, cell_heap hA 1 _ rfl, cell_heap hA 2 _ rfl, by omega, by omega, by omega, s1⟩
  clear hW hb1 hb2 hb3 hc1 hc2 hc3 hf1 hf2 hf3 hz1 hz2 hz2' hz3 hz3' hz3'' hE'
  obtain ⟨hO, x4, y0, z1, d0, d1, d2, lX, lY, lZ, lA⟩ := hL
  refine wp_loop_rounds 3 ?_
  rw [rounds_succ]
  go_wp2_with (first | (go_at_call 16; refine (itoa_reg a a0 a1 _).mono ?_; rintro e w' ⟨rfl, rfl⟩) | (at_builtin; refine wpList_append_own _ rfl _ _ 43 rfl W.heap.size 9 i0 (.string ByteArray.empty) 1 16 Tryd.underlying43 hi hz0 hz1 hzz rfl (by decide) _ _ _ rfl (World.ownsRow_nil _ _ _ _) ⟨W.heap.size, 0, none⟩ 1 1 [.string _] rfl rfl (cell_one _ _ _) (fun x hx => by simp at hx; subst hx; rfl) (by unfold maxLen; omega) (by omega) (by simp; try omega) ?_; intro v1 u1 hown1 hgrow1 _; obtain ⟨g1, cap1, rfl⟩ := own_form hown1 (by decide); have ub1 : Below W.heap.size W u1 := Below.grown (Below.alloc (Below.refl _ _) (by try omega) _) hgrow1 (by simp; try omega) (fun k hk => absurd (show (none : Option Nat) = some k from hk) (by simp)); obtain ⟨uc1, uf1⟩ := bcell ub1; have us1 : W.heap.size ≤ u1.heap.size := ub1.size))
  rw [rounds_succ]
  go_wp2_with (first | (go_at_call 16; refine (itoa_reg b b0 b1 _).mono ?_; rintro e w' ⟨rfl, rfl⟩) | (at_builtin; refine wpList_append_own _ rfl _ _ 43 rfl W.heap.size 9 i0 (.string ByteArray.empty) 1 16 Tryd.underlying43 hi hz0 hz1 hzz rfl (by decide) _ _ _ rfl (hown1.alloc _) ⟨u1.heap.size, 0, none⟩ 1 1 [.string _] rfl rfl (cell_one _ _ _) (fun x hx => by simp at hx; subst hx; rfl) (by unfold maxLen; omega) (by omega) (by simp; try omega) ?_; intro v2 u2 hown2 hgrow2 _; obtain ⟨g2, cap2, rfl⟩ := own_form hown2 (by decide); have ub2 : Below W.heap.size W u2 := Below.grown (Below.alloc ub1 (by try omega) _) hgrow2 (by simp; try omega) (fun k hk => (hown1.lt k hk).1); obtain ⟨uc2, uf2⟩ := bcell ub2; have us2 : W.heap.size ≤ u2.heap.size := ub2.size))
  rw [rounds_succ]
  go_wp2_with (first | (go_at_call 16; refine (itoa_imm m m0 m1 _ (hT.later (hO.trans (ub2.mono hO.size)))).mono ?_; rintro e t1 ⟨rfl, tb1⟩; have town := ownsRow_below hown2 tb1; have tb := ub2.trans (tb1.mono us2); obtain ⟨tc1, tf1⟩ := bcell tb; have ts1 : W.heap.size ≤ t1.heap.size := tb.size) | (at_builtin; refine wpList_append_own _ rfl _ _ 43 rfl W.heap.size 9 i0 (.string ByteArray.empty) 1 16 Tryd.underlying43 hi hz0 hz1 hzz rfl (by decide) _ _ _ rfl (town.alloc _) ⟨t1.heap.size, 0, none⟩ 1 1 [.string _] rfl rfl (cell_one _ _ _) (fun x hx => by simp at hx; subst hx; rfl) (by unfold maxLen; omega) (by omega) (by simp; try omega) ?_; intro v3 u3 hown3 hgrow3 _; obtain ⟨g3, cap3, rfl⟩ := own_form hown3 (by decide); have ub3 : Below W.heap.size W u3 := Below.grown (Below.alloc tb (by try omega) _) hgrow3 (by simp; try omega) (fun k hk => (town.lt k hk).1); obtain ⟨uc3, uf3⟩ := bcell ub3; have us3 : W.heap.size ≤ u3.heap.size := ub3.size))
  have nO := opN_size op
  have nJ := join_le [(⟨#[114]⟩ : ByteArray) ++ numS a, (⟨#[114]⟩ : ByteArray) ++ numS b, numS m] (by simp only [List.mem_cons, List.not_mem_nil, or_false]; intro s hs; rcases hs with rfl | rfl | rfl; exact r_size _ na; exact r_size _ nb; omega) (by simp)
  have k1 : ∀ w, (Op.stringOp .add (opN op) (⟨#[32]⟩ : ByteArray)).run Tryd.prog w = .ok (.string (opN op ++ ⟨#[32]⟩)) w := fun w => run_string_add_sum w _ _ (by show (opN op).size + 1 ≤ _; omega)
  have k2 : ∀ w, (Op.stringOp .add (opN op ++ (⟨#[32]⟩ : ByteArray)) (joinS [(⟨#[114]⟩ : ByteArray) ++ numS a, (⟨#[114]⟩ : ByteArray) ++ numS b, numS m])).run Tryd.prog w = .ok (.string (opN op ++ ⟨#[32]⟩ ++ joinS [(⟨#[114]⟩ : ByteArray) ++ numS a, (⟨#[114]⟩ : ByteArray) ++ numS b, numS m])) w := fun w => run_string_add_sum w _ _ (by rw [ByteArray.size_append]; show (opN op).size + 1 + _ ≤ _; omega)
  have y1 : u3.cell? ⟨w2.heap.size, 0, none⟩ = some (.string (opN op)) := (uc3 _ _ lY).trans y0
  go_region_held3 (fun u' => u'.cell? ⟨w2.heap.size, 0, none⟩ = some (.string (opN op)) ∧ Below W.heap.size W u') (first | assumption | (with_reducible exact keep1 lY (by assumption) (by assumption)) | exact ⟨y1, ub3⟩ | exact ⟨y1, ub3.drew⟩)
    (first | (go_at_call 17; refine (join_own [(⟨#[114]⟩ : ByteArray) ++ numS a, (⟨#[114]⟩ : ByteArray) ++ numS b, numS m] hown3 rfl (by first | exact Below.refl _ _ | exact (Below.refl _ _).drew) (by simp only [List.mem_cons, List.not_mem_nil, or_false]; intro s hs; rcases hs with rfl | rfl | rfl; exact r_size _ na; exact r_size _ nb; omega) (by simp)).mono ?_; rintro e u' ⟨rfl, hu'⟩))
  all_goals go_wp2_with fail
  all_goals go_ret
  all_goals exact ⟨ret_str (show_fin op a b c m _ hEh.out (by simp) (by rw [hR, hB]; simp only [List.map_cons, List.map_nil, rN]; rfl)), hO.trans ((below1 (by assumption)).mono hO.size)⟩
set_option maxHeartbeats 8000000 in
theorem show_1_16 (op a b c m : Int) (hE : encE op a b c m = 0) (hR : fR (opF op) = 1) (hB : fB (opF op) = 16) (a0 : 0 ≤ a) (a1 : a ≤ 15) (b0 : 0 ≤ b) (b1 : b ≤ 15) (c0 : 0 ≤ c) (c1 : c ≤ 15) (m0 : -524288 ≤ m) (m1 : m ≤ 524287) (w : World) (hT : Tab w) : Calls Tryd.prog 10 #[insV op a b c m] w fun e w' => e = .returned (.string (showS op a b c m)) ∧ Below w.heap.size w w' := by
  obtain ⟨i0, hi, hz0, hz1, hzz⟩ := info_parts info_str
  have hE' : (encE op a b c m != 0) = false := by simpa using hE
  have hf := opF_bd op
  have hEh := Lib.hid hE
  have na := numS_size a (by omega) (by omega)
  have nb := numS_size b (by omega) (by omega)
  have nc := numS_size c (by omega) (by omega)
  have nm := numS_size m (by omega) (by omega)
  clear hE
  go_enter Tryd.func10, Tryd.ntmps10
  go_wp2_with (first | (go_at_call 12; (with_reducible refine (encode_says _ _ _ _ _ _).mono ?_); rintro e w1 ⟨rfl, hb1⟩; obtain ⟨hc1, hf1⟩ := bcell hb1; have hz1 : w.heap.size < w1.heap.size := (by have := hb1.size; simp at this; omega)) | (go_at_call 14; refine (operationOf_says _ _).mono ?_; rintro e w2 ⟨rfl, hb2⟩; obtain ⟨hc2, hf2⟩ := bcell hb2; have hz2 : w1.heap.size ≤ w2.heap.size := hb2.size; have hz2' : w.heap.size < w2.heap.size := (by omega)) | (go_at_call 15; refine (formOf_says _ hf.1 hf.2 _).mono ?_; rintro e w3 ⟨rfl, hb3⟩; obtain ⟨hc3, hf3⟩ := bcell hb3; have hz3 : w2.heap.size < w3.heap.size := (by have := hb3.size; simp at this; omega); have hz3' : w1.heap.size < w3.heap.size := (by omega); have hz3'' : w.heap.size < w3.heap.size := (by omega)))
  obtain ⟨W, hW⟩ : ∃ W : World, W = (w3.alloc (Obj.cells #[Value.int IntKind.i64 1, Value.int IntKind.i64 16, Value.int IntKind.i64 (fL (opF op)), Value.int IntKind.i64 (fH (opF op))] 41)).alloc (Obj.cells #[i64 a, i64 b, i64 c] 3) := ⟨_, rfl⟩
  rw [← hW]
  have hL : Laid w W w.heap.size w2.heap.size w3.heap.size (w3.heap.size + 1) op a b c m 16 := by
    have s1 : w3.heap.size + 1 < W.heap.size := by rw [hW]; simp only [World.size_alloc]; omega
    have hX : W.heap[w.heap.size]? = some (.cells #[i64 op, i64 a, i64 b, i64 c, i64 m] 23 (0, 0)) := by
      rw [hW, Below.heap_alloc _ _ _ (by simp only [World.size_alloc]; omega), Below.heap_alloc _ _ _ (by omega), hb3.block _ (by simp only [World.size_alloc]; omega), Below.heap_alloc _ _ _ (by omega), hb2.block _ (by omega), hb1.block _ (by simp)]
      exact (MapKept.heap_alloc w _).1
    have hY : W.heap[w2.heap.size]? = some (.cells #[.string (opN op), i64 (opF op)] 38 (0, 0)) := by
      rw [hW, Below.heap_alloc _ _ _ (by simp only [World.size_alloc]; omega), Below.heap_alloc _ _ _ (by omega), hb3.block _ (by simp)]
      exact (MapKept.heap_alloc w2 _).1
    have hZ : W.heap[w3.heap.size]? = some (.cells #[i64 1, i64 16, i64 (fL (opF op)), i64 (fH (opF op))] 41 (0, 0)) := by
      rw [hW, Below.heap_alloc _ _ _ (by simp)]
      exact (MapKept.heap_alloc w3 _).1
    have hA : W.heap[w3.heap.size + 1]? = some (.cells #[i64 a, i64 b, i64 c] 3 (0, 0)) := by
      rw [hW]; have := (MapKept.heap_alloc (w3.alloc (Obj.cells #[Value.int IntKind.i64 1, Value.int IntKind.i64 16, Value.int IntKind.i64 (fL (opF op)), Value.int IntKind.i64 (fH (opF op))] 41)) (Obj.cells #[i64 a, i64 b, i64 c] 3)).1
      rw [World.size_alloc] at this; exact this
    have hO : Below w.heap.size w W := by
      rw [hW]; exact ((((((Below.refl _ _).alloc (Nat.le_refl _) _).trans (hb1.mono (by simp))).trans (hb2.mono (by omega))).alloc (by omega) _).trans (hb3.mono (by simp; omega))).alloc (by omega) _ |>.alloc (by simp; omega) _
    exact ⟨hO, cell_heap hX 4 _ rfl, cell_heap hY 0 _ rfl, cell_heap hZ 1 _ rfl, cell_heap hA 0 _ rfl, cell_heap hA 1 _ rfl, cell_heap hA 2 _ rfl, by omega, by omega, by omega, s1⟩
  clear hW hb1 hb2 hb3 hc1 hc2 hc3 hf1 hf2 hf3 hz1 hz2 hz2' hz3 hz3' hz3'' hE'
  obtain ⟨hO, x4, y0, z1, d0, d1, d2, lX, lY, lZ, lA⟩ := hL
  refine wp_loop_rounds 2 ?_
  rw [rounds_succ]
  go_wp2_with (first | (go_at_call 16; refine (itoa_reg a a0 a1 _).mono ?_; rintro e w' ⟨rfl, rfl⟩) | (at_builtin; refine wpList_append_own _ rfl _ _ 43 rfl W.heap.size 9 i0 (.string ByteArray.empty) 1 16 Tryd.underlying43 hi hz0 hz1 hzz rfl (by decide) _ _ _ rfl (World.ownsRow_nil _ _ _ _) ⟨W.heap.size, 0, none⟩ 1 1 [.string _] rfl rfl (cell_one _ _ _) (fun x hx => by simp at hx; subst hx; rfl) (by unfold maxLen; omega) (by omega) (by simp; try omega) ?_; intro v1 u1 hown1 hgrow1 _; obtain ⟨g1, cap1, rfl⟩ := own_form hown1 (by decide); have ub1 : Below W.heap.size W u1 := Below.grown (Below.alloc (Below.refl _ _) (by try omega) _) hgrow1 (by simp; try omega) (fun k hk => absurd (show (none : Option Nat) = some k from hk) (by simp)); obtain ⟨uc1, uf1⟩ := bcell ub1; have us1 : W.heap.size ≤ u1.heap.size := ub1.size))
  rw [rounds_succ]
  go_wp2_with (first | (go_at_call 16; refine (itoa_imm m m0 m1 _ (hT.later (hO.trans (ub1.mono hO.size)))).mono ?_; rintro e t1 ⟨rfl, tb1⟩; have town := ownsRow_below hown1 tb1; have tb := ub1.trans (tb1.mono us1); obtain ⟨tc1, tf1⟩ := bcell tb; have ts1 : W.heap.size ≤ t1.heap.size := tb.size) | (at_builtin; refine wpList_append_own _ rfl _ _ 43 rfl W.heap.size 9 i0 (.string ByteArray.empty) 1 16 Tryd.underlying43 hi hz0 hz1 hzz rfl (by decide) _ _ _ rfl (town.alloc _) ⟨t1.heap.size, 0, none⟩ 1 1 [.string _] rfl rfl (cell_one _ _ _) (fun x hx => by simp at hx; subst hx; rfl) (by unfold maxLen; omega) (by omega) (by simp; try omega) ?_; intro v2 u2 hown2 hgrow2 _; obtain ⟨g2, cap2, rfl⟩ := own_form hown2 (by decide); have ub2 : Below W.heap.size W u2 := Below.grown (Below.alloc tb (by try omega) _) hgrow2 (by simp; try omega) (fun k hk => (town.lt k hk).1); obtain ⟨uc2, uf2⟩ := bcell ub2; have us2 : W.heap.size ≤ u2.heap.size := ub2.size))
  have nO := opN_size op
  have nJ := join_le [(⟨#[114]⟩ : ByteArray) ++ numS a, numS m] (by simp only [List.mem_cons, List.not_mem_nil, or_false]; intro s hs; rcases hs with rfl | rfl; exact r_size _ na; omega) (by simp)
  have k1 : ∀ w, (Op.stringOp .add (opN op) (⟨#[32]⟩ : ByteArray)).run Tryd.prog w = .ok (.string (opN op ++ ⟨#[32]⟩)) w := fun w => run_string_add_sum w _ _ (by show (opN op).size + 1 ≤ _; omega)
  have k2 : ∀ w, (Op.stringOp .add (opN op ++ (⟨#[32]⟩ : ByteArray)) (joinS [(⟨#[114]⟩ : ByteArray) ++ numS a, numS m])).run Tryd.prog w = .ok (.string (opN op ++ ⟨#[32]⟩ ++ joinS [(⟨#[114]⟩ : ByteArray) ++ numS a, numS m])) w := fun w => run_string_add_sum w _ _ (by rw [ByteArray.size_append]; show (opN op).size + 1 + _ ≤ _; omega)
  have y1 : u2.cell? ⟨w2.heap.size, 0, none⟩ = some (.string (opN op)) := (uc2 _ _ lY).trans y0
  go_region_held3 (fun u' => u'.cell? ⟨w2.heap.size, 0, none⟩ = some (.string (opN op)) ∧ Below W.heap.size W u') (first | assumption | (with_reducible exact keep1 lY (by assumption) (by assumption)) | exact ⟨y1, ub2⟩ | exact ⟨y1, ub2.drew⟩)
    (first | (go_at_call 17; refine (join_own [(⟨#[114]⟩ : ByteArray) ++ numS a, numS m] hown2 rfl (by first | exact Below.refl _ _ | exact (Below.refl _ _).drew) (by simp only [List.mem_cons, List.not_mem_nil, or_false]; intro s hs; rcases hs with rfl | rfl; exact r_size _ na; omega) (by simp)).mono ?_; rintro e u' ⟨rfl, hu'⟩))
  all_goals go_wp2_with fail
  all_goals go_ret
  all_goals exact ⟨ret_str (show_fin op a b c m _ hEh.out (by simp) (by rw [hR, hB]; simp only [List.map_cons, List.map_nil, rN]; rfl)), hO.trans ((below1 (by assumption)).mono hO.size)⟩
set_option maxHeartbeats 8000000 in
theorem show_1_20 (op a b c m : Int) (hE : encE op a b c m = 0) (hR : fR (opF op) = 1) (hB : fB (opF op) = 20) (a0 : 0 ≤ a) (a1 : a ≤ 15) (b0 : 0 ≤ b) (b1 : b ≤ 15) (c0 : 0 ≤ c) (c1 : c ≤ 15) (m0 : -524288 ≤ m) (m1 : m ≤ 524287) (w : World) (hT : Tab w) : Calls Tryd.prog 10 #[insV op a b c m] w fun e w' => e = .returned (.string (showS op a b c m)) ∧ Below w.heap.size w w' := by
  obtain ⟨i0, hi, hz0, hz1, hzz⟩ := info_parts info_str
  have hE' : (encE op a b c m != 0) = false := by simpa using hE
  have hf := opF_bd op
  have hEh := Lib.hid hE
  have na := numS_size a (by omega) (by omega)
  have nb := numS_size b (by omega) (by omega)
  have nc := numS_size c (by omega) (by omega)
  have nm := numS_size m (by omega) (by omega)
  clear hE
  go_enter Tryd.func10, Tryd.ntmps10
  go_wp2_with (first | (go_at_call 12; (with_reducible refine (encode_says _ _ _ _ _ _).mono ?_); rintro e w1 ⟨rfl, hb1⟩; obtain ⟨hc1, hf1⟩ := bcell hb1; have hz1 : w.heap.size < w1.heap.size := (by have := hb1.size; simp at this; omega)) | (go_at_call 14; refine (operationOf_says _ _).mono ?_; rintro e w2 ⟨rfl, hb2⟩; obtain ⟨hc2, hf2⟩ := bcell hb2; have hz2 : w1.heap.size ≤ w2.heap.size := hb2.size; have hz2' : w.heap.size < w2.heap.size := (by omega)) | (go_at_call 15; refine (formOf_says _ hf.1 hf.2 _).mono ?_; rintro e w3 ⟨rfl, hb3⟩; obtain ⟨hc3, hf3⟩ := bcell hb3; have hz3 : w2.heap.size < w3.heap.size := (by have := hb3.size; simp at this; omega); have hz3' : w1.heap.size < w3.heap.size := (by omega); have hz3'' : w.heap.size < w3.heap.size := (by omega)))
  obtain ⟨W, hW⟩ : ∃ W : World, W = (w3.alloc (Obj.cells #[Value.int IntKind.i64 1, Value.int IntKind.i64 20, Value.int IntKind.i64 (fL (opF op)), Value.int IntKind.i64 (fH (opF op))] 41)).alloc (Obj.cells #[i64 a, i64 b, i64 c] 3) := ⟨_, rfl⟩
  rw [← hW]
  have hL : Laid w W w.heap.size w2.heap.size w3.heap.size (w3.heap.size + 1) op a b c m 20 := by
    have s1 : w3.heap.size + 1 < W.heap.size := by rw [hW]; simp only [World.size_alloc]; omega
    have hX : W.heap[w.heap.size]? = some (.cells #[i64 op, i64 a, i64 b, i64 c, i64 m] 23 (0, 0)) := by
      rw [hW, Below.heap_alloc _ _ _ (by simp only [World.size_alloc]; omega), Below.heap_alloc _ _ _ (by omega), hb3.block _ (by simp only [World.size_alloc]; omega), Below.heap_alloc _ _ _ (by omega), hb2.block _ (by omega), hb1.block _ (by simp)]
      exact (MapKept.heap_alloc w _).1
    have hY : W.heap[w2.heap.size]? = some (.cells #[.string (opN op), i64 (opF op)] 38 (0, 0)) := by
      rw [hW, Below.heap_alloc _ _ _ (by simp only [World.size_alloc]; omega), Below.heap_alloc _ _ _ (by omega), hb3.block _ (by simp)]
      exact (MapKept.heap_alloc w2 _).1
    have hZ : W.heap[w3.heap.size]? = some (.cells #[i64 1, i64 20, i64 (fL (opF op)), i64 (fH (opF op))] 41 (0, 0)) := by
      rw [hW, Below.heap_alloc _ _ _ (by simp)]
      exact (MapKept.heap_alloc w3 _).1
    have hA : W.heap[w3.heap.size + 1]? = some (.cells #[i64 a, i64 b, i64 c] 3 (0, 0)) := by
      rw [hW]; have := (MapKept.heap_alloc (w3.alloc (Obj.cells #[Value.int IntKind.i64 1, Value.int IntKind.i64 20, Value.int IntKind.i64 (fL (opF op)), Value.int IntKind.i64 (fH (opF op))] 41)) (Obj.cells #[i64 a, i64 b, i64 c] 3)).1
      rw [World.size_alloc] at this; exact this
    have hO : Below w.heap.size w W := by
      rw [hW]; exact ((((((Below.refl _ _).alloc (Nat.le_refl _) _).trans (hb1.mono (by simp))).trans (hb2.mono (by omega))).alloc (by omega) _).trans (hb3.mono (by simp; omega))).alloc (by omega) _ |>.alloc (by simp; omega) _
    exact ⟨hO, cell_heap hX 4 _ rfl, cell_heap hY 0 _ rfl, cell_heap hZ 1 _ rfl, cell_heap hA 0 _ rfl, cell_heap hA 1 _ rfl, cell_heap hA 2 _ rfl, by omega, by omega, by omega, s1⟩
  clear hW hb1 hb2 hb3 hc1 hc2 hc3 hf1 hf2 hf3 hz1 hz2 hz2' hz3 hz3' hz3'' hE'
  obtain ⟨hO, x4, y0, z1, d0, d1, d2, lX, lY, lZ, lA⟩ := hL
  refine wp_loop_rounds 2 ?_
  rw [rounds_succ]
  go_wp2_with (first | (go_at_call 16; refine (itoa_reg a a0 a1 _).mono ?_; rintro e w' ⟨rfl, rfl⟩) | (at_builtin; refine wpList_append_own _ rfl _ _ 43 rfl W.heap.size 9 i0 (.string ByteArray.empty) 1 16 Tryd.underlying43 hi hz0 hz1 hzz rfl (by decide) _ _ _ rfl (World.ownsRow_nil _ _ _ _) ⟨W.heap.size, 0, none⟩ 1 1 [.string _] rfl rfl (cell_one _ _ _) (fun x hx => by simp at hx; subst hx; rfl) (by unfold maxLen; omega) (by omega) (by simp; try omega) ?_; intro v1 u1 hown1 hgrow1 _; obtain ⟨g1, cap1, rfl⟩ := own_form hown1 (by decide); have ub1 : Below W.heap.size W u1 := Below.grown (Below.alloc (Below.refl _ _) (by try omega) _) hgrow1 (by simp; try omega) (fun k hk => absurd (show (none : Option Nat) = some k from hk) (by simp)); obtain ⟨uc1, uf1⟩ := bcell ub1; have us1 : W.heap.size ≤ u1.heap.size := ub1.size))
  rw [rounds_succ]
  go_wp2_with (first | (go_at_call 16; refine (itoa_imm m m0 m1 _ (hT.later (hO.trans (ub1.mono hO.size)))).mono ?_; rintro e t1 ⟨rfl, tb1⟩; have town := ownsRow_below hown1 tb1; have tb := ub1.trans (tb1.mono us1); obtain ⟨tc1, tf1⟩ := bcell tb; have ts1 : W.heap.size ≤ t1.heap.size := tb.size) | (at_builtin; refine wpList_append_own _ rfl _ _ 43 rfl W.heap.size 9 i0 (.string ByteArray.empty) 1 16 Tryd.underlying43 hi hz0 hz1 hzz rfl (by decide) _ _ _ rfl (town.alloc _) ⟨t1.heap.size, 0, none⟩ 1 1 [.string _] rfl rfl (cell_one _ _ _) (fun x hx => by simp at hx; subst hx; rfl) (by unfold maxLen; omega) (by omega) (by simp; try omega) ?_; intro v2 u2 hown2 hgrow2 _; obtain ⟨g2, cap2, rfl⟩ := own_form hown2 (by decide); have ub2 : Below W.heap.size W u2 := Below.grown (Below.alloc tb (by try omega) _) hgrow2 (by simp; try omega) (fun k hk => (town.lt k hk).1); obtain ⟨uc2, uf2⟩ := bcell ub2; have us2 : W.heap.size ≤ u2.heap.size := ub2.size))
  have nO := opN_size op
  have nJ := join_le [(⟨#[114]⟩ : ByteArray) ++ numS a, numS m] (by simp only [List.mem_cons, List.not_mem_nil, or_false]; intro s hs; rcases hs with rfl | rfl; exact r_size _ na; omega) (by simp)
  have k1 : ∀ w, (Op.stringOp .add (opN op) (⟨#[32]⟩ : ByteArray)).run Tryd.prog w = .ok (.string (opN op ++ ⟨#[32]⟩)) w := fun w => run_string_add_sum w _ _ (by show (opN op).size + 1 ≤ _; omega)
  have k2 : ∀ w, (Op.stringOp .add (opN op ++ (⟨#[32]⟩ : ByteArray)) (joinS [(⟨#[114]⟩ : ByteArray) ++ numS a, numS m])).run Tryd.prog w = .ok (.string (opN op ++ ⟨#[32]⟩ ++ joinS [(⟨#[114]⟩ : ByteArray) ++ numS a, numS m])) w := fun w => run_string_add_sum w _ _ (by rw [ByteArray.size_append]; show (opN op).size + 1 + _ ≤ _; omega)
  have y1 : u2.cell? ⟨w2.heap.size, 0, none⟩ = some (.string (opN op)) := (uc2 _ _ lY).trans y0
  go_region_held3 (fun u' => u'.cell? ⟨w2.heap.size, 0, none⟩ = some (.string (opN op)) ∧ Below W.heap.size W u') (first | assumption | (with_reducible exact keep1 lY (by assumption) (by assumption)) | exact ⟨y1, ub2⟩ | exact ⟨y1, ub2.drew⟩)
    (first | (go_at_call 17; refine (join_own [(⟨#[114]⟩ : ByteArray) ++ numS a, numS m] hown2 rfl (by first | exact Below.refl _ _ | exact (Below.refl _ _).drew) (by simp only [List.mem_cons, List.not_mem_nil, or_false]; intro s hs; rcases hs with rfl | rfl; exact r_size _ na; omega) (by simp)).mono ?_; rintro e u' ⟨rfl, hu'⟩))
  all_goals go_wp2_with fail
  all_goals go_ret
  all_goals exact ⟨ret_str (show_fin op a b c m _ hEh.out (by simp) (by rw [hR, hB]; simp only [List.map_cons, List.map_nil, rN]; rfl)), hO.trans ((below1 (by assumption)).mono hO.size)⟩
set_option maxHeartbeats 8000000 in
theorem show_0_0 (op a b c m : Int) (hE : encE op a b c m = 0) (hR : fR (opF op) = 0) (hB : fB (opF op) = 0) (w : World) : Calls Tryd.prog 10 #[insV op a b c m] w fun e w' => e = .returned (.string (showS op a b c m)) ∧ Below w.heap.size w w' := by
  have hE' : (encE op a b c m != 0) = false := by simpa using hE
  have hf := opF_bd op
  have hS := Lib.hid (show showS op a b c m = opN op from bytes_ext (by unfold showS showL tailL flds; rw [if_pos hE, hR, hB]; simp))
  clear hE
  go_enter Tryd.func10, Tryd.ntmps10
  go_wp2_with (first | (go_at_call 12; (with_reducible refine (encode_says _ _ _ _ _ _).mono ?_); rintro e w1 ⟨rfl, hb1⟩; obtain ⟨hc1, hf1⟩ := bcell hb1; have hz1 : w.heap.size < w1.heap.size := (by have := hb1.size; simp at this; omega)) | (go_at_call 14; refine (operationOf_says _ _).mono ?_; rintro e w2 ⟨rfl, hb2⟩; obtain ⟨hc2, hf2⟩ := bcell hb2; have hz2 : w1.heap.size ≤ w2.heap.size := hb2.size; have hz2' : w.heap.size < w2.heap.size := (by omega)) | (go_at_call 15; refine (formOf_says _ hf.1 hf.2 _).mono ?_; rintro e w3 ⟨rfl, hb3⟩; obtain ⟨hc3, hf3⟩ := bcell hb3; have hz3 : w2.heap.size < w3.heap.size := (by have := hb3.size; simp at this; omega); have hz3' : w1.heap.size < w3.heap.size := (by omega); have hz3'' : w.heap.size < w3.heap.size := (by omega)))
  refine wp_loop_rounds 1 ?_
  rw [rounds_succ]
  go_wp2_with fail
  go_ret
  exact ⟨ret_str hS.out.symm, ((((((Below.refl _ _).alloc (Nat.le_refl _) _).trans (hb1.mono (by simp))).trans (hb2.mono (by omega))).alloc (by omega) _).trans (hb3.mono (by simp; omega))).alloc (by omega) _ |>.alloc (by simp; omega) _⟩
set_option maxHeartbeats 1000000 in
theorem show_err (op a b c m : Int) (hE : encE op a b c m ≠ 0) (w : World) : Calls Tryd.prog 10 #[insV op a b c m] w fun e w' => e = .returned (.string (showS op a b c m)) ∧ Below w.heap.size w w' := by
  have hE' : (encE op a b c m != 0) = true := by simpa using hE
  have hf := opF_bd op
  have hS := Lib.hid (show showS op a b c m = ⟨#[]⟩ from bytes_ext (by unfold showS showL; rw [if_neg hE]))
  clear hE
  go_enter Tryd.func10, Tryd.ntmps10
  go_wp2_with (first | (go_at_call 12; (with_reducible refine (encode_says _ _ _ _ _ _).mono ?_); rintro e w1 ⟨rfl, hb1⟩; obtain ⟨hc1, hf1⟩ := bcell hb1; have hz1 : w.heap.size < w1.heap.size := (by have := hb1.size; simp at this; omega)) | (go_at_call 14; refine (operationOf_says _ _).mono ?_; rintro e w2 ⟨rfl, hb2⟩; obtain ⟨hc2, hf2⟩ := bcell hb2; have hz2 : w1.heap.size ≤ w2.heap.size := hb2.size; have hz2' : w.heap.size < w2.heap.size := (by omega)) | (go_at_call 15; refine (formOf_says _ hf.1 hf.2 _).mono ?_; rintro e w3 ⟨rfl, hb3⟩; obtain ⟨hc3, hf3⟩ := bcell hb3; have hz3 : w2.heap.size < w3.heap.size := (by have := hb3.size; simp at this; omega); have hz3' : w1.heap.size < w3.heap.size := (by omega); have hz3'' : w.heap.size < w3.heap.size := (by omega)))
  go_ret
  exact ⟨ret_str hS.out.symm, ((Below.refl _ _).alloc (Nat.le_refl _) _).trans (hb1.mono (by simp))⟩
theorem imm_bd (f m : Int) (h : ¬ (m < fL f ∨ fH f < m)) : -524288 ≤ m ∧ m ≤ 524287 := by
  have h1 : -524288 ≤ fL f := by unfold fL; (repeat' split) <;> omega
  have h2 : fH f ≤ 524287 := by unfold fH; (repeat' split) <;> omega
  omega
/-- Show of every instruction. -/
theorem show_says (op a b c m : Int) (w : World) (hT : Tab w) : Calls Tryd.prog 10 #[insV op a b c m] w fun e w' => e = .returned (.string (showS op a b c m)) ∧ Below w.heap.size w w' := by
  by_cases hE : encE op a b c m = 0
  · have hn : opF op ≠ 0 := by intro hf; have := (enc_none op a b c m hf).1; omega
    have hq : ¬ badQ (fR (opF op)) a b c := by intro hf; have := (enc_bad op a b c m hn hf).1; omega
    have hm : ¬ (m < fL (opF op) ∨ fH (opF op) < m) := by intro hf; have := (enc_range op a b c m hn hq hf).1; omega
    obtain ⟨⟨a0, a1⟩, ⟨b0, b1⟩, ⟨c0, c1⟩, _⟩ := good_regs hq
    obtain ⟨m0, m1⟩ := imm_bd _ _ hm
    have hb := opF_bd op
    rcases f_cases (opF op) hb.1 hb.2 with f | f | f | f | f | f | f | f | f
    · exact absurd f hn
    · exact show_3_0 op a b c m hE (by rw [f]; rfl) (by rw [f]; rfl) a0 a1 b0 b1 c0 c1 m0 m1 w hT
    · exact show_2_16 op a b c m hE (by rw [f]; rfl) (by rw [f]; rfl) a0 a1 b0 b1 c0 c1 m0 m1 w hT
    · exact show_2_16 op a b c m hE (by rw [f]; rfl) (by rw [f]; rfl) a0 a1 b0 b1 c0 c1 m0 m1 w hT
    · exact show_2_16 op a b c m hE (by rw [f]; rfl) (by rw [f]; rfl) a0 a1 b0 b1 c0 c1 m0 m1 w hT
    · exact show_1_16 op a b c m hE (by rw [f]; rfl) (by rw [f]; rfl) a0 a1 b0 b1 c0 c1 m0 m1 w hT
    · exact show_1_20 op a b c m hE (by rw [f]; rfl) (by rw [f]; rfl) a0 a1 b0 b1 c0 c1 m0 m1 w hT
    · exact show_1_16 op a b c m hE (by rw [f]; rfl) (by rw [f]; rfl) a0 a1 b0 b1 c0 c1 m0 m1 w hT
    · exact show_0_0 op a b c m hE (by rw [f]; rfl) (by rw [f]; rfl) w
  · exact show_err op a b c m hE w
end Go.Proofs.YtpjonhcbhgalpaaDoor
