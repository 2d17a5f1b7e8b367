/-
  Every row of calls (law PhysPlays): the walk.
-/
import Derived.Test.YthagnbmoedppgaaPlaysKit
namespace Go.Proofs.Ythagnbmoedppgaa
open Go.ChangeShapes Go.WideShapes Go.ChangeAt Go.RowKit
/-- What the loop holds. -/
def Held (W w : World) (hm gm ho go hr gr : Nat) : Prop := ∃ bs bo, bs.length % 4 = 0 ∧ Three W w hm gm ho go hr gr bs bo bs
set_option maxRecDepth 100000 in
set_option maxHeartbeats 2000000 in
theorem plays {W : World} (a0 : Int) (lp : Option Addr) (len cap : Nat) (f : Nat → ActV) (hA : Acts W lp len f) (h1 : (len : Int) ≤ 100) (h2 : a0 ≤ 300) :
    Calls Try.prog 3 #[.int .i64 a0, .slice lp len cap] W fun e w' => e = .returned (.bool true) ∧ Below W.heap.size W w' := by
  obtain ⟨x0, hx0⟩ : ∃ x : List Int, x = List.replicate (pg a0 * 4096) 0 := ⟨_, rfl⟩
  have hl4 : x0.length % 4 = 0 := by rw [hx0, List.length_replicate]; omega
  have X0 := Lib.hid hx0; have L4 := Lib.hid hl4; clear hx0 hl4
  go_enter Try.func3, Try.ntmps3
  go_upto_region 7 with (first
    | (go_at_call 8; refine (alive4_says _).mono ?_; rintro e w1 ⟨rfl, hB⟩)
    | (go_at_call 9; refine (new_says _ _).mono ?_; first | (have := hM; rintro e w3 ⟨ho, go, hO⟩; obtain rfl := hO.e) | (rintro e w2 ⟨hm, gm, hM⟩; obtain rfl := hM.e))
    | (go_at_call 10; refine (rnew_says _ _).mono ?_; rintro e w4 ⟨hr, gr, hR⟩; obtain rfl := hR.e))
  have T := Three.begin hB hM hO hR
  rw [← X0.out] at T
  have hcr : ∀ u, Below w4.heap.size w4 u → u.cell? ⟨hr, 0, none⟩ = some (.slice (some ⟨gr, 0, none⟩) x0.length x0.length) := fun u hu => rcell (T.r.grow hu)
  clear hM hO hR hB this
  have hK : Below w4.heap.size w4 w4.drew := (Below.refl _ _).drew
  refine wp_region_held_drew (S := (fun u => Below w4.heap.size w4 u)) (by kernel_rfl) ?_ (fun hH0 => ?_)
  · ((try dsimp only); first | exact hK | assumption)
  refine wpAnyH_take (i := 0) (oi := { dst := some 38, op := Go.Op.move (Go.Operand.tmp 6), type := 24, pos := "law.go:36", after := #[], guard := none }) (v := ?_) rfl (by kernel_rfl) (by kernel_rfl) (by kernel_rfl) (fun _ _ _ h => h) (Or.inl ⟨by rfl, ?_⟩) (by assumption) ?_
  rotate_left
  · ((intro w hSw; (try dsimp only at hSw); go_simp) <;> (with_reducible rfl))
  try simp only [Act.put, List.setIfInBounds_toArray, List.set_cons_zero, List.set_cons_succ]
  refine wpAnyH_take (i := 1) (oi := { dst := some 39, op := Go.Op.binOp Go.BinOp.eql 24 (Go.Operand.tmp 38) (Go.Operand.const (Go.Value.pointer none)) 24, type := 4, pos := "law.go:36", after := #[{ on := 0, ground := Go.Ground.data }], guard := none }) (v := ?_) rfl (by kernel_rfl) (by kernel_rfl) (by kernel_rfl) (fun _ _ _ h => h) (Or.inl ⟨by rfl, ?_⟩) (by assumption) ?_
  rotate_left
  · ((intro w hSw; (try dsimp only at hSw); go_simp) <;> (with_reducible rfl))
  try simp only [Act.put, List.setIfInBounds_toArray, List.set_cons_zero, List.set_cons_succ]
  refine wpAnyH_take (i := 2) (oi := { dst := some 40, op := Go.Op.move (Go.Operand.tmp 39), type := 4, pos := "law.go:36", after := #[{ on := 1, ground := Go.Ground.data }], guard := none }) (v := ?_) rfl (by kernel_rfl) (by kernel_rfl) (by kernel_rfl) (fun _ _ _ h => h) (Or.inl ⟨by rfl, ?_⟩) (by assumption) ?_
  rotate_left
  · ((intro w hSw; (try dsimp only at hSw); go_simp) <;> (with_reducible rfl))
  try simp only [Act.put, List.setIfInBounds_toArray, List.set_cons_zero, List.set_cons_succ]
  refine wpAnyH_take (i := 3) (oi := { dst := some 41, op := Go.Op.move (Go.Operand.tmp 7), type := 24, pos := "law.go:36", after := #[{ on := 2, ground := Go.Ground.guard }], guard := some (2, false) }) (v := ?_) rfl (by kernel_rfl) (by kernel_rfl) (by kernel_rfl) (fun _ _ _ h => h) (Or.inl ⟨by rfl, ?_⟩) (by assumption) ?_
  rotate_left
  · ((intro w hSw; (try dsimp only at hSw); go_simp) <;> (with_reducible rfl))
  try simp only [Act.put, List.setIfInBounds_toArray, List.set_cons_zero, List.set_cons_succ]
  refine wpAnyH_take (i := 4) (oi := { dst := some 42, op := Go.Op.binOp Go.BinOp.eql 24 (Go.Operand.tmp 41) (Go.Operand.const (Go.Value.pointer none)) 24, type := 4, pos := "law.go:36", after := #[{ on := 3, ground := Go.Ground.data }, { on := 2, ground := Go.Ground.guard }], guard := some (2, false) }) (v := ?_) rfl (by kernel_rfl) (by kernel_rfl) (by kernel_rfl) (fun _ _ _ h => h) (Or.inl ⟨by rfl, ?_⟩) (by assumption) ?_
  rotate_left
  · ((intro w hSw; (try dsimp only at hSw); go_simp) <;> (with_reducible rfl))
  try simp only [Act.put, List.setIfInBounds_toArray, List.set_cons_zero, List.set_cons_succ]
  refine wpAnyH_take (i := 5) (oi := { dst := some 43, op := Go.Op.pick (Go.Operand.tmp 40) (Go.Operand.const (Go.Value.bool true)) (Go.Operand.tmp 42), type := 4, pos := "law.go:36", after := #[{ on := 2, ground := Go.Ground.data }, { on := 4, ground := Go.Ground.data }], guard := none }) (v := ?_) rfl (by kernel_rfl) (by kernel_rfl) (by kernel_rfl) (fun _ _ _ h => h) (Or.inl ⟨by rfl, ?_⟩) (by assumption) ?_
  rotate_left
  · ((intro w hSw; (try dsimp only at hSw); go_simp) <;> (with_reducible rfl))
  try simp only [Act.put, List.setIfInBounds_toArray, List.set_cons_zero, List.set_cons_succ]
  refine wpAnyH_take (i := 6) (oi := { dst := some 44, op := Go.Op.move (Go.Operand.tmp 43), type := 4, pos := "law.go:36", after := #[{ on := 5, ground := Go.Ground.data }, { on := 2, ground := Go.Ground.chain }], guard := none }) (v := ?_) rfl (by kernel_rfl) (by kernel_rfl) (by kernel_rfl) (fun _ _ _ h => h) (Or.inl ⟨by rfl, ?_⟩) (by assumption) ?_
  rotate_left
  · ((intro w hSw; (try dsimp only at hSw); go_simp) <;> (with_reducible rfl))
  try simp only [Act.put, List.setIfInBounds_toArray, List.set_cons_zero, List.set_cons_succ]
  refine wpAnyH_take (i := 7) (oi := { dst := some 45, op := Go.Op.move (Go.Operand.tmp 6), type := 24, pos := "law.go:36", after := #[{ on := 6, ground := Go.Ground.guard }], guard := some (6, false) }) (v := ?_) rfl (by kernel_rfl) (by kernel_rfl) (by kernel_rfl) (fun _ _ _ h => h) (Or.inl ⟨by rfl, ?_⟩) (by assumption) ?_
  rotate_left
  · ((intro w hSw; (try dsimp only at hSw); go_simp) <;> (with_reducible rfl))
  try simp only [Act.put, List.setIfInBounds_toArray, List.set_cons_zero, List.set_cons_succ]
  refine wpAnyH_take (i := 9) (oi := { dst := some 47, op := Go.Op.move (Go.Operand.tmp 8), type := 26, pos := "law.go:36", after := #[{ on := 6, ground := Go.Ground.guard }], guard := some (6, false) }) (v := ?_) rfl (by kernel_rfl) (by kernel_rfl) (by kernel_rfl) (fun _ _ _ h => h) (Or.inl ⟨by rfl, ?_⟩) (by assumption) ?_
  rotate_left
  · ((intro w hSw; (try dsimp only at hSw); go_simp) <;> (with_reducible rfl))
  try simp only [Act.put, List.setIfInBounds_toArray, List.set_cons_zero, List.set_cons_succ]
  refine wpAnyH_take (i := 10) (oi := { dst := some 48, op := Go.Op.nilCheck (Go.Operand.tmp 47), type := 0, pos := "law.go:36", after := #[{ on := 9, ground := Go.Ground.data }, { on := 6, ground := Go.Ground.guard }], guard := some (6, false) }) (v := ?_) rfl (by kernel_rfl) (by kernel_rfl) (by kernel_rfl) (fun _ _ _ h => h) (Or.inl ⟨by rfl, ?_⟩) (by assumption) ?_
  rotate_left
  · ((intro w hSw; (try dsimp only at hSw); go_simp) <;> (with_reducible rfl))
  try simp only [Act.put, List.setIfInBounds_toArray, List.set_cons_zero, List.set_cons_succ]
  refine wpAnyH_take (i := 11) (oi := { dst := some 49, op := Go.Op.fieldAddr 31 (Go.Operand.tmp 48) 0, type := 0, pos := "law.go:36", after := #[{ on := 10, ground := Go.Ground.data }, { on := 6, ground := Go.Ground.guard }], guard := some (6, false) }) (v := ?_) rfl (by kernel_rfl) (by kernel_rfl) (by kernel_rfl) (fun _ _ _ h => h) (Or.inl ⟨by rfl, ?_⟩) (by assumption) ?_
  rotate_left
  · ((intro w hSw; (try dsimp only at hSw); go_simp) <;> (with_reducible rfl))
  try simp only [Act.put, List.setIfInBounds_toArray, List.set_cons_zero, List.set_cons_succ]
  refine wpAnyH_take (i := 12) (oi := { dst := some 50, op := Go.Op.load 29 (Go.Operand.tmp 49), type := 29, pos := "law.go:36", after := #[{ on := 11, ground := Go.Ground.data }, { on := 6, ground := Go.Ground.guard }], guard := some (6, false) }) (v := ?_) rfl (by kernel_rfl) (by kernel_rfl) (by kernel_rfl) (fun _ _ _ h => h) (Or.inl ⟨by rfl, ?_⟩) (by assumption) ?_
  rotate_left
  · ((intro w hSw; (try dsimp only at hSw); go_simp) <;> (with_reducible rfl))
  try simp only [Act.put, List.setIfInBounds_toArray, List.set_cons_zero, List.set_cons_succ]
  refine wpAnyH_take (i := 13) (oi := { dst := some 51, op := Go.Op.call { callee := Go.Callee.builtin Go.Builtin.len, args := #[Go.Operand.tmp 50], argTypes := #[29] }, type := 3, pos := "law.go:36", after := #[{ on := 12, ground := Go.Ground.data }, { on := 6, ground := Go.Ground.guard }], guard := some (6, false) }) (v := ?_) rfl (by kernel_rfl) (by kernel_rfl) (by kernel_rfl) (fun _ _ _ h => h) (Or.inl ⟨by rfl, ?_⟩) (by assumption) ?_
  rotate_left
  · ((intro w hSw; (try dsimp only at hSw); go_simp) <;> (with_reducible rfl))
  try simp only [Act.put, List.setIfInBounds_toArray, List.set_cons_zero, List.set_cons_succ]
  refine wpAnyH_ready (rs := [8]) (by kernel_rfl) (by simp) ?_
  refine AllReadyH.cons (o := { dst := some 46, op := Go.Op.call { callee := Go.Callee.value (Go.Operand.func 11), args := #[Go.Operand.tmp 45], argTypes := #[24] }, type := 3, pos := "law.go:36", after := #[{ on := 7, ground := Go.Ground.data }, { on := 6, ground := Go.Ground.chain }, { on := 6, ground := Go.Ground.guard }], guard := some (6, false) }) rfl (fun K hK => ?_) AllReadyH.nil
  go_simp
  (go_at_call 11; refine (size_says (T.m.grow (by assumption))).mono ?_; rintro e t' ⟨rfl, rfl⟩)
  refine hK.out _ _ ?_ (fun hH1 => ?_)
  · ((try dsimp only); first | exact hK | assumption)
  clear hK K hH0
  try simp only [Act.put, List.setIfInBounds_toArray, List.set_cons_zero, List.set_cons_succ]
  refine wpAnyH_take (i := 14) (oi := { dst := some 52, op := Go.Op.binOp Go.BinOp.neq 3 (Go.Operand.tmp 46) (Go.Operand.tmp 51) 3, type := 4, pos := "law.go:36", after := #[{ on := 8, ground := Go.Ground.data }, { on := 13, ground := Go.Ground.data }, { on := 6, ground := Go.Ground.guard }], guard := some (6, false) }) (v := ?_) rfl (by kernel_rfl) (by kernel_rfl) (by kernel_rfl) (fun _ _ _ h => h) (Or.inl ⟨by rfl, ?_⟩) (by assumption) ?_
  rotate_left
  · ((intro w hSw; (try dsimp only at hSw); go_simp) <;> (with_reducible rfl))
  try simp only [Act.put, List.setIfInBounds_toArray, List.set_cons_zero, List.set_cons_succ]
  refine wpAnyH_take (i := 15) (oi := { dst := some 53, op := Go.Op.pick (Go.Operand.tmp 44) (Go.Operand.const (Go.Value.bool true)) (Go.Operand.tmp 52), type := 4, pos := "law.go:36", after := #[{ on := 6, ground := Go.Ground.data }, { on := 14, ground := Go.Ground.data }], guard := none }) (v := ?_) rfl (by kernel_rfl) (by kernel_rfl) (by kernel_rfl) (fun _ _ _ h => h) (Or.inl ⟨by rfl, ?_⟩) (by assumption) ?_
  rotate_left
  · ((intro w hSw; (try dsimp only at hSw); go_simp) <;> (with_reducible rfl))
  try simp only [Act.put, List.setIfInBounds_toArray, List.set_cons_zero, List.set_cons_succ]
  refine wpAnyH_done (by kernel_rfl) ?_ _
  replace T := T.grow hK
  generalize w4.drew = w5 at *
  clear hcr hK
  go_upto_region 10 with fail
  go_loopw [9] (fun i wr => ∃ k : Nat, k ≤ len ∧ i = .int .i64 k ∧ Held W wr hm gm ho go hr gr) (fun i _ => len - (intOf i).toNat)
  case atStart => exact ⟨0, Nat.zero_le _, rfl, x0, x0, L4.out, T⟩
  case round =>
    clear T hH1
    obtain ⟨k, hk, rfl, bs, bo, h4, T⟩ := hrel
    have H4 := Lib.hid h4; clear h4
    by_cases hkl : k < len
    · obtain ⟨b, off, rfl, hb, hc⟩ := hA.at_ (by omega)
      obtain ⟨c0, c1, c2, c3, c4⟩ := hc k hkl
      obtain ⟨hB8, hra, hrs, hbc⟩ := hA.arg k hkl
      obtain ⟨way, addr, size, v, bp, bl, bc, xs, hfk⟩ : ∃ way addr size v bp bl bc xs, f k = ⟨way, addr, size, v, bp, bl, bc, xs⟩ := ⟨_, _, _, _, _, _, _, _, rfl⟩
      rw [hfk] at c0 c1 c2 c3 c4 hB8 hra hrs hbc
      rw [← T.b.cell (by exact hb)] at c0 c1 c2 c3 c4
      clear hfk hc hb
      go_upto_region 14 with (go_at_call 12; refine (store_says (T.grow ((Below.refl _ _).alloc (Nat.le_refl _) _)).o _ _ _ hra).mono ?_; rintro e w6 ⟨rfl, hm2, ho2⟩)
      have T0 := T.grow ((Below.refl _ _).alloc (Nat.le_refl _) (.cells #[.int .i64 way, .int .i64 addr, .int .i64 size, .int .i64 v, .slice bp bl bc] 33))
      have BX : Box (wr.alloc (.cells #[.int .i64 way, .int .i64 addr, .int .i64 size, .int .i64 v, .slice bp bl bc] 33)) wr.heap.size way addr size v bp bl bc := (MapKept.heap_alloc wr _).1
      replace BX := BX.only ho2 (Nat.ne_of_gt T.o.lt.2)
      have TT := T
      replace T := T0.stO hm2 ho2
      obtain ⟨bo', hbo'⟩ : ∃ x, x = stv bo addr 4 k := ⟨_, rfl⟩
      rw [← hbo'] at T
      have hAm : wr.heap.size ≠ gm := Nat.ne_of_gt TT.m.lt.2
      have hAr : wr.heap.size ≠ gr := Nat.ne_of_gt TT.r.lt.2
      obtain ⟨A, hAe⟩ : ∃ A, A = wr.heap.size := ⟨_, rfl⟩
      rw [← hAe] at BX hAm hAr ⊢
      clear TT
      clear hbo' hAe hm2 ho2 T0 c0 c1 c2 c3 c4
      have d0 := BX.c0
      have d1 := BX.c1
      have d2 := BX.c2
      have d3 := BX.c3
      have d4 := BX.c4
      by_cases hw0 : way = 0
      · subst hw0
        go_wp2_with (first
          | (go_at_call 13; refine (load_says T.m _ _ hra).mono ?_; rintro e w' ⟨rfl, rfl⟩)
          | (go_at_call 14; refine (rload_says T.r H4.out _ _).mono ?_; rintro e w' ⟨rfl, rfl⟩))
        go_roundw
        case rel => exact ⟨k + 1, hkl, by go_num, bs, _, H4.out, T⟩
        case measure => simp [intOf]; omega
      · by_cases hw1 : way = 1
        · subst hw1
          clear d0 d1 d2 d3 d4 hw0
          have d0 := BX.c0
          go_upto_region 30 with fail
          have hD : Below w6.heap.size w6 w6.drew := (Below.refl _ _).drew
          replace T := T.grow hD
          replace BX := BX.grow hD
          clear hD d0
          refine wp_region_held_drew (S := (fun u => u.cell? ⟨A, 1, none⟩ = some (.int .i64 addr) ∧ u.cell? ⟨A, 2, none⟩ = some (.int .i64 size) ∧ u.cell? ⟨A, 3, none⟩ = some (.int .i64 v))) (by kernel_rfl) ?_ (fun hH0 => ?_)
          · ((try dsimp only); exact ⟨BX.c1, BX.c2, BX.c3⟩)
          refine wpAnyH_take (i := 0) (oi := { dst := some 134, op := Go.Op.move (Go.Operand.tmp 6), type := 24, pos := "law.go:50", after := #[], guard := none }) (v := ?_) rfl (by kernel_rfl) (by kernel_rfl) (by kernel_rfl) (fun _ _ _ h => h) (Or.inl ⟨by rfl, ?_⟩) (by assumption) ?_
          rotate_left
          · ((intro w hSw; (try dsimp only at hSw); go_simp) <;> (with_reducible rfl))
          try simp only [Act.put, List.setIfInBounds_toArray, List.set_cons_zero, List.set_cons_succ]
          refine wpAnyH_take (i := 1) (oi := { dst := some 135, op := Go.Op.fieldAddr 33 (Go.Operand.tmp 10) 1, type := 0, pos := "law.go:50", after := #[], guard := none }) (v := ?_) rfl (by kernel_rfl) (by kernel_rfl) (by kernel_rfl) (fun _ _ _ h => h) (Or.inl ⟨by rfl, ?_⟩) (by assumption) ?_
          rotate_left
          · ((intro w hSw; (try dsimp only at hSw); go_simp) <;> (with_reducible rfl))
          try simp only [Act.put, List.setIfInBounds_toArray, List.set_cons_zero, List.set_cons_succ]
          refine wpAnyH_take (i := 2) (oi := { dst := some 136, op := Go.Op.load 3 (Go.Operand.tmp 135), type := 3, pos := "law.go:50", after := #[{ on := 1, ground := Go.Ground.data }], guard := none }) (v := ?_) rfl (by kernel_rfl) (by kernel_rfl) (by kernel_rfl) (fun _ _ _ h => h) (Or.inl ⟨by rfl, ?_⟩) (by assumption) ?_
          rotate_left
          · ((intro w hSw; (try dsimp only at hSw); go_simp) <;> (with_reducible rfl))
          try simp only [Act.put, List.setIfInBounds_toArray, List.set_cons_zero, List.set_cons_succ]
          refine wpAnyH_take (i := 3) (oi := { dst := some 137, op := Go.Op.fieldAddr 33 (Go.Operand.tmp 10) 2, type := 0, pos := "law.go:50", after := #[], guard := none }) (v := ?_) rfl (by kernel_rfl) (by kernel_rfl) (by kernel_rfl) (fun _ _ _ h => h) (Or.inl ⟨by rfl, ?_⟩) (by assumption) ?_
          rotate_left
          · ((intro w hSw; (try dsimp only at hSw); go_simp) <;> (with_reducible rfl))
          try simp only [Act.put, List.setIfInBounds_toArray, List.set_cons_zero, List.set_cons_succ]
          refine wpAnyH_take (i := 4) (oi := { dst := some 138, op := Go.Op.load 3 (Go.Operand.tmp 137), type := 3, pos := "law.go:50", after := #[{ on := 3, ground := Go.Ground.data }], guard := none }) (v := ?_) rfl (by kernel_rfl) (by kernel_rfl) (by kernel_rfl) (fun _ _ _ h => h) (Or.inl ⟨by rfl, ?_⟩) (by assumption) ?_
          rotate_left
          · ((intro w hSw; (try dsimp only at hSw); go_simp) <;> (with_reducible rfl))
          try simp only [Act.put, List.setIfInBounds_toArray, List.set_cons_zero, List.set_cons_succ]
          refine wpAnyH_take (i := 5) (oi := { dst := some 139, op := Go.Op.fieldAddr 33 (Go.Operand.tmp 10) 3, type := 0, pos := "law.go:50", after := #[], guard := none }) (v := ?_) rfl (by kernel_rfl) (by kernel_rfl) (by kernel_rfl) (fun _ _ _ h => h) (Or.inl ⟨by rfl, ?_⟩) (by assumption) ?_
          rotate_left
          · ((intro w hSw; (try dsimp only at hSw); go_simp) <;> (with_reducible rfl))
          try simp only [Act.put, List.setIfInBounds_toArray, List.set_cons_zero, List.set_cons_succ]
          refine wpAnyH_take (i := 6) (oi := { dst := some 140, op := Go.Op.load 3 (Go.Operand.tmp 139), type := 3, pos := "law.go:50", after := #[{ on := 5, ground := Go.Ground.data }], guard := none }) (v := ?_) rfl (by kernel_rfl) (by kernel_rfl) (by kernel_rfl) (fun _ _ _ h => h) (Or.inl ⟨by rfl, ?_⟩) (by assumption) ?_
          rotate_left
          · ((intro w hSw; (try dsimp only at hSw); go_simp) <;> (with_reducible rfl))
          try simp only [Act.put, List.setIfInBounds_toArray, List.set_cons_zero, List.set_cons_succ]
          refine wpAnyH_take (i := 8) (oi := { dst := some 142, op := Go.Op.move (Go.Operand.tmp 8), type := 26, pos := "law.go:50", after := #[], guard := none }) (v := ?_) rfl (by kernel_rfl) (by kernel_rfl) (by kernel_rfl) (fun _ _ _ h => h) (Or.inl ⟨by rfl, ?_⟩) (by assumption) ?_
          rotate_left
          · ((intro w hSw; (try dsimp only at hSw); go_simp) <;> (with_reducible rfl))
          try simp only [Act.put, List.setIfInBounds_toArray, List.set_cons_zero, List.set_cons_succ]
          refine wpAnyH_take (i := 9) (oi := { dst := some 143, op := Go.Op.fieldAddr 33 (Go.Operand.tmp 10) 1, type := 0, pos := "law.go:50", after := #[], guard := none }) (v := ?_) rfl (by kernel_rfl) (by kernel_rfl) (by kernel_rfl) (fun _ _ _ h => h) (Or.inl ⟨by rfl, ?_⟩) (by assumption) ?_
          rotate_left
          · ((intro w hSw; (try dsimp only at hSw); go_simp) <;> (with_reducible rfl))
          try simp only [Act.put, List.setIfInBounds_toArray, List.set_cons_zero, List.set_cons_succ]
          refine wpAnyH_take (i := 10) (oi := { dst := some 144, op := Go.Op.load 3 (Go.Operand.tmp 143), type := 3, pos := "law.go:50", after := #[{ on := 9, ground := Go.Ground.data }], guard := none }) (v := ?_) rfl (by kernel_rfl) (by kernel_rfl) (by kernel_rfl) (fun _ _ _ h => h) (Or.inl ⟨by rfl, ?_⟩) (by assumption) ?_
          rotate_left
          · ((intro w hSw; (try dsimp only at hSw); go_simp) <;> (with_reducible rfl))
          try simp only [Act.put, List.setIfInBounds_toArray, List.set_cons_zero, List.set_cons_succ]
          refine wpAnyH_take (i := 11) (oi := { dst := some 145, op := Go.Op.fieldAddr 33 (Go.Operand.tmp 10) 2, type := 0, pos := "law.go:50", after := #[], guard := none }) (v := ?_) rfl (by kernel_rfl) (by kernel_rfl) (by kernel_rfl) (fun _ _ _ h => h) (Or.inl ⟨by rfl, ?_⟩) (by assumption) ?_
          rotate_left
          · ((intro w hSw; (try dsimp only at hSw); go_simp) <;> (with_reducible rfl))
          try simp only [Act.put, List.setIfInBounds_toArray, List.set_cons_zero, List.set_cons_succ]
          refine wpAnyH_take (i := 12) (oi := { dst := some 146, op := Go.Op.load 3 (Go.Operand.tmp 145), type := 3, pos := "law.go:50", after := #[{ on := 11, ground := Go.Ground.data }], guard := none }) (v := ?_) rfl (by kernel_rfl) (by kernel_rfl) (by kernel_rfl) (fun _ _ _ h => h) (Or.inl ⟨by rfl, ?_⟩) (by assumption) ?_
          rotate_left
          · ((intro w hSw; (try dsimp only at hSw); go_simp) <;> (with_reducible rfl))
          try simp only [Act.put, List.setIfInBounds_toArray, List.set_cons_zero, List.set_cons_succ]
          refine wpAnyH_take (i := 13) (oi := { dst := some 147, op := Go.Op.fieldAddr 33 (Go.Operand.tmp 10) 3, type := 0, pos := "law.go:50", after := #[], guard := none }) (v := ?_) rfl (by kernel_rfl) (by kernel_rfl) (by kernel_rfl) (fun _ _ _ h => h) (Or.inl ⟨by rfl, ?_⟩) (by assumption) ?_
          rotate_left
          · ((intro w hSw; (try dsimp only at hSw); go_simp) <;> (with_reducible rfl))
          try simp only [Act.put, List.setIfInBounds_toArray, List.set_cons_zero, List.set_cons_succ]
          refine wpAnyH_take (i := 14) (oi := { dst := some 148, op := Go.Op.load 3 (Go.Operand.tmp 147), type := 3, pos := "law.go:50", after := #[{ on := 13, ground := Go.Ground.data }], guard := none }) (v := ?_) rfl (by kernel_rfl) (by kernel_rfl) (by kernel_rfl) (fun _ _ _ h => h) (Or.inl ⟨by rfl, ?_⟩) (by assumption) ?_
          rotate_left
          · ((intro w hSw; (try dsimp only at hSw); go_simp) <;> (with_reducible rfl))
          try simp only [Act.put, List.setIfInBounds_toArray, List.set_cons_zero, List.set_cons_succ]
          refine wpAnyH_ready (rs := [7]) (by kernel_rfl) (by simp) ?_
          refine AllReadyH.cons (o := { dst := some 141, op := Go.Op.call { callee := Go.Callee.value (Go.Operand.func 12), args := #[Go.Operand.tmp 134, Go.Operand.tmp 136, Go.Operand.tmp 138, Go.Operand.tmp 140], argTypes := #[24, 3, 3, 3] }, type := 4, pos := "law.go:50", after := #[{ on := 0, ground := Go.Ground.data }, { on := 2, ground := Go.Ground.data }, { on := 4, ground := Go.Ground.data }, { on := 6, ground := Go.Ground.data }], guard := none }) rfl (fun K hK => ?_) AllReadyH.nil
          go_simp
          (first | (go_at_call 12; refine (store_says T.m _ _ _ hra).mono ?_; rintro e t' ⟨rfl, hm3, ho3⟩; replace T := T.stM hm3 ho3; replace BX := BX.only ho3 hAm) | (go_at_call 15; refine (rstore_says T.r H4.out _ _ _).mono ?_; rintro e t' ⟨rfl, hm3, ho3⟩; replace T := T.stR hm3 ho3; replace BX := BX.only ho3 hAr))
          refine hK.out _ _ ?_ (fun hH1 => ?_)
          · ((try dsimp only); exact ⟨BX.c1, BX.c2, BX.c3⟩)
          clear hK K hH0
          try simp only [Act.put, List.setIfInBounds_toArray, List.set_cons_zero, List.set_cons_succ]
          refine wpAnyH_ready (rs := [15]) (by kernel_rfl) (by simp) ?_
          refine AllReadyH.cons (o := { dst := some 149, op := Go.Op.call { callee := Go.Callee.value (Go.Operand.func 15), args := #[Go.Operand.tmp 142, Go.Operand.tmp 144, Go.Operand.tmp 146, Go.Operand.tmp 148], argTypes := #[26, 3, 3, 3] }, type := 4, pos := "law.go:50", after := #[{ on := 8, ground := Go.Ground.data }, { on := 10, ground := Go.Ground.data }, { on := 12, ground := Go.Ground.data }, { on := 14, ground := Go.Ground.data }, { on := 7, ground := Go.Ground.chain }], guard := none }) rfl (fun K hK => ?_) AllReadyH.nil
          go_simp
          (first | (go_at_call 12; refine (store_says T.m _ _ _ hra).mono ?_; rintro e t' ⟨rfl, hm3, ho3⟩; replace T := T.stM hm3 ho3; replace BX := BX.only ho3 hAm) | (go_at_call 15; refine (rstore_says T.r H4.out _ _ _).mono ?_; rintro e t' ⟨rfl, hm3, ho3⟩; replace T := T.stR hm3 ho3; replace BX := BX.only ho3 hAr))
          refine hK.out _ _ ?_ (fun hH2 => ?_)
          · ((try dsimp only); exact ⟨BX.c1, BX.c2, BX.c3⟩)
          clear hK K hH1
          try simp only [Act.put, List.setIfInBounds_toArray, List.set_cons_zero, List.set_cons_succ]
          refine wpAnyH_take (i := 16) (oi := { dst := some 150, op := Go.Op.binOp Go.BinOp.neq 4 (Go.Operand.tmp 141) (Go.Operand.tmp 149) 4, type := 4, pos := "law.go:50", after := #[{ on := 7, ground := Go.Ground.data }, { on := 15, ground := Go.Ground.data }], guard := none }) (v := ?_) rfl (by kernel_rfl) (by kernel_rfl) (by kernel_rfl) (fun _ _ _ h => h) (Or.inl ⟨by rfl, ?_⟩) (by assumption) ?_
          rotate_left
          · ((intro w hSw; (try dsimp only at hSw); go_simp) <;> (with_reducible rfl))
          try simp only [Act.put, List.setIfInBounds_toArray, List.set_cons_zero, List.set_cons_succ]
          refine wpAnyH_done (by kernel_rfl) ?_ _
          go_wp2_with fail
          go_roundw
          case rel => exact ⟨k + 1, hkl, by go_num, stv bs addr size v, _, by rw [stv_length]; exact H4.out, T⟩
          case measure => simp [intOf]; omega
        · by_cases hw2 : way = 2
          · subst hw2
            clear hw0 hw1 d3 d4
            go_upto_region 34 with (go_at_call 16; refine (get_says T.m _ _ hra hrs).mono ?_; intro e w7 hq; obtain ⟨p, c, rfl, how, hb7, hcp⟩ := getQ2 hq)
            obtain ⟨ys, hys⟩ : ∃ ys, ys = getL bs addr size := ⟨_, rfl⟩
            have hyB : Byt ys := by rw [hys]; unfold getL; split; exact byt_take (byt_drop T.m.byt _) _; exact fun _ h => by cases h
            rw [← hys] at how hcp ⊢
            have YS := Lib.hid hys; clear hys
            have hF : w6.heap.size ≤ w7.heap.size := hb7.size
            have TF := T
            replace T := T.grow hb7
            replace BX := BX.grow hb7
            have hK : Below w7.heap.size w7 w7.drew := (Below.refl _ _).drew
            obtain ⟨s1, hs1⟩ : ∃ s, s = strOfNums ys := ⟨_, rfl⟩
            have r1 : ∀ u, Below w7.heap.size w7 u → u.cell? ⟨A, 1, none⟩ = some (.int .i64 addr) := fun u hu => (BX.grow hu).c1
            have r2 : ∀ u, Below w7.heap.size w7 u → u.cell? ⟨A, 2, none⟩ = some (.int .i64 size) := fun u hu => (BX.grow hu).c2
            have r3 : ∀ u, Below w7.heap.size w7 u → (convert 29 9 (.slice p ys.length c)).run Try.prog u = .ok (.string s1) u := fun u hu => by
              rw [hs1]; exact conv_src ((how.later hu).src hyB) c
            have HS1 := Lib.hid hs1; clear hs1 d0 d1 d2
            refine wp_region_held_drew (S := (fun u => Below w7.heap.size w7 u)) (by kernel_rfl) ?_ (fun hH0 => ?_)
            · ((try dsimp only); first | exact hK | exact (‹Below w7.heap.size w7 _›).trans (ht'.mono (‹Below w7.heap.size w7 _›).size))
            refine wpAnyH_take (i := 0) (oi := { dst := some 159, op := Go.Op.move (Go.Operand.tmp 15), type := 29, pos := "law.go:55", after := #[], guard := none }) (v := ?_) rfl (by kernel_rfl) (by kernel_rfl) (by kernel_rfl) (fun _ _ _ h => h) (Or.inl ⟨by rfl, ?_⟩) (by assumption) ?_
            rotate_left
            · ((intro w hSw; (try dsimp only at hSw); go_simp) <;> (with_reducible rfl))
            try simp only [Act.put, List.setIfInBounds_toArray, List.set_cons_zero, List.set_cons_succ]
            refine wpAnyH_take (i := 1) (oi := { dst := some 160, op := Go.Op.convert 29 9 (Go.Operand.tmp 159), type := 9, pos := "law.go:55", after := #[{ on := 0, ground := Go.Ground.data }], guard := none }) (v := ?_) rfl (by kernel_rfl) (by kernel_rfl) (by kernel_rfl) (fun _ _ _ h => h) (Or.inl ⟨by rfl, ?_⟩) (by assumption) ?_
            rotate_left
            · ((intro w hSw; (try dsimp only at hSw); go_simp) <;> (with_reducible rfl))
            try simp only [Act.put, List.setIfInBounds_toArray, List.set_cons_zero, List.set_cons_succ]
            refine wpAnyH_take (i := 2) (oi := { dst := some 161, op := Go.Op.move (Go.Operand.tmp 8), type := 26, pos := "law.go:55", after := #[], guard := none }) (v := ?_) rfl (by kernel_rfl) (by kernel_rfl) (by kernel_rfl) (fun _ _ _ h => h) (Or.inl ⟨by rfl, ?_⟩) (by assumption) ?_
            rotate_left
            · ((intro w hSw; (try dsimp only at hSw); go_simp) <;> (with_reducible rfl))
            try simp only [Act.put, List.setIfInBounds_toArray, List.set_cons_zero, List.set_cons_succ]
            refine wpAnyH_take (i := 3) (oi := { dst := some 162, op := Go.Op.fieldAddr 33 (Go.Operand.tmp 10) 1, type := 0, pos := "law.go:55", after := #[], guard := none }) (v := ?_) rfl (by kernel_rfl) (by kernel_rfl) (by kernel_rfl) (fun _ _ _ h => h) (Or.inl ⟨by rfl, ?_⟩) (by assumption) ?_
            rotate_left
            · ((intro w hSw; (try dsimp only at hSw); go_simp) <;> (with_reducible rfl))
            try simp only [Act.put, List.setIfInBounds_toArray, List.set_cons_zero, List.set_cons_succ]
            refine wpAnyH_take (i := 4) (oi := { dst := some 163, op := Go.Op.load 3 (Go.Operand.tmp 162), type := 3, pos := "law.go:55", after := #[{ on := 3, ground := Go.Ground.data }], guard := none }) (v := ?_) rfl (by kernel_rfl) (by kernel_rfl) (by kernel_rfl) (fun _ _ _ h => h) (Or.inl ⟨by rfl, ?_⟩) (by assumption) ?_
            rotate_left
            · ((intro w hSw; (try dsimp only at hSw); go_simp) <;> (with_reducible rfl))
            try simp only [Act.put, List.setIfInBounds_toArray, List.set_cons_zero, List.set_cons_succ]
            refine wpAnyH_take (i := 5) (oi := { dst := some 164, op := Go.Op.fieldAddr 33 (Go.Operand.tmp 10) 2, type := 0, pos := "law.go:55", after := #[], guard := none }) (v := ?_) rfl (by kernel_rfl) (by kernel_rfl) (by kernel_rfl) (fun _ _ _ h => h) (Or.inl ⟨by rfl, ?_⟩) (by assumption) ?_
            rotate_left
            · ((intro w hSw; (try dsimp only at hSw); go_simp) <;> (with_reducible rfl))
            try simp only [Act.put, List.setIfInBounds_toArray, List.set_cons_zero, List.set_cons_succ]
            refine wpAnyH_take (i := 6) (oi := { dst := some 165, op := Go.Op.load 3 (Go.Operand.tmp 164), type := 3, pos := "law.go:55", after := #[{ on := 5, ground := Go.Ground.data }], guard := none }) (v := ?_) rfl (by kernel_rfl) (by kernel_rfl) (by kernel_rfl) (fun _ _ _ h => h) (Or.inl ⟨by rfl, ?_⟩) (by assumption) ?_
            rotate_left
            · ((intro w hSw; (try dsimp only at hSw); go_simp) <;> (with_reducible rfl))
            try simp only [Act.put, List.setIfInBounds_toArray, List.set_cons_zero, List.set_cons_succ]
            refine wpAnyH_ready (rs := [7]) (by kernel_rfl) (by simp) ?_
            refine AllReadyH.cons (o := { dst := some 166, op := Go.Op.call { callee := Go.Callee.value (Go.Operand.func 17), args := #[Go.Operand.tmp 161, Go.Operand.tmp 163, Go.Operand.tmp 165], argTypes := #[26, 3, 3] }, type := 29, pos := "law.go:55", after := #[{ on := 2, ground := Go.Ground.data }, { on := 4, ground := Go.Ground.data }, { on := 6, ground := Go.Ground.data }], guard := none }) rfl (fun K hK => ?_) AllReadyH.nil
            go_simp
            (go_at_call 17; refine (rget_says (T.r.grow (by assumption)) _ _ hra hrs).mono ?_; intro e t' hq; rw [← YS.out] at hq; obtain ⟨p5, c5, rfl, how5, ht'⟩ := getQ hq)
            refine hK.out _ _ ?_ (fun hH1 => ?_)
            · ((try dsimp only); first | exact hK | exact (‹Below w7.heap.size w7 _›).trans (ht'.mono (‹Below w7.heap.size w7 _›).size))
            clear hK K hH0
            try simp only [Act.put, List.setIfInBounds_toArray, List.set_cons_zero, List.set_cons_succ]
            first | (refine wpAnyH_mono (S' := fun u => u = t') (fun u hu => by rw [hu]; exact hH1) _ _ _ _ ?_; have hT : (fun u => u = t') t' := rfl; have hBt : Below w7.heap.size w7 t' := hH1; have c89 : (convert 29 9 (.slice p5 ys.length c5)).run Try.prog t' = .ok (.string s1) t' := (by rw [HS1.out]; exact conv_src (how5.src hyB) c5)) | skip
            refine wpAnyH_take (i := 8) (oi := { dst := some 167, op := Go.Op.convert 29 9 (Go.Operand.tmp 166), type := 9, pos := "law.go:55", after := #[{ on := 7, ground := Go.Ground.data }], guard := none }) (v := ?_) rfl (by kernel_rfl) (by kernel_rfl) (by kernel_rfl) (fun _ _ _ h => h) (Or.inl ⟨by rfl, ?_⟩) (by assumption) ?_
            rotate_left
            · ((intro w hSw; (try dsimp only at hSw); go_simp) <;> (with_reducible rfl))
            try simp only [Act.put, List.setIfInBounds_toArray, List.set_cons_zero, List.set_cons_succ]
            refine wpAnyH_take (i := 9) (oi := { dst := some 168, op := Go.Op.binOp Go.BinOp.neq 9 (Go.Operand.tmp 160) (Go.Operand.tmp 167) 9, type := 4, pos := "law.go:55", after := #[{ on := 1, ground := Go.Ground.data }, { on := 8, ground := Go.Ground.data }], guard := none }) (v := ?_) rfl (by kernel_rfl) (by kernel_rfl) (by kernel_rfl) (fun _ _ _ h => h) (Or.inl ⟨by rfl, ?_⟩) (by assumption) ?_
            rotate_left
            · ((intro w hSw; (try dsimp only at hSw); go_simp) <;> (with_reducible rfl))
            try simp only [Act.put, List.setIfInBounds_toArray, List.set_cons_zero, List.set_cons_succ]
            refine wpAnyH_done (by kernel_rfl) ?_ _
            replace T := T.grow hBt
            have hO : OwnN w6.heap.size t' p ys.length := ⟨ys, rfl, how.later hBt⟩
            have hyl : ys.length ≤ 1048576 := by
              rw [YS.out]; unfold getL
              split
              · rw [List.length_take, List.length_drop]; have := TF.m.le; omega
              · simp
            clear r1 r2 r3 c89 how how5 hq BX hb7 hyB YS HS1 hcp
            generalize ys.length = N at *
            go_upto_region 37 with fail
            go_loopw [16] (fun i wv => ∃ j : Nat, j ≤ N ∧ i = .int .i64 j ∧ Three W wv hm gm ho go hr gr bs bo' bs ∧ OwnN w6.heap.size wv p N) (fun i _ => N - (intOf i).toNat)
            case atStart => exact ⟨0, Nat.zero_le _, rfl, T, hO⟩
            case round =>
              clear T hO
              obtain ⟨j, hj, rfl, T, hO⟩ := hrel
              by_cases hjl : j < N
              · obtain ⟨g', y, rfl, hg', hcell, hfr, hset⟩ := hO.cell hjl
                have hF2 := TF.fresh hg'
                go_wp2
                · go_roundw
                  case rel => exact ⟨j + 1, hjl, by go_num, T.oth hF2 (only_set _ _ _ _), hset _⟩
                  case measure => simp [intOf]; omega
                · go_roundw
                  case rel => exact ⟨k + 1, hkl, by go_num, bs, _, H4.out, T⟩
                  case measure => simp [intOf]; omega
              · go_wp2
                go_roundw
                case rel => exact ⟨k + 1, hkl, by go_num, bs, _, H4.out, T⟩
                case measure => simp [intOf]; omega
          · have b0 : (way == 0) = false := by simpa using hw0
            have b1 : (way == 1) = false := by simpa using hw1
            have b2 : (way == 2) = false := by simpa using hw2
            have hmx : bl ≤ 9223372036854775807 := by have := hB8.le; have := hB8.mx; omega
            go_upto_region 17 with fail

            · go_ret
              exact ⟨rfl, T.b⟩
            · have hbl : bl ≤ 10000 := by have : (bl : Int) ≤ 10000 := by assumption
                                          omega
              have HBL := Lib.hid hbl; clear hbl hw0 hw1 hw2
              go_upto_region 18 with (at_builtin; (refine wpList_append_bytes rfl _ _ rfl rfl bp bl bc rfl xs hB8.hlen (hB8.src T.b) hbc hB8.le (by have := HBL.out; omega) ?_; intro p c w7 how hb7))
              have hF : w6.heap.size ≤ w7.heap.size := hb7.size
              have TF := T
              replace T := T.grow hb7
              replace BX := BX.grow hb7
              have hD : Below w7.heap.size w7 w7.drew := (Below.refl _ _).drew
              replace T := T.grow hD
              replace BX := BX.grow hD
              replace how := how.later hD
              clear hD d0 d1 d2 d3 d4

              refine wp_region_held_drew (S := (fun u => u.cell? ⟨A, 1, none⟩ = some (.int .i64 addr) ∧ u.cell? ⟨A, 4, none⟩ = some (.slice bp bl bc))) (by kernel_rfl) ?_ (fun hH0 => ?_)
              · ((try dsimp only); exact ⟨BX.c1, BX.c4⟩)
              refine wpAnyH_take (i := 0) (oi := { dst := some 78, op := Go.Op.move (Go.Operand.tmp 6), type := 24, pos := "law.go:66", after := #[], guard := none }) (v := ?_) rfl (by kernel_rfl) (by kernel_rfl) (by kernel_rfl) (fun _ _ _ h => h) (Or.inl ⟨by rfl, ?_⟩) (by assumption) ?_
              rotate_left
              · ((intro w hSw; (try dsimp only at hSw); go_simp) <;> (with_reducible rfl))
              try simp only [Act.put, List.setIfInBounds_toArray, List.set_cons_zero, List.set_cons_succ]
              refine wpAnyH_take (i := 1) (oi := { dst := some 79, op := Go.Op.fieldAddr 33 (Go.Operand.tmp 10) 1, type := 0, pos := "law.go:66", after := #[], guard := none }) (v := ?_) rfl (by kernel_rfl) (by kernel_rfl) (by kernel_rfl) (fun _ _ _ h => h) (Or.inl ⟨by rfl, ?_⟩) (by assumption) ?_
              rotate_left
              · ((intro w hSw; (try dsimp only at hSw); go_simp) <;> (with_reducible rfl))
              try simp only [Act.put, List.setIfInBounds_toArray, List.set_cons_zero, List.set_cons_succ]
              refine wpAnyH_take (i := 2) (oi := { dst := some 80, op := Go.Op.load 3 (Go.Operand.tmp 79), type := 3, pos := "law.go:66", after := #[{ on := 1, ground := Go.Ground.data }], guard := none }) (v := ?_) rfl (by kernel_rfl) (by kernel_rfl) (by kernel_rfl) (fun _ _ _ h => h) (Or.inl ⟨by rfl, ?_⟩) (by assumption) ?_
              rotate_left
              · ((intro w hSw; (try dsimp only at hSw); go_simp) <;> (with_reducible rfl))
              try simp only [Act.put, List.setIfInBounds_toArray, List.set_cons_zero, List.set_cons_succ]
              refine wpAnyH_take (i := 3) (oi := { dst := some 81, op := Go.Op.move (Go.Operand.tmp 17), type := 29, pos := "law.go:66", after := #[], guard := none }) (v := ?_) rfl (by kernel_rfl) (by kernel_rfl) (by kernel_rfl) (fun _ _ _ h => h) (Or.inl ⟨by rfl, ?_⟩) (by assumption) ?_
              rotate_left
              · ((intro w hSw; (try dsimp only at hSw); go_simp) <;> (with_reducible rfl))
              try simp only [Act.put, List.setIfInBounds_toArray, List.set_cons_zero, List.set_cons_succ]
              refine wpAnyH_take (i := 5) (oi := { dst := some 83, op := Go.Op.move (Go.Operand.tmp 8), type := 26, pos := "law.go:66", after := #[], guard := none }) (v := ?_) rfl (by kernel_rfl) (by kernel_rfl) (by kernel_rfl) (fun _ _ _ h => h) (Or.inl ⟨by rfl, ?_⟩) (by assumption) ?_
              rotate_left
              · ((intro w hSw; (try dsimp only at hSw); go_simp) <;> (with_reducible rfl))
              try simp only [Act.put, List.setIfInBounds_toArray, List.set_cons_zero, List.set_cons_succ]
              refine wpAnyH_take (i := 6) (oi := { dst := some 84, op := Go.Op.fieldAddr 33 (Go.Operand.tmp 10) 1, type := 0, pos := "law.go:66", after := #[], guard := none }) (v := ?_) rfl (by kernel_rfl) (by kernel_rfl) (by kernel_rfl) (fun _ _ _ h => h) (Or.inl ⟨by rfl, ?_⟩) (by assumption) ?_
              rotate_left
              · ((intro w hSw; (try dsimp only at hSw); go_simp) <;> (with_reducible rfl))
              try simp only [Act.put, List.setIfInBounds_toArray, List.set_cons_zero, List.set_cons_succ]
              refine wpAnyH_take (i := 7) (oi := { dst := some 85, op := Go.Op.load 3 (Go.Operand.tmp 84), type := 3, pos := "law.go:66", after := #[{ on := 6, ground := Go.Ground.data }], guard := none }) (v := ?_) rfl (by kernel_rfl) (by kernel_rfl) (by kernel_rfl) (fun _ _ _ h => h) (Or.inl ⟨by rfl, ?_⟩) (by assumption) ?_
              rotate_left
              · ((intro w hSw; (try dsimp only at hSw); go_simp) <;> (with_reducible rfl))
              try simp only [Act.put, List.setIfInBounds_toArray, List.set_cons_zero, List.set_cons_succ]
              refine wpAnyH_take (i := 8) (oi := { dst := some 86, op := Go.Op.fieldAddr 33 (Go.Operand.tmp 10) 4, type := 0, pos := "law.go:66", after := #[], guard := none }) (v := ?_) rfl (by kernel_rfl) (by kernel_rfl) (by kernel_rfl) (fun _ _ _ h => h) (Or.inl ⟨by rfl, ?_⟩) (by assumption) ?_
              rotate_left
              · ((intro w hSw; (try dsimp only at hSw); go_simp) <;> (with_reducible rfl))
              try simp only [Act.put, List.setIfInBounds_toArray, List.set_cons_zero, List.set_cons_succ]
              refine wpAnyH_take (i := 9) (oi := { dst := some 87, op := Go.Op.load 29 (Go.Operand.tmp 86), type := 29, pos := "law.go:66", after := #[{ on := 8, ground := Go.Ground.data }], guard := none }) (v := ?_) rfl (by kernel_rfl) (by kernel_rfl) (by kernel_rfl) (fun _ _ _ h => h) (Or.inl ⟨by rfl, ?_⟩) (by assumption) ?_
              rotate_left
              · ((intro w hSw; (try dsimp only at hSw); go_simp) <;> (with_reducible rfl))
              try simp only [Act.put, List.setIfInBounds_toArray, List.set_cons_zero, List.set_cons_succ]
              refine wpAnyH_ready (rs := [4]) (by kernel_rfl) (by simp) ?_
              refine AllReadyH.cons (o := { dst := some 82, op := Go.Op.call { callee := Go.Callee.value (Go.Operand.func 18), args := #[Go.Operand.tmp 78, Go.Operand.tmp 80, Go.Operand.tmp 81], argTypes := #[24, 3, 29] }, type := 4, pos := "law.go:66", after := #[{ on := 0, ground := Go.Ground.data }, { on := 2, ground := Go.Ground.data }, { on := 3, ground := Go.Ground.data }], guard := none }) rfl (fun K hK => ?_) AllReadyH.nil
              go_simp
              (first | (go_at_call 18; refine (put_says T.m _ hra p bl c (by have := HBL.out; omega) xs hB8.hlen (how.src hB8.byt)).mono ?_; intro e t' hq; obtain ⟨rfl, hm3, ho3⟩ := putQ hB8.hlen hq; have hO : OwnN w6.heap.size t' p bl := OwnN.only ⟨xs, hB8.hlen, how⟩ TF.m.lt.2 ho3; replace T := T.stM hm3 ho3; replace BX := BX.only ho3 hAm) | (go_at_call 19; (refine (rput_says T.r _ hra bp bl bc (by have := HBL.out; omega) xs hB8.hlen (hB8.src T.b)).mono ?_; intro e t' hq; obtain ⟨rfl, hm3, ho3⟩ := putQ hB8.hlen hq; replace hO := hO.only TF.r.lt.2 ho3; replace T := T.stR hm3 ho3; replace BX := BX.only ho3 hAr)))
              refine hK.out _ _ ?_ (fun hH1 => ?_)
              · ((try dsimp only); exact ⟨BX.c1, BX.c4⟩)
              clear hK K hH0
              try simp only [Act.put, List.setIfInBounds_toArray, List.set_cons_zero, List.set_cons_succ]
              refine wpAnyH_ready (rs := [10]) (by kernel_rfl) (by simp) ?_
              refine AllReadyH.cons (o := { dst := some 88, op := Go.Op.call { callee := Go.Callee.value (Go.Operand.func 19), args := #[Go.Operand.tmp 83, Go.Operand.tmp 85, Go.Operand.tmp 87], argTypes := #[26, 3, 29] }, type := 4, pos := "law.go:66", after := #[{ on := 5, ground := Go.Ground.data }, { on := 7, ground := Go.Ground.data }, { on := 9, ground := Go.Ground.data }, { on := 4, ground := Go.Ground.chain }], guard := none }) rfl (fun K hK => ?_) AllReadyH.nil
              go_simp
              (first | (go_at_call 18; refine (put_says T.m _ hra p bl c (by have := HBL.out; omega) xs hB8.hlen (how.src hB8.byt)).mono ?_; intro e t' hq; obtain ⟨rfl, hm3, ho3⟩ := putQ hB8.hlen hq; have hO : OwnN w6.heap.size t' p bl := OwnN.only ⟨xs, hB8.hlen, how⟩ TF.m.lt.2 ho3; replace T := T.stM hm3 ho3; replace BX := BX.only ho3 hAm) | (go_at_call 19; (refine (rput_says T.r _ hra bp bl bc (by have := HBL.out; omega) xs hB8.hlen (hB8.src T.b)).mono ?_; intro e t' hq; obtain ⟨rfl, hm3, ho3⟩ := putQ hB8.hlen hq; replace hO := hO.only TF.r.lt.2 ho3; replace T := T.stR hm3 ho3; replace BX := BX.only ho3 hAr)))
              refine hK.out _ _ ?_ (fun hH2 => ?_)
              · ((try dsimp only); exact ⟨BX.c1, BX.c4⟩)
              clear hK K hH1
              try simp only [Act.put, List.setIfInBounds_toArray, List.set_cons_zero, List.set_cons_succ]
              refine wpAnyH_take (i := 11) (oi := { dst := some 89, op := Go.Op.binOp Go.BinOp.neq 4 (Go.Operand.tmp 82) (Go.Operand.tmp 88) 4, type := 4, pos := "law.go:66", after := #[{ on := 4, ground := Go.Ground.data }, { on := 10, ground := Go.Ground.data }], guard := none }) (v := ?_) rfl (by kernel_rfl) (by kernel_rfl) (by kernel_rfl) (fun _ _ _ h => h) (Or.inl ⟨by rfl, ?_⟩) (by assumption) ?_
              rotate_left
              · ((intro w hSw; (try dsimp only at hSw); go_simp) <;> (with_reducible rfl))
              try simp only [Act.put, List.setIfInBounds_toArray, List.set_cons_zero, List.set_cons_succ]
              refine wpAnyH_done (by kernel_rfl) ?_ _
              have hyl : bl ≤ 1048576 := by have := HBL.out; omega
              clear how BX hb7
              go_upto_region 21 with fail
              go_loopw [18] (fun i wv => ∃ j : Nat, j ≤ bl ∧ i = .int .i64 j ∧ Three W wv hm gm ho go hr gr (putL bs addr xs) bo' (putL bs addr xs) ∧ OwnN w6.heap.size wv p bl) (fun i _ => bl - (intOf i).toNat)
              case atStart => exact ⟨0, Nat.zero_le _, rfl, T, hO⟩
              case round =>
                clear T hO
                obtain ⟨j, hj, rfl, T, hO⟩ := hrel
                by_cases hjl : j < bl
                · obtain ⟨g', y, rfl, hg', hcell, hfr, hset⟩ := hO.cell hjl
                  have hF2 := TF.fresh hg'
                  go_wp2
                  go_roundw
                  case rel => exact ⟨j + 1, hjl, by go_num, T.oth hF2 (only_set _ _ _ _), hset _⟩
                  case measure => simp [intOf]; omega
                · go_wp2
                  go_roundw
                  case rel => exact ⟨k + 1, hkl, by go_num, putL bs addr xs, _, by rw [putL_length]; exact H4.out, T⟩
                  case measure => simp [intOf]; omega
    · go_upto_region 40 with fail
      have hK : Below wr.heap.size wr wr.drew := (Below.refl _ _).drew
      obtain ⟨s1, hs1⟩ : ∃ s, s = strOfNums bs := ⟨_, rfl⟩
      have r1 : ∀ u, Below wr.heap.size wr u → u.cell? ⟨hr, 0, none⟩ = some (.slice (some ⟨gr, 0, none⟩) bs.length bs.length) := fun u hu => rcell (T.r.grow hu)
      have r2 : ∀ u, Below wr.heap.size wr u → (convert 29 9 (.slice (some ⟨gr, 0, none⟩) bs.length bs.length)).run Try.prog u = .ok (.string s1) u := fun u hu => by
        rw [hs1]; exact conv_src (T.r.grow hu).src _
      have hle := T.m.le
      have HS1 := Lib.hid hs1; clear hs1
      refine wp_region_held_drew (S := (fun u => Below wr.heap.size wr u)) (by kernel_rfl) ?_ (fun hH0 => ?_)
      · ((try dsimp only); first | exact hK | exact (‹Below wr.heap.size wr _›).trans (ht'.mono (‹Below wr.heap.size wr _›).size) | assumption)
      refine wpAnyH_take (i := 0) (oi := { dst := some 187, op := Go.Op.move (Go.Operand.tmp 6), type := 24, pos := "law.go:74", after := #[], guard := none }) (v := ?_) rfl (by kernel_rfl) (by kernel_rfl) (by kernel_rfl) (fun _ _ _ h => h) (Or.inl ⟨by rfl, ?_⟩) (by assumption) ?_
      rotate_left
      · ((intro w hSw; (try dsimp only at hSw); go_simp) <;> (with_reducible rfl))
      try simp only [Act.put, List.setIfInBounds_toArray, List.set_cons_zero, List.set_cons_succ]
      refine wpAnyH_take (i := 1) (oi := { dst := some 188, op := Go.Op.move (Go.Operand.tmp 6), type := 24, pos := "law.go:74", after := #[], guard := none }) (v := ?_) rfl (by kernel_rfl) (by kernel_rfl) (by kernel_rfl) (fun _ _ _ h => h) (Or.inl ⟨by rfl, ?_⟩) (by assumption) ?_
      rotate_left
      · ((intro w hSw; (try dsimp only at hSw); go_simp) <;> (with_reducible rfl))
      try simp only [Act.put, List.setIfInBounds_toArray, List.set_cons_zero, List.set_cons_succ]
      refine wpAnyH_take (i := 5) (oi := { dst := some 192, op := Go.Op.move (Go.Operand.tmp 8), type := 26, pos := "law.go:74", after := #[], guard := none }) (v := ?_) rfl (by kernel_rfl) (by kernel_rfl) (by kernel_rfl) (fun _ _ _ h => h) (Or.inl ⟨by rfl, ?_⟩) (by assumption) ?_
      rotate_left
      · ((intro w hSw; (try dsimp only at hSw); go_simp) <;> (with_reducible rfl))
      try simp only [Act.put, List.setIfInBounds_toArray, List.set_cons_zero, List.set_cons_succ]
      refine wpAnyH_take (i := 6) (oi := { dst := some 193, op := Go.Op.nilCheck (Go.Operand.tmp 192), type := 0, pos := "law.go:74", after := #[{ on := 5, ground := Go.Ground.data }], guard := none }) (v := ?_) rfl (by kernel_rfl) (by kernel_rfl) (by kernel_rfl) (fun _ _ _ h => h) (Or.inl ⟨by rfl, ?_⟩) (by assumption) ?_
      rotate_left
      · ((intro w hSw; (try dsimp only at hSw); go_simp) <;> (with_reducible rfl))
      try simp only [Act.put, List.setIfInBounds_toArray, List.set_cons_zero, List.set_cons_succ]
      refine wpAnyH_take (i := 7) (oi := { dst := some 194, op := Go.Op.fieldAddr 31 (Go.Operand.tmp 193) 0, type := 0, pos := "law.go:74", after := #[{ on := 6, ground := Go.Ground.data }], guard := none }) (v := ?_) rfl (by kernel_rfl) (by kernel_rfl) (by kernel_rfl) (fun _ _ _ h => h) (Or.inl ⟨by rfl, ?_⟩) (by assumption) ?_
      rotate_left
      · ((intro w hSw; (try dsimp only at hSw); go_simp) <;> (with_reducible rfl))
      try simp only [Act.put, List.setIfInBounds_toArray, List.set_cons_zero, List.set_cons_succ]
      refine wpAnyH_take (i := 8) (oi := { dst := some 195, op := Go.Op.load 29 (Go.Operand.tmp 194), type := 29, pos := "law.go:74", after := #[{ on := 7, ground := Go.Ground.data }], guard := none }) (v := ?_) rfl (by kernel_rfl) (by kernel_rfl) (by kernel_rfl) (fun _ _ _ h => h) (Or.inl ⟨by rfl, ?_⟩) (by assumption) ?_
      rotate_left
      · ((intro w hSw; (try dsimp only at hSw); go_simp) <;> (with_reducible rfl))
      try simp only [Act.put, List.setIfInBounds_toArray, List.set_cons_zero, List.set_cons_succ]
      refine wpAnyH_take (i := 9) (oi := { dst := some 196, op := Go.Op.convert 29 9 (Go.Operand.tmp 195), type := 9, pos := "law.go:74", after := #[{ on := 8, ground := Go.Ground.data }], guard := none }) (v := ?_) rfl (by kernel_rfl) (by kernel_rfl) (by kernel_rfl) (fun _ _ _ h => h) (Or.inl ⟨by rfl, ?_⟩) (by assumption) ?_
      rotate_left
      · ((intro w hSw; (try dsimp only at hSw); go_simp) <;> (with_reducible rfl))
      try simp only [Act.put, List.setIfInBounds_toArray, List.set_cons_zero, List.set_cons_succ]
      refine wpAnyH_ready (rs := [2]) (by kernel_rfl) (by simp) ?_
      refine AllReadyH.cons (o := { dst := some 189, op := Go.Op.call { callee := Go.Callee.value (Go.Operand.func 11), args := #[Go.Operand.tmp 188], argTypes := #[24] }, type := 3, pos := "law.go:74", after := #[{ on := 1, ground := Go.Ground.data }], guard := none }) rfl (fun K hK => ?_) AllReadyH.nil
      go_simp
      (first | (go_at_call 11; refine (size_says (T.m.grow (by assumption))).mono ?_; rintro e t1 ⟨rfl, rfl⟩) | (go_at_call 16; (refine (get_says (T.m.grow (by assumption)) _ _ (by omega) (by omega)).mono ?_; intro e t' hq; rw [getL_all] at hq; obtain ⟨p5, c5, rfl, how5, ht'⟩ := getQ hq)))
      refine hK.out _ _ ?_ (fun hH1 => ?_)
      · ((try dsimp only); first | exact hK | exact (‹Below wr.heap.size wr _›).trans (ht'.mono (‹Below wr.heap.size wr _›).size) | assumption)
      clear hK K hH0
      try simp only [Act.put, List.setIfInBounds_toArray, List.set_cons_zero, List.set_cons_succ]
      first | (refine wpAnyH_mono (S' := fun u => u = t') (fun u hu => by rw [hu]; exact hH2) _ _ _ _ ?_; have hT : (fun u => u = t') t' := rfl; have hBt : Below wr.heap.size wr t' := hH2; have c89 : (convert 29 9 (.slice p5 bs.length c5)).run Try.prog t' = .ok (.string s1) t' := (by rw [HS1.out]; exact conv_src (how5.src T.m.byt) c5)) | skip
      refine wpAnyH_ready (rs := [3]) (by kernel_rfl) (by simp) ?_
      refine AllReadyH.cons (o := { dst := some 190, op := Go.Op.call { callee := Go.Callee.value (Go.Operand.func 16), args := #[Go.Operand.tmp 187, Go.Operand.const (Go.Value.int Go.IntKind.i64 0), Go.Operand.tmp 189], argTypes := #[24, 3, 3] }, type := 29, pos := "law.go:74", after := #[{ on := 0, ground := Go.Ground.data }, { on := 2, ground := Go.Ground.data }, { on := 2, ground := Go.Ground.chain }], guard := none }) rfl (fun K hK => ?_) AllReadyH.nil
      go_simp
      (first | (go_at_call 11; refine (size_says (T.m.grow (by assumption))).mono ?_; rintro e t1 ⟨rfl, rfl⟩) | (go_at_call 16; (refine (get_says (T.m.grow (by assumption)) _ _ (by omega) (by omega)).mono ?_; intro e t' hq; rw [getL_all] at hq; obtain ⟨p5, c5, rfl, how5, ht'⟩ := getQ hq)))
      refine hK.out _ _ ?_ (fun hH2 => ?_)
      · ((try dsimp only); first | exact hK | exact (‹Below wr.heap.size wr _›).trans (ht'.mono (‹Below wr.heap.size wr _›).size) | assumption)
      clear hK K hH1
      try simp only [Act.put, List.setIfInBounds_toArray, List.set_cons_zero, List.set_cons_succ]
      first | (refine wpAnyH_mono (S' := fun u => u = t') (fun u hu => by rw [hu]; exact hH2) _ _ _ _ ?_; have hT : (fun u => u = t') t' := rfl; have hBt : Below wr.heap.size wr t' := hH2; have c89 : (convert 29 9 (.slice p5 bs.length c5)).run Try.prog t' = .ok (.string s1) t' := (by rw [HS1.out]; exact conv_src (how5.src T.m.byt) c5)) | skip
      refine wpAnyH_take (i := 4) (oi := { dst := some 191, op := Go.Op.convert 29 9 (Go.Operand.tmp 190), type := 9, pos := "law.go:74", after := #[{ on := 3, ground := Go.Ground.data }], guard := none }) (v := ?_) rfl (by kernel_rfl) (by kernel_rfl) (by kernel_rfl) (fun _ _ _ h => h) (Or.inl ⟨by rfl, ?_⟩) (by assumption) ?_
      rotate_left
      · ((intro w hSw; (try dsimp only at hSw); go_simp) <;> (with_reducible rfl))
      try simp only [Act.put, List.setIfInBounds_toArray, List.set_cons_zero, List.set_cons_succ]
      refine wpAnyH_take (i := 10) (oi := { dst := some 197, op := Go.Op.binOp Go.BinOp.eql 9 (Go.Operand.tmp 191) (Go.Operand.tmp 196) 9, type := 4, pos := "law.go:74", after := #[{ on := 4, ground := Go.Ground.data }, { on := 9, ground := Go.Ground.data }], guard := none }) (v := ?_) rfl (by kernel_rfl) (by kernel_rfl) (by kernel_rfl) (fun _ _ _ h => h) (Or.inl ⟨by rfl, ?_⟩) (by assumption) ?_
      rotate_left
      · ((intro w hSw; (try dsimp only at hSw); go_simp) <;> (with_reducible rfl))
      try simp only [Act.put, List.setIfInBounds_toArray, List.set_cons_zero, List.set_cons_succ]
      refine wpAnyH_take (i := 11) (oi := { dst := some 4, op := Go.Op.assign (Go.Operand.tmp 197), type := 4, pos := "law.go:74", after := #[{ on := 10, ground := Go.Ground.data }, { on := 3, ground := Go.Ground.chain }, { on := 0, ground := Go.Ground.phase }, { on := 1, ground := Go.Ground.phase }, { on := 2, ground := Go.Ground.phase }, { on := 3, ground := Go.Ground.phase }, { on := 4, ground := Go.Ground.phase }, { on := 5, ground := Go.Ground.phase }, { on := 6, ground := Go.Ground.phase }, { on := 7, ground := Go.Ground.phase }, { on := 8, ground := Go.Ground.phase }, { on := 9, ground := Go.Ground.phase }, { on := 10, ground := Go.Ground.phase }], guard := none }) (v := ?_) rfl (by kernel_rfl) (by kernel_rfl) (by kernel_rfl) (fun _ _ _ h => h) (Or.inl ⟨by rfl, ?_⟩) (by assumption) ?_
      rotate_left
      · ((intro w hSw; (try dsimp only at hSw); go_simp) <;> (with_reducible rfl))
      try simp only [Act.put, List.setIfInBounds_toArray, List.set_cons_zero, List.set_cons_succ]
      refine wpAnyH_done (by kernel_rfl) ?_ _
      go_wp2_with fail
      go_ret
      exact ⟨ret_bool (by simp), T.b.trans (hBt.mono T.b.size)⟩
end Go.Proofs.Ythagnbmoedppgaa
