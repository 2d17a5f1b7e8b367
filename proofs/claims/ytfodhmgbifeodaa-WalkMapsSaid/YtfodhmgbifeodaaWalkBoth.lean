/-
  A memory with words put into it, in both (trunnionlaw5.Both).
-/
import Derived.Test.YtfodhmgbifeodaaWalkRef
namespace Go.Proofs.Ytfodhmgbifeodaa
open Go.ChangeShapes Go.WideShapes Go.ChangeAt Go.RowKit
/-- Two memories side by side, with the same bytes. -/
structure Two (W w : World) (hm gm hr gr : Nat) (bs : List Int) : Prop where
  m : Mem 61 w hm gm bs
  r : Mem 63 w hr gr bs
  d : gm ≠ gr ∧ gm ≠ hr ∧ gr ≠ hm
  b : Below W.heap.size W w
  bd : W.heap.size ≤ hm ∧ W.heap.size ≤ gm ∧ W.heap.size ≤ hr ∧ W.heap.size ≤ gr
theorem Two.grow {W w w' : World} {hm gm hr gr : Nat} {bs : List Int} (h : Two W w hm gm hr gr bs) (hb : Below w.heap.size w w') : Two W w' hm gm hr gr bs :=
  ⟨h.m.grow hb, h.r.grow hb, h.d, h.b.trans (hb.mono h.b.size), h.bd⟩
/-- One of the two has turned. -/
structure TwoM (W w : World) (hm gm hr gr : Nat) (bs bo : List Int) : Prop where
  m : Mem 61 w hm gm bs
  r : Mem 63 w hr gr bo
  d : gm ≠ gr ∧ gm ≠ hr ∧ gr ≠ hm
  b : Below W.heap.size W w
  bd : W.heap.size ≤ hm ∧ W.heap.size ≤ gm ∧ W.heap.size ≤ hr ∧ W.heap.size ≤ gr
theorem Two.stM {W w w' : World} {hm gm hr gr : Nat} {bs xs : List Int} (h : Two W w hm gm hr gr bs) (hx : Mem 61 w' hm gm xs) (ho : Only gm w w') : TwoM W w' hm gm hr gr xs bs :=
  ⟨hx, h.r.only ho (Ne.symm h.d.2.1) (Ne.symm h.d.1), h.d, h.b.trans (ho.below h.bd.2.1), h.bd⟩
theorem TwoM.grow {W w w' : World} {hm gm hr gr : Nat} {bs bo : List Int} (h : TwoM W w hm gm hr gr bs bo) (hb : Below w.heap.size w w') : TwoM W w' hm gm hr gr bs bo :=
  ⟨h.m.grow hb, h.r.grow hb, h.d, h.b.trans (hb.mono h.b.size), h.bd⟩
theorem TwoM.stR {W w w' : World} {hm gm hr gr : Nat} {bs bo : List Int} (h : TwoM W w hm gm hr gr bs bo) (hx : Mem 63 w' hr gr bs) (ho : Only gr w w') : Two W w' hm gm hr gr bs :=
  ⟨h.m.only ho (Ne.symm h.d.2.2) h.d.1, hx, h.d, h.b.trans (ho.below h.bd.2.2.2), h.bd⟩
/-- A row of words that came in (or was made). -/
structure Pokes (W : World) (lp : Option Addr) (len : Nat) (f : Nat → Int × Int) : Prop where
  at_ : 0 < len → ∃ b off, lp = some ⟨b, off, none⟩ ∧ b < W.heap.size ∧ ∀ i, i < len →
    W.cell? ⟨b, off + i * 2, none⟩ = some (.int .i64 (f i).1) ∧ W.cell? ⟨b, off + i * 2 + 1, none⟩ = some (.int .i64 (f i).2)
theorem Pokes.grow {W w : World} {lp : Option Addr} {len : Nat} {f : Nat → Int × Int} (h : Pokes W lp len f) (hb : Below W.heap.size W w) : Pokes w lp len f := by
  refine ⟨fun hp => ?_⟩
  obtain ⟨b, off, rfl, hlt, hc⟩ := h.at_ hp
  refine ⟨b, off, rfl, Nat.lt_of_lt_of_le hlt hb.size, fun i hi => ?_⟩
  rw [hb.cell (by exact hlt), hb.cell (by exact hlt)]; exact hc i hi
/-- One call behind another. -/
theorem below_then {A B C : World} (h1 : Below A.heap.size A B) (h2 : Below B.heap.size B C) : Below A.heap.size A C := h1.trans (h2.mono h1.size)
/-- The first k of them, as a list. -/
def pk (f : Nat → Int × Int) (k : Nat) : List (Int × Int) := (List.range k).map f
theorem pk_succ (f : Nat → Int × Int) (k : Nat) : pk f (k + 1) = pk f k ++ [((f k).1, (f k).2)] := by
  unfold pk; rw [List.range_succ, List.map_append]; rfl
/-- What Both leaves. -/
def bothL (n : Int) (f : Nat → Int × Int) (len : Nat) : List Int := poke (List.replicate (pg n * 4096) 0) (pk f len)
theorem bothL_length (n : Int) (f : Nat → Int × Int) (len : Nat) : (bothL n f len).length = pg n * 4096 := by
  unfold bothL; rw [poke_length, List.length_replicate]
structure BothAt (W : World) (bs : List Int) (hm gm hr gr : Nat) (e : Ending) (w' : World) : Prop where
  e : e = .returned (.tuple #[.pointer (some ⟨hm, 0, none⟩), .pointer (some ⟨hr, 0, none⟩)])
  t : Two W w' hm gm hr gr bs
def BothP (W : World) (bs : List Int) (e : Ending) (w' : World) : Prop := ∃ hm gm hr gr, BothAt W bs hm gm hr gr e w'
set_option maxRecDepth 100000 in
theorem both_says {W : World} (n : Int) (lp : Option Addr) (len cap : Nat) (f : Nat → Int × Int) (hA : Pokes W lp len f) (hlen : len ≤ 1000) :
    Calls Try.prog 11 #[i64 n, .slice lp len cap] W (BothP W (bothL n f len)) := by
  obtain ⟨r, hr⟩ : ∃ r, r = BothP W (bothL n f len) := ⟨_, rfl⟩
  rw [← hr]
  have hout : ∀ hm gm hr' gr w', Two W w' hm gm hr' gr (poke (List.replicate (pg n * 4096) 0) (pk f len)) → r (.returned (.tuple #[.pointer (some ⟨hm, 0, none⟩), .pointer (some ⟨hr', 0, none⟩)])) w' := by
    intro hm gm hr' gr w' h; rw [hr]; exact ⟨hm, gm, hr', gr, rfl, h⟩
  clear hr
  obtain ⟨x0, hx0⟩ : ∃ x : List Int, x = List.replicate (pg n * 4096) 0 := ⟨_, rfl⟩
  have hl4 : x0.length % 4 = 0 := by rw [hx0, List.length_replicate]; omega
  rw [← hx0] at hout
  have X0 := Lib.hid hx0; have L4 := Lib.hid hl4; clear hx0 hl4
  go_enter Try.func11, Try.ntmps11
  go_upto_region 4 with (first
    | (go_at_call 17; refine (new_says _ _).mono ?_; rintro e w2 ⟨hm, gm, hM⟩; obtain rfl := hM.e)
    | (go_at_call 18; refine (rnew_says _ _).mono ?_; rintro e w3 ⟨hr, gr, hR⟩; obtain rfl := hR.e))
  have T : Two W w3 hm gm hr gr x0 := by
    have h1 := hM.m.lt; have a1 := hM.lh; have a2 := hM.lg; have a3 := hR.lh; have a4 := hR.lg; have s := hM.b.size
    rw [X0.out]
    exact ⟨hM.m.grow hR.b, hR.m, by omega, hM.b.trans (hR.b.mono s), by omega⟩
  clear hM hR
  go_loopw [8] (fun i wr => ∃ k : Nat, k ≤ len ∧ i = .int .i64 k ∧ Two W wr hm gm hr gr (poke x0 (pk f k))) (fun i _ => len - (intOf i).toNat)
  case atStart => exact ⟨0, Nat.zero_le _, rfl, T⟩
  case round =>
    clear T
    obtain ⟨k, hk, rfl, T⟩ := hrel
    obtain ⟨bs, hbs⟩ : ∃ bs, bs = poke x0 (pk f k) := ⟨_, rfl⟩
    have hb4 : bs.length % 4 = 0 := by rw [hbs, poke_length]; exact L4.out
    have hnx := poke_snoc (pk f k) x0 (f k).1 (f k).2
    rw [← pk_succ, ← hbs] at hnx
    rw [← hbs] at T
    have HB := Lib.hid hbs; have H4 := Lib.hid hb4; clear hbs hb4
    by_cases hkl : k < len
    · obtain ⟨b, off, rfl, hb, hc⟩ := hA.at_ (by omega)
      obtain ⟨c0, c1⟩ := hc k hkl
      obtain ⟨a, v, hfk⟩ : ∃ a v, f k = (a, v) := ⟨_, _, rfl⟩
      rw [hfk] at c0 c1 hnx
      dsimp only at c0 c1 hnx
      have cs : ∀ u, Below W.heap.size W u → u.cell? ⟨b, off + k * 2, none⟩ = some (.int .i64 a) ∧ u.cell? ⟨b, off + k * 2 + 1, none⟩ = some (.int .i64 v) := fun u hu => by
        rw [hu.cell (by exact hb), hu.cell (by exact hb)]; exact ⟨c0, c1⟩
      obtain ⟨d0, d1⟩ := cs wr T.b
      clear hfk hc c0 c1
      by_cases ha : a < 0 ∨ 1048576 < a
      · rw [if_pos ha] at hnx
        have HN := Lib.hid hnx; clear hnx
        rcases ha with ha | ha
        all_goals
          go_wp2
          go_roundw
          case rel => exact ⟨k + 1, hkl, by go_num, by rw [HN.out]; exact T⟩
          case measure => simp [intOf]; omega
      · rw [if_neg ha] at hnx
        have HN := Lib.hid hnx; clear hnx
        have a0 : 0 ≤ a := by omega
        have a1 : a ≤ 1048576 := by omega
        have e4 : IntKind.i64.wrap (4 * a) = 4 * a := IntWalk.i64_in _ (by omega)
        clear ha
        go_upto_region 7 with fail
        have hD : Below wr.heap.size wr wr.drew := (Below.refl _ _).drew
        replace T := T.grow hD
        clear hD d0 d1
        refine wp_region_held_drew (S := (fun u => u.cell? ⟨b, off + k * 2, none⟩ = some (.int .i64 a) ∧ u.cell? ⟨b, off + k * 2 + 1, none⟩ = some (.int .i64 v))) (by kernel_rfl) ?_ (fun hH0 => ?_)
        · ((try dsimp only); exact cs _ T.b)
        refine wpAnyH_take (i := 0) (oi := { dst := some 33, op := Go.Op.move (Go.Operand.tmp 6), type := 24, pos := "law.go:27", after := #[], guard := none }) (v := ?_) rfl (by kernel_rfl) (by kernel_rfl) (by kernel_rfl) (fun _ _ _ h => h) (Or.inl ⟨by rfl, ?_⟩) (by assumption) ?_
        rotate_left
        · ((intro w hSw; (try dsimp only at hSw); go_simp) <;> (with_reducible rfl))
        try simp only [Act.put, List.setIfInBounds_toArray, List.set_cons_zero, List.set_cons_succ]
        refine wpAnyH_take (i := 1) (oi := { dst := some 34, op := Go.Op.move (Go.Operand.tmp 1), type := 22, pos := "law.go:27", after := #[], guard := none }) (v := ?_) rfl (by kernel_rfl) (by kernel_rfl) (by kernel_rfl) (fun _ _ _ h => h) (Or.inl ⟨by rfl, ?_⟩) (by assumption) ?_
        rotate_left
        · ((intro w hSw; (try dsimp only at hSw); go_simp) <;> (with_reducible rfl))
        try simp only [Act.put, List.setIfInBounds_toArray, List.set_cons_zero, List.set_cons_succ]
        refine wpAnyH_take (i := 2) (oi := { dst := some 35, op := Go.Op.move (Go.Operand.tmp 8), type := 3, pos := "law.go:27", after := #[], guard := none }) (v := ?_) rfl (by kernel_rfl) (by kernel_rfl) (by kernel_rfl) (fun _ _ _ h => h) (Or.inl ⟨by rfl, ?_⟩) (by assumption) ?_
        rotate_left
        · ((intro w hSw; (try dsimp only at hSw); go_simp) <;> (with_reducible rfl))
        try simp only [Act.put, List.setIfInBounds_toArray, List.set_cons_zero, List.set_cons_succ]
        refine wpAnyH_take (i := 3) (oi := { dst := some 36, op := Go.Op.indexAddr 22 (Go.Operand.tmp 34) (Go.Operand.tmp 35), type := 0, pos := "law.go:27", after := #[{ on := 1, ground := Go.Ground.data }, { on := 2, ground := Go.Ground.data }], guard := none }) (v := ?_) rfl (by kernel_rfl) (by kernel_rfl) (by kernel_rfl) (fun _ _ _ h => h) (Or.inl ⟨by rfl, ?_⟩) (by assumption) ?_
        rotate_left
        · ((intro w hSw; (try dsimp only at hSw); go_simp) <;> (with_reducible rfl))
        try simp only [Act.put, List.setIfInBounds_toArray, List.set_cons_zero, List.set_cons_succ]
        refine wpAnyH_take (i := 4) (oi := { dst := some 37, op := Go.Op.fieldAddr 35 (Go.Operand.tmp 36) 0, type := 0, pos := "law.go:27", after := #[{ on := 3, ground := Go.Ground.data }], guard := none }) (v := ?_) rfl (by kernel_rfl) (by kernel_rfl) (by kernel_rfl) (fun _ _ _ h => h) (Or.inl ⟨by rfl, ?_⟩) (by assumption) ?_
        rotate_left
        · ((intro w hSw; (try dsimp only at hSw); go_simp) <;> (with_reducible rfl))
        try simp only [Act.put, List.setIfInBounds_toArray, List.set_cons_zero, List.set_cons_succ]
        refine wpAnyH_take (i := 5) (oi := { dst := some 38, op := Go.Op.load 3 (Go.Operand.tmp 37), type := 3, pos := "law.go:27", after := #[{ on := 4, ground := Go.Ground.data }], guard := none }) (v := ?_) rfl (by kernel_rfl) (by kernel_rfl) (by kernel_rfl) (fun _ _ _ h => h) (Or.inl ⟨by rfl, ?_⟩) (by assumption) ?_
        rotate_left
        · ((intro w hSw; (try dsimp only at hSw); go_simp) <;> (with_reducible rfl))
        try simp only [Act.put, List.setIfInBounds_toArray, List.set_cons_zero, List.set_cons_succ]
        refine wpAnyH_take (i := 6) (oi := { dst := some 39, op := Go.Op.binOp Go.BinOp.mul 3 (Go.Operand.const (Go.Value.int Go.IntKind.i64 4)) (Go.Operand.tmp 38) 3, type := 3, pos := "law.go:27", after := #[{ on := 5, ground := Go.Ground.data }], guard := none }) (v := ?_) rfl (by kernel_rfl) (by kernel_rfl) (by kernel_rfl) (fun _ _ _ h => h) (Or.inl ⟨by rfl, ?_⟩) (by assumption) ?_
        rotate_left
        · ((intro w hSw; (try dsimp only at hSw); go_simp) <;> (with_reducible rfl))
        try simp only [Act.put, List.setIfInBounds_toArray, List.set_cons_zero, List.set_cons_succ]
        refine wpAnyH_take (i := 7) (oi := { dst := some 40, op := Go.Op.move (Go.Operand.tmp 1), type := 22, pos := "law.go:27", after := #[], guard := none }) (v := ?_) rfl (by kernel_rfl) (by kernel_rfl) (by kernel_rfl) (fun _ _ _ h => h) (Or.inl ⟨by rfl, ?_⟩) (by assumption) ?_
        rotate_left
        · ((intro w hSw; (try dsimp only at hSw); go_simp) <;> (with_reducible rfl))
        try simp only [Act.put, List.setIfInBounds_toArray, List.set_cons_zero, List.set_cons_succ]
        refine wpAnyH_take (i := 8) (oi := { dst := some 41, op := Go.Op.move (Go.Operand.tmp 8), type := 3, pos := "law.go:27", after := #[], guard := none }) (v := ?_) rfl (by kernel_rfl) (by kernel_rfl) (by kernel_rfl) (fun _ _ _ h => h) (Or.inl ⟨by rfl, ?_⟩) (by assumption) ?_
        rotate_left
        · ((intro w hSw; (try dsimp only at hSw); go_simp) <;> (with_reducible rfl))
        try simp only [Act.put, List.setIfInBounds_toArray, List.set_cons_zero, List.set_cons_succ]
        refine wpAnyH_take (i := 9) (oi := { dst := some 42, op := Go.Op.indexAddr 22 (Go.Operand.tmp 40) (Go.Operand.tmp 41), type := 0, pos := "law.go:27", after := #[{ on := 7, ground := Go.Ground.data }, { on := 8, ground := Go.Ground.data }], guard := none }) (v := ?_) rfl (by kernel_rfl) (by kernel_rfl) (by kernel_rfl) (fun _ _ _ h => h) (Or.inl ⟨by rfl, ?_⟩) (by assumption) ?_
        rotate_left
        · ((intro w hSw; (try dsimp only at hSw); go_simp) <;> (with_reducible rfl))
        try simp only [Act.put, List.setIfInBounds_toArray, List.set_cons_zero, List.set_cons_succ]
        refine wpAnyH_take (i := 10) (oi := { dst := some 43, op := Go.Op.fieldAddr 35 (Go.Operand.tmp 42) 1, type := 0, pos := "law.go:27", after := #[{ on := 9, ground := Go.Ground.data }], guard := none }) (v := ?_) rfl (by kernel_rfl) (by kernel_rfl) (by kernel_rfl) (fun _ _ _ h => h) (Or.inl ⟨by rfl, ?_⟩) (by assumption) ?_
        rotate_left
        · ((intro w hSw; (try dsimp only at hSw); go_simp) <;> (with_reducible rfl))
        try simp only [Act.put, List.setIfInBounds_toArray, List.set_cons_zero, List.set_cons_succ]
        refine wpAnyH_take (i := 11) (oi := { dst := some 44, op := Go.Op.load 3 (Go.Operand.tmp 43), type := 3, pos := "law.go:27", after := #[{ on := 10, ground := Go.Ground.data }], guard := none }) (v := ?_) rfl (by kernel_rfl) (by kernel_rfl) (by kernel_rfl) (fun _ _ _ h => h) (Or.inl ⟨by rfl, ?_⟩) (by assumption) ?_
        rotate_left
        · ((intro w hSw; (try dsimp only at hSw); go_simp) <;> (with_reducible rfl))
        try simp only [Act.put, List.setIfInBounds_toArray, List.set_cons_zero, List.set_cons_succ]
        refine wpAnyH_ready (rs := [12]) (by kernel_rfl) (by simp) ?_
        refine AllReadyH.cons (o := { dst := some 45, op := Go.Op.call { callee := Go.Callee.value (Go.Operand.func 16), args := #[Go.Operand.tmp 33, Go.Operand.tmp 39, Go.Operand.const (Go.Value.int Go.IntKind.i64 4), Go.Operand.tmp 44], argTypes := #[24, 3, 3, 3] }, type := 4, pos := "law.go:27", after := #[{ on := 0, ground := Go.Ground.data }, { on := 6, ground := Go.Ground.data }, { on := 11, ground := Go.Ground.data }], guard := none }) rfl (fun K hK => ?_) AllReadyH.nil
        go_simp
        (go_at_call 16; refine (store_says T.m _ _ _ (by omega)).mono ?_; rintro e t' ⟨rfl, hm3, ho3⟩; replace T := T.stM hm3 ho3)
        refine hK.out _ _ ?_ (fun hH1 => ?_)
        · ((try dsimp only); exact cs _ T.b)
        clear hK K hH0
        try simp only [Act.put, List.setIfInBounds_toArray, List.set_cons_zero, List.set_cons_succ]
        refine wpAnyH_done (by kernel_rfl) ?_ _
        go_upto_region 8 with fail
        have hD : Below t'.heap.size t' t'.drew := (Below.refl _ _).drew
        replace T := T.grow hD
        clear hD hm3 ho3
        refine wp_region_held_drew (S := (fun u => u.cell? ⟨b, off + k * 2, none⟩ = some (.int .i64 a) ∧ u.cell? ⟨b, off + k * 2 + 1, none⟩ = some (.int .i64 v))) (by kernel_rfl) ?_ (fun hH0 => ?_)
        · ((try dsimp only); exact cs _ T.b)
        refine wpAnyH_take (i := 0) (oi := { dst := some 46, op := Go.Op.move (Go.Operand.tmp 7), type := 25, pos := "law.go:28", after := #[], guard := none }) (v := ?_) rfl (by kernel_rfl) (by kernel_rfl) (by kernel_rfl) (fun _ _ _ h => h) (Or.inl ⟨by rfl, ?_⟩) (by assumption) ?_
        rotate_left
        · ((intro w hSw; (try dsimp only at hSw); go_simp) <;> (with_reducible rfl))
        try simp only [Act.put, List.setIfInBounds_toArray, List.set_cons_zero, List.set_cons_succ]
        refine wpAnyH_take (i := 1) (oi := { dst := some 47, op := Go.Op.move (Go.Operand.tmp 1), type := 22, pos := "law.go:28", after := #[], guard := none }) (v := ?_) rfl (by kernel_rfl) (by kernel_rfl) (by kernel_rfl) (fun _ _ _ h => h) (Or.inl ⟨by rfl, ?_⟩) (by assumption) ?_
        rotate_left
        · ((intro w hSw; (try dsimp only at hSw); go_simp) <;> (with_reducible rfl))
        try simp only [Act.put, List.setIfInBounds_toArray, List.set_cons_zero, List.set_cons_succ]
        refine wpAnyH_take (i := 2) (oi := { dst := some 48, op := Go.Op.move (Go.Operand.tmp 8), type := 3, pos := "law.go:28", after := #[], guard := none }) (v := ?_) rfl (by kernel_rfl) (by kernel_rfl) (by kernel_rfl) (fun _ _ _ h => h) (Or.inl ⟨by rfl, ?_⟩) (by assumption) ?_
        rotate_left
        · ((intro w hSw; (try dsimp only at hSw); go_simp) <;> (with_reducible rfl))
        try simp only [Act.put, List.setIfInBounds_toArray, List.set_cons_zero, List.set_cons_succ]
        refine wpAnyH_take (i := 3) (oi := { dst := some 49, op := Go.Op.indexAddr 22 (Go.Operand.tmp 47) (Go.Operand.tmp 48), type := 0, pos := "law.go:28", after := #[{ on := 1, ground := Go.Ground.data }, { on := 2, ground := Go.Ground.data }], guard := none }) (v := ?_) rfl (by kernel_rfl) (by kernel_rfl) (by kernel_rfl) (fun _ _ _ h => h) (Or.inl ⟨by rfl, ?_⟩) (by assumption) ?_
        rotate_left
        · ((intro w hSw; (try dsimp only at hSw); go_simp) <;> (with_reducible rfl))
        try simp only [Act.put, List.setIfInBounds_toArray, List.set_cons_zero, List.set_cons_succ]
        refine wpAnyH_take (i := 4) (oi := { dst := some 50, op := Go.Op.fieldAddr 35 (Go.Operand.tmp 49) 0, type := 0, pos := "law.go:28", after := #[{ on := 3, ground := Go.Ground.data }], guard := none }) (v := ?_) rfl (by kernel_rfl) (by kernel_rfl) (by kernel_rfl) (fun _ _ _ h => h) (Or.inl ⟨by rfl, ?_⟩) (by assumption) ?_
        rotate_left
        · ((intro w hSw; (try dsimp only at hSw); go_simp) <;> (with_reducible rfl))
        try simp only [Act.put, List.setIfInBounds_toArray, List.set_cons_zero, List.set_cons_succ]
        refine wpAnyH_take (i := 5) (oi := { dst := some 51, op := Go.Op.load 3 (Go.Operand.tmp 50), type := 3, pos := "law.go:28", after := #[{ on := 4, ground := Go.Ground.data }], guard := none }) (v := ?_) rfl (by kernel_rfl) (by kernel_rfl) (by kernel_rfl) (fun _ _ _ h => h) (Or.inl ⟨by rfl, ?_⟩) (by assumption) ?_
        rotate_left
        · ((intro w hSw; (try dsimp only at hSw); go_simp) <;> (with_reducible rfl))
        try simp only [Act.put, List.setIfInBounds_toArray, List.set_cons_zero, List.set_cons_succ]
        refine wpAnyH_take (i := 6) (oi := { dst := some 52, op := Go.Op.binOp Go.BinOp.mul 3 (Go.Operand.const (Go.Value.int Go.IntKind.i64 4)) (Go.Operand.tmp 51) 3, type := 3, pos := "law.go:28", after := #[{ on := 5, ground := Go.Ground.data }], guard := none }) (v := ?_) rfl (by kernel_rfl) (by kernel_rfl) (by kernel_rfl) (fun _ _ _ h => h) (Or.inl ⟨by rfl, ?_⟩) (by assumption) ?_
        rotate_left
        · ((intro w hSw; (try dsimp only at hSw); go_simp) <;> (with_reducible rfl))
        try simp only [Act.put, List.setIfInBounds_toArray, List.set_cons_zero, List.set_cons_succ]
        refine wpAnyH_take (i := 7) (oi := { dst := some 53, op := Go.Op.move (Go.Operand.tmp 1), type := 22, pos := "law.go:28", after := #[], guard := none }) (v := ?_) rfl (by kernel_rfl) (by kernel_rfl) (by kernel_rfl) (fun _ _ _ h => h) (Or.inl ⟨by rfl, ?_⟩) (by assumption) ?_
        rotate_left
        · ((intro w hSw; (try dsimp only at hSw); go_simp) <;> (with_reducible rfl))
        try simp only [Act.put, List.setIfInBounds_toArray, List.set_cons_zero, List.set_cons_succ]
        refine wpAnyH_take (i := 8) (oi := { dst := some 54, op := Go.Op.move (Go.Operand.tmp 8), type := 3, pos := "law.go:28", after := #[], guard := none }) (v := ?_) rfl (by kernel_rfl) (by kernel_rfl) (by kernel_rfl) (fun _ _ _ h => h) (Or.inl ⟨by rfl, ?_⟩) (by assumption) ?_
        rotate_left
        · ((intro w hSw; (try dsimp only at hSw); go_simp) <;> (with_reducible rfl))
        try simp only [Act.put, List.setIfInBounds_toArray, List.set_cons_zero, List.set_cons_succ]
        refine wpAnyH_take (i := 9) (oi := { dst := some 55, op := Go.Op.indexAddr 22 (Go.Operand.tmp 53) (Go.Operand.tmp 54), type := 0, pos := "law.go:28", after := #[{ on := 7, ground := Go.Ground.data }, { on := 8, ground := Go.Ground.data }], guard := none }) (v := ?_) rfl (by kernel_rfl) (by kernel_rfl) (by kernel_rfl) (fun _ _ _ h => h) (Or.inl ⟨by rfl, ?_⟩) (by assumption) ?_
        rotate_left
        · ((intro w hSw; (try dsimp only at hSw); go_simp) <;> (with_reducible rfl))
        try simp only [Act.put, List.setIfInBounds_toArray, List.set_cons_zero, List.set_cons_succ]
        refine wpAnyH_take (i := 10) (oi := { dst := some 56, op := Go.Op.fieldAddr 35 (Go.Operand.tmp 55) 1, type := 0, pos := "law.go:28", after := #[{ on := 9, ground := Go.Ground.data }], guard := none }) (v := ?_) rfl (by kernel_rfl) (by kernel_rfl) (by kernel_rfl) (fun _ _ _ h => h) (Or.inl ⟨by rfl, ?_⟩) (by assumption) ?_
        rotate_left
        · ((intro w hSw; (try dsimp only at hSw); go_simp) <;> (with_reducible rfl))
        try simp only [Act.put, List.setIfInBounds_toArray, List.set_cons_zero, List.set_cons_succ]
        refine wpAnyH_take (i := 11) (oi := { dst := some 57, op := Go.Op.load 3 (Go.Operand.tmp 56), type := 3, pos := "law.go:28", after := #[{ on := 10, ground := Go.Ground.data }], guard := none }) (v := ?_) rfl (by kernel_rfl) (by kernel_rfl) (by kernel_rfl) (fun _ _ _ h => h) (Or.inl ⟨by rfl, ?_⟩) (by assumption) ?_
        rotate_left
        · ((intro w hSw; (try dsimp only at hSw); go_simp) <;> (with_reducible rfl))
        try simp only [Act.put, List.setIfInBounds_toArray, List.set_cons_zero, List.set_cons_succ]
        refine wpAnyH_ready (rs := [12]) (by kernel_rfl) (by simp) ?_
        refine AllReadyH.cons (o := { dst := some 58, op := Go.Op.call { callee := Go.Callee.value (Go.Operand.func 19), args := #[Go.Operand.tmp 46, Go.Operand.tmp 52, Go.Operand.const (Go.Value.int Go.IntKind.i64 4), Go.Operand.tmp 57], argTypes := #[25, 3, 3, 3] }, type := 4, pos := "law.go:28", after := #[{ on := 0, ground := Go.Ground.data }, { on := 6, ground := Go.Ground.data }, { on := 11, ground := Go.Ground.data }], guard := none }) rfl (fun K hK => ?_) AllReadyH.nil
        go_simp
        (go_at_call 19; refine (rstore_says T.r H4.out _ _ _).mono ?_; rintro e t2 ⟨rfl, hm4, ho4⟩; replace T := T.stR hm4 ho4)
        refine hK.out _ _ ?_ (fun hH1 => ?_)
        · ((try dsimp only); exact cs _ T.b)
        clear hK K hH0
        try simp only [Act.put, List.setIfInBounds_toArray, List.set_cons_zero, List.set_cons_succ]
        refine wpAnyH_done (by kernel_rfl) ?_ _
        go_wp2
        go_roundw
        case rel => exact ⟨k + 1, hkl, by go_num, by rw [HN.out]; exact T⟩
        case measure => simp [intOf]; omega
    · have hkn : k = len := by omega
      subst hkn
      go_wp2
      exact hout _ _ _ _ _ (by rw [← HB.out]; exact T)
end Go.Proofs.Ytfodhmgbifeodaa
