/-
  Rows of bytes that came in (law PhysRows): the walk.
-/
import Derived.Test.YthagnbmoedppgaaPhysAlive
import Derived.Deep.RegionHeld3
import Derived.Deep.Cut
namespace Go.Proofs.Ythagnbmoedppgaa
open Go.ChangeShapes Go.WideShapes Go.ChangeAt Go.RowKit
/-- A slice of bytes that came in. -/
structure Arg8 (W : World) (sp : Option Addr) (len cap : Nat) (xs : List Int) : Prop where
  hlen : xs.length = len
  le : len ≤ cap
  mx : cap ≤ 9223372036854775807
  byt : Byt xs
  at_ : 0 < len → ∃ b off, sp = some ⟨b, off, none⟩ ∧ b < W.heap.size ∧ ∀ j, j < len → W.cell? ⟨b, off + j, none⟩ = some (.int .u8 (xs.getD j 0))
theorem Arg8.src {W : World} {sp : Option Addr} {len cap : Nat} {xs : List Int} (h : Arg8 W sp len cap xs) {w : World} (hb : Below W.heap.size W w) : Src8 w sp xs := by
  refine ⟨h.byt, fun hp => ?_⟩
  obtain ⟨b, off, rfl, hlt, hc⟩ := h.at_ (by rw [← h.hlen]; exact hp)
  refine ⟨_, rfl, fun j u hu => ?_⟩
  have hj : j < xs.length := by have := (List.getElem?_eq_some_iff.1 hu).1; simpa using this
  rw [Addr.add_lit, hb.cell (by exact hlt), hc j (by rw [← h.hlen]; exact hj)]
  simp [List.getElem?_eq_getElem hj] at hu
  simp [List.getElem?_eq_getElem hj, hu]
theorem splice_get {bs xs : List Int} {o f n : Nat} (hL : o + xs.length ≤ bs.length) (hf : f + n ≤ xs.length) : ((splice bs o xs).drop (o + f)).take n = (xs.drop f).take n := by
  apply List.ext_getElem?
  intro j
  unfold splice
  by_cases hj : j < n
  · rw [List.getElem?_take_of_lt hj, List.getElem?_take_of_lt hj, List.getElem?_drop, List.getElem?_drop, List.getElem?_append_right (by simp; omega), List.length_take, Nat.min_eq_left (by omega), List.getElem?_append_left (by omega)]
    congr 1; omega
  · rw [List.getElem?_eq_none (by simp; omega), List.getElem?_eq_none (by simp; omega)]
/-- Bytes, as Go's text. -/
theorem conv_src {w : World} {sp : Option Addr} {xs : List Int} (h : Src8 w sp xs) (c : Nat) : (convert 29 9 (.slice sp xs.length c)).run Try.prog w = .ok (.string (strOfNums xs)) w := by
  by_cases hz : xs.length = 0
  · obtain rfl := List.eq_nil_of_length_eq_zero hz
    cases sp with
    | none => rw [run_convert_bytes_nil w 29 5 Try.underlying29 Try.underlying5 _ _ 9 Try.underlying9]; rfl
    | some ad =>
      have hl : (loadCells ad 0).run Try.prog w = .ok (([] : List Int).map (Value.int .u8)).toArray w := by simpa using run_loadCells_list (P := Try.prog) w ad [] (by simp)
      rw [run_convert_bytes_string w 29 9 5 _ _ c Try.underlying29 Try.underlying5 Try.underlying9, List.length_nil, run_bytesToString w _ _ c [] hl]; rfl
  · obtain ⟨ad, rfl, hc⟩ := h.at_ (by omega)
    have hl : (loadCells ad xs.length).run Try.prog w = .ok (xs.map (Value.int .u8)).toArray w := by
      have := run_loadCells_list (P := Try.prog) w ad (xs.map (Value.int .u8)) hc
      simpa using this
    rw [run_convert_bytes_string w 29 9 5 _ _ c Try.underlying29 Try.underlying5 Try.underlying9, run_bytesToString w _ _ c xs hl, foldl_push_bytes]
    simp [strOfNums, ByteArray.empty, ByteArray.emptyWithCapacity]
    rfl
/-- A part of them. -/
theorem Src8.part {w : World} {sp : Option Addr} {xs : List Int} (h : Src8 w sp xs) (f n c : Nat) (hf : f + n ≤ xs.length) (hc : xs.length ≤ c) : Src8 w (if c = f then sp else Option.map (fun x => x.add f) sp) ((xs.drop f).take n) := by
  refine ⟨byt_take (byt_drop h.byt _) _, fun hp => ?_⟩
  have hn : 0 < n := by rw [List.length_take] at hp; omega
  obtain ⟨ad, rfl, hcs⟩ := h.at_ (by omega)
  refine ⟨ad.add f, by rw [if_neg (by omega)]; rfl, fun j u hu => ?_⟩
  rw [Addr.add_add]
  refine hcs (f + j) u ?_
  rw [← hu]
  have hj : j < n := by
    have h1 := (List.getElem?_eq_some_iff.1 hu).1
    rw [List.length_map, List.length_take] at h1; omega
  rw [List.getElem?_map, List.getElem?_map, List.getElem?_take_of_lt hj, List.getElem?_drop]
theorem part_len {xs : List Int} {f n : Nat} (hf : f + n ≤ xs.length) : ((xs.drop f).take n).length = n := by simp; omega
theorem getQ2 {w w' : World} {e : Ending} {xs : List Int} (h : GetP xs w e w') : ∃ p c, e = .returned (.slice p xs.length c) ∧ Own8 w.heap.size w' p xs ∧ Below w.heap.size w w' ∧ xs.length ≤ c := by
  obtain ⟨v, rfl, ⟨-, ⟨rfl, hn⟩ | ⟨g, cap, cur, rfl, hb, hg, hn, -, hs, htk⟩⟩, hgr⟩ := h
  · obtain rfl := List.eq_nil_of_length_eq_zero hn
    exact ⟨none, 0, rfl, .inl ⟨rfl, rfl⟩, (Below.refl _ _).grown hgr (Nat.le_refl _) (by simp), by simp⟩
  · exact ⟨_, cap, rfl, .inr ⟨g, cur, rfl, hb, hg, by rw [hs]; omega, by simpa using htk⟩, (Below.refl _ _).grown hgr (Nat.le_refl _) (by simp), hn⟩
theorem Own8.later {B : Nat} {w w' : World} {p : Option Addr} {xs : List Int} (h : Own8 B w p xs) (hb : Below w.heap.size w w') : Own8 B w' p xs := by
  rcases h with h | ⟨g, cur, rfl, h1, hg, h2, h3⟩
  · exact .inl h
  · exact .inr ⟨g, cur, rfl, h1, by rw [hb.block g (Array.getElem?_eq_some_iff.1 hg).1]; exact hg, h2, h3⟩
theorem wpAnyH_mono {P : Program} {md : Region.Mode} {ops : Array Oper} {Q : Exit → Act → World → Prop} {S S' : World → Prop} (hS : ∀ w, S' w → S w) :
    ∀ (fuel : Nat) (listed : Array Bool) (a : Act) (w : World), wpAnyH P md ops Q S' fuel listed a w → wpAnyH P md ops Q S fuel listed a w
  | 0, _, _, _, h => h
  | fuel + 1, _, _, _, h => ⟨h.1, fun i hi => wpOp_mono (fun a' w' h' => ⟨hS _ h'.1, wpAnyH_mono hS fuel _ a' w' h'.2⟩) (h.2 i hi)⟩
theorem pg2 : pg 2 * 4096 = 8192 := rfl
set_option maxRecDepth 20000 in
theorem rows_yes {W : World} (o f n : Nat) (sp : Option Addr) (len cap : Nat) (xs : List Int) (hA : Arg8 W sp len cap xs) (h5 : len ≤ 5000) (hfn : f + n ≤ len) (hol : o + len ≤ 8192) :
    Calls Try.prog 7 #[.int .i64 o, .slice sp len cap, .int .i64 f, .int .i64 n] W fun e w' => e = .returned (.bool true) ∧ Below W.heap.size W w' := by
  obtain ⟨x0, hx0⟩ : ∃ x : List Int, x = List.replicate (pg 2 * 4096) 0 := ⟨_, rfl⟩
  have hl0 : x0.length = 8192 := by rw [hx0, List.length_replicate]; rfl
  have hfit : fits x0.length (o : Int) len := by unfold fits; omega
  obtain ⟨x1, hx1⟩ : ∃ x : List Int, x = putL x0 o xs := ⟨_, rfl⟩
  have hx1' : x1 = splice x0 o xs := by rw [hx1]; unfold putL; rw [hA.hlen, if_pos hfit]; rfl
  have hl1 : x1.length = 8192 := by rw [hx1', length_splice _ _ _ (by rw [hA.hlen]; omega)]; exact hl0
  have g1 : getL x1 0 8192 = x1 := by
    unfold getL; rw [if_pos (by unfold fits; omega)]; exact List.take_of_length_le (by show x1.length ≤ 8192; omega)
  have X0 := Lib.hid hx0; have X1 := Lib.hid hx1; have X1' := Lib.hid hx1'; have G1 := Lib.hid g1; clear hx0 hx1 hx1' g1 hl0 hl1
  have a1 : (f : Int) ≤ len := by omega
  have a2 : (n : Int) ≤ len - f := by omega
  have a3 : (o : Int) ≤ 8192 := by omega
  have a4 : (len : Int) ≤ 8192 - o := by omega
  have a5 : (len : Int) ≤ 5000 := by omega
  go_enter Try.func7, Try.ntmps7
  go_upto_region 16 with (first
    | (go_at_call 8; refine (alive4_says _).mono ?_; rintro e w1 ⟨rfl, hB⟩)
    | (go_at_call 9; refine (new_says _ _).mono ?_; rintro e w2 ⟨h, g, ⟨rfl, hm, hh, hg, hb⟩⟩; have hg := Nat.le_trans hB.size hg; have hB := hB.trans (hb.mono hB.size); rw [← X0.out] at hm)
    | (go_at_call 18; go_loud (refine (put_says hm _ (by omega) _ _ _ (by omega) xs hA.hlen (hA.src hB)).mono ?_; intro e w3 hq; obtain ⟨rfl, hm3, ho⟩ := putQ hA.hlen hq; rw [← X1.out] at hm3; have hB := hB.trans (ho.below hg)))
    | (go_at_call 16; go_loud (refine (get_says hm3 _ _ (by omega) (by omega)).mono ?_; intro e w4 hq; rw [G1.out] at hq; obtain ⟨p, c, rfl, how, hb4, hcp⟩ := getQ2 hq; have hm4 := hm3.grow hb4; have hB := hB.trans (hb4.mono hB.size))))
  obtain ⟨N1, hN1⟩ : ∃ N, N = f + n := ⟨_, rfl⟩
  obtain ⟨N2, hN2⟩ : ∃ N, N = o + f := ⟨_, rfl⟩
  obtain ⟨N3, hN3⟩ : ∃ N, N = o + len := ⟨_, rfl⟩
  have hw1 : IntKind.i64.wrap ((f : Int) + n) = (N1 : Int) := by rw [hN1, Int.natCast_add]; exact IntWalk.i64_in _ (by omega)
  have hw2 : IntKind.i64.wrap ((o : Int) + f) = (N2 : Int) := by rw [hN2, Int.natCast_add]; exact IntWalk.i64_in _ (by omega)
  have hw3 : IntKind.i64.wrap ((o : Int) + len) = (N3 : Int) := by rw [hN3, Int.natCast_add]; exact IntWalk.i64_in _ (by omega)
  have hx1 := X1'.out
  have hl0 : x0.length = 8192 := by rw [X0.out, List.length_replicate]; rfl
  have hl1 : x1.length = 8192 := by rw [hx1, length_splice _ _ _ (by rw [hA.hlen]; omega)]; exact hl0
  have s3 : ∀ u, Below w4.heap.size w4 u → Src8 u sp xs := fun u hu => hA.src (hB.trans (hu.mono hB.size))
  have s4 : ∀ u, Below w4.heap.size w4 u → Src8 u p x1 := fun u hu => (how.later hu).src hm4.byt
  obtain ⟨pb, hpb⟩ : ∃ pb, (if cap = f then sp else Option.map (fun x => x.add f) sp) = pb := ⟨_, rfl⟩
  obtain ⟨pa, hpa⟩ : ∃ pa, (if c = o then p else Option.map (fun x => x.add o) p) = pa := ⟨_, rfl⟩
  obtain ⟨s1, hs1⟩ : ∃ s, s = strOfNums ((xs.drop f).take n) := ⟨_, rfl⟩
  obtain ⟨s2, hs2⟩ : ∃ s, s = strOfNums xs := ⟨_, rfl⟩
  have c2 : ∀ u, Below w4.heap.size w4 u → (convert 29 9 (.slice sp len cap)).run Try.prog u = .ok (.string s2) u := fun u hu => by
    have := conv_src (s3 u hu) cap; rw [hA.hlen] at this; rw [hs2]; exact this
  have c1 : ∀ u, Below w4.heap.size w4 u → (convert 29 9 (.slice pb n (cap - f))).run Try.prog u = .ok (.string s1) u := fun u hu => by
    have := conv_src ((s3 u hu).part f n cap (by rw [hA.hlen]; exact hfn) (by rw [hA.hlen]; exact hA.le)) (cap - f)
    rw [part_len (by rw [hA.hlen]; exact hfn), hpb] at this; rw [hs1]; exact this
  have c3 : ∀ u, Below w4.heap.size w4 u → (convert 29 9 (.slice pa len (c - o))).run Try.prog u = .ok (.string s2) u := fun u hu => by
    have h := conv_src ((s4 u hu).part o len c (by omega) (by omega)) (c - o)
    have e : (x1.drop o).take len = xs := by
      have := splice_get (bs := x0) (xs := xs) (o := o) (f := 0) (n := len) (by rw [hA.hlen]; omega) (by rw [hA.hlen]; omega)
      rw [← hx1, Nat.add_zero] at this
      rw [this, List.drop_zero]; exact List.take_of_length_le (by rw [hA.hlen]; exact Nat.le_refl _)
    rw [part_len (by omega), hpa, e] at h; rw [hs2]; exact h
  have e1 : getL x1 (N2 : Int) n = (xs.drop f).take n := by
    have h := getL_in x1 (o + f) n (by omega)
    rw [hN2, h.2, hx1]; exact splice_get (by rw [hA.hlen]; omega) (by rw [hA.hlen]; exact hfn)
  have q1 : f ≤ N1 := by omega
  have q2 : N1 ≤ cap := by have := hA.le; omega
  have q3 : N1 - f = n := by omega
  have q4 : o ≤ N3 := by omega
  have q5 : N3 ≤ c := by omega
  have q6 : N3 - o = len := by omega
  have q7 : N2 ≤ 13192 := by omega
  have hE1 := Lib.hid e1; have HS1 := Lib.hid hs1
  have HFN : Hid (((xs.drop f).take n).length = n) := part_len (by rw [hA.hlen]; exact hfn)
  clear how hb4 hm hm3 ho hg hh hb s3 s4 hx1 hl0 hl1 hs1 hs2 e1 hfit hcp a1 a2 a3 a4 a5 hN1 hN2 hN3
  have hK : Below w4.heap.size w4 w4.drew := (Below.refl _ _).drew
  refine wp_region_held_drew (S := (fun u => Below w4.heap.size w4 u)) (by kernel_rfl) ?_ (fun hH0 => ?_)
  · ((try dsimp only); first | exact hK | exact ‹Below w4.heap.size w4 _›.trans (‹Below (World.heap _).size _ _›.mono (‹Below w4.heap.size w4 _›).size))
  refine wpAnyH_take (i := 0) (oi := { dst := some 83, op := Go.Op.move (Go.Operand.tmp 10), type := 24, pos := "rows.go:27", after := #[], guard := none }) (v := ?_) rfl (by kernel_rfl) (by kernel_rfl) (by kernel_rfl) (fun _ _ _ h => h) (Or.inl ⟨by rfl, ?_⟩) (by assumption) ?_
  rotate_left
  · ((intro w hSw; (try dsimp only at hSw); go_simp) <;> (with_reducible rfl))
  try simp only [Act.put, List.setIfInBounds_toArray, List.set_cons_zero, List.set_cons_succ]
  refine wpAnyH_take (i := 1) (oi := { dst := some 84, op := Go.Op.move (Go.Operand.tmp 0), type := 3, pos := "rows.go:27", after := #[], guard := none }) (v := ?_) rfl (by kernel_rfl) (by kernel_rfl) (by kernel_rfl) (fun _ _ _ h => h) (Or.inl ⟨by rfl, ?_⟩) (by assumption) ?_
  rotate_left
  · ((intro w hSw; (try dsimp only at hSw); go_simp) <;> (with_reducible rfl))
  try simp only [Act.put, List.setIfInBounds_toArray, List.set_cons_zero, List.set_cons_succ]
  refine wpAnyH_take (i := 2) (oi := { dst := some 85, op := Go.Op.move (Go.Operand.tmp 2), type := 3, pos := "rows.go:27", after := #[], guard := none }) (v := ?_) rfl (by kernel_rfl) (by kernel_rfl) (by kernel_rfl) (fun _ _ _ h => h) (Or.inl ⟨by rfl, ?_⟩) (by assumption) ?_
  rotate_left
  · ((intro w hSw; (try dsimp only at hSw); go_simp) <;> (with_reducible rfl))
  try simp only [Act.put, List.setIfInBounds_toArray, List.set_cons_zero, List.set_cons_succ]
  refine wpAnyH_take (i := 3) (oi := { dst := some 86, op := Go.Op.binOp Go.BinOp.add 3 (Go.Operand.tmp 84) (Go.Operand.tmp 85) 3, type := 3, pos := "rows.go:27", after := #[{ on := 1, ground := Go.Ground.data }, { on := 2, ground := Go.Ground.data }], guard := none }) (v := ?_) rfl (by kernel_rfl) (by kernel_rfl) (by kernel_rfl) (fun _ _ _ h => h) (Or.inl ⟨by rfl, ?_⟩) (by assumption) ?_
  rotate_left
  · ((intro w hSw; (try dsimp only at hSw); go_simp) <;> (with_reducible rfl))
  try simp only [Act.put, List.setIfInBounds_toArray, List.set_cons_zero, List.set_cons_succ]
  refine wpAnyH_take (i := 4) (oi := { dst := some 87, op := Go.Op.move (Go.Operand.tmp 3), type := 3, pos := "rows.go:27", after := #[], guard := none }) (v := ?_) rfl (by kernel_rfl) (by kernel_rfl) (by kernel_rfl) (fun _ _ _ h => h) (Or.inl ⟨by rfl, ?_⟩) (by assumption) ?_
  rotate_left
  · ((intro w hSw; (try dsimp only at hSw); go_simp) <;> (with_reducible rfl))
  try simp only [Act.put, List.setIfInBounds_toArray, List.set_cons_zero, List.set_cons_succ]
  refine wpAnyH_take (i := 7) (oi := { dst := some 90, op := Go.Op.move (Go.Operand.tmp 1), type := 29, pos := "rows.go:27", after := #[], guard := none }) (v := ?_) rfl (by kernel_rfl) (by kernel_rfl) (by kernel_rfl) (fun _ _ _ h => h) (Or.inl ⟨by rfl, ?_⟩) (by assumption) ?_
  rotate_left
  · ((intro w hSw; (try dsimp only at hSw); go_simp) <;> (with_reducible rfl))
  try simp only [Act.put, List.setIfInBounds_toArray, List.set_cons_zero, List.set_cons_succ]
  refine wpAnyH_take (i := 8) (oi := { dst := some 91, op := Go.Op.move (Go.Operand.tmp 2), type := 3, pos := "rows.go:27", after := #[], guard := none }) (v := ?_) rfl (by kernel_rfl) (by kernel_rfl) (by kernel_rfl) (fun _ _ _ h => h) (Or.inl ⟨by rfl, ?_⟩) (by assumption) ?_
  rotate_left
  · ((intro w hSw; (try dsimp only at hSw); go_simp) <;> (with_reducible rfl))
  try simp only [Act.put, List.setIfInBounds_toArray, List.set_cons_zero, List.set_cons_succ]
  refine wpAnyH_take (i := 9) (oi := { dst := some 92, op := Go.Op.move (Go.Operand.tmp 2), type := 3, pos := "rows.go:27", after := #[], guard := none }) (v := ?_) rfl (by kernel_rfl) (by kernel_rfl) (by kernel_rfl) (fun _ _ _ h => h) (Or.inl ⟨by rfl, ?_⟩) (by assumption) ?_
  rotate_left
  · ((intro w hSw; (try dsimp only at hSw); go_simp) <;> (with_reducible rfl))
  try simp only [Act.put, List.setIfInBounds_toArray, List.set_cons_zero, List.set_cons_succ]
  refine wpAnyH_take (i := 10) (oi := { dst := some 93, op := Go.Op.move (Go.Operand.tmp 3), type := 3, pos := "rows.go:27", after := #[], guard := none }) (v := ?_) rfl (by kernel_rfl) (by kernel_rfl) (by kernel_rfl) (fun _ _ _ h => h) (Or.inl ⟨by rfl, ?_⟩) (by assumption) ?_
  rotate_left
  · ((intro w hSw; (try dsimp only at hSw); go_simp) <;> (with_reducible rfl))
  try simp only [Act.put, List.setIfInBounds_toArray, List.set_cons_zero, List.set_cons_succ]
  refine wpAnyH_take (i := 11) (oi := { dst := some 94, op := Go.Op.binOp Go.BinOp.add 3 (Go.Operand.tmp 92) (Go.Operand.tmp 93) 3, type := 3, pos := "rows.go:27", after := #[{ on := 9, ground := Go.Ground.data }, { on := 10, ground := Go.Ground.data }], guard := none }) (v := ?_) rfl (by kernel_rfl) (by kernel_rfl) (by kernel_rfl) (fun _ _ _ h => h) (Or.inl ⟨by rfl, ?_⟩) (by assumption) ?_
  rotate_left
  · ((intro w hSw; (try dsimp only at hSw); go_simp) <;> (with_reducible rfl))
  try simp only [Act.put, List.setIfInBounds_toArray, List.set_cons_zero, List.set_cons_succ]
  refine wpAnyH_take (i := 12) (oi := { dst := some 95, op := Go.Op.slice 29 (Go.Operand.tmp 90) (some (Go.Operand.tmp 91)) (some (Go.Operand.tmp 94)) none, type := 29, pos := "rows.go:27", after := #[{ on := 7, ground := Go.Ground.data }, { on := 8, ground := Go.Ground.data }, { on := 11, ground := Go.Ground.data }], guard := none }) (v := ?_) rfl (by kernel_rfl) (by kernel_rfl) (by kernel_rfl) (fun _ _ _ h => h) (Or.inl ⟨by rfl, ?_⟩) (by assumption) ?_
  rotate_left
  · ((intro w hSw; (try dsimp only at hSw); go_simp) <;> (with_reducible rfl))
  try simp only [Act.put, List.setIfInBounds_toArray, List.set_cons_zero, List.set_cons_succ]
  refine wpAnyH_take (i := 13) (oi := { dst := some 96, op := Go.Op.convert 29 9 (Go.Operand.tmp 95), type := 9, pos := "rows.go:27", after := #[{ on := 12, ground := Go.Ground.data }], guard := none }) (v := ?_) rfl (by kernel_rfl) (by kernel_rfl) (by kernel_rfl) (fun _ _ _ h => h) (Or.inl ⟨by rfl, ?_⟩) (by assumption) ?_
  rotate_left
  · ((intro w hSw; (try dsimp only at hSw); go_simp) <;> (with_reducible rfl))
  try simp only [Act.put, List.setIfInBounds_toArray, List.set_cons_zero, List.set_cons_succ]
  refine wpAnyH_ready (rs := [5]) (by kernel_rfl) (by simp) ?_
  refine AllReadyH.cons (o := { dst := some 88, op := Go.Op.call { callee := Go.Callee.value (Go.Operand.func 16), args := #[Go.Operand.tmp 83, Go.Operand.tmp 86, Go.Operand.tmp 87], argTypes := #[24, 3, 3] }, type := 29, pos := "rows.go:27", after := #[{ on := 0, ground := Go.Ground.data }, { on := 3, ground := Go.Ground.data }, { on := 4, ground := Go.Ground.data }], guard := none }) rfl (fun K hK => ?_) AllReadyH.nil
  go_simp
  (go_at_call 16; go_loud (refine (get_says (hm4.grow (by assumption)) _ _ (by omega) (by omega)).mono ?_; intro e t' hq; rw [hE1.out] at hq; obtain ⟨p5, c5, rfl, how5, ht'⟩ := getQ hq; rw [HFN.out]))
  refine hK.out _ _ ?_ (fun hH1 => ?_)
  · ((try dsimp only); first | exact hK | exact ‹Below w4.heap.size w4 _›.trans (‹Below (World.heap _).size _ _›.mono (‹Below w4.heap.size w4 _›).size))
  clear hK K hH0
  try simp only [Act.put, List.setIfInBounds_toArray, List.set_cons_zero, List.set_cons_succ]
  refine wpAnyH_mono (S' := fun u => u = t') (fun u hu => by rw [hu]; exact hH1) _ _ _ _ ?_; have hT : (fun u => u = t') t' := rfl; have hBt : Below w4.heap.size w4 t' := hH1; have c89 : (convert 29 9 (.slice p5 n c5)).run Try.prog t' = .ok (.string s1) t' := (by have h := conv_src (how5.src (byt_take (byt_drop hA.byt _) _)) c5; rw [HFN.out] at h; rw [HS1.out]; exact h)
  refine wpAnyH_take (i := 6) (oi := { dst := some 89, op := Go.Op.convert 29 9 (Go.Operand.tmp 88), type := 9, pos := "rows.go:27", after := #[{ on := 5, ground := Go.Ground.data }], guard := none }) (v := ?_) rfl (by kernel_rfl) (by kernel_rfl) (by kernel_rfl) (fun _ _ _ h => h) (Or.inl ⟨by rfl, ?_⟩) (by assumption) ?_
  rotate_left
  · ((intro w hSw; (try dsimp only at hSw); go_simp) <;> (with_reducible rfl))
  try simp only [Act.put, List.setIfInBounds_toArray, List.set_cons_zero, List.set_cons_succ]
  refine wpAnyH_take (i := 14) (oi := { dst := some 97, op := Go.Op.binOp Go.BinOp.eql 9 (Go.Operand.tmp 89) (Go.Operand.tmp 96) 9, type := 4, pos := "rows.go:27", after := #[{ on := 6, ground := Go.Ground.data }, { on := 13, ground := Go.Ground.data }], guard := none }) (v := ?_) rfl (by kernel_rfl) (by kernel_rfl) (by kernel_rfl) (fun _ _ _ h => h) (Or.inl ⟨by rfl, ?_⟩) (by assumption) ?_
  rotate_left
  · ((intro w hSw; (try dsimp only at hSw); go_simp) <;> (with_reducible rfl))
  try simp only [Act.put, List.setIfInBounds_toArray, List.set_cons_zero, List.set_cons_succ]
  refine wpAnyH_take (i := 15) (oi := { dst := some 98, op := Go.Op.move (Go.Operand.tmp 97), type := 4, pos := "rows.go:27", after := #[{ on := 14, ground := Go.Ground.data }, { on := 5, ground := Go.Ground.chain }], guard := none }) (v := ?_) rfl (by kernel_rfl) (by kernel_rfl) (by kernel_rfl) (fun _ _ _ h => h) (Or.inl ⟨by rfl, ?_⟩) (by assumption) ?_
  rotate_left
  · ((intro w hSw; (try dsimp only at hSw); go_simp) <;> (with_reducible rfl))
  try simp only [Act.put, List.setIfInBounds_toArray, List.set_cons_zero, List.set_cons_succ]
  refine wpAnyH_take (i := 16) (oi := { dst := some 99, op := Go.Op.move (Go.Operand.tmp 12), type := 29, pos := "rows.go:27", after := #[{ on := 15, ground := Go.Ground.guard }], guard := some (15, true) }) (v := ?_) rfl (by kernel_rfl) (by kernel_rfl) (by kernel_rfl) (fun _ _ _ h => h) (Or.inl ⟨by rfl, ?_⟩) (by assumption) ?_
  rotate_left
  · ((intro w hSw; (try dsimp only at hSw); go_simp) <;> (with_reducible rfl))
  try simp only [Act.put, List.setIfInBounds_toArray, List.set_cons_zero, List.set_cons_succ]
  refine wpAnyH_take (i := 17) (oi := { dst := some 100, op := Go.Op.move (Go.Operand.tmp 0), type := 3, pos := "rows.go:27", after := #[{ on := 15, ground := Go.Ground.guard }], guard := some (15, true) }) (v := ?_) rfl (by kernel_rfl) (by kernel_rfl) (by kernel_rfl) (fun _ _ _ h => h) (Or.inl ⟨by rfl, ?_⟩) (by assumption) ?_
  rotate_left
  · ((intro w hSw; (try dsimp only at hSw); go_simp) <;> (with_reducible rfl))
  try simp only [Act.put, List.setIfInBounds_toArray, List.set_cons_zero, List.set_cons_succ]
  refine wpAnyH_take (i := 18) (oi := { dst := some 101, op := Go.Op.move (Go.Operand.tmp 0), type := 3, pos := "rows.go:27", after := #[{ on := 15, ground := Go.Ground.guard }], guard := some (15, true) }) (v := ?_) rfl (by kernel_rfl) (by kernel_rfl) (by kernel_rfl) (fun _ _ _ h => h) (Or.inl ⟨by rfl, ?_⟩) (by assumption) ?_
  rotate_left
  · ((intro w hSw; (try dsimp only at hSw); go_simp) <;> (with_reducible rfl))
  try simp only [Act.put, List.setIfInBounds_toArray, List.set_cons_zero, List.set_cons_succ]
  refine wpAnyH_take (i := 19) (oi := { dst := some 102, op := Go.Op.move (Go.Operand.tmp 1), type := 29, pos := "rows.go:27", after := #[{ on := 15, ground := Go.Ground.guard }], guard := some (15, true) }) (v := ?_) rfl (by kernel_rfl) (by kernel_rfl) (by kernel_rfl) (fun _ _ _ h => h) (Or.inl ⟨by rfl, ?_⟩) (by assumption) ?_
  rotate_left
  · ((intro w hSw; (try dsimp only at hSw); go_simp) <;> (with_reducible rfl))
  try simp only [Act.put, List.setIfInBounds_toArray, List.set_cons_zero, List.set_cons_succ]
  refine wpAnyH_take (i := 20) (oi := { dst := some 103, op := Go.Op.call { callee := Go.Callee.builtin Go.Builtin.len, args := #[Go.Operand.tmp 102], argTypes := #[29] }, type := 3, pos := "rows.go:27", after := #[{ on := 19, ground := Go.Ground.data }, { on := 15, ground := Go.Ground.guard }], guard := some (15, true) }) (v := ?_) rfl (by kernel_rfl) (by kernel_rfl) (by kernel_rfl) (fun _ _ _ h => h) (Or.inl ⟨by rfl, ?_⟩) (by assumption) ?_
  rotate_left
  · ((intro w hSw; (try dsimp only at hSw); go_simp) <;> (with_reducible rfl))
  try simp only [Act.put, List.setIfInBounds_toArray, List.set_cons_zero, List.set_cons_succ]
  refine wpAnyH_take (i := 21) (oi := { dst := some 104, op := Go.Op.binOp Go.BinOp.add 3 (Go.Operand.tmp 101) (Go.Operand.tmp 103) 3, type := 3, pos := "rows.go:27", after := #[{ on := 18, ground := Go.Ground.data }, { on := 20, ground := Go.Ground.data }, { on := 15, ground := Go.Ground.guard }], guard := some (15, true) }) (v := ?_) rfl (by kernel_rfl) (by kernel_rfl) (by kernel_rfl) (fun _ _ _ h => h) (Or.inl ⟨by rfl, ?_⟩) (by assumption) ?_
  rotate_left
  · ((intro w hSw; (try dsimp only at hSw); go_simp) <;> (with_reducible rfl))
  try simp only [Act.put, List.setIfInBounds_toArray, List.set_cons_zero, List.set_cons_succ]
  refine wpAnyH_take (i := 22) (oi := { dst := some 105, op := Go.Op.slice 29 (Go.Operand.tmp 99) (some (Go.Operand.tmp 100)) (some (Go.Operand.tmp 104)) none, type := 29, pos := "rows.go:27", after := #[{ on := 16, ground := Go.Ground.data }, { on := 17, ground := Go.Ground.data }, { on := 21, ground := Go.Ground.data }, { on := 15, ground := Go.Ground.guard }], guard := some (15, true) }) (v := ?_) rfl (by kernel_rfl) (by kernel_rfl) (by kernel_rfl) (fun _ _ _ h => h) (Or.inl ⟨by rfl, ?_⟩) (by assumption) ?_
  rotate_left
  · ((intro w hSw; (try dsimp only at hSw); go_simp) <;> (with_reducible rfl))
  try simp only [Act.put, List.setIfInBounds_toArray, List.set_cons_zero, List.set_cons_succ]
  refine wpAnyH_take (i := 23) (oi := { dst := some 106, op := Go.Op.convert 29 9 (Go.Operand.tmp 105), type := 9, pos := "rows.go:27", after := #[{ on := 22, ground := Go.Ground.data }, { on := 15, ground := Go.Ground.guard }], guard := some (15, true) }) (v := ?_) rfl (by kernel_rfl) (by kernel_rfl) (by kernel_rfl) (fun _ _ _ h => h) (Or.inl ⟨by rfl, ?_⟩) (by assumption) ?_
  rotate_left
  · ((intro w hSw; (try dsimp only at hSw); go_simp) <;> (with_reducible rfl))
  try simp only [Act.put, List.setIfInBounds_toArray, List.set_cons_zero, List.set_cons_succ]
  refine wpAnyH_take (i := 24) (oi := { dst := some 107, op := Go.Op.move (Go.Operand.tmp 1), type := 29, pos := "rows.go:27", after := #[{ on := 15, ground := Go.Ground.guard }], guard := some (15, true) }) (v := ?_) rfl (by kernel_rfl) (by kernel_rfl) (by kernel_rfl) (fun _ _ _ h => h) (Or.inl ⟨by rfl, ?_⟩) (by assumption) ?_
  rotate_left
  · ((intro w hSw; (try dsimp only at hSw); go_simp) <;> (with_reducible rfl))
  try simp only [Act.put, List.setIfInBounds_toArray, List.set_cons_zero, List.set_cons_succ]
  refine wpAnyH_take (i := 25) (oi := { dst := some 108, op := Go.Op.convert 29 9 (Go.Operand.tmp 107), type := 9, pos := "rows.go:27", after := #[{ on := 24, ground := Go.Ground.data }, { on := 15, ground := Go.Ground.guard }], guard := some (15, true) }) (v := ?_) rfl (by kernel_rfl) (by kernel_rfl) (by kernel_rfl) (fun _ _ _ h => h) (Or.inl ⟨by rfl, ?_⟩) (by assumption) ?_
  rotate_left
  · ((intro w hSw; (try dsimp only at hSw); go_simp) <;> (with_reducible rfl))
  try simp only [Act.put, List.setIfInBounds_toArray, List.set_cons_zero, List.set_cons_succ]
  refine wpAnyH_take (i := 26) (oi := { dst := some 109, op := Go.Op.binOp Go.BinOp.eql 9 (Go.Operand.tmp 106) (Go.Operand.tmp 108) 9, type := 4, pos := "rows.go:27", after := #[{ on := 23, ground := Go.Ground.data }, { on := 25, ground := Go.Ground.data }, { on := 15, ground := Go.Ground.guard }], guard := some (15, true) }) (v := ?_) rfl (by kernel_rfl) (by kernel_rfl) (by kernel_rfl) (fun _ _ _ h => h) (Or.inl ⟨by rfl, ?_⟩) (by assumption) ?_
  rotate_left
  · ((intro w hSw; (try dsimp only at hSw); go_simp) <;> (with_reducible rfl))
  try simp only [Act.put, List.setIfInBounds_toArray, List.set_cons_zero, List.set_cons_succ]
  refine wpAnyH_take (i := 27) (oi := { dst := some 110, op := Go.Op.pick (Go.Operand.tmp 98) (Go.Operand.tmp 109) (Go.Operand.const (Go.Value.bool false)), type := 4, pos := "rows.go:27", after := #[{ on := 15, ground := Go.Ground.data }, { on := 26, ground := Go.Ground.data }], guard := none }) (v := ?_) rfl (by kernel_rfl) (by kernel_rfl) (by kernel_rfl) (fun _ _ _ h => h) (Or.inl ⟨by rfl, ?_⟩) (by assumption) ?_
  rotate_left
  · ((intro w hSw; (try dsimp only at hSw); go_simp) <;> (with_reducible rfl))
  try simp only [Act.put, List.setIfInBounds_toArray, List.set_cons_zero, List.set_cons_succ]
  refine wpAnyH_take (i := 28) (oi := { dst := some 8, op := Go.Op.assign (Go.Operand.tmp 110), type := 4, pos := "rows.go:27", after := #[{ on := 27, ground := Go.Ground.data }, { on := 15, ground := Go.Ground.chain }, { on := 0, ground := Go.Ground.phase }, { on := 1, ground := Go.Ground.phase }, { on := 2, ground := Go.Ground.phase }, { on := 3, ground := Go.Ground.phase }, { on := 4, ground := Go.Ground.phase }, { on := 5, ground := Go.Ground.phase }, { on := 6, ground := Go.Ground.phase }, { on := 7, ground := Go.Ground.phase }, { on := 8, ground := Go.Ground.phase }, { on := 9, ground := Go.Ground.phase }, { on := 10, ground := Go.Ground.phase }, { on := 11, ground := Go.Ground.phase }, { on := 12, ground := Go.Ground.phase }, { on := 13, ground := Go.Ground.phase }, { on := 14, ground := Go.Ground.phase }, { on := 15, ground := Go.Ground.phase }, { on := 16, ground := Go.Ground.phase }, { on := 17, ground := Go.Ground.phase }, { on := 18, ground := Go.Ground.phase }, { on := 19, ground := Go.Ground.phase }, { on := 20, ground := Go.Ground.phase }, { on := 21, ground := Go.Ground.phase }, { on := 22, ground := Go.Ground.phase }, { on := 23, ground := Go.Ground.phase }, { on := 24, ground := Go.Ground.phase }, { on := 25, ground := Go.Ground.phase }, { on := 26, ground := Go.Ground.phase }, { on := 27, ground := Go.Ground.phase }], guard := none }) (v := ?_) rfl (by kernel_rfl) (by kernel_rfl) (by kernel_rfl) (fun _ _ _ h => h) (Or.inl ⟨by rfl, ?_⟩) (by assumption) ?_
  rotate_left
  · ((intro w hSw; (try dsimp only at hSw); go_simp) <;> (with_reducible rfl))
  try simp only [Act.put, List.setIfInBounds_toArray, List.set_cons_zero, List.set_cons_succ]
  refine wpAnyH_done (by kernel_rfl) ?_ _
  go_wp2_with fail
  go_ret
  exact ⟨ret_bool (by simp), hB.trans (hBt.mono hB.size)⟩
set_option maxRecDepth 20000 in
set_option maxHeartbeats 400000 in
theorem rows_no1 {W : World} (a0 : Int) (f n : Nat) (sp : Option Addr) (len cap : Nat) (xs : List Int) (hA : Arg8 W sp len cap xs) (h5 : len ≤ 5000) (hfn : f + n ≤ len) (ha : -9223372036854775808 ≤ a0 ∧ a0 ≤ 9223372036854775807) (hc : a0 < 0) :
    Calls Try.prog 7 #[.int .i64 a0, .slice sp len cap, .int .i64 f, .int .i64 n] W fun e w' => e = .returned (.bool true) ∧ Below W.heap.size W w' := by
  obtain ⟨x0, hx0⟩ : ∃ x : List Int, x = List.replicate (pg 2 * 4096) 0 := ⟨_, rfl⟩
  have hl0 : x0.length = 8192 := by rw [hx0, List.length_replicate]; rfl
  have hfit : ¬ fits x0.length a0 len := by unfold fits; omega
  have hx1 : putL x0 a0 xs = x0 := by unfold putL; rw [hA.hlen, if_neg hfit]
  have g1 : getL x0 0 8192 = x0 := by
    unfold getL; rw [if_pos (by unfold fits; omega)]; exact List.take_of_length_le (by show x0.length ≤ 8192; omega)
  have z0 : ∀ k, x0.getD k 0 = 0 := fun k => by
    rw [hx0, List.getD_eq_getElem?_getD, List.getElem?_replicate]; split <;> rfl
  have X0 := Lib.hid hx0; have X1 := Lib.hid hx1; have G1 := Lib.hid g1; have L0 := Lib.hid hl0; have Z0 := Lib.hid z0; clear hx0 hx1 g1 hl0 z0
  have b1 : (f : Int) ≤ len := by omega
  have b2 : (n : Int) ≤ len - f := by omega
  have b5 : (len : Int) ≤ 5000 := by omega
  go_enter Try.func7, Try.ntmps7
  go_wp2_with (first
    | (go_at_call 8; refine (alive4_says _).mono ?_; rintro e w1 ⟨rfl, hB⟩)
    | (go_at_call 9; refine (new_says _ _).mono ?_; rintro e w2 ⟨h, g, ⟨rfl, hm, hh, hg, hb⟩⟩; have hg := Nat.le_trans hB.size hg; have hB := hB.trans (hb.mono hB.size); rw [← X0.out] at hm)
    | (go_at_call 18; refine (put_says hm _ (by omega) _ _ _ (by omega) xs hA.hlen (hA.src hB)).mono ?_; intro e w3 hq; obtain ⟨rfl, hm3, ho⟩ := putQ hA.hlen hq; rw [X1.out] at hm3; have hB := hB.trans (ho.below hg))
    | (go_at_call 16; refine (get_says hm3 _ _ (by omega) (by omega)).mono ?_; intro e w4 hq; rw [G1.out] at hq; obtain ⟨p, c, rfl, how, hb4, hcp⟩ := getQ2 hq; have hB := hB.trans (hb4.mono hB.size)))
  obtain ⟨g', rfl, hcell⟩ : ∃ g', p = some ⟨g', 0, none⟩ ∧ ∀ k, k < x0.length → w4.cell? ⟨g', k, none⟩ = some (.int .u8 0) := by
    rcases how with ⟨-, h0⟩ | ⟨g', cur, rfl, -, hg', hle, htk⟩
    · have := L0.out; rw [h0] at this; simp at this
    · refine ⟨g', rfl, fun k hk => ?_⟩
      rw [cell_of_row w4 g' k _ _ _ hg']
      have h1 : (cur.toList.take x0.length)[k]? = (u8L x0)[k]? := by rw [htk]
      rw [List.getElem?_take_of_lt hk] at h1
      have h2 := Z0.out k
      rw [List.getD_eq_getElem?_getD] at h2
      simp [List.getElem?_eq_getElem hk] at h1 h2
      simp [h1, h2]
  have hle : x0.length ≤ 8192 := by rw [L0.out]; exact Nat.le_refl _
  have HB := Lib.hid hB; clear hB hb4 how hm hm3 ho hg hh hb hq hcp hfit
  go_loop [13] (fun i => ∃ k : Nat, k ≤ x0.length ∧ i = .int .i64 k) (fun i => x0.length - (intOf i).toNat)
  case atStart => exact ⟨0, Nat.zero_le _, rfl⟩
  case round =>
    obtain ⟨k, hk, rfl⟩ := hrel
    have hck := hcell k
    clear hcell
    go_wp2
    · go_round
      case rel => exact ⟨k + 1, by omega, by go_num⟩
      case measure => simp [intOf]; omega
    · go_ret
      exact ⟨ret_bool (by have := L0.out; simp [this]), HB.out⟩
set_option maxRecDepth 20000 in
set_option maxHeartbeats 400000 in
theorem rows_no2 {W : World} (a0 : Int) (f n : Nat) (sp : Option Addr) (len cap : Nat) (xs : List Int) (hA : Arg8 W sp len cap xs) (h5 : len ≤ 5000) (hfn : f + n ≤ len) (ha : -9223372036854775808 ≤ a0 ∧ a0 ≤ 9223372036854775807) (hc0 : 0 ≤ a0) (hc : 8192 < a0) :
    Calls Try.prog 7 #[.int .i64 a0, .slice sp len cap, .int .i64 f, .int .i64 n] W fun e w' => e = .returned (.bool true) ∧ Below W.heap.size W w' := by
  obtain ⟨x0, hx0⟩ : ∃ x : List Int, x = List.replicate (pg 2 * 4096) 0 := ⟨_, rfl⟩
  have hl0 : x0.length = 8192 := by rw [hx0, List.length_replicate]; rfl
  have hfit : ¬ fits x0.length a0 len := by unfold fits; omega
  have hx1 : putL x0 a0 xs = x0 := by unfold putL; rw [hA.hlen, if_neg hfit]
  have g1 : getL x0 0 8192 = x0 := by
    unfold getL; rw [if_pos (by unfold fits; omega)]; exact List.take_of_length_le (by show x0.length ≤ 8192; omega)
  have z0 : ∀ k, x0.getD k 0 = 0 := fun k => by
    rw [hx0, List.getD_eq_getElem?_getD, List.getElem?_replicate]; split <;> rfl
  have X0 := Lib.hid hx0; have X1 := Lib.hid hx1; have G1 := Lib.hid g1; have L0 := Lib.hid hl0; have Z0 := Lib.hid z0; clear hx0 hx1 g1 hl0 z0
  have b1 : (f : Int) ≤ len := by omega
  have b2 : (n : Int) ≤ len - f := by omega
  have b5 : (len : Int) ≤ 5000 := by omega
  go_enter Try.func7, Try.ntmps7
  go_wp2_with (first
    | (go_at_call 8; refine (alive4_says _).mono ?_; rintro e w1 ⟨rfl, hB⟩)
    | (go_at_call 9; refine (new_says _ _).mono ?_; rintro e w2 ⟨h, g, ⟨rfl, hm, hh, hg, hb⟩⟩; have hg := Nat.le_trans hB.size hg; have hB := hB.trans (hb.mono hB.size); rw [← X0.out] at hm)
    | (go_at_call 18; refine (put_says hm _ (by omega) _ _ _ (by omega) xs hA.hlen (hA.src hB)).mono ?_; intro e w3 hq; obtain ⟨rfl, hm3, ho⟩ := putQ hA.hlen hq; rw [X1.out] at hm3; have hB := hB.trans (ho.below hg))
    | (go_at_call 16; refine (get_says hm3 _ _ (by omega) (by omega)).mono ?_; intro e w4 hq; rw [G1.out] at hq; obtain ⟨p, c, rfl, how, hb4, hcp⟩ := getQ2 hq; have hB := hB.trans (hb4.mono hB.size)))
  obtain ⟨g', rfl, hcell⟩ : ∃ g', p = some ⟨g', 0, none⟩ ∧ ∀ k, k < x0.length → w4.cell? ⟨g', k, none⟩ = some (.int .u8 0) := by
    rcases how with ⟨-, h0⟩ | ⟨g', cur, rfl, -, hg', hle, htk⟩
    · have := L0.out; rw [h0] at this; simp at this
    · refine ⟨g', rfl, fun k hk => ?_⟩
      rw [cell_of_row w4 g' k _ _ _ hg']
      have h1 : (cur.toList.take x0.length)[k]? = (u8L x0)[k]? := by rw [htk]
      rw [List.getElem?_take_of_lt hk] at h1
      have h2 := Z0.out k
      rw [List.getD_eq_getElem?_getD] at h2
      simp [List.getElem?_eq_getElem hk] at h1 h2
      simp [h1, h2]
  have hle : x0.length ≤ 8192 := by rw [L0.out]; exact Nat.le_refl _
  have HB := Lib.hid hB; clear hB hb4 how hm hm3 ho hg hh hb hq hcp hfit
  go_loop [13] (fun i => ∃ k : Nat, k ≤ x0.length ∧ i = .int .i64 k) (fun i => x0.length - (intOf i).toNat)
  case atStart => exact ⟨0, Nat.zero_le _, rfl⟩
  case round =>
    obtain ⟨k, hk, rfl⟩ := hrel
    have hck := hcell k
    clear hcell
    go_wp2
    · go_round
      case rel => exact ⟨k + 1, by omega, by go_num⟩
      case measure => simp [intOf]; omega
    · go_ret
      exact ⟨ret_bool (by have := L0.out; simp [this]), HB.out⟩
set_option maxRecDepth 20000 in
set_option maxHeartbeats 400000 in
theorem rows_no3 {W : World} (a0 : Int) (f n : Nat) (sp : Option Addr) (len cap : Nat) (xs : List Int) (hA : Arg8 W sp len cap xs) (h5 : len ≤ 5000) (hfn : f + n ≤ len) (ha : -9223372036854775808 ≤ a0 ∧ a0 ≤ 9223372036854775807) (hc0 : 0 ≤ a0) (hc1 : a0 ≤ 8192) (hc : 8192 - a0 < len) :
    Calls Try.prog 7 #[.int .i64 a0, .slice sp len cap, .int .i64 f, .int .i64 n] W fun e w' => e = .returned (.bool true) ∧ Below W.heap.size W w' := by
  obtain ⟨x0, hx0⟩ : ∃ x : List Int, x = List.replicate (pg 2 * 4096) 0 := ⟨_, rfl⟩
  have hl0 : x0.length = 8192 := by rw [hx0, List.length_replicate]; rfl
  have hfit : ¬ fits x0.length a0 len := by unfold fits; omega
  have hx1 : putL x0 a0 xs = x0 := by unfold putL; rw [hA.hlen, if_neg hfit]
  have g1 : getL x0 0 8192 = x0 := by
    unfold getL; rw [if_pos (by unfold fits; omega)]; exact List.take_of_length_le (by show x0.length ≤ 8192; omega)
  have z0 : ∀ k, x0.getD k 0 = 0 := fun k => by
    rw [hx0, List.getD_eq_getElem?_getD, List.getElem?_replicate]; split <;> rfl
  have X0 := Lib.hid hx0; have X1 := Lib.hid hx1; have G1 := Lib.hid g1; have L0 := Lib.hid hl0; have Z0 := Lib.hid z0; clear hx0 hx1 g1 hl0 z0
  have b1 : (f : Int) ≤ len := by omega
  have b2 : (n : Int) ≤ len - f := by omega
  have b5 : (len : Int) ≤ 5000 := by omega
  go_enter Try.func7, Try.ntmps7
  go_wp2_with (first
    | (go_at_call 8; refine (alive4_says _).mono ?_; rintro e w1 ⟨rfl, hB⟩)
    | (go_at_call 9; refine (new_says _ _).mono ?_; rintro e w2 ⟨h, g, ⟨rfl, hm, hh, hg, hb⟩⟩; have hg := Nat.le_trans hB.size hg; have hB := hB.trans (hb.mono hB.size); rw [← X0.out] at hm)
    | (go_at_call 18; refine (put_says hm _ (by omega) _ _ _ (by omega) xs hA.hlen (hA.src hB)).mono ?_; intro e w3 hq; obtain ⟨rfl, hm3, ho⟩ := putQ hA.hlen hq; rw [X1.out] at hm3; have hB := hB.trans (ho.below hg))
    | (go_at_call 16; refine (get_says hm3 _ _ (by omega) (by omega)).mono ?_; intro e w4 hq; rw [G1.out] at hq; obtain ⟨p, c, rfl, how, hb4, hcp⟩ := getQ2 hq; have hB := hB.trans (hb4.mono hB.size)))
  obtain ⟨g', rfl, hcell⟩ : ∃ g', p = some ⟨g', 0, none⟩ ∧ ∀ k, k < x0.length → w4.cell? ⟨g', k, none⟩ = some (.int .u8 0) := by
    rcases how with ⟨-, h0⟩ | ⟨g', cur, rfl, -, hg', hle, htk⟩
    · have := L0.out; rw [h0] at this; simp at this
    · refine ⟨g', rfl, fun k hk => ?_⟩
      rw [cell_of_row w4 g' k _ _ _ hg']
      have h1 : (cur.toList.take x0.length)[k]? = (u8L x0)[k]? := by rw [htk]
      rw [List.getElem?_take_of_lt hk] at h1
      have h2 := Z0.out k
      rw [List.getD_eq_getElem?_getD] at h2
      simp [List.getElem?_eq_getElem hk] at h1 h2
      simp [h1, h2]
  have hle : x0.length ≤ 8192 := by rw [L0.out]; exact Nat.le_refl _
  have HB := Lib.hid hB; clear hB hb4 how hm hm3 ho hg hh hb hq hcp hfit
  go_loop [13] (fun i => ∃ k : Nat, k ≤ x0.length ∧ i = .int .i64 k) (fun i => x0.length - (intOf i).toNat)
  case atStart => exact ⟨0, Nat.zero_le _, rfl⟩
  case round =>
    obtain ⟨k, hk, rfl⟩ := hrel
    have hck := hcell k
    clear hcell
    go_wp2
    · go_round
      case rel => exact ⟨k + 1, by omega, by go_num⟩
      case measure => simp [intOf]; omega
    · go_ret
      exact ⟨ret_bool (by have := L0.out; simp [this]), HB.out⟩
end Go.Proofs.Ythagnbmoedppgaa
