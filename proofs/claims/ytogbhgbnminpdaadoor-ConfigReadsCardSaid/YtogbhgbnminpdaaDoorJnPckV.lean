/-
  The reference: numbers behind a row that is full and not the call's own (a constant's bytes): func1.put the first time.
-/
import Derived.Test.YtogbhgbnminpdaaDoorJnPutRt
set_option linter.unusedVariables false
set_option maxRecDepth 100000
set_option linter.unusedVariables false
namespace Go.Proofs.YtogbhgbnminpdaaDoor.Pck
open Go.Proofs.YtogbhgbnminpdaaDoor Go.Proofs.YtogbhgbnminpdaaDoor.Ser Go.Proofs.YtogbhgbnminpdaaDoor.Img Go.Proofs.YtogbhgbnminpdaaDoor.Cfg
open Go.ChangeShapes Go.WideShapes Go.ChangeAt Go.RowKit
set_option linter.unusedVariables false
theorem step_growK {T E : TypeId} {k : IntKind} {w : World} {B B' : Nat} {ops : Array Oper} {o : Oper} {a : Act} {Q : Exit → Act → World → Prop} {X : Prop} {J : Act → World → Prop} (K : Kd T E k) (hgd : o.guard = none) (s x : Operand)
    (ho : o.op = .call { callee := .builtin .append, args := #[s, x], argTypes := #[T, T] }) {p1 p2 : Option Addr} {n1 c1 m2 c2 : Nat} {xs1 xs2 : List Int} (hs : a.eval s = .slice p1 n1 c1) (L1 : Lie k w B p1 n1 c1 xs1) (hn1 : 0 < n1)
    (hx : a.eval x = .slice p2 m2 c2) (L2 : Lie k w B' p2 m2 c2 xs2) (hp : 0 < m2) (hfull : c1 < n1 + m2) (hsz : n1 + m2 ≤ 1000000)
    (h : ∀ v' w', OwnK E k w' w.heap.size v' (xs1 ++ xs2) → Below w.heap.size w w' → J (a.put o.dst v') w') :
    if Region.wanted o (yielded ops a.tmps) = true then Oper.wp Tryd.prog o a w J Q else X := by
  obtain ⟨bb, hbb, hinfo⟩ := K.info
  obtain ⟨i, hi, hz0, hz1, hz2⟩ := info_parts hinfo
  obtain ⟨ad, rfl, hc⟩ := L2.src (by rw [L2.len]; exact hp)
  obtain ⟨b, rfl, hc1⟩ := L1.src (by rw [L1.len]; exact hn1)
  obtain ⟨v', w', hr, h1, h2⟩ := run_append_arg_grows (P := Tryd.prog) w T o.type E i _ 1 bb K.under hi hz0 hz1 hz2 rfl (by decide) b n1 c1 (kL k xs1) (by rw [List.length_map, L1.len, Nat.mul_one]) hc1 ad m2 c2 (kL k xs2) (by rw [List.length_map, L2.len, Nat.mul_one]) hc hfull (by unfold maxLen; omega) (by have : (n1 + m2) * bb ≤ 1000000 * 8 := Nat.mul_le_mul hsz hbb; omega)
  rw [if_pos (by simp [Region.wanted, hgd])]
  refine Lib.wp_append_run w s x T T ho _ _ hs hx v' w' hr (h v' w' ?_ ((Below.refl _ _).grown h2 (Nat.le_refl _) (by simp)))
  unfold OwnK
  rw [List.length_append, L1.len, L2.len, kL, List.map_append]
  exact h1
/-- All but block hb stays. -/
structure Gh1 (hb : Nat) (w w' : World) : Prop where
  os : w'.os = w.os
  tape : w'.tape = w.tape
  output : w'.output = w.output
  size : w.heap.size ≤ w'.heap.size
  block : ∀ i, i < w.heap.size → i ≠ hb → w'.heap[i]? = w.heap[i]?
section
variable {hb : Nat} {w w1 w2 : World} {v v' : Value}
theorem Gh1.below (h : Below w.heap.size w w1) : Gh1 hb w w1 := ⟨h.os, h.tape, h.output, h.size, fun i hi _ => h.block i hi⟩
theorem Gh1.trans (h : Gh1 hb w w1) (g : Gh1 hb w1 w2) : Gh1 hb w w2 :=
  ⟨g.os.trans h.os, g.tape.trans h.tape, g.output.trans h.output, Nat.le_trans h.size g.size, fun i hi hn => (g.block i (Nat.lt_of_lt_of_le hi h.size) hn).trans (h.block i hi hn)⟩
theorem Gh1.gh (h : Gh1 hb w w1) (g : Gh hb w1 w2 v v') (hv : ∀ g, v.ownBlock = some g → w.heap.size ≤ g) : Gh1 hb w w2 :=
  ⟨g.os.trans h.os, g.tape.trans h.tape, g.output.trans h.output, Nat.le_trans h.size g.size, fun i hi hn => (g.block i (Nat.lt_of_lt_of_le hi h.size) hn (fun e => by have := hv i e; omega)).trans (h.block i hi hn)⟩
theorem Gh1.lie {p : Option Addr} {n c : Nat} {xs : List Int} {k : IntKind} {B : Nat} (h : Gh1 hb w w1) (L : Lie k w B p n c xs) (hB : B ≤ w.heap.size) (hne : ∀ a : Addr, p = some a → a.block ≠ hb) : Lie k w1 B p n c xs :=
  ⟨L.len, L.cap, L.nil, fun hn => by
    obtain ⟨b, off, e, hl, ha⟩ := L.at_ hn
    have := hne _ e
    exact ⟨b, off, e, hl, fun i x hx => (World.cell?_of_block (h.block b (by omega) this)).trans (ha i x hx)⟩⟩
theorem Pb.first {R : List Int} {old : Value} (hd : w.heap[hb]? = some (.cells #[old] 32 (0, 0))) (o : OwnK 5 .u8 w1 w.heap.size v' R) (b : Below w.heap.size w w1) :
    Pb (w1.setCell ⟨hb, 0, none⟩ v') w.heap.size hb v' R ∧ Gh1 hb w (w1.setCell ⟨hb, 0, none⟩ v') ∧ w1.cell? ⟨hb, 0, none⟩ = some old ∧ w1.frozen? ⟨hb, 0, none⟩ = false := by
  have hlt : hb < w.heap.size := (Array.getElem?_eq_some_iff.1 hd).1
  have hh : w1.heap[hb]? = some (.cells #[old] 32 (0, 0)) := (b.block hb hlt).trans hd
  have hne : v'.ownBlock ≠ some hb := fun e => by have := (o.lt hb e).1; omega
  refine ⟨⟨by rw [Cfg.setCell_row hh]; rfl, ?_, hne⟩, ⟨b.os, b.tape, b.output, by simpa [World.setCell] using b.size, fun i hi hn => (Below.heap_setCell w1 ⟨hb, 0, none⟩ v' i (by show i ≠ hb; exact hn)).trans (b.block i hi)⟩, by rw [cell_of_row _ _ 0 _ _ _ hh]; rfl, by simp [World.frozen?, hh]⟩
  exact ownK_kept o fun g hg => Below.heap_setCell w1 ⟨hb, 0, none⟩ v' g (by show g ≠ hb; intro e; rw [e] at hg; exact hne hg)
theorem Pb.wide {w : World} {B B' hb : Nat} {v : Value} {R : List Int} (P : Pb w B hb v R) (h : B' ≤ B) : Pb w B' hb v R := ⟨P.hd, ownK_mono P.o h, P.ne⟩
end
set_option maxHeartbeats 4000000 in
theorem put1_says {w : World} {hb : Nat} {R : List Int} {pr : Option Addr} {nr : Nat} (hd : w.heap[hb]? = some (.cells #[.slice pr nr nr] 32 (0, 0))) (LR : Lie .u8 w w.heap.size pr nr nr R) (hnr : 0 < nr) (hrne : ∀ a : Addr, pr = some a → a.block ≠ hb) {p : Option Addr} {n c : Nat} {ls : List Int} (L : Lie .i64 w w.heap.size p n c ls) (hne : ∀ a : Addr, p = some a → a.block ≠ hb) (hn0 : 0 < n) (hn : n ≤ 5) (hR : R.length ≤ 900000) :
    Calls Tryd.prog 25 #[.agg #[.pointer (some ⟨hb, 0, none⟩)], .slice p n c] w fun e w' => e = .returned (.tuple #[]) ∧ ∃ v', Pb w' w.heap.size hb v' (R ++ nums ls) ∧ Gh1 hb w w' := by
  obtain ⟨q, hq⟩ : ∃ q : Ending → World → Prop, q = fun e w' => e = .returned (.tuple #[]) ∧ ∃ v', Pb w' w.heap.size hb v' (R ++ nums ls) ∧ Gh1 hb w w' := ⟨_, rfl⟩
  rw [← hq]
  have HO := Lib.hid (fun w' v' (a : Pb w' w.heap.size hb v' (R ++ nums ls)) (b : Gh1 hb w w') => (by rw [hq]; exact ⟨rfl, v', a, b⟩ : q (.returned (.tuple #[])) w'))
  clear hq
  obtain ⟨h, hh⟩ : ∃ h, w.heap.size = h := ⟨_, rfl⟩
  obtain ⟨w1, hw1⟩ : ∃ w1, w1 = w.alloc (.cells #[.pointer (some ⟨hb, 0, none⟩)] 60) := ⟨_, rfl⟩
  have b1 : Below w.heap.size w w1 := by rw [hw1]; exact (Below.refl _ _).alloc (Nat.le_refl _) _
  have s1 : w1.heap.size = h + 1 := by rw [hw1, ← hh]; simp
  have k1 : w1.heap[h]? = some (.cells #[.pointer (some ⟨hb, 0, none⟩)] 60 (0, 0)) := by rw [hw1, ← hh]; exact heap_alloc_new _ _
  have hbh : hb < h := by rw [← hh]; exact (Array.getElem?_eq_some_iff.1 hd).1
  have hd1 := (b1.block hb (by omega)).trans hd
  have LR1 := Lib.hid (LR.kept b1 (Nat.le_refl _))
  have hnl0 := LR.len
  have G0 := Lib.hid (Gh1.below (hb := hb) b1)
  have hll := L.len
  have L1 := Lib.hid (L.kept b1 (Nat.le_refl _))
  have hB1 : w.heap.size ≤ w1.heap.size := by omega
  clear L LR hd
  go_enter Tryd.func25, Tryd.ntmps25
  go_upto_region 1 with fail
  try simp only [hh]
  rw [← hw1]
  clear hw1 b1
  go_wp2
  go_loopw [4] (fun i wr => ∃ j : Nat, j ≤ n ∧ i = .int .i64 j ∧ ((j = 0 ∧ wr = w1) ∨ (0 < j ∧ ∃ v', Pb wr h hb v' (R ++ nums (ls.take j)) ∧ Gh1 hb w1 wr ∧ v'.ownBlock ≠ some h))) (fun i _ => n - (intOf i).toNat)
  case atStart => exact ⟨0, Nat.zero_le _, rfl, .inl ⟨rfl, rfl⟩⟩
  case round =>
    obtain ⟨j, hj, rfl, hor⟩ := hrel
    by_cases hjl : j < n
    · have hjI : (j : Int) < (n : Int) := by omega
      have hjb : j < 5 := by omega
      obtain ⟨x, hx⟩ : ∃ x, ls[j]? = some x := ⟨_, List.getElem?_eq_getElem (by omega)⟩
      rcases hor with ⟨rfl, hwr⟩ | ⟨hj0, v', P2, G2, hvh2⟩
      · replace hwr := hwr.symm
        subst hwr
        obtain ⟨b, off, hpb, hbl, ha⟩ := L1.out.at_ (by omega)
        have y0 := ha 0 x hx
        rw [Nat.add_zero] at y0
        subst hpb
        have hbb := hne _ rfl
        have hnx := Lib.hid (show R ++ nums (ls.take (0 + 1)) = R ++ four x by
          rw [List.take_add_one, hx]; simp [nums])
        have z0d : w1.drew.cell? ⟨h, 0, none⟩ = some (.pointer (some ⟨hb, 0, none⟩)) := by rw [show w1.drew.cell? ⟨h, 0, none⟩ = w1.cell? ⟨h, 0, none⟩ from rfl, cell_of_row _ _ 0 _ _ _ k1]; rfl
        have zbd : w1.drew.cell? ⟨hb, 0, none⟩ = some (.slice pr nr nr) := by rw [show w1.drew.cell? ⟨hb, 0, none⟩ = w1.cell? ⟨hb, 0, none⟩ from rfl, cell_of_row _ _ 0 _ _ _ hd1]; rfl
        have y0d : w1.drew.cell? ⟨b, off, none⟩ = some (.int .i64 x) := y0
        have GD := Lib.hid (Gh1.below (hb := hb) (Below.refl _ w1).drew)
        have hddr : w1.drew.heap[hb]? = _ := hd1
        have HW := Lib.hid (fun (u : World) (hu : Below w1.drew.heap.size w1.drew u) => And.intro ((hu.block hb (World.block_lt_of_cell? _ _ zbd)).trans hddr) (And.intro (GD.out.trans (Gh1.below hu)) (And.intro ((World.cell?_of_block (hu.block h (World.block_lt_of_cell? _ _ z0d))).trans z0d) (And.intro ((World.cell?_of_block (hu.block hb (World.block_lt_of_cell? _ _ zbd))).trans zbd) ((World.cell?_of_block (hu.block b (World.block_lt_of_cell? _ _ y0d))).trans y0d)))))
        clear hx ha
        go_wp2
        go_region_law (first | (rw [if_pos (by simp [Region.wanted])]; go_simp; go_at_call 26; (with_reducible refine (four_says x _).mono ?_); rintro e w6 ⟨p6, c6, rfl, o6, b6⟩; have hw6 := HW.out w6 b6; have S6 := Lib.hid (lie_own o6); clear b6 o6; obtain ⟨P6', G6', z06, zb6, y06⟩ := hw6; have P6 := Lib.hid P6'; have G6 := Lib.hid G6'; clear P6' G6'; have S7 := Lib.hid (G6.out.lie LR1.out (by omega) hrne)) | (refine step_growK kdB rfl _ _ rfl rfl S7.out hnr (p2 := p6) (m2 := 4) (c2 := c6) rfl S6.out (by omega) (by omega) (by omega) ?_; intro v2 w7 o7 g7; have z07 := (World.cell?_of_block (g7.block h (World.block_lt_of_cell? _ _ z06))).trans z06; have ha7 := Pb.first P6.out o7 g7; obtain ⟨p2, c2, e2, -, -⟩ := ownK_lie o7; obtain ⟨n5, hn5⟩ : ∃ n5, (R ++ four x).length = n5 := ⟨_, rfl⟩; rw [hn5] at e2; clear hn5 o7 g7; subst e2; obtain ⟨P8', G8', zc, fzc⟩ := ha7; have P8 := Lib.hid (P8'.wide (B' := h) (by have := G6.out.size; omega)); have G8 := Lib.hid (G6.out.trans G8'); have nh8 := own_ne P8'.o (show _ = _ from (G8.out.block h (by omega) (by omega)).trans k1) (by decide); clear P8' G8'))
        all_goals
          go_wp2
          go_roundw
          case rel => exact ⟨0 + 1, by omega, by go_num, .inr ⟨Nat.succ_pos _, _, by rw [hnx.out]; exact P8.out, G8.out, nh8⟩⟩
          case measure => simp [intOf]; omega
      · obtain ⟨b, off, hpb, hbl, ha⟩ := (G2.lie L1.out (by omega) hne).at_ (by omega)
        have y0 := ha j x hx
        subst hpb
        have hv6 := Lib.hid (fun g (e : v'.ownBlock = some g) => (by have h1 := (P2.o.lt g e).1; have h2 : g ≠ h := fun e' => hvh2 (by rw [e, e']); omega : w1.heap.size ≤ g))
        have hz := (G2.block h (by omega) (by omega)).trans k1
        have z0 : wr.cell? ⟨h, 0, none⟩ = some (.pointer (some ⟨hb, 0, none⟩)) := by rw [cell_of_row _ _ 0 _ _ _ hz]; rfl
        obtain ⟨vp, vn, hv2, -, -⟩ := ownK_lie P2.o
        have zb : wr.cell? ⟨hb, 0, none⟩ = some v' := by rw [cell_of_row _ _ 0 _ _ _ P2.hd]; rfl
        have hsz : (R ++ nums (ls.take j)).length ≤ 900100 := by rw [List.length_append, nums_len, List.length_take]; omega
        have hnx := Lib.hid (show R ++ nums (ls.take (j + 1)) = R ++ nums (ls.take j) ++ four x by
          rw [List.take_add_one, hx]; simp only [Option.toList_some]; rw [nums_snoc, List.append_assoc])
        obtain ⟨nl, hnl⟩ : ∃ nl, (R ++ nums (ls.take j)).length = nl := ⟨_, rfl⟩
        rw [hnl] at hv2
        subst hv2
        replace hvh2 := Lib.hid hvh2
        have HSZ := Lib.hid (by omega : (R ++ nums (ls.take j)).length + 4 ≤ 1000000)
        have PD := Lib.hid (P2.kept (Below.refl _ _).drew)
        have GD := Lib.hid (G2.trans (Gh1.below (hb := hb) (Below.refl _ wr).drew))
        have z0d : wr.drew.cell? ⟨h, 0, none⟩ = some (.pointer (some ⟨hb, 0, none⟩)) := z0
        have zbd : wr.drew.cell? ⟨hb, 0, none⟩ = some (.slice vp nl vn) := zb
        have y0d : wr.drew.cell? ⟨b, off + j, none⟩ = some (.int .i64 x) := y0
        have HBs := Lib.hid (fun (u : World) (hu : Below wr.drew.heap.size wr.drew u) => (by have h1 := hu.size; have h2 := GD.out.size; omega : h ≤ u.heap.size))
        have HW := Lib.hid (fun (u : World) (hu : Below wr.drew.heap.size wr.drew u) => And.intro (PD.out.kept hu) (And.intro (GD.out.trans (Gh1.below hu)) (And.intro ((World.cell?_of_block (hu.block h (World.block_lt_of_cell? _ _ z0d))).trans z0d) (And.intro ((World.cell?_of_block (hu.block hb (World.block_lt_of_cell? _ _ zbd))).trans zbd) ((World.cell?_of_block (hu.block b (World.block_lt_of_cell? _ _ y0d))).trans y0d)))))
        clear hx ha hz P2 G2 hnl hsz
        go_wp2
        go_region_law (first | (rw [if_pos (by simp [Region.wanted])]; go_simp; go_at_call 26; (with_reducible refine (four_says x _).mono ?_); rintro e w6 ⟨p6, c6, rfl, o6, b6⟩; have hw6 := HW.out w6 b6; have hB6 := Lib.hid (HBs.out w6 b6); have S6 := Lib.hid (lie_own o6); clear b6 o6; obtain ⟨P6', G6', z06, zb6, y06⟩ := hw6; have P6 := Lib.hid P6'; have G6 := Lib.hid G6'; clear P6' G6') | (refine step_appG kdB rfl _ _ rfl hB6.out (v1 := .slice vp nl vn) (R1 := R ++ nums (ls.take j)) rfl P6.out.o (four x) (p := p6) (m := 4) (c := c6) rfl rfl S6.out.nil S6.out.src HSZ.out ?_; intro v2 w7 o7 g7; have z07 := (World.cell?_of_block (g7.block h (World.block_lt_of_cell? _ _ z06) hvh2.out)).trans z06; have ha7 := P6.out.app o7 g7; obtain ⟨p2, c2, e2, -, -⟩ := ownK_lie o7; obtain ⟨n5, hn5⟩ : ∃ n5, (R ++ nums (ls.take j) ++ four x).length = n5 := ⟨_, rfl⟩; rw [hn5] at e2; clear hn5 o7 g7; subst e2; obtain ⟨P8', G8', zc, fzc⟩ := ha7; have P8 := Lib.hid P8'; have G8 := Lib.hid (G6.out.gh G8' (fun g e => by have := hv6.out g e; omega)); have nh8 := own_ne P8'.o (show _ = _ from (G8.out.block h (by omega) (by omega)).trans k1) (by decide); clear P8' G8'))
        all_goals
          go_wp2
          go_roundw
          case rel => exact ⟨j + 1, hjl, by go_num, .inr ⟨Nat.succ_pos _, _, by rw [hnx.out]; exact P8.out, G8.out, nh8⟩⟩
          case measure => simp [intOf]; omega
    · have hjm : j = n := by omega
      subst hjm
      obtain ⟨v', P2, G2, hvh2⟩ := (hor.resolve_left fun e => by omega).2
      have hr := Lib.hid (HO.out wr v' (by rw [← List.take_of_length_le (Nat.le_of_eq hll), hh]; exact P2) (G0.out.trans G2))
      clear P2 G2 hor
      go_wp2
      go_end0
      exact hr.out
end Go.Proofs.YtogbhgbnminpdaaDoor.Pck
