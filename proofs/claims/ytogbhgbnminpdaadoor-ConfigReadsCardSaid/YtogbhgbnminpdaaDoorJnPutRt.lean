/-
  The reference: numbers behind bytes, through a pointer to these (func1.put). | The reference: Pack, what its loops keep (the bytes in a block, func1's box), and its append of a text.
-/
import Derived.Test.YtogbhgbnminpdaaDoorJnPckE
import Derived.Test.YtogbhgbnminpdaaDoorJnCfgR
import Derived.Lib.Hide
set_option linter.unusedVariables false
set_option maxRecDepth 100000
set_option linter.unusedVariables false
namespace Go.Proofs.YtogbhgbnminpdaaDoor.Pck
open Go.Proofs.YtogbhgbnminpdaaDoor Go.Proofs.YtogbhgbnminpdaaDoor.Ser Go.Proofs.YtogbhgbnminpdaaDoor.Img Go.Proofs.YtogbhgbnminpdaaDoor.Cfg
open Go.ChangeShapes Go.WideShapes Go.ChangeAt Go.RowKit
set_option linter.unusedVariables false
section
variable {k : IntKind} {T E : TypeId} {w : World} {B : Nat}
theorem step_appG {ops : Array Oper} {o : Oper} {a : Act} {Q : Exit → Act → World → Prop} {X : Prop} {J : Act → World → Prop} (K : Kd T E k) (hgd : o.guard = none) (s x : Operand)
    (ho : o.op = .call { callee := .builtin .append, args := #[s, x], argTypes := #[T, T] }) (hB : B ≤ w.heap.size) {v1 : Value} {R1 : List Int} (hs : a.eval s = v1) (hown : OwnK E k w B v1 R1)
    {p : Option Addr} {m c : Nat} (R2 : List Int) (hx : a.eval x = .slice p m c) (hm : R2.length = m) (hc : p = none → c = 0) (hsrc : SrcK k w p R2) (hsz : R1.length + m ≤ 1000000)
    (h : ∀ v' w', OwnK E k w' B v' (R1 ++ R2) → Grew w w' v1 v' → J (a.put o.dst v') w') :
    if Region.wanted o (yielded ops a.tmps) = true then Oper.wp Tryd.prog o a w J Q else X := by
  obtain ⟨v', w', hr, h1, h2⟩ := app_runG K o.type hB hown R2 hm hc hsrc hsz
  rw [if_pos (by simp [Region.wanted, hgd])]
  exact Lib.wp_append_run w s x T T ho v1 _ hs hx v' w' hr (h v' w' h1 h2)
end
/-- Bytes of the call's own, their slice in block hb. -/
structure Pb (w : World) (B hb : Nat) (v : Value) (R : List Int) : Prop where
  hd : w.heap[hb]? = some (.cells #[v] 32 (0, 0))
  o : OwnK 5 .u8 w B v R
  ne : v.ownBlock ≠ some hb
/-- All else stays: but for block hb and the old row's. -/
structure Gh (hb : Nat) (w w' : World) (v v' : Value) : Prop where
  os : w'.os = w.os
  tape : w'.tape = w.tape
  output : w'.output = w.output
  size : w.heap.size ≤ w'.heap.size
  block : ∀ i, i < w.heap.size → i ≠ hb → v.ownBlock ≠ some i → w'.heap[i]? = w.heap[i]?
  to : v'.ownBlock = v.ownBlock ∨ ∃ i, v'.ownBlock = some i ∧ w.heap.size ≤ i
theorem Gh.refl (hb : Nat) (w : World) (v : Value) : Gh hb w w v v := ⟨rfl, rfl, rfl, Nat.le_refl _, fun _ _ _ _ => rfl, .inl rfl⟩
theorem Gh.trans {hb : Nat} {w w1 w2 : World} {v v1 v2 : Value} (h : Gh hb w w1 v v1) (h' : Gh hb w1 w2 v1 v2) : Gh hb w w2 v v2 :=
  ⟨h'.os.trans h.os, h'.tape.trans h.tape, h'.output.trans h.output, Nat.le_trans h.size h'.size, fun i hi hn hv => by
    refine (h'.block i (Nat.lt_of_lt_of_le hi h.size) hn ?_).trans (h.block i hi hn hv)
    rcases h.to with e | ⟨k, e, hk⟩
    · rw [e]; exact hv
    · rw [e]; intro x; injection x with x; omega, by
    rcases h'.to with e1 | ⟨k, e1, hk⟩
    · rw [e1]; exact h.to
    · exact .inr ⟨k, e1, Nat.le_trans h.size hk⟩⟩
theorem Gh.below {hb : Nat} {w w1 : World} {v : Value} (h : Below w.heap.size w w1) : Gh hb w w1 v v := ⟨h.os, h.tape, h.output, h.size, fun i hi _ _ => h.block i hi, .inl rfl⟩
theorem Gh.grew {hb : Nat} {w w1 : World} {v v1 : Value} (h : Grew w w1 v v1) : Gh hb w w1 v v1 := ⟨h.os, h.tape, h.output, h.size, fun i hi _ hv => h.block i hi hv, h.to⟩
theorem Gh.set {hb : Nat} {w w1 : World} {v v1 : Value} (h : Gh hb w w1 v v1) (u : Value) : Gh hb w (w1.setCell ⟨hb, 0, none⟩ u) v v1 :=
  ⟨h.os, h.tape, h.output, by simpa [World.setCell] using h.size, fun i hi hn hv => (Below.heap_setCell _ _ _ _ (by show i ≠ hb; exact hn)).trans (h.block i hi hn hv), h.to⟩
theorem Pb.lt {w : World} {B hb : Nat} {v : Value} {R : List Int} (P : Pb w B hb v R) : hb < w.heap.size := (Array.getElem?_eq_some_iff.1 P.hd).1
theorem Pb.own_lt {w : World} {B hb g : Nat} {v : Value} {R : List Int} (P : Pb w B hb v R) (h : v.ownBlock = some g) : g < w.heap.size := (P.o.lt g h).2
theorem Pb.kept {w w' : World} {B hb : Nat} {v : Value} {R : List Int} (P : Pb w B hb v R) (b : Below w.heap.size w w') : Pb w' B hb v R :=
  ⟨(b.block hb P.lt).trans P.hd, ownK_below P.o b, P.ne⟩
/-- The row has grown, and is stored. -/
theorem Pb.app {w w' : World} {B hb : Nat} {v v' : Value} {R R2 : List Int} (P : Pb w B hb v R) (o : OwnK 5 .u8 w' B v' (R ++ R2)) (G : Grew w w' v v') :
    Pb (w'.setCell ⟨hb, 0, none⟩ v') B hb v' (R ++ R2) ∧ Gh hb w (w'.setCell ⟨hb, 0, none⟩ v') v v' ∧ w'.cell? ⟨hb, 0, none⟩ = some v ∧ w'.frozen? ⟨hb, 0, none⟩ = false := by
  have hh : w'.heap[hb]? = some (.cells #[v] 32 (0, 0)) := (G.block hb P.lt P.ne).trans P.hd
  have hne : v'.ownBlock ≠ some hb := by
    rcases G.to with e | ⟨k, e, hk⟩
    · rw [e]; exact P.ne
    · rw [e]; intro x; injection x with x; have := P.lt; omega
  refine ⟨⟨by rw [Cfg.setCell_row hh]; rfl, ?_, hne⟩, (Gh.grew G).set _, by rw [cell_of_row _ _ 0 _ _ _ hh]; rfl, by simp [World.frozen?, hh]⟩
  exact ownK_kept o fun g hg => Below.heap_setCell w' ⟨hb, 0, none⟩ v' g (by show g ≠ hb; intro e; rw [e] at hg; exact hne hg)
/-- Ints that lie apart from bytes of the call's own. -/
theorem Gh.lie {hb : Nat} {w w' : World} {v v' : Value} {p : Option Addr} {n c : Nat} {xs : List Int} {k : IntKind} {B : Nat} (h : Gh hb w w' v v') (L : Lie k w B p n c xs) (hB : B ≤ w.heap.size) (hne : ∀ a : Addr, p = some a → a.block ≠ hb ∧ v.ownBlock ≠ some a.block) : Lie k w' B p n c xs :=
  ⟨L.len, L.cap, L.nil, fun hn => by
    obtain ⟨b, off, e, hl, ha⟩ := L.at_ hn
    have := hne _ e
    exact ⟨b, off, e, hl, fun i x hx => (World.cell?_of_block (h.block b (by omega) this.1 this.2)).trans (ha i x hx)⟩⟩
theorem lie_own {E : TypeId} {k : IntKind} {w : World} {B : Nat} {p : Option Addr} {m c : Nat} {xs : List Int} (h : OwnK E k w B (.slice p m c) xs) : Lie k w w.heap.size p m c xs := by
  obtain ⟨p2, c2, e, -, L⟩ := ownK_lie h
  injection e with e1 e2 e3
  subst e1 e3
  rw [← e2] at L
  exact L
theorem nums_snoc (l : List Int) (x : Int) : nums (l ++ [x]) = nums l ++ four x := by simp [nums]
set_option maxHeartbeats 4000000 in
theorem put_says {w : World} {B hb : Nat} {v : Value} {R : List Int} (P : Pb w B hb v R) {p : Option Addr} {n c : Nat} {ls : List Int} (L : Lie .i64 w w.heap.size p n c ls) (hne : ∀ a : Addr, p = some a → a.block ≠ hb ∧ v.ownBlock ≠ some a.block) (hn : n ≤ 5) (hR : R.length ≤ 900000) (hB : B ≤ w.heap.size) :
    Calls Tryd.prog 25 #[.agg #[.pointer (some ⟨hb, 0, none⟩)], .slice p n c] w fun e w' => e = .returned (.tuple #[]) ∧ ∃ v', Pb w' B hb v' (R ++ nums ls) ∧ Gh hb w w' v v' := by
  obtain ⟨q, hq⟩ : ∃ q : Ending → World → Prop, q = fun e w' => e = .returned (.tuple #[]) ∧ ∃ v', Pb w' B hb v' (R ++ nums ls) ∧ Gh hb w w' v v' := ⟨_, rfl⟩
  rw [← hq]
  have HO := Lib.hid (fun w' v' (a : Pb w' B hb v' (R ++ nums ls)) (b : Gh hb w w' v v') => (by rw [hq]; exact ⟨rfl, v', a, b⟩ : q (.returned (.tuple #[])) w'))
  clear hq
  obtain ⟨h, hh⟩ : ∃ h, w.heap.size = h := ⟨_, rfl⟩
  obtain ⟨w1, hw1⟩ : ∃ w1, w1 = w.alloc (.cells #[.pointer (some ⟨hb, 0, none⟩)] 60) := ⟨_, rfl⟩
  have b1 : Below w.heap.size w w1 := by rw [hw1]; exact (Below.refl _ _).alloc (Nat.le_refl _) _
  have s1 : w1.heap.size = h + 1 := by rw [hw1, ← hh]; simp
  have k1 : w1.heap[h]? = some (.cells #[.pointer (some ⟨hb, 0, none⟩)] 60 (0, 0)) := by rw [hw1, ← hh]; exact heap_alloc_new _ _
  have P1 := P.kept b1
  have hbh : hb < h := by rw [← hh]; exact P.lt
  have hvh : v.ownBlock ≠ some h := fun e => by have := P.own_lt e; omega
  have G0 := Lib.hid (Gh.below (hb := hb) (v := v) b1)
  have hll := L.len
  have L1 := Lib.hid (L.kept b1 (Nat.le_refl _))
  have hB1 : B ≤ w1.heap.size := by omega
  clear L P
  go_enter Tryd.func25, Tryd.ntmps25
  go_upto_region 1 with fail
  try simp only [hh]
  rw [← hw1]
  clear hw1 b1
  go_wp2
  go_loopw [4] (fun i wr => ∃ j : Nat, j ≤ n ∧ i = .int .i64 j ∧ ∃ v', Pb wr B hb v' (R ++ nums (ls.take j)) ∧ Gh hb w1 wr v v') (fun i _ => n - (intOf i).toNat)
  case atStart => exact ⟨0, Nat.zero_le _, rfl, v, by rw [List.take_zero]; simpa [nums] using P1, Gh.refl _ _ _⟩
  case round =>
    obtain ⟨j, hj, rfl, v', P2, G2⟩ := hrel
    by_cases hjl : j < n
    · have hjI : (j : Int) < (n : Int) := by omega
      have hjb : j < 5 := by omega
      obtain ⟨x, hx⟩ : ∃ x, ls[j]? = some x := ⟨_, List.getElem?_eq_getElem (by omega)⟩
      obtain ⟨b, off, hpb, hbl, ha⟩ := (G2.lie L1.out (by omega) hne).at_ (by omega)
      have y0 := ha j x hx
      subst hpb
      have hz := (G2.block h (by omega) (by omega) hvh).trans k1
      have z0 : wr.cell? ⟨h, 0, none⟩ = some (.pointer (some ⟨hb, 0, none⟩)) := by rw [cell_of_row _ _ 0 _ _ _ hz]; rfl
      obtain ⟨vp, vn, hv2, -, -⟩ := ownK_lie P2.o
      have zb : wr.cell? ⟨hb, 0, none⟩ = some v' := by rw [cell_of_row _ _ 0 _ _ _ P2.hd]; rfl
      have hsz : (R ++ nums (ls.take j)).length ≤ 900100 := by rw [List.length_append, nums_len, List.length_take]; omega
      have hnx := Lib.hid (show R ++ nums (ls.take (j + 1)) = R ++ nums (ls.take j) ++ four x by
        rw [List.take_add_one, hx]; simp only [Option.toList_some]; rw [nums_snoc, List.append_assoc])
      obtain ⟨nl, hnl⟩ : ∃ nl, (R ++ nums (ls.take j)).length = nl := ⟨_, rfl⟩
      rw [hnl] at hv2
      subst hv2
      have hvh2 : (Value.slice vp nl vn).ownBlock ≠ some h := by
        rcases G2.to with e | ⟨k, e, hk⟩
        · rw [e]; exact hvh
        · rw [e]; intro y; injection y with y; omega
      replace hvh2 := Lib.hid hvh2
      have HSZ := Lib.hid (by omega : (R ++ nums (ls.take j)).length + 4 ≤ 1000000)
      have PD := Lib.hid (P2.kept (Below.refl _ _).drew)
      have GD := Lib.hid (G2.trans (Gh.below (hb := hb) (v := .slice vp nl vn) (Below.refl _ wr).drew))
      have z0d : wr.drew.cell? ⟨h, 0, none⟩ = some (.pointer (some ⟨hb, 0, none⟩)) := z0
      have zbd : wr.drew.cell? ⟨hb, 0, none⟩ = some (.slice vp nl vn) := zb
      have y0d : wr.drew.cell? ⟨b, off + j, none⟩ = some (.int .i64 x) := y0
      have HBs := Lib.hid (fun (u : World) (hu : Below wr.drew.heap.size wr.drew u) => (by have h1 := hu.size; have h2 := GD.out.size; omega : B ≤ u.heap.size))
      have HW := Lib.hid (fun (u : World) (hu : Below wr.drew.heap.size wr.drew u) => And.intro (PD.out.kept hu) (And.intro (GD.out.trans (Gh.below hu)) (And.intro ((World.cell?_of_block (hu.block h (World.block_lt_of_cell? _ _ z0d))).trans z0d) (And.intro ((World.cell?_of_block (hu.block hb (World.block_lt_of_cell? _ _ zbd))).trans zbd) ((World.cell?_of_block (hu.block b (World.block_lt_of_cell? _ _ y0d))).trans y0d)))))
      clear hx ha hz P2 G2 hnl hsz P1
      go_wp2
      go_region_law (first | (rw [if_pos (by simp [Region.wanted])]; go_simp; go_at_call 26; (with_reducible refine (four_says x _).mono ?_); rintro e w6 ⟨p6, c6, rfl, o6, b6⟩; have hw6 := HW.out w6 b6; have hB6 := Lib.hid (HBs.out w6 b6); have S6 := Lib.hid (lie_own o6); clear b6 o6; obtain ⟨P6', G6', z06, zb6, y06⟩ := hw6; have P6 := Lib.hid P6'; have G6 := Lib.hid G6'; clear P6' G6') | (refine step_appG kdB rfl _ _ rfl hB6.out (v1 := .slice vp nl vn) (R1 := R ++ nums (ls.take j)) rfl P6.out.o (four x) (p := p6) (m := 4) (c := c6) rfl rfl S6.out.nil S6.out.src HSZ.out ?_; intro v2 w7 o7 g7; have z07 := (World.cell?_of_block (g7.block h (World.block_lt_of_cell? _ _ z06) hvh2.out)).trans z06; have ha7 := P6.out.app o7 g7; obtain ⟨p2, c2, e2, -, -⟩ := ownK_lie o7; obtain ⟨n5, hn5⟩ : ∃ n5, (R ++ nums (ls.take j) ++ four x).length = n5 := ⟨_, rfl⟩; rw [hn5] at e2; clear hn5 o7 g7; subst e2; obtain ⟨P8', G8', zc, fzc⟩ := ha7; have P8 := Lib.hid P8'; have G8 := Lib.hid (G6.out.trans G8'); clear P8' G8'))
      all_goals
        go_wp2
        go_roundw
        case rel => exact ⟨j + 1, hjl, by go_num, _, by rw [hnx.out]; exact P8.out, G8.out⟩
        case measure => simp [intOf]; omega
    · have hjm : j = n := by omega
      subst hjm
      have hr := Lib.hid (HO.out wr v' (by rw [← List.take_of_length_le (Nat.le_of_eq hll) ]; exact P2) (G0.out.trans G2))
      clear P2 G2 P1
      go_wp2
      go_end0
      exact hr.out
end Go.Proofs.YtogbhgbnminpdaaDoor.Pck
set_option maxRecDepth 100000
set_option linter.unusedVariables false
namespace Go.Proofs.YtogbhgbnminpdaaDoor.Pck
open Go.Proofs.YtogbhgbnminpdaaDoor Go.Proofs.YtogbhgbnminpdaaDoor.Ser Go.Proofs.YtogbhgbnminpdaaDoor.Img Go.Proofs.YtogbhgbnminpdaaDoor.Cfg
open Go.ChangeShapes Go.WideShapes Go.ChangeAt Go.RowKit
set_option linter.unusedVariables false
theorem own_ne {w : World} {B k : Nat} {v : Value} {R : List Int} {cur : Array Value} {T : TypeId} {fr : Nat × Nat} (o : OwnK 5 .u8 w B v R) (hk : w.heap[k]? = some (.cells cur T fr)) (hT : T ≠ 5) : v.ownBlock ≠ some k := by
  intro e
  rcases o.2 with ⟨rfl, -⟩ | ⟨g, cap, cu, rfl, -, hg, -⟩
  · simp [Value.ownBlock] at e
  · simp only [Value.ownBlock, Option.some.injEq] at e
    subst e
    rw [hg] at hk
    injection hk with hk
    injection hk with _ h2 _
    exact hT h2.symm
structure Kp (w1 : World) (h hb hf : Nat) (w : World) (v : Value) (R : List Int) : Prop where
  p : Pb w (h + 1) hb v R
  b : Below (h + 1) w1 w
  f : w.heap[hf]? = some (.cells #[.pointer (some ⟨hb, 0, none⟩)] 60 (0, 0))
  lb : h + 1 ≤ hb
  lf : h + 1 ≤ hf
  ne : hf ≠ hb
section
variable {w1 w w' : World} {h hb hf : Nat} {v v' : Value} {R R' : List Int}
theorem Kp.nf (K : Kp w1 h hb hf w v R) : v.ownBlock ≠ some hf := own_ne K.p.o K.f (by decide)
theorem Kp.size (K : Kp w1 h hb hf w v R) : h + 1 ≤ w.heap.size := Nat.le_trans K.lb (Nat.le_of_lt K.p.lt)
theorem Kp.kept (K : Kp w1 h hb hf w v R) (b : Below w.heap.size w w') : Kp w1 h hb hf w' v R :=
  ⟨K.p.kept b, K.b.trans (b.mono K.size), (b.block hf (Array.getElem?_eq_some_iff.1 K.f).1).trans K.f, K.lb, K.lf, K.ne⟩
theorem Kp.zf (K : Kp w1 h hb hf w v R) : w.cell? ⟨hf, 0, none⟩ = some (.pointer (some ⟨hb, 0, none⟩)) := by rw [cell_of_row _ _ 0 _ _ _ K.f]; rfl
theorem Kp.zb (K : Kp w1 h hb hf w v R) : w.cell? ⟨hb, 0, none⟩ = some v := by rw [cell_of_row _ _ 0 _ _ _ K.p.hd]; rfl
theorem Kp.own (K : Kp w1 h hb hf w v R) (g : Nat) (e : v.ownBlock = some g) : h + 1 ≤ g := (K.p.o.lt g e).1
theorem Kp.gh (K : Kp w1 h hb hf w v R) (P : Pb w' (h + 1) hb v' R') (G : Gh hb w w' v v') : Kp w1 h hb hf w' v' R' := by
  refine ⟨P, K.b.trans ⟨G.os, G.tape, G.output, G.size, fun i hi => G.block i (by have := K.size; omega) (by have := K.lb; omega) fun e => by have := K.own i e; omega⟩, (G.block hf (Array.getElem?_eq_some_iff.1 K.f).1 K.ne K.nf).trans K.f, K.lb, K.lf, K.ne⟩
theorem put_K (K : Kp w1 h hb hf w v R) (xs : List Int) (n g : Nat) (hg : w.heap.size = g) (hn : xs.length = n) (h5 : n ≤ 5) (hR : R.length ≤ 900000) :
    Calls Tryd.prog 25 #[.agg #[.pointer (some ⟨hb, 0, none⟩)], .slice (some ⟨g, 0, none⟩) n n] (w.alloc (.cells (kL .i64 xs).toArray 3)) fun e w' => e = .returned (.tuple #[]) ∧ ∃ v', Kp w1 h hb hf w' v' (R ++ nums xs) := by
  have K2 := K.kept (below_alloc w (.cells (kL .i64 xs).toArray 3))
  have hlt := K.p.lt
  refine (put_says K2.p (lie_nums w xs g n hg hn) (fun a e => ?_) h5 hR K2.size).mono ?_
  · injection e with e
    subst e
    refine ⟨fun e => by simp only at e; omega, fun e => ?_⟩
    have := K.p.own_lt e
    simp only at this; omega
  · rintro e w' ⟨rfl, v', P, G⟩
    exact ⟨rfl, v', K2.gh P G⟩
theorem Kp.app (K : Kp w1 h hb hf w v R) {R2 : List Int} (o : OwnK 5 .u8 w' (h + 1) v' (R ++ R2)) (G : w.grownBy w' v.ownBlock) :
    Kp w1 h hb hf (w'.setCell ⟨hb, 0, none⟩ v') v' (R ++ R2) ∧ w'.cell? ⟨hb, 0, none⟩ = some v ∧ w'.frozen? ⟨hb, 0, none⟩ = false := by
  have hlt := K.p.lt
  have hh : w'.heap[hb]? = some (.cells #[v] 32 (0, 0)) := (G.block hb hlt (fun e => K.p.ne e.symm)).trans K.p.hd
  have hf' : w'.heap[hf]? = _ := (G.block hf (Array.getElem?_eq_some_iff.1 K.f).1 (fun e => K.nf e.symm)).trans K.f
  have hne : v'.ownBlock ≠ some hb := own_ne o hh (by decide)
  refine ⟨⟨⟨by rw [Cfg.setCell_row hh]; rfl, ?_, hne⟩, ?_, ?_, K.lb, K.lf, K.ne⟩, by rw [cell_of_row _ _ 0 _ _ _ hh]; rfl, by simp [World.frozen?, hh]⟩
  · exact ownK_kept o fun g hg => Below.heap_setCell w' ⟨hb, 0, none⟩ v' g (by show g ≠ hb; intro e; rw [e] at hg; exact hne hg)
  · refine (K.b.trans (grown_below G K.size fun g hg => K.own g hg)).trans ⟨rfl, rfl, rfl, by simp [World.setCell], fun i hi => Below.heap_setCell w' ⟨hb, 0, none⟩ v' i (by show i ≠ hb; have := K.lb; omega)⟩
  · exact (Below.heap_setCell w' ⟨hb, 0, none⟩ v' hf K.ne).trans hf'
theorem step_appT {ops : Array Oper} {o : Oper} {a : Act} {Q : Exit → Act → World → Prop} {X : Prop} {J : Act → World → Prop} {B : Nat} {v1 : Value} {R1 : List Int} (hgd : o.guard = none) (s x : Operand)
    (ho : o.op = .call { callee := .builtin .append, args := #[s, x], argTypes := #[32, 9] }) (hB : B ≤ w.heap.size) (hs : a.eval s = v1) (hown : OwnK 5 .u8 w B v1 R1)
    (t : ByteArray) (hx : a.eval x = .string t) (hsz : R1.length + t.size ≤ 1000000)
    (h : ∀ v' w', OwnK 5 .u8 w' B v' (R1 ++ nameL t) → w.grownBy w' v1.ownBlock → J (a.put o.dst v') w') :
    if Region.wanted o (yielded ops a.tmps) = true then Oper.wp Tryd.prog o a w J Q else X := by
  obtain ⟨bb, hbb, hinfo⟩ := kdB.info
  obtain ⟨i, hi, hz0, hz1, hz2⟩ := info_parts info_u8
  obtain ⟨v', w', hr, h1, h2, -⟩ := Lib.run_append_own_string (P := Tryd.prog) w B 32 9 o.type 5 i Tryd.underlying32 Tryd.underlying9 hi hz0 hz1 hz2 v1 R1.length (kL .u8 R1) hown t (by unfold maxLen; omega) (by omega) hB
  rw [if_pos (by simp [Region.wanted, hgd])]
  refine Lib.wp_append_run w s x 32 9 ho v1 _ hs hx v' w' hr (h v' w' ?_ h2)
  unfold OwnK
  rw [List.length_append, nameL_len, kL, List.map_append]
  have e := nameL_cells t
  unfold kL at e
  rw [e]; exact h1
end
end Go.Proofs.YtogbhgbnminpdaaDoor.Pck
