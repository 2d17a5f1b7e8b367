
/-
  trunnionref1's keep: the state in memory of its own, no control register missing.
-/
import Derived.Test.YtnccfdkkedomcaaCpuOf
import Derived.Deep.RegionHeld3
namespace Go.Proofs.Ytnccfdkkedomcaa.Ser
open Go.Proofs.Ytnccfdkkedomcaa
open Go.ChangeShapes Go.WideShapes Go.ChangeAt Go.RowKit
/-- The state at hand in its box bo, its rows, the answer's box; all apart. -/
structure KeepR (w wx : World) (bo : Nat) (r c o : Value) (s : St) : Prop where
  x : Box6 wx bo r s.pc c s.h s.k o
  y : Box6 wx (w.heap.size + 1) (.slice none 0 0) 0 (.slice none 0 0) false false (.slice none 0 0)
  S : StO wx (w.heap.size + 2) r c o s
  b : Below w.heap.size w wx
  l : w.heap.size + 2 ≤ bo
  nr : r.ownBlock ≠ some bo
  nc : c.ownBlock ≠ some bo
  no : o.ownBlock ≠ some bo
/-- What lies in a row's block. -/
theorem ownK_range {E : TypeId} {k : IntKind} {w : World} {B g : Nat} {v : Value} {xs : List Int} (h : OwnK E k w B v xs) (hg : v.ownBlock = some g) : B ≤ g ∧ g < w.heap.size := h.lt g hg
theorem stO_sixOff {wx : World} {b B : Nat} {r c o : Value} {s : St} (h : StO wx B r c o s) (nr : r.ownBlock ≠ some b) (nc : c.ownBlock ≠ some b) (no : o.ownBlock ≠ some b) (v0 v1 v2 v3 v4 v5 : Value) : StO (six wx b v0 v1 v2 v3 v4 v5) B r c o s := by
  have off : ∀ {E : TypeId} {k : IntKind} {v : Value} {xs : List Int}, OwnK E k wx B v xs → v.ownBlock ≠ some b → OwnK E k (six wx b v0 v1 v2 v3 v4 v5) B v xs := fun h hn => ownK_off (ownK_off (ownK_off (ownK_off (ownK_off (ownK_off h hn _ _) hn _ _) hn _ _) hn _ _) hn _ _) hn _ _
  exact ⟨off h.or nr, off h.oc nc, off h.oo no, h.nr, h.no⟩
theorem keep_fin {w w2 ua u1 ub u2 uc u3 : World} {r c o : Value} {s : St} {r0 c0 o0 : Value} (T : Two6 w w2 r0 s.pc c0 s.h s.k o0) (ka : Below w2.heap.size w2 ua)
    (o1 : OwnK 3 .i64 u1 ua.heap.size r s.R) (t1 : Below ua.heap.size ua u1) (kb : Below u1.heap.size u1 ub)
    (o2 : OwnK 3 .i64 u2 ub.heap.size c s.C) (t2 : Below ub.heap.size ub u2) (kc : Below u2.heap.size u2 uc)
    (o3 : OwnK 5 .u8 u3 uc.heap.size o s.O) (t3 : Below uc.heap.size uc u3) :
    StO u3 (w.heap.size + 2) r c o s ∧ Below w2.heap.size w2 u3 ∧ (∀ g, r.ownBlock = some g → ua.heap.size ≤ g ∧ g < u1.heap.size) ∧ (∀ g, c.ownBlock = some g → ub.heap.size ≤ g ∧ g < u2.heap.size) ∧ (∀ g, o.ownBlock = some g → uc.heap.size ≤ g ∧ g < u3.heap.size) ∧ u1.heap.size ≤ ub.heap.size ∧ u2.heap.size ≤ uc.heap.size ∧ w2.heap.size ≤ ua.heap.size ∧ ua.heap.size ≤ u1.heap.size ∧ ub.heap.size ≤ u2.heap.size ∧ uc.heap.size ≤ u3.heap.size := by
  have l0 := T.lt
  have a1 := ka.size; have a2 := t1.size; have a3 := kb.size; have a4 := t2.size; have a5 := kc.size; have a6 := t3.size
  have k1 := ka.trans (t1.mono a1)
  have k2 := k1.trans ((kb.trans (t2.mono a3)).mono k1.size)
  have k3 := k2.trans ((kc.trans (t3.mono a5)).mono k2.size)
  have R3 := ownK_below (ownK_below (ownK_below (ownK_below o1 kb) t2) kc) t3
  have C3 := ownK_below (ownK_below o2 kc) t3
  refine ⟨⟨ownK_mono R3 (by omega), ownK_mono C3 (by omega), ownK_mono o3 (by omega), fun g h1 h2 => ?_, fun g h1 h2 => ?_⟩, k3, fun g h => o1.lt g h, fun g h => o2.lt g h, fun g h => o3.lt g h, a3, a5, a1, a2, a4, a6⟩
  · have := o2.lt g h1; have := o1.lt g h2; omega
  · have := o2.lt g h1; have := o3.lt g h2; omega
theorem keepR_six {w w2 u3 : World} {bo : Nat} {r c o r0 c0 o0 : Value} {s : St} (T : Two6 w w2 r0 s.pc c0 s.h s.k o0) (hk : Below w2.heap.size w2 u3) (S : StO u3 (w.heap.size + 2) r c o s) (yz : Box6 u3 bo (.slice none 0 0) 0 (.slice none 0 0) false false (.slice none 0 0)) (l : w2.heap.size ≤ bo)
    (nr : r.ownBlock ≠ some bo) (nc : c.ownBlock ≠ some bo) (no : o.ownBlock ≠ some bo) : KeepR w (six u3 bo r (i64 s.pc) c (.bool s.h) (.bool s.k) o) bo r c o s := by
  have l0 := T.lt
  have y := T.y.kept hk T.y.lt
  exact ⟨yz.six _ _ _ _ _ _, (((((y.off (by omega) _ _).off (by omega) _ _).off (by omega) _ _).off (by omega) _ _).off (by omega) _ _).off (by omega) _ _, stO_sixOff S nr nc no _ _ _ _ _ _, six_below (T.b.trans (hk.mono (by omega))) (by omega) _ _ _ _ _ _, by omega, nr, nc, no⟩
theorem keepR_fused {w w2 u3 : World} {r c o r0 c0 o0 : Value} {s : St} (T : Two6 w w2 r0 s.pc c0 s.h s.k o0) (hk : Below w2.heap.size w2 u3) (S : StO u3 (w.heap.size + 2) r c o s) : KeepR w (u3.alloc (.cells #[r, i64 s.pc, c, .bool s.h, .bool s.k, o] 31)) u3.heap.size r c o s := by
  have l0 := T.lt
  have l1 := hk.size
  have ha := (Below.refl u3.heap.size u3).alloc (Nat.le_refl _) (.cells #[r, i64 s.pc, c, .bool s.h, .bool s.k, o] 31)
  have y := T.y.kept hk T.y.lt
  refine ⟨Box6.new _ _ _ _ _ _ _, y.kept ha y.lt, S.below ha, (T.b.trans (hk.mono (by omega))).trans (ha.mono (by omega)), by omega, fun e => ?_, fun e => ?_, fun e => ?_⟩
  · have := S.or.lt _ e; omega
  · have := S.oc.lt _ e; omega
  · have := S.oo.lt _ e; omega
/-- An append to a row of one's own, and all that it leaves as it lay. -/
theorem wpList_appG {T E : TypeId} {k : IntKind} {w : World} {B : Nat} {ops : Array Oper} {rest : List Oper} {ot : Oper} {a : Act} {Q : Exit → Act → World → Prop} (K : Kd T E k) (hgd : ot.guard = none) (s x : Operand)
    (ho : ot.op = .call { callee := .builtin .append, args := #[s, x], argTypes := #[T, T] }) (hB : B ≤ w.heap.size) {v1 : Value} {R1 : List Int} (hs : a.eval s = v1) (hown : OwnK E k w B v1 R1)
    {ad : Addr} {m c : Nat} (R2 : List Int) (hx : a.eval x = .slice (some ad) m c) (hm : R2.length = m) (hsrc : ∀ j u, (kL k R2)[j]? = some u → w.cell? (ad.add j) = some u) (hsz : R1.length + m ≤ 1000000)
    (h : ∀ v' w', OwnK E k w' B v' (R1 ++ R2) → But (fun i => v1.ownBlock = some i) w w' → (∀ g, v'.ownBlock = some g → v1.ownBlock = some g ∨ w.heap.size ≤ g) → wpList Try.prog ops Q rest (a.put ot.dst v') w') : wpList Try.prog ops Q (ot :: rest) a w := by
  obtain ⟨bb, hbb, hinfo⟩ := K.info
  obtain ⟨i, hi, hz0, hz1, hz2⟩ := info_parts hinfo
  obtain ⟨v', w', hr, h2, h3, -, h5⟩ := run_append_own_at (P := Try.prog) w B T ot.type E i _ 1 bb K.under hi hz0 hz1 hz2 rfl (by decide) v1 R1.length (kL k R1) hown ad m c (kL k R2) (by rw [List.length_map, hm, Nat.mul_one]) hsrc (kL_one _ _) (by unfold maxLen; omega) (by have : (R1.length + m) * bb ≤ 1000000 * 8 := Nat.mul_le_mul hsz hbb; omega) hB
  refine Lib.wpList_append_run w hgd s x T T ho v1 _ hs hx v' w' hr (h v' w' ?_ ⟨h3.os, h3.tape, h3.output, h3.size, fun g hg hn => h3.block g hg (fun e => hn e.symm)⟩ ?_)
  · have e : kL k (R1 ++ R2) = kL k R1 ++ kL k R2 := List.map_append
    unfold OwnK; rw [List.length_append, e, hm]; exact h2
  · intro g hg
    rcases h5 with h5 | h5
    · exact .inl (by rw [← h5]; exact hg)
    · rw [h5] at hg; injection hg with hg; exact .inr (by omega)
theorem keepR_grow {w wr w' : World} {bo : Nat} {r c o c' : Value} {s : St} {xs : List Int} (K : KeepR w wr bo r c o s) (ob : Obj) (hO : OwnK 3 .i64 w' (w.heap.size + 2) c' xs) (hb : But (fun i => c.ownBlock = some i) (wr.alloc ob) w')
    (hv : ∀ g, c'.ownBlock = some g → c.ownBlock = some g ∨ (wr.alloc ob).heap.size ≤ g) : KeepR w (w'.setCell ⟨bo, 2, none⟩ c') bo r c' o { s with C := xs } ∧ w'.cell? ⟨bo, 2, none⟩ = some c ∧ w'.frozen? ⟨bo, 2, none⟩ = false := by
  have hs : (wr.alloc ob).heap.size = wr.heap.size + 1 := by simp
  have keep : ∀ i, i < wr.heap.size → c.ownBlock ≠ some i → w'.heap[i]? = wr.heap[i]? := fun i hi hn => (hb.block i (by omega) hn).trans (Below.heap_alloc _ _ _ hi)
  have hx : Box6 w' bo r s.pc c s.h s.k o := (keep bo K.x.lt K.nc).trans K.x
  have l := K.l
  have hc2 : ∀ g, c.ownBlock = some g → w.heap.size + 2 ≤ g ∧ g < wr.heap.size := fun g hg => K.S.oc.lt g hg
  have hy : Box6 w' (w.heap.size + 1) (.slice none 0 0) 0 (.slice none 0 0) false false (.slice none 0 0) := (keep _ K.y.lt (fun e => by have := hc2 _ e; omega)).trans K.y
  have hR : OwnK 3 .i64 w' (w.heap.size + 2) r s.R := ownK_kept K.S.or fun g hg => keep g (K.S.or.lt g hg).2 (fun e => K.S.nr g e hg)
  have hOo : OwnK 5 .u8 w' (w.heap.size + 2) o s.O := ownK_kept K.S.oo fun g hg => keep g (K.S.oo.lt g hg).2 (fun e => K.S.no g e hg)
  have nc' : c'.ownBlock ≠ some bo := fun e => by
    rcases hv _ e with h | h
    · exact K.nc h
    · have := K.x.lt; omega
  refine ⟨⟨hx.set2 c', hy.off (by omega) _ _, ⟨ownK_off hR K.nr _ _, ownK_off hO nc' _ _, ownK_off hOo K.no _ _, fun g hg h2 => ?_, fun g hg h2 => ?_⟩, ?_, l, K.nr, nc', K.no⟩, hx.c2, hx.free 2⟩
  · rcases hv g hg with h | h
    · exact K.S.nr g h h2
    · have := (K.S.or.lt g h2).2; omega
  · rcases hv g hg with h | h
    · exact K.S.no g h h2
    · have := (K.S.oo.lt g h2).2; omega
  · have b1 : Below w.heap.size (wr.alloc ob) w' := hb.below (by have := K.b.size; omega) fun i hi => by have := hc2 i hi; omega
    exact ((K.b.alloc K.b.size ob).trans b1).setCell (by show w.heap.size ≤ bo; omega) _
/-- How many control registers are missing yet. -/
def missing (w : World) (bo : Nat) : Nat := match w.cell? ⟨bo, 2, none⟩ with | some (.slice _ n _) => 11 - n | _ => 0
theorem missing_of {w : World} {bo n : Nat} {p : Option Addr} {q : Nat} (h : w.cell? ⟨bo, 2, none⟩ = some (.slice p n q)) : missing w bo = 11 - n := by unfold missing; rw [h]
theorem one_cell (w : World) (x : Int) : ∀ j u, (kL .i64 [x])[j]? = some u → (w.alloc (.cells #[i64 x] 3)).cell? ((⟨w.heap.size, 0, none⟩ : Addr).add j) = some u := by
  intro j u hu
  rw [Addr.add_lit, Nat.zero_add, cell_of_row _ w.heap.size j _ _ _ (by rw [heap_alloc_new])]
  simpa using hu
set_option maxRecDepth 100000 in
set_option maxHeartbeats 4000000 in
theorem keep_rows {w : World} {v : Value} {s : St} (A : StL w w.heap.size v s) (hf : s.R.length ≤ 1000 ∧ s.C.length ≤ 1000 ∧ s.O.length ≤ 10000) (m : Option Addr) :
    Calls Try.prog 58 #[v, .pointer m] w fun e w' => ∃ r c o, e = .returned (stV r c o { s with C := pad s.C }) ∧ StO w' w.heap.size r c o { s with C := pad s.C } ∧ Below w.heap.size w w' := by
  obtain ⟨rp, rn, rc, cp, cn, cc, op, on, oc, rfl, h1, h2, h3⟩ := A
  obtain ⟨f1, f2, f3⟩ := hf
  rw [h1.len] at f1; rw [h2.len] at f2; rw [h3.len] at f3
  have hT := Two6.start w (.slice rp rn rc) s.pc (.slice cp cn cc) s.h s.k (.slice op on oc)
  have hlt := hT.lt
  have hcl := h2.len
  go_enter Try.func58, Try.ntmps58
  go_upto_region 1 with fail
  obtain ⟨w2, hw2⟩ : ∃ w2, w2 = ((w.alloc (.cells #[.slice rp rn rc, i64 s.pc, .slice cp cn cc, .bool s.h, .bool s.k, .slice op on oc] 31)).alloc (.cells #[.slice none 0 0, i64 0, .slice none 0 0, .bool false, .bool false, .slice none 0 0] 31)) := ⟨_, rfl⟩
  rw [← hw2] at hT hlt ⊢
  clear hw2
  have HS1 := Lib.hid (fun u (k : Below w2.heap.size w2 u) => ((h1.kept hT.b (Nat.le_refl _)).kept k (by omega)).src)
  have HS2 := Lib.hid (fun u (k : Below w2.heap.size w2 u) => ((h2.kept hT.b (Nat.le_refl _)).kept k (by omega)).src)
  have HS3 := Lib.hid (fun u (k : Below w2.heap.size w2 u) => ((h3.kept hT.b (Nat.le_refl _)).kept k (by omega)).src)
  have N1 := Lib.hid h1.len; have N2 := Lib.hid h2.len; have N3 := Lib.hid h3.len; have Q1 := Lib.hid h1.nil; have Q2 := Lib.hid h2.nil; have Q3 := Lib.hid h3.nil
  have F1 := Lib.hid f1; have F2 := Lib.hid f2; have F3 := Lib.hid f3
  have HT := Lib.hid hT; have HLT := Lib.hid hlt; have HCL := Lib.hid hcl
  go_cut [5] from 6 (fun s5 wx => ∃ bo p1 n1 q1 p2 n2 q2 p3 n3 q3, s5 = .pointer (some ⟨bo, 0, none⟩) ∧ KeepR w wx bo (.slice p1 n1 q1) (.slice p2 n2 q2) (.slice p3 n3 q3) s)
  case first =>
    have HC0 : ∀ u, Below w2.heap.size w2 u → u.cell? ⟨w.heap.size, 0, none⟩ = some (.slice rp rn rc) := fun u k => (hT.x.kept k hT.x.lt).c0
    have HC1 : ∀ u, Below w2.heap.size w2 u → u.cell? ⟨w.heap.size, 1, none⟩ = some (i64 s.pc) := fun u k => (hT.x.kept k hT.x.lt).c1
    have HC2 : ∀ u, Below w2.heap.size w2 u → u.cell? ⟨w.heap.size, 2, none⟩ = some (.slice cp cn cc) := fun u k => (hT.x.kept k hT.x.lt).c2
    have HC3 : ∀ u, Below w2.heap.size w2 u → u.cell? ⟨w.heap.size, 3, none⟩ = some (.bool s.h) := fun u k => (hT.x.kept k hT.x.lt).c3
    have HC4 : ∀ u, Below w2.heap.size w2 u → u.cell? ⟨w.heap.size, 4, none⟩ = some (.bool s.k) := fun u k => (hT.x.kept k hT.x.lt).c4
    have HC5 : ∀ u, Below w2.heap.size w2 u → u.cell? ⟨w.heap.size, 5, none⟩ = some (.slice op on oc) := fun u k => (hT.x.kept k hT.x.lt).c5
    have hd0 : Below w2.heap.size w2 w2.drew := (Below.refl _ _).drew
    have hd1 : ∀ o, Below w2.heap.size w2 (w2.alloc o).drew := fun o => ((Below.refl _ _).alloc (Nat.le_refl _) o).drew
    clear h1 h2 h3 f1 f2 f3 hT hlt hcl
    go_region_held3 (fun u => Below w2.heap.size w2 u)
      (first | with_reducible exact hd0 | with_reducible exact hd1 _ | with_reducible exact s3 | with_reducible exact s2 | with_reducible exact s1 | with_reducible exact hd0.alloc hd0.size _ | with_reducible exact s3.alloc s3.size _ | with_reducible exact s2.alloc s2.size _ | with_reducible exact s1.alloc s1.size _ | with_reducible exact six_below s3 (by first | exact Nat.le_refl _ | exact s1.size | exact s2.size | exact s3.size) _ _ _ _ _ _)
      (first
        | (refine step_appK kdI rfl _ _ rfl (Nat.le_refl _) (v1 := .slice none 0 0) (R1 := []) rfl (ownK_nil _ _ _ _) s.R (p := rp) (m := rn) (c := rc) rfl N1.out Q1.out (HS1.out _ (by assumption)) (by have := F1.out; have h3 : ([] : List Int).length = 0 := rfl; omega) ?_; intro v1 u1 o1 t1 _; obtain ⟨p1, q1, rfl, -, -⟩ := ownK_lie o1; rw [List.nil_append] at o1; have s1 : Below w2.heap.size w2 u1 := (show Below w2.heap.size w2 _ by assumption).trans (t1.mono (show Below w2.heap.size w2 _ by assumption).size); (first | with_reducible have yz := (Box6.new _ (.slice none 0 0) 0 (.slice none 0 0) false false (.slice none 0 0)).kept t1 (by simp) | with_reducible have yz := (Box6.drew (Box6.new _ (.slice none 0 0) 0 (.slice none 0 0) false false (.slice none 0 0))).kept t1 (by simp) | skip))
        | (refine step_appK kdI rfl _ _ rfl (Nat.le_refl _) (v1 := .slice none 0 0) (R1 := []) rfl (ownK_nil _ _ _ _) s.C (p := cp) (m := cn) (c := cc) rfl N2.out Q2.out (HS2.out _ (by assumption)) (by have := F2.out; have h3 : ([] : List Int).length = 0 := rfl; omega) ?_; intro v2 u2 o2 t2 _; obtain ⟨p2, q2, rfl, -, -⟩ := ownK_lie o2; rw [List.nil_append] at o2; have s2 : Below w2.heap.size w2 u2 := (show Below w2.heap.size w2 _ by assumption).trans (t2.mono (show Below w2.heap.size w2 _ by assumption).size); (first | with_reducible have yz := yz.kept t2 yz.lt | with_reducible have yz := (Box6.new _ (.slice none 0 0) 0 (.slice none 0 0) false false (.slice none 0 0)).kept t2 (by simp) | skip))
        | (refine step_appK kdB rfl _ _ rfl (Nat.le_refl _) (v1 := .slice none 0 0) (R1 := []) rfl (ownK_nil _ _ _ _) s.O (p := op) (m := on) (c := oc) rfl N3.out Q3.out (HS3.out _ (by assumption)) (by have := F3.out; have h3 : ([] : List Int).length = 0 := rfl; omega) ?_; intro v3 u3 o3 t3 _; obtain ⟨p3, q3, rfl, -, -⟩ := ownK_lie o3; rw [List.nil_append] at o3; have s3 : Below w2.heap.size w2 u3 := (show Below w2.heap.size w2 _ by assumption).trans (t3.mono (show Below w2.heap.size w2 _ by assumption).size); (first | with_reducible have yz := yz.kept t3 yz.lt | with_reducible have yz := (Box6.new _ (.slice none 0 0) 0 (.slice none 0 0) false false (.slice none 0 0)).kept t3 (by simp) | skip); (first | obtain ⟨e0, e1, e2, e3, e4, e5⟩ := yz.cells | skip); (first | obtain ⟨g0, g1, g2, g3, g4, g5⟩ := yz.frees | skip)))
    all_goals
      go_wp2_with fail
      go_meet
      case rel =>
        obtain ⟨S, hk, ra, rb, rc, z1, z2, z3, z4, z5, z6⟩ := keep_fin HT.out (by first | with_reducible exact hd0 | with_reducible exact hd1 _) o1 t1 (by first | with_reducible exact Below.refl _ _ | with_reducible exact (Below.refl _ _).alloc (Nat.le_refl _) _) o2 t2 (by first | with_reducible exact Below.refl _ _ | with_reducible exact (Below.refl _ _).alloc (Nat.le_refl _) _) o3 t3
        have q0 : w2.drew.heap.size = w2.heap.size := rfl
        have q1 : ∀ (u : World) (o : Obj), (u.alloc o).heap.size = u.heap.size + 1 := fun u o => by simp
        have q2 : ∀ (u : World) (o : Obj), (u.alloc o).drew.heap.size = u.heap.size + 1 := fun u o => q1 u o
        simp only [q0, q1, q2] at ra rb rc z1 z2 z3 z4 z5 z6
        first
          | with_reducible exact ⟨_, _, _, _, _, _, _, _, _, _, rfl, keepR_fused HT.out hk S⟩
          | with_reducible exact ⟨_, _, _, _, _, _, _, _, _, _, rfl, keepR_six HT.out hk S yz (by omega) (fun e => by have h := ra _ e; omega) (fun e => by have h := rb _ e; omega) (fun e => by have h := rc _ e; omega)⟩
  case rest =>
    obtain ⟨bo, p1, n1, q1, p2, n2, q2, p3, n3, q3, rfl, K⟩ := hcut
    clear h1 h2 h3 hT hlt HS1 HS2 HS3 HT
    have HK := Lib.hid K
    clear K
    go_wp2_with fail
    go_loopw [] (fun wr => ∃ (j : Nat) (p : Option Addr) (n q : Nat), j ≤ 11 - cn ∧ KeepR w wr bo (.slice p1 n1 q1) (.slice p n q) (.slice p3 n3 q3) { s with C := s.C ++ List.replicate j 0 }) (fun wr => missing wr bo)
    case atStart => exact ⟨0, p2, n2, q2, by omega, by simpa using HK.out⟩
    case round =>
      clear HK
      obtain ⟨j, p, n, q, hj, K⟩ := hrel
      obtain ⟨pp, qq, e, -, -⟩ := ownK_lie K.S.oc
      injection e with e1 e2 e3
      have hn : n = cn + j := by rw [e2]; simp; omega
      clear e1 e2 e3
      have d2 := K.x.c2
      by_cases hlt : n < 11
      · have i1 : (n : Int) < 11 := by omega
        have HK := Lib.hid K; have HN := Lib.hid hn
        have hO := Lib.hid (ownK_below K.S.oc ((Below.refl wr.heap.size wr).alloc (Nat.le_refl _) (.cells #[i64 0] 3)))
        have hZ := Lib.hid (show w.heap.size + 2 ≤ (wr.alloc (.cells #[i64 0] 3)).heap.size by have := K.x.lt; have := K.l; simp; omega)
        have hM := Lib.hid (missing_of d2)
        clear K hn
        go_wp2_with (at_builtin; (refine wpList_appG kdI rfl _ _ rfl hZ.out (R1 := s.C ++ List.replicate j 0) rfl hO.out [0] rfl rfl (one_cell wr 0) (by simp; have := HN.out; have := HCL.out; omega) ?_; intro v' w4 o4 b4 x4; obtain ⟨p4, q4, rfl, -, -⟩ := ownK_lie o4; obtain ⟨n4, hn4⟩ : ∃ n4, (s.C ++ List.replicate j 0 ++ [0]).length = n4 := ⟨_, rfl⟩; rw [hn4] at o4 x4 ⊢; obtain ⟨K4, y2, y3⟩ := keepR_grow HK.out _ o4 b4 x4; have HK4 := Lib.hid K4; have HN4 := Lib.hid hn4; clear o4 b4 x4 K4 hn4))
        go_roundw
        case rel =>
          refine ⟨j + 1, p4, n4, q4, by have := HN.out; omega, ?_⟩
          have e : s.C ++ List.replicate (j + 1) 0 = s.C ++ List.replicate j 0 ++ [0] := by rw [List.replicate_succ', List.append_assoc]
          rw [e]
          exact HK4.out
        case measure =>
          have m2 := missing_of HK4.out.x.c2
          have m1 := hM.out
          have e : n4 = cn + j + 1 := by rw [← HN4.out]; simp; have := HCL.out; omega
          have := HN.out
          omega
      · have i1 : ¬ (n : Int) < 11 := by omega
        have hp : s.C ++ List.replicate j 0 = pad s.C := by unfold pad; congr 2; omega
        rw [hp] at K
        obtain ⟨b0, b1, b2, b3, b4, b5⟩ := K.x.cells
        obtain ⟨d0, d1, d3, d4, d5, d6⟩ := K.y.cells
        obtain ⟨g0, g1, g2, g3, g4, g5⟩ := K.y.frees
        have Y := K.y.six (.slice p1 n1 q1) s.pc (.slice p n q) s.h s.k (.slice p3 n3 q3)
        obtain ⟨y0, y1, y2, y3, y4, y5⟩ := Y.cells
        have hS := Lib.hid ((K.S.six (b := w.heap.size + 1) (by omega) (.slice p1 n1 q1) (i64 s.pc) (.slice p n q) (.bool s.h) (.bool s.k) (.slice p3 n3 q3)).mono (B' := w.heap.size) (by omega))
        have hB := Lib.hid (six_below K.b (b := w.heap.size + 1) (by omega) (.slice p1 n1 q1) (i64 s.pc) (.slice p n q) (.bool s.h) (.bool s.k) (.slice p3 n3 q3))
        clear K Y hp hn
        go_wp2_with fail
        exact bodyPost_ret (v := stV (.slice p1 n1 q1) (.slice p n q) (.slice p3 n3 q3) { s with C := pad s.C }) (by simp [results, Try.results58, go_sem, y0, y1, y2, y3, y4, y5]) rfl ⟨_, _, _, rfl, hS.out, hB.out⟩
end Go.Proofs.Ytnccfdkkedomcaa.Ser
