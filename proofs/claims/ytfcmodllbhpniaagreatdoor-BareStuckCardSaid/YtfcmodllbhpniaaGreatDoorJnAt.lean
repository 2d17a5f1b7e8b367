/-
  A machine behind a law's beginning (MaAt): New, Run, Step, State, In, Reset as calls of a law. | The laws' example: wfi stands still, while time goes.
-/
import Derived.Test.YtfcmodllbhpniaaGreatDoorJnBareZ
import Derived.Test.YtfcmodllbhpniaaGreatDoorJnCode
import Derived.Test.YtfcmodllbhpniaaGreatDoorJnBareS1
set_option linter.unusedVariables false
set_option maxRecDepth 100000
set_option linter.unusedVariables false
namespace Go.Proofs.YtfcmodllbhpniaaGreatDoor.Ser
open Go.Proofs.YtfcmodllbhpniaaGreatDoor
open Go.ChangeShapes Go.WideShapes Go.ChangeAt Go.RowKit
/-- A new machine of S bytes, with an image's bytes and its entry. -/
def newM (S : Nat) (xs : List Int) (en : Int) (tx : List Int) : Ma := ⟨List.replicate 16 0, wd en, 4 :: List.replicate 10 0, xs.take S ++ List.replicate (S - (xs.take S).length) 0, [], tx, false, false⟩
/-- In w, behind w0, lies a machine, in blocks F that came behind w0. -/
structure MaAt (w0 w : World) (F : Nat → Prop) (h S : Nat) (xs : List Int) (en : Int) (m : Ma) : Prop where
  ex : ∃ L, L.h = h ∧ L.bs = xs.take S ∧ L.en = wd en ∧ (Bm L m).is w F
  lo : ∀ i, F i → w0.heap.size ≤ i
  b : Below w0.heap.size w0 w
  g : Glob w0
  ml : m.M.length = S
  xb : Byt xs
/-- What a call of it leaves: blocks of its own, or new ones. -/
structure Moved (F F' : Nat → Prop) (w w' : World) : Prop where
  n : ∀ i, F' i → F i ∨ w.heap.size ≤ i
  b : But F w w'
section
variable {w0 w w' : World} {F F' : Nat → Prop} {h S : Nat} {xs : List Int} {en : Int} {m m' : Ma}
theorem glob_lt (hg : Glob w0) : 0 < w0.heap.size := World.block_lt_of_cell? w0 _ hg
theorem MaAt.lt (A : MaAt w0 w F h S xs en m) : ∀ i, F i → i < w.heap.size := by obtain ⟨L, -, -, -, p⟩ := A.ex; exact (Bm L m).lt _ _ p
theorem MaAt.kept (A : MaAt w0 w F h S xs en m) (hk : ∀ i, F i → w'.heap[i]? = w.heap[i]?) (hb : Below w0.heap.size w w') : MaAt w0 w' F h S xs en m := by
  obtain ⟨⟨L, e1, e2, e3, p⟩, lo, b, g, ml, xb⟩ := A
  exact ⟨⟨L, e1, e2, e3, (Bm L m).firm _ _ _ p hk⟩, lo, b.trans hb, g, ml, xb⟩
theorem MaAt.later (A : MaAt w0 w F h S xs en m) (hb : Below w.heap.size w w') : MaAt w0 w' F h S xs en m :=
  A.kept (fun i hi => hb.block i (A.lt i hi)) (hb.mono A.b.size)
theorem MaAt.sees (A : MaAt w0 w F h S xs en m) : ∃ L ov gr cr gc cc, L.h = h ∧ L.bs = xs.take S ∧ L.en = wd en ∧ Sees w F L m ov gr cr gc cc ∧ Apart0 w F := by
  obtain ⟨⟨L, e1, e2, e3, p⟩, lo, b, g, ml, xb⟩ := A
  obtain ⟨ov, gr, cr, gc, cc, S1⟩ := bm_sees p
  have hl := glob_lt g
  exact ⟨L, ov, gr, cr, gc, cc, e1, e2, e3, S1, ⟨(World.cell?_of_block (b.block 0 hl)).trans g, fun h => by have := lo 0 h; omega⟩⟩
theorem MaAt.step {L : Lay} (A : MaAt w0 w F h S xs en m) (e1 : L.h = h) (e2 : L.bs = xs.take S) (e3 : L.en = wd en) (s : Step F (Bm L m') w w') (hm : m'.M.length = S) : ∃ F', MaAt w0 w' F' h S xs en m' ∧ Moved F F' w w' := by
  obtain ⟨-, lo, b, g, -, xb⟩ := A
  obtain ⟨F', p', n', b'⟩ := s
  exact ⟨F', ⟨⟨L, e1, e2, e3, p'⟩, fun i hi => by
    rcases n' i hi with h | h
    · exact lo i h
    · have := b.size; omega, b.trans (b'.below b.size lo), g, hm, xb⟩, ⟨n', b'⟩⟩
theorem new_at (n en : Int) {p : Option Addr} {k c : Nat} (hg : Glob w) (li : Lie .u8 w w.heap.size p k c xs) (hk : k ≤ 100000) (hb : Byt xs) :
    Calls Tryz.prog 9 #[i64 n, .agg #[i64 en, .slice p k c], .nilIface] w fun e w' => ∃ h F, e = .returned (.pointer (some ⟨h, 0, none⟩)) ∧ MaAt w w' F h (pg n * 4096) xs en (newM (pg n * 4096) xs en []) :=
  (bm_new n en li hk hb).mono fun e w' ⟨h, hm, g, bv, F, he, p1, p2, p3⟩ => ⟨h, F, he, ⟨_, rfl, rfl, rfl, p1⟩, p2, p3, hg, by unfold newM; simp; omega, hb⟩
theorem run_at (A : MaAt w0 w F h S xs en m) (n : Nat) (hn : n ≤ 100000) (hx : m.tx.length + n ≤ 100000) :
    Calls Tryz.prog 11 #[.pointer (some ⟨h, 0, none⟩), i64 n] w fun e w' => e = .returned (i64 (m.run n).1) ∧ ∃ F', MaAt w0 w' F' h S xs en (m.run n).2 ∧ Moved F F' w w' := by
  obtain ⟨L, ov, gr, cr, gc, cc, e1, e2, e3, S1, a0⟩ := A.sees
  have := bm_run S1 a0 n hn hx
  rw [e1] at this
  exact this.mono fun e w' ⟨h1, h2⟩ => ⟨h1, A.step e1 e2 e3 h2 ((tx_run n m).2.trans A.ml)⟩
theorem state_at (A : MaAt w0 w F h S xs en m) (hx : m.tx.length < 100000) :
    Calls Tryz.prog 23 #[.pointer (some ⟨h, 0, none⟩)] w fun e w' => ∃ r c o, e = .returned (stV r c o (tells m)) ∧ StO w' w.heap.size r c o (tells m) ∧ Below w.heap.size w w' := by
  obtain ⟨L, ov, gr, cr, gc, cc, e1, e2, e3, S1, a0⟩ := A.sees
  have := bm_state S1 hx
  rw [e1] at this
  exact this
/-- A state that is told, written out. -/
structure Told6 (w : World) (s : St) (rp : Option Addr) (rn rc : Nat) (cp : Option Addr) (cn cc : Nat) (op : Option Addr) (on oc : Nat) : Prop where
  r : Lie .i64 w w.heap.size rp rn rc s.R
  c : Lie .i64 w w.heap.size cp cn cc s.C
  o : Lie .u8 w w.heap.size op on oc s.O
theorem Told6.later {s : St} {rp cp op : Option Addr} {rn rc cn cc on oc : Nat} (T : Told6 w s rp rn rc cp cn cc op on oc) (hb : Below w.heap.size w w') : Told6 w' s rp rn rc cp cn cc op on oc :=
  ⟨(T.r.kept hb (Nat.le_refl _)).wide hb.size, (T.c.kept hb (Nat.le_refl _)).wide hb.size, (T.o.kept hb (Nat.le_refl _)).wide hb.size⟩
theorem Told6.stL {s : St} {rp cp op : Option Addr} {rn rc cn cc on oc : Nat} (T : Told6 w s rp rn rc cp cn cc op on oc) : StL w w.heap.size (.agg #[.slice rp rn rc, i64 s.pc, .slice cp cn cc, .bool s.h, .bool s.k, .slice op on oc]) s :=
  ⟨_, _, _, _, _, _, _, _, _, rfl, T.r, T.c, T.o⟩
theorem state_told (A : MaAt w0 w F h S xs en m) (hx : m.tx.length < 100000) :
    Calls Tryz.prog 23 #[.pointer (some ⟨h, 0, none⟩)] w fun e w' => ∃ rp rn rc cp cn cc op on oc, e = .returned (.agg #[.slice rp rn rc, i64 m.pc, .slice cp cn cc, .bool m.halt, .bool m.stuck, .slice op on oc]) ∧ (∀ u, (∀ i, w.heap.size ≤ i → i < w'.heap.size → u.heap[i]? = w'.heap[i]?) → Told6 u (tells m) rp rn rc cp cn cc op on oc) ∧ Below w.heap.size w w' :=
  (state_at A hx).mono fun e w' ⟨r, c, o, he, so, b⟩ => by
    obtain ⟨rp, rc, e1, -, -⟩ := ownK_lie so.or
    obtain ⟨cp, cc, e2, -, -⟩ := ownK_lie so.oc
    obtain ⟨op, oc, e3, -, -⟩ := ownK_lie so.oo
    subst e1 e2 e3
    exact ⟨rp, _, rc, cp, _, cc, op, _, oc, he, fun u hu =>
      ⟨Box.lie_of (ownK_kept so.or fun g hg => hu g (so.or.lt g hg).1 (so.or.lt g hg).2), Box.lie_of (ownK_kept so.oc fun g hg => hu g (so.oc.lt g hg).1 (so.oc.lt g hg).2), Box.lie_of (ownK_kept so.oo fun g hg => hu g (so.oo.lt g hg).1 (so.oo.lt g hg).2)⟩, b⟩
/-- A told state in a box. -/
structure BoxT (w : World) (g : Nat) (rp : Option Addr) (rn rc : Nat) (pc : Int) (cp : Option Addr) (cn cc : Nat) (ht st : Bool) (op : Option Addr) (on oc : Nat) : Prop where
  row : w.heap[g]? = some (.cells #[.slice rp rn rc, i64 pc, .slice cp cn cc, .bool ht, .bool st, .slice op on oc] 55 (0, 0))
section
variable {g : Nat} {rp cp op : Option Addr} {rn rc cn cc on oc : Nat} {pc : Int} {ht st : Bool}
theorem BoxT.kept (B : BoxT w g rp rn rc pc cp cn cc ht st op on oc) (hb : w'.heap[g]? = w.heap[g]?) : BoxT w' g rp rn rc pc cp cn cc ht st op on oc := ⟨hb.trans B.row⟩
theorem BoxT.later (B : BoxT w g rp rn rc pc cp cn cc ht st op on oc) (hb : Below w.heap.size w w') : BoxT w' g rp rn rc pc cp cn cc ht st op on oc := ⟨(hb.block g (Array.getElem?_eq_some_iff.1 B.row).1).trans B.row⟩
theorem BoxT.c0 (B : BoxT w g rp rn rc pc cp cn cc ht st op on oc) : w.cell? ⟨g, 0, none⟩ = some (.slice rp rn rc) := by rw [cell_of_row w g 0 _ _ _ B.row]; rfl
theorem BoxT.c1 (B : BoxT w g rp rn rc pc cp cn cc ht st op on oc) : w.cell? ⟨g, 1, none⟩ = some (i64 pc) := by rw [cell_of_row w g 1 _ _ _ B.row]; rfl
theorem BoxT.c2 (B : BoxT w g rp rn rc pc cp cn cc ht st op on oc) : w.cell? ⟨g, 2, none⟩ = some (.slice cp cn cc) := by rw [cell_of_row w g 2 _ _ _ B.row]; rfl
theorem BoxT.c3 (B : BoxT w g rp rn rc pc cp cn cc ht st op on oc) : w.cell? ⟨g, 3, none⟩ = some (.bool ht) := by rw [cell_of_row w g 3 _ _ _ B.row]; rfl
theorem BoxT.c4 (B : BoxT w g rp rn rc pc cp cn cc ht st op on oc) : w.cell? ⟨g, 4, none⟩ = some (.bool st) := by rw [cell_of_row w g 4 _ _ _ B.row]; rfl
theorem BoxT.c5 (B : BoxT w g rp rn rc pc cp cn cc ht st op on oc) : w.cell? ⟨g, 5, none⟩ = some (.slice op on oc) := by rw [cell_of_row w g 5 _ _ _ B.row]; rfl
theorem BoxT.new (w : World) (rp : Option Addr) (rn rc : Nat) (pc : Int) (cp : Option Addr) (cn cc : Nat) (ht st : Bool) (op : Option Addr) (on oc : Nat) : BoxT (w.alloc (.cells #[.slice rp rn rc, i64 pc, .slice cp cn cc, .bool ht, .bool st, .slice op on oc] 55)) w.heap.size rp rn rc pc cp cn cc ht st op on oc := ⟨heap_alloc_new w _⟩
end
end
end Go.Proofs.YtfcmodllbhpniaaGreatDoor.Ser
set_option maxRecDepth 100000
set_option linter.unusedVariables false
namespace Go.Proofs.YtfcmodllbhpniaaGreatDoor.Ser
open Go.Proofs.YtfcmodllbhpniaaGreatDoor Go.Proofs.YtfcmodllbhpniaaGreatDoor.Img Go.Proofs.YtfcmodllbhpniaaGreatDoor.Box
open Go.ChangeShapes Go.WideShapes Go.ChangeAt Go.RowKit
set_option linter.unusedVariables false
/-- The memory of a machine of one page that begins with one word. -/
abbrev memW (x : Int) : List Int := (codeB [x]).take 4096 ++ List.replicate (4096 - ((codeB [x]).take 4096).length) 0
theorem codeB_one (x : Int) : codeB [x] = four (wd x) := by simp [codeB]
theorem memW_len (x : Int) : (memW x).length = 4096 := by
  unfold memW
  rw [codeB_one]
  simp [four]
theorem memW_lev (x : Int) : lev ((memW x).take 4) = wd x := by
  have h : (memW x).take 4 = four (wd x) := by unfold memW; rw [codeB_one]; simp [four]
  rw [h, lev_four _ (wd_lo x) (wd_hi x)]
theorem newM_beg (x : Int) : newM 4096 (codeB [x]) 0 [] = beg (List.replicate 16 0) (memW x) [] 0 false false := rfl
theorem lie_one (w : World) (x : Int) (g : Nat) (hg : w.heap.size = g) : Lie .i64 (w.alloc (.cells #[.int .i64 x] 3)) (w.alloc (.cells #[.int .i64 x] 3)).heap.size (some ⟨g, 0, none⟩) 1 1 [x] := by
  subst hg
  exact lie_of (ownK_built 3 .i64 w [x] (by show 1 ≤ maxLen; decide))
theorem tells_beg (R M tx : List Int) (t : Int) (a b : Bool) : tells (beg R M tx t a b) = ⟨R, 0, [4, 0, 0, 0, 0, 0, 0, t, 0, 0, 0], a, b, tx⟩ := by
  unfold tells
  rw [beg_pend]
  rfl
/-- Two of the control registers, as a walk reads them. -/
theorem told_csr {w : World} {s : St} {rp cp op : Option Addr} {rn rc cn cc on oc : Nat} (T : Told6 w s rp rn rc cp cn cc op on oc) (hl : s.C.length = 11) : cn = 11 ∧ ∃ b off, cp = some ⟨b, off, none⟩ ∧ ∀ u, Below w.heap.size w u → u.cell? ⟨b, off, none⟩ = some (i64 (s.C.getD 0 0)) ∧ u.cell? ⟨b, off + 7, none⟩ = some (i64 (s.C.getD 7 0)) ∧ u.cell? ⟨b, off + 2, none⟩ = some (i64 (s.C.getD 2 0)) ∧ u.cell? ⟨b, off + 3, none⟩ = some (i64 (s.C.getD 3 0)) := by
  have hn : cn = 11 := by rw [← T.c.len, hl]
  subst hn
  obtain ⟨b, off, rfl, hlt, -⟩ := T.c.cell (i := 0) (by omega)
  refine ⟨rfl, b, off, rfl, fun u hu => ?_⟩
  have key : ∀ i, i < 11 → u.cell? ⟨b, off + i, none⟩ = some (i64 (s.C.getD i 0)) := fun i hi => by
    obtain ⟨b', off', e, -, hc⟩ := T.c.cell (i := i) hi
    injection e with e; injection e with e1 e2; subst e1 e2
    exact (World.cell?_of_block (hu.block b hlt)).trans hc
  exact ⟨key 0 (by decide), key 7 (by decide), key 2 (by decide), key 3 (by decide)⟩
set_option maxHeartbeats 2000000 in
theorem alive10 (w : World) (hg : Glob w) : Calls Tryz.prog 8 #[] w fun e w' => e = .returned (.bool true) ∧ Below w.heap.size w w' := by
  obtain ⟨r, hr⟩ : ∃ r : Ending → World → Prop, r = fun e w' => e = .returned (.bool true) ∧ Below w.heap.size w w' := ⟨_, rfl⟩
  rw [← hr]
  have HO := Lib.hid (fun u (b : Below w.heap.size w u) => (by rw [hr]; exact ⟨rfl, b⟩ : r (.returned (.bool true)) u))
  clear hr
  obtain ⟨g, hgg⟩ : ∃ g, w.heap.size = g := ⟨_, rfl⟩
  obtain ⟨w1, hw1⟩ : ∃ w1, w1 = w.alloc (.cells #[.int .i64 1107296256] 3) := ⟨_, rfl⟩
  have B1 := Lib.hid (by rw [hw1]; exact (Below.refl _ _).alloc (Nat.le_of_eq hgg.symm) _ : Below g w w1)
  have L1 := Lib.hid (by rw [hw1]; exact lie_one w _ g hgg : Lie .i64 w1 w1.heap.size (some ⟨g, 0, none⟩) 1 1 [1107296256])
  have HC := Lib.hid (code_says 0 L1.out (by omega))
  have hgl := glob_lt hg
  have HGl := Lib.hid (fun u (b : Below g w u) => (World.cell?_of_block (b.block 0 (by omega))).trans hg)
  clear hg
  rw [hgg] at HO hgl
  go_enter Tryz.func8, Tryz.ntmps8
  go_upto_region 2 with (first
    | (go_at_call 9; (with_reducible refine HN.out.mono ?_); rintro e w3 ⟨h, F3, rfl, A3⟩; have A3 := Lib.hid A3)
    | (go_at_call 20; rw [← hw1]; (with_reducible refine HC.out.mono ?_); rintro e w2 ⟨p2, m2, c2, rfl, hm2, o2, b2⟩; have B2 := Lib.hid (B1.out.trans (b2.mono (by have := B1.out.size; omega))); have HN := Lib.hid (new_at 1 0 (HGl.out _ B2.out) (lie_of o2) (by omega) (codeB_byt _)); replace hm2 := Lib.hid hm2; clear o2 b2))
  have A3' : MaAt w2 w3 F3 h 4096 (codeB [1107296256]) 0 (beg (List.replicate 16 0) (memW 1107296256) [] 0 false false) := A3.out
  have HR := run_at A3' 5 (by omega) (by show 0 + 5 ≤ 100000; omega)
  rw [run_beg_wfi (memW_len _) (by rw [memW_lev]; rfl) 5 0 (by omega) (by omega)] at HR
  replace HR := Lib.hid (show Calls Tryz.prog 11 #[.pointer (some ⟨h, 0, none⟩), i64 5] w3 fun e w' => e = .returned (i64 5) ∧ ∃ F', MaAt w2 w' F' h 4096 (codeB [1107296256]) 0 (beg (List.replicate 16 0) (memW 1107296256) [] 5 false false) ∧ Moved F3 F' w3 w' from HR)
  clear A3 A3' HN hw1
  go_upto_region 6 with (first
    | (go_at_call 23; refine (state_told A4.out (by show 0 < 100000; omega)).mono ?_; rintro e w5 ⟨rp, rn, rc, cp, cn, cc, op, on, oc, rfl, T5, b5⟩; have B5 := Lib.hid (B2.out.trans ((A4.out.b.trans (b5.mono A4.out.b.size)).mono (by have := B2.out.size; omega))); have T5 := Lib.hid (T5 w5 (fun _ _ _ => rfl)); clear b5)
    | (go_at_call 11; (with_reducible refine HR.out.mono ?_); rintro e w4 ⟨rfl, F4, A4, -⟩; have A4 := Lib.hid A4))
  have T6 := T5.out
  rw [tells_beg] at T6
  obtain ⟨rfl, bb, off, rfl, hcs⟩ := told_csr T6 rfl
  obtain ⟨gb, hgb⟩ : ∃ gb, w5.heap.size = gb := ⟨_, rfl⟩
  obtain ⟨w6, hw6⟩ : ∃ w6, w6 = w5.alloc (.cells #[.slice rp rn rc, i64 0, .slice (some ⟨bb, off, none⟩) 11 cc, .bool false, .bool false, .slice op on oc] 55) := ⟨_, rfl⟩
  have X6 : BoxT w6 gb rp rn rc 0 (some ⟨bb, off, none⟩) 11 cc false false op on oc := by rw [hw6, ← hgb]; exact BoxT.new _ _ _ _ _ _ _ _ _ _ _ _ _
  have b6 : Below w5.heap.size w5 w6 := by rw [hw6]; exact (Below.refl _ _).alloc (Nat.le_refl _) _
  obtain ⟨k0, k7, -, -⟩ := hcs w6 b6
  change w6.cell? ⟨bb, off, none⟩ = some (i64 4) at k0
  change w6.cell? ⟨bb, off + 7, none⟩ = some (i64 5) at k7
  have hcap : 11 ≤ cc := T6.c.cap
  have HE := Lib.hid (B5.out.trans (b6.mono (by have := B5.out.size; omega)))
  have c1 := X6.c1
  have c2 := X6.c2
  rw [hgb, ← hw6]
  clear hw6 hgb T5 T6 hcs X6 b6 HR A4
  go_wp2_with fail
  exact HO.out _ HE.out
end Go.Proofs.YtfcmodllbhpniaaGreatDoor.Ser
