/-
  Package bare: Step. | Package bare: In, Read, Run. | Package bare: State.
-/
import Derived.Test.YtfcmodllbhpniaaGreatDoorJnBareL
import Derived.Deep.RegionWith
import Derived.StillTailTactics
set_option linter.unusedVariables false
set_option maxRecDepth 100000
namespace Go.Proofs.YtfcmodllbhpniaaGreatDoor.Ser
open Go.Proofs.YtfcmodllbhpniaaGreatDoor
open Go.ChangeShapes Go.WideShapes Go.ChangeAt Go.RowKit
section
variable {w : World} {F : Nat → Prop} {L : Lay} {m : Ma} {ov : Value} {gr cr gc cc : Nat}
theorem bm_step_dead (S : Sees w F L m ov gr cr gc cc) (h : m.dead = true) : Calls Tryz.prog 21 #[.pointer (some ⟨L.h, 0, none⟩)] w fun e w' => e = .returned (.bool false) ∧ Step F (Bm L m) w w' := by
  have c26 := S.c26
  have c27 := S.c27
  have HP := Lib.hid (fun w3 (x : Below w.heap.size w w3) => (Step.still x S.is : Step F (Bm L m) w w3))
  have hd : (m.halt || m.stuck) = true := h
  clear S h
  generalize m.halt = ht at *
  generalize m.stuck = st at *
  cases ht with
  | true =>
    clear hd
    go_enter Tryz.func21, Tryz.ntmps21
    go_wp2
    try (go_quiet (fail); go_wp2)
    go_ret
    first
      | exact ⟨rfl, HP.out _ (Below.refl _ _)⟩
      | exact ⟨rfl, HP.out _ (below_drewN (Below.refl _ _) _)⟩
  | false =>
    obtain rfl : st = true := by simpa using hd
    clear hd
    go_enter Tryz.func21, Tryz.ntmps21
    go_wp2
    try (go_quiet (fail); go_wp2)
    go_ret
    first
      | exact ⟨rfl, HP.out _ (Below.refl _ _)⟩
      | exact ⟨rfl, HP.out _ (below_drewN (Below.refl _ _) _)⟩
theorem act_later (a0 : Apart0 w F) {m1 : Ma} (hx : m1.tx.length < 100000) {w2 : World} (s : Step F (Bm L m1) w w2) : Calls Tryz.prog 39 #[.pointer (some ⟨L.h, 0, none⟩)] w2 fun e w' => e = .returned (.tuple #[]) ∧ Step F (Bm L (m1.act 4294967295)) w w' := by
  have hl : 0 < w.heap.size := World.block_lt_of_cell? w _ a0.g
  obtain ⟨F2, p2, n2, b2⟩ := s
  obtain ⟨_, _, _, _, _, S2⟩ := bm_sees p2
  have a2 : Apart0 w2 F2 := ⟨b2.cell a0.g a0.n, fun h => by
    rcases n2 0 h with h | h
    · exact a0.n h
    · omega⟩
  exact (bm_act S2 a2 hx).mono fun e w' h => ⟨h.1, h.2.join n2 b2⟩
set_option maxHeartbeats 2000000 in
theorem bm_step_live (S : Sees w F L m ov gr cr gc cc) (a0 : Apart0 w F) (hx : m.tx.length < 100000) (h : m.dead = false) : Calls Tryz.prog 21 #[.pointer (some ⟨L.h, 0, none⟩)] w fun e w' => e = .returned (.bool true) ∧ Step F (Bm L (m.step 0 4294967295)) w w' := by
  have hh : m.halt = false := by unfold Ma.dead at h; revert h; cases m.halt <;> simp
  have hk : m.stuck = false := by unfold Ma.dead at h; revert h; cases m.stuck <;> simp
  have e1 : m.step 0 4294967295 = ((m.setC 9 (m.pend 0)).act 4294967295).tick := by unfold Ma.step; rw [if_neg (by rw [h]; decide)]
  rw [e1]
  have c26 := S.c26
  have c27 := S.c27
  rw [hh] at c26
  rw [hk] at c27
  have hpd : ∀ u, Below w.heap.size w u → Calls Tryz.prog 38 #[.pointer (some ⟨L.h, 0, none⟩)] u fun e w' => e = .returned (i64 (m.pend 0)) ∧ Below w.heap.size w w' := fun u x =>
    (bm_pend (S.later x)).mono fun e w' h => ⟨h.1, x.trans (h.2.mono x.size)⟩
  have k25 : ∀ u, Below w.heap.size w u → u.cell? ⟨L.h, 25, none⟩ = some (.slice (some ⟨gc, 0, none⟩) 11 cc) ∧ u.cell? ⟨gc, 9, none⟩ = some (i64 (m.c 9)) ∧ u.frozen? ⟨gc, 9, none⟩ = false := fun u x => ⟨(S.later x).c25, (S.later x).csr (j := 9) (by omega), (S.later x).fc 9⟩
  have HK := Lib.hid k25
  have n25 := (k25 _ (Below.refl _ _)).1
  have H1 := Lib.hid (fun w1 (x : Below w.heap.size w w1) => Step.after x ((S.later x).csr' (j := 9) (by omega) (v := m.pend 0) (Ma.Fine.pend_w 0)))
  have hxa : (m.setC 9 (m.pend 0)).tx.length < 100000 := hx
  have HA := Lib.hid (fun w2 (s : Step F (Bm L (m.setC 9 (m.pend 0))) w w2) => act_later a0 hxa s)
  have hd0 : Below w.heap.size w w.drew := (Below.refl _ _).drew
  have hdn : ∀ n, Below w.heap.size w (w.drewN n).drew := fun n => ⟨rfl, rfl, rfl, Nat.le_refl _, fun _ _ => rfl⟩
  clear S k25 hxa e1 h hh hk
  generalize m.pend 0 = pv at *
  generalize m.c 9 = c9 at *
  generalize (m.setC 9 pv).act 4294967295 = m2 at *
  go_enter Tryz.func21, Tryz.ntmps21
  go_wp2
  go_region_with (first
    | (go_at_call 38; refine (hpd _ hd0).mono ?_; rintro e w1 ⟨rfl, x1⟩; obtain ⟨g1, g2, g3⟩ := HK.out _ x1))
  all_goals
    have s2 := H1.out _ x1
    obtain ⟨w2, hw2⟩ : ∃ w2, w2 = w1.setCell ⟨gc, 9, none⟩ (i64 pv) := ⟨_, rfl⟩
    rw [← hw2] at s2 ⊢
    clear hw2
    go_wp2_with (go_at_call 39; refine (HA.out _ s2).mono ?_; rintro e w3 ⟨rfl, s3⟩; obtain ⟨F3, p3, n3, b3⟩ := s3; obtain ⟨_, gr3, _, gc3, cc3, S3⟩ := bm_sees p3; have v25 := S3.c25; have v7 := S3.csr (j := 7) (by omega); have vf := S3.fc 7)
    have hadd := add_says (m2.c 7) 1
    have HS3 := Lib.hid (((S3.later (Below.refl _ w3).drew).csr' (j := 7) (by omega) (v := wd (m2.c 7 + 1)) (wdb _)))
    have HF := Lib.hid (fun (w5 : World) (q : Step F3 (Bm L m2.tick) w3.drew w5) => (Step.after (Below.refl _ w3).drew q : Step F3 (Bm L m2.tick) w3 w5).join n3 b3)
    clear S3 p3 n3 b3
    go_still_tail 14, (by kernel_rfl)
    still_call ((hadd w3.drew).mono (fun _ _ h => ⟨h.1, h.2.symm⟩))
    repeat still_step
    refine wpStill_nil ?_
    change wpList _ _ _ _ _ w3.drew
    go_wp2
    go_ret
    exact ⟨rfl, HF.out _ HS3.out⟩
theorem bm_step (S : Sees w F L m ov gr cr gc cc) (a0 : Apart0 w F) (hx : m.tx.length < 100000) : Calls Tryz.prog 21 #[.pointer (some ⟨L.h, 0, none⟩)] w fun e w' => e = .returned (.bool (!m.dead)) ∧ Step F (Bm L (m.step 0 4294967295)) w w' := by
  cases h : m.dead with
  | true =>
    have e : m.step 0 4294967295 = m := by unfold Ma.step; rw [if_pos h]
    rw [e]; exact bm_step_dead S h
  | false => exact bm_step_live S a0 hx h
end
end Go.Proofs.YtfcmodllbhpniaaGreatDoor.Ser
set_option maxRecDepth 100000
namespace Go.Proofs.YtfcmodllbhpniaaGreatDoor
namespace Ma
theorem run_dead (n : Nat) {m : Ma} (h : m.dead = true) : m.run n = (0, m) := by
  cases n with
  | zero => rfl
  | succ n => unfold Ma.run; rw [if_pos h]
theorem run_live (n : Nat) {m : Ma} (h : m.dead = false) : m.run (n + 1) = (((m.step 0 4294967295).run n).1 + 1, ((m.step 0 4294967295).run n).2) := by
  conv => lhs; unfold Ma.run
  rw [if_neg (by rw [h]; decide)]
end Ma
end Go.Proofs.YtfcmodllbhpniaaGreatDoor
namespace Go.Proofs.YtfcmodllbhpniaaGreatDoor.Ser
open Go.Proofs.YtfcmodllbhpniaaGreatDoor
open Go.ChangeShapes Go.WideShapes Go.ChangeAt Go.RowKit
section
variable {w : World} {F : Nat → Prop} {L : Lay} {m : Ma} {ov : Value} {gr cr gc cc : Nat}
theorem bm_in (S : Sees w F L m ov gr cr gc cc) (b : Int) : Calls Tryz.prog 14 #[.pointer (some ⟨L.h, 0, none⟩), i64 b] w fun e w' => e = .returned (.bool (decide (m.rx.length < 16))) ∧ Step F (Bm L { m with rx := uin m.rx b }) w w' := by
  have hf : ({ m with rx := uin m.rx b, tx := m.tx } : Ma).Fine := S.fine.rxs _ (uin_byts S.fine.br b) (uin_length S.fine.bl b)
  have hc := S.uart (f := 34) (rx := uin m.rx b) (tx := m.tx) hf (fun Z => in_says L.h (AL L) Z m.rx m.tx b)
  obtain ⟨r, hr⟩ : ∃ r : World → Prop, r = fun w' => Step F (Bm L { m with rx := uin m.rx b }) w w' := ⟨_, rfl⟩
  have hc2 : Calls Tryz.prog 34 #[.pointer (some ⟨L.h, 4, none⟩), i64 b] w fun e w' => e = .returned (.bool (decide (m.rx.length < 16))) ∧ r w' := hc.mono fun e w' h => ⟨h.1, by rw [hr]; exact h.2⟩
  have e : (fun (e : Ending) (w' : World) => e = .returned (.bool (decide (m.rx.length < 16))) ∧ Step F (Bm L { m with rx := uin m.rx b }) w w') = fun e w' => e = .returned (.bool (decide (m.rx.length < 16))) ∧ r w' := by rw [hr]
  rw [e]
  generalize decide (m.rx.length < 16) = q at *
  clear S hf hc hr e
  go_enter Tryz.func14, Tryz.ntmps14
  go_wp2_with (go_at_call 34; refine hc2.mono ?_; rintro e w1 ⟨rfl, h1⟩)
  go_ret
  exact ⟨rfl, h1⟩
theorem bm_read (S : Sees w F L m ov gr cr gc cc) (a n : Int) (ha : -9223372036854775808 ≤ a ∧ a ≤ 9223372036854775807) (hn : -9223372036854775808 ≤ n ∧ n ≤ 9223372036854775807) :
    Calls Tryz.prog 33 #[.pointer (some ⟨L.h, 0, none⟩), i64 a, i64 n] w (GetP (getL m.M a n) w) := by
  have hg := get_says S.mem a n ha hn
  have c3 := S.c3
  obtain ⟨r, hr⟩ : ∃ r, r = GetP (getL m.M a n) w := ⟨_, rfl⟩
  rw [← hr] at hg ⊢
  have hv : ∀ e w', r e w' → ∃ v, e = .returned v := by rintro e w' h; rw [hr] at h; obtain ⟨v, h, -⟩ := h; exact ⟨v, h⟩
  have HV := Lib.hid hv
  clear S hr hv ha hn
  go_enter Tryz.func33, Tryz.ntmps33
  go_wp2_with (go_at_call 49; refine hg.mono ?_; intro e w1 h1; have HR := Lib.hid h1; obtain ⟨v, rfl⟩ := HV.out _ _ h1; clear h1)
  exact HR.out
theorem step_later (a0 : Apart0 w F) {m1 : Ma} (hx : m1.tx.length < 100000) {w2 : World} (s : Step F (Bm L m1) w w2) : Calls Tryz.prog 21 #[.pointer (some ⟨L.h, 0, none⟩)] w2 fun e w' => e = .returned (.bool (!m1.dead)) ∧ Step F (Bm L (m1.step 0 4294967295)) w w' := by
  have hl : 0 < w.heap.size := World.block_lt_of_cell? w _ a0.g
  obtain ⟨F2, p2, n2, b2⟩ := s
  obtain ⟨_, _, _, _, _, S2⟩ := bm_sees p2
  have a2 : Apart0 w2 F2 := ⟨b2.cell a0.g a0.n, fun h => by
    rcases n2 0 h with h | h
    · exact a0.n h
    · omega⟩
  exact (bm_step S2 a2 hx).mono fun e w' h => ⟨h.1, h.2.join n2 b2⟩
/-- Where a run stands behind k steps. -/
structure RunAt (F : Nat → Prop) (L : Lay) (m : Ma) (n : Nat) (w : World) (k : Nat) (mk : Ma) (wr : World) : Prop where
  le : k ≤ n
  s : Step F (Bm L mk) w wr
  tx : mk.tx.length ≤ m.tx.length + k
  r1 : (mk.run (n - k)).1 + k = (m.run n).1
  r2 : (mk.run (n - k)).2 = (m.run n).2
theorem RunAt.end_ {n : Nat} {k : Nat} {mk : Ma} {wr : World} (h : RunAt F L m n w k mk wr) (hk : k = n) : (m.run n).1 = k ∧ Step F (Bm L (m.run n).2) w wr := by
  obtain ⟨le, s, tx, r1, r2⟩ := h
  subst hk
  rw [Nat.sub_self] at r1 r2
  rw [← r1, ← r2]
  exact ⟨by simp [Ma.run], s⟩
theorem RunAt.dead {n : Nat} {k : Nat} {mk : Ma} {wr wr' : World} (h : RunAt F L m n w k mk wr) (hd : mk.dead = true) (hs : Step F (Bm L (mk.step 0 4294967295)) w wr') : (m.run n).1 = k ∧ Step F (Bm L (m.run n).2) w wr' := by
  obtain ⟨le, s, tx, r1, r2⟩ := h
  have e : mk.step 0 4294967295 = mk := by unfold Ma.step; rw [if_pos hd]
  rw [e] at hs
  rw [Ma.run_dead _ hd] at r1 r2
  rw [← r1, ← r2]
  exact ⟨by simp, hs⟩
theorem RunAt.next {n : Nat} {k : Nat} {mk : Ma} {wr wr' : World} (h : RunAt F L m n w k mk wr) (hk : k < n) (hd : mk.dead = false) (hs : Step F (Bm L (mk.step 0 4294967295)) w wr') : RunAt F L m n w (k + 1) (mk.step 0 4294967295) wr' := by
  obtain ⟨le, s, tx, r1, r2⟩ := h
  have e : n - k = (n - (k + 1)) + 1 := by omega
  rw [e, Ma.run_live _ hd] at r1 r2
  have h1 := tx_step mk 0 4294967295
  exact ⟨hk, hs, by omega, by simp only at r1; omega, r2⟩
theorem bm_run (S : Sees w F L m ov gr cr gc cc) (a0 : Apart0 w F) (n : Nat) (hn : n ≤ 100000) (hx : m.tx.length + n ≤ 100000) :
    Calls Tryz.prog 11 #[.pointer (some ⟨L.h, 0, none⟩), i64 n] w fun e w' => e = .returned (i64 (m.run n).1) ∧ Step F (Bm L (m.run n).2) w w' := by
  have A0 : RunAt F L m n w 0 m w := ⟨Nat.zero_le _, Step.refl S.is, by omega, by simp, by simp⟩
  have HC := Lib.hid (fun (k : Nat) (hk : k < n) (mk : Ma) (wr : World) (h : RunAt F L m n w k mk wr) => step_later a0 (by have := h.tx; omega) h.s)
  obtain ⟨r, hr⟩ : ∃ r : Ending → World → Prop, r = fun e w' => e = .returned (i64 (m.run n).1) ∧ Step F (Bm L (m.run n).2) w w' := ⟨_, rfl⟩
  rw [← hr]
  have HE := Lib.hid (fun (k : Nat) (mk : Ma) (wr : World) (h : RunAt F L m n w k mk wr) (hk : k = n) => show r (.returned (i64 k)) wr from by rw [hr]; exact ⟨by rw [(h.end_ hk).1], (h.end_ hk).2⟩)
  have HD := Lib.hid (fun (k : Nat) (mk : Ma) (wr wr' : World) (h : RunAt F L m n w k mk wr) (hd : mk.dead = true) (hs : Step F (Bm L (mk.step 0 4294967295)) w wr') => show r (.returned (i64 k)) wr' from by rw [hr]; exact ⟨by rw [(h.dead hd hs).1], (h.dead hd hs).2⟩)
  have HA := Lib.hid A0
  clear S A0 a0 hr hx
  go_enter Tryz.func11, Tryz.ntmps11
  go_wp2_with fail
  go_loopw [5] (fun i wr => ∃ k : Nat, k ≤ n ∧ i = .int .i64 k ∧ ∃ mk, RunAt F L m n w k mk wr) (fun i _ => n - (intOf i).toNat)
  case atStart => exact ⟨0, Nat.zero_le _, rfl, m, HA.out⟩
  case round =>
    obtain ⟨k, hk, rfl, mk, R⟩ := hrel
    have HR := Lib.hid R
    by_cases hkn : k < n
    · have hc := HC.out k hkn mk _ R
      clear R
      cases hd : mk.dead with
      | true =>
        rw [hd] at hc
        have HX := Lib.hid hd
        clear hd
        go_wp2_with (go_at_call 21; refine hc.mono ?_; rintro e w2 ⟨rfl, s2⟩; have HS := Lib.hid s2; clear s2)
        exact HD.out _ _ _ _ HR.out HX.out HS.out
      | false =>
        rw [hd] at hc
        have HX := Lib.hid hd
        clear hd
        go_wp2_with (go_at_call 21; refine hc.mono ?_; rintro e w2 ⟨rfl, s2⟩; have HS := Lib.hid s2; clear s2)
        go_roundw
        case rel => exact ⟨k + 1, hkn, by go_num, _, HR.out.next hkn HX.out HS.out⟩
        case measure => simp [intOf]; omega
    · have hkn2 : k = n := by omega
      have HK := Lib.hid hkn2
      clear R HC
      subst hkn2
      go_wp2_with fail
      exact HE.out _ _ _ HR.out rfl
end
end Go.Proofs.YtfcmodllbhpniaaGreatDoor.Ser
set_option maxRecDepth 100000
namespace Go.Proofs.YtfcmodllbhpniaaGreatDoor.Ser
open Go.Proofs.YtfcmodllbhpniaaGreatDoor
open Go.ChangeShapes Go.WideShapes Go.ChangeAt Go.RowKit
/-- The answer's box, the state's behind it. -/
structure Two7 (w wx : World) (r : Value) (pc : Int) (c : Value) (h k : Bool) (o : Value) : Prop where
  x : Box6 wx (w.heap.size + 1) r pc c h k o
  y : Box6 wx w.heap.size (.slice none 0 0) 0 (.slice none 0 0) false false (.slice none 0 0)
  b : Below w.heap.size w wx
section
variable {w wx w' : World} {r c o : Value} {pc : Int} {h k : Bool}
abbrev zero6 : Obj := .cells #[.slice none 0 0, i64 0, .slice none 0 0, .bool false, .bool false, .slice none 0 0] 55
theorem Two7.start (w : World) (r : Value) (pc : Int) (c : Value) (h k : Bool) (o : Value) : Two7 w ((w.alloc zero6).alloc (.cells #[r, i64 pc, c, .bool h, .bool k, o] 55)) r pc c h k o := by
  have hs : (w.alloc zero6).heap.size = w.heap.size + 1 := by simp
  have x := Box6.new (w.alloc zero6) r pc c h k o
  rw [hs] at x
  exact ⟨x, (Below.heap_alloc _ _ _ (by rw [hs]; omega)).trans (Box6.new w _ _ _ _ _ _), ((Below.refl _ w).alloc (Nat.le_refl _) _).alloc (by rw [hs]; omega) _⟩
theorem Two7.lt (T : Two7 w wx r pc c h k o) : w.heap.size + 2 ≤ wx.heap.size := T.x.lt
theorem Two7.call (T : Two7 w wx r pc c h k o) (hb : Below wx.heap.size wx w') : Two7 w w' r pc c h k o :=
  ⟨T.x.kept hb T.x.lt, T.y.kept hb T.y.lt, T.b.trans (hb.mono (by have := T.lt; omega))⟩
theorem Two7.set0 (T : Two7 w wx r pc c h k o) (v : Value) : Two7 w (wx.setCell ⟨w.heap.size + 1, 0, none⟩ v) v pc c h k o := ⟨T.x.set0 v, T.y.off (by omega) _ _, T.b.setCell (Nat.le_succ _) _⟩
theorem Two7.set2 (T : Two7 w wx r pc c h k o) (v : Value) : Two7 w (wx.setCell ⟨w.heap.size + 1, 2, none⟩ v) r pc v h k o := ⟨T.x.set2 v, T.y.off (by omega) _ _, T.b.setCell (Nat.le_succ _) _⟩
theorem Two7.set5 (T : Two7 w wx r pc c h k o) (v : Value) : Two7 w (wx.setCell ⟨w.heap.size + 1, 5, none⟩ v) r pc c h k v := ⟨T.x.set5 v, T.y.off (by omega) _ _, T.b.setCell (Nat.le_succ _) _⟩
theorem Two7.off (T : Two7 w wx r pc c h k o) {g : Nat} (hg : w.heap.size + 2 ≤ g) (j : Nat) (v : Value) : Two7 w (wx.setCell ⟨g, j, none⟩ v) r pc c h k o := ⟨T.x.off (by omega) _ _, T.y.off (by omega) _ _, T.b.setCell (by show w.heap.size ≤ g; omega) _⟩
theorem own_setCell {E : TypeId} {kk : IntKind} {v : Value} {xs : List Int} {B : Nat} (ho : OwnK E kk wx B v xs) {b : Nat} (hb : b < B) (j : Nat) (y : Value) : OwnK E kk (wx.setCell ⟨b, j, none⟩ y) B v xs :=
  ownK_off ho (fun e => by have := (ho.lt _ e).1; omega) _ _
end
/-- What State tells. -/
abbrev tells (m : Ma) : St := ⟨m.R, m.pc, m.C.set 9 (m.pend 0), m.halt, m.stuck, m.tx⟩
section
variable {w : World} {F : Nat → Prop} {L : Lay} {m : Ma} {ov : Value} {gr cr gc cc : Nat}
theorem Sees.lieR (S : Sees w F L m ov gr cr gc cc) : Lie .i64 w w.heap.size (some ⟨gr, 0, none⟩) 16 cr m.R := by
  obtain ⟨Fs, hG⟩ := S.grp
  obtain ⟨p1, c1, e1, -, l1⟩ := ownK_lie (hG.p 2 _ rfl).1
  injection e1 with e2 e3 e4
  rw [← e2, ← e3, ← e4] at l1
  exact l1
theorem Sees.lieC (S : Sees w F L m ov gr cr gc cc) : Lie .i64 w w.heap.size (some ⟨gc, 0, none⟩) 11 cc m.C := by
  obtain ⟨Fs, hG⟩ := S.grp
  obtain ⟨p1, c1, e1, -, l1⟩ := ownK_lie (hG.p 3 _ rfl).1
  injection e1 with e2 e3 e4
  rw [← e2, ← e3, ← e4] at l1
  exact l1
set_option maxHeartbeats 2000000 in
theorem bm_state (S : Sees w F L m ov gr cr gc cc) (hx : m.tx.length < 100000) :
    Calls Tryz.prog 23 #[.pointer (some ⟨L.h, 0, none⟩)] w fun e w' => ∃ r c o, e = .returned (stV r c o (tells m)) ∧ StO w' w.heap.size r c o (tells m) ∧ Below w.heap.size w w' := by
  obtain ⟨op, oc, rfl, -⟩ := S.stL
  have S1 := S.later ((Below.refl _ w).alloc (Nat.le_refl _) (.cells #[.slice none 0 0, i64 0, .slice none 0 0, .bool false, .bool false, .slice none 0 0] 55))
  have c23 := S1.c23
  have c24 := S1.c24
  have c25 := S1.c25
  have c26 := S1.c26
  have c27 := S1.c27
  have c28 := S1.c28
  clear S1
  have HS := Lib.hid S
  have hT := Two7.start w (.slice (some ⟨gr, 0, none⟩) 16 cr) m.pc (.slice (some ⟨gc, 0, none⟩) 11 cc) m.halt m.stuck (.slice op 0 oc)
  clear S
  go_enter Tryz.func23, Tryz.ntmps23
  go_upto_region 2 with fail
  obtain ⟨w2, hw2⟩ : ∃ w2, w2 = (w.alloc zero6).alloc (.cells #[.slice (some ⟨gr, 0, none⟩) 16 cr, i64 m.pc, .slice (some ⟨gc, 0, none⟩) 11 cc, .bool m.halt, .bool m.stuck, .slice op 0 oc] 55) := ⟨_, rfl⟩
  rw [← hw2] at hT ⊢
  have HTL := Lib.hid hT.lt
  have HT := Lib.hid hT
  have d0 := hT.x.c0
  have hr := clone_i ((HS.out.later hT.b).lieR) (by omega)
  clear hw2 hT c23 c24 c25 c26 c27 c28
  go_upto_region 4 with (first
    | (go_at_call 43; refine hb.out.mono ?_; rintro e w5 ⟨p2, n2, q2, rfl, k2, o2, b2⟩; have T5 := T4.out.call b2; have y2 := T5.x.c2; have z2 := T5.x.free 2; have T6 := Lib.hid (T5.set2 (.slice p2 n2 q2)); have O2 := Lib.hid o2; have B2 := Lib.hid b2; have K2 := Lib.hid k2; clear o2 b2 k2 T5)
    | (go_at_call 43; refine hr.mono ?_; rintro e w3 ⟨p1, n1, q1, rfl, -, o1, b1⟩; have T3 := HT.out.call b1; have y0 := T3.x.c0; have z0 := T3.x.free 0; have T4 := Lib.hid (T3.set0 (.slice p1 n1 q1)); have x2 := T4.out.x.c2; have hb := Lib.hid (clone_i ((HS.out.later T4.out.b).lieC) (by omega)); have O1 := Lib.hid o1; have B1 := Lib.hid b1; clear o1 b1 T3))
  have R4 := own_setCell O1.out (show w.heap.size + 1 < w2.heap.size from HTL.out) 0 (.slice p1 n1 q1)
  have l4 : w2.heap.size ≤ (w3.setCell ⟨w.heap.size + 1, 0, none⟩ (.slice p1 n1 q1)).heap.size := by have := B1.out.size; simpa using this
  have R6 := own_setCell (ownK_below R4 B2.out) (show w.heap.size + 1 < w2.heap.size from HTL.out) 2 (.slice p2 n2 q2)
  have C6 := own_setCell O2.out (show w.heap.size + 1 < (w3.setCell ⟨w.heap.size + 1, 0, none⟩ (.slice p1 n1 q1)).heap.size from by have := HTL.out; omega) 2 (.slice p2 n2 q2)
  have T6' := T6.out
  have NR : ∀ i, (Value.slice p2 n2 q2).ownBlock = some i → (Value.slice p1 n1 q1).ownBlock ≠ some i := fun i h1 h2 => by
    have a1 := (O2.out.lt i h1).1
    have a2 := (O1.out.lt i h2).2
    simp at a1
    omega
  have R6' := ownK_mono R6 HTL.out
  have C6' := ownK_mono C6 (show w.heap.size + 2 ≤ _ from by have := HTL.out; omega)
  obtain ⟨w6, hw6⟩ : ∃ w6, w6 = w5.setCell ⟨w.heap.size + 1, 2, none⟩ (.slice p2 n2 q2) := ⟨_, rfl⟩
  rw [← hw6] at T6' R6' C6' ⊢
  clear hw6 R4 R6 C6 l4 hr hb y0 z0 y2 z2 x2 d0 O1 O2 B1 B2 T4 T6 HT HTL
  have hcl : m.C.length = 11 := HS.out.fine.cl
  obtain ⟨g, q, e, -, -, lg, lg2, cg, fg, sg⟩ := ownK_cell C6' (j := 9) (by omega)
  rw [hcl] at e
  injection e with e1 e2 e3
  subst e1; subst e2; subst e3
  have hpd : ∀ u, Below w6.heap.size w6 u → Calls Tryz.prog 38 #[.pointer (some ⟨L.h, 0, none⟩)] u fun e w' => e = .returned (i64 (m.pend 0)) ∧ Below w6.heap.size w6 w' := fun u x =>
    (bm_pend ((HS.out.later T6'.b).later x)).mono fun e w' h => ⟨h.1, x.trans (h.2.mono x.size)⟩
  have HK := Lib.hid (fun (u : World) (x : Below w6.heap.size w6 u) => (⟨(T6'.call x).x.c2, cell_later x cg, frozen_later x lg2 fg⟩ : u.cell? ⟨w.heap.size + 1, 2, none⟩ = some (.slice (some ⟨g, 0, none⟩) 11 q2) ∧ u.cell? ⟨g, 9, none⟩ = some (i64 (m.C.getD 9 0)) ∧ u.frozen? ⟨g, 9, none⟩ = false))
  have n2 := (HK.out _ (Below.refl _ _)).1
  have hd0 : Below w6.heap.size w6 w6.drew := (Below.refl _ _).drew
  have H7 := Lib.hid (fun (w7 : World) (x : Below w6.heap.size w6 w7) => (T6'.call x).off lg 9 (i64 (m.pend 0)))
  have H8 := Lib.hid (fun (w7 : World) (x : Below w6.heap.size w6 w7) => (show OwnK 3 .i64 (w7.setCell ⟨g, 9, none⟩ (i64 (m.pend 0))) (w.heap.size + 2) (.slice (some ⟨g, 0, none⟩) 11 q2) (m.C.set 9 (m.pend 0)) from by
    obtain ⟨g', q', e', -, -, -, -, -, -, h⟩ := ownK_cell (ownK_below C6' x) (j := 9) (by omega)
    injection e' with e1 e2 e3
    injection e1 with e1
    injection e1 with e1
    subst e1
    exact h _))
  have H9 := Lib.hid (fun (w7 : World) (x : Below w6.heap.size w6 w7) => (show OwnK 3 .i64 (w7.setCell ⟨g, 9, none⟩ (i64 (m.pend 0))) (w.heap.size + 2) (.slice p1 n1 q1) m.R from ownK_off (ownK_below R6' x) (fun h => NR g rfl h) _ _))
  have HN := Lib.hid NR
  have HCL := Lib.hid hcl
  have HX := Lib.hid hx
  have hz6 : w.heap.size + 2 ≤ w6.heap.size := T6'.lt
  clear sg cg fg NR C6' R6' hcl hx K2 T6'
  generalize hpv : m.pend 0 = pv at hpd H7 H8 H9
  generalize m.C.getD 9 0 = old at HK
  go_region_with (first
    | (go_at_call 38; refine (hpd _ hd0).mono ?_; rintro e w7 ⟨rfl, x7⟩; obtain ⟨g1, g2, g3⟩ := HK.out _ x7))
  all_goals
    have T8 := H7.out _ x7
    have C8 := H8.out _ x7
    have R8 := H9.out _ x7
    have z8 : w6.heap.size ≤ (w7.setCell ⟨g, 9, none⟩ (i64 pv)).heap.size := by have := x7.size; simpa using this
    obtain ⟨w8, hw8⟩ : ∃ w8, w8 = w7.setCell ⟨g, 9, none⟩ (i64 pv) := ⟨_, rfl⟩
    rw [← hw8] at T8 C8 R8 z8 ⊢
    have hout : Calls Tryz.prog 44 #[.pointer (some ⟨L.h, 4, none⟩)] w8 (NewK 5 .u8 w8 m.tx) := by
      obtain ⟨ring, f, v, U⟩ := (HS.out.later T8.b).ua
      exact (out_says U HX.out).mono fun e w' ⟨p, c, e1, o, b⟩ => ⟨p, _, c, e1, rfl, o, b⟩
    have HT8 := Lib.hid T8
    have HC8 := Lib.hid C8
    have HR8 := Lib.hid R8
    clear hw8 T8 C8 R8 H7 H8 H9 hpd HK x7 g1 g2 g3 n2
    go_wp2_with (go_at_call 44; refine hout.mono ?_; rintro e w9 ⟨p3, n3, q3, rfl, -, o3, b3⟩; have T9 := HT8.out.call b3; have y5 := T9.x.c5; have z5 := T9.x.free 5; have T10 := Lib.hid (T9.set5 (.slice p3 n3 q3)); have b0 := T10.out.x.c0; have b1' := T10.out.x.c1; have b2' := T10.out.x.c2; have b3' := T10.out.x.c3; have b4 := T10.out.x.c4; have b5 := T10.out.x.c5; have e0 := T10.out.y.c0; have e1 := T10.out.y.c1; have e2 := T10.out.y.c2; have e3 := T10.out.y.c3; have e4 := T10.out.y.c4; have e5 := T10.out.y.c5; have g0 := T10.out.y.free 0; have g1 := T10.out.y.free 1; have g2 := T10.out.y.free 2; have g3 := T10.out.y.free 3; have g4 := T10.out.y.free 4; have g5 := T10.out.y.free 5; have O3 := Lib.hid o3; have B3 := Lib.hid b3; clear o3 b3 T9)
    have hs2 : w.heap.size + 2 ≤ w8.heap.size := by omega
    have R10 := own_setCell (ownK_below HR8.out B3.out) (show w.heap.size + 1 < w.heap.size + 2 by omega) 5 (.slice p3 n3 q3)
    have C10 := own_setCell (ownK_below HC8.out B3.out) (show w.heap.size + 1 < w.heap.size + 2 by omega) 5 (.slice p3 n3 q3)
    have O10 := own_setCell (ownK_mono O3.out hs2) (show w.heap.size + 1 < w.heap.size + 2 by omega) 5 (.slice p3 n3 q3)
    have hS : StO (w9.setCell ⟨w.heap.size + 1, 5, none⟩ (.slice p3 n3 q3)) (w.heap.size + 2) (.slice p1 n1 q1) (.slice (some ⟨g, 0, none⟩) 11 q2) (.slice p3 n3 q3) (tells m) := by
      refine ⟨R10, by unfold tells; rw [hpv]; exact C10, O10, HN.out, fun i hi hi2 => ?_⟩
      have a1 := (O3.out.lt i hi2).1
      have hg : g = i := Option.some.inj hi
      omega
    have Y := T10.out.y.six (.slice p1 n1 q1) m.pc (.slice (some ⟨g, 0, none⟩) 11 q2) m.halt m.stuck (.slice p3 n3 q3)
    have y0 := Y.c0
    have y1 := Y.c1
    have y2 := Y.c2
    have y3 := Y.c3
    have y4 := Y.c4
    have y5 := Y.c5
    exact bodyPost_ret (v := .agg #[.slice p1 n1 q1, i64 m.pc, .slice (some ⟨g, 0, none⟩) 11 q2, .bool m.halt, .bool m.stuck, .slice p3 n3 q3]) (by simp [results, Tryz.results23, go_sem, y0, y1, y2, y3, y4, y5]) rfl ⟨_, _, _, rfl, (hS.six (by omega) _ _ _ _ _ _).mono (by omega), six_below T10.out.b (Nat.le_refl _) _ _ _ _ _ _⟩
end
end Go.Proofs.YtfcmodllbhpniaaGreatDoor.Ser
