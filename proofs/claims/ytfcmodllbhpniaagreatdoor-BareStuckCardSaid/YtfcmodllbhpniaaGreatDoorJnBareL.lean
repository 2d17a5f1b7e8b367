/-
  Package bare: act.
-/
import Derived.Test.YtfcmodllbhpniaaGreatDoorJnK
import Derived.Deep.QuietTactic
import Derived.BigQuiet
import Derived.StillTailTactics
set_option linter.unusedVariables false
set_option maxRecDepth 100000
namespace Go.Proofs.YtfcmodllbhpniaaGreatDoor.Ser
open Go.Proofs.YtfcmodllbhpniaaGreatDoor
open Go.ChangeShapes Go.WideShapes Go.ChangeAt Go.RowKit
section
variable {w : World} {F : Nat → Prop} {L : Lay} {m : Ma} {ov : Value} {gr cr gc cc : Nat}
/-- The closure behind a step that left the machine as it was. -/
theorem catch_later (a0 : Apart0 w F) {w2 : World} (s : Step F (Bm L m) w w2) {p : Nat} (hp : w2.cell? ⟨p, 0, none⟩ = some (.pointer (some ⟨L.h, 0, none⟩))) {c t : Int} (hc : Wd c) (ht : Wd t) :
    CallsD Tryz.prog 54 #[.pointer (some ⟨p, 0, none⟩)] (.panicking [{ v := .iface 103 (trapV c t), recovered := false }]) w2 fun e u' w' =>
      e = .returned (.tuple #[]) ∧ u' = .panicking [{ v := .iface 103 (trapV c t), recovered := true }] ∧ Step F (Bm L (m.trap c t)) w w' := by
  obtain ⟨F2, p2, n2, b2⟩ := s
  obtain ⟨_, _, _, _, _, S2⟩ := bm_sees p2
  exact (catch_panicking S2 (b2.cell a0.g a0.n) hc ht p [] hp).mono fun e u' w' ⟨h1, h2, h3⟩ => ⟨h1, h2, h3.join n2 b2⟩
theorem bm_act_int (S : Sees w F L m ov gr cr gc cc) (a0 : Apart0 w F) (h : tkb (m.c 0) (bits .and .i64 (m.c 9) (m.c 10)) = true) :
    Calls Tryz.prog 39 #[.pointer (some ⟨L.h, 0, none⟩)] w fun e w' => e = .returned (.tuple #[]) ∧ Step F (Bm L (m.trap (tkn (m.c 0) (bits .and .i64 (m.c 9) (m.c 10))) 0)) w w' := by
  have hmf : ∀ (fn : Fn) (first cap : Array Value) (w : World), (Instr.makeFunc fn first cap).run Tryz.prog w = .ok (.func fn first cap) w := fun _ _ _ _ => rfl
  have htk := Go.Proofs.YtfcmodllbhpniaaGreatDoor.takes_says (m.c 0) (m.c 9) (m.c 10)
  rw [h] at htk
  have hw1 : Wd (tkn (m.c 0) (bits .and .i64 (m.c 9) (m.c 10))) := by
    unfold tkn
    refine Wd.ite (fun _ => wd0) fun _ => ?_
    unfold pkn
    (repeat' split) <;> decide
  generalize tkn (m.c 0) (bits .and .i64 (m.c 9) (m.c 10)) = cause at *
  have hb0 : ∀ n, Below w.heap.size w ((w.alloc (.cells #[.pointer (some ⟨L.h, 0, none⟩)] 26)).drewN n) := fun n => below_drewN ((Below.refl _ w).alloc (Nat.le_refl _) _) n
  have hp : ∀ n, ((w.alloc (.cells #[.pointer (some ⟨L.h, 0, none⟩)] 26)).drewN n).cell? ⟨w.heap.size, 0, none⟩ = some (.pointer (some ⟨L.h, 0, none⟩)) := fun n => by
    show (w.alloc _).cell? _ = _
    rw [cell_of_row _ _ 0 _ _ _ (heap_alloc_new _ _)]; rfl
  have HC := Lib.hid (fun n => catch_later a0 (Step.still (hb0 n) S.is : Step F (Bm L m) w _) (hp n) hw1 wd0)
  have S0 := S.later ((Below.refl _ w).alloc (Nat.le_refl _) (.cells #[.pointer (some ⟨L.h, 0, none⟩)] 26))
  have c25 := S0.c25
  have q0 := S0.csr (j := 0) (by omega)
  have q9 := S0.csr (j := 9) (by omega)
  have q10 := S0.csr (j := 10) (by omega)
  clear S S0 h
  generalize m.trap cause 0 = m' at *
  go_enter_defers Tryz.func39, Tryz.ntmps39
  go_wp2
  go_quiet ((go_at_call 56; with_reducible exact Calls.quiet_of_same ((htk _).mono (fun _ _ h => ⟨h.1, h.2.symm⟩))))
  go_wp2
  refine leaves_cons (f := 54) (args := #[.pointer (some ⟨w.heap.size, 0, none⟩)]) (by simp) (by simp [go_sem]) ?_
  refine (HC.out nq).mono ?_
  rintro e u' w'' ⟨rfl, rfl, s3⟩
  simp [Leaves, settle, results, Tryz.results39, go_sem]
  exact s3
theorem bm_act_next (S : Sees w F L m ov gr cr gc cc) (a0 : Apart0 w F) (h : tkb (m.c 0) (bits .and .i64 (m.c 9) (m.c 10)) = false) {x y : Int} (hf : m.fetch = .no x y) :
    Calls Tryz.prog 39 #[.pointer (some ⟨L.h, 0, none⟩)] w fun e w' => e = .returned (.tuple #[]) ∧ Step F (Bm L (m.trap x y)) w w' := by
  have hmf : ∀ (fn : Fn) (first cap : Array Value) (w : World), (Instr.makeFunc fn first cap).run Tryz.prog w = .ok (.func fn first cap) w := fun _ _ _ _ => rfl
  have htk := Go.Proofs.YtfcmodllbhpniaaGreatDoor.takes_says (m.c 0) (m.c 9) (m.c 10)
  rw [h] at htk
  have hlt := S.lt
  have hb0 : ∀ n, Below w.heap.size w ((w.alloc (.cells #[.pointer (some ⟨L.h, 0, none⟩)] 26)).drewN n).drew := fun n => (below_drewN ((Below.refl _ w).alloc (Nat.le_refl _) _) n).drew
  have hp : ∀ n, ((w.alloc (.cells #[.pointer (some ⟨L.h, 0, none⟩)] 26)).drewN n).drew.cell? ⟨w.heap.size, 0, none⟩ = some (.pointer (some ⟨L.h, 0, none⟩)) := fun n => by
    show (w.alloc _).cell? _ = _
    rw [cell_of_row _ _ 0 _ _ _ (heap_alloc_new _ _)]; rfl
  have hnx : ∀ u, Below w.heap.size w u → u.cell? ⟨w.heap.size, 0, none⟩ = some (.pointer (some ⟨L.h, 0, none⟩)) → Calls Tryz.prog 58 #[.pointer (some ⟨L.h, 0, none⟩)] u fun e w' => e = nextE m ∧ Below w.heap.size w w' ∧ w'.cell? ⟨w.heap.size, 0, none⟩ = some (.pointer (some ⟨L.h, 0, none⟩)) := fun u x y =>
    (bm_next (S.later x)).mono fun e w' h => ⟨h.1, x.trans (h.2.mono x.size), cell_later h.2 y⟩
  have S0 := S.later ((Below.refl _ w).alloc (Nat.le_refl _) (.cells #[.pointer (some ⟨L.h, 0, none⟩)] 26))
  have c25 := S0.c25
  have q0 := S0.csr (j := 0) (by omega)
  have q9 := S0.csr (j := 9) (by omega)
  have q10 := S0.csr (j := 10) (by omega)
  have hw := S.fine.fetch x y hf
  have e1 : nextE m = trapE x y := by unfold nextE; rw [hf]
  rw [e1] at hnx
  have HC := Lib.hid (fun w2 (s : Step F (Bm L m) w w2) hp => catch_later (p := w.heap.size) a0 s hp hw.1 hw.2)
  have HS := Lib.hid (fun w2 (x : Below w.heap.size w w2) => (Step.still x S.is : Step F (Bm L m) w w2))
  clear S S0 h e1 hf hw
  generalize m.trap x y = m' at *
  generalize tkn (m.c 0) (bits .and .i64 (m.c 9) (m.c 10)) = cause at *
  go_enter_defers Tryz.func39, Tryz.ntmps39
  go_wp2
  go_quiet ((go_at_call 56; with_reducible exact Calls.quiet_of_same ((htk _).mono (fun _ _ h => ⟨h.1, h.2.symm⟩))))
  go_wp2
  have hbn := hb0 nq
  have hpn := hp nq
  obtain ⟨wn, hwn⟩ : ∃ wn, wn = (w.alloc (.cells #[.pointer (some ⟨L.h, 0, none⟩)] 26)).drewN nq := ⟨_, rfl⟩
  rw [← hwn] at hbn hpn ⊢
  have hpn' : wn.cell? ⟨w.heap.size, 0, none⟩ = some (.pointer (some ⟨L.h, 0, none⟩)) := hpn
  clear hwn hp hb0
  refine wp_region_any (by kernel_rfl) ?_
  try (change wpAny _ _ _ _ _ _ _ (World.drew _))
  refine wpAny_ready (rs := [0, 1]) (by kernel_rfl) (by simp) ?_
  refine AllReady.cons rfl (fun K hK => ?_) ?_
  · go_simp
    refine hK _ _ ?_
    clear hK K
    refine wpAny_ready (rs := [1]) (by kernel_rfl) (by simp) ?_
    refine AllReady.cons rfl (fun K hK => ?_) ?_
    · go_simp
      refine hK _ _ ?_
      clear hK K
      refine wpAny_ready (rs := [2]) (by kernel_rfl) (by simp) ?_
      refine AllReady.cons rfl (fun K hK => ?_) ?_
      · go_simp
        go_at_call 58; refine (hnx _ hbn hpn).mono ?_; rintro e w1 ⟨rfl, x1, y1⟩
        refine leaves_cons (f := 54) (args := #[.pointer (some ⟨w.heap.size, 0, none⟩)]) (by simp) (by simp [go_sem]) ?_
        refine (HC.out w1 (HS.out _ x1) y1).mono ?_
        rintro e u' w'' ⟨rfl, rfl, s3⟩
        simp [Leaves, settle, results, Tryz.results39, go_sem]
        exact s3
      exact AllReady.nil
    exact AllReady.nil
  refine AllReady.cons rfl (fun K hK => ?_) ?_
  · go_simp
    refine hK _ _ ?_
    clear hK K
    refine wpAny_ready (rs := [0, 2]) (by kernel_rfl) (by simp) ?_
    refine AllReady.cons rfl (fun K hK => ?_) ?_
    · go_simp
      refine hK _ _ ?_
      clear hK K
      refine wpAny_ready (rs := [2]) (by kernel_rfl) (by simp) ?_
      refine AllReady.cons rfl (fun K hK => ?_) ?_
      · go_simp
        go_at_call 58; refine (hnx _ hbn hpn).mono ?_; rintro e w1 ⟨rfl, x1, y1⟩
        refine leaves_cons (f := 54) (args := #[.pointer (some ⟨w.heap.size, 0, none⟩)]) (by simp) (by simp [go_sem]) ?_
        refine (HC.out w1 (HS.out _ x1) y1).mono ?_
        rintro e u' w'' ⟨rfl, rfl, s3⟩
        simp [Leaves, settle, results, Tryz.results39, go_sem]
        exact s3
      exact AllReady.nil
    refine AllReady.cons rfl (fun K hK => ?_) ?_
    · go_simp
      go_at_call 58; refine (hnx _ hbn hpn).mono ?_; rintro e w1 ⟨rfl, x1, y1⟩
      refine leaves_cons (f := 54) (args := #[.pointer (some ⟨w.heap.size, 0, none⟩)]) (by simp) (by simp [go_sem]) ?_
      refine (HC.out w1 (HS.out _ x1) y1).mono ?_
      rintro e u' w'' ⟨rfl, rfl, s3⟩
      simp [Leaves, settle, results, Tryz.results39, go_sem]
      exact s3
    exact AllReady.nil
  exact AllReady.nil
theorem bm_act_trap (S : Sees w F L m ov gr cr gc cc) (a0 : Apart0 w F) (h : tkb (m.c 0) (bits .and .i64 (m.c 9) (m.c 10)) = false) (hx : m.tx.length < 100000) {v : Int} (hf : m.fetch = .yes v) {x y : Int} (hd : m.exec 4294967295 (gO v) (gA v) (gB v) (gC v) (gM v) = .no x y) :
    Calls Tryz.prog 39 #[.pointer (some ⟨L.h, 0, none⟩)] w fun e w' => e = .returned (.tuple #[]) ∧ Step F (Bm L (m.trap x y)) w w' := by
  have hmf : ∀ (fn : Fn) (first cap : Array Value) (w : World), (Instr.makeFunc fn first cap).run Tryz.prog w = .ok (.func fn first cap) w := fun _ _ _ _ => rfl
  have htk := Go.Proofs.YtfcmodllbhpniaaGreatDoor.takes_says (m.c 0) (m.c 9) (m.c 10)
  rw [h] at htk
  have hlt := S.lt
  have hb0 : ∀ n, Below w.heap.size w ((w.alloc (.cells #[.pointer (some ⟨L.h, 0, none⟩)] 26)).drewN n).drew := fun n => (below_drewN ((Below.refl _ w).alloc (Nat.le_refl _) _) n).drew
  have hp : ∀ n, ((w.alloc (.cells #[.pointer (some ⟨L.h, 0, none⟩)] 26)).drewN n).drew.cell? ⟨w.heap.size, 0, none⟩ = some (.pointer (some ⟨L.h, 0, none⟩)) := fun n => by
    show (w.alloc _).cell? _ = _
    rw [cell_of_row _ _ 0 _ _ _ (heap_alloc_new _ _)]; rfl
  have hnx : ∀ u, Below w.heap.size w u → u.cell? ⟨w.heap.size, 0, none⟩ = some (.pointer (some ⟨L.h, 0, none⟩)) → Calls Tryz.prog 58 #[.pointer (some ⟨L.h, 0, none⟩)] u fun e w' => e = nextE m ∧ Below w.heap.size w w' ∧ w'.cell? ⟨w.heap.size, 0, none⟩ = some (.pointer (some ⟨L.h, 0, none⟩)) := fun u x y =>
    (bm_next (S.later x)).mono fun e w' h => ⟨h.1, x.trans (h.2.mono x.size), cell_later h.2 y⟩
  have S0 := S.later ((Below.refl _ w).alloc (Nat.le_refl _) (.cells #[.pointer (some ⟨L.h, 0, none⟩)] 26))
  have c25 := S0.c25
  have q0 := S0.csr (j := 0) (by omega)
  have q9 := S0.csr (j := 9) (by omega)
  have q10 := S0.csr (j := 10) (by omega)
  have hv : decOk v := by
    unfold Ma.fetch at hf
    split at hf
    · cases hf
    split at hf
    · cases hf
    split at hf
    · cases hf
    rename_i hd
    split at hf
    · cases hf
    injection hf with hf
    rw [← hf]
    exact Decidable.not_not.1 hd
  have e1 : nextE m = .returned (insV (gO v) (gA v) (gB v) (gC v) (gM v)) := by unfold nextE; rw [hf]
  rw [e1] at hnx
  have hdo : ∀ u, Below w.heap.size w u → u.cell? ⟨w.heap.size, 0, none⟩ = some (.pointer (some ⟨L.h, 0, none⟩)) → Calls Tryz.prog 57 #[.pointer (some ⟨L.h, 0, none⟩), insV (gO v) (gA v) (gB v) (gC v) (gM v)] u fun e w' => e = didE (m.exec 4294967295 (gO v) (gA v) (gB v) (gC v) (gM v)) ∧ Step F (Bm L (didM m (m.exec 4294967295 (gO v) (gA v) (gB v) (gC v) (gM v)))) w w' ∧ w'.cell? ⟨w.heap.size, 0, none⟩ = some (.pointer (some ⟨L.h, 0, none⟩)) := fun u x y =>
    (bm_do (S.later x) hv hx).mono fun e w' h => ⟨h.1, Step.after x h.2, (World.cell?_of_block (h.2.kept (World.block_lt_of_cell? u _ y) (fun hF => by have := hlt _ hF; exact absurd this (Nat.lt_irrefl _)))).trans y⟩
  rw [hd] at hdo
  dsimp only [didE, didM] at hdo
  have hw : Wd x ∧ Wd y := by
    have hG : Good (m.exec 4294967295 (gO v) (gA v) (gB v) (gC v) (gM v)) := S.fine.exec (by decide) (Ma.Fine.gA_lo v)
    rw [hd] at hG; exact hG
  have HC := Lib.hid (fun w2 (s : Step F (Bm L m) w w2) hp => catch_later (p := w.heap.size) a0 s hp hw.1 hw.2)
  clear S S0 h e1 hf hd hw hv hlt
  generalize m.trap x y = m' at *
  generalize gO v = vo at *
  generalize gA v = va at *
  generalize gB v = vb at *
  generalize gC v = vc at *
  generalize gM v = vm at *
  generalize tkn (m.c 0) (bits .and .i64 (m.c 9) (m.c 10)) = cause at *
  go_enter_defers Tryz.func39, Tryz.ntmps39
  go_wp2
  go_quiet ((go_at_call 56; with_reducible exact Calls.quiet_of_same ((htk _).mono (fun _ _ h => ⟨h.1, h.2.symm⟩))))
  go_wp2
  have hbn := hb0 nq
  have hpn := hp nq
  obtain ⟨wn, hwn⟩ : ∃ wn, wn = (w.alloc (.cells #[.pointer (some ⟨L.h, 0, none⟩)] 26)).drewN nq := ⟨_, rfl⟩
  rw [← hwn] at hbn hpn ⊢
  have hpn' : wn.cell? ⟨w.heap.size, 0, none⟩ = some (.pointer (some ⟨L.h, 0, none⟩)) := hpn
  clear hwn hp hb0
  refine wp_region_any (by kernel_rfl) ?_
  try (change wpAny _ _ _ _ _ _ _ (World.drew _))
  refine wpAny_ready (rs := [0, 1]) (by kernel_rfl) (by simp) ?_
  refine AllReady.cons rfl (fun K hK => ?_) ?_
  · go_simp
    refine hK _ _ ?_
    clear hK K
    refine wpAny_ready (rs := [1]) (by kernel_rfl) (by simp) ?_
    refine AllReady.cons rfl (fun K hK => ?_) ?_
    · go_simp
      refine hK _ _ ?_
      clear hK K
      refine wpAny_ready (rs := [2]) (by kernel_rfl) (by simp) ?_
      refine AllReady.cons rfl (fun K hK => ?_) ?_
      · go_simp
        go_at_call 58; refine (hnx _ hbn hpn).mono ?_; rintro e w1 ⟨rfl, x1, y1⟩
        refine hK _ _ ?_
        clear hK K
        refine wpAny_ready (rs := [3]) (by kernel_rfl) (by simp) ?_
        refine AllReady.cons rfl (fun K hK => ?_) ?_
        · go_simp
          go_at_call 57; refine (hdo _ x1 y1).mono ?_; rintro e w2 ⟨rfl, s2, y2⟩
          refine leaves_cons (f := 54) (args := #[.pointer (some ⟨w.heap.size, 0, none⟩)]) (by simp) (by simp [go_sem]) ?_
          refine (HC.out w2 s2 y2).mono ?_
          rintro e u' w'' ⟨rfl, rfl, s3⟩
          simp [Leaves, settle, results, Tryz.results39, go_sem]
          exact s3
        exact AllReady.nil
      exact AllReady.nil
    exact AllReady.nil
  refine AllReady.cons rfl (fun K hK => ?_) ?_
  · go_simp
    refine hK _ _ ?_
    clear hK K
    refine wpAny_ready (rs := [0, 2]) (by kernel_rfl) (by simp) ?_
    refine AllReady.cons rfl (fun K hK => ?_) ?_
    · go_simp
      refine hK _ _ ?_
      clear hK K
      refine wpAny_ready (rs := [2]) (by kernel_rfl) (by simp) ?_
      refine AllReady.cons rfl (fun K hK => ?_) ?_
      · go_simp
        go_at_call 58; refine (hnx _ hbn hpn).mono ?_; rintro e w1 ⟨rfl, x1, y1⟩
        refine hK _ _ ?_
        clear hK K
        refine wpAny_ready (rs := [3]) (by kernel_rfl) (by simp) ?_
        refine AllReady.cons rfl (fun K hK => ?_) ?_
        · go_simp
          go_at_call 57; refine (hdo _ x1 y1).mono ?_; rintro e w2 ⟨rfl, s2, y2⟩
          refine leaves_cons (f := 54) (args := #[.pointer (some ⟨w.heap.size, 0, none⟩)]) (by simp) (by simp [go_sem]) ?_
          refine (HC.out w2 s2 y2).mono ?_
          rintro e u' w'' ⟨rfl, rfl, s3⟩
          simp [Leaves, settle, results, Tryz.results39, go_sem]
          exact s3
        exact AllReady.nil
      exact AllReady.nil
    refine AllReady.cons rfl (fun K hK => ?_) ?_
    · go_simp
      go_at_call 58; refine (hnx _ hbn hpn).mono ?_; rintro e w1 ⟨rfl, x1, y1⟩
      refine hK _ _ ?_
      clear hK K
      refine wpAny_ready (rs := [0]) (by kernel_rfl) (by simp) ?_
      refine AllReady.cons rfl (fun K hK => ?_) ?_
      · go_simp
        refine hK _ _ ?_
        clear hK K
        refine wpAny_ready (rs := [3]) (by kernel_rfl) (by simp) ?_
        refine AllReady.cons rfl (fun K hK => ?_) ?_
        · go_simp
          go_at_call 57; refine (hdo _ x1 y1).mono ?_; rintro e w2 ⟨rfl, s2, y2⟩
          refine leaves_cons (f := 54) (args := #[.pointer (some ⟨w.heap.size, 0, none⟩)]) (by simp) (by simp [go_sem]) ?_
          refine (HC.out w2 s2 y2).mono ?_
          rintro e u' w'' ⟨rfl, rfl, s3⟩
          simp [Leaves, settle, results, Tryz.results39, go_sem]
          exact s3
        exact AllReady.nil
      exact AllReady.nil
    exact AllReady.nil
  exact AllReady.nil
theorem bm_act_yes (S : Sees w F L m ov gr cr gc cc) (_ : Apart0 w F) (h : tkb (m.c 0) (bits .and .i64 (m.c 9) (m.c 10)) = false) (hx : m.tx.length < 100000) {v : Int} (hf : m.fetch = .yes v) {m' : Ma} (hd : m.exec 4294967295 (gO v) (gA v) (gB v) (gC v) (gM v) = .yes m') :
    Calls Tryz.prog 39 #[.pointer (some ⟨L.h, 0, none⟩)] w fun e w' => e = .returned (.tuple #[]) ∧ Step F (Bm L m') w w' := by
  have hmf : ∀ (fn : Fn) (first cap : Array Value) (w : World), (Instr.makeFunc fn first cap).run Tryz.prog w = .ok (.func fn first cap) w := fun _ _ _ _ => rfl
  have htk := Go.Proofs.YtfcmodllbhpniaaGreatDoor.takes_says (m.c 0) (m.c 9) (m.c 10)
  rw [h] at htk
  have hlt := S.lt
  have hb0 : ∀ n, Below w.heap.size w ((w.alloc (.cells #[.pointer (some ⟨L.h, 0, none⟩)] 26)).drewN n).drew := fun n => (below_drewN ((Below.refl _ w).alloc (Nat.le_refl _) _) n).drew
  have hp : ∀ n, ((w.alloc (.cells #[.pointer (some ⟨L.h, 0, none⟩)] 26)).drewN n).drew.cell? ⟨w.heap.size, 0, none⟩ = some (.pointer (some ⟨L.h, 0, none⟩)) := fun n => by
    show (w.alloc _).cell? _ = _
    rw [cell_of_row _ _ 0 _ _ _ (heap_alloc_new _ _)]; rfl
  have hnx : ∀ u, Below w.heap.size w u → u.cell? ⟨w.heap.size, 0, none⟩ = some (.pointer (some ⟨L.h, 0, none⟩)) → Calls Tryz.prog 58 #[.pointer (some ⟨L.h, 0, none⟩)] u fun e w' => e = nextE m ∧ Below w.heap.size w w' ∧ w'.cell? ⟨w.heap.size, 0, none⟩ = some (.pointer (some ⟨L.h, 0, none⟩)) := fun u x y =>
    (bm_next (S.later x)).mono fun e w' h => ⟨h.1, x.trans (h.2.mono x.size), cell_later h.2 y⟩
  have S0 := S.later ((Below.refl _ w).alloc (Nat.le_refl _) (.cells #[.pointer (some ⟨L.h, 0, none⟩)] 26))
  have c25 := S0.c25
  have q0 := S0.csr (j := 0) (by omega)
  have q9 := S0.csr (j := 9) (by omega)
  have q10 := S0.csr (j := 10) (by omega)
  have hv : decOk v := by
    unfold Ma.fetch at hf
    split at hf
    · cases hf
    split at hf
    · cases hf
    split at hf
    · cases hf
    rename_i hd
    split at hf
    · cases hf
    injection hf with hf
    rw [← hf]
    exact Decidable.not_not.1 hd
  have e1 : nextE m = .returned (insV (gO v) (gA v) (gB v) (gC v) (gM v)) := by unfold nextE; rw [hf]
  rw [e1] at hnx
  have hdo : ∀ u, Below w.heap.size w u → u.cell? ⟨w.heap.size, 0, none⟩ = some (.pointer (some ⟨L.h, 0, none⟩)) → Calls Tryz.prog 57 #[.pointer (some ⟨L.h, 0, none⟩), insV (gO v) (gA v) (gB v) (gC v) (gM v)] u fun e w' => e = didE (m.exec 4294967295 (gO v) (gA v) (gB v) (gC v) (gM v)) ∧ Step F (Bm L (didM m (m.exec 4294967295 (gO v) (gA v) (gB v) (gC v) (gM v)))) w w' ∧ w'.cell? ⟨w.heap.size, 0, none⟩ = some (.pointer (some ⟨L.h, 0, none⟩)) := fun u x y =>
    (bm_do (S.later x) hv hx).mono fun e w' h => ⟨h.1, Step.after x h.2, (World.cell?_of_block (h.2.kept (World.block_lt_of_cell? u _ y) (fun hF => by have := hlt _ hF; exact absurd this (Nat.lt_irrefl _)))).trans y⟩
  rw [hd] at hdo
  dsimp only [didE, didM] at hdo
  clear S S0 h e1 hf hd hv hlt
  generalize gO v = vo at *
  generalize gA v = va at *
  generalize gB v = vb at *
  generalize gC v = vc at *
  generalize gM v = vm at *
  generalize tkn (m.c 0) (bits .and .i64 (m.c 9) (m.c 10)) = cause at *
  go_enter_defers Tryz.func39, Tryz.ntmps39
  go_wp2
  go_quiet ((go_at_call 56; with_reducible exact Calls.quiet_of_same ((htk _).mono (fun _ _ h => ⟨h.1, h.2.symm⟩))))
  go_wp2
  have hbn := hb0 nq
  have hpn := hp nq
  obtain ⟨wn, hwn⟩ : ∃ wn, wn = (w.alloc (.cells #[.pointer (some ⟨L.h, 0, none⟩)] 26)).drewN nq := ⟨_, rfl⟩
  rw [← hwn] at hbn hpn ⊢
  have hpn' : wn.cell? ⟨w.heap.size, 0, none⟩ = some (.pointer (some ⟨L.h, 0, none⟩)) := hpn
  clear hwn hp hb0
  refine wp_region_any (by kernel_rfl) ?_
  try (change wpAny _ _ _ _ _ _ _ (World.drew _))
  refine wpAny_ready (rs := [0, 1]) (by kernel_rfl) (by simp) ?_
  refine AllReady.cons rfl (fun K hK => ?_) ?_
  · go_simp
    refine hK _ _ ?_
    clear hK K
    refine wpAny_ready (rs := [1]) (by kernel_rfl) (by simp) ?_
    refine AllReady.cons rfl (fun K hK => ?_) ?_
    · go_simp
      refine hK _ _ ?_
      clear hK K
      refine wpAny_ready (rs := [2]) (by kernel_rfl) (by simp) ?_
      refine AllReady.cons rfl (fun K hK => ?_) ?_
      · go_simp
        go_at_call 58; refine (hnx _ hbn hpn).mono ?_; rintro e w1 ⟨rfl, x1, y1⟩
        refine hK _ _ ?_
        clear hK K
        refine wpAny_ready (rs := [3]) (by kernel_rfl) (by simp) ?_
        refine AllReady.cons rfl (fun K hK => ?_) ?_
        · go_simp
          go_at_call 57; refine (hdo _ x1 y1).mono ?_; rintro e w2 ⟨rfl, s2, y2⟩
          refine hK _ _ ?_
          clear hK K
          refine wpAny_done (by kernel_rfl) ?_ _
          refine leaves_cons (f := 54) (args := #[.pointer (some ⟨w.heap.size, 0, none⟩)]) (by simp) (by simp [go_sem]) ?_
          refine (catch_idle _ _).mono ?_
          rintro e u' w'' ⟨rfl, rfl, rfl⟩
          simp [Leaves, settle, results, Tryz.results39, go_sem]
          exact s2
        exact AllReady.nil
      exact AllReady.nil
    exact AllReady.nil
  refine AllReady.cons rfl (fun K hK => ?_) ?_
  · go_simp
    refine hK _ _ ?_
    clear hK K
    refine wpAny_ready (rs := [0, 2]) (by kernel_rfl) (by simp) ?_
    refine AllReady.cons rfl (fun K hK => ?_) ?_
    · go_simp
      refine hK _ _ ?_
      clear hK K
      refine wpAny_ready (rs := [2]) (by kernel_rfl) (by simp) ?_
      refine AllReady.cons rfl (fun K hK => ?_) ?_
      · go_simp
        go_at_call 58; refine (hnx _ hbn hpn).mono ?_; rintro e w1 ⟨rfl, x1, y1⟩
        refine hK _ _ ?_
        clear hK K
        refine wpAny_ready (rs := [3]) (by kernel_rfl) (by simp) ?_
        refine AllReady.cons rfl (fun K hK => ?_) ?_
        · go_simp
          go_at_call 57; refine (hdo _ x1 y1).mono ?_; rintro e w2 ⟨rfl, s2, y2⟩
          refine hK _ _ ?_
          clear hK K
          refine wpAny_done (by kernel_rfl) ?_ _
          refine leaves_cons (f := 54) (args := #[.pointer (some ⟨w.heap.size, 0, none⟩)]) (by simp) (by simp [go_sem]) ?_
          refine (catch_idle _ _).mono ?_
          rintro e u' w'' ⟨rfl, rfl, rfl⟩
          simp [Leaves, settle, results, Tryz.results39, go_sem]
          exact s2
        exact AllReady.nil
      exact AllReady.nil
    refine AllReady.cons rfl (fun K hK => ?_) ?_
    · go_simp
      go_at_call 58; refine (hnx _ hbn hpn).mono ?_; rintro e w1 ⟨rfl, x1, y1⟩
      refine hK _ _ ?_
      clear hK K
      refine wpAny_ready (rs := [0]) (by kernel_rfl) (by simp) ?_
      refine AllReady.cons rfl (fun K hK => ?_) ?_
      · go_simp
        refine hK _ _ ?_
        clear hK K
        refine wpAny_ready (rs := [3]) (by kernel_rfl) (by simp) ?_
        refine AllReady.cons rfl (fun K hK => ?_) ?_
        · go_simp
          go_at_call 57; refine (hdo _ x1 y1).mono ?_; rintro e w2 ⟨rfl, s2, y2⟩
          refine hK _ _ ?_
          clear hK K
          refine wpAny_done (by kernel_rfl) ?_ _
          refine leaves_cons (f := 54) (args := #[.pointer (some ⟨w.heap.size, 0, none⟩)]) (by simp) (by simp [go_sem]) ?_
          refine (catch_idle _ _).mono ?_
          rintro e u' w'' ⟨rfl, rfl, rfl⟩
          simp [Leaves, settle, results, Tryz.results39, go_sem]
          exact s2
        exact AllReady.nil
      exact AllReady.nil
    exact AllReady.nil
  exact AllReady.nil
theorem bm_act (S : Sees w F L m ov gr cr gc cc) (a0 : Apart0 w F) (hx : m.tx.length < 100000) :
    Calls Tryz.prog 39 #[.pointer (some ⟨L.h, 0, none⟩)] w fun e w' => e = .returned (.tuple #[]) ∧ Step F (Bm L (m.act 4294967295)) w w' := by
  unfold Ma.act
  cases h : tkb (m.c 0) (bits .and .i64 (m.c 9) (m.c 10)) with
  | true => exact bm_act_int S a0 h
  | false =>
    rw [if_neg (by decide)]
    unfold Ma.one
    cases hf : m.fetch with
    | no x y => exact bm_act_next S a0 h hf
    | yes v =>
      show Calls _ _ _ _ fun e w' => e = .returned (.tuple #[]) ∧ Step F (Bm L (match m.exec 4294967295 (gO v) (gA v) (gB v) (gC v) (gM v) with | .no x y => m.trap x y | .yes m' => m')) w w'
      cases hd : m.exec 4294967295 (gO v) (gA v) (gB v) (gC v) (gM v) with
      | no x y => exact bm_act_trap S a0 h hx hf hd
      | yes m' => exact bm_act_yes S a0 h hx hf hd
end
end Go.Proofs.YtfcmodllbhpniaaGreatDoor.Ser
