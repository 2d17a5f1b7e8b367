/-
  Package bare: user, set, privileged, ask, pend, find.
-/
import Derived.Test.YtfcmodllbhpniaaGreatDoorJnBareLay
import Derived.Test.YtfcmodllbhpniaaGreatDoorJnAs
import Derived.Test.YtfcmodllbhpniaaGreatDoorJnWalk
import Derived.Test.YtfcmodllbhpniaaGreatDoorJnWords
import Derived.Deep.RegionWith
set_option linter.unusedVariables false
set_option maxRecDepth 100000
namespace Go.Proofs.YtfcmodllbhpniaaGreatDoor.Ser
open Go.Proofs.YtfcmodllbhpniaaGreatDoor
open Go.ChangeShapes Go.WideShapes Go.ChangeAt Go.RowKit
section
variable {w : World} {F : Nat → Prop} {L : Lay} {m : Ma} {ov : Value} {gr cr gc cc : Nat}
theorem bm_user (S : Sees w F L m ov gr cr gc cc) : Calls Tryz.prog 76 #[.pointer (some ⟨L.h, 0, none⟩)] w fun e w' => e = .returned (.bool m.us) ∧ w = w' := by
  have c25 := S.c25
  have k0 := S.csr (j := 0) (by omega)
  have hu : (decide (m.c 0 / 4 % 2 = 0)) = m.us := rfl
  obtain ⟨u, hu2⟩ : ∃ u, u = m.us := ⟨_, rfl⟩
  rw [← hu2] at hu ⊢
  have hc := user_says (m.c 0)
  rw [hu] at hc
  clear S hu hu2
  go_enter Tryz.func76, Tryz.ntmps76
  go_wp2_with (go_at_call 78; refine (hc _).mono ?_; rintro e w1 ⟨rfl, rfl⟩)
  go_ret
  exact ⟨rfl, rfl⟩
theorem bm_set (S : Sees w F L m ov gr cr gc cc) {a v : Int} (h1 : 0 ≤ a) (h2 : a ≤ 15) (hv : Wd v) : Calls Tryz.prog 80 #[.pointer (some ⟨L.h, 0, none⟩), i64 a, i64 v] w fun e w' => e = .returned (.tuple #[]) ∧ Step F (Bm L (m.set a v)) w w' := by
  by_cases h0 : a = 0
  · subst h0
    have hs : Step F (Bm L (m.set 0 v)) w w := Step.refl S.is
    clear S
    go_enter Tryz.func80, Tryz.ntmps80
    go_wp2
    go_end0
    exact ⟨rfl, hs⟩
  · have c23 := S.c23
    have hs := S.reg' h0 h1 h2 hv
    have hr := S.reg h1 h2
    have hf := S.fr a.toNat
    clear S
    generalize m.set a v = m' at *
    generalize m.r a = old at *
    obtain ⟨n, rfl⟩ := Int.eq_ofNat_of_zero_le h1
    simp only [Int.toNat_natCast] at hs hr hf
    go_enter Tryz.func80, Tryz.ntmps80
    go_wp2
    go_end0
    exact ⟨rfl, hs⟩
theorem bm_ask (S : Sees w F L m ov gr cr gc cc) (q : Value) (n : Int) : Calls Tryz.prog 53 #[.pointer (some ⟨L.h, 0, none⟩), q, i64 n] w fun e w' => e = .returned (i64 n) ∧ Below w.heap.size w w' := by
  have c2 := S.c2
  have hl : L.h < w.heap.size := World.block_lt_of_cell? w _ c2
  have fz := S.fz 2
  have hb : ∀ o1 o2 o3, Below w.heap.size w (((w.alloc o1).alloc o2).alloc o3) := fun o1 o2 o3 =>
    (((Below.refl _ w).alloc (Nat.le_refl _) _).alloc (by simp) _).alloc (by simp; omega) _
  have hta : ∀ (x : TypeId) (w : World), (Instr.typeAssert .nilIface x 73 true).run Tryz.prog w = .ok (.tuple #[.agg #[.nilIface], .bool false]) w := fun _ _ => by kernel_rfl
  clear S
  go_enter_defers Tryz.func53, Tryz.ntmps53
  go_wp2
  simp [bodyPostD, Leaves, results, Tryz.results53, go_sem]
  exact hb _ _ _
theorem bm_pend (S : Sees w F L m ov gr cr gc cc) : Calls Tryz.prog 38 #[.pointer (some ⟨L.h, 0, none⟩)] w fun e w' => e = .returned (i64 (m.pend 0)) ∧ Below w.heap.size w w' := by
  have c25 := S.c25
  have k7 : ∀ u, Below w.heap.size w u → u.cell? ⟨gc, 7, none⟩ = some (i64 (m.c 7)) := fun u b => (S.later b).csr (j := 7) (by omega)
  have k8 : ∀ u, Below w.heap.size w u → u.cell? ⟨gc, 8, none⟩ = some (i64 (m.c 8)) := fun u b => (S.later b).csr (j := 8) (by omega)
  have hw : ∀ u, Below w.heap.size w u → Calls Tryz.prog 52 #[.pointer (some ⟨L.h, 4, none⟩)] u fun e w' => e = .returned (i64 m.rx.length) ∧ u = w' := fun u b => by
    obtain ⟨ring, f, v, U⟩ := (S.later b).ua
    exact waiting_says U
  have ha : ∀ u, Below w.heap.size w u → ∀ q n, Calls Tryz.prog 53 #[.pointer (some ⟨L.h, 0, none⟩), q, i64 n] u fun e w' => e = .returned (i64 n) ∧ Below w.heap.size w w' := fun u b q n =>
    (bm_ask (S.later b) q n).mono fun e w' h => ⟨h.1, b.trans (h.2.mono b.size)⟩
  have hp := pending_says (m.c 7) (m.c 8) m.rx.length 0
  have he : m.pend 0 = pnd (m.c 7) (m.c 8) m.rx.length 0 := rfl
  rw [← he] at hp
  have hmf : ∀ (fn : Fn) (first cap : Array Value) (w : World), (Instr.makeFunc fn first cap).run Tryz.prog w = .ok (.func fn first cap) w := fun _ _ _ _ => rfl
  clear S he
  generalize m.pend 0 = pv at *
  generalize m.rx.length = n at *
  generalize m.c 7 = c7 at *
  generalize m.c 8 = c8 at *
  go_enter Tryz.func38, Tryz.ntmps38
  go_wp2
  have hd0 : Below w.heap.size w w.drew := (Below.refl _ _).drew
  go_region_held3 (fun u => Below w.heap.size w u) (first | with_reducible exact hd0 | with_reducible assumption) (first
    | (go_at_call 52; refine (hw _ (by assumption)).mono ?_; rintro e w1 ⟨rfl, rfl⟩)
    | (go_at_call 53; refine (ha _ (by assumption) _ _).mono ?_; rintro e w1 ⟨rfl, hb⟩)
    | (go_at_call 51; refine (hp _).mono ?_; rintro e w2 ⟨rfl, rfl⟩))
  all_goals
    go_wp2_with fail
    go_ret
    exact ⟨rfl, hb⟩
/-- A trap that goes up. -/
abbrev trapE (c t : Int) : Ending := .panicked [{ v := .iface 103 (trapV c t), recovered := false }]
def findE (m : Ma) (va size kind : Int) : Ending := if (m.find va size kind).2 = 0 then .returned (i64 (m.find va size kind).1) else trapE (m.find va size kind).2 va
set_option maxHeartbeats 2000000 in
theorem bm_find (S : Sees w F L m ov gr cr gc cc) {va size kind : Int} (hv : Wd va) (hs : size = 1 ∨ size = 2 ∨ size = 4) :
    Calls Tryz.prog 86 #[.pointer (some ⟨L.h, 0, none⟩), i64 va, i64 size, i64 kind] w fun e w' => e = findE m va size kind ∧ Below w.heap.size w w' := by
  have k3 : ∀ u, Below w.heap.size w u → u.cell? ⟨L.h, 3, none⟩ = some (.pointer (some ⟨L.hm, 0, none⟩)) := fun u b => (S.later b).c3
  have k25 : ∀ u, Below w.heap.size w u → u.cell? ⟨L.h, 25, none⟩ = some (.slice (some ⟨gc, 0, none⟩) 11 cc) := fun u b => (S.later b).c25
  have k6 : ∀ u, Below w.heap.size w u → u.cell? ⟨gc, 6, none⟩ = some (i64 (m.c 6)) := fun u b => (S.later b).csr (j := 6) (by omega)
  have hu : ∀ u, Below w.heap.size w u → Calls Tryz.prog 76 #[.pointer (some ⟨L.h, 0, none⟩)] u fun e w' => e = .returned (.bool m.us) ∧ u = w' := fun u b => bm_user (S.later b)
  have hw : ∀ u, Below w.heap.size w u → Calls Tryz.prog 119 #[.iface 63 (.pointer (some ⟨L.hm, 0, none⟩)), i64 (m.c 6), i64 va, i64 kind, .bool m.us] u fun e w' => e = .returned (.tuple #[i64 (walkV m.M (m.c 6) va kind m.us).1, i64 (walkV m.M (m.c 6) va kind m.us).2]) ∧ Below w.heap.size w w' :=
    fun u b => (walk_says (S.later b).mem (m.c 6) va kind m.us).mono fun e w' h => ⟨h.1, b.trans (h.2.mono b.size)⟩
  have hd0 : Below w.heap.size w w.drew := (Below.refl _ _).drew
  have h0 := hv.1
  have h1 := hv.2
  have hF : va % size = 0 → m.find va size kind = walkV m.M (m.c 6) va kind m.us := fun h => if_neg (fun e => e h)
  have hA : va % size ≠ 0 → findE m va size kind = trapE 3 va := fun h => by unfold findE Ma.find; rw [if_pos h]; rfl
  have hB : va % size = 0 → (walkV m.M (m.c 6) va kind m.us).2 = 0 → findE m va size kind = .returned (i64 (walkV m.M (m.c 6) va kind m.us).1) := fun h h2 => by unfold findE; rw [hF h, if_pos h2]
  have hC : va % size = 0 → (walkV m.M (m.c 6) va kind m.us).2 ≠ 0 → findE m va size kind = trapE (walkV m.M (m.c 6) va kind m.us).2 va := fun h h2 => by unfold findE; rw [hF h, if_neg h2]
  clear S hv hF
  generalize m.us = us at *
  generalize m.c 6 = c6 at *
  generalize walkV m.M c6 va kind us = W at *
  obtain ⟨wa, wc⟩ := W
  generalize findE m va size kind = fe at *
  by_cases ha : va % size = 0
  · by_cases hc : wc = 0
    · subst hc
      obtain rfl := hB ha rfl
      clear hA hB hC
      rcases hs with rfl | rfl | rfl
      all_goals
        go_enter Tryz.func86, Tryz.ntmps86
        go_wp2
        go_region_held3 (fun u => Below w.heap.size w u) (first | with_reducible exact hd0 | with_reducible assumption) (first
          | (go_at_call 119; refine (hw _ (by assumption)).mono ?_; rintro e w1 ⟨rfl, hb⟩)
          | (go_at_call 76; refine (hu _ (by assumption)).mono ?_; rintro e w1 ⟨rfl, rfl⟩))
        all_goals
          go_wp2_with fail
          go_ret
          exact ⟨rfl, hb⟩
    · obtain rfl := hC ha hc
      clear hA hB hC
      have hc' : (wc == 0) = false := by simpa using hc
      rcases hs with rfl | rfl | rfl
      all_goals
        go_enter Tryz.func86, Tryz.ntmps86
        go_wp2
        go_region_held3 (fun u => Below w.heap.size w u) (first | with_reducible exact hd0 | with_reducible assumption) (first
          | (go_at_call 119; refine (hw _ (by assumption)).mono ?_; rintro e w1 ⟨rfl, hb⟩)
          | (go_at_call 76; refine (hu _ (by assumption)).mono ?_; rintro e w1 ⟨rfl, rfl⟩))
        all_goals
          go_wp2_with fail
          exact ⟨rfl, rfl, hb⟩
  · obtain rfl := hA ha
    clear hA hB hC
    rcases hs with rfl | rfl | rfl
    · exfalso; omega
    all_goals
      go_enter Tryz.func86, Tryz.ntmps86
      go_wp2
      exact ⟨rfl, rfl, Below.refl _ _⟩
end
theorem bm_privileged (op : Int) : Says 88 #[i64 op] (.bool (prv op)) := by
  intro w
  have hp : prv op = decide (op = 65 ∨ op = 66 ∨ op = 68 ∨ op = 69) := rfl
  by_cases h1 : op = 65
  · subst h1; rw [show prv 65 = true from rfl]; go_enter Tryz.func88, Tryz.ntmps88; go_wp2; go_ret; exact ⟨rfl, rfl⟩
  by_cases h2 : op = 66
  · subst h2; rw [show prv 66 = true from rfl]; go_enter Tryz.func88, Tryz.ntmps88; go_wp2; go_ret; exact ⟨rfl, rfl⟩
  by_cases h3 : op = 68
  · subst h3; rw [show prv 68 = true from rfl]; go_enter Tryz.func88, Tryz.ntmps88; go_wp2; go_ret; exact ⟨rfl, rfl⟩
  by_cases h4 : op = 69
  · subst h4; rw [show prv 69 = true from rfl]; go_enter Tryz.func88, Tryz.ntmps88; go_wp2; go_ret; exact ⟨rfl, rfl⟩
  rw [hp, show decide (op = 65 ∨ op = 66 ∨ op = 68 ∨ op = 69) = false by simp [h1, h2, h3, h4]]
  clear hp
  go_enter Tryz.func88, Tryz.ntmps88
  go_wp2
  go_ret
  exact ⟨rfl, rfl⟩
end Go.Proofs.YtfcmodllbhpniaaGreatDoor.Ser
