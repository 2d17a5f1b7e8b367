/-
  Package bare: the closure that act defers. | Package bare: do, put together.
-/
import Derived.Test.YtfcmodllbhpniaaGreatDoorJnBareT
import Derived.Test.YtfcmodllbhpniaaGreatDoorJnQd
import Derived.Test.YtfcmodllbhpniaaGreatDoorJnGh
import Derived.Test.YtfcmodllbhpniaaGreatDoorJnIj
import Derived.Test.YtfcmodllbhpniaaGreatDoorJnBareN
import Derived.Recover
import Derived.Defers
import Derived.Stop.Asserts
set_option linter.unusedVariables false
set_option maxRecDepth 100000
namespace Go.Proofs.YtfcmodllbhpniaaGreatDoor.Ser
open Go.Proofs.YtfcmodllbhpniaaGreatDoor
open Go.ChangeShapes Go.WideShapes Go.ChangeAt Go.RowKit
section
variable {w : World} {F : Nat → Prop} {L : Lay} {m : Ma} {ov : Value} {gr cr gc cc : Nat}
/-- The closure that act defers, where a trap goes up. -/
theorem catch_panicking (S : Sees w F L m ov gr cr gc cc) (hg : Glob w) {c t : Int} (hc : Wd c) (ht : Wd t) (p : Nat) (older : List PanicEntry) (hp : w.cell? ⟨p, 0, none⟩ = some (.pointer (some ⟨L.h, 0, none⟩))) :
    CallsD Tryz.prog 54 #[.pointer (some ⟨p, 0, none⟩)] (.panicking ({ v := .iface 103 (trapV c t), recovered := false } :: older)) w fun e u' w' =>
      e = .returned (.tuple #[]) ∧ u' = .panicking ({ v := .iface 103 (trapV c t), recovered := true } :: older) ∧ Step F (Bm L (m.trap c t)) w w' := by
  have hta := fun (x : TypeId) (v : Value) (w : World) => run_typeAssert_hasB (P := Tryz.prog) (asserted := 97) (t := 103) Tryz.underlying97 (by kernel_rfl) v x w
  have htk := bm_take S hg hc ht
  refine callsD_of_wpS Tryz.func54 rfl fun c₀ cs hu => ?_
  apply wpS_seq
  apply wpS_region
  simp [wpOpsS, go_sem, recoverD, hu, Tryz.ntmps54, Exit.thenS, hta]
  refine wpS_of_wp ?_
  simp only [Array.replicate, List.replicate, List.setIfInBounds_toArray, List.set_cons_zero, List.set_cons_succ]
  change Code.wp _ _ _ { tmps := #[.pointer (some ⟨p, 0, none⟩), .iface 103 (trapV c t), .bool true, .tuple #[.iface 103 (trapV c t), .bool true], .iface 103 (trapV c t), .tuple #[.iface 103 (trapV c t), .bool true], .iface 103 (trapV c t), .bool true, undef, undef, undef, undef], defers := [] } w
  refine Code.wp_mono (Q := fun e a' w' => e = Exit.normal ∧ a'.defers = [] ∧ Step F (Bm L (m.trap c t)) w w') (fun e a' w' h => ?_) ?_
  · obtain ⟨rfl, h1, h2⟩ := h
    simp [bodyPostS, results, Tryz.results54, h1, h2]
  clear hu S hg hta hc ht
  go_wp2_with (go_at_call 55; refine htk.mono ?_; rintro e w5 ⟨rfl, s5⟩)
theorem catch_idle (p : Nat) (w : World) :
    CallsD Tryz.prog 54 #[.pointer (some ⟨p, 0, none⟩)] .returning w fun e u' w' => e = .returned (.tuple #[]) ∧ u' = .returning ∧ w' = w := by
  have hta : ∀ (x : TypeId) (w : World), (Instr.typeAssert .nilIface x 97 true).run Tryz.prog w = .ok (.tuple #[.nilIface, .bool false]) w := fun _ _ => by kernel_rfl
  refine callsD_of_wpS Tryz.func54 rfl fun c₀ cs hu => ?_
  apply wpS_seq
  apply wpS_region
  simp [wpOpsS, go_sem, recoverD, hu, Tryz.ntmps54, Exit.thenS, hta]
  refine wpS_of_wp ?_
  change Code.wp _ _ _ { tmps := #[.pointer (some ⟨p, 0, none⟩), .nilIface, .bool false, .tuple #[.nilIface, .bool false], .nilIface, .tuple #[.nilIface, .bool false], .nilIface, .bool false, undef, undef, undef, undef], defers := [] } w
  go_wp2
  cases c₀
  simp_all [bodyPostS, results, Tryz.results54]
end
end Go.Proofs.YtfcmodllbhpniaaGreatDoor.Ser
set_option maxRecDepth 100000
namespace Go.Proofs.YtfcmodllbhpniaaGreatDoor.Ser
open Go.Proofs.YtfcmodllbhpniaaGreatDoor
open Go.ChangeShapes Go.WideShapes Go.ChangeAt Go.RowKit
theorem opF_lt {op : Int} (h : opF op ≠ 0) : 0 ≤ op ∧ op ≤ 70 := by
  unfold opF at h
  by_cases h0 : op < 0
  · rw [if_pos h0] at h; exact absurd rfl h
  · rw [if_neg h0] at h
    refine ⟨by omega, ?_⟩
    have hl : opTab.length = 71 := by decide
    rcases Nat.lt_or_ge op.toNat opTab.length with h1 | h1
    · omega
    · rw [List.getD_eq_getElem?_getD, List.getElem?_eq_none h1] at h; exact absurd rfl h
theorem dec_facts {v : Int} (h : decOk v) : (0 ≤ gA v ∧ gA v ≤ 15) ∧ (0 ≤ gB v ∧ gB v ≤ 15) ∧ (0 ≤ gC v ∧ gC v ≤ 15) ∧ (-2147483648 ≤ gM v ∧ gM v ≤ 2147483647) ∧ (0 ≤ gO v ∧ gO v ≤ 255) ∧ (gO v ≠ 37 ∧ gO v ≠ 38 ∧ gO v ≠ 39) ∧ (gO v = 68 ∨ gO v = 69 → 0 ≤ gM v ∧ gM v ≤ 10) := by
  obtain ⟨-, e1, e2, e3, e4, e5⟩ := dec_yes v h
  rw [e1, e2, e3, e4, e5]
  have hE := h.1
  unfold encE at hE
  have hf : opF (dO v) ≠ 0 := by intro e; rw [if_pos e] at hE; omega
  rw [if_neg hf] at hE
  have hq : ¬ badQ (fR (opF (dO v))) (dA v) (dB v) (dC v) := by intro e; rw [if_pos e] at hE; omega
  rw [if_neg hq] at hE
  have hm : ¬ (dM v < fL (opF (dO v)) ∨ fH (opF (dO v)) < dM v) := by intro e; rw [if_pos e] at hE; omega
  unfold badQ at hq
  have hb := opF_lt hf
  have hL : -524288 ≤ fL (opF (dO v)) := by unfold fL; (repeat' split) <;> omega
  have hH : fH (opF (dO v)) ≤ 524287 := by unfold fH; (repeat' split) <;> omega
  refine ⟨by omega, by omega, by omega, by omega, by omega, ⟨fun e => ?_, fun e => ?_, fun e => ?_⟩, fun e => ?_⟩
  · rw [e] at hf; exact hf (by decide)
  · rw [e] at hf; exact hf (by decide)
  · rw [e] at hf; exact hf (by decide)
  · rcases e with e | e
    · rw [e] at hm
      have h1 : fL (opF 68) = 0 := by decide
      have h2 : fH (opF 68) = 10 := by decide
      omega
    · rw [e] at hm
      have h1 : fL (opF 69) = 0 := by decide
      have h2 : fH (opF 69) = 10 := by decide
      omega
section
variable {w : World} {F : Nat → Prop} {L : Lay} {m : Ma} {ov : Value} {gr cr gc cc : Nat}
theorem bm_do (S : Sees w F L m ov gr cr gc cc) {v : Int} (hv : decOk v) (hx : m.tx.length < 100000) :
    Calls Tryz.prog 57 #[.pointer (some ⟨L.h, 0, none⟩), insV (gO v) (gA v) (gB v) (gC v) (gM v)] w fun e w' => e = didE (m.exec 4294967295 (gO v) (gA v) (gB v) (gC v) (gM v)) ∧ Step F (Bm L (didM m (m.exec 4294967295 (gO v) (gA v) (gB v) (gC v) (gM v)))) w w' := by
  obtain ⟨⟨a0, a1⟩, ⟨b0, b1⟩, ⟨c0, c1⟩, him, ho, hk', hC⟩ := dec_facts hv
  generalize gO v = op at *
  generalize gA v = a' at *
  generalize gB v = b' at *
  generalize gC v = c' at *
  generalize gM v = imm at *
  obtain ⟨a, rfl⟩ := Int.eq_ofNat_of_zero_le a0
  obtain ⟨b, rfl⟩ := Int.eq_ofNat_of_zero_le b0
  obtain ⟨c, rfl⟩ := Int.eq_ofNat_of_zero_le c0
  unfold Ma.exec
  by_cases h56 : op = 56
  · rw [if_pos h56]; exact bm_do_56 S (by omega) (by omega) him h56
  rw [if_neg h56]
  by_cases h57 : op = 57
  · rw [if_pos h57]; exact bm_do_57 S (by omega) (by omega) him h57
  rw [if_neg h57]
  by_cases h64 : op = 64
  · rw [if_pos h64]
    cases hu : m.us with
    | true => exact bm_do_64u S (by omega) (by omega) him h64 hu
    | false =>
      have h := bm_do_64 S (a := a) (b := b) (c := c) (by omega) (by omega) him h64 hu
      unfold callM at h
      rw [if_neg (by rw [hu]; decide)] at h
      rw [if_neg (by decide)]
      by_cases h1 : m.r 1 = 0
      · rw [if_pos h1] at h ⊢; exact h
      · rw [if_neg h1] at h ⊢; exact h
  rw [if_neg h64]
  by_cases h65 : op = 65
  · rw [if_pos h65]; exact bm_do_65 S (by omega) (by omega) him h65
  rw [if_neg h65]
  by_cases h66 : op = 66
  · rw [if_pos h66]
    by_cases hz : bits .and .i64 (m.c 9) (m.c 10) = 0
    · rw [if_pos hz]; exact bm_do_66s S (by omega) (by omega) him h66 hz
    · rw [if_neg hz]; exact bm_do_66 S (by omega) (by omega) him h66 hz
  rw [if_neg h66]
  by_cases h68 : op = 68
  · rw [if_pos h68]
    obtain ⟨m0, m1⟩ := hC (.inl h68)
    obtain ⟨k, rfl⟩ := Int.eq_ofNat_of_zero_le m0
    exact bm_do_68 S (by omega) (by omega) h68 (by omega)
  rw [if_neg h68]
  by_cases h69 : op = 69
  · rw [if_pos h69]
    obtain ⟨m0, m1⟩ := hC (.inr h69)
    obtain ⟨k, rfl⟩ := Int.eq_ofNat_of_zero_le m0
    exact bm_do_69 S (by omega) (by omega) h69 (by omega)
  rw [if_neg h69]
  by_cases h70 : op = 70
  · rw [if_pos h70]; exact bm_do_70 S (by omega) (by omega) him h70
  rw [if_neg h70]
  show Calls _ _ _ _ fun e w' => e = didE (compD m op a b c imm (wd (m.pc + 4))) ∧ Step F (Bm L (didM m (compD m op a b c imm (wd (m.pc + 4))))) w w'
  cases hd : compD m op a b c imm (wd (m.pc + 4)) with
  | no x y => exact bm_do_restno S (by omega) (by omega) him (by omega) ho hk' hx ⟨h56, h57, h64, h65, h66, h68, h69, h70⟩ hd
  | yes m' => exact bm_do_rest S (by omega) (by omega) him (by omega) ho hk' hx ⟨h56, h57, h64, h65, h66, h68, h69, h70⟩ hd
end
end Go.Proofs.YtfcmodllbhpniaaGreatDoor.Ser
