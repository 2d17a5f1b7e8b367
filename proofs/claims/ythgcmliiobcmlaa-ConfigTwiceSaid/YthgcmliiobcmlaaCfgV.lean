
/-
  Plain: what is wrong with configurations of two partitions.
-/
import Derived.Test.YthgcmliiobcmlaaCfgL
set_option maxRecDepth 100000
set_option linter.unusedVariables false
namespace Go.Proofs.Ythgcmliiobcmlaa.Cfg
open Go.Proofs.Ythgcmliiobcmlaa
open Go.ChangeShapes Go.WideShapes Go.ChangeAt Go.RowKit
section
variable {c : Cf}
theorem chk_0 (g1 : hostOk c) (g2 : partsOk c.parts) (g3 : memOk c.pages c.parts) (g4 : chansOk c.parts.length c.chans) (g5 : planOk c) : chk c = 0 := by
  show chkB _ _ _ _ _ = _; simp [chkB, g1, g2, g3, g4, g5]
theorem chk_1 (g1 : ¬ hostOk c) : chk c = 11 := by
  show chkB _ _ _ _ _ = _; simp [chkB, g1]
theorem chk_2 (g1 : hostOk c) (g2 : ¬ partsOk c.parts) : chk c = 10 := by
  show chkB _ _ _ _ _ = _; simp [chkB, g1, g2]
theorem chk_3 (g1 : hostOk c) (g2 : partsOk c.parts) (g3 : ¬ memOk c.pages c.parts) : chk c = 11 := by
  show chkB _ _ _ _ _ = _; simp [chkB, g1, g2, g3]
theorem chk_4 (g1 : hostOk c) (g2 : partsOk c.parts) (g3 : memOk c.pages c.parts) (g4 : ¬ chansOk c.parts.length c.chans) : chk c = 13 := by
  show chkB _ _ _ _ _ = _; simp [chkB, g1, g2, g3, g4]
theorem chk_5 (g1 : hostOk c) (g2 : partsOk c.parts) (g3 : memOk c.pages c.parts) (g4 : chansOk c.parts.length c.chans) (g5 : ¬ planOk c) : chk c = 12 := by
  show chkB _ _ _ _ _ = _; simp [chkB, g1, g2, g3, g4, g5]
end
theorem okN_one (b : UInt8) (h : okB b.toNat) : okN ⟨#[b]⟩ := ⟨Nat.le_refl 1, (by show 1 ≤ 20; omega), fun k hk => by
  have hk : k = 0 := by have : (ByteArray.mk #[b]).size = 1 := rfl; omega
  subst hk; exact h⟩
theorem okN_b : okN ⟨#[98]⟩ := okN_one 98 (.inl ⟨by decide, by decide⟩)
theorem two_cases {α : Type} {x y : α} {k : Nat} {p : α} (h : [x, y][k]? = some p) : (k = 0 ∧ p = x) ∨ (k = 1 ∧ p = y) := by
  match k, h with
  | 0, h => injection h with h; exact .inl ⟨rfl, h.symm⟩
  | 1, h => injection h with h; exact .inr ⟨rfl, h.symm⟩
  | k + 2, h => simp at h
theorem parts_two (x y : Pt) (h1 : okN x.name) (h2 : okN y.name) (h3 : 0 ≤ x.act ∧ x.act ≤ 1) (hn : x.name ≠ y.name) : partsOk [x, y] ↔ (0 ≤ y.act ∧ y.act ≤ 1) := by
  constructor
  · intro h; exact (h.2 1 y rfl).2.1
  · intro h
    refine ⟨⟨by show 1 ≤ 2; omega, by show 2 ≤ 8; omega⟩, fun k p hp => ?_⟩
    rcases two_cases hp with ⟨rfl, rfl⟩ | ⟨rfl, rfl⟩
    · exact ⟨h1, h3, fun j q hj => by omega⟩
    · refine ⟨h2, h, fun j q hj hq => ?_⟩
      have : j = 0 := by omega
      subst this
      injection hq with hq; subst hq; exact hn
theorem mem_two (pg : Int) (x y : Pt) : memOk pg [x, y] ↔ (1 ≤ x.pages ∧ x.pages ≤ 64) ∧ (1 ≤ y.pages ∧ y.pages ≤ 64) ∧ x.pages + y.pages ≤ pg - 4 := by
  have e : sumTo [x, y] [x, y].length = x.pages + y.pages := by simp [sumTo]
  unfold memOk
  rw [e]
  constructor
  · intro h; exact ⟨h.1 0 x rfl, h.1 1 y rfl, h.2⟩
  · intro h
    refine ⟨fun k p hp => ?_, h.2.2⟩
    rcases two_cases hp with ⟨rfl, rfl⟩ | ⟨rfl, rfl⟩
    · exact h.1
    · exact h.2.1
theorem chans_one (n : Int) (x : Ch) : chansOk n [x] ↔ okC n x := by
  constructor
  · intro h; exact h.2 0 x rfl
  · intro h
    refine ⟨by show 1 ≤ 16; omega, fun k p hp => ?_⟩
    match k, hp with
    | 0, hp => injection hp with hp; subst hp; exact h
    | k + 1, hp => simp at hp
/-- The configuration at hand, its numbers under letters. -/
def cW (pg mj sw pp a1 kd to sz dp ln st pt : Int) : Cf := ⟨pg, mj, sw, [⟨⟨#[97]⟩, 1, 0⟩, ⟨⟨#[98]⟩, pp, a1⟩], [⟨kd, 0, to, sz, dp⟩], [⟨0, ln, 0⟩, ⟨st, 5, pt⟩]⟩
section
variable {pg mj sw pp a1 kd to sz dp ln st pt : Int}
theorem cW_parts : partsOk (cW pg mj sw pp a1 kd to sz dp ln st pt).parts ↔ (0 ≤ a1 ∧ a1 ≤ 1) :=
  parts_two _ _ okN_a okN_b ⟨by decide, by decide⟩ (by intro e; injection e with e; injection e with e; injection e with e; cases e)
theorem cW_mem : memOk (cW pg mj sw pp a1 kd to sz dp ln st pt).pages (cW pg mj sw pp a1 kd to sz dp ln st pt).parts ↔ (1 ≤ pp ∧ pp ≤ 64) ∧ 1 + pp ≤ pg - 4 := by
  show memOk pg [_, _] ↔ _
  rw [mem_two]
  constructor
  · intro h; exact h.2
  · intro h; exact ⟨by decide, h⟩
theorem cW_chans : chansOk (cW pg mj sw pp a1 kd to sz dp ln st pt).parts.length (cW pg mj sw pp a1 kd to sz dp ln st pt).chans ↔ (0 ≤ kd ∧ kd ≤ 1) ∧ (0 ≤ to ∧ to < 2) ∧ 0 ≠ to ∧ (1 ≤ sz ∧ sz ≤ 64) ∧ (1 ≤ dp ∧ dp ≤ 16) ∧ (kd = 0 → dp = 1) := by
  show chansOk (2 : Nat) [_] ↔ _
  rw [chans_one]
  unfold okC
  constructor
  · intro h; exact ⟨h.1, by have := h.2.2.1; omega, h.2.2.2.1, h.2.2.2.2.1, h.2.2.2.2.2.1, h.2.2.2.2.2.2⟩
  · intro h; exact ⟨h.1, by show (0 : Int) ≤ 0 ∧ (0 : Int) < (2 : Nat); omega, by have := h.2.1; show 0 ≤ to ∧ to < (2 : Nat); omega, h.2.2.1, h.2.2.2.1, h.2.2.2.2.1, h.2.2.2.2.2⟩
theorem cW_plan : planOk (cW pg mj sw pp a1 kd to sz dp ln st pt) ↔ (1 ≤ mj ∧ mj ≤ 100000) ∧ (0 ≤ sw ∧ sw ≤ 1000) ∧ (sw < ln ∧ ln ≤ mj) ∧ (ln ≤ st ∧ sw < 5 ∧ 5 ≤ mj - st ∧ (0 ≤ pt ∧ pt < 2)) := by
  constructor
  · intro h
    obtain ⟨h1, h2, h3⟩ := h.2.2.2 0 ⟨0, ln, 0⟩ rfl
    obtain ⟨k1, k2, k3, k4⟩ := h.2.2.2 1 ⟨st, 5, pt⟩ rfl
    have e : endTo (cW pg mj sw pp a1 kd to sz dp ln st pt).wins 1 = 0 + ln := rfl
    rw [e] at k1
    have k1' : 0 + ln ≤ st := k1
    have h2' : sw < ln := h2
    have h3' : ln ≤ mj - 0 := h3.1
    have k2' : sw < 5 := k2
    have k3' : 5 ≤ mj - st := k3
    have k4' : 0 ≤ pt ∧ pt < (2 : Nat) := k4
    exact ⟨h.1, h.2.1, by omega, by omega⟩
  · rintro ⟨h1, h2, h3, h4⟩
    refine ⟨h1, h2, ⟨by show 1 ≤ 2; omega, by show 2 ≤ 32; omega⟩, fun k p hp => ?_⟩
    rcases two_cases hp with ⟨rfl, rfl⟩ | ⟨rfl, rfl⟩
    · exact ⟨by show (0 : Int) ≤ 0; omega, by show sw < ln; omega, by show ln ≤ mj - 0; omega, by show (0 : Int) ≤ 0 ∧ (0 : Int) < (2 : Nat); omega⟩
    · exact ⟨by show 0 + ln ≤ st; omega, by show sw < 5; omega, by show 5 ≤ mj - st; omega, by show 0 ≤ pt ∧ pt < (2 : Nat); omega⟩
theorem cW_host : hostOk (cW pg mj sw pp a1 kd to sz dp ln st pt) ↔ 5 ≤ pg ∧ pg ≤ 256 := Iff.rfl
/-- What Check tells of it, as numbers alone. -/
theorem cW_chk : chk (cW pg mj sw pp a1 kd to sz dp ln st pt) =
    if ¬ (5 ≤ pg ∧ pg ≤ 256) then 11 else if ¬ (0 ≤ a1 ∧ a1 ≤ 1) then 10 else if ¬ ((1 ≤ pp ∧ pp ≤ 64) ∧ 1 + pp ≤ pg - 4) then 11
    else if ¬ ((0 ≤ kd ∧ kd ≤ 1) ∧ (0 ≤ to ∧ to < 2) ∧ 0 ≠ to ∧ (1 ≤ sz ∧ sz ≤ 64) ∧ (1 ≤ dp ∧ dp ≤ 16) ∧ (kd = 0 → dp = 1)) then 13
    else if ¬ ((1 ≤ mj ∧ mj ≤ 100000) ∧ (0 ≤ sw ∧ sw ≤ 1000) ∧ (sw < ln ∧ ln ≤ mj) ∧ (ln ≤ st ∧ sw < 5 ∧ 5 ≤ mj - st ∧ (0 ≤ pt ∧ pt < 2))) then 12 else 0 := by
  by_cases g1 : 5 ≤ pg ∧ pg ≤ 256
  · rw [if_neg (fun h => h g1)]
    by_cases g2 : 0 ≤ a1 ∧ a1 ≤ 1
    · rw [if_neg (fun h => h g2)]
      by_cases g3 : (1 ≤ pp ∧ pp ≤ 64) ∧ 1 + pp ≤ pg - 4
      · rw [if_neg (fun h => h g3)]
        by_cases g4 : (0 ≤ kd ∧ kd ≤ 1) ∧ (0 ≤ to ∧ to < 2) ∧ 0 ≠ to ∧ (1 ≤ sz ∧ sz ≤ 64) ∧ (1 ≤ dp ∧ dp ≤ 16) ∧ (kd = 0 → dp = 1)
        · rw [if_neg (fun h => h g4)]
          by_cases g5 : (1 ≤ mj ∧ mj ≤ 100000) ∧ (0 ≤ sw ∧ sw ≤ 1000) ∧ (sw < ln ∧ ln ≤ mj) ∧ (ln ≤ st ∧ sw < 5 ∧ 5 ≤ mj - st ∧ (0 ≤ pt ∧ pt < 2))
          · rw [if_neg (fun h => h g5)]
            exact chk_0 g1 (cW_parts.2 g2) (cW_mem.2 g3) (cW_chans.2 g4) (cW_plan.2 g5)
          · rw [if_pos g5]
            exact chk_5 g1 (cW_parts.2 g2) (cW_mem.2 g3) (cW_chans.2 g4) (fun h => g5 (cW_plan.1 h))
        · rw [if_pos g4]
          exact chk_4 g1 (cW_parts.2 g2) (cW_mem.2 g3) (fun h => g4 (cW_chans.1 h))
      · rw [if_pos g3]
        exact chk_3 g1 (cW_parts.2 g2) (fun h => g3 (cW_mem.1 h))
    · rw [if_pos g2]
      exact chk_2 g1 (fun h => g2 (cW_parts.1 h))
  · rw [if_pos g1]
    exact chk_1 g1
theorem cW_wf (h1 : -9223372036854775808 ≤ pg ∧ pg ≤ 9223372036854775807) (h2 : -9223372036854775808 ≤ mj ∧ mj ≤ 9223372036854775807) (h3 : -9223372036854775808 ≤ sw ∧ sw ≤ 9223372036854775807) (h4 : -9223372036854775808 ≤ pp ∧ pp ≤ 9223372036854775807) (h5 : -9223372036854775808 ≤ ln ∧ ln ≤ 9223372036854775807) (h6 : -9223372036854775808 ≤ st ∧ st ≤ 9223372036854775807) :
    Wf (cW pg mj sw pp a1 kd to sz dp ln st pt) := by
  refine ⟨h1, h2, h3, ⟨fun k p hp => ?_, fun k p hp => ?_⟩, ⟨by show 2 ≤ _; omega, by show 1 ≤ _; omega, by show 2 ≤ _; omega⟩⟩
  · rcases two_cases hp with ⟨rfl, rfl⟩ | ⟨rfl, rfl⟩
    · exact ⟨by show 1 ≤ _; omega, by decide⟩
    · exact ⟨by show 1 ≤ _; omega, h4⟩
  · rcases two_cases hp with ⟨rfl, rfl⟩ | ⟨rfl, rfl⟩
    · exact ⟨by show (-9223372036854775808 : Int) ≤ 0 ∧ (0 : Int) ≤ 9223372036854775807; omega, h5⟩
    · exact ⟨h6, by show (-9223372036854775808 : Int) ≤ 5 ∧ (5 : Int) ≤ 9223372036854775807; omega⟩
end
theorem grown_alloc (w : World) (o : Obj) (b : Option Nat) : w.grownBy (w.alloc o) b := ⟨rfl, rfl, rfl, by simp, fun i hi _ => Below.heap_alloc _ _ _ hi⟩
theorem grown_trans {w w1 w2 : World} {b : Option Nat} (h : w.grownBy w1 b) (h' : w1.grownBy w2 b) : w.grownBy w2 b :=
  ⟨h'.os.trans h.os, h'.tape.trans h.tape, h'.output.trans h.output, Nat.le_trans h.size h'.size, fun i hi hb => (h'.block i (Nat.lt_of_lt_of_le hi h.size) hb).trans (h.block i hi hb)⟩
end Go.Proofs.Ythgcmliiobcmlaa.Cfg
