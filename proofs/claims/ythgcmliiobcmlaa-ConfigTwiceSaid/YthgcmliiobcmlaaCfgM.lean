
/-
  Plain: configurations of so many partitions, channels, windows.
-/
import Derived.Test.YthgcmliiobcmlaaCfgV
import Derived.Laws.Concat
set_option maxRecDepth 100000
set_option linter.unusedVariables false
namespace Go.Proofs.Ythgcmliiobcmlaa.Cfg
open Go.Proofs.Ythgcmliiobcmlaa
open Go.ChangeShapes Go.WideShapes Go.ChangeAt Go.RowKit
def dgt (i : Nat) : UInt8 := UInt8.ofNat (if i < 10 then 48 + i else 87 + i)
def nmM (i : Nat) : ByteArray := ⟨#[112, dgt i]⟩
def ptM (each : Int) (i : Nat) : Pt := ⟨nmM i, each, 0⟩
def wnM (i : Nat) : Wn := ⟨10 * i, 10, 0⟩
def partsM (each : Int) (m : Nat) : List Pt := (List.range m).map (ptM each)
def chansM (n : Nat) : List Ch := List.replicate n ⟨0, 0, 1, 1, 1⟩
def winsM (k : Nat) : List Wn := (List.range k).map wnM
def cM (pages each : Int) (m n k : Nat) : Cf := ⟨pages, 1000, 0, partsM each m, chansM n, winsM k⟩
theorem dgt_ok : ∀ i, i < 12 → (97 ≤ (dgt i).toNat ∧ (dgt i).toNat ≤ 122) ∨ (48 ≤ (dgt i).toNat ∧ (dgt i).toNat ≤ 57) := by decide
theorem dgt_inj : ∀ i, i < 12 → ∀ j, j < 12 → dgt i = dgt j → i = j := by decide
theorem nmM_ok (i : Nat) (h : i < 12) : okN (nmM i) := ⟨by show 1 ≤ 2; omega, by show 2 ≤ 20; omega, fun k hk => by
  match k, hk with
  | 0, _ => exact .inl ⟨by show (97 : Int) ≤ (112 : Nat); omega, by show ((112 : Nat) : Int) ≤ 122; omega⟩
  | 1, _ =>
    show okB ((dgt i).toNat : Nat)
    rcases dgt_ok i h with h | h
    · exact .inl ⟨by omega, by omega⟩
    · exact .inr ⟨by omega, by omega⟩
  | k + 2, hk => exact absurd hk (by show ¬ k + 2 < 2; omega)⟩
theorem nmM_inj {i j : Nat} (hi : i < 12) (hj : j < 12) (h : nmM i = nmM j) : i = j := by
  unfold nmM at h
  injection h with h
  have h2 : (#[112, dgt i] : Array UInt8)[1]? = (#[112, dgt j] : Array UInt8)[1]? := by rw [h]
  simp at h2
  exact dgt_inj i hi j hj h2
theorem dgt_slice (j : Nat) (h : j < 12) (w : World) : (Instr.slice 9 (.string ⟨#[48, 49, 50, 51, 52, 53, 54, 55, 56, 57, 97, 98, 99, 100, 101, 102]⟩) (some (.int .i64 j)) (some (.int .i64 (IntKind.i64.wrap ((j : Int) + 1)))) none).run Try.prog w = .ok (.string ⟨#[dgt j]⟩) w :=
  match j, h with
  | 0, _ => by kernel_rfl
  | 1, _ => by kernel_rfl
  | 2, _ => by kernel_rfl
  | 3, _ => by kernel_rfl
  | 4, _ => by kernel_rfl
  | 5, _ => by kernel_rfl
  | 6, _ => by kernel_rfl
  | 7, _ => by kernel_rfl
  | 8, _ => by kernel_rfl
  | 9, _ => by kernel_rfl
  | 10, _ => by kernel_rfl
  | 11, _ => by kernel_rfl
  | j + 12, h => absurd h (by omega)
theorem dgt_add (j : Nat) (w : World) : (Op.stringOp .add (⟨#[112]⟩ : ByteArray) ⟨#[dgt j]⟩).run Try.prog w = .ok (.string (nmM j)) w :=
  run_string_add_sum w _ _ (by show 1 + 1 ≤ _; omega)
theorem partsM_len (each : Int) (m : Nat) : (partsM each m).length = m := by simp [partsM]
theorem chansM_len (n : Nat) : (chansM n).length = n := by simp [chansM]
theorem winsM_len (k : Nat) : (winsM k).length = k := by simp [winsM]
theorem partsM_at {each : Int} {m k : Nat} {p : Pt} (h : (partsM each m)[k]? = some p) : k < m ∧ p = ptM each k := by
  have hk : k < m := by have := (List.getElem?_eq_some_iff.1 h).1; rw [partsM_len] at this; exact this
  unfold partsM at h
  rw [List.getElem?_map, List.getElem?_range hk] at h
  injection h with h
  exact ⟨hk, h.symm⟩
theorem winsM_at {m k : Nat} {p : Wn} (h : (winsM m)[k]? = some p) : k < m ∧ p = wnM k := by
  have hk : k < m := by have := (List.getElem?_eq_some_iff.1 h).1; rw [winsM_len] at this; exact this
  unfold winsM at h
  rw [List.getElem?_map, List.getElem?_range hk] at h
  injection h with h
  exact ⟨hk, h.symm⟩
theorem chansM_at {n k : Nat} {x : Ch} (h : (chansM n)[k]? = some x) : x = ⟨0, 0, 1, 1, 1⟩ ∧ k < n := by
  have hk : k < n := by have := (List.getElem?_eq_some_iff.1 h).1; rw [chansM_len] at this; exact this
  unfold chansM at h
  rw [List.getElem?_replicate, if_pos hk] at h
  injection h with h
  exact ⟨h.symm, hk⟩
theorem partsM_succ (each : Int) (m : Nat) : partsM each (m + 1) = partsM each m ++ [ptM each m] := by simp [partsM, List.range_succ]
theorem chansM_succ (n : Nat) : chansM (n + 1) = chansM n ++ [⟨0, 0, 1, 1, 1⟩] := by simp [chansM, List.replicate_succ']
theorem winsM_succ (k : Nat) : winsM (k + 1) = winsM k ++ [wnM k] := by simp [winsM, List.range_succ]
theorem partsM_ok {each : Int} {m : Nat} (hm : m ≤ 12) : partsOk (partsM each m) ↔ 1 ≤ m ∧ m ≤ 8 := by
  unfold partsOk
  rw [partsM_len]
  constructor
  · intro h; exact h.1
  · intro h
    refine ⟨h, fun k p hp => ?_⟩
    obtain ⟨hk, rfl⟩ := partsM_at hp
    refine ⟨nmM_ok k (by omega), ⟨by show (0 : Int) ≤ 0; omega, by show (0 : Int) ≤ 1; omega⟩, fun j q hj hq => ?_⟩
    obtain ⟨hj2, rfl⟩ := partsM_at hq
    intro e
    have := nmM_inj (by omega) (by omega) e
    omega
theorem partsM_sum (each : Int) (m : Nat) : ∀ k, k ≤ m → sumTo (partsM each m) k = k * each
  | 0, _ => by simp [sumTo]
  | k + 1, h => by
    have h1 : (partsM each m)[k]? = some (ptM each k) := by unfold partsM; rw [List.getElem?_map, List.getElem?_range (by omega)]; rfl
    rw [sumTo_succ _ k _ h1, partsM_sum each m k (by omega)]
    show (k : Int) * each + each = ((k + 1 : Nat) : Int) * each
    rw [Int.natCast_add, Int.add_mul]; simp
theorem partsM_mem {pages each : Int} {m : Nat} (h1 : 1 ≤ each ∧ each ≤ 64) : memOk pages (partsM each m) ↔ (m : Int) * each ≤ pages - 4 := by
  unfold memOk
  rw [partsM_len, partsM_sum each m m (Nat.le_refl _)]
  constructor
  · intro h; exact h.2
  · intro h
    refine ⟨fun k p hp => ?_, h⟩
    obtain ⟨-, rfl⟩ := partsM_at hp
    exact h1
theorem chansM_ok {m n : Nat} : chansOk (m : Int) (chansM n) ↔ n ≤ 16 ∧ (n = 0 ∨ 2 ≤ m) := by
  unfold chansOk
  rw [chansM_len]
  constructor
  · intro h
    refine ⟨h.1, ?_⟩
    rcases Nat.eq_zero_or_pos n with h0 | h0
    · exact .inl h0
    · have h1 : (chansM n)[0]? = some ⟨0, 0, 1, 1, 1⟩ := by unfold chansM; rw [List.getElem?_replicate, if_pos h0]
      have h2 := (h.2 0 _ h1).2.2.1.2
      have h3 : (1 : Int) < m := h2
      exact .inr (by omega)
  · rintro ⟨h1, h2⟩
    refine ⟨h1, fun k x hx => ?_⟩
    obtain ⟨rfl, hk⟩ := chansM_at hx
    have hm : (2 : Int) ≤ m := by omega
    exact ⟨⟨by show (0 : Int) ≤ 0; omega, by show (0 : Int) ≤ 1; omega⟩, ⟨by show (0 : Int) ≤ 0; omega, by show (0 : Int) < m; omega⟩, ⟨by show (0 : Int) ≤ 1; omega, by show (1 : Int) < m; omega⟩, by show (0 : Int) ≠ 1; omega, ⟨by show (1 : Int) ≤ 1; omega, by show (1 : Int) ≤ 64; omega⟩, ⟨by show (1 : Int) ≤ 1; omega, by show (1 : Int) ≤ 16; omega⟩, fun _ => rfl⟩
theorem winsM_end (m : Nat) : ∀ k, k ≤ m → endTo (winsM m) k = 10 * k
  | 0, _ => rfl
  | k + 1, h => by
    have h1 : (winsM m)[k]? = some (wnM k) := by unfold winsM; rw [List.getElem?_map, List.getElem?_range (by omega)]; rfl
    rw [endTo_succ _ k _ h1]
    show (10 * (k : Int)) + 10 = 10 * ((k + 1 : Nat) : Int)
    omega
theorem winsM_ok {pages each : Int} {m n k : Nat} (hm : 1 ≤ m) : planOk (cM pages each m n k) ↔ 1 ≤ k ∧ k ≤ 32 := by
  unfold planOk
  have e1 : (cM pages each m n k).wins = winsM k := rfl
  have e2 : (cM pages each m n k).parts.length = m := partsM_len each m
  rw [e1, e2, winsM_len]
  constructor
  · intro h; exact h.2.2.1
  · intro h
    refine ⟨⟨by show (1 : Int) ≤ 1000; omega, by show (1000 : Int) ≤ 100000; omega⟩, ⟨by show (0 : Int) ≤ 0; omega, by show (0 : Int) ≤ 1000; omega⟩, h, fun j x hx => ?_⟩
    obtain ⟨hj, rfl⟩ := winsM_at hx
    rw [winsM_end k j (by omega)]
    exact ⟨by show 10 * (j : Int) ≤ 10 * (j : Int); omega, by show (0 : Int) < 10; omega, by show (10 : Int) ≤ 1000 - 10 * (j : Int); omega, by show (0 : Int) ≤ 0; omega, by show (0 : Int) < (m : Int); omega⟩
theorem cM_chk {pages each : Int} {m n k : Nat} (hm : m ≤ 12) (he : 1 ≤ each ∧ each ≤ 64) : chk (cM pages each m n k) =
    if ¬ (5 ≤ pages ∧ pages ≤ 256) then 11 else if ¬ (1 ≤ m ∧ m ≤ 8) then 10 else if ¬ ((m : Int) * each ≤ pages - 4) then 11 else if ¬ (n ≤ 16 ∧ (n = 0 ∨ 2 ≤ m)) then 13 else if ¬ (1 ≤ k ∧ k ≤ 32) then 12 else 0 := by
  have i1 : hostOk (cM pages each m n k) ↔ 5 ≤ pages ∧ pages ≤ 256 := Iff.rfl
  have i2 : partsOk (cM pages each m n k).parts ↔ 1 ≤ m ∧ m ≤ 8 := partsM_ok hm
  have i3 : memOk (cM pages each m n k).pages (cM pages each m n k).parts ↔ (m : Int) * each ≤ pages - 4 := partsM_mem he
  have i4 : chansOk (cM pages each m n k).parts.length (cM pages each m n k).chans ↔ n ≤ 16 ∧ (n = 0 ∨ 2 ≤ m) := by
    have e2 : (cM pages each m n k).parts.length = m := partsM_len each m
    rw [e2]; exact chansM_ok
  by_cases g1 : 5 ≤ pages ∧ pages ≤ 256
  · rw [if_neg (fun h => h g1)]
    by_cases g2 : 1 ≤ m ∧ m ≤ 8
    · rw [if_neg (fun h => h g2)]
      have i5 : planOk (cM pages each m n k) ↔ 1 ≤ k ∧ k ≤ 32 := winsM_ok g2.1
      by_cases g3 : (m : Int) * each ≤ pages - 4
      · rw [if_neg (fun h => h g3)]
        by_cases g4 : n ≤ 16 ∧ (n = 0 ∨ 2 ≤ m)
        · rw [if_neg (fun h => h g4)]
          by_cases g5 : 1 ≤ k ∧ k ≤ 32
          · rw [if_neg (fun h => h g5)]
            exact chk_0 (i1.2 g1) (i2.2 g2) (i3.2 g3) (i4.2 g4) (i5.2 g5)
          · rw [if_pos g5]
            exact chk_5 (i1.2 g1) (i2.2 g2) (i3.2 g3) (i4.2 g4) (fun h => g5 (i5.1 h))
        · rw [if_pos g4]
          exact chk_4 (i1.2 g1) (i2.2 g2) (i3.2 g3) (fun h => g4 (i4.1 h))
      · rw [if_pos g3]
        exact chk_3 (i1.2 g1) (i2.2 g2) (fun h => g3 (i3.1 h))
    · rw [if_pos g2]
      exact chk_2 (i1.2 g1) (fun h => g2 (i2.1 h))
  · rw [if_pos g1]
    exact chk_1 (fun h => g1 (i1.1 h))
theorem cM_wf {pages each : Int} {m n k : Nat} (hm : m ≤ 12) (hn : n ≤ 20) (hk : k ≤ 40) (he : 1 ≤ each ∧ each ≤ 64) (hp : 0 ≤ pages ∧ pages ≤ 300) : Wf (cM pages each m n k) := by
  refine ⟨⟨by show -9223372036854775808 ≤ pages; omega, by show pages ≤ 9223372036854775807; omega⟩, ⟨by show (-9223372036854775808 : Int) ≤ 1000; omega, by show (1000 : Int) ≤ 9223372036854775807; omega⟩, ⟨by show (-9223372036854775808 : Int) ≤ 0; omega, by show (0 : Int) ≤ 9223372036854775807; omega⟩, ⟨fun j p hj => ?_, fun j p hj => ?_⟩, ⟨by show (partsM each m).length ≤ _; rw [partsM_len]; omega, by show (chansM n).length ≤ _; rw [chansM_len]; omega, by show (winsM k).length ≤ _; rw [winsM_len]; omega⟩⟩
  · obtain ⟨-, rfl⟩ := partsM_at hj
    exact ⟨by show 2 ≤ _; omega, by show -9223372036854775808 ≤ each; omega, by show each ≤ 9223372036854775807; omega⟩
  · obtain ⟨hj, rfl⟩ := winsM_at hj
    exact ⟨⟨by show -9223372036854775808 ≤ 10 * (j : Int); omega, by show 10 * (j : Int) ≤ 9223372036854775807; omega⟩, ⟨by show (-9223372036854775808 : Int) ≤ 10; omega, by show (10 : Int) ≤ 9223372036854775807; omega⟩⟩
end Go.Proofs.Ythgcmliiobcmlaa.Cfg
