
/-
  Plain: six partitions, six windows; a name that stands twice, a window that laps.
-/
import Derived.Test.YthgcmliiobcmlaaCfgM
set_option maxRecDepth 100000
set_option linter.unusedVariables false
namespace Go.Proofs.Ythgcmliiobcmlaa.Cfg
open Go.Proofs.Ythgcmliiobcmlaa
open Go.ChangeShapes Go.WideShapes Go.ChangeAt Go.RowKit
def nmT (k : Nat) : ByteArray := ⟨#[UInt8.ofNat (97 + k)]⟩
def ptT (k : Nat) : Pt := ⟨nmT k, 2, 0⟩
def wnT (k : Nat) : Wn := ⟨10 * k, 10, k⟩
def partsT (m : Nat) : List Pt := (List.range m).map ptT
def winsT (m : Nat) : List Wn := (List.range m).map wnT
def cT (m : Nat) : Cf := ⟨40, 100, 0, partsT m, [], winsT m⟩
theorem partsT_len (m : Nat) : (partsT m).length = m := by simp [partsT]
theorem winsT_len (m : Nat) : (winsT m).length = m := by simp [winsT]
theorem partsT_get {m k : Nat} (h : k < m) : (partsT m)[k]? = some (ptT k) := by unfold partsT; rw [List.getElem?_map, List.getElem?_range h]; rfl
theorem winsT_get {m k : Nat} (h : k < m) : (winsT m)[k]? = some (wnT k) := by unfold winsT; rw [List.getElem?_map, List.getElem?_range h]; rfl
theorem partsT_at {m k : Nat} {p : Pt} (h : (partsT m)[k]? = some p) : k < m ∧ p = ptT k := by
  have hk : k < m := by have := (List.getElem?_eq_some_iff.1 h).1; rw [partsT_len] at this; exact this
  rw [partsT_get hk] at h; injection h with h; exact ⟨hk, h.symm⟩
theorem winsT_at {m k : Nat} {p : Wn} (h : (winsT m)[k]? = some p) : k < m ∧ p = wnT k := by
  have hk : k < m := by have := (List.getElem?_eq_some_iff.1 h).1; rw [winsT_len] at this; exact this
  rw [winsT_get hk] at h; injection h with h; exact ⟨hk, h.symm⟩
theorem partsT_succ (m : Nat) : partsT (m + 1) = partsT m ++ [ptT m] := by simp [partsT, List.range_succ]
theorem winsT_succ (m : Nat) : winsT (m + 1) = winsT m ++ [wnT m] := by simp [winsT, List.range_succ]
theorem nmT_b : ∀ i, i < 6 → 97 ≤ (UInt8.ofNat (97 + i)).toNat ∧ (UInt8.ofNat (97 + i)).toNat ≤ 122 := by decide
theorem nmT_i : ∀ i, i < 6 → ∀ j, j < 6 → UInt8.ofNat (97 + i) = UInt8.ofNat (97 + j) → i = j := by decide
theorem nmT_ok (i : Nat) (h : i < 6) : okN (nmT i) := okN_one _ (.inl (by have := nmT_b i h; omega))
theorem nmT_inj {i j : Nat} (hi : i < 6) (hj : j < 6) (h : nmT i = nmT j) : i = j := by
  unfold nmT at h
  injection h with h
  have h2 : (#[UInt8.ofNat (97 + i)] : Array UInt8)[0]? = (#[UInt8.ofNat (97 + j)] : Array UInt8)[0]? := by rw [h]
  exact nmT_i i hi j hj (by injection h2)
theorem abc_slice (j : Nat) (h : j < 6) (w : World) : (Instr.slice 9 (.string ⟨#[97, 98, 99, 100, 101, 102]⟩) (some (.int .i64 j)) (some (.int .i64 (IntKind.i64.wrap ((j : Int) + 1)))) none).run Try.prog w = .ok (.string (nmT j)) w :=
  match j, h with
  | 0, _ => by kernel_rfl
  | 1, _ => by kernel_rfl
  | 2, _ => by kernel_rfl
  | 3, _ => by kernel_rfl
  | 4, _ => by kernel_rfl
  | 5, _ => by kernel_rfl
  | j + 6, h => absurd h (by omega)
/-- Partitions whose names may be another's. -/
theorem host_T {c : Cf} (h : c.pages = 40) : hostOk c := by unfold hostOk; rw [h]; decide
theorem parts_T : partsOk (partsT 6) := by
  unfold partsOk
  rw [partsT_len]
  refine ⟨by decide, fun k p hp => ?_⟩
  obtain ⟨hk, rfl⟩ := partsT_at hp
  refine ⟨nmT_ok k hk, ⟨by show (0 : Int) ≤ 0; omega, by show (0 : Int) ≤ 1; omega⟩, fun j q hj hq => ?_⟩
  obtain ⟨hj2, rfl⟩ := partsT_at hq
  intro e
  have := nmT_inj hj2 hk e
  omega
theorem sum_T (l : List Pt) (h : ∀ (k : Nat) (p : Pt), l[k]? = some p → p.pages = 2) : ∀ k, k ≤ l.length → sumTo l k = 2 * k
  | 0, _ => rfl
  | k + 1, hk => by
    have h1 := List.getElem?_eq_getElem (show k < l.length by omega)
    rw [sumTo_succ _ k _ h1, sum_T l h k (by omega), h k _ h1]; omega
theorem mem_T (l : List Pt) (hl : l.length = 6) (h : ∀ (k : Nat) (p : Pt), l[k]? = some p → p.pages = 2) : memOk 40 l := by
  refine ⟨fun k p hp => by rw [h k p hp]; decide, ?_⟩
  rw [sum_T l h _ (Nat.le_refl _), hl]; decide
theorem end_T (m : Nat) : ∀ k, k ≤ m → endTo (winsT m) k = 10 * k
  | 0, _ => rfl
  | k + 1, h => by
    rw [endTo_succ _ k _ (winsT_get (by omega))]
    show (10 * (k : Int)) + 10 = 10 * ((k + 1 : Nat) : Int)
    omega
theorem plan_T (c : Cf) (h1 : c.major = 100) (h2 : c.switch = 0) (h3 : c.wins = winsT 6) (h4 : c.parts.length = 6) : planOk c := by
  unfold planOk
  rw [h1, h2, h3, h4, winsT_len]
  refine ⟨by decide, by decide, by decide, fun k x hx => ?_⟩
  obtain ⟨hk, rfl⟩ := winsT_at hx
  rw [end_T 6 k (by omega)]
  exact ⟨by show 10 * (k : Int) ≤ 10 * (k : Int); omega, by show (0 : Int) < 10; omega, by show (10 : Int) ≤ 100 - 10 * (k : Int); omega, by show (0 : Int) ≤ (k : Int); omega, by show (k : Int) < (6 : Nat); omega⟩
theorem chans_T (n : Int) : chansOk n [] := ⟨by decide, fun k x hx => by simp at hx⟩
theorem cT_ok : chk (cT 6) = 0 :=
  chk_0 (host_T rfl) parts_T (mem_T _ (partsT_len 6) (fun k p hp => by obtain ⟨-, rfl⟩ := partsT_at hp; rfl)) (chans_T _) (plan_T _ rfl rfl rfl (partsT_len 6))
/-- A name taken from another. -/
def dT (i j : Nat) : Cf := { cT 6 with parts := (partsT 6).set i ⟨nmT j, 2, 0⟩ }
theorem dT_chk {i j : Nat} (hi : i < 6) (hj : j < 6) : chk (dT i j) = if i = j then 0 else 10 := by
  by_cases h : i = j
  · subst h
    rw [if_pos rfl]
    have e : (partsT 6).set i ⟨nmT i, 2, 0⟩ = partsT 6 := by
      apply List.ext_getElem?
      intro k
      rw [List.getElem?_set]
      by_cases hk : i = k
      · subst hk
        rw [if_pos rfl, if_pos (by rw [partsT_len]; exact hi), partsT_get hi]; rfl
      · rw [if_neg hk]
    have : dT i i = cT 6 := by unfold dT; rw [e]; rfl
    rw [this]; exact cT_ok
  · rw [if_neg h]
    refine chk_2 (host_T rfl) (fun hp => ?_)
    have gi : ((partsT 6).set i ⟨nmT j, 2, 0⟩)[i]? = some ⟨nmT j, 2, 0⟩ := by rw [List.getElem?_set, if_pos rfl, if_pos (by rw [partsT_len]; exact hi)]
    have gj : ((partsT 6).set i ⟨nmT j, 2, 0⟩)[j]? = some (ptT j) := by rw [List.getElem?_set, if_neg h]; exact partsT_get hj
    rcases Nat.lt_or_gt_of_ne h with h1 | h1
    · exact (hp.2 j _ gj).2.2 i _ h1 gi rfl
    · exact (hp.2 i _ gi).2.2 j _ h1 gj rfl
/-- A window that laps. -/
def xT (i lap : Nat) : Wn := if i = 0 then ⟨0, 10 + lap, 0⟩ else ⟨10 * (i : Int) - lap, 10, i⟩
def eT (i lap : Nat) : Cf := { cT 6 with wins := (winsT 6).set i (xT i lap) }
theorem eT_chk {i lap : Nat} (hi : i < 6) : chk (eT i lap) = if lap = 0 then 0 else 12 := by
  have hm : memOk (eT i lap).pages (eT i lap).parts := mem_T _ (partsT_len 6) (fun k p hp => by obtain ⟨-, rfl⟩ := partsT_at hp; rfl)
  by_cases h : lap = 0
  · subst h
    rw [if_pos rfl]
    have ex : xT i 0 = wnT i := by
      unfold xT wnT
      by_cases h0 : i = 0
      · subst h0; simp
      · rw [if_neg h0]; simp
    have e : (winsT 6).set i (xT i 0) = winsT 6 := by
      rw [ex]
      apply List.ext_getElem?
      intro k
      rw [List.getElem?_set]
      by_cases hk : i = k
      · subst hk
        rw [if_pos rfl, if_pos (by rw [winsT_len]; exact hi), winsT_get hi]
      · rw [if_neg hk]
    have : eT i 0 = cT 6 := by unfold eT; rw [e]; rfl
    rw [this]; exact cT_ok
  · rw [if_neg h]
    refine chk_5 (host_T rfl) parts_T hm (chans_T _) (fun hp => ?_)
    have hw : (eT i lap).wins = (winsT 6).set i (xT i lap) := rfl
    have gi : ((winsT 6).set i (xT i lap))[i]? = some (xT i lap) := by rw [List.getElem?_set, if_pos rfl, if_pos (by rw [winsT_len]; exact hi)]
    have gk : ∀ k, k < 6 → i ≠ k → ((winsT 6).set i (xT i lap))[k]? = some (wnT k) := fun k hk hne => by rw [List.getElem?_set, if_neg hne]; exact winsT_get hk
    by_cases h0 : i = 0
    · subst h0
      have h1 := (hp.2.2.2 1 (wnT 1) (by rw [hw]; exact gk 1 (by omega) (by omega))).1
      rw [hw, endTo_succ _ 0 _ gi] at h1
      have h2 : (0 : Int) + (10 + lap) ≤ 10 * ((1 : Nat) : Int) := h1
      omega
    · have h1 := (hp.2.2.2 i (xT i lap) (by rw [hw]; exact gi)).1
      obtain ⟨k, rfl⟩ : ∃ k, i = k + 1 := ⟨i - 1, by omega⟩
      rw [hw, endTo_succ _ k _ (gk k (by omega) (by omega))] at h1
      have e2 : (xT (k + 1) lap).start = 10 * ((k + 1 : Nat) : Int) - lap := by unfold xT; rw [if_neg (by omega)]
      rw [e2] at h1
      have h2 : (10 * (k : Int)) + 10 ≤ 10 * ((k + 1 : Nat) : Int) - lap := h1
      omega
theorem wf_T {c : Cf} (h1 : c.pages = 40) (h2 : c.major = 100) (h3 : c.switch = 0) (h4 : c.parts.length = 6) (h5 : c.chans = []) (h6 : c.wins.length = 6) (hp : ∀ (k : Nat) (p : Pt), c.parts[k]? = some p → p.name.size ≤ 20 ∧ p.pages = 2) (hw : ∀ (k : Nat) (x : Wn), c.wins[k]? = some x → (-100 ≤ x.start ∧ x.start ≤ 100) ∧ (0 ≤ x.len ∧ x.len ≤ 100)) : Wf c :=
  ⟨by rw [h1]; decide, by rw [h2]; decide, by rw [h3]; decide, ⟨fun k p hk => ⟨by have := (hp k p hk).1; omega, by rw [(hp k p hk).2]; decide⟩, fun k x hk => by have := hw k x hk; omega⟩, by rw [h4, h5, h6]; decide⟩
theorem wf_cT : Wf (cT 6) := wf_T rfl rfl rfl (partsT_len 6) rfl (winsT_len 6) (fun k p hp => by obtain ⟨-, rfl⟩ := partsT_at hp; exact ⟨by show 1 ≤ 20; omega, rfl⟩) (fun k x hx => by obtain ⟨hk, rfl⟩ := winsT_at hx; exact ⟨⟨by show -100 ≤ 10 * (k : Int); omega, by show 10 * (k : Int) ≤ 100; omega⟩, by show (0 : Int) ≤ 10; omega, by show (10 : Int) ≤ 100; omega⟩)
theorem wf_dT {i j : Nat} : Wf (dT i j) := wf_T rfl rfl rfl (by show ((partsT 6).set i _).length = 6; rw [List.length_set]; exact partsT_len 6) rfl (winsT_len 6) (fun k p hp => by
  have hp : ((partsT 6).set i ⟨nmT j, 2, 0⟩)[k]? = some p := hp
  rw [List.getElem?_set] at hp
  by_cases hk : i = k
  · rw [if_pos hk] at hp
    by_cases hl : k < (partsT 6).length
    · rw [if_pos (by rw [hk]; exact hl)] at hp; injection hp with hp; subst hp; exact ⟨by show 1 ≤ 20; omega, rfl⟩
    · rw [if_neg (by rw [hk]; exact hl)] at hp; cases hp
  · rw [if_neg hk] at hp; obtain ⟨-, rfl⟩ := partsT_at hp; exact ⟨by show 1 ≤ 20; omega, rfl⟩) (fun k x hx => by obtain ⟨hk, rfl⟩ := winsT_at hx; exact ⟨⟨by show -100 ≤ 10 * (k : Int); omega, by show 10 * (k : Int) ≤ 100; omega⟩, by show (0 : Int) ≤ 10; omega, by show (10 : Int) ≤ 100; omega⟩)
theorem wf_eT {i lap : Nat} (hi : i < 6) (hl : lap ≤ 9) : Wf (eT i lap) := wf_T rfl rfl rfl (partsT_len 6) rfl (by show ((winsT 6).set i _).length = 6; rw [List.length_set]; exact winsT_len 6) (fun k p hp => by obtain ⟨-, rfl⟩ := partsT_at hp; exact ⟨by show 1 ≤ 20; omega, rfl⟩) (fun k x hx => by
  have hx : ((winsT 6).set i (xT i lap))[k]? = some x := hx
  rw [List.getElem?_set] at hx
  by_cases hk : i = k
  · rw [if_pos hk] at hx
    by_cases hl2 : i < (winsT 6).length
    · rw [if_pos hl2] at hx; injection hx with hx; subst hx
      unfold xT
      split
      · exact ⟨by show -100 ≤ (0 : Int) ∧ (0 : Int) ≤ 100; omega, by show (0 : Int) ≤ 10 + (lap : Int) ∧ 10 + (lap : Int) ≤ 100; omega⟩
      · exact ⟨by show -100 ≤ 10 * (i : Int) - (lap : Int) ∧ 10 * (i : Int) - (lap : Int) ≤ 100; omega, by show (0 : Int) ≤ 10 ∧ (10 : Int) ≤ 100; omega⟩
    · rw [if_neg hl2] at hx; cases hx
  · rw [if_neg hk] at hx; obtain ⟨hk2, rfl⟩ := winsT_at hx; exact ⟨⟨by show -100 ≤ 10 * (k : Int); omega, by show 10 * (k : Int) ≤ 100; omega⟩, by show (0 : Int) ≤ 10; omega, by show (10 : Int) ≤ 100; omega⟩)
theorem own_some {E : TypeId} {st B : Nat} {w : World} {v : Value} {vs : List (List Value)} (h : OwnS E st w B v vs) (hn : 0 < vs.length) : ∃ g c, v = .slice (some ⟨g, 0, none⟩) vs.length c ∧ B ≤ g ∧ g < w.heap.size := by
  obtain ⟨h0, ⟨rfl, h1⟩ | ⟨g, cap, cur, rfl, h2, h3, -⟩⟩ := h
  · omega
  · exact ⟨g, cap, rfl, h2, (Array.getElem?_eq_some_iff.1 h3).1⟩
theorem Cb.copy {w0 w : World} {hb : Nat} {c : Cf} {v1 v2 v3 : Value} (C : Cb w0 w hb c v1 v2 v3) : Cb w0 (w.alloc (.cells #[i64 c.pages, i64 c.major, i64 c.switch, v1, v2, v3] 27)) w.heap.size c v1 v2 v3 := by
  have b := below_alloc w (.cells #[i64 c.pages, i64 c.major, i64 c.switch, v1, v2, v3] 27)
  refine ⟨C.b.trans (b.mono C.b.size), C.b.size, heap_alloc_new _ _, ownS_below C.o1 b, ownS_below C.o2 b, ownS_below C.o3 b, ⟨fun e => ?_, fun e => ?_, fun e => ?_⟩, C.ap⟩
  · have := (C.o1.lt _ e).2; omega
  · have := (C.o2.lt _ e).2; omega
  · have := (C.o3.lt _ e).2; omega
theorem grown_any {w w' : World} {b : Option Nat} (h : w.grownBy w' none) : w.grownBy w' b := ⟨h.os, h.tape, h.output, h.size, fun i hi _ => h.block i hi (fun e => by cases e)⟩
end Go.Proofs.Ythgcmliiobcmlaa.Cfg
