
/-
  Partitions one behind the other, plainly; a row of ints that came in, opened.
-/
import Derived.Test.YtlddclkophajbaaFrmJ
import Derived.Test.YtlddclkophajbaaPlnO
import Derived.Laws.Strings2
set_option maxRecDepth 100000
set_option linter.unusedVariables false
namespace Go.Proofs.Ytlddclkophajbaa.Cfg
open Go.Proofs.Ytlddclkophajbaa
open Go.ChangeShapes Go.WideShapes Go.ChangeAt Go.RowKit
section
variable {H : Type} {enc : TypeId × Value → H} {W : World}
theorem open_intsC {v : Value} {d : DataW H} {p : List MemPlace} {base : Nat} (hv : Value.okWide Try.prog W .any base 39 v) (h : DataW.Trod enc Try.prog W 0 (fun _ => true) true 39 v d p) :
    ∃ p n k, ∃ xs : List Int, v = .slice p n k ∧ LieS 1 W W.heap.size p n k (xs.map fun t => [i64 t]) ∧ (∀ (j : Nat) (x : Int), xs[j]? = some x → inI x) ∧ n ≤ 9223372036854775807 := by
  obtain ⟨a0, len0, cap0, rfl⟩ := okWide_slice Try.underlying39 hv
  obtain ⟨fuel, hf⟩ := h
  obtain ⟨p', c', l, e, L, hq, m1, -⟩ := lie_rows (α := Int) Try.underlying39 cellsI (by decide) (fun t => [i64 t]) (fun _ => rfl) inI (fun _ _ _ h => by
    obtain ⟨x, e, -, w⟩ := DataW.trod_int Try.underlying3 h
    exact ⟨x, e, i64_wf w⟩) (fuel := fuel) (x := (d, p)) (by simpa [Value.cells] using hf)
  exact ⟨p', l.length, c', l, e, L, hq, m1⟩
end
/-- The k-th size. -/
def gI (xs : List Int) (k : Nat) : Int := xs[k]?.getD 0
theorem gI_at {xs : List Int} {k : Nat} {x : Int} (h : xs[k]? = some x) : gI xs k = x := by unfold gI; rw [h]; rfl
/-- What the first k sizes add up to. -/
def sN (xs : List Int) : Nat → Int
  | 0 => 0
  | k + 1 => sN xs k + gI xs k
abbrev letters : ByteArray := ⟨#[97, 98, 99, 100, 101, 102, 103, 104]⟩
def nmP (k : Nat) : ByteArray := ⟨#[UInt8.ofNat (97 + k)]⟩
theorem letters_ext {k : Nat} (h : k < 8) : letters.extract k (k + 1) = nmP k := by
  have : ∀ a : Fin 8, letters.extract a.val (a.val + 1) = nmP a.val := by decide +kernel
  exact this ⟨k, h⟩
/-- The first k partitions. -/
def fP (xs : List Int) : Nat → List Pt
  | 0 => []
  | k + 1 => fP xs k ++ [⟨nmP k, gI xs k, 0⟩]
theorem fP_len (xs : List Int) : ∀ k, (fP xs k).length = k
  | 0 => rfl
  | k + 1 => by unfold fP; rw [List.length_append, fP_len xs k]; rfl
theorem fP_at (xs : List Int) : ∀ n k, k < n → (fP xs n)[k]? = some ⟨nmP k, gI xs k, 0⟩
  | 0, k, h => by omega
  | n + 1, k, h => by
    unfold fP
    by_cases hk : k < n
    · rw [List.getElem?_append_left (by rw [fP_len]; exact hk)]; exact fP_at xs n k hk
    · obtain rfl : k = n := by omega
      rw [List.getElem?_append_right (by rw [fP_len]; exact Nat.le_refl _), fP_len, Nat.sub_self]; rfl
theorem fP_sum (xs : List Int) (n : Nat) : ∀ k, k ≤ n → sumTo (fP xs n) k = sN xs k
  | 0, _ => sumTo_zero _
  | k + 1, h => by
    rw [sumTo_succ _ k _ (fP_at xs n k (by omega)), fP_sum xs n k (by omega)]; rfl
def cR (pg : Int) (ps : List Pt) : Cf := ⟨pg, 10, 0, ps, [], [⟨0, 10, 0⟩]⟩
theorem nmP_byte {k : Nat} (h : k < 8) : (97 : Int) ≤ ((UInt8.ofNat (97 + k)).toNat : Int) ∧ ((UInt8.ofNat (97 + k)).toNat : Int) ≤ 122 := by
  have : ∀ a : Fin 8, (97 : Int) ≤ ((UInt8.ofNat (97 + a.val)).toNat : Int) ∧ ((UInt8.ofNat (97 + a.val)).toNat : Int) ≤ 122 := by decide +kernel
  exact this ⟨k, h⟩
theorem nmP_ok {k : Nat} (h : k < 8) : okN (nmP k) := by
  have hs : (nmP k).size = 1 := rfl
  refine ⟨by omega, by omega, fun j hj => ?_⟩
  have hj0 : j = 0 := by omega
  subst hj0
  exact .inl (nmP_byte h)
theorem nmP_ne {j k : Nat} (hk : k < 8) (hj : j < k) : nmP j ≠ nmP k := by
  have : ∀ a b : Fin 8, a.val < b.val → nmP a.val ≠ nmP b.val := by decide +kernel
  exact this ⟨j, by omega⟩ ⟨k, hk⟩ hj
/-- Sizes that can be. -/
def okS (xs : List Int) (n : Nat) : Prop := ∀ k, k < n → 1 ≤ gI xs k ∧ gI xs k ≤ 25
theorem sN_bd {xs : List Int} : ∀ {n : Nat}, okS xs n → 0 ≤ sN xs n ∧ sN xs n ≤ 25 * n ∧ (n : Int) ≤ sN xs n
  | 0, _ => by simp [sN]
  | n + 1, h => by
    have h1 := sN_bd (n := n) fun k hk => h k (by omega)
    have h2 := h n (by omega)
    unfold sN
    omega
theorem cR_ok {xs : List Int} {n : Nat} {m : Int} (hn : 1 ≤ n ∧ n ≤ 8) (hx : okS xs n) (hm : 0 ≤ m ∧ m ≤ 20) : chk (cR (4 + m + sN xs n) (fP xs n)) = 0 := by
  obtain ⟨b0, b1, b2⟩ := sN_bd hx
  have hlen : (cR (4 + m + sN xs n) (fP xs n)).parts.length = n := fP_len xs n
  have hat : ∀ (k : Nat) (p : Pt), (cR (4 + m + sN xs n) (fP xs n)).parts[k]? = some p → k < n ∧ p = ⟨nmP k, gI xs k, 0⟩ := fun k p hk => by
    have hkn : k < n := by have := (List.getElem?_eq_some_iff.1 hk).1; rwa [hlen] at this
    have hk2 : (fP xs n)[k]? = some p := hk
    rw [fP_at xs n k hkn] at hk2
    injection hk2 with hk2
    exact ⟨hkn, hk2.symm⟩
  have g1 : hostOk (cR (4 + m + sN xs n) (fP xs n)) := by show (5 : Int) ≤ 4 + m + sN xs n ∧ 4 + m + sN xs n ≤ 256; omega
  have g2 : partsOk (cR (4 + m + sN xs n) (fP xs n)).parts := ⟨by rw [hlen]; exact hn, fun k p hk => by
    obtain ⟨hkn, rfl⟩ := hat k p hk
    exact ⟨nmP_ok (by omega), ⟨by show (0 : Int) ≤ 0; decide, by show (0 : Int) ≤ 1; decide⟩, fun j q hj hq => by
      obtain ⟨hjn, rfl⟩ := hat j q hq
      exact nmP_ne (by omega) hj⟩⟩
  have g3 : memOk (cR (4 + m + sN xs n) (fP xs n)).pages (cR (4 + m + sN xs n) (fP xs n)).parts := ⟨fun k p hk => by
    obtain ⟨hkn, rfl⟩ := hat k p hk
    have := hx k hkn
    show 1 ≤ gI xs k ∧ gI xs k ≤ 64
    omega, by rw [hlen]; show sumTo (fP xs n) n ≤ 4 + m + sN xs n - 4; rw [fP_sum xs n n (Nat.le_refl _)]; omega⟩
  have g4 : chansOk (cR (4 + m + sN xs n) (fP xs n)).parts.length (cR (4 + m + sN xs n) (fP xs n)).chans := ⟨by show 0 ≤ 16; omega, fun k p hk => by simp [cR] at hk⟩
  have g5 : planOk (cR (4 + m + sN xs n) (fP xs n)) := by
    refine ⟨by show (1 : Int) ≤ 10 ∧ (10 : Int) ≤ 100000; decide, by show (0 : Int) ≤ 0 ∧ (0 : Int) ≤ 1000; decide, by show 1 ≤ 1 ∧ 1 ≤ 32; decide, fun k x hk => ?_⟩
    match k, hk with
    | 0, hk =>
      injection hk with hk
      subst hk
      rw [hlen]
      exact ⟨by show (0 : Int) ≤ 0; decide, by show (0 : Int) < 10; decide, by show (10 : Int) ≤ 10 - 0; decide, by show (0 : Int) ≤ 0; decide, by show (0 : Int) < n; omega⟩
    | k + 1, hk => simp [cR] at hk
  show chkB _ _ _ _ _ = 0
  simp [chkB, g1, g2, g3, g4, g5]
theorem cR_wf {xs : List Int} {n : Nat} (hn : n ≤ 8) (hx : okS xs n) {pg : Int} (hp : 0 ≤ pg ∧ pg ≤ 1000) : Wf (cR pg (fP xs n)) := by
  refine ⟨by show (-9223372036854775808 : Int) ≤ pg ∧ pg ≤ _; omega, by show (-9223372036854775808 : Int) ≤ 10 ∧ (10 : Int) ≤ _; decide, by show (-9223372036854775808 : Int) ≤ 0 ∧ (0 : Int) ≤ _; decide, ⟨fun k p hk => ?_, fun k x hk => ?_⟩, ⟨by show (fP xs n).length ≤ _; rw [fP_len]; omega, by show 0 ≤ _; omega, by show 1 ≤ _; omega⟩⟩
  · have hkn : k < n := by have := (List.getElem?_eq_some_iff.1 hk).1; rwa [show (cR pg (fP xs n)).parts = fP xs n from rfl, fP_len] at this
    have hk2 : (fP xs n)[k]? = some p := hk
    rw [fP_at xs n k hkn] at hk2
    injection hk2 with hk2
    subst hk2
    have h1 := hx k hkn
    have h2 := nmP_ok (k := k) (by omega)
    have h3 := h2.2.1
    simp only
    omega
  · match k, hk with
    | 0, hk => injection hk with hk; subst hk; exact ⟨by decide, by decide⟩
    | k + 1, hk => simp [cR] at hk
theorem run_letter {j : Nat} (h : j < 8) (w : World) : (Instr.slice 9 (.string letters) (some (.int .i64 (j : Int))) (some (.int .i64 ((j : Int) + 1))) none).run Try.prog w = .ok (.string (nmP j)) w := by
  have := run_slice_string (P := Try.prog) (w := w) 9 letters .i64 .i64 (j : Int) ((j : Int) + 1) Try.underlying9 (by omega) (by omega) (by show (j : Int) + 1 ≤ 8; omega)
  rw [this, Int.toNat_natCast, (by omega : ((j : Int) + 1).toNat = j + 1), letters_ext h]
/-- All that law FramesRows asks of such a configuration. -/
structure Fr (xs : List Int) (n : Nat) (m : Int) (c : Cf) : Prop where
  first : ∀ j : Nat, j < n → firstV c j = 4 + sN xs j
  host : ∀ j : Nat, j < n → hostV c j (gI xs j - 1) = (4 + sN xs j + (gI xs j - 1), true)
  left : ∀ k : Int, 0 ≤ k → k < m → (guestV c (4 + sN xs n + k)).1 = -2
  over : (guestV c (4 + sN xs n + m)).1 = -3
  none : (guestV c (-1)).1 = -3
  last : firstV c n = -1
theorem fr_of {xs : List Int} {n : Nat} {m : Int} (hn : 1 ≤ n ∧ n ≤ 8) (hx : okS xs n) (hm : 0 ≤ m ∧ m ≤ 20) : Fr xs n m (cR (4 + m + sN xs n) (fP xs n)) := by
  have g := cR_ok hn hx hm
  have ap := ap_of g
  have hb := sN_bd hx
  have hlen : (cR (4 + m + sN xs n) (fP xs n)).parts.length = n := fP_len xs n
  have hs : ∀ k, k ≤ n → sumTo (cR (4 + m + sN xs n) (fP xs n)).parts k = sN xs k := fun k hk => fP_sum xs n k hk
  have ha : ∀ k, k < n → (cR (4 + m + sN xs n) (fP xs n)).parts[k]? = some ⟨nmP k, gI xs k, 0⟩ := fun k hk => fP_at xs n k hk
  refine ⟨fun j hj => ?_, fun j hj => ?_, fun k h0 h1 => ?_, ?_, ?_, ?_⟩
  · unfold firstV
    rw [if_pos ⟨g, by omega, by rw [hlen]; omega⟩, Int.toNat_natCast, hs j (by omega)]
  · have h1 := hx j hj
    have := (ap.here j _ (ha j hj) (gI xs j - 1) (by omega) (by simp only; omega)).1
    rw [hs j (by omega)] at this
    exact this
  · refine ap.top _ ?_ ?_
    · rw [hlen, hs n (Nat.le_refl _)]; omega
    · show 4 + sN xs n + k < 4 + m + sN xs n
      omega
  · unfold guestV
    rw [if_neg (fun q => by have h2 : 4 + sN xs n + m < 4 + m + sN xs n := q.2.2; omega)]
  · unfold guestV
    rw [if_neg (fun q => by omega)]
  · unfold firstV
    rw [if_neg (fun q => by have := q.2.2; rw [hlen] at this; omega)]
end Go.Proofs.Ytlddclkophajbaa.Cfg
