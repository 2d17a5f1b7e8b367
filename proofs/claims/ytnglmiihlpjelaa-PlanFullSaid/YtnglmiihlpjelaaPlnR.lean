/-
  A frame that is full of windows, plainly; a row of ints that came in, opened.
-/
import Derived.Test.YtnglmiihlpjelaaPlnQ
import Derived.Test.YtnglmiihlpjelaaPlnO
import Derived.Test.YtnglmiihlpjelaaPlnP
set_option maxRecDepth 100000
set_option linter.unusedVariables false
namespace Go.Proofs.Ytnglmiihlpjelaa.Cfg
open Go.Proofs.Ytnglmiihlpjelaa
open Go.ChangeShapes Go.WideShapes Go.ChangeAt Go.RowKit
section
variable {H : Type} {enc : TypeId × Value → H} {W : World}
theorem open_intsC {v : Value} {d : DataW H} {p : List MemPlace} {base : Nat} (hv : Value.okWide Try.prog W .any base 42 v) (h : DataW.Trod enc Try.prog W 0 (fun _ => true) true 42 v d p) :
    ∃ p n k, ∃ xs : List Int, v = .slice p n k ∧ LieS 1 W W.heap.size p n k (xs.map fun t => [i64 t]) ∧ (∀ (j : Nat) (x : Int), xs[j]? = some x → inI x) ∧ n ≤ 9223372036854775807 := by
  obtain ⟨a0, len0, cap0, rfl⟩ := okWide_slice Try.underlying42 hv
  obtain ⟨fuel, hf⟩ := h
  obtain ⟨p', c', l, e, L, hq, m1, -⟩ := lie_rows (α := Int) Try.underlying42 cellsI (by decide) (fun t => [i64 t]) (fun _ => rfl) inI (fun _ _ _ h => by
    obtain ⟨x, e, -, w⟩ := DataW.trod_int Try.underlying3 h
    exact ⟨x, e, i64_wf w⟩) (fuel := fuel) (x := (d, p)) (by simpa [Value.cells] using hf)
  exact ⟨p', l.length, c', l, e, L, hq, m1⟩
end
/-- The k-th length. -/
def gI (xs : List Int) (k : Nat) : Int := xs[k]?.getD 0
theorem gI_at {xs : List Int} {k : Nat} {x : Int} (h : xs[k]? = some x) : gI xs k = x := by unfold gI; rw [h]; rfl
/-- What the first k lengths add up to. -/
def sN (xs : List Int) : Nat → Int
  | 0 => 0
  | k + 1 => sN xs k + gI xs k
/-- The first k windows. -/
def fW (xs : List Int) : Nat → List Wn
  | 0 => []
  | k + 1 => fW xs k ++ [⟨sN xs k, gI xs k, ((k % 2 : Nat) : Int)⟩]
theorem fW_len (xs : List Int) : ∀ k, (fW xs k).length = k
  | 0 => rfl
  | k + 1 => by unfold fW; rw [List.length_append, fW_len xs k]; rfl
theorem fW_at (xs : List Int) : ∀ n k, k < n → (fW xs n)[k]? = some ⟨sN xs k, gI xs k, ((k % 2 : Nat) : Int)⟩
  | 0, k, h => by omega
  | n + 1, k, h => by
    unfold fW
    by_cases hk : k < n
    · rw [List.getElem?_append_left (by rw [fW_len]; exact hk)]; exact fW_at xs n k hk
    · obtain rfl : k = n := by omega
      rw [List.getElem?_append_right (by rw [fW_len]; exact Nat.le_refl _), fW_len, Nat.sub_self]; rfl
def cF (sw mj : Int) (ws : List Wn) : Cf := ⟨20, mj, sw, [⟨⟨#[97]⟩, 1, 0⟩, ⟨⟨#[98]⟩, 1, 0⟩], [], ws⟩
theorem okN_b : okN ⟨#[98]⟩ := ⟨by decide, by decide, fun k h => by
  have hk : k = 0 := by have : (ByteArray.mk #[98]).size = 1 := rfl; omega
  subst hk; have e : (ByteArray.mk #[98])[0].toNat = 98 := rfl; rw [e]; exact .inl ⟨by decide, by decide⟩⟩
/-- Lengths that can be. -/
def okX (xs : List Int) (sw : Int) (n : Nat) : Prop := ∀ k, k < n → sw < gI xs k ∧ gI xs k ≤ 2000
theorem sN_bd {xs : List Int} {sw : Int} (hs : 0 ≤ sw) : ∀ {n : Nat}, okX xs sw n → 0 ≤ sN xs n ∧ sN xs n ≤ 2000 * n ∧ (n : Int) ≤ sN xs n
  | 0, _ => by simp [sN]
  | n + 1, h => by
    have h1 := sN_bd hs (n := n) fun k hk => h k (by omega)
    have h2 := h n (by omega)
    unfold sN
    omega
theorem cF_end (xs : List Int) (n : Nat) : ∀ k, k ≤ n → endTo (fW xs n) k = sN xs k
  | 0, _ => rfl
  | k + 1, h => by
    show (match (fW xs n)[k]? with | some x => x.start + x.len | none => 0) = _
    rw [fW_at xs n k (by omega)]; rfl
theorem cF_ok {xs : List Int} {sw : Int} {n : Nat} (hs : 0 ≤ sw ∧ sw ≤ 100) (hn : 1 ≤ n ∧ n ≤ 32) (hx : okX xs sw n) : chk (cF sw (sN xs n) (fW xs n)) = 0 := by
  obtain ⟨b0, b1, b2⟩ := sN_bd hs.1 hx
  have g1 : hostOk (cF sw (sN xs n) (fW xs n)) := by show (5 : Int) ≤ 20 ∧ (20 : Int) ≤ 256; decide
  have g2 : partsOk (cF sw (sN xs n) (fW xs n)).parts := ⟨by show 1 ≤ 2 ∧ 2 ≤ 8; decide, fun k p hk => by
    match k, hk with
    | 0, hk => injection hk with hk; subst hk; exact ⟨okN_a, by decide, fun j q hj => by omega⟩
    | 1, hk => injection hk with hk; subst hk; exact ⟨okN_b, by decide, fun j q hj hq => by
        obtain rfl : j = 0 := by omega
        injection hq with hq; subst hq; decide⟩
    | k + 2, hk => simp [cF] at hk⟩
  have g3 : memOk (cF sw (sN xs n) (fW xs n)).pages (cF sw (sN xs n) (fW xs n)).parts := ⟨fun k p hk => by
    match k, hk with
    | 0, hk => injection hk with hk; subst hk; decide
    | 1, hk => injection hk with hk; subst hk; decide
    | k + 2, hk => simp [cF] at hk, by show sumTo [⟨⟨#[97]⟩, 1, 0⟩, ⟨⟨#[98]⟩, 1, 0⟩] 2 ≤ 20 - 4; decide⟩
  have g4 : chansOk (cF sw (sN xs n) (fW xs n)).parts.length (cF sw (sN xs n) (fW xs n)).chans := ⟨by show 0 ≤ 16; omega, fun k p hk => by simp [cF] at hk⟩
  have g5 : planOk (cF sw (sN xs n) (fW xs n)) := by
    refine ⟨⟨by show 1 ≤ sN xs n; omega, by show sN xs n ≤ 100000; omega⟩, ⟨hs.1, by show sw ≤ 1000; omega⟩, ⟨by show 1 ≤ (fW xs n).length; rw [fW_len]; exact hn.1, by show (fW xs n).length ≤ 32; rw [fW_len]; exact hn.2⟩, fun k x hk => ?_⟩
    have hkn : k < n := by have := (List.getElem?_eq_some_iff.1 hk).1; rwa [show (cF sw (sN xs n) (fW xs n)).wins = fW xs n from rfl, fW_len] at this
    have hk2 : (fW xs n)[k]? = some x := hk
    rw [fW_at xs n k hkn] at hk2
    injection hk2 with hk2
    subst hk2
    have e := cF_end xs n k (by omega)
    have hkx := hx k hkn
    have mono : ∀ j, k + 1 + j ≤ n → sN xs (k + 1) ≤ sN xs (k + 1 + j) := by
      intro j
      induction j with
      | zero => intro _; exact Int.le_refl _
      | succ j ih =>
        intro h
        have h1 := ih (by omega)
        have h2 := hx (k + 1 + j) (by omega)
        show sN xs (k + 1) ≤ sN xs (k + 1 + j) + gI xs (k + 1 + j)
        omega
    have hm := mono (n - (k + 1)) (by omega)
    rw [show k + 1 + (n - (k + 1)) = n by omega] at hm
    have hm2 : sN xs k + gI xs k ≤ sN xs n := hm
    refine ⟨?_, hkx.1, ?_, ?_, ?_⟩
    · show endTo (fW xs n) k ≤ sN xs k
      rw [e]; exact Int.le_refl _
    · show gI xs k ≤ sN xs n - sN xs k
      omega
    · show (0 : Int) ≤ ((k % 2 : Nat) : Int)
      omega
    · show ((k % 2 : Nat) : Int) < 2
      omega
  show chkB _ _ _ _ _ = 0
  simp [chkB, g1, g2, g3, g4, g5]
theorem cF_wf {xs : List Int} {sw : Int} {n : Nat} (hs : 0 ≤ sw ∧ sw ≤ 100) (hn : n ≤ 32) (hx : okX xs sw n) (mj : Int) (hm : 0 ≤ mj ∧ mj ≤ 100000) : Wf (cF sw mj (fW xs n)) := by
  refine ⟨by show (-9223372036854775808 : Int) ≤ 20 ∧ (20 : Int) ≤ _; decide, ⟨by show _ ≤ mj; omega, by show mj ≤ _; omega⟩, ⟨by show _ ≤ sw; omega, by show sw ≤ _; omega⟩, ⟨fun k p hk => ?_, fun k x hk => ?_⟩, ⟨by show 2 ≤ _; omega, by show 0 ≤ _; omega, by show (fW xs n).length ≤ _; rw [fW_len]; omega⟩⟩
  · match k, hk with
    | 0, hk => injection hk with hk; subst hk; exact ⟨by decide, by decide⟩
    | 1, hk => injection hk with hk; subst hk; exact ⟨by decide, by decide⟩
    | k + 2, hk => simp [cF] at hk
  · have hkn : k < n := by have := (List.getElem?_eq_some_iff.1 hk).1; rwa [show (cF sw mj (fW xs n)).wins = fW xs n from rfl, fW_len] at this
    have hk2 : (fW xs n)[k]? = some x := hk
    rw [fW_at xs n k hkn] at hk2
    injection hk2 with hk2
    subst hk2
    have h1 := hx k hkn
    have h2 := sN_bd hs.1 (n := k) fun j hj => hx j (by omega)
    simp only
    omega
theorem smQ_append (q : Int → Bool) (f : Wn → Int) : ∀ (l r : List Wn), smQ q f (l ++ r) = smQ q f l + smQ q f r
  | [], r => by simp [smQ]
  | x :: l, r => by
    have ih := smQ_append q f l r
    show (if q x.part then f x else 0) + smQ q f (l ++ r) = (if q x.part then f x else 0) + smQ q f l + smQ q f r
    omega
theorem fW_sum (xs : List Int) (sw : Int) : ∀ n, smQ (isP 0) (fun x => x.len - sw) (fW xs n) + smQ (isP 1) (fun x => x.len - sw) (fW xs n) = sN xs n - n * sw
  | 0 => by simp [smQ, fW, sN]
  | n + 1 => by
    have ih := fW_sum xs sw n
    have hq : ∀ q, smQ q (fun x => x.len - sw) [⟨sN xs n, gI xs n, ((n % 2 : Nat) : Int)⟩] = if q ((n % 2 : Nat) : Int) then gI xs n - sw else 0 := fun q => by simp [smQ]
    show smQ (isP 0) (fun x => x.len - sw) (fW xs n ++ [⟨sN xs n, gI xs n, ((n % 2 : Nat) : Int)⟩]) + smQ (isP 1) (fun x => x.len - sw) (fW xs n ++ [⟨sN xs n, gI xs n, ((n % 2 : Nat) : Int)⟩]) = sN xs n + gI xs n - ((n + 1 : Nat) : Int) * sw
    rw [smQ_append, smQ_append, hq, hq, show ((n + 1 : Nat) : Int) * sw = n * sw + sw by rw [Int.natCast_add, Int.add_mul]; simp]
    have h2 : n % 2 = 0 ∨ n % 2 = 1 := by omega
    rcases h2 with h2 | h2
    · rw [h2, show isP 0 ((0 : Nat) : Int) = true by decide, show isP 1 ((0 : Nat) : Int) = false by decide]
      simp only [if_true, Bool.false_eq_true, if_false]; omega
    · rw [h2, show isP 0 ((1 : Nat) : Int) = false by decide, show isP 1 ((1 : Nat) : Int) = true by decide]
      simp only [if_true, Bool.false_eq_true, if_false]; omega
theorem atL_none : ∀ {l : List Wn} {u : Int}, (∀ x ∈ l, 0 ≤ x.part) → (atL l u).1 = -1 → ∀ x ∈ l, ¬ (x.start ≤ u ∧ u < x.start + x.len)
  | [], _, _, _ => fun x hx => by cases hx
  | y :: l, u, hp, h => by
    unfold atL at h
    by_cases hy : y.start ≤ u ∧ u < y.start + y.len
    · rw [if_pos hy] at h
      have := hp y (List.mem_cons_self ..)
      simp only at h
      omega
    · rw [if_neg hy] at h
      intro x hx
      rcases List.mem_cons.1 hx with rfl | hx
      · exact hy
      · exact atL_none (fun z hz => hp z (List.mem_cons_of_mem _ hz)) h x hx
/-- All that law PlanFull asks of such a configuration. -/
theorem full_facts {xs : List Int} {sw : Int} {n : Nat} (hs : 0 ≤ sw ∧ sw ≤ 100) (hn : 1 ≤ n ∧ n ≤ 32) (hx : okX xs sw n) {t : Int} (ht : 0 ≤ t ∧ t ≤ 1073741824) :
    stepV (cF sw (sN xs n) (fW xs n)) 0 0 (sN xs n * 3) + stepV (cF sw (sN xs n) (fW xs n)) 1 0 (sN xs n * 3) = 3 * (sN xs n - n * sw) ∧
    shareV (cF sw (sN xs n) (fW xs n)) 0 + shareV (cF sw (sN xs n) (fW xs n)) 1 = sN xs n - n * sw ∧
    0 ≤ (atV (cF sw (sN xs n) (fW xs n)) t).1 ∧ 0 ≤ (atV (cF sw (sN xs n) (fW xs n)) t).2 ∧
    (0 ≤ stepV (cF sw (sN xs n) (fW xs n)) 0 0 (sN xs n * 3) ∧ 0 ≤ stepV (cF sw (sN xs n) (fW xs n)) 1 0 (sN xs n * 3)) ∧ (0 ≤ shareV (cF sw (sN xs n) (fW xs n)) 0 ∧ 0 ≤ shareV (cF sw (sN xs n) (fW xs n)) 1) := by
  have g := cF_ok hs hn hx
  have v := vd_of g
  obtain ⟨b0, b1, b2⟩ := sN_bd hs.1 hx
  have hsum := fW_sum xs sw n
  have hmj : (cF sw (sN xs n) (fW xs n)).major = sN xs n := rfl
  have hA : ∀ p, aheadV (cF sw (sN xs n) (fW xs n)) p (sN xs n) = smQ (isP p) (fun x => x.len - sw) (fW xs n) := fun p => aheadV_sum v p
  have hst : ∀ p, stepV (cF sw (sN xs n) (fW xs n)) p 0 (sN xs n * 3) = 3 * smQ (isP p) (fun x => x.len - sw) (fW xs n) := fun p => by
    rw [stepV_is g p (by omega) (by omega) (by omega), belowV_zero v]
    have := belowV_far v p 0 3
    rw [belowV_zero v, hmj, hA, Int.zero_add] at this
    rw [show sN xs n * 3 = 3 * sN xs n by omega, this]; omega
  have hsh : ∀ p, shareV (cF sw (sN xs n) (fW xs n)) p = smQ (isP p) (fun x => x.len - sw) (fW xs n) := fun p => shareV_sum g p
  have hb : ∀ p, 0 ≤ smQ (isP p) (fun x => x.len - sw) (fW xs n) := fun p => by
    have := aheadV_bd v p (sN xs n)
    rw [hA] at this; exact this.1
  have hat : atV (cF sw (sN xs n) (fW xs n)) t = atL (fW xs n) (t % sN xs n) := by unfold atV; rw [if_pos ⟨⟨ht.1, by omega⟩, g⟩]; rfl
  have hu0 : 0 ≤ t % sN xs n := Int.emod_nonneg _ (by omega)
  have hu1 : t % sN xs n < sN xs n := Int.emod_lt_of_pos _ (by omega)
  rw [hst, hst, hsh, hsh, hat]
  have h0 := hb 0
  have h1 := hb 1
  refine ⟨by omega, hsum, ?_⟩
  rcases atL_part v.sw.1 (Int.le_refl 0) v.gd (t % sN xs n) with hh | hh
  · exfalso
    have hno := atL_none (l := fW xs n) (u := t % sN xs n) (fun x hx => by
      obtain ⟨k, hk⟩ := mem_at hx
      exact (v.at hk).2.2.2.1) hh.1
    have hge : ∀ k, k ≤ n → sN xs k ≤ t % sN xs n := by
      intro k
      induction k with
      | zero => intro _; exact hu0
      | succ k ih =>
        intro hk
        have h3 := ih (by omega)
        have h4 := hno _ (List.mem_of_getElem? (fW_at xs n k (by omega)))
        simp only at h4
        show sN xs k + gI xs k ≤ _
        omega
    have := hge n (Nat.le_refl _)
    omega
  · exact ⟨hh.1, hh.2.2, ⟨by omega, by omega⟩, h0, h1⟩
/-- No windows are left. -/
theorem Cb.nil3 {w0 w : World} {hb : Nat} {c : Cf} {v1 v2 v3 : Value} (C : Cb w0 w hb c v1 v2 v3) : Cb w0 (w.setCell ⟨hb, 5, none⟩ (.slice none 0 0)) hb { c with wins := [] } v1 v2 (.slice none 0 0) := by
  refine ⟨below_setCell C.b _ _ C.hb0 _, C.hb0, ?_, ownS_off C.o1 C.ne.1 _ _, ownS_off C.o2 C.ne.2.1 _ _, ownS_nil _ _ _ _, ⟨C.ne.1, C.ne.2.1, fun e => by cases e⟩, fun g => ⟨fun e => ⟨((C.ap g).1 e).1, fun e2 => by cases e2⟩, fun _ e2 => by cases e2⟩⟩
  rw [setCell_row C.hd]
  simp
end Go.Proofs.Ytnglmiihlpjelaa.Cfg
