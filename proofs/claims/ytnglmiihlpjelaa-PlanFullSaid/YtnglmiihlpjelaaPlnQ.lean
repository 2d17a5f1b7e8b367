/-
  What the laws of stage 15 ask, plainly.
-/
import Derived.Test.YtnglmiihlpjelaaPlnMath
set_option maxRecDepth 100000
set_option linter.unusedVariables false
namespace Go.Proofs.Ytnglmiihlpjelaa.Cfg
open Go.Proofs.Ytnglmiihlpjelaa
theorem parts_of {c : Cf} (h : chk c = 0) : c.parts.length ≤ 8 := by
  have h5 : partsOk c.parts := by
    apply Classical.byContradiction
    intro hn
    have : chkB (@decide (hostOk c) (Classical.propDecidable _)) (@decide (partsOk c.parts) (Classical.propDecidable _)) (@decide (memOk c.pages c.parts) (Classical.propDecidable _)) (@decide (chansOk c.parts.length c.chans) (Classical.propDecidable _)) (@decide (planOk c) (Classical.propDecidable _)) = 0 := h
    simp only [chkB, hn, decide_false, if_true] at this
    split at this <;> omega
  exact h5.1.2
theorem aheadV_sum {c : Cf} (v : Vd c) (part : Int) : aheadV c part c.major = smQ (isP part) (fun x => x.len - c.switch) c.wins := by
  unfold aheadV
  exact smQ_congr fun x hx => by
    obtain ⟨k, hk⟩ := mem_at hx
    have := v.at hk
    exact gW_all this.2.1 this.2.2.1
theorem shareV_sum {c : Cf} (g : chk c = 0) (part : Int) : shareV c part = smQ (isP part) (fun x => x.len - c.switch) c.wins := by
  unfold shareV
  rw [if_pos g, aheadV_sum (vd_of g)]
theorem shares_eq {c : Cf} (g : chk c = 0) (part : Int) {f : Int} (hf : 0 ≤ f ∧ f ≤ 1000000) : stepV c part (f * c.major) ((f + 1) * c.major) = shareV c part := by
  have v := vd_of g
  have hm := v.mj
  have h0 : 0 ≤ f * c.major := Int.mul_nonneg hf.1 (by omega)
  have h1 := Int.mul_le_mul hf.2 hm.2 (by omega) (by omega : (0 : Int) ≤ 1000000)
  have he : (f + 1) * c.major = f * c.major + c.major := by rw [Int.add_mul, Int.one_mul]
  unfold stepV shareV
  rw [if_pos ⟨⟨h0, by omega⟩, ⟨by omega, by omega⟩, by omega, g⟩, if_pos g]
  have e1 := belowV_far v part 0 f
  have e2 := belowV_far v part 0 (f + 1)
  rw [Int.zero_add] at e1 e2
  rw [e1, e2, Int.add_mul, Int.one_mul]
  omega
/-- Steps between two ticks, of whichever partitions. -/
theorem dif_bd {c : Cf} (v : Vd c) (q : Int → Bool) {a : Int} (ha : 0 ≤ a) : ∀ (n : Nat), 0 ≤ smQ q (bW c.major c.switch (a + n)) c.wins - smQ q (bW c.major c.switch a) c.wins ∧ smQ q (bW c.major c.switch (a + n)) c.wins - smQ q (bW c.major c.switch a) c.wins ≤ n
  | 0 => by simp
  | n + 1 => by
    have ih := dif_bd v q ha n
    have h1 := smB_next v q (t := a + n) (by omega)
    have h2 := oW_bd v.sw.1 q v.gd ((a + n) % c.major)
    rw [show a + (n + 1 : Nat) = a + n + 1 by omega]
    omega
theorem dif_le {c : Cf} (v : Vd c) (q : Int → Bool) {a d : Int} (ha : 0 ≤ a) (hd : a ≤ d) : 0 ≤ smQ q (bW c.major c.switch d) c.wins - smQ q (bW c.major c.switch a) c.wins ∧ smQ q (bW c.major c.switch d) c.wins - smQ q (bW c.major c.switch a) c.wins ≤ d - a := by
  obtain ⟨n, hn⟩ := Int.eq_ofNat_of_zero_le (show 0 ≤ d - a by omega)
  have h := dif_bd v q ha n
  rw [show a + (n : Int) = d by omega] at h
  omega
theorem stepV_is {c : Cf} (g : chk c = 0) (part : Int) {f t : Int} (h0 : 0 ≤ f) (h1 : f ≤ t) (h2 : t ≤ 1099511627776) : stepV c part f t = belowV c part t - belowV c part f := by
  unfold stepV
  rw [if_pos ⟨⟨h0, by omega⟩, ⟨by omega, h2⟩, h1, g⟩]
theorem stepV_bd {c : Cf} (g : chk c = 0) (part : Int) {f t : Int} (h0 : 0 ≤ f) (h1 : f ≤ t) (h2 : t ≤ 1099511627776) : 0 ≤ stepV c part f t ∧ stepV c part f t ≤ t - f := by
  rw [stepV_is g part h0 h1 h2]
  exact dif_le (vd_of g) (isP part) h0 h1
theorem stepV_add {c : Cf} (g : chk c = 0) (part : Int) {a b d : Int} (h0 : 0 ≤ a) (h1 : a ≤ b) (h2 : b ≤ d) (h3 : d ≤ 1099511627776) : stepV c part a d = stepV c part a b + stepV c part b d := by
  rw [stepV_is g part h0 (by omega) h3, stepV_is g part h0 h1 (by omega), stepV_is g part (by omega) h2 h3]
  omega
/-- The steps of the first k partitions. -/
def allV (c : Cf) (a d : Int) (k : Nat) : Int := smQ (fun p => decide (p < (k : Int))) (bW c.major c.switch d) c.wins - smQ (fun p => decide (p < (k : Int))) (bW c.major c.switch a) c.wins
theorem smQ_none {q : Int → Bool} {f : Wn → Int} : ∀ {l : List Wn}, (∀ x ∈ l, q x.part = false) → smQ q f l = 0
  | [], _ => rfl
  | x :: l, h => by
    unfold smQ
    rw [h x (List.mem_cons_self ..), smQ_none fun y hy => h y (List.mem_cons_of_mem _ hy)]; rfl
theorem allV_zero {c : Cf} (v : Vd c) (a d : Int) : allV c a d 0 = 0 := by
  have h : ∀ f, smQ (fun p => decide (p < ((0 : Nat) : Int))) f c.wins = 0 := fun f => smQ_none fun x hx => by
    obtain ⟨k, hk⟩ := mem_at hx
    have := v.at hk
    exact decide_eq_false (by omega)
  unfold allV
  rw [h, h]; rfl
theorem allV_next {c : Cf} (g : chk c = 0) {a d : Int} (k : Nat) (h0 : 0 ≤ a) (h1 : a ≤ d) (h2 : d ≤ 1099511627776) : allV c a d (k + 1) = allV c a d k + stepV c k a d := by
  rw [stepV_is g k h0 h1 h2]
  unfold allV belowV isP
  rw [Int.natCast_add, show ((1 : Nat) : Int) = 1 from rfl, smQ_next, smQ_next]
  omega
theorem allV_bd {c : Cf} (v : Vd c) {a d : Int} (k : Nat) (h0 : 0 ≤ a) (h1 : a ≤ d) : 0 ≤ allV c a d k ∧ allV c a d k ≤ d - a := dif_le v _ h0 h1
/-- Frames later. -/
theorem atV_far {c : Cf} {t f : Int} (h1 : okT t) (h2 : okT (t + f * c.major)) : atV c (t + f * c.major) = atV c t := by
  unfold atV
  by_cases g : chk c = 0
  · rw [if_pos ⟨h2, g⟩, if_pos ⟨h1, g⟩, Int.add_mul_emod_self_right]
  · rw [if_neg (fun x => g x.2), if_neg (fun x => g x.2)]
theorem nextV_far {c : Cf} (g : chk c = 0) (part : Int) {t f : Int} (h1 : okT t) (h2 : okT (t + f * c.major)) :
    (nextV c part (t + f * c.major)).2 = (nextV c part t).2 ∧ ((nextV c part t).2 = true → (nextV c part (t + f * c.major)).1 = (nextV c part t).1 + f * c.major ∧ t ≤ (nextV c part t).1 ∧ (nextV c part t).1 < t + 200000) := by
  unfold nextV
  rw [if_pos ⟨h2, g⟩, if_pos ⟨h1, g⟩, nxO_far]
  cases h : nxO c part t with
  | none => exact ⟨rfl, fun x => by simp [nxR] at x⟩
  | some v =>
    have := nxO_some (vd_of g) h1.1 h
    exact ⟨rfl, fun _ => ⟨rfl, this.1, this.2.1⟩⟩
theorem stepV_far {c : Cf} (g : chk c = 0) (part : Int) {t f : Int} (h1 : 0 ≤ t) (h2 : 0 ≤ f) (h3 : t + f * c.major + 77 ≤ 1099511627776) : stepV c part (t + f * c.major) (t + f * c.major + 77) = stepV c part t (t + 77) := by
  have v := vd_of g
  have hm := v.mj
  have h0 : 0 ≤ f * c.major := Int.mul_nonneg h2 (by omega)
  rw [stepV_is g part (by omega) (by omega) h3, stepV_is g part h1 (by omega) (by omega), show t + f * c.major + 77 = t + 77 + f * c.major by omega, belowV_far v, belowV_far v]
  omega
/-- A partition makes a step at a tick. -/
def runs (c : Cf) (part t : Int) : Prop := (runV c t).2 = true ∧ (runV c t).1 = part
/-- What a walk over ticks from f on, below t, has found as the first. -/
def Fst (c : Cf) (part f t x : Int) : Prop := (x = -1 ∧ ∀ s, f ≤ s → s < t → ¬ runs c part s) ∨ (f ≤ x ∧ x < t ∧ runs c part x ∧ ∀ s, f ≤ s → s < x → ¬ runs c part s)
theorem Fst.no {c : Cf} {part f t x : Int} (h : Fst c part f t x) (hr : ¬ runs c part t) : Fst c part f (t + 1) x := by
  rcases h with ⟨h1, h2⟩ | ⟨h1, h2, h3, h4⟩
  · refine .inl ⟨h1, fun s s1 s2 => ?_⟩
    by_cases e : s = t
    · rw [e]; exact hr
    · exact h2 s s1 (by omega)
  · exact .inr ⟨h1, by omega, h3, h4⟩
theorem Fst.yes {c : Cf} {part f t x : Int} (h : Fst c part f t x) (hf : 0 ≤ f) (hft : f ≤ t) (hr : runs c part t) : (x < 0 → Fst c part f (t + 1) t) ∧ (¬ x < 0 → Fst c part f (t + 1) x) := by
  rcases h with ⟨h1, h2⟩ | ⟨h1, h2, h3, h4⟩
  · exact ⟨fun _ => .inr ⟨hft, by omega, hr, h2⟩, fun g => by omega⟩
  · exact ⟨fun g => by omega, fun _ => .inr ⟨h1, by omega, h3, h4⟩⟩
theorem fst_next {c : Cf} (g : chk c = 0) {part f t x : Int} (hf : 0 ≤ f) (h1 : f ≤ 274877906944) (h2 : t ≤ f + 300) (h : Fst c part f t x) :
    (0 ≤ x → (nextV c part f).2 = true ∧ (nextV c part f).1 = x) ∧ (¬ 0 ≤ x → (nextV c part f).2 = false ∨ t ≤ (nextV c part f).1) := by
  have v := vd_of g
  have hr : ∀ s, f ≤ s → s < f + 200300 → (runs c part s ↔ onL part c.switch (s % c.major) c.wins) := fun s s1 s2 => run_on g part ⟨by omega, by omega⟩
  unfold nextV
  rw [if_pos ⟨⟨hf, by omega⟩, g⟩]
  cases hx : nxO c part f with
  | none =>
    have hn := nxO_none v hx
    rcases h with ⟨e1, e2⟩ | ⟨e1, e2, e3, e4⟩
    · exact ⟨fun x0 => by omega, fun _ => .inl rfl⟩
    · exact absurd ((hr x e1 (by omega)).1 e3) (hn _)
  | some w =>
    obtain ⟨w1, w2, w3, w4⟩ := nxO_some v hf hx
    have hrw : runs c part w := (hr w w1 (by omega)).2 w3
    rcases h with ⟨e1, e2⟩ | ⟨e1, e2, e3, e4⟩
    · refine ⟨fun x0 => by omega, fun _ => .inr ?_⟩
      show t ≤ w
      apply Classical.byContradiction
      intro hw
      exact e2 w w1 (by omega) hrw
    · refine ⟨fun _ => ⟨rfl, ?_⟩, fun x0 => by omega⟩
      show w = x
      rcases Int.lt_trichotomy w x with e | e | e
      · exact absurd hrw (e4 w w1 e)
      · exact e
      · exact absurd ((hr x e1 (by omega)).1 e3) (w4 x e1 e)
theorem counts_facts {c : Cf} (g : chk c = 0) (part : Int) {f n : Int} (h1 : 0 ≤ f) (h2 : f ≤ 274877906944) {N : Nat} (h3 : N ≤ 300) (h4 : n = (N : Int)) :
    ∃ K : Nat → Int, K 0 = 0 ∧ (∀ j, 0 ≤ K j ∧ K j ≤ j) ∧ K N = stepV c part f (f + n) ∧
      (∀ j, j < N → (((runV c (f + j)).2 = true ∧ (runV c (f + j)).1 = part → ∀ x, Fst c part f (f + j) x → K (j + 1) = K j + 1 ∧ (x < 0 → Fst c part f (f + j + 1) (f + j)) ∧ (¬ x < 0 → Fst c part f (f + j + 1) x)) ∧
        (¬ ((runV c (f + j)).2 = true ∧ (runV c (f + j)).1 = part) → ∀ x, Fst c part f (f + j) x → K (j + 1) = K j ∧ Fst c part f (f + j + 1) x))) ∧
      (∀ x, Fst c part f (f + N) x → (0 ≤ x → (nextV c part f).2 = true ∧ (nextV c part f).1 = x) ∧ (¬ 0 ≤ x → (nextV c part f).2 = false ∨ f + N ≤ (nextV c part f).1)) := by
  have v := vd_of g
  refine ⟨fun j => belowV c part (f + j) - belowV c part f, by simp, fun j => dif_bd v (isP part) h1 j, ?_, fun j hj => ⟨fun hr x hx => ?_, fun hr x hx => ?_⟩, fun x hx => fst_next g h1 h2 (by omega) hx⟩
  · rw [h4, stepV_is g part h1 (by omega) (by omega)]
  · have hb := belowV_next g part (t := f + j) ⟨by omega, by omega⟩
    rw [if_pos hr] at hb
    refine ⟨?_, hx.yes h1 (by omega) hr⟩
    show belowV c part (f + ((j + 1 : Nat) : Int)) - belowV c part f = belowV c part (f + j) - belowV c part f + 1
    rw [show f + ((j + 1 : Nat) : Int) = f + j + 1 by omega, hb]; omega
  · have hb := belowV_next g part (t := f + j) ⟨by omega, by omega⟩
    rw [if_neg hr] at hb
    refine ⟨?_, hx.no hr⟩
    show belowV c part (f + ((j + 1 : Nat) : Int)) - belowV c part f = belowV c part (f + j) - belowV c part f
    rw [show f + ((j + 1 : Nat) : Int) = f + j + 1 by omega, hb]; omega
end Go.Proofs.Ytnglmiihlpjelaa.Cfg
