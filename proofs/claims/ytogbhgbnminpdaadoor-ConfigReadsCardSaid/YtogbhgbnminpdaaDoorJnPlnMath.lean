/-
  A plan, plainly: whose tick it is, how many steps a partition makes, which its next one is.
-/
import Derived.Test.YtogbhgbnminpdaaDoorJnCfgEf
set_option linter.unusedVariables false
set_option maxRecDepth 100000
set_option linter.unusedVariables false
namespace Go.Proofs.YtogbhgbnminpdaaDoor.Cfg
open Go.Proofs.YtogbhgbnminpdaaDoor
/-- A row of windows that can be, behind e. -/
def Gd (mj sw n : Int) : Int → List Wn → Prop
  | _, [] => True
  | e, x :: l => okW mj sw n e x ∧ Gd mj sw n (x.start + x.len) l
def endFrom (e : Int) (l : List Wn) : Nat → Int
  | 0 => e
  | k + 1 => endTo l (k + 1)
theorem gd_of {mj sw n : Int} : ∀ {l : List Wn} {e : Int}, (∀ (k : Nat) (x : Wn), l[k]? = some x → okW mj sw n (endFrom e l k) x) → Gd mj sw n e l
  | [], _, _ => True.intro
  | x :: l, e, h => ⟨h 0 x rfl, gd_of fun k y hy => by
      have h1 := h (k + 1) y (by simpa using hy)
      cases k with
      | zero => exact h1
      | succ k => exact h1⟩
theorem Gd.at {mj sw n : Int} (hs : 0 ≤ sw) : ∀ {l : List Wn} {e : Int}, 0 ≤ e → Gd mj sw n e l → ∀ (k : Nat) (x : Wn), l[k]? = some x → e ≤ x.start ∧ sw < x.len ∧ x.start + x.len ≤ mj ∧ 0 ≤ x.part ∧ x.part < n
  | [], _, _, _, k, x, hx => by simp at hx
  | y :: l, e, he, h, 0, x, hx => by
    simp only [List.getElem?_cons_zero, Option.some.injEq] at hx
    subst hx
    obtain ⟨h1, h2, h3, h4⟩ := h.1
    exact ⟨h1, h2, by omega, h4⟩
  | y :: l, e, he, h, k + 1, x, hx => by
    obtain ⟨h1, h2, h3, h4⟩ := h.1
    have := Gd.at hs (by omega) h.2 k x (by simpa using hx)
    omega
/-- What a configuration that can be has. -/
structure Vd (c : Cf) : Prop where
  mj : 1 ≤ c.major ∧ c.major ≤ 100000
  sw : 0 ≤ c.switch ∧ c.switch ≤ 1000
  ln : c.wins.length ≤ 32
  gd : Gd c.major c.switch c.parts.length 0 c.wins
theorem vd_of {c : Cf} (h : chk c = 0) : Vd c := by
  have h5 : planOk c := by
    apply Classical.byContradiction
    intro hn
    have : chkB (@decide (hostOk c) (Classical.propDecidable _)) (@decide (partsOk c.parts) (Classical.propDecidable _)) (@decide (memOk c.pages c.parts) (Classical.propDecidable _)) (@decide (chansOk c.parts.length c.chans) (Classical.propDecidable _)) (@decide (planOk c) (Classical.propDecidable _)) = 0 := h
    simp only [chkB, hn, decide_false, if_true] at this
    split at this <;> first | omega | (split at this <;> first | omega | (split at this <;> first | omega | (split at this <;> omega)))
  exact ⟨h5.1, h5.2.1, h5.2.2.1.2, gd_of fun k x hx => by
    have := h5.2.2.2 k x hx
    cases k with
    | zero => exact this
    | succ k => exact this⟩
theorem Vd.at {c : Cf} (h : Vd c) {k : Nat} {x : Wn} (hx : c.wins[k]? = some x) : 0 ≤ x.start ∧ c.switch < x.len ∧ x.start + x.len ≤ c.major ∧ 0 ≤ x.part ∧ x.part < c.parts.length :=
  Gd.at h.sw.1 (Int.le_refl 0) h.gd k x hx
/-- Whose a frame's tick is. -/
def atL : List Wn → Int → Int × Int
  | [], _ => (-1, 0)
  | w :: l, u => if w.start ≤ u ∧ u < w.start + w.len then (w.part, u - w.start) else atL l u
/-- The ticks that are looked at. -/
def okT (t : Int) : Prop := 0 ≤ t ∧ t ≤ 1099511627776
open Classical in
noncomputable def atV (c : Cf) (t : Int) : Int × Int := if okT t ∧ chk c = 0 then atL c.wins (t % c.major) else (-1, 0)
open Classical in
noncomputable def runV (c : Cf) (t : Int) : Int × Bool := ((atV c t).1, decide ((atV c t).1 ≠ -1 ∧ c.switch ≤ (atV c t).2))
theorem atL_part {mj sw n : Int} (hs : 0 ≤ sw) : ∀ {l : List Wn} {e : Int}, 0 ≤ e → Gd mj sw n e l → ∀ u, ((atL l u).1 = -1 ∧ (atL l u).2 = 0) ∨ (0 ≤ (atL l u).1 ∧ (atL l u).1 < n ∧ 0 ≤ (atL l u).2)
  | [], _, _, _, u => .inl ⟨rfl, rfl⟩
  | x :: l, e, he, h, u => by
    obtain ⟨h1, h2, h3, h4⟩ := h.1
    unfold atL
    split
    · exact .inr ⟨h4.1, h4.2, by simp only; omega⟩
    · exact atL_part hs (by omega) h.2 u
theorem atV_part (c : Cf) (t : Int) : (atV c t).1 = -1 ∨ (0 ≤ (atV c t).1 ∧ (atV c t).1 < c.parts.length) := by
  unfold atV
  split
  · rename_i h
    have v := vd_of h.2
    rcases atL_part v.sw.1 (Int.le_refl 0) v.gd (t % c.major) with h | h
    · exact .inl h.1
    · exact .inr ⟨h.1, h.2.1⟩
  · exact .inl rfl
open Classical in
theorem runV_ge (c : Cf) (t : Int) : decide ((atV c t).1 ≠ -1 ∧ c.switch ≤ (atV c t).2) = decide (0 ≤ (atV c t).1 ∧ c.switch ≤ (atV c t).2) := by
  have := atV_part c t
  by_cases h : (atV c t).1 = -1
  · have : ¬ (0 ≤ (atV c t).1) := by omega
    simp [h]
  · have : 0 ≤ (atV c t).1 := by omega
    simp [h, this]
/-- A sum over the windows of some partitions. -/
def smQ (q : Int → Bool) (f : Wn → Int) : List Wn → Int
  | [] => 0
  | w :: l => (if q w.part then f w else 0) + smQ q f l
theorem smQ_drop (q : Int → Bool) (f : Wn → Int) {l : List Wn} {j : Nat} {x : Wn} (h : l[j]? = some x) : smQ q f (l.drop j) = (if q x.part then f x else 0) + smQ q f (l.drop (j + 1)) := by
  obtain ⟨h1, rfl⟩ := List.getElem?_eq_some_iff.1 h
  rw [List.drop_eq_getElem_cons h1]; rfl
theorem atL_drop {l : List Wn} {j : Nat} {x : Wn} (h : l[j]? = some x) (u : Int) : atL (l.drop j) u = if x.start ≤ u ∧ u < x.start + x.len then (x.part, u - x.start) else atL (l.drop (j + 1)) u := by
  obtain ⟨h1, rfl⟩ := List.getElem?_eq_some_iff.1 h
  rw [List.drop_eq_getElem_cons h1]; rfl
theorem drop_end {l : List Wn} {j : Nat} (h : l.length ≤ j) : l.drop j = [] := List.drop_eq_nil_of_le h
theorem smQ_congr {q : Int → Bool} {f g : Wn → Int} : ∀ {l : List Wn}, (∀ x ∈ l, f x = g x) → smQ q f l = smQ q g l
  | [], _ => rfl
  | x :: l, h => by
    unfold smQ
    rw [h x (List.mem_cons_self ..), smQ_congr fun y hy => h y (List.mem_cons_of_mem _ hy)]
theorem smQ_add (q : Int → Bool) (f g : Wn → Int) : ∀ (l : List Wn), smQ q (fun x => f x + g x) l = smQ q f l + smQ q g l
  | [] => rfl
  | x :: l => by
    unfold smQ
    rw [smQ_add q f g l]
    split <;> omega
theorem smQ_mul (q : Int → Bool) (k : Int) (f : Wn → Int) : ∀ (l : List Wn), smQ q (fun x => k * f x) l = k * smQ q f l
  | [] => by simp [smQ]
  | x :: l => by
    unfold smQ
    rw [smQ_mul q k f l, Int.mul_add]
    split
    · rfl
    · simp
theorem smQ_zero (q : Int → Bool) : ∀ (l : List Wn), smQ q (fun _ => 0) l = 0
  | [] => rfl
  | x :: l => by unfold smQ; rw [smQ_zero q l]; split <;> rfl
theorem smQ_bd {q : Int → Bool} {f : Wn → Int} {M : Int} (hM : 0 ≤ M) : ∀ {l : List Wn}, (∀ x ∈ l, 0 ≤ f x ∧ f x ≤ M) → 0 ≤ smQ q f l ∧ smQ q f l ≤ l.length * M
  | [], _ => by simp [smQ]
  | x :: l, h => by
    have h1 := smQ_bd (q := q) hM (l := l) fun y hy => h y (List.mem_cons_of_mem _ hy)
    have h2 := h x (List.mem_cons_self ..)
    unfold smQ
    rw [List.length_cons, show ((l.length + 1 : Nat) : Int) * M = l.length * M + M by rw [Int.natCast_add, Int.add_mul]; simp]
    split <;> omega
theorem smQ_next (k : Int) (f : Wn → Int) : ∀ (l : List Wn), smQ (fun p => decide (p < k + 1)) f l = smQ (fun p => decide (p < k)) f l + smQ (fun p => decide (p = k)) f l
  | [] => rfl
  | x :: l => by
    unfold smQ
    rw [smQ_next k f l]
    by_cases h1 : x.part < k
    · have a1 : decide (x.part < k + 1) = true := decide_eq_true (by omega)
      have a2 : decide (x.part < k) = true := decide_eq_true h1
      have a3 : decide (x.part = k) = false := decide_eq_false (by omega)
      simp only [a1, a2, a3, if_true, Bool.false_eq_true, if_false]; omega
    · have a2 : decide (x.part < k) = false := decide_eq_false h1
      by_cases h3 : x.part = k
      · have a1 : decide (x.part < k + 1) = true := decide_eq_true (by omega)
        have a3 : decide (x.part = k) = true := decide_eq_true h3
        simp only [a1, a2, a3, if_true, Bool.false_eq_true, if_false]; omega
      · have a1 : decide (x.part < k + 1) = false := decide_eq_false (by omega)
        have a3 : decide (x.part = k) = false := decide_eq_false h3
        simp only [a1, a2, a3, Bool.false_eq_true, if_false]; omega
abbrev isP (part : Int) : Int → Bool := fun p => decide (p = part)
/-- A window's steps ahead of a frame's tick n. -/
def gW (sw n : Int) (w : Wn) : Int := min (max (n - w.start - sw) 0) (w.len - sw)
/-- A window's steps ahead of tick t. -/
def bW (mj sw t : Int) (w : Wn) : Int := t / mj * (w.len - sw) + gW sw (t % mj) w
/-- Does a window make a step at a frame's tick? -/
def oW (sw u : Int) (w : Wn) : Int := if w.start + sw ≤ u ∧ u < w.start + w.len then 1 else 0
def aheadV (c : Cf) (part n : Int) : Int := smQ (isP part) (gW c.switch n) c.wins
def belowV (c : Cf) (part t : Int) : Int := smQ (isP part) (bW c.major c.switch t) c.wins
theorem mem_at {l : List Wn} {x : Wn} (h : x ∈ l) : ∃ k : Nat, l[k]? = some x := by
  obtain ⟨k, hk, e⟩ := List.mem_iff_getElem.1 h
  exact ⟨k, by rw [← e]; exact List.getElem?_eq_getElem hk⟩
theorem gW_bd {sw n : Int} {x : Wn} (h : sw < x.len) : 0 ≤ gW sw n x ∧ gW sw n x ≤ x.len - sw := by unfold gW; omega
theorem gW_all {sw mj : Int} {x : Wn} (h1 : sw < x.len) (h2 : x.start + x.len ≤ mj) : gW sw mj x = x.len - sw := by unfold gW; omega
theorem gW_none {sw : Int} {x : Wn} (h1 : sw < x.len) (hs : 0 ≤ sw) (h2 : 0 ≤ x.start) : gW sw 0 x = 0 := by unfold gW; omega
/-- The package's way to count and the plain one are one. -/
theorem belowV_eq {c : Cf} (v : Vd c) (part t : Int) : t / c.major * aheadV c part c.major + aheadV c part (t % c.major) = belowV c part t := by
  unfold belowV aheadV
  rw [← smQ_mul, ← smQ_add]
  exact smQ_congr fun x hx => by
    obtain ⟨k, hk⟩ := mem_at hx
    have := v.at hk
    unfold bW
    rw [gW_all this.2.1 this.2.2.1]
theorem aheadV_bd {c : Cf} (v : Vd c) (part n : Int) : 0 ≤ aheadV c part n ∧ aheadV c part n ≤ 3200000 := by
  have h := smQ_bd (q := isP part) (f := gW c.switch n) (M := 100000) (by omega) (l := c.wins) fun x hx => by
    obtain ⟨k, hk⟩ := mem_at hx
    have h1 := v.at hk
    have h2 := gW_bd (n := n) h1.2.1
    have := v.mj; have := v.sw
    omega
  have := v.ln
  unfold aheadV
  omega
theorem bW_next {mj sw t : Int} {x : Wn} (hm : 1 ≤ mj) (ht : 0 ≤ t) (hs : 0 ≤ sw) (h0 : 0 ≤ x.start) (h1 : sw < x.len) (h2 : x.start + x.len ≤ mj) : bW mj sw (t + 1) x = bW mj sw t x + oW sw (t % mj) x := by
  have e1 := Int.emod_add_mul_ediv t mj
  have hu0 := Int.emod_nonneg t (show mj ≠ 0 by omega)
  have hu1 := Int.emod_lt_of_pos t (show 0 < mj by omega)
  obtain ⟨q, hq⟩ : ∃ q, t / mj = q := ⟨_, rfl⟩
  obtain ⟨u, hu⟩ : ∃ u, t % mj = u := ⟨_, rfl⟩
  rw [hq, hu] at e1
  rw [hu] at hu0 hu1
  unfold bW
  rw [hq, hu]
  by_cases hlt : u + 1 < mj
  · have e2 : (t + 1) / mj = q := by
      rw [show t + 1 = (u + 1) + mj * q by omega, Int.add_mul_ediv_left _ _ (by omega), Int.ediv_eq_zero_of_lt (by omega) hlt]; omega
    have e3 : (t + 1) % mj = u + 1 := by
      rw [show t + 1 = (u + 1) + mj * q by omega, Int.add_mul_emod_self_left, Int.emod_eq_of_lt (by omega) hlt]
    rw [e2, e3]
    unfold gW oW
    split <;> omega
  · have e2 : (t + 1) / mj = q + 1 := by
      rw [show t + 1 = 0 + mj * (q + 1) by rw [Int.mul_add]; omega, Int.add_mul_ediv_left _ _ (by omega)]; simp
    have e3 : (t + 1) % mj = 0 := by
      rw [show t + 1 = 0 + mj * (q + 1) by rw [Int.mul_add]; omega, Int.add_mul_emod_self_left]; simp
    rw [e2, e3, Int.add_mul]
    unfold gW oW
    split <;> omega
theorem smB_next {c : Cf} (v : Vd c) (q : Int → Bool) {t : Int} (ht : 0 ≤ t) : smQ q (bW c.major c.switch (t + 1)) c.wins = smQ q (bW c.major c.switch t) c.wins + smQ q (oW c.switch (t % c.major)) c.wins := by
  rw [← smQ_add]
  exact smQ_congr fun x hx => by
    obtain ⟨k, hk⟩ := mem_at hx
    have := v.at hk
    exact bW_next v.mj.1 ht v.sw.1 this.1 this.2.1 this.2.2.1
/-- At a tick ahead of all windows nobody makes a step. -/
theorem oW_ahead {mj sw n : Int} (hs : 0 ≤ sw) (q : Int → Bool) : ∀ {l : List Wn} {e : Int}, Gd mj sw n e l → ∀ u, u < e → smQ q (oW sw u) l = 0
  | [], _, _, _, _ => rfl
  | x :: l, e, h, u, hu => by
    obtain ⟨h1, h2, h3, h4⟩ := h.1
    unfold smQ
    rw [oW_ahead hs q h.2 u (by omega), show oW sw u x = 0 by unfold oW; split <;> omega]
    simp
theorem oW_bd {mj sw n : Int} (hs : 0 ≤ sw) (q : Int → Bool) : ∀ {l : List Wn} {e : Int}, Gd mj sw n e l → ∀ u, 0 ≤ smQ q (oW sw u) l ∧ smQ q (oW sw u) l ≤ 1
  | [], _, _, _ => ⟨Int.le_refl _, by simp [smQ]⟩
  | x :: l, e, h, u => by
    obtain ⟨h1, h2, h3, h4⟩ := h.1
    have h5 := oW_bd hs q h.2 u
    unfold smQ
    by_cases ho : x.start + sw ≤ u ∧ u < x.start + x.len
    · rw [oW_ahead hs q h.2 u (by omega), show oW sw u x = 1 by unfold oW; rw [if_pos ho]]
      split <;> omega
    · rw [show oW sw u x = 0 by unfold oW; rw [if_neg ho]]
      split <;> omega
/-- A partition's step at a tick, out of whose tick it is. -/
theorem oW_at {mj sw n : Int} (hs : 0 ≤ sw) (part : Int) : ∀ {l : List Wn} {e : Int}, 0 ≤ e → Gd mj sw n e l → ∀ u, smQ (isP part) (oW sw u) l = if (atL l u).1 = part ∧ (atL l u).1 ≠ -1 ∧ sw ≤ (atL l u).2 then 1 else 0
  | [], _, _, _, u => by simp [smQ, atL]
  | x :: l, e, he, h, u => by
    obtain ⟨h1, h2, h3, h4⟩ := h.1
    have ih := oW_at hs part (by omega) h.2 u
    unfold smQ atL
    by_cases ho : x.start ≤ u ∧ u < x.start + x.len
    · rw [if_pos ho, oW_ahead hs _ h.2 u (by omega)]
      unfold oW isP
      by_cases hp : x.part = part
      · by_cases hk : x.start + sw ≤ u
        · rw [if_pos (by simpa using hp), if_pos ⟨hk, ho.2⟩, if_pos ⟨hp, by simp only; omega, by simp only; omega⟩]; rfl
        · rw [if_pos (by simpa using hp), if_neg (by omega), if_neg (by simp only; omega)]; rfl
      · rw [if_neg (by simpa using hp), if_neg (by simp only; omega)]; rfl
    · rw [if_neg ho, ← ih, show oW sw u x = 0 by unfold oW; rw [if_neg (by omega)]]
      simp
open Classical in
/-- Steps grow by one just at the ticks at which that partition makes one. -/
theorem belowV_next {c : Cf} (hc : chk c = 0) (part : Int) {t : Int} (ht : okT t) : belowV c part (t + 1) = belowV c part t + if (runV c t).2 = true ∧ (runV c t).1 = part then 1 else 0 := by
  have v := vd_of hc
  unfold belowV
  rw [smB_next v _ ht.1, oW_at v.sw.1 part (Int.le_refl 0) v.gd]
  have e : atV c t = atL c.wins (t % c.major) := by unfold atV; rw [if_pos ⟨ht, hc⟩]
  unfold runV
  rw [e]
  simp only [decide_eq_true_eq]
  congr 1
  by_cases h : (atL c.wins (t % c.major)).1 = part ∧ (atL c.wins (t % c.major)).1 ≠ -1 ∧ c.switch ≤ (atL c.wins (t % c.major)).2
  · rw [if_pos h, if_pos ⟨h.2, h.1⟩]
  · rw [if_neg h, if_neg (fun g => h ⟨g.2, g.1⟩)]
theorem belowV_zero {c : Cf} (v : Vd c) (part : Int) : belowV c part 0 = 0 := by
  have h : smQ (isP part) (bW c.major c.switch 0) c.wins = smQ (isP part) (fun _ => 0) c.wins := smQ_congr fun x hx => by
    obtain ⟨k, hk⟩ := mem_at hx
    have := v.at hk
    unfold bW
    rw [Int.zero_ediv, Int.zero_emod, gW_none this.2.1 v.sw.1 this.1]; simp
  unfold belowV
  rw [h, smQ_zero]
/-- Whole frames. -/
theorem belowV_far {c : Cf} (v : Vd c) (part t f : Int) : belowV c part (t + f * c.major) = belowV c part t + f * aheadV c part c.major := by
  have hm := v.mj
  rw [← belowV_eq v, ← belowV_eq v, Int.add_mul_ediv_right _ _ (by omega), Int.add_mul_emod_self_right, Int.add_mul]
  omega
open Classical in
noncomputable def stepV (c : Cf) (part f t : Int) : Int := if okT f ∧ okT t ∧ f ≤ t ∧ chk c = 0 then belowV c part t - belowV c part f else 0
open Classical in
noncomputable def shareV (c : Cf) (part : Int) : Int := if chk c = 0 then aheadV c part c.major else 0
theorem shareV_eq (c : Cf) (part : Int) : shareV c part = stepV c part 0 c.major := by
  unfold shareV stepV
  by_cases h : chk c = 0
  · have v := vd_of h
    have := v.mj
    rw [if_pos h, if_pos ⟨by unfold okT; omega, by unfold okT; omega, by omega, h⟩, belowV_zero v]
    have := belowV_far v part 0 1
    rw [belowV_zero v] at this
    simp only [Int.zero_add, Int.one_mul] at this
    omega
  · rw [if_neg h, if_neg (fun g => h g.2.2.2)]
/-- The first step, t or later, in the frame that begins at b. -/
def nxL (part sw t b : Int) : List Wn → Option Int
  | [] => none
  | w :: l => if w.part = part ∧ t < b + w.start + w.len then some (max t (b + w.start + sw)) else nxL part sw t b l
theorem nxL_drop {l : List Wn} {j : Nat} {x : Wn} (h : l[j]? = some x) (part sw t b : Int) : nxL part sw t b (l.drop j) = if x.part = part ∧ t < b + x.start + x.len then some (max t (b + x.start + sw)) else nxL part sw t b (l.drop (j + 1)) := by
  obtain ⟨h1, rfl⟩ := List.getElem?_eq_some_iff.1 h
  rw [List.drop_eq_getElem_cons h1]; rfl
def nxO (c : Cf) (part t : Int) : Option Int := (nxL part c.switch t (t - t % c.major) c.wins).or (nxL part c.switch t (t - t % c.major + c.major) c.wins)
def nxR (o : Option Int) : Int × Bool := match o with | some v => (v, true) | none => (0, false)
open Classical in
noncomputable def nextV (c : Cf) (part t : Int) : Int × Bool := if okT t ∧ chk c = 0 then nxR (nxO c part t) else (0, false)
/-- Does a partition make a step at a frame's tick? -/
def onL (part sw u : Int) : List Wn → Prop
  | [] => False
  | w :: l => (w.part = part ∧ w.start + sw ≤ u ∧ u < w.start + w.len) ∨ onL part sw u l
theorem onL_ahead {mj sw n : Int} (hs : 0 ≤ sw) (part : Int) : ∀ {l : List Wn} {e : Int}, Gd mj sw n e l → ∀ u, u < e → ¬ onL part sw u l
  | [], _, _, _, _ => id
  | x :: l, e, h, u, hu => by
    obtain ⟨h1, h2, h3, h4⟩ := h.1
    rintro (g | g)
    · omega
    · exact onL_ahead hs part h.2 u (by omega) g
theorem onL_bd {mj sw n : Int} (hs : 0 ≤ sw) (part : Int) : ∀ {l : List Wn} {e : Int}, 0 ≤ e → Gd mj sw n e l → ∀ u, onL part sw u l → 0 ≤ u ∧ u < mj
  | [], _, _, _, _ => False.elim
  | x :: l, e, he, h, u => by
    obtain ⟨h1, h2, h3, h4⟩ := h.1
    rintro (g | g)
    · omega
    · exact onL_bd hs part (by omega) h.2 u g
theorem onL_at {mj sw n : Int} (hs : 0 ≤ sw) (part : Int) : ∀ {l : List Wn} {e : Int}, 0 ≤ e → Gd mj sw n e l → ∀ u, onL part sw u l ↔ ((atL l u).1 = part ∧ (atL l u).1 ≠ -1 ∧ sw ≤ (atL l u).2)
  | [], _, _, _, u => by simp [onL, atL]
  | x :: l, e, he, h, u => by
    obtain ⟨h1, h2, h3, h4⟩ := h.1
    have ih := onL_at hs part (by omega) h.2 u
    unfold onL atL
    by_cases ho : x.start ≤ u ∧ u < x.start + x.len
    · rw [if_pos ho]
      have hn := onL_ahead hs part h.2 u (by omega)
      simp only
      constructor
      · rintro (g | g)
        · omega
        · exact absurd g hn
      · intro g; exact .inl (by omega)
    · rw [if_neg ho, ← ih]
      constructor
      · rintro (g | g)
        · omega
        · exact g
      · exact .inr
theorem run_on {c : Cf} (hc : chk c = 0) (part : Int) {t : Int} (ht : okT t) : ((runV c t).2 = true ∧ (runV c t).1 = part) ↔ onL part c.switch (t % c.major) c.wins := by
  have v := vd_of hc
  rw [onL_at v.sw.1 part (Int.le_refl 0) v.gd]
  have e : atV c t = atL c.wins (t % c.major) := by unfold atV; rw [if_pos ⟨ht, hc⟩]
  unfold runV
  rw [e]
  simp only [decide_eq_true_eq]
  exact ⟨fun g => ⟨g.2, g.1⟩, fun g => ⟨g.2, g.1⟩⟩
theorem nxL_some {mj sw n : Int} (hs : 0 ≤ sw) {part t b : Int} : ∀ {l : List Wn} {e : Int}, 0 ≤ e → Gd mj sw n e l → ∀ v, nxL part sw t b l = some v → t ≤ v ∧ onL part sw (v - b) l ∧ ∀ s, t ≤ s → s < v → ¬ onL part sw (s - b) l
  | [], _, _, _, v, h => by simp [nxL] at h
  | x :: l, e, he, h, v, hv => by
    obtain ⟨h1, h2, h3, h4⟩ := h.1
    unfold nxL at hv
    by_cases ho : x.part = part ∧ t < b + x.start + x.len
    · rw [if_pos ho] at hv
      simp only [Option.some.injEq] at hv
      refine ⟨by omega, .inl (by omega), fun s hs1 hs2 => ?_⟩
      rintro (g | g)
      · omega
      · exact onL_ahead hs part h.2 _ (by omega) g
    · rw [if_neg ho] at hv
      obtain ⟨g1, g2, g3⟩ := nxL_some hs (by omega) h.2 v hv
      refine ⟨g1, .inr g2, fun s hs1 hs2 => ?_⟩
      rintro (g | g)
      · omega
      · exact g3 s hs1 hs2 g
theorem nxL_none {sw part t b : Int} : ∀ {l : List Wn}, nxL part sw t b l = none → ∀ s, t ≤ s → ¬ onL part sw (s - b) l
  | [], _, _, _ => id
  | x :: l, h, s, hs => by
    unfold nxL at h
    by_cases ho : x.part = part ∧ t < b + x.start + x.len
    · rw [if_pos ho] at h; cases h
    · rw [if_neg ho] at h
      rintro (g | g)
      · omega
      · exact nxL_none h s hs g
theorem frame_of {mj t s : Int} (hm : 1 ≤ mj) (h1 : t - t % mj ≤ s) (h2 : s < t - t % mj + mj) : s % mj = s - (t - t % mj) := by
  have e1 := Int.emod_add_mul_ediv t mj
  have : s = (s - (t - t % mj)) + mj * (t / mj) := by omega
  rw [this, Int.add_mul_emod_self_left, Int.emod_eq_of_lt (by omega) (by omega)]
  omega
theorem frame_next {mj t s : Int} (hm : 1 ≤ mj) (h1 : t - t % mj + mj ≤ s) (h2 : s < t - t % mj + mj + mj) : s % mj = s - (t - t % mj + mj) := by
  have e1 := Int.emod_add_mul_ediv t mj
  have : s = (s - (t - t % mj + mj)) + mj * (t / mj + 1) := by rw [Int.mul_add]; omega
  rw [this, Int.add_mul_emod_self_left, Int.emod_eq_of_lt (by omega) (by omega)]
  rw [Int.mul_add]; omega
/-- The next step is one, and the first. -/
theorem nxO_some {c : Cf} (vd : Vd c) {part t v : Int} (h0 : 0 ≤ t) (h : nxO c part t = some v) : t ≤ v ∧ v < t + 200000 ∧ onL part c.switch (v % c.major) c.wins ∧ ∀ s, t ≤ s → s < v → ¬ onL part c.switch (s % c.major) c.wins := by
  have hm := vd.mj
  have hu0 := Int.emod_nonneg t (show c.major ≠ 0 by omega)
  have hu1 := Int.emod_lt_of_pos t (show 0 < c.major by omega)
  unfold nxO at h
  rw [Option.or_eq_some_iff] at h
  rcases h with h | ⟨hn, h⟩
  · obtain ⟨g1, g2, g3⟩ := nxL_some vd.sw.1 (Int.le_refl 0) vd.gd v h
    have gb := onL_bd vd.sw.1 part (Int.le_refl 0) vd.gd _ g2
    refine ⟨g1, by omega, ?_, fun s s1 s2 => ?_⟩
    · rw [frame_of (t := t) hm.1 (by omega) (by omega)]; exact g2
    · rw [frame_of (t := t) hm.1 (by omega) (by omega)]; exact g3 s s1 s2
  · obtain ⟨g1, g2, g3⟩ := nxL_some vd.sw.1 (Int.le_refl 0) vd.gd v h
    have gb := onL_bd vd.sw.1 part (Int.le_refl 0) vd.gd _ g2
    refine ⟨g1, by omega, ?_, fun s s1 s2 => ?_⟩
    · rw [frame_next (t := t) hm.1 (by omega) (by omega)]; exact g2
    · by_cases hs : s < t - t % c.major + c.major
      · rw [frame_of (t := t) hm.1 (by omega) (by omega)]; exact nxL_none hn s s1
      · rw [frame_next (t := t) hm.1 (by omega) (by omega)]; exact g3 s s1 s2
theorem onL_some {mj sw n : Int} (hs : 0 ≤ sw) {part u t b : Int} : ∀ {l : List Wn} {e : Int}, 0 ≤ e → Gd mj sw n e l → t < b → onL part sw u l → nxL part sw t b l ≠ none
  | [], _, _, _, _ => False.elim
  | x :: l, e, he, h, hb => by
    obtain ⟨h1, h2, h3, h4⟩ := h.1
    intro g
    unfold nxL
    by_cases ho : x.part = part ∧ t < b + x.start + x.len
    · rw [if_pos ho]; simp
    · rw [if_neg ho]
      rcases g with g | g
      · omega
      · exact onL_some hs (by omega) h.2 hb g
theorem nxO_none {c : Cf} (vd : Vd c) {part t : Int} (h : nxO c part t = none) : ∀ u, ¬ onL part c.switch u c.wins := by
  have hm := vd.mj
  have hu1 := Int.emod_lt_of_pos t (show 0 < c.major by omega)
  unfold nxO at h
  rw [Option.or_eq_none_iff] at h
  intro u hu
  exact onL_some vd.sw.1 (Int.le_refl 0) vd.gd (by omega) hu h.2
/-- A frame later. -/
theorem nxL_far (part sw t b d : Int) : ∀ (l : List Wn), nxL part sw (t + d) (b + d) l = (nxL part sw t b l).map (· + d)
  | [] => rfl
  | x :: l => by
    unfold nxL
    rw [nxL_far part sw t b d l]
    by_cases h : x.part = part ∧ t < b + x.start + x.len
    · rw [if_pos h, if_pos ⟨h.1, by omega⟩, Option.map_some, Option.some.injEq]; omega
    · rw [if_neg h, if_neg (fun g => h ⟨g.1, by omega⟩)]
theorem nxO_far {c : Cf} (part t f : Int) : nxO c part (t + f * c.major) = (nxO c part t).map (· + f * c.major) := by
  unfold nxO
  rw [Int.add_mul_emod_self_right, show t + f * c.major - t % c.major = t - t % c.major + f * c.major by omega, show t - t % c.major + f * c.major + c.major = t - t % c.major + c.major + f * c.major by omega, nxL_far, nxL_far]
  cases nxL part c.switch t (t - t % c.major) c.wins <;> simp
end Go.Proofs.YtogbhgbnminpdaaDoor.Cfg
