
/-
  Plain mathematics of chapter 2: two instructions that have words, and one word, are one; so are two that have one text.
-/
import Derived.Test.YtpjonhcbhgalpaaDoorIsaNum
import Derived.Test.YtpjonhcbhgalpaaDoorIsaMath3
import Derived.Test.YtpjonhcbhgalpaaDoorIsaOp
import Derived.Lib.ItoaMem
import Derived.Lib.Join
namespace Go.Proofs.YtpjonhcbhgalpaaDoor
open Go.ChangeShapes Go.WideShapes Go.ChangeAt Go.RowKit

/-! ### Numerals -/
/-- The number of a numeral. -/
def numOf (l : List UInt8) : Nat := l.foldl (fun v c => 10 * v + (c.toNat - 48)) 0
theorem dig_toNat (u : Nat) (h : u < 10) : (UInt8.ofNat (48 + u)).toNat = 48 + u := by
  rw [UInt8.toNat_ofNat']; omega
theorem numOf_dec (u : Nat) : numOf (Lib.decDigits u) = u := by
  induction u using Nat.strongRecOn with
  | _ u ih =>
    by_cases h : u < 10
    · rw [Lib.decDigits, dif_pos h]
      show 10 * 0 + ((UInt8.ofNat (48 + u)).toNat - 48) = u
      rw [dig_toNat u h]; omega
    · rw [Lib.decDigits, dif_neg h]
      have e := ih (u / 10) (by omega)
      unfold numOf at *
      rw [List.foldl_append, e]
      show 10 * (u / 10) + ((UInt8.ofNat (48 + u % 10)).toNat - 48) = u
      rw [dig_toNat (u % 10) (by omega)]; omega
theorem dec_digits (u : Nat) : ∀ c ∈ Lib.decDigits u, 48 ≤ c.toNat := by
  induction u using Nat.strongRecOn with
  | _ u ih =>
    intro c hc
    by_cases h : u < 10
    · rw [Lib.decDigits, dif_pos h] at hc
      rw [List.mem_singleton] at hc
      rw [hc, dig_toNat u h]; omega
    · rw [Lib.decDigits, dif_neg h] at hc
      rcases List.mem_append.1 hc with hc | hc
      · exact ih (u / 10) (by omega) c hc
      · rw [List.mem_singleton] at hc
        rw [hc, dig_toNat (u % 10) (by omega)]; omega
theorem dec_inj {u v : Nat} (h : Lib.decDigits u = Lib.decDigits v) : u = v := by
  rw [← numOf_dec u, h, numOf_dec]
theorem itoa_inj {m n : Int} (h : Lib.itoa m = Lib.itoa n) : m = n := by
  unfold Lib.itoa at h
  split at h <;> split at h
  · have := dec_inj (List.cons.inj h).2; omega
  · have := dec_digits n.toNat 45 (by rw [← h]; exact List.mem_cons_self)
    exact absurd this (by decide)
  · have := dec_digits m.toNat 45 (by rw [h]; exact List.mem_cons_self)
    exact absurd this (by decide)
  · have := dec_inj h; omega
theorem itoa_no {c : UInt8} (hc : c.toNat < 45) (n : Int) : c ∉ Lib.itoa n := by
  intro h
  unfold Lib.itoa at h
  split at h
  · rcases List.mem_cons.1 h with h | h
    · rw [h] at hc; exact absurd hc (by decide)
    · have := dec_digits _ _ h; omega
  · have := dec_digits _ _ h; omega
theorem rS_inj {a b : Int} (h : rS a = rS b) : a = b := itoa_inj (List.cons.inj h).2
theorem rS_no (a : Int) : (44 : UInt8) ∉ rS a := by
  unfold rS
  intro h
  rcases List.mem_cons.1 h with h | h
  · revert h; decide
  · exact itoa_no (by decide) a h

/-! ### Texts that are joined -/
theorem cut_at (c : UInt8) : ∀ (x x' s s' : List UInt8), c ∉ x → c ∉ x' → x ++ c :: s = x' ++ c :: s' → x = x' ∧ s = s'
  | [], [], _, _, _, _, h => ⟨rfl, (List.cons.inj h).2⟩
  | [], d :: t, _, _, _, h2, h => absurd (List.cons.inj h).1 fun e => h2 (e ▸ List.mem_cons_self)
  | d :: t, [], _, _, h1, _, h => absurd (List.cons.inj h).1 fun e => h1 (e ▸ List.mem_cons_self)
  | d :: t, d' :: t', s, s', h1, h2, h => by
    obtain ⟨e1, e2⟩ := List.cons.inj h
    obtain ⟨e3, e4⟩ := cut_at c t t' s s' (fun m => h1 (List.mem_cons_of_mem _ m)) (fun m => h2 (List.mem_cons_of_mem _ m)) e2
    exact ⟨by rw [e1, e3], e4⟩
theorem join_two (x y : List UInt8) (r : List (List UInt8)) : Lib.join (x :: y :: r) [44, 32] = x ++ 44 :: 32 :: Lib.join (y :: r) [44, 32] := by
  unfold Lib.join
  rw [List.intercalate, List.intersperse_cons_cons, List.flatten_cons, List.flatten_cons]
  rfl
theorem join_one (x : List UInt8) : Lib.join [x] [44, 32] = x := by
  show List.flatten [x] = x
  simp
theorem join_inj : ∀ (xs ys : List (List UInt8)), xs.length = ys.length → (∀ x ∈ xs, (44 : UInt8) ∉ x) → (∀ y ∈ ys, (44 : UInt8) ∉ y) → Lib.join xs [44, 32] = Lib.join ys [44, 32] → xs = ys
  | [], [], _, _, _, _ => rfl
  | [x], [y], _, _, _, h => by rw [join_one, join_one] at h; rw [h]
  | x :: x2 :: xs, y :: y2 :: ys, hl, hx, hy, h => by
    rw [join_two, join_two] at h
    obtain ⟨e1, e2⟩ := cut_at 44 x y _ _ (hx x List.mem_cons_self) (hy y List.mem_cons_self) h
    have e3 := join_inj (x2 :: xs) (y2 :: ys) (Nat.succ.inj hl) (fun z hz => hx z (List.mem_cons_of_mem _ hz)) (fun z hz => hy z (List.mem_cons_of_mem _ hz)) (List.cons.inj e2).2
    rw [e1, e3]
  | [], _ :: _, hl, _, _, _ => by cases hl
  | _ :: _, [], hl, _, _, _ => by cases hl
  | [_], _ :: _ :: _, hl, _, _, _ => by cases (Nat.succ.inj hl)
  | _ :: _ :: _, [_], hl, _, _, _ => by cases (Nat.succ.inj hl)

/-! ### One word, one text -/
theorem word_one (o a b c m o' a' b' c' m' : Int) (h : encE o a b c m = 0) (h' : encE o' a' b' c' m' = 0) (hw : encW o a b c m = encW o' a' b' c' m') :
    o = o' ∧ a = a' ∧ b = b' ∧ c = c' ∧ m = m' := by
  obtain ⟨f0, f1, f2, f3, f4, _⟩ := fields_of o a b c m h
  obtain ⟨g0, g1, g2, g3, g4, _⟩ := fields_of o' a' b' c' m' h'
  rw [hw] at f0 f1 f2 f3 f4
  exact ⟨f0.symm.trans g0, f1.symm.trans g1, f2.symm.trans g2, f3.symm.trans g3, f4.symm.trans g4⟩
theorem name_facts : ((List.range 71).all fun k => opF (k : Nat) == 0 || (!(opN (k : Nat)).data.toList.isEmpty && !(opN (k : Nat)).data.toList.contains 32)) = true := by decide +kernel
theorem name_fact (o : Int) (h : opF o ≠ 0) : (opN o).toList.isEmpty = false ∧ (32 : UInt8) ∉ (opN o).data.toList := by
  obtain ⟨h0, h1⟩ := op_of_form o h
  obtain ⟨k, rfl⟩ := Int.eq_ofNat_of_zero_le h0
  have e := List.all_eq_true.1 name_facts k (List.mem_range.2 (by omega))
  have e1 : (opF (k : Nat) == 0) = false := by simpa using h
  rw [e1, Bool.false_or, Bool.and_eq_true] at e
  refine ⟨by rw [ByteArray.toList_eq]; simpa using e.1, ?_⟩
  have e2 := e.2
  intro hm
  rw [List.contains_iff_mem.2 hm] at e2
  cases e2
theorem enc_form {o a b c m : Int} (h : encE o a b c m = 0) : opF o ≠ 0 ∧ ¬ badQ (fR (opF o)) a b c ∧ ¬ (m < fL (opF o) ∨ fH (opF o) < m) := by
  unfold encE at h
  split at h
  · cases h
  · split at h
    · cases h
    · split at h
      · cases h
      · exact ⟨by assumption, by assumption, by assumption⟩
theorem flds_no (r q a b c m : Int) : ∀ x ∈ flds r q a b c m, (44 : UInt8) ∉ x := by
  intro x hx
  unfold flds at hx
  rcases List.mem_append.1 hx with hx | hx
  · have hx := List.mem_of_mem_take hx
    simp only [List.mem_cons, List.not_mem_nil, or_false] at hx
    rcases hx with rfl | rfl | rfl <;> exact rS_no _
  · split at hx
    · rw [List.mem_singleton] at hx; subst hx; exact itoa_no (by decide) _
    · cases hx
theorem flds_len (r q a b c m a' b' c' m' : Int) : (flds r q a b c m).length = (flds r q a' b' c' m').length := by
  unfold flds
  split <;> simp
theorem tail_inj (r q a b c m a' b' c' m' : Int) (h : tailL r q a b c m = tailL r q a' b' c' m') : flds r q a b c m = flds r q a' b' c' m' := by
  have hl := flds_len r q a b c m a' b' c' m'
  unfold tailL at h
  split at h
  · rename_i e
    rw [e] at hl
    rw [e, List.eq_nil_of_length_eq_zero hl.symm]
  · rename_i e
    split at h
    · cases h
    · exact join_inj _ _ hl (flds_no _ _ _ _ _ _) (flds_no _ _ _ _ _ _) (List.cons.inj h).2
theorem tail_head (r q a b c m : Int) : tailL r q a b c m = [] ∨ ∃ t, tailL r q a b c m = 32 :: t := by
  unfold tailL; split
  · exact .inl rfl
  · exact .inr ⟨_, rfl⟩
theorem name_cut (n n' t t' : List UInt8) (h : (32 : UInt8) ∉ n) (h' : (32 : UInt8) ∉ n') (ht : t = [] ∨ ∃ s, t = 32 :: s) (ht' : t' = [] ∨ ∃ s, t' = 32 :: s) (e : n ++ t = n' ++ t') : n = n' ∧ t = t' := by
  rcases ht with rfl | ⟨s, rfl⟩ <;> rcases ht' with rfl | ⟨s', rfl⟩
  · simp only [List.append_nil] at e; exact ⟨e, rfl⟩
  · rw [List.append_nil] at e; exact absurd (e ▸ List.mem_append_right _ List.mem_cons_self) h
  · rw [List.append_nil] at e; exact absurd (e ▸ List.mem_append_right _ List.mem_cons_self) h'
  · obtain ⟨e1, e2⟩ := cut_at 32 n n' s s' h h' e
    exact ⟨e1, by rw [e2]⟩
theorem flds_inj (f a b c m a' b' c' m' : Int) (h1 : 1 ≤ f) (h8 : f ≤ 8) (h : ¬ badQ (fR f) a b c) (h' : ¬ badQ (fR f) a' b' c') (k : ¬ (m < fL f ∨ fH f < m)) (k' : ¬ (m' < fL f ∨ fH f < m'))
    (e : flds (fR f) (fB f) a b c m = flds (fR f) (fB f) a' b' c' m') : a = a' ∧ b = b' ∧ c = c' ∧ m = m' := by
  obtain ⟨_, _, _, g1, g2, g3⟩ := good_regs h
  obtain ⟨_, _, _, g1', g2', g3'⟩ := good_regs h'
  obtain rfl | rfl | rfl | rfl | rfl | rfl | rfl | rfl : f = 1 ∨ f = 2 ∨ f = 3 ∨ f = 4 ∨ f = 5 ∨ f = 6 ∨ f = 7 ∨ f = 8 := by omega
  · obtain ⟨e1, e⟩ := List.cons.inj e
    obtain ⟨e2, e⟩ := List.cons.inj e
    obtain ⟨e3, e⟩ := List.cons.inj e
    have k1 : ¬ (m < 0 ∨ 0 < m) := k
    have k2 : ¬ (m' < 0 ∨ 0 < m') := k'
    exact ⟨rS_inj e1, rS_inj e2, rS_inj e3, by omega⟩
  iterate 3
    · obtain ⟨e1, e⟩ := List.cons.inj e
      obtain ⟨e2, e⟩ := List.cons.inj e
      obtain ⟨e3, e⟩ := List.cons.inj e
      exact ⟨rS_inj e1, rS_inj e2, (g3 (by decide)).trans (g3' (by decide)).symm, itoa_inj e3⟩
  iterate 3
    · obtain ⟨e1, e⟩ := List.cons.inj e
      obtain ⟨e2, e⟩ := List.cons.inj e
      exact ⟨rS_inj e1, (g2 (by decide)).trans (g2' (by decide)).symm, (g3 (by decide)).trans (g3' (by decide)).symm, itoa_inj e2⟩
  · have k1 : ¬ (m < 0 ∨ 0 < m) := k
    have k2 : ¬ (m' < 0 ∨ 0 < m') := k'
    exact ⟨(g1 (by decide)).trans (g1' (by decide)).symm, (g2 (by decide)).trans (g2' (by decide)).symm, (g3 (by decide)).trans (g3' (by decide)).symm, by omega⟩
theorem text_one (o a b c m o' a' b' c' m' : Int) (h : encE o a b c m = 0) (h' : encE o' a' b' c' m' = 0) (hs : showS o a b c m = showS o' a' b' c' m') :
    o = o' ∧ a = a' ∧ b = b' ∧ c = c' ∧ m = m' := by
  obtain ⟨f0, f1, f2⟩ := enc_form h
  obtain ⟨g0, g1, g2⟩ := enc_form h'
  obtain ⟨n0, n1⟩ := name_fact o f0
  obtain ⟨n0', n1'⟩ := name_fact o' g0
  have e : showL o a b c m = showL o' a' b' c' m' := by
    have e := congrArg (fun s : ByteArray => s.data.toList) hs
    simpa [showS] using e
  unfold showL at e
  rw [if_pos h, if_pos h'] at e
  obtain ⟨e1, e2⟩ := name_cut _ _ _ _ n1 n1' (tail_head ..) (tail_head ..) e
  have en : opN o = opN o' := by
    apply ByteArray.ext
    exact Array.ext' e1
  have eo : o = o' := by rw [← op_name o n0, en, op_name o' n0']
  subst eo
  have bd := opF_bd o
  obtain ⟨q1, q2, q3, q4⟩ := flds_inj (opF o) a b c m a' b' c' m' (by omega) (by omega) f1 g1 f2 g2 (tail_inj _ _ _ _ _ _ _ _ _ _ e2)
  exact ⟨rfl, q1, q2, q3, q4⟩
end Go.Proofs.YtpjonhcbhgalpaaDoor
