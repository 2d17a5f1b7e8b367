/-
  Plain: an image's bytes (no program in sight).
-/
import Derived.Test.YtogbhgbnminpdaaDoorJnNum
set_option linter.unusedVariables false
set_option maxRecDepth 100000
set_option linter.unusedVariables false
namespace Go.Proofs.YtogbhgbnminpdaaDoor.Img
open Go.Proofs.YtogbhgbnminpdaaDoor
/-- A number as four bytes, the lowest first. -/
def four (n : Int) : List Int := [n % 256, n / 256 % 256, n / 65536 % 256, n / 16777216 % 256]
/-- What Check tells. -/
def chk (e : Int) (n : Nat) : Int := if 0 ≤ e ∧ e ≤ 4294967295 ∧ e % 4 = 0 then (if n ≤ 1048576 then 0 else 2) else 14
/-- The bytes ahead of the sum. -/
def headL (e : Int) (xs : List Int) : List Int := [84, 82, 85, 49] ++ four e ++ four (xs.length : Int) ++ xs
/-- The bytes of an image. -/
def packL (e : Int) (xs : List Int) : List Int := headL e xs ++ four (headL e xs).sum
/-- The number of the four bytes at a place. -/
def num4 (b : List Int) (k : Nat) : Int := lev ((b.drop k).take 4)
/-- The bytes between. -/
def mid (b : List Int) : List Int := (b.drop 12).take (b.length - 16)
/-- Whether bytes are those of an image. -/
def good (b : List Int) : Prop := 16 ≤ b.length ∧ chk (num4 b 4) (b.length - 16) = 0 ∧ packL (num4 b 4) (mid b) = b
theorem four_len (n : Int) : (four n).length = 4 := rfl
theorem head_len (e : Int) (xs : List Int) : (headL e xs).length = 12 + xs.length := by simp [headL, four_len]; omega
theorem pack_len (e : Int) (xs : List Int) : (packL e xs).length = 16 + xs.length := by simp [packL, head_len, four_len]; omega
theorem mid_len (b : List Int) : (mid b).length = b.length - 16 := by simp [mid]; omega
theorem byt_append {a b : List Int} (ha : Byt a) (hb : Byt b) : Byt (a ++ b) := by
  intro x hx
  rcases List.mem_append.1 hx with h | h
  · exact ha x h
  · exact hb x h
theorem four_byt (n : Int) : Byt (four n) := by
  intro x hx
  simp only [four, List.mem_cons, List.mem_nil_iff, or_false] at hx
  rcases hx with rfl | rfl | rfl | rfl <;> omega
theorem head_byt (e : Int) {xs : List Int} (h : Byt xs) : Byt (headL e xs) := by
  unfold headL
  refine byt_append (byt_append (byt_append ?_ (four_byt _)) (four_byt _)) h
  intro x hx
  simp only [List.mem_cons, List.mem_nil_iff, or_false] at hx
  rcases hx with rfl | rfl | rfl | rfl <;> omega
theorem pack_byt (e : Int) {xs : List Int} (h : Byt xs) : Byt (packL e xs) := byt_append (head_byt e h) (four_byt _)
theorem sum_bd : ∀ (xs : List Int), Byt xs → 0 ≤ xs.sum ∧ xs.sum ≤ 255 * (xs.length : Int)
  | [], _ => by simp
  | b :: r, h => by
    have h1 := h b (by simp)
    have h2 := sum_bd r (fun x hx => h x (by simp [hx]))
    simp only [List.sum_cons, List.length_cons]; omega
theorem sum_take_succ (xs : List Int) (k : Nat) (h : k < xs.length) : (xs.take (k + 1)).sum = (xs.take k).sum + xs.getD k 0 := by
  rw [List.take_succ_eq_append_getElem h, List.sum_append]
  simp [List.getElem?_eq_getElem h]
theorem sum_take_le {xs : List Int} (h : Byt xs) (k : Nat) : 0 ≤ (xs.take k).sum ∧ (xs.take k).sum ≤ 255 * (xs.length : Int) := by
  have h1 := sum_bd (xs.take k) (byt_take h k)
  have h2 : (xs.take k).length ≤ xs.length := by rw [List.length_take]; omega
  omega
theorem lev_four (n : Int) (h0 : 0 ≤ n) (h1 : n ≤ 4294967295) : lev (four n) = n := by
  simp only [four, lev]; omega
theorem four_inj {a b : Int} (ha : 0 ≤ a) (ha' : a ≤ 4294967295) (hb : 0 ≤ b) (hb' : b ≤ 4294967295) (h : four a = four b) : a = b := by
  rw [← lev_four a ha ha', ← lev_four b hb hb', h]
theorem num4_bd {b : List Int} (h : Byt b) (k : Nat) : 0 ≤ num4 b k ∧ num4 b k ≤ 4294967295 := by
  have h1 := lev_bd _ (byt_take (byt_drop h k) 4)
  have h2 : ((b.drop k).take 4).length ≤ 4 := by rw [List.length_take]; omega
  have h3 : (256 : Int) ^ ((b.drop k).take 4).length ≤ 256 ^ 4 := by exact_mod_cast Nat.pow_le_pow_right (by decide) h2
  unfold num4; omega
theorem num4_pack (e : Int) (xs : List Int) (h0 : 0 ≤ e) (h1 : e ≤ 4294967295) : num4 (packL e xs) 4 = e := by
  have : ((packL e xs).drop 4).take 4 = four e := by simp [packL, headL, four]
  unfold num4; rw [this, lev_four e h0 h1]
theorem mid_pack (e : Int) (xs : List Int) : mid (packL e xs) = xs := by
  unfold mid
  rw [pack_len, show 16 + xs.length - 16 = xs.length by omega]
  simp [packL, headL, four]
theorem chk_of {e : Int} {n : Nat} (h : chk e n = 0) : 0 ≤ e ∧ e ≤ 4294967295 ∧ e % 4 = 0 ∧ n ≤ 1048576 := by
  unfold chk at h
  split at h
  · rename_i h1
    split at h
    · exact ⟨h1.1, h1.2.1, h1.2.2, by assumption⟩
    · simp at h
  · simp at h
theorem good_pack {e : Int} {xs : List Int} (h : chk e xs.length = 0) : good (packL e xs) := by
  obtain ⟨h0, h1, -, -⟩ := chk_of h
  refine ⟨by rw [pack_len]; omega, ?_, ?_⟩
  · rw [num4_pack e xs h0 h1, pack_len, show 16 + xs.length - 16 = xs.length by omega]; exact h
  · rw [num4_pack e xs h0 h1, mid_pack]
/-- One byte turned: no image. -/
theorem good_turn {e : Int} {xs : List Int} (hx : Byt xs) (hl : xs.length ≤ 10000000) (k : Nat) (hk : k < (packL e xs).length) (v : Int) (hv : 0 ≤ v ∧ v < 256) (hne : v ≠ (packL e xs).getD k 0) : ¬ good ((packL e xs).set k v) := by
  rintro ⟨-, -, h3⟩
  obtain ⟨e', he'⟩ : ∃ e', num4 ((packL e xs).set k v) 4 = e' := ⟨_, rfl⟩
  obtain ⟨ys, hys⟩ : ∃ ys, mid ((packL e xs).set k v) = ys := ⟨_, rfl⟩
  rw [he', hys] at h3
  have hyb : Byt ys := by
    rw [← hys]; exact byt_take (byt_drop (byt_set (pack_byt e hx) k v hv) _) _
  have hyl : ys.length = xs.length := by rw [← hys, mid_len, List.length_set, pack_len]; omega
  have s1 := sum_bd _ (head_byt e hx)
  have s2 := sum_bd _ (head_byt e' hyb)
  have l1 := head_len e xs
  have l2 := head_len e' ys
  rw [pack_len] at hk
  unfold packL at h3 hne
  by_cases h : k < (headL e xs).length
  · rw [List.set_append_left _ _ h] at h3
    obtain ⟨h4, h5⟩ := List.append_inj h3 (by rw [List.length_set]; omega)
    have h6 := four_inj s2.1 (by omega) s1.1 (by omega) h5
    rw [h4] at h6
    have h7 : ((headL e xs).set k v).sum = (headL e xs).sum - (headL e xs).getD k 0 + v := by
      have : ∀ (l : List Int) (k : Nat), k < l.length → (l.set k v).sum = l.sum - l.getD k 0 + v := by
        intro l
        induction l with
        | nil => intro k hk; simp at hk
        | cons b r ih =>
          intro k hk
          cases k with
          | zero => simp; omega
          | succ k => simp only [List.set_cons_succ, List.sum_cons, List.getD_cons_succ]; rw [ih k (by simpa using hk)]; omega
      exact this _ _ h
    rw [h7] at h6
    apply hne
    rw [show (headL e xs ++ four (headL e xs).sum).getD k 0 = (headL e xs).getD k 0 by simp only [List.getD_eq_getElem?_getD, List.getElem?_append_left h]]
    omega
  · rw [List.set_append_right _ _ (by omega)] at h3
    obtain ⟨h4, h5⟩ := List.append_inj h3 (by omega)
    rw [h4] at h5
    apply hne
    have h6 : (four (headL e xs).sum)[k - (headL e xs).length]? = ((four (headL e xs).sum).set (k - (headL e xs).length) v)[k - (headL e xs).length]? := by rw [← h5]
    rw [List.getElem?_set_self (by rw [four_len]; omega)] at h6
    rw [List.getD_eq_getElem?_getD, List.getElem?_append_right (by omega), h6]; rfl
end Go.Proofs.YtogbhgbnminpdaaDoor.Img
