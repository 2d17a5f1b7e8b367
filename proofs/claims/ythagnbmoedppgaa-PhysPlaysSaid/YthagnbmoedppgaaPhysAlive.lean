
/-
  The document's example of chapter 4 stands; and what loads tell behind a store.
-/
import Derived.Test.YthagnbmoedppgaaPhys
namespace Go.Proofs.Ythagnbmoedppgaa
open Go.ChangeShapes Go.WideShapes Go.ChangeAt Go.RowKit
theorem ldv_one (bs : List Int) (o : Nat) (h : o < bs.length) : okc bs.length o 1 ∧ ldv bs o 1 = bs.getD o 0 := by
  have hk : okc bs.length (o : Int) 1 := ⟨by omega, by omega, by unfold fits; omega⟩
  refine ⟨hk, ?_⟩
  unfold ldv; rw [if_pos hk]
  have e := le_down ((bs.drop o).take 1) 0 (by simp; omega)
  rw [List.drop_zero, List.drop_of_length_le (i := 0 + 1) (by simp; omega), getD_drop_take _ _ _ _ (by omega)] at e
  simpa [le] using e
theorem ldv_two (bs : List Int) (o : Nat) (h : o + 2 ≤ bs.length) (h2 : o % 2 = 0) : okc bs.length o 2 ∧ ldv bs o 2 = bs.getD o 0 + 256 * bs.getD (o + 1) 0 := by
  have hk : okc bs.length (o : Int) 2 := ⟨by omega, by omega, by unfold fits; omega⟩
  refine ⟨hk, ?_⟩
  unfold ldv; rw [if_pos hk]
  have e := le_down ((bs.drop o).take 2) 0 (by simp; omega)
  have e1 := le_down ((bs.drop o).take 2) 1 (by simp; omega)
  rw [List.drop_of_length_le (i := 1 + 1) (by simp; omega), getD_drop_take _ _ _ _ (by omega)] at e1
  rw [List.drop_zero, e1, getD_drop_take _ _ _ _ (by omega)] at e
  simpa [le] using e
theorem ldv_four (bs : List Int) (o : Nat) (h : o + 4 ≤ bs.length) (h2 : o % 4 = 0) : okc bs.length o 4 ∧ ldv bs o 4 = bs.getD o 0 + 256 * (bs.getD (o + 1) 0 + 256 * (bs.getD (o + 2) 0 + 256 * bs.getD (o + 3) 0)) := by
  have hk : okc bs.length (o : Int) 4 := ⟨by omega, by omega, by unfold fits; omega⟩
  refine ⟨hk, ?_⟩
  unfold ldv; rw [if_pos hk]
  have e := le_down ((bs.drop o).take 4) 0 (by simp; omega)
  have e1 := le_down ((bs.drop o).take 4) 1 (by simp; omega)
  have e2 := le_down ((bs.drop o).take 4) 2 (by simp; omega)
  have e3 := le_down ((bs.drop o).take 4) 3 (by simp; omega)
  rw [List.drop_of_length_le (i := 3 + 1) (by simp; omega), getD_drop_take _ _ _ _ (by omega)] at e3
  rw [e3, getD_drop_take _ _ _ _ (by omega)] at e2
  rw [e2, getD_drop_take _ _ _ _ (by omega)] at e1
  rw [List.drop_zero, e1, getD_drop_take _ _ _ _ (by omega)] at e
  simpa [le] using e
theorem stv_getD (bs : List Int) (o s : Nat) (v : Int) (hk : okc bs.length o s) (i : Nat) : (stv bs o s v).getD i 0 = if o ≤ i ∧ i < o + s then v / 256 ^ (i - o) % 256 else bs.getD i 0 := by
  unfold stv; rw [if_pos hk]
  exact stN_getD bs o v i s (by have := hk.2.2.2.2; omega)
theorem pg1 : pg 1 * 4096 = 4096 := rfl
theorem alive4_says (w : World) : Calls Try.prog 8 #[] w fun e w' => e = .returned (.bool true) ∧ Below w.heap.size w w' := by
  obtain ⟨b0, hb0⟩ : ∃ b, b = List.replicate (pg 1 * 4096) (0 : Int) := ⟨_, rfl⟩
  have l0 : b0.length = 4096 := by rw [hb0, List.length_replicate]; exact pg1
  obtain ⟨b1, hb1⟩ : ∃ b, b = stv b0 4 4 16909060 := ⟨_, rfl⟩
  have l1 : b1.length = 4096 := by rw [hb1, stv_length, l0]
  have k0 : okc b0.length ((4 : Nat) : Int) ((4 : Nat) : Int) := by rw [l0]; decide
  have k1 : ¬ okc b1.length 5 2 := by rw [l1]; decide
  have k2 : okc b1.length 5 1 := by rw [l1]; decide
  have v2 : ldv b1 5 1 = 3 := by
    have h := (ldv_one b1 5 (by omega)).2
    have h2 := stv_getD b0 4 4 16909060 k0 5
    rw [show ((5 : Nat) : Int) = 5 from rfl] at h
    rw [h, hb1]; exact h2.trans (by rw [if_pos (by omega)]; decide)
  have LL : (b1.length : Int) = 4096 := by rw [l1]; rfl
  have k0' : okc b0.length 4 4 := k0
  have B0 := Lib.hid hb0; have B1 := Lib.hid hb1; clear hb0 hb1 l0 l1 k0
  go_enter Try.func8, Try.ntmps8
  go_wp2_with (first
    | (go_at_call 9; refine (new_says _ _).mono ?_; rintro e w1 ⟨h, g, ⟨rfl, hm, hh, hg, hb⟩⟩; rw [← B0.out] at hm)
    | (go_at_call 12; refine (store_says ‹Mem _ _ _ _ _› _ _ _ (by omega)).mono ?_; rintro e w2 ⟨rfl, hm2, ho⟩; rw [← B1.out] at hm2)
    | (go_at_call 13; go_loud (refine (load_says ‹Mem _ _ _ _ _› _ _ (by omega)).mono ?_; rintro e w' ⟨rfl, rfl⟩))
    | (go_at_call 11; refine (size_says ‹Mem _ _ _ _ _›).mono ?_; rintro e w' ⟨rfl, rfl⟩))
  go_ret
  exact ⟨ret_bool (by simp), hb.trans (ho.below (by omega))⟩
/-- A slice of bytes of the call's own: nil, or a row's head. -/
def Own8 (B : Nat) (w : World) (p : Option Addr) (xs : List Int) : Prop :=
  (p = none ∧ xs = []) ∨ ∃ g cur, p = some ⟨g, 0, none⟩ ∧ B ≤ g ∧ w.heap[g]? = some (.cells cur 5 (0, 0)) ∧ xs.length ≤ cur.size ∧ cur.toList.take xs.length = u8L xs
/-- What Get answers, in one shape. -/
def GetQ (xs : List Int) (w : World) (e : Ending) (w' : World) : Prop :=
  ∃ p c, e = .returned (.slice p xs.length c) ∧ Own8 w.heap.size w' p xs ∧ Below w.heap.size w w'
theorem getQ {xs : List Int} {w w' : World} {e : Ending} (h : GetP xs w e w') : GetQ xs w e w' := by
  obtain ⟨v, rfl, ⟨-, ⟨rfl, hn⟩ | ⟨g, cap, cur, rfl, hb, hg, hn, -, hs, htk⟩⟩, hgr⟩ := h
  · obtain rfl := List.eq_nil_of_length_eq_zero hn
    exact ⟨none, 0, rfl, .inl ⟨rfl, rfl⟩, (Below.refl _ _).grown hgr (Nat.le_refl _) (by simp)⟩
  · exact ⟨_, cap, rfl, .inr ⟨g, cur, rfl, hb, hg, by rw [hs]; omega, by simpa using htk⟩, (Below.refl _ _).grown hgr (Nat.le_refl _) (by simp)⟩
theorem Own8.src {B : Nat} {w : World} {p : Option Addr} {xs : List Int} (h : Own8 B w p xs) (hx : Byt xs) : Src8 w p xs := by
  refine ⟨hx, fun hp => ?_⟩
  rcases h with ⟨rfl, rfl⟩ | ⟨g, cur, rfl, -, hg, hle, htk⟩
  · simp at hp
  · refine ⟨_, rfl, fun j u hu => ?_⟩
    rw [Addr.add_lit, Nat.zero_add, cell_of_row w g j _ _ _ hg]
    rw [← htk, List.getElem?_take] at hu
    split at hu
    · simpa using hu
    · simp at hu
/-- Two slices of bytes that are written out where they are used. -/
theorem Src8.made (w : World) (xs : List Int) (hx : Byt xs) : Src8 (w.alloc (.cells (u8L xs).toArray 5)) (some ⟨w.heap.size, 0, none⟩) xs := by
  refine ⟨hx, fun _ => ⟨_, rfl, fun j u hu => ?_⟩⟩
  rw [Addr.add_lit, Nat.zero_add, cell_of_row _ w.heap.size j _ _ _ (by rw [heap_alloc_new])]
  simpa using hu
theorem Mem.alloc {t : TypeId} {w : World} {h g : Nat} {bs : List Int} (hm : Mem t w h g bs) (o : Obj) : Mem t (w.alloc o) h g bs :=
  hm.grow ((Below.refl _ _).alloc (Nat.le_refl _) o)
def PutQ (t : TypeId) (h g : Nat) (bs : List Int) (a : Int) (n : Nat) (xs : List Int) (w : World) (e : Ending) (w' : World) : Prop :=
  e = .returned (.bool (decide (fits bs.length a n))) ∧ Mem t w' h g (putL bs a xs) ∧ Only g w w'
theorem putQ {t : TypeId} {h g : Nat} {bs : List Int} {a : Int} {n : Nat} {xs : List Int} {w : World} {e : Ending} {w' : World} (hx : xs.length = n) (hp : PutP t h g bs a xs w e w') : PutQ t h g bs a n xs w e w' := by
  subst hx; exact hp
end Go.Proofs.Ythagnbmoedppgaa
