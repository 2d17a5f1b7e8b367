
/-
  The document's example of chapter 4 stands; and what loads tell behind a store.
-/
import Derived.Test.YtfodhmgbifeodaaPhys
namespace Go.Proofs.Ytfodhmgbifeodaa
open Go.ChangeShapes Go.WideShapes Go.ChangeAt Go.RowKit
theorem ldv_one (bs : List Int) (o : Nat) (h : o < bs.length) : okc bs.length o 1 ∧ ldv bs o 1 = bs.getD o 0 := by
  have hk : okc bs.length (o : Int) 1 := ⟨by omega, by omega, by unfold fitm; omega⟩
  refine ⟨hk, ?_⟩
  unfold ldv; rw [if_pos hk]
  have e := le_down ((bs.drop o).take 1) 0 (by simp; omega)
  rw [List.drop_zero, List.drop_of_length_le (i := 0 + 1) (by simp; omega), getD_drop_take _ _ _ _ (by omega)] at e
  simpa [lev] using e
theorem ldv_two (bs : List Int) (o : Nat) (h : o + 2 ≤ bs.length) (h2 : o % 2 = 0) : okc bs.length o 2 ∧ ldv bs o 2 = bs.getD o 0 + 256 * bs.getD (o + 1) 0 := by
  have hk : okc bs.length (o : Int) 2 := ⟨by omega, by omega, by unfold fitm; omega⟩
  refine ⟨hk, ?_⟩
  unfold ldv; rw [if_pos hk]
  have e := le_down ((bs.drop o).take 2) 0 (by simp; omega)
  have e1 := le_down ((bs.drop o).take 2) 1 (by simp; omega)
  rw [List.drop_of_length_le (i := 1 + 1) (by simp; omega), getD_drop_take _ _ _ _ (by omega)] at e1
  rw [List.drop_zero, e1, getD_drop_take _ _ _ _ (by omega)] at e
  simpa [lev] using e
theorem ldv_four (bs : List Int) (o : Nat) (h : o + 4 ≤ bs.length) (h2 : o % 4 = 0) : okc bs.length o 4 ∧ ldv bs o 4 = bs.getD o 0 + 256 * (bs.getD (o + 1) 0 + 256 * (bs.getD (o + 2) 0 + 256 * bs.getD (o + 3) 0)) := by
  have hk : okc bs.length (o : Int) 4 := ⟨by omega, by omega, by unfold fitm; omega⟩
  refine ⟨hk, ?_⟩
  unfold ldv; rw [if_pos hk]
  have e := le_down ((bs.drop o).take 4) 0 (by simp; omega)
  have e1 := le_down ((bs.drop o).take 4) 1 (by simp; omega)
  have e2 := le_down ((bs.drop o).take 4) 2 (by simp; omega)
  have e3 := le_down ((bs.drop o).take 4) 3 (by simp; omega)
  rw [List.drop_of_length_le (i := 3 + 1) (by simp; omega), getD_drop_take _ _ _ _ (by omega)] at e3
  rw [e3, getD_drop_take _ _ _ _ (by omega)] at e2
  rw [e2, getD_drop_take _ _ _ _ (by omega)] at e1
  rw [List.drop_zero, e1, getD_drop_take _ _ _ _ (by omega)] at e
  simpa [lev] using e
theorem stv_getD (bs : List Int) (o s : Nat) (v : Int) (hk : okc bs.length o s) (i : Nat) : (stv bs o s v).getD i 0 = if o ≤ i ∧ i < o + s then v / 256 ^ (i - o) % 256 else bs.getD i 0 := by
  unfold stv; rw [if_pos hk]
  exact stN_getD bs o v i s (by have := hk.2.2.2.2; omega)
theorem pg1 : pg 1 * 4096 = 4096 := rfl
/-- A slice of bytes of the call's own: nil, or a row's head. -/
def Own8 (B : Nat) (w : World) (p : Option Addr) (xs : List Int) : Prop :=
  (p = none ∧ xs = []) ∨ ∃ g cur, p = some ⟨g, 0, none⟩ ∧ B ≤ g ∧ w.heap[g]? = some (.cells cur 5 (0, 0)) ∧ xs.length ≤ cur.size ∧ cur.toList.take xs.length = u8L xs
/-- What Get answers, in one shape. -/
def GetQ (xs : List Int) (w : World) (e : Ending) (w' : World) : Prop :=
  ∃ p c, e = .returned (.slice p xs.length c) ∧ Own8 w.heap.size w' p xs ∧ Below w.heap.size w w'
theorem getQ {xs : List Int} {w w' : World} {e : Ending} (h : GetP xs w e w') : GetQ xs w e w' := by
  obtain ⟨v, rfl, ⟨-, ⟨rfl, hn⟩ | ⟨g, cap, cur, rfl, hb, hg, hn, -, hs, htk⟩⟩, hgr⟩ := h
  · obtain rfl := List.eq_nil_of_length_eq_zero hn
    exact ⟨none, 0, rfl, .inl ⟨rfl, rfl⟩, (Below.refl _ _).grown hgr (Nat.le_refl _) (by simp)⟩
  · exact ⟨_, cap, rfl, .inr ⟨g, cur, rfl, hb, hg, by rw [hs]; omega, by simpa using htk⟩, (Below.refl _ _).grown hgr (Nat.le_refl _) (by simp)⟩
theorem Own8.src {B : Nat} {w : World} {p : Option Addr} {xs : List Int} (h : Own8 B w p xs) (hx : Byt xs) : Src8 w p xs := by
  refine ⟨hx, fun hp => ?_⟩
  rcases h with ⟨rfl, rfl⟩ | ⟨g, cur, rfl, -, hg, hle, htk⟩
  · simp at hp
  · refine ⟨_, rfl, fun j u hu => ?_⟩
    rw [Addr.add_lit, Nat.zero_add, cell_of_row w g j _ _ _ hg]
    rw [← htk, List.getElem?_take] at hu
    split at hu
    · simpa using hu
    · simp at hu
/-- Two slices of bytes that are written out where they are used. -/
theorem Src8.made (w : World) (xs : List Int) (hx : Byt xs) : Src8 (w.alloc (.cells (u8L xs).toArray 5)) (some ⟨w.heap.size, 0, none⟩) xs := by
  refine ⟨hx, fun _ => ⟨_, rfl, fun j u hu => ?_⟩⟩
  rw [Addr.add_lit, Nat.zero_add, cell_of_row _ w.heap.size j _ _ _ (by rw [heap_alloc_new])]
  simpa using hu
theorem Mem.alloc {t : TypeId} {w : World} {h g : Nat} {bs : List Int} (hm : Mem t w h g bs) (o : Obj) : Mem t (w.alloc o) h g bs :=
  hm.grow ((Below.refl _ _).alloc (Nat.le_refl _) o)
def PutQ (t : TypeId) (h g : Nat) (bs : List Int) (a : Int) (n : Nat) (xs : List Int) (w : World) (e : Ending) (w' : World) : Prop :=
  e = .returned (.bool (decide (fitm bs.length a n))) ∧ Mem t w' h g (putL bs a xs) ∧ Only g w w'
theorem putQ {t : TypeId} {h g : Nat} {bs : List Int} {a : Int} {n : Nat} {xs : List Int} {w : World} {e : Ending} {w' : World} (hx : xs.length = n) (hp : PutP t h g bs a xs w e w') : PutQ t h g bs a n xs w e w' := by
  subst hx; exact hp
end Go.Proofs.Ytfodhmgbifeodaa
