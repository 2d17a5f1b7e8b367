
/-
  The law's One, num, alive.
-/
import Derived.Test.YtlddclkophajbaaCfgG
import Derived.Test.YtlddclkophajbaaCfgT
set_option maxRecDepth 100000
set_option linter.unusedVariables false
namespace Go.Proofs.Ytlddclkophajbaa.Cfg
open Go.Proofs.Ytlddclkophajbaa
open Go.ChangeShapes Go.WideShapes Go.ChangeAt Go.RowKit
/-- A row of structs that was laid in a new block. -/
theorem ownS_new (E : TypeId) (st : Nat) (w : World) (B : Nat) (hB : B ≤ w.heap.size) (vs : List (List Value)) (he : Even st vs) (hn : vs.length ≤ 1000) : OwnS E st (w.alloc (.cells vs.flatten.toArray E)) B (.slice (some ⟨w.heap.size, 0, none⟩) vs.length vs.length) vs := by
  refine ⟨he.flat, .inr ⟨w.heap.size, vs.length, vs.flatten.toArray, rfl, hB, heap_alloc_new _ _, Nat.le_refl _, by unfold maxLen; omega, ?_, ?_⟩⟩
  · simp only [List.size_toArray]; rw [he.flat]
  · have := he.flat
    rw [← this]
    show vs.flatten.take vs.flatten.length = vs.flatten
    exact List.take_length
def oneC : Cf := ⟨5, 10, 0, [⟨⟨#[97]⟩, 1, 0⟩], [], [⟨0, 10, 0⟩]⟩
theorem okN_a : okN ⟨#[97]⟩ := ⟨by decide, by decide, fun k h => by
  have hk : k = 0 := by have : (ByteArray.mk #[97]).size = 1 := rfl; omega
  subst hk; have e : (ByteArray.mk #[97])[0].toNat = 97 := rfl; rw [e]; exact .inl ⟨by decide, by decide⟩⟩
theorem one_ok : chk oneC = 0 := by
  have g1 : hostOk oneC := by unfold hostOk oneC; decide
  have g2 : partsOk oneC.parts := ⟨by decide, fun k p hk => by
    match k, hk with
    | 0, hk => injection hk with hk; subst hk; exact ⟨okN_a, by decide, fun j q hj => by omega⟩
    | k + 1, hk => simp [oneC] at hk⟩
  have g3 : memOk oneC.pages oneC.parts := ⟨fun k p hk => by
    match k, hk with
    | 0, hk => injection hk with hk; subst hk; decide
    | k + 1, hk => simp [oneC] at hk, by decide⟩
  have g4 : chansOk oneC.parts.length oneC.chans := ⟨by decide, fun k p hk => by simp [oneC] at hk⟩
  have g5 : planOk oneC := ⟨by decide, by decide, by decide, fun k p hk => by
    match k, hk with
    | 0, hk => injection hk with hk; subst hk; exact ⟨by decide, by decide, by decide, by decide⟩
    | k + 1, hk => simp [oneC] at hk⟩
  show chkB _ _ _ _ _ = 0
  simp [chkB, g1, g2, g3, g4, g5]
theorem one_wf : Wf oneC := ⟨by decide, by decide, by decide, ⟨fun k p hk => by
    match k, hk with
    | 0, hk => injection hk with hk; subst hk; exact ⟨by decide, by decide⟩
    | k + 1, hk => simp [oneC] at hk, fun k p hk => by
    match k, hk with
    | 0, hk => injection hk with hk; subst hk; exact ⟨by decide, by decide⟩
    | k + 1, hk => simp [oneC] at hk⟩, by decide⟩
/-- One tells a configuration whose rows are the call's own. -/
def OneR (w : World) (e : Ending) (w' : World) : Prop := ∃ g1 g3, e = .returned (.agg #[i64 5, i64 10, i64 0, .slice (some ⟨g1, 0, none⟩) 1 1, .slice none 0 0, .slice (some ⟨g3, 0, none⟩) 1 1]) ∧ g1 ≠ g3 ∧ Below w.heap.size w w' ∧
  OwnS 38 3 w' w.heap.size (.slice (some ⟨g1, 0, none⟩) 1 1) (oneC.parts.map ptC) ∧ OwnS 41 3 w' w.heap.size (.slice (some ⟨g3, 0, none⟩) 1 1) (oneC.wins.map wnC)
theorem one_says (w : World) : Calls Try.prog 16 #[] w (OneR w) := by
  obtain ⟨r, hr⟩ : ∃ r, r = OneR w := ⟨_, rfl⟩
  rw [← hr]
  go_enter Try.func16, Try.ntmps16
  go_wp2
  obtain ⟨wa, hwa⟩ : ∃ wa, wa = w.alloc (.cells #[i64 5, i64 10, i64 0, .slice (some ⟨w.heap.size + 1, 0, none⟩) 1 1, .slice none 0 0, .slice (some ⟨w.heap.size + 1 + 1, 0, none⟩) 1 1] 26) := ⟨_, rfl⟩
  obtain ⟨wb, hwb⟩ : ∃ wb, wb = wa.alloc (.cells #[.string ⟨#[97]⟩, i64 1, i64 0] 38) := ⟨_, rfl⟩
  obtain ⟨wc, hwc⟩ : ∃ wc, wc = wb.alloc (.cells #[i64 0, i64 10, i64 0] 41) := ⟨_, rfl⟩
  rw [← hwa, ← hwb, ← hwc]
  have sa : wa.heap.size = w.heap.size + 1 := by rw [hwa]; simp
  have sb : wb.heap.size = w.heap.size + 1 + 1 := by rw [hwb]; simp [sa]
  have hbl : Below wa.heap.size wa wc := by rw [hwc, hwb]; exact (below_alloc _ _).alloc (by simp) _
  have hbl2 : Below wb.heap.size wb wc := by rw [hwc]; exact below_alloc _ _
  have Z : ∀ (k : Nat) (v : Value), [i64 5, i64 10, i64 0, Value.slice (some ⟨w.heap.size + 1, 0, none⟩) 1 1, .slice none 0 0, .slice (some ⟨w.heap.size + 1 + 1, 0, none⟩) 1 1][k]? = some v → wc.cell? ⟨w.heap.size, k, none⟩ = some v := fun k v hv => by
    rw [World.cell?_of_block (hbl.block w.heap.size (by omega)), hwa, cell_of_row _ _ k _ _ _ (heap_alloc_new _ _), ← Array.getElem?_toList]; exact hv
  have c0 := Z 0 _ rfl
  have c1 := Z 1 _ rfl
  have c2 := Z 2 _ rfl
  have c3 := Z 3 _ rfl
  have c4 := Z 4 _ rfl
  have c5 := Z 5 _ rfl
  refine bodyPost_ret (v := .agg #[i64 5, i64 10, i64 0, .slice (some ⟨w.heap.size + 1, 0, none⟩) 1 1, .slice none 0 0, .slice (some ⟨w.heap.size + 1 + 1, 0, none⟩) 1 1]) (by simp [results, Try.results16, go_sem, c0, c1, c2, c3, c4, c5]) rfl ?_
  rw [hr]
  refine ⟨_, _, rfl, by omega, ?_, ?_, ?_⟩
  · exact (show Below w.heap.size w wa by rw [hwa]; exact below_alloc _ _).trans (hbl.mono (by omega))
  · have h1 := ownS_new 38 3 wa w.heap.size (by omega) (oneC.parts.map ptC) (even_pt _) (by decide)
    rw [sa] at h1
    have h2 : OwnS 38 3 wb w.heap.size (.slice (some ⟨w.heap.size + 1, 0, none⟩) 1 1) (oneC.parts.map ptC) := by rw [hwb]; exact h1
    exact ownS_below h2 hbl2
  · have h1 := ownS_new 41 3 wb w.heap.size (by omega) (oneC.wins.map wnC) (even_wn _) (by decide)
    rw [sb] at h1
    rw [hwc]; exact h1
end Go.Proofs.Ytlddclkophajbaa.Cfg
