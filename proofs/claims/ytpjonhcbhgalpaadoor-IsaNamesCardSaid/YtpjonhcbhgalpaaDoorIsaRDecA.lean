
/-
  The contract of the document's own answer Decode.
-/
import Derived.Test.YtpjonhcbhgalpaaDoorIsaREnc
import Derived.Test.YtpjonhcbhgalpaaDoorIsaDec
namespace Go.Proofs.YtpjonhcbhgalpaaDoor
open Go.ChangeShapes Go.WideShapes Go.ChangeAt Go.RowKit
/-- What is found when the fields r1 .. r4 are taken for x. -/
def Found (x r1 r2 r3 r4 : Int) : Prop :=
  (decV x = .tuple #[insV (x / 16777216) r1 r2 r3 r4, i64 0] ∧ (encE (x / 16777216) r1 r2 r3 r4 != 0) = false ∧ (encW (x / 16777216) r1 r2 r3 r4 != x) = false) ∨
  (decV x = .tuple #[insV 0 0 0 0 0, i64 5] ∧ (encE (x / 16777216) r1 r2 r3 r4 != 0) = true) ∨
  (decV x = .tuple #[insV 0 0 0 0 0, i64 5] ∧ (encE (x / 16777216) r1 r2 r3 r4 != 0) = false ∧ (encW (x / 16777216) r1 r2 r3 r4 != x) = true)
theorem found_same (x r1 r2 r3 r4 : Int) (h1 : r1 = dA x) (h2 : r2 = dB x) (h3 : r3 = dC x) (h4 : r4 = dM x) : Found x r1 r2 r3 r4 := by
  subst h1 h2 h3 h4
  have e0 : x / 16777216 = dO x := rfl
  unfold Found
  rw [e0]
  by_cases hd : decOk x
  · exact .inl ⟨decV_yes hd, by simpa using hd.1, by simpa using hd.2⟩
  · by_cases hE : encE (dO x) (dA x) (dB x) (dC x) (dM x) = 0
    · exact .inr (.inr ⟨decV_no hd, by simpa using hE, by simpa using fun h => hd ⟨hE, h⟩⟩)
    · exact .inr (.inl ⟨decV_no hd, by simpa using hE⟩)
theorem found_none (x r1 r2 r3 r4 : Int) (h : dF x = 0) : Found x r1 r2 r3 r4 := by
  have e := (enc_none (x / 16777216) r1 r2 r3 r4 h).1
  exact .inr (.inl ⟨decV_no (dec_none x h), by rw [e]; rfl⟩)
theorem found_bare (x r1 : Int) (h : dF x = 8) (hr : r1 = x / 1048576 % 16) : Found x r1 0 0 0 := by
  have hA : dA x = 0 := by unfold dA; rw [h]; rfl
  have hB : dB x = 0 := by unfold dB; rw [h]; rfl
  have hC : dC x = 0 := by unfold dC; rw [h]; rfl
  have hM : dM x = 0 := by unfold dM; rw [h]; exact bt_m1 x
  by_cases h0 : r1 = 0
  · exact found_same x r1 0 0 0 (h0.trans hA.symm) hB.symm hC.symm hM.symm
  · have hq : badQ (fR (dF x)) r1 0 0 := by rw [h]; show badQ 0 r1 0 0; unfold badQ; omega
    have e := (enc_bad (x / 16777216) r1 0 0 0 (by show dF x ≠ 0; omega) hq).1
    have hd : ¬ decOk x := by
      intro hd
      have hw := hd.2
      have he := hd.1
      rw [hA, hB, hC, hM] at hw he
      have hw2 : encW (dO x) 0 0 0 0 = dO x * 16777216 + 0 * 1048576 + 0 * 65536 + 0 * 4096 + 0 % 2 ^ (fB (opF (dO x))).toNat := by unfold encW; rw [if_pos he]
      have e8 : fB (opF (dO x)) = 0 := by show fB (dF x) = 0; rw [h]; rfl
      rw [e8] at hw2
      have hw3 : dO x * 16777216 = x := by rw [hw] at hw2; have e9 : (0 : Int) % 2 ^ (0 : Int).toNat = 0 := rfl; rw [e9] at hw2; omega
      unfold dO at hw3
      omega
    exact .inr (.inl ⟨decV_no hd, by rw [e]; rfl⟩)
theorem four (y : Int) : bits .and .i64 y 15 = y % 16 := i64_mask y 4 (by decide)
end Go.Proofs.YtpjonhcbhgalpaaDoor
