/-
  Plain: single steps of a machine that has just begun: a word that is none, an ecall, a wfi. No program in sight.
-/
import Derived.Test.YtfcmodllbhpniaaGreatDoorJnMind
set_option linter.unusedVariables false
set_option maxRecDepth 100000
namespace Go.Proofs.YtfcmodllbhpniaaGreatDoor
open Go.RowKit
/-- A machine at its beginning, t steps of time gone. -/
abbrev beg (R M tx : List Int) (t : Int) (halt stuck : Bool) : Ma := ⟨R, 0, [4, 0, 0, 0, 0, 0, 0, t, 0, 0, 0], M, [], tx, halt, stuck⟩
theorem beg_find (R M tx : List Int) (t : Int) : (beg R M tx t false false).find 0 4 0 = (0, 0) := by
  unfold Ma.find
  rw [if_neg (by decide)]
  unfold walkV
  rw [if_pos (by show (0 : Int) / 2147483648 % 2 = 0; decide)]
  rfl
theorem ok4 {L : Nat} (h : L = 4096) : okc L 0 4 := by subst h; decide
theorem beg_fetch {R M tx : List Int} {t : Int} (hM : M.length = 4096) :
    (beg R M tx t false false).fetch = if ¬ decOk (lev (M.take 4)) then .no 1 (lev (M.take 4)) else .yes (lev (M.take 4)) := by
  have hf := beg_find R M tx t
  have hl : ldv M 0 4 = lev (M.take 4) := by unfold ldv; rw [if_pos (ok4 hM)]; rfl
  have hu : (beg R M tx t false false).us = false := rfl
  unfold Ma.fetch
  show (if ((beg R M tx t false false).find 0 4 0).2 ≠ 0 then _ else _) = _
  rw [hf, if_neg (by decide)]
  show (if ¬ okc M.length 0 4 then _ else _) = _
  rw [if_neg (by simpa using ok4 hM)]
  show (if ¬ decOk (ldv M 0 4) then Did.no 1 (ldv M 0 4) else _) = _
  rw [hl]
  by_cases hd : decOk (lev (M.take 4))
  · simp [hd, hu]
  · simp [hd]
theorem beg_pend (R M tx : List Int) (t : Int) (a b : Bool) : (beg R M tx t a b).pend 0 = 0 := by
  show pnd t 0 0 0 = 0
  unfold pnd
  rw [if_neg (fun h => h.1 rfl)]
  rfl
theorem beg_set9 (R M tx : List Int) (t : Int) (a b : Bool) : (beg R M tx t a b).setC 9 0 = beg R M tx t a b := rfl
theorem beg_take (R M tx : List Int) (t : Int) (a b : Bool) : tkb ((beg R M tx t a b).c 0) (bits .and .i64 ((beg R M tx t a b).c 9) ((beg R M tx t a b).c 10)) = false := by
  show tkb 4 (bits .and .i64 0 0) = false
  decide
theorem beg_step (R M tx : List Int) (t : Int) : (beg R M tx t false false).step 0 4294967295 = (match (beg R M tx t false false).one 4294967295 with | .no x y => (beg R M tx t false false).trap x y | .yes m' => m').tick := by
  unfold Ma.step
  rw [if_neg (by show ¬ (false || false) = true; decide), beg_pend, beg_set9]
  unfold Ma.act
  rw [if_neg (by rw [beg_take]; decide)]
  rfl
theorem beg_stuck {R M tx : List Int} (hM : M.length = 4096) (hd : ¬ decOk (lev (M.take 4))) : (beg R M tx 0 false false).step 0 4294967295 = beg R M tx 1 false true := by
  rw [beg_step]
  unfold Ma.one
  rw [beg_fetch hM, if_pos hd]
  show ((beg R M tx 0 false false).trap 1 (lev (M.take 4))).tick = _
  unfold Ma.trap
  rw [if_pos ⟨by decide, rfl, rfl⟩]
  rfl
theorem dec64 : decOk 1073741824 ∧ gO 1073741824 = 64 := by decide
theorem dec66 : decOk 1107296256 ∧ gO 1107296256 = 66 := by decide
theorem one_yes {m : Ma} {v : Int} (h : m.fetch = .yes v) (ask : Int) : m.one ask = m.exec ask (gO v) (gA v) (gB v) (gC v) (gM v) := by unfold Ma.one; rw [h]
theorem beg_us (R M tx : List Int) (t : Int) (a b : Bool) : ¬ (beg R M tx t a b).us = true := fun h => Bool.noConfusion ((show (beg R M tx t a b).us = false from rfl).symm.trans h)
theorem beg_halt {R M tx : List Int} (hM : M.length = 4096) (hv : lev (M.take 4) = 1073741824) (hR : R.getD 1 0 = 0) : (beg R M tx 0 false false).step 0 4294967295 = beg R M tx 1 true false := by
  have hf : (beg R M tx 0 false false).fetch = .yes 1073741824 := by rw [beg_fetch hM, hv]; simp [dec64.1]
  have he : (beg R M tx 0 false false).one 4294967295 = .yes (beg R M tx 0 true false) := by
    rw [one_yes hf, dec64.2]
    unfold Ma.exec
    rw [if_neg (by decide), if_neg (by decide), if_pos rfl, if_neg (beg_us _ _ _ _ _ _), if_pos (by show R.getD 1 0 = 0; exact hR)]
  rw [beg_step, he]
  rfl
theorem beg_wfi {R M tx : List Int} {t : Int} (hM : M.length = 4096) (hv : lev (M.take 4) = 1107296256) (h0 : 0 ≤ t) (h1 : t ≤ 1000) : (beg R M tx t false false).step 0 4294967295 = beg R M tx (t + 1) false false := by
  have hf : (beg R M tx t false false).fetch = .yes 1107296256 := by rw [beg_fetch hM, hv]; simp [dec66.1]
  have he : (beg R M tx t false false).one 4294967295 = .yes (beg R M tx t false false) := by
    rw [one_yes hf, dec66.2]
    unfold Ma.exec
    rw [if_neg (by decide), if_neg (by decide), if_neg (by decide), if_neg (by decide), if_pos rfl]
    show Did.yes (if bits .and .i64 0 0 = 0 then beg R M tx t false false else _ : Ma) = _
    rw [if_pos (by decide)]
  rw [beg_step, he]
  show beg R M tx (wd (t + 1)) false false = _
  rw [wd_eq (t + 1) (by omega) (by omega)]
theorem run_beg_stuck {R M tx : List Int} (hM : M.length = 4096) (hd : ¬ decOk (lev (M.take 4))) : (beg R M tx 0 false false).run 1 = (1, beg R M tx 1 false true) := by
  unfold Ma.run
  rw [if_neg (by show ¬ (false || false) = true; decide), beg_stuck hM hd]
  rfl
theorem run_beg_halt {R M tx : List Int} (hM : M.length = 4096) (hv : lev (M.take 4) = 1073741824) (hR : R.getD 1 0 = 0) : (beg R M tx 0 false false).run 1 = (1, beg R M tx 1 true false) := by
  unfold Ma.run
  rw [if_neg (by show ¬ (false || false) = true; decide), beg_halt hM hv hR]
  rfl
theorem run_beg_wfi {R M tx : List Int} (hM : M.length = 4096) (hv : lev (M.take 4) = 1107296256) : ∀ (n : Nat) (t : Int), 0 ≤ t → t + n ≤ 1000 → (beg R M tx t false false).run n = (n, beg R M tx (t + n) false false)
  | 0, t, _, _ => by simp [Ma.run]
  | n + 1, t, h0, h1 => by
    unfold Ma.run
    rw [if_neg (by show ¬ (false || false) = true; decide), beg_wfi hM hv h0 (by omega), run_beg_wfi hM hv n (t + 1) (by omega) (by omega)]
    have : t + 1 + (n : Int) = t + ((n + 1 : Nat) : Int) := by omega
    rw [this]
end Go.Proofs.YtfcmodllbhpniaaGreatDoor
