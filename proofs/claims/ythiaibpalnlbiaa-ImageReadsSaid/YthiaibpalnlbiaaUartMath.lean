
/-
  Plain: a serial line as two lists of bytes (no program in sight), and what law UartOrder asks of it.
-/
import Derived.Test.YthiaibpalnlbiaaMath
set_option maxRecDepth 100000
namespace Go.Proofs.Ythiaibpalnlbiaa
open Go.RowKit
/-- In: what waits behind it (it tells whether there was room). -/
def uin (rx : List Int) (b : Int) : List Int := if rx.length < 16 then rx ++ [b % 256] else rx
/-- Load: what it tells, what waits behind it, whether there is such an off. -/
def ulv (rx : List Int) (off : Int) : Int := if off = 4 then rx.headD 4294967295 else if off = 8 then rx.length else 0
def ulr (rx : List Int) (off : Int) : List Int := if off = 4 then rx.drop 1 else rx
def uok (off : Int) : Bool := off == 0 || off == 4 || off == 8
/-- Store: what was written out behind it. -/
def ust (tx : List Int) (off v : Int) : List Int := if off = 0 then tx ++ [v % 256] else tx
def Byts (bs : List Int) : Prop := ∀ b ∈ bs, 0 ≤ b ∧ b < 256
theorem uin_byts {rx : List Int} (h : Byts rx) (b : Int) : Byts (uin rx b) := by
  unfold uin; split
  · intro x hx
    rcases List.mem_append.1 hx with hx | hx
    · exact h x hx
    · rw [List.mem_singleton.1 hx]; omega
  · exact h
theorem ulr_byts {rx : List Int} (h : Byts rx) (off : Int) : Byts (ulr rx off) := by
  unfold ulr; split
  · exact fun x hx => h x (List.mem_of_mem_drop hx)
  · exact h
theorem ust_byts {tx : List Int} (h : Byts tx) (off v : Int) : Byts (ust tx off v) := by
  unfold ust; split
  · intro x hx
    rcases List.mem_append.1 hx with hx | hx
    · exact h x hx
    · rw [List.mem_singleton.1 hx]; omega
  · exact h
theorem uin_length {rx : List Int} (h : rx.length ≤ 16) (b : Int) : (uin rx b).length ≤ 16 := by
  unfold uin; split
  · simp; omega
  · exact h
theorem ulr_length (rx : List Int) (off : Int) : (ulr rx off).length ≤ rx.length := by
  unfold ulr; split
  · rw [List.length_drop]; omega
  · exact Nat.le_refl _
/-- 0, 1, .. below c. -/
def seqL (c : Nat) : List Int := (List.range c).map (fun (j : Nat) => (j : Int))
theorem seqL_length (c : Nat) : (seqL c).length = c := by unfold seqL; simp
theorem seqL_succ (c : Nat) : seqL (c + 1) = seqL c ++ [(c : Int)] := by unfold seqL; rw [List.range_succ, List.map_append]; rfl
/-- What waits behind c calls of In with 0, 1, ... -/
theorem seq_in (c : Nat) (hc : c ≤ 40) : uin (seqL (min c 16)) c = seqL (min (c + 1) 16) := by
  unfold uin
  rw [seqL_length]
  by_cases h : c < 16
  · rw [if_pos (by omega), show min c 16 = c by omega, show min (c + 1) 16 = c + 1 by omega, seqL_succ]
    congr 2; omega
  · rw [if_neg (by omega), show min c 16 = 16 by omega, show min (c + 1) 16 = 16 by omega]
theorem seq_room (c : Nat) : (seqL (min c 16)).length < 16 ↔ c < 16 := by rw [seqL_length]; omega
theorem seq_drop (m j : Nat) (hj : j < m) : (seqL m).drop j = (j : Int) :: (seqL m).drop (j + 1) := by
  unfold seqL
  rw [List.drop_eq_getElem_cons (by simpa using hj)]
  congr 1
  simp
/-- .. and behind j loads at 4. -/
theorem seq_load (m j : Nat) (hj : j < m) : ulv ((seqL m).drop j) 8 = (m : Int) - j ∧ ulv ((seqL m).drop j) 4 = j ∧ ulr ((seqL m).drop j) 4 = (seqL m).drop (j + 1) := by
  refine ⟨?_, ?_, ?_⟩
  · unfold ulv; rw [if_neg (by decide), if_pos rfl, List.length_drop, seqL_length]; omega
  · unfold ulv; rw [if_pos rfl, seq_drop m j hj]; rfl
  · unfold ulr; rw [if_pos rfl, List.drop_drop]
/-- What was written out behind c stores at 0 (those at 4 and 8 write nothing). -/
def outL (f : Nat → Int) (c : Nat) : List Int := (List.range c).map (fun j => f j % 256)
theorem out_length (f : Nat → Int) (c : Nat) : (outL f c).length = c := by unfold outL; simp
theorem out_succ (f : Nat → Int) (c : Nat) : ust (outL f c) 0 (f c) = outL f (c + 1) := by
  unfold ust outL; rw [if_pos rfl, List.range_succ, List.map_append]; rfl
theorem out_else (tx : List Int) (off v : Int) (h : off = 4 ∨ off = 8) : ust tx off v = tx := by unfold ust; rw [if_neg (by omega)]
theorem out_get (f : Nat → Int) (c j : Nat) (hj : j < c) : (outL f c)[j]'(by rw [out_length]; exact hj) = f j % 256 := by unfold outL; simp
end Go.Proofs.Ythiaibpalnlbiaa
