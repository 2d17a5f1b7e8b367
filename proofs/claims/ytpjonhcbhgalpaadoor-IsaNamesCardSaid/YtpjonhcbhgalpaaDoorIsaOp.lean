
/-
  Contracts of package isa's Name and Op.
-/
import Derived.Test.YtpjonhcbhgalpaaDoorIsaEnc
namespace Go.Proofs.YtpjonhcbhgalpaaDoor
open Go.ChangeShapes Go.WideShapes Go.ChangeAt Go.RowKit
theorem name_says (op : Int) (w : World) : Calls Tryd.prog 7 #[i64 op] w fun e w' => e = .returned (.string (opN op)) ∧ Below w.heap.size w w' := by
  have hfld : ∀ w, (Instr.field 38 (.agg #[.string (opN op), .int .i64 (opF op)]) 0).run Tryd.prog w = .ok (.string (opN op)) w := fun _ => by kernel_rfl
  go_enter Tryd.func7, Tryd.ntmps7
  go_wp2_with (first | (go_at_call 14; refine (operationOf_says _ _).mono ?_; rintro e w1 ⟨rfl, hb1⟩))
  go_ret
  exact ⟨rfl, hb1⟩
/-- The first operation from k on, of n, that has this name. -/
def opFrom (s : ByteArray) : Nat → Nat → Int
  | 0, _ => 0
  | n + 1, k => if ((opN k).toList == s.toList) = true then k else opFrom s n (k + 1)
/-- The operation of a name. -/
def opOf (s : ByteArray) : Int := if s.toList.isEmpty then 0 else opFrom s 70 1
theorem opFrom_yes (s : ByteArray) (k : Nat) (h : k ≤ 70) (he : ((opN k).toList == s.toList) = true) : opFrom s (71 - k) k = k := by
  rw [show 71 - k = (70 - k) + 1 by omega]; unfold opFrom; rw [if_pos he]
theorem opFrom_no (s : ByteArray) (k : Nat) (h : k ≤ 70) (he : ((opN k).toList == s.toList) = false) : opFrom s (71 - k) k = opFrom s (71 - (k + 1)) (k + 1) := by
  rw [show 71 - k = (70 - k) + 1 by omega, show 71 - (k + 1) = 70 - k by omega]
  conv => lhs; unfold opFrom
  rw [if_neg (by rw [he]; decide)]
set_option maxHeartbeats 1000000 in
theorem op_empty (s : ByteArray) (hs : s.toList.isEmpty = true) (w : World) : Calls Tryd.prog 8 #[.string s] w fun e w' => e = .returned (i64 (opOf s)) ∧ Below w.heap.size w w' := by
  have hv := Lib.hid (show opOf s = 0 by unfold opOf; rw [hs]; rfl)
  go_enter Tryd.func8, Tryd.ntmps8
  go_wp2
  go_ret
  exact ⟨ret_int hv.out.symm, Below.refl _ _⟩
set_option maxHeartbeats 1000000 in
theorem op_full (s : ByteArray) (hs : s.toList.isEmpty = false) (w : World) : Calls Tryd.prog 8 #[.string s] w fun e w' => e = .returned (i64 (opOf s)) ∧ Below w.heap.size w w' := by
  have hv := Lib.hid (show opOf s = opFrom s 70 1 by unfold opOf; rw [hs]; rfl)
  have hfld : ∀ (op : Int) w, (Instr.field 38 (.agg #[.string (opN op), .int .i64 (opF op)]) 0).run Tryd.prog w = .ok (.string (opN op)) w := fun _ _ => by kernel_rfl
  go_enter Tryd.func8, Tryd.ntmps8
  go_wp2
  go_loopw [3] (fun v wr => ∃ k : Nat, 1 ≤ k ∧ k ≤ 71 ∧ v = .int .i64 k ∧ Hid (opFrom s (71 - k) k = opFrom s 70 1) ∧ Below w.heap.size w wr) (fun v _ => (71 - intOf v).toNat)
  case atStart => exact ⟨1, by omega, by omega, rfl, Lib.hid rfl, Below.refl _ _⟩
  case round =>
    obtain ⟨k, k1, k2, rfl, hk, hb⟩ := hrel
    by_cases hlt : k ≤ 70
    · by_cases he : ((opN k).toList == s.toList) = true
      · have hy := Lib.hid (opFrom_yes s k hlt he)
        go_wp2_with (first | (go_at_call 14; refine (operationOf_says _ _).mono ?_; rintro e w1 ⟨rfl, hb1⟩))
        go_ret
        exact ⟨ret_int (by rw [hv.out, ← hk.out, hy.out]), hb.trans (hb1.mono hb.size)⟩
      · have he' : ((opN k).toList == s.toList) = false := by simpa using he
        have hn := Lib.hid (opFrom_no s k hlt he')
        clear he
        go_wp2_with (first | (go_at_call 14; refine (operationOf_says _ _).mono ?_; rintro e w1 ⟨rfl, hb1⟩))
        go_roundw
        case rel => exact ⟨k + 1, by omega, by omega, by go_num, Lib.hid (hn.out ▸ hk.out), hb.trans (hb1.mono hb.size)⟩
        case measure => simp [intOf]; omega
    · have hz : k = 71 := by omega
      subst hz
      go_wp2
      go_ret
      exact ⟨ret_int (by rw [hv.out, ← hk.out]; rfl), hb⟩
theorem op_says (s : ByteArray) (w : World) : Calls Tryd.prog 8 #[.string s] w fun e w' => e = .returned (i64 (opOf s)) ∧ Below w.heap.size w w' := by
  cases hs : s.toList.isEmpty
  · exact op_full s hs w
  · exact op_empty s hs w
/-- Each name is one operation's alone. -/
theorem op_name_all : ((List.range 71).all fun k => (opN (k : Nat)).data.toList.isEmpty || (List.range 71).all fun j => j == k || !((opN (j : Nat)).data.toList == (opN (k : Nat)).data.toList)) = true := by kernel_rfl
theorem op_name (op : Int) (h : (opN op).toList.isEmpty = false) : opOf (opN op) = op := by
  have h0 : ¬ op < 0 := by intro h'; rw [opN_neg op h'] at h; revert h; rw [ByteArray.toList_eq]; decide
  have h1 : ¬ 70 < op := by intro h'; rw [opN_great op h'] at h; revert h; rw [ByteArray.toList_eq]; decide
  obtain ⟨k, rfl⟩ := Int.eq_ofNat_of_zero_le (by omega : 0 ≤ op)
  have hk : k < 71 := by omega
  have hk1 : 1 ≤ k := by
    rcases Nat.eq_zero_or_pos k with rfl | hp
    · exact absurd h (by rw [ByteArray.toList_eq]; decide)
    · exact hp
  have hall := List.all_eq_true.1 op_name_all k (List.mem_range.2 hk)
  rw [ByteArray.toList_eq] at h
  simp only [h, Bool.false_or] at hall
  have hne : ∀ j : Nat, j < 71 → j ≠ k → ((opN j).toList == (opN k).toList) = false := by
    intro j hj hjk
    have := List.all_eq_true.1 hall j (List.mem_range.2 hj)
    simp only [Bool.or_eq_true, beq_iff_eq, hjk, false_or, Bool.not_eq_true'] at this
    rw [ByteArray.toList_eq, ByteArray.toList_eq]; exact this
  have run : ∀ d j : Nat, j + d = k → 1 ≤ j → opFrom (opN k) (71 - j) j = k := by
    intro d
    induction d with
    | zero => intro j hj _; obtain rfl : j = k := by omega
              exact opFrom_yes _ j (by omega) (by simp)
    | succ d ih => intro j hj hj1; rw [opFrom_no _ j (by omega) (hne j (by omega) (by omega))]; exact ih (j + 1) (by omega) (by omega)
  unfold opOf
  rw [ByteArray.toList_eq, h]
  exact run (k - 1) 1 (by omega) (by omega)
end Go.Proofs.YtpjonhcbhgalpaaDoor
