
/-
  The contract of the document's own answer Op.
-/
import Derived.Test.YtpjonhcbhgalpaaDoorIsaOp
import Derived.Test.YtpjonhcbhgalpaaDoorIsaForm
import Derived.Handy
namespace Go.Proofs.YtpjonhcbhgalpaaDoor
open Go.ChangeShapes Go.WideShapes Go.ChangeAt Go.RowKit
set_option maxHeartbeats 1000000 in
theorem rop_empty (s : ByteArray) (hs : s.toList.isEmpty = true) (w : World) : Calls Tryd.prog 9 #[.string s] w fun e w' => e = .returned (i64 (opOf s)) ∧ w = w' := by
  have hv := Lib.hid (show opOf s = 0 by unfold opOf; rw [hs]; rfl)
  go_enter Tryd.func9, Tryd.ntmps9
  go_wp2
  refine wp_loop_rounds 1 ?_
  rw [rounds_succ]
  go_wp2
  go_ret
  exact ⟨ret_int hv.out.symm, rfl⟩
set_option maxHeartbeats 1000000 in
theorem rop_full (s : ByteArray) (hs : s.toList.isEmpty = false) (w : World) : Calls Tryd.prog 9 #[.string s] w fun e w' => e = .returned (i64 (opOf s)) ∧ w = w' := by
  have hv := Lib.hid (show opOf s = opFrom s 70 1 by unfold opOf; rw [hs]; rfl)
  go_enter Tryd.func9, Tryd.ntmps9
  go_wp2
  go_loop [3] (fun v => ∃ k : Nat, 1 ≤ k ∧ k ≤ 71 ∧ v = .int .i64 k ∧ Hid (opFrom s (71 - k) k = opFrom s 70 1)) (fun v => (71 - intOf v).toNat)
  case atStart => exact ⟨1, by omega, by omega, rfl, Lib.hid rfl⟩
  case round =>
    obtain ⟨k, k1, k2, rfl, hk⟩ := hrel
    by_cases hlt : k ≤ 70
    · by_cases he : ((opN k).toList == s.toList) = true
      · have hy := Lib.hid (opFrom_yes s k hlt he)
        go_wp2_with (first | (go_at_call 6; refine (form_says _ _).mono ?_; rintro e w' ⟨rfl, rfl⟩))
        go_ret
        exact ⟨ret_int (by rw [hv.out, ← hk.out, hy.out]), rfl⟩
      · have he' : ((opN k).toList == s.toList) = false := by simpa using he
        have hn := Lib.hid (opFrom_no s k hlt he')
        clear he
        go_wp2_with (first | (go_at_call 6; refine (form_says _ _).mono ?_; rintro e w' ⟨rfl, rfl⟩))
        go_round
        case rel => exact ⟨k + 1, by omega, by omega, by go_num, Lib.hid (hn.out ▸ hk.out)⟩
        case measure => simp [intOf]; omega
    · have hz : k = 71 := by omega
      subst hz
      go_wp2
      go_ret
      exact ⟨ret_int (by rw [hv.out, ← hk.out]; rfl), rfl⟩
theorem rop_says (s : ByteArray) (w : World) : Calls Tryd.prog 9 #[.string s] w fun e w' => e = .returned (i64 (opOf s)) ∧ w = w' := by
  cases hs : s.toList.isEmpty
  · exact rop_full s hs w
  · exact rop_empty s hs w
end Go.Proofs.YtpjonhcbhgalpaaDoor
