/-
  Package bare: places (laid by mkbare.py).
-/
import Derived.Test.YtfcmodllbhpniaaGreatDoorJnBareC
import Derived.Test.YtfcmodllbhpniaaGreatDoorJnAc
import Derived.WalkLawsBesides
set_option linter.unusedVariables false
set_option maxRecDepth 100000
namespace Go.Proofs.YtfcmodllbhpniaaGreatDoor.Ser
open Go.Proofs.YtfcmodllbhpniaaGreatDoor
open Go.ChangeShapes Go.WideShapes Go.ChangeAt Go.RowKit
section
variable {w : World} {F : Nat → Prop} {L : Lay} {m : Ma} {ov : Value} {gr cr gc cc : Nat}
theorem MemT.turn {h g : Nat} {bs bs' : List Int} {u u' : World} {F' : Nat → Prop} (p : (MemT 87 h g bs).is u F') (hm : Mem 87 u' h g bs') (ho : Only g u u') : Step F' (MemT 87 h g bs') u u' := by
  obtain ⟨-, rfl⟩ := p
  exact ⟨_, ⟨hm, rfl⟩, fun i hi => .inl hi, ⟨ho.os, ho.tape, ho.output, by rw [ho.size]; exact Nat.le_refl _, fun k _ hn => ho.block k fun e => hn (.inr e)⟩⟩
theorem bm_store (S : Sees w F L m ov gr cr gc cc) (a s v : Int) (ha : Wd a) : Calls Tryz.prog 196 #[.pointer (some ⟨L.hm, 0, none⟩), i64 a, i64 s, i64 v] w
    fun e w' => e = .returned (.bool (decide (okc m.M.length a s))) ∧ Step F (Bm L { m with M := stv m.M a s v }) w w' := by
  obtain ⟨Fs, hG⟩ := S.grp
  refine (Go.Proofs.YtfcmodllbhpniaaGreatDoor.store_says S.mem a s v (by omega)).mono fun e w' ⟨h1, h2, h3⟩ => ⟨h1, ?_⟩
  exact bm_of (S.fine.mem _ (stv_byt S.fine.by' _ _ _) (stv_length _ _ _ _)) (hG.turn (n := 1) rfl (MemT.turn (hG.p 1 _ rfl) h2 h3))
theorem ml_load (a : Addr) (w : World) : (method 360 63 (.pointer (some a)) "Load").run Tryz.prog w = .ok (85, .pointer (some a)) w := by kernel_rfl
theorem ml_store (a : Addr) (w : World) : (method 360 63 (.pointer (some a)) "Store").run Tryz.prog w = .ok (196, .pointer (some a)) w := by kernel_rfl
theorem mx_load (a : Addr) (w : World) : (method 360 194 (.agg #[.pointer (some a)]) "Load").run Tryz.prog w = .ok (219, .agg #[.pointer (some a)]) w := by kernel_rfl
theorem mx_store (a : Addr) (w : World) : (method 360 194 (.agg #[.pointer (some a)]) "Store").run Tryz.prog w = .ok (220, .agg #[.pointer (some a)]) w := by kernel_rfl
theorem na_load (a : Addr) (w : World) : (nilAhead 360 63 (.pointer (some a)) "Load").run Tryz.prog w = .ok (some false) w := by kernel_rfl
theorem na_store (a : Addr) (w : World) : (nilAhead 360 63 (.pointer (some a)) "Store").run Tryz.prog w = .ok (some false) w := by kernel_rfl
theorem nx_load (a : Addr) (w : World) : (nilAhead 360 194 (.agg #[.pointer (some a)]) "Load").run Tryz.prog w = .ok (some false) w := by kernel_rfl
theorem nx_store (a : Addr) (w : World) : (nilAhead 360 194 (.agg #[.pointer (some a)]) "Store").run Tryz.prog w = .ok (some false) w := by kernel_rfl
theorem bm_ua_load (S : Sees w F L m ov gr cr gc cc) (off : Int) (ho : -9223372036854775808 ≤ off ∧ off ≤ 9223372036854775807) : Calls Tryz.prog 197 #[.pointer (some ⟨L.h, 4, none⟩), i64 off] w
    fun e w' => e = .returned (.tuple #[i64 (ulv m.rx off), .bool (uok off)]) ∧ Step F (Bm L { m with rx := ulr m.rx off }) w w' := by
  have h := S.uart (rx := ulr m.rx off) (tx := m.tx) (S.fine.rxs _ (ulr_byts S.fine.br _) (Nat.le_trans (ulr_length _ _) S.fine.bl)) fun Z => load_says L.h (AL L) Z m.rx m.tx off ho
  exact h
theorem bm_ua_store (S : Sees w F L m ov gr cr gc cc) (off v : Int) (ho : -9223372036854775808 ≤ off ∧ off ≤ 9223372036854775807) (hl : m.tx.length < 100000) : Calls Tryz.prog 198 #[.pointer (some ⟨L.h, 4, none⟩), i64 off, i64 v] w
    fun e w' => e = .returned (.bool (uok off)) ∧ Step F (Bm L { m with tx := ust m.tx off v }) w w' := by
  have h := S.uart (rx := m.rx) (tx := ust m.tx off v) (S.fine.txs _ (ust_byts S.fine.bt' _ _)) fun Z => store_says L.h (AL L) Z m.rx m.tx off v ho hl
  exact h
theorem bm_line_load (S : Sees w F L m ov gr cr gc cc) (a s : Int) (ha : Wd a) : Calls Tryz.prog 219 #[.agg #[.pointer (some ⟨L.h, 4, none⟩)], i64 a, i64 s] w
    fun e w' => e = .returned (.tuple #[i64 (if s = 4 then ulv m.rx (a - 4026531840) else 0), .bool (decide (s = 4) && uok (a - 4026531840))]) ∧ Step F (Bm L (if s = 4 then { m with rx := ulr m.rx (a - 4026531840) } else m)) w w' := by
  obtain ⟨a0, a1⟩ := ha
  have hw : wrap64 (a - 4026531840) = a - 4026531840 := by unfold wrap64; omega
  by_cases hs : s = 4
  · subst hs
    rw [if_pos rfl, if_pos rfl]
    have hb : ∀ o, Below w.heap.size w (w.alloc o) := fun o => (Below.refl _ w).alloc (Nat.le_refl _) o
    have hc := fun o => bm_ua_load (S.later (hb o)) (a - 4026531840) (by omega)
    have hS := Lib.hid (fun o w' (h : Step F (Bm L { m with rx := ulr m.rx (a - 4026531840) }) (w.alloc o) w') => Step.after (hb o) h)
    have hd : (decide ((4 : Int) = 4) && uok (a - 4026531840)) = uok (a - 4026531840) := by simp
    rw [hd]
    clear S hd
    generalize ulv m.rx (a - 4026531840) = v at *
    generalize uok (a - 4026531840) = k at *
    generalize ({ m with rx := ulr m.rx (a - 4026531840) } : Ma) = m' at *
    go_enter Tryz.func219, Tryz.ntmps219
    go_wp2_with (go_at_call 197; refine (hc _).mono ?_; rintro e w1 ⟨rfl, hs1⟩)
    go_ret2
    exact ⟨rfl, hS.out _ _ hs1⟩
  · rw [if_neg hs, if_neg hs]
    have hS := Lib.hid (fun o => (Step.still ((Below.refl w.heap.size w).alloc (Nat.le_refl _) o) S.is : Step F (Bm L m) w (w.alloc o)))
    have hd : (decide (s = 4) && uok (a - 4026531840)) = false := by simp [hs]
    have hd2 : (s != 4) = true := by simpa using hs
    rw [hd]
    clear S hd
    go_enter Tryz.func219, Tryz.ntmps219
    go_wp2
    go_ret2
    exact ⟨rfl, hS.out _⟩
theorem bm_line_store (S : Sees w F L m ov gr cr gc cc) (a s v : Int) (ha : Wd a) (hl : m.tx.length < 100000) : Calls Tryz.prog 220 #[.agg #[.pointer (some ⟨L.h, 4, none⟩)], i64 a, i64 s, i64 v] w
    fun e w' => e = .returned (.bool (decide (s = 4) && uok (a - 4026531840))) ∧ Step F (Bm L (if s = 4 then { m with tx := ust m.tx (a - 4026531840) v } else m)) w w' := by
  obtain ⟨a0, a1⟩ := ha
  have hw : wrap64 (a - 4026531840) = a - 4026531840 := by unfold wrap64; omega
  by_cases hs : s = 4
  · subst hs
    rw [if_pos rfl]
    have hb : ∀ o, Below w.heap.size w (w.alloc o) := fun o => (Below.refl _ w).alloc (Nat.le_refl _) o
    have hc := fun o => bm_ua_store (S.later (hb o)) (a - 4026531840) v (by omega) hl
    have hS := Lib.hid (fun o w' (h : Step F (Bm L { m with tx := ust m.tx (a - 4026531840) v }) (w.alloc o) w') => Step.after (hb o) h)
    have hd : (decide ((4 : Int) = 4) && uok (a - 4026531840)) = uok (a - 4026531840) := by simp
    rw [hd]
    clear S hd
    generalize uok (a - 4026531840) = k at *
    generalize ({ m with tx := ust m.tx (a - 4026531840) v } : Ma) = m' at *
    go_enter Tryz.func220, Tryz.ntmps220
    go_wp2_with (go_at_call 198; refine (hc _).mono ?_; rintro e w1 ⟨rfl, hs1⟩)
    all_goals first
      | (go_ret; exact ⟨ret_bool (by simp), hS.out _ _ hs1⟩)
      | trace_state
  · rw [if_neg hs]
    have hS := Lib.hid (fun o => (Step.still ((Below.refl w.heap.size w).alloc (Nat.le_refl _) o) S.is : Step F (Bm L m) w (w.alloc o)))
    have hd : (decide (s = 4) && uok (a - 4026531840)) = false := by simp [hs]
    have hd2 : (s == 4) = false := by simpa using hs
    rw [hd]
    clear S hd
    go_enter Tryz.func220, Tryz.ntmps220
    go_wp2
    go_ret
    exact ⟨rfl, hS.out _⟩
end
end Go.Proofs.YtfcmodllbhpniaaGreatDoor.Ser
