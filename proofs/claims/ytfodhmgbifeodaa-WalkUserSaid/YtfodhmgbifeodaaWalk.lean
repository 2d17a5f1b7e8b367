
/-
  Contracts of package walk's small calls.
-/
import Derived.Test.YtfodhmgbifeodaaPhys
import Derived.Test.YtfodhmgbifeodaaWalkAnd
import Derived.WalkMore
import Derived.ScopeJumps
import Derived.LoopN
import Derived.Deep.Cut
import Derived.Deep.RegionHeld3
namespace Go.Proofs.Ytfodhmgbifeodaa
open Go.ChangeShapes Go.WideShapes Go.ChangeAt Go.RowKit
theorem bt_31_31 (a : Int) : bt a 31 31 = a / 2147483648 % 2 := by
  unfold bt wd; rw [if_neg (by decide)]; show a % 4294967296 / 2147483648 % 2 = _; omega
theorem bt_31_12 (a : Int) : bt a 31 12 = wd a / 4096 := by
  unfold bt; rw [if_neg (by decide)]; show wd a / 4096 % 1048576 = _; unfold wd; omega
theorem bt_19_0 (a : Int) : bt a 19 0 = a % 1048576 := by
  unfold bt wd; rw [if_neg (by decide)]; show a % 4294967296 / 1 % 1048576 = _; omega
theorem bt_19_10 (a : Int) : bt a 19 10 = a / 1024 % 1024 := by
  unfold bt wd; rw [if_neg (by decide)]; show a % 4294967296 / 1024 % 1024 = _; omega
theorem bt_9_0 (a : Int) : bt a 9 0 = a % 1024 := by
  unfold bt wd; rw [if_neg (by decide)]; show a % 4294967296 / 1 % 1024 = _; omega
theorem bt_11_0 (a : Int) : bt a 11 0 = a % 4096 := by
  unfold bt wd; rw [if_neg (by decide)]; show a % 4294967296 / 1 % 4096 = _; omega
theorem tables_says (a : Int) : Says 20 #[i64 a] (.bool (a / 2147483648 % 2 == 1)) := by
  intro w
  go_enter Try.func20, Try.ntmps20
  go_wp2_with (go_at_call 25; refine (bits_says _ _ _ _).mono ?_; rintro e w' ⟨rfl, rfl⟩; rw [bt_31_31])
  go_ret
  exact ⟨rfl, rfl⟩
theorem frame_says (a : Int) : Says 27 #[i64 a] (i64 (wd a / 4096)) := by
  intro w
  go_enter Try.func27, Try.ntmps27
  go_wp2_with (go_at_call 25; refine (bits_says _ _ _ _).mono ?_; rintro e w' ⟨rfl, rfl⟩; rw [bt_31_12])
  go_ret
  exact ⟨rfl, rfl⟩
theorem grown_two (w : World) (o p : Obj) : Below w.heap.size w ((w.alloc o).alloc p) :=
  ((Below.refl _ _).alloc (Nat.le_refl _) o).alloc (by show w.heap.size ≤ (w.heap.push o).size; simp) p
theorem asks_says (kind : Int) (w : World) : Calls Try.prog 24 #[i64 kind] w fun e w' => e = .returned (.tuple #[i64 (kb kind), i64 (5 + kk kind)]) ∧ Below w.heap.size w w' := by
  obtain ⟨k, hk⟩ : ∃ k, k = kind % 4 := ⟨_, rfl⟩
  have h3 : bits .and .i64 kind 3 = k := by rw [and3, hk]
  have hc : k = 0 ∨ k = 1 ∨ k = 2 ∨ k = 3 := by omega
  rcases hc with rfl | rfl | rfl | rfl
  all_goals
    unfold kb kk
    rw [← hk]
    clear hk
    go_enter Try.func24, Try.ntmps24
    go_wp2
    go_region
    go_wp2
    go_ret2
    exact ⟨rfl, (grown_two _ _ _).drew⟩
/-- What a page's entry must be like. -/
def sn (kind : Int) (user : Bool) : Int := 1 + kb kind + if user = true ∨ kk kind = 0 then 16 else 0
def wn (kind : Int) (user : Bool) : Int := 1 + kb kind + if user = true then 16 else 0
theorem gate_small : ∀ (k : Fin 3) (u : Bool) (r : Fin 32), (bits .and .i64 (r.val : Int) (sn (k.val : Int) u) = wn (k.val : Int) u) ↔ ¬ bad2 (r.val : Int) (k.val : Int) u := by decide +kernel
theorem kk_kk (kind : Int) : kk (kk kind) = kk kind := by
  rcases kk_bd kind with h | h | h <;> rw [h] <;> decide
theorem sn_range (kind : Int) (user : Bool) : 0 ≤ sn kind user ∧ sn kind user ≤ 31 := by
  unfold sn kb; split <;> split <;> (try split) <;> omega
theorem gate2_iff (e kind : Int) (user : Bool) : bits .and .i64 e (sn kind user) = wn kind user ↔ ¬ bad2 e kind user := by
  have eb : kb (kk kind) = kb kind := by unfold kb; rw [kk_kk]
  have es : sn kind user = sn (kk kind) user := by unfold sn; rw [eb, kk_kk]
  have ew : wn kind user = wn (kk kind) user := by unfold wn; rw [eb]
  have hr := sn_range kind user
  have h0 : e % 2 = e % 32 % 2 := by omega
  have h1 : e / 16 % 2 = e % 32 / 16 % 2 := by omega
  have h2 : e / kb kind % 2 = e % 32 / kb kind % 2 := by unfold kb; split <;> (try split) <;> omega
  have e2 : bad2 e kind user ↔ bad2 (e % 32) (kk kind) user := by
    unfold bad2; rw [h0, h1, h2, eb, kk_kk]
  rw [and_low5 _ _ hr.1 hr.2, es, ew, e2]
  have hk := kk_bd kind
  obtain ⟨k, hkk⟩ : ∃ k : Fin 3, kk kind = (k.val : Int) := by
    rcases hk with h | h | h
    · exact ⟨0, h⟩
    · exact ⟨1, h⟩
    · exact ⟨2, h⟩
  rw [hkk]
  exact low_cases5 e (fun t => (bits .and .i64 t (sn (k.val : Int) user) = wn (k.val : Int) user) ↔ ¬ bad2 t (k.val : Int) user) (fun r => gate_small k user r)
theorem page_says (kind : Int) (user : Bool) (w : World) : Calls Try.prog 26 #[i64 (kb kind), .bool user] w fun e w' => e = .returned (.agg #[i64 (sn kind user), i64 (wn kind user)]) ∧ Below w.heap.size w w' := by
  have hk := kk_bd kind
  have o8 : bits .or .i64 1 8 = 9 := by decide +kernel
  have o2 : bits .or .i64 1 2 = 3 := by decide +kernel
  have o4 : bits .or .i64 1 4 = 5 := by decide +kernel
  have p8 : bits .or .i64 9 16 = 25 := by decide +kernel
  have p2 : bits .or .i64 3 16 = 19 := by decide +kernel
  have p4 : bits .or .i64 5 16 = 21 := by decide +kernel
  rcases hk with h | h | h <;> cases user <;> simp only [sn, wn, kb, h]
  all_goals
    go_enter Try.func26, Try.ntmps26
    go_wp2
    refine bodyPost_ret (v := .agg #[i64 _, i64 _]) (by simp [results, Try.results26, go_sem]) rfl ⟨rfl, grown_two _ _ _⟩
end Go.Proofs.Ytfodhmgbifeodaa
