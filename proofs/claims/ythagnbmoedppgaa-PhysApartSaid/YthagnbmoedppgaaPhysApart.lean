/-
  A store changes just its bytes (law PhysApart returns true).
  No condition: whatever the arguments are.
-/
import Derived.Test.YthagnbmoedppgaaRows
import Derived.WalkKit
import Derived.ProofKit
import Derived.OpenShut
import Derived.Test.YthagnbmoedppgaaPhysAlive
namespace Go.Proofs.Ythagnbmoedppgaa.physApart
open Go.ChangeShapes Go.WideShapes Go.ChangeAt Go.RowKit
set_option linter.unusedVariables false      -- a walk need not use every 'w<i>' (that an integer argument fits its kind)

theorem own : ownKnob Try.prog.godebug = none := by kernel_rfl

/-- A memory of one page, whatever lies in it (a name of its own: simp takes 'length = 4096' apart). -/
def Page1 (w : World) (h g : Nat) : Prop := ∃ bs : List Int, Mem 46 w h g bs ∧ bs.length = 4096
theorem made1 {w : World} {h g : Nat} (hm : Mem 46 w h g (List.replicate (pg 1 * 4096) 0)) : Page1 w h g := ⟨_, hm, by rw [List.length_replicate]; rfl⟩
theorem low8 (x : Int) : bits .and .i64 x 255 = x % 256 := i64_mask x 8 (by decide)
/-- A byte behind a store. -/
theorem behind (bs : List Int) (o s i : Nat) (v : Int) (hk : okc bs.length o s) (hi : i < bs.length) :
    okc (stv bs o s v).length i 1 ∧ ldv (stv bs o s v) i 1 = if o ≤ i ∧ i < o + s then v / 256 ^ (i - o) % 256 else ldv bs i 1 := by
  have h := ldv_one (stv bs o s v) i (by rw [stv_length]; exact hi)
  refine ⟨h.1, ?_⟩
  rw [h.2, stv_getD bs o s v hk i, (ldv_one bs i hi).2]
theorem apart_no1 {a0 a1 a3 : Int} (HS : ¬(0 ≤ a0 ∧ a0 ≤ 4000 ∧ 0 ≤ a3 ∧ a3 ≤ 4095 ∧ (a1 = 1 ∨ a1 = 2 ∨ a1 = 4) ∧ a0 % a1 = 0)) (h : ((0 ≤ a0 ∧ a0 ≤ 4000) ∧ 0 ≤ a3) ∧ a3 ≤ 4095) (h1 : a1 = 1) : False := by
  subst h1; exact HS ⟨h.1.1.1, h.1.1.2, h.1.2, h.2, .inl rfl, by omega⟩
theorem apart_no2 {a0 a1 a3 : Int} (s : Int) (hs : s = 2 ∨ s = 4) (HS : ¬(0 ≤ a0 ∧ a0 ≤ 4000 ∧ 0 ≤ a3 ∧ a3 ≤ 4095 ∧ (a1 = 1 ∨ a1 = 2 ∨ a1 = 4) ∧ a0 % a1 = 0)) (h : (((0 ≤ a0 ∧ a0 ≤ 4000) ∧ 0 ≤ a3) ∧ a3 ≤ 4095) ∧ (a0 % s != 0) = false) (h1 : a1 = s) : False := by
  subst h1; have h2 := h.2; rw [bne_eq_false_iff_eq] at h2; exact HS ⟨h.1.1.1.1, h.1.1.1.2, h.1.1.2, h.1.2, .inr hs, h2⟩
set_option maxRecDepth 20000 in
set_option maxHeartbeats 1000000 in
theorem leg_in1 (o j : Nat) (a2 : Int) (hj : j < 1) (ho0 : o ≤ 4000) (hr : (o : Int) % 1 = 0) (w : World) :
    Calls Try.prog 6 #[.int .i64 o, .int .i64 1, .int .i64 a2, .int .i64 (o + j)] w fun e w' => e = .returned (.bool true) ∧ Below w.heap.size w w' := by
  have hv := low8
  go_enter Try.func6, Try.ntmps6
  go_wp2_with (first | (go_at_call 8; refine (alive4_says _).mono ?_; rintro e w1 ⟨rfl, hB⟩) | (go_at_call 9; refine (new_says _ _).mono ?_; rintro e w2 ⟨h, g, ⟨rfl, hm, hh, hg, hb⟩⟩; have hg := Nat.le_trans hB.size hg; have hB := hB.trans (hb.mono hB.size)))
  obtain ⟨N, hN⟩ : ∃ N : Nat, N = 1024 := ⟨_, rfl⟩
  have HN := Lib.hid hN; clear hN
  go_loopw [11] (fun i wr => ∃ k : Nat, k ≤ N ∧ i = .int .i64 k ∧ Page1 wr h g ∧ Below w.heap.size w wr) (fun i _ => N - (intOf i).toNat)
  case atStart => exact ⟨0, Nat.zero_le _, rfl, made1 hm, hB⟩
  case round =>
    have HB := Lib.hid hB; clear hB hm
    obtain ⟨k, hk, rfl, ⟨bs, hmr, hl⟩, hB⟩ := hrel
    have hP : ∀ w' b', Mem 46 w' h g b' → b'.length = bs.length → Page1 w' h g := fun w' b' hm he => ⟨b', hm, he.trans hl⟩
    have F : okc bs.length (o : Int) 1 := ⟨by omega, hr, by unfold fits; omega⟩
    have hr' := Lib.hid hr; clear hr
    obtain ⟨k2, v2⟩ := behind bs o 1 (o + j) a2 F (by omega)
    rw [if_pos (by omega), Nat.add_sub_cancel_left, ← p256, Int.natCast_add] at v2
    rw [Int.natCast_add] at k2
    rw [show ((1 : Nat) : Int) = 1 from rfl] at k2 v2
    have k1 : okc bs.length ((o : Int) + j) 1 := by rw [stv_length] at k2; exact k2
    clear hl F
    have HP := Lib.hid hP; clear hP
    go_wp2_with (first | (go_at_call 12; refine (store_says hmr _ _ _ (by omega)).mono ?_; rintro e w3 ⟨rfl, hm2, ho⟩; have hB := hB.trans (ho.below hg)) | (go_at_call 13; refine (load_says ‹Mem _ _ _ _ _› _ _ (by omega)).mono ?_; rintro e w' ⟨rfl, rfl⟩))
    · have hlt : (k : Int) < 1024 := by assumption
      go_roundw
      case rel => exact ⟨k + 1, by have := HN.out; omega, by go_num, HP.out _ _ hm2 (stv_length _ _ _ _), hB⟩
      case measure => have := HN.out; simp [intOf]; omega
    all_goals
      go_ret
      first
        | exact ⟨rfl, hB⟩
        | exact ⟨ret_bool (by simp), hB⟩
set_option maxRecDepth 20000 in
set_option maxHeartbeats 1000000 in
theorem leg_out1 (o i : Nat) (a2 : Int) (hno : i < o ∨ o + 1 ≤ i) (ho0 : o ≤ 4000) (hi0 : i ≤ 4095) (hr : (o : Int) % 1 = 0) (w : World) :
    Calls Try.prog 6 #[.int .i64 o, .int .i64 1, .int .i64 a2, .int .i64 i] w fun e w' => e = .returned (.bool true) ∧ Below w.heap.size w w' := by
  have hv := low8
  go_enter Try.func6, Try.ntmps6
  go_wp2_with (first | (go_at_call 8; refine (alive4_says _).mono ?_; rintro e w1 ⟨rfl, hB⟩) | (go_at_call 9; refine (new_says _ _).mono ?_; rintro e w2 ⟨h, g, ⟨rfl, hm, hh, hg, hb⟩⟩; have hg := Nat.le_trans hB.size hg; have hB := hB.trans (hb.mono hB.size)))
  obtain ⟨N, hN⟩ : ∃ N : Nat, N = 1024 := ⟨_, rfl⟩
  have HN := Lib.hid hN; clear hN
  go_loopw [11] (fun i wr => ∃ k : Nat, k ≤ N ∧ i = .int .i64 k ∧ Page1 wr h g ∧ Below w.heap.size w wr) (fun i _ => N - (intOf i).toNat)
  case atStart => exact ⟨0, Nat.zero_le _, rfl, made1 hm, hB⟩
  case round =>
    have HB := Lib.hid hB; clear hB hm
    obtain ⟨k, hk, rfl, ⟨bs, hmr, hl⟩, hB⟩ := hrel
    have hP : ∀ w' b', Mem 46 w' h g b' → b'.length = bs.length → Page1 w' h g := fun w' b' hm he => ⟨b', hm, he.trans hl⟩
    have F : okc bs.length (o : Int) 1 := ⟨by omega, hr, by unfold fits; omega⟩
    have hr' := Lib.hid hr; clear hr
    obtain ⟨k2, v2⟩ := behind bs o 1 i a2 F (by omega)
    rw [if_neg (by omega)] at v2
    rw [show ((1 : Nat) : Int) = 1 from rfl] at k2 v2
    have k1 : okc bs.length (i : Int) 1 := by rw [stv_length] at k2; exact k2
    clear hl F
    have HP := Lib.hid hP; clear hP
    go_wp2_with (first | (go_at_call 12; refine (store_says hmr _ _ _ (by omega)).mono ?_; rintro e w3 ⟨rfl, hm2, ho⟩; have hB := hB.trans (ho.below hg)) | (go_at_call 13; refine (load_says ‹Mem _ _ _ _ _› _ _ (by omega)).mono ?_; rintro e w' ⟨rfl, rfl⟩))
    · have hlt : (k : Int) < 1024 := by assumption
      go_roundw
      case rel => exact ⟨k + 1, by have := HN.out; omega, by go_num, HP.out _ _ hm2 (stv_length _ _ _ _), hB⟩
      case measure => have := HN.out; simp [intOf]; omega
    all_goals
      go_ret
      first
        | exact ⟨rfl, hB⟩
        | exact ⟨ret_bool (by simp), hB⟩
set_option maxRecDepth 20000 in
set_option maxHeartbeats 1000000 in
theorem leg_in2 (o j : Nat) (a2 : Int) (hj : j < 2) (ho0 : o ≤ 4000) (hr : (o : Int) % 2 = 0) (w : World) :
    Calls Try.prog 6 #[.int .i64 o, .int .i64 2, .int .i64 a2, .int .i64 (o + j)] w fun e w' => e = .returned (.bool true) ∧ Below w.heap.size w w' := by
  have hv := low8
  go_enter Try.func6, Try.ntmps6
  go_wp2_with (first | (go_at_call 8; refine (alive4_says _).mono ?_; rintro e w1 ⟨rfl, hB⟩) | (go_at_call 9; refine (new_says _ _).mono ?_; rintro e w2 ⟨h, g, ⟨rfl, hm, hh, hg, hb⟩⟩; have hg := Nat.le_trans hB.size hg; have hB := hB.trans (hb.mono hB.size)))
  obtain ⟨N, hN⟩ : ∃ N : Nat, N = 1024 := ⟨_, rfl⟩
  have HN := Lib.hid hN; clear hN
  go_loopw [11] (fun i wr => ∃ k : Nat, k ≤ N ∧ i = .int .i64 k ∧ Page1 wr h g ∧ Below w.heap.size w wr) (fun i _ => N - (intOf i).toNat)
  case atStart => exact ⟨0, Nat.zero_le _, rfl, made1 hm, hB⟩
  case round =>
    have HB := Lib.hid hB; clear hB hm
    obtain ⟨k, hk, rfl, ⟨bs, hmr, hl⟩, hB⟩ := hrel
    have hP : ∀ w' b', Mem 46 w' h g b' → b'.length = bs.length → Page1 w' h g := fun w' b' hm he => ⟨b', hm, he.trans hl⟩
    have F : okc bs.length (o : Int) 2 := ⟨by omega, hr, by unfold fits; omega⟩
    have hr' := Lib.hid hr; clear hr
    obtain ⟨k2, v2⟩ := behind bs o 2 (o + j) a2 F (by omega)
    rw [if_pos (by omega), Nat.add_sub_cancel_left, ← p256, Int.natCast_add] at v2
    rw [Int.natCast_add] at k2
    rw [show ((2 : Nat) : Int) = 2 from rfl] at k2 v2
    have k1 : okc bs.length ((o : Int) + j) 1 := by rw [stv_length] at k2; exact k2
    clear hl F
    have HP := Lib.hid hP; clear hP
    go_wp2_with (first | (go_at_call 12; refine (store_says hmr _ _ _ (by omega)).mono ?_; rintro e w3 ⟨rfl, hm2, ho⟩; have hB := hB.trans (ho.below hg)) | (go_at_call 13; refine (load_says ‹Mem _ _ _ _ _› _ _ (by omega)).mono ?_; rintro e w' ⟨rfl, rfl⟩))
    · have hlt : (k : Int) < 1024 := by assumption
      go_roundw
      case rel => exact ⟨k + 1, by have := HN.out; omega, by go_num, HP.out _ _ hm2 (stv_length _ _ _ _), hB⟩
      case measure => have := HN.out; simp [intOf]; omega
    all_goals
      go_ret
      first
        | exact ⟨rfl, hB⟩
        | exact ⟨ret_bool (by simp), hB⟩
set_option maxRecDepth 20000 in
set_option maxHeartbeats 1000000 in
theorem leg_out2 (o i : Nat) (a2 : Int) (hno : i < o ∨ o + 2 ≤ i) (ho0 : o ≤ 4000) (hi0 : i ≤ 4095) (hr : (o : Int) % 2 = 0) (w : World) :
    Calls Try.prog 6 #[.int .i64 o, .int .i64 2, .int .i64 a2, .int .i64 i] w fun e w' => e = .returned (.bool true) ∧ Below w.heap.size w w' := by
  have hv := low8
  go_enter Try.func6, Try.ntmps6
  go_wp2_with (first | (go_at_call 8; refine (alive4_says _).mono ?_; rintro e w1 ⟨rfl, hB⟩) | (go_at_call 9; refine (new_says _ _).mono ?_; rintro e w2 ⟨h, g, ⟨rfl, hm, hh, hg, hb⟩⟩; have hg := Nat.le_trans hB.size hg; have hB := hB.trans (hb.mono hB.size)))
  obtain ⟨N, hN⟩ : ∃ N : Nat, N = 1024 := ⟨_, rfl⟩
  have HN := Lib.hid hN; clear hN
  go_loopw [11] (fun i wr => ∃ k : Nat, k ≤ N ∧ i = .int .i64 k ∧ Page1 wr h g ∧ Below w.heap.size w wr) (fun i _ => N - (intOf i).toNat)
  case atStart => exact ⟨0, Nat.zero_le _, rfl, made1 hm, hB⟩
  case round =>
    have HB := Lib.hid hB; clear hB hm
    obtain ⟨k, hk, rfl, ⟨bs, hmr, hl⟩, hB⟩ := hrel
    have hP : ∀ w' b', Mem 46 w' h g b' → b'.length = bs.length → Page1 w' h g := fun w' b' hm he => ⟨b', hm, he.trans hl⟩
    have F : okc bs.length (o : Int) 2 := ⟨by omega, hr, by unfold fits; omega⟩
    have hr' := Lib.hid hr; clear hr
    obtain ⟨k2, v2⟩ := behind bs o 2 i a2 F (by omega)
    rw [if_neg (by omega)] at v2
    rw [show ((2 : Nat) : Int) = 2 from rfl] at k2 v2
    have k1 : okc bs.length (i : Int) 1 := by rw [stv_length] at k2; exact k2
    clear hl F
    have HP := Lib.hid hP; clear hP
    go_wp2_with (first | (go_at_call 12; refine (store_says hmr _ _ _ (by omega)).mono ?_; rintro e w3 ⟨rfl, hm2, ho⟩; have hB := hB.trans (ho.below hg)) | (go_at_call 13; refine (load_says ‹Mem _ _ _ _ _› _ _ (by omega)).mono ?_; rintro e w' ⟨rfl, rfl⟩))
    · have hlt : (k : Int) < 1024 := by assumption
      go_roundw
      case rel => exact ⟨k + 1, by have := HN.out; omega, by go_num, HP.out _ _ hm2 (stv_length _ _ _ _), hB⟩
      case measure => have := HN.out; simp [intOf]; omega
    all_goals
      go_ret
      first
        | exact ⟨rfl, hB⟩
        | exact ⟨ret_bool (by simp), hB⟩
set_option maxRecDepth 20000 in
set_option maxHeartbeats 1000000 in
theorem leg_in4 (o j : Nat) (a2 : Int) (hj : j < 4) (ho0 : o ≤ 4000) (hr : (o : Int) % 4 = 0) (w : World) :
    Calls Try.prog 6 #[.int .i64 o, .int .i64 4, .int .i64 a2, .int .i64 (o + j)] w fun e w' => e = .returned (.bool true) ∧ Below w.heap.size w w' := by
  have hv := low8
  go_enter Try.func6, Try.ntmps6
  go_wp2_with (first | (go_at_call 8; refine (alive4_says _).mono ?_; rintro e w1 ⟨rfl, hB⟩) | (go_at_call 9; refine (new_says _ _).mono ?_; rintro e w2 ⟨h, g, ⟨rfl, hm, hh, hg, hb⟩⟩; have hg := Nat.le_trans hB.size hg; have hB := hB.trans (hb.mono hB.size)))
  obtain ⟨N, hN⟩ : ∃ N : Nat, N = 1024 := ⟨_, rfl⟩
  have HN := Lib.hid hN; clear hN
  go_loopw [11] (fun i wr => ∃ k : Nat, k ≤ N ∧ i = .int .i64 k ∧ Page1 wr h g ∧ Below w.heap.size w wr) (fun i _ => N - (intOf i).toNat)
  case atStart => exact ⟨0, Nat.zero_le _, rfl, made1 hm, hB⟩
  case round =>
    have HB := Lib.hid hB; clear hB hm
    obtain ⟨k, hk, rfl, ⟨bs, hmr, hl⟩, hB⟩ := hrel
    have hP : ∀ w' b', Mem 46 w' h g b' → b'.length = bs.length → Page1 w' h g := fun w' b' hm he => ⟨b', hm, he.trans hl⟩
    have F : okc bs.length (o : Int) 4 := ⟨by omega, hr, by unfold fits; omega⟩
    have hr' := Lib.hid hr; clear hr
    obtain ⟨k2, v2⟩ := behind bs o 4 (o + j) a2 F (by omega)
    rw [if_pos (by omega), Nat.add_sub_cancel_left, ← p256, Int.natCast_add] at v2
    rw [Int.natCast_add] at k2
    rw [show ((4 : Nat) : Int) = 4 from rfl] at k2 v2
    have k1 : okc bs.length ((o : Int) + j) 1 := by rw [stv_length] at k2; exact k2
    clear hl F
    have HP := Lib.hid hP; clear hP
    go_wp2_with (first | (go_at_call 12; refine (store_says hmr _ _ _ (by omega)).mono ?_; rintro e w3 ⟨rfl, hm2, ho⟩; have hB := hB.trans (ho.below hg)) | (go_at_call 13; refine (load_says ‹Mem _ _ _ _ _› _ _ (by omega)).mono ?_; rintro e w' ⟨rfl, rfl⟩))
    · have hlt : (k : Int) < 1024 := by assumption
      go_roundw
      case rel => exact ⟨k + 1, by have := HN.out; omega, by go_num, HP.out _ _ hm2 (stv_length _ _ _ _), hB⟩
      case measure => have := HN.out; simp [intOf]; omega
    all_goals
      go_ret
      first
        | exact ⟨rfl, hB⟩
        | exact ⟨ret_bool (by simp), hB⟩
set_option maxRecDepth 20000 in
set_option maxHeartbeats 1000000 in
theorem leg_out4 (o i : Nat) (a2 : Int) (hno : i < o ∨ o + 4 ≤ i) (ho0 : o ≤ 4000) (hi0 : i ≤ 4095) (hr : (o : Int) % 4 = 0) (w : World) :
    Calls Try.prog 6 #[.int .i64 o, .int .i64 4, .int .i64 a2, .int .i64 i] w fun e w' => e = .returned (.bool true) ∧ Below w.heap.size w w' := by
  have hv := low8
  go_enter Try.func6, Try.ntmps6
  go_wp2_with (first | (go_at_call 8; refine (alive4_says _).mono ?_; rintro e w1 ⟨rfl, hB⟩) | (go_at_call 9; refine (new_says _ _).mono ?_; rintro e w2 ⟨h, g, ⟨rfl, hm, hh, hg, hb⟩⟩; have hg := Nat.le_trans hB.size hg; have hB := hB.trans (hb.mono hB.size)))
  obtain ⟨N, hN⟩ : ∃ N : Nat, N = 1024 := ⟨_, rfl⟩
  have HN := Lib.hid hN; clear hN
  go_loopw [11] (fun i wr => ∃ k : Nat, k ≤ N ∧ i = .int .i64 k ∧ Page1 wr h g ∧ Below w.heap.size w wr) (fun i _ => N - (intOf i).toNat)
  case atStart => exact ⟨0, Nat.zero_le _, rfl, made1 hm, hB⟩
  case round =>
    have HB := Lib.hid hB; clear hB hm
    obtain ⟨k, hk, rfl, ⟨bs, hmr, hl⟩, hB⟩ := hrel
    have hP : ∀ w' b', Mem 46 w' h g b' → b'.length = bs.length → Page1 w' h g := fun w' b' hm he => ⟨b', hm, he.trans hl⟩
    have F : okc bs.length (o : Int) 4 := ⟨by omega, hr, by unfold fits; omega⟩
    have hr' := Lib.hid hr; clear hr
    obtain ⟨k2, v2⟩ := behind bs o 4 i a2 F (by omega)
    rw [if_neg (by omega)] at v2
    rw [show ((4 : Nat) : Int) = 4 from rfl] at k2 v2
    have k1 : okc bs.length (i : Int) 1 := by rw [stv_length] at k2; exact k2
    clear hl F
    have HP := Lib.hid hP; clear hP
    go_wp2_with (first | (go_at_call 12; refine (store_says hmr _ _ _ (by omega)).mono ?_; rintro e w3 ⟨rfl, hm2, ho⟩; have hB := hB.trans (ho.below hg)) | (go_at_call 13; refine (load_says ‹Mem _ _ _ _ _› _ _ (by omega)).mono ?_; rintro e w' ⟨rfl, rfl⟩))
    · have hlt : (k : Int) < 1024 := by assumption
      go_roundw
      case rel => exact ⟨k + 1, by have := HN.out; omega, by go_num, HP.out _ _ hm2 (stv_length _ _ _ _), hB⟩
      case measure => have := HN.out; simp [intOf]; omega
    all_goals
      go_ret
      first
        | exact ⟨rfl, hB⟩
        | exact ⟨ret_bool (by simp), hB⟩
theorem walk (a0 : Int) (a1 : Int) (a2 : Int) (a3 : Int) (w0 : (Lit.int .i64 a0).wf = true) (w1 : (Lit.int .i64 a1).wf = true) (w2 : (Lit.int .i64 a2).wf = true) (w3 : (Lit.int .i64 a3).wf = true) (w : World) :
    Calls Try.prog 6 #[.int .i64 a0, .int .i64 a1, .int .i64 a2, .int .i64 a3] w fun e w' => e = .returned (.bool true) ∧ Below w.heap.size w w' := by
  by_cases hs : 0 ≤ a0 ∧ a0 ≤ 4000 ∧ 0 ≤ a3 ∧ a3 ≤ 4095 ∧ (a1 = 1 ∨ a1 = 2 ∨ a1 = 4) ∧ a0 % a1 = 0
  · obtain ⟨h0, h1, h2, h3, hs, hr⟩ := hs
    obtain ⟨o, rfl⟩ := Int.eq_ofNat_of_zero_le h0
    obtain ⟨i, rfl⟩ := Int.eq_ofNat_of_zero_le h2
    rcases hs with rfl | rfl | rfl
    · by_cases hi : o ≤ i ∧ i < o + 1
      · obtain ⟨j, rfl⟩ := Nat.exists_eq_add_of_le hi.1
        rw [Int.natCast_add]; exact leg_in1 o j a2 (by omega) (by omega) hr w
      · exact leg_out1 o i a2 (by omega) (by omega) (by omega) hr w
    · by_cases hi : o ≤ i ∧ i < o + 2
      · obtain ⟨j, rfl⟩ := Nat.exists_eq_add_of_le hi.1
        rw [Int.natCast_add]; exact leg_in2 o j a2 (by omega) (by omega) hr w
      · exact leg_out2 o i a2 (by omega) (by omega) (by omega) hr w
    · by_cases hi : o ≤ i ∧ i < o + 4
      · obtain ⟨j, rfl⟩ := Nat.exists_eq_add_of_le hi.1
        rw [Int.natCast_add]; exact leg_in4 o j a2 (by omega) (by omega) hr w
      · exact leg_out4 o i a2 (by omega) (by omega) (by omega) hr w
  · have HS := Lib.hid hs; clear hs
    go_enter Try.func6, Try.ntmps6
    go_wp2_with (first | (go_at_call 8; refine (alive4_says _).mono ?_; rintro e w1 ⟨rfl, hB⟩) | (go_at_call 9; first | exact (apart_no1 HS.out (by assumption) (by assumption)).elim | exact (apart_no2 2 (by decide) HS.out (by assumption) (by assumption)).elim | exact (apart_no2 4 (by decide) HS.out (by assumption) (by assumption)).elim))
    all_goals
      go_ret
      exact ⟨rfl, hB⟩

/-! ### THE ROW's STEP: WRITTEN OUT: LEAVE IT -/
set_option maxRecDepth 100000 in
theorem lifted (os : Os) (started : os.Started) (H : Type) (enc : TypeId × Value → H) :
    ReturnsInHanded {} Try.checked os 6 .any (Rows.physApartSpec.pre6 enc Try.prog Try.f6 Rows.physApartRow.domain false) (Rows.physApartSpec.post enc Try.prog Try.f6 false true false false) := by
  refine returnsInHanded_of_change (C := Try.checked) own started (by kernel_rfl) Try.func6
    (ChangeSpec.witness6 (enc := enc) (C := Try.checked) false ⟨#[], #[.int .i64 0, .int .i64 0, .int .i64 0, .int .i64 0], []⟩ 8 (by kernel_rfl) (by kernel_rfl) (by kernel_rfl) (by kernel_rfl)) ?_
  intro W base args ds gs before hval0 hW hcnd _
  have hval : ∀ (j : Nat) t v, Try.f6.params[j]? = some t → args[j]? = some v → Value.okWide Try.prog W .any base t v := hval0
  have hW' := hW
  obtain ⟨p, q, hA0, hV, rfl, hfz, hnd⟩ := hW
  have hA : DataW.TrodAll enc Try.prog W 0 (fun _ => true) true Try.f6.params.toList args.toList ds p := hA0
  rw [Try.params6] at hA hval
  obtain ⟨v0, vs0, d0, ds0, p0, q0, hargs, rfl, rfl, h0, r0⟩ := trodAll_cons hA
  obtain ⟨v1, vs1, d1, ds1, p1, q1, rfl, rfl, rfl, h1, r1⟩ := trodAll_cons r0
  obtain ⟨v2, vs2, d2, ds2, p2, q2, rfl, rfl, rfl, h2, r2⟩ := trodAll_cons r1
  obtain ⟨v3, vs3, d3, ds3, p3, q3, rfl, rfl, rfl, h3, r3⟩ := trodAll_cons r2
  obtain ⟨rfl, rfl, rfl⟩ := trodAll_nil r3
  obtain rfl : args = #[v0, v1, v2, v3] := by cases args; simp_all
  obtain ⟨rfl, rfl⟩ := trodVars_none hV
  obtain ⟨a0, rfl, rfl, rfl, w0⟩ := open_int Try.underlying3 (hval 0 3 v0 rfl rfl) h0
  obtain ⟨a1, rfl, rfl, rfl, w1⟩ := open_int Try.underlying3 (hval 1 3 v1 rfl rfl) h1
  obtain ⟨a2, rfl, rfl, rfl, w2⟩ := open_int Try.underlying3 (hval 2 3 v2 rfl rfl) h2
  obtain ⟨a3, rfl, rfl, rfl, w3⟩ := open_int Try.underlying3 (hval 3 3 v3 rfl rfl) h3
  clear hA0 hval0
  simp only [List.append_nil] at hW'
  refine (walk a0 a1 a2 a3 w0 w1 w2 w3 W).mono fun e W' ⟨he, hg⟩ => ?_
  subst he
  exact ⟨_, rfl, _, _, _, [], [], [], hW', (trodAll_cons_mk (shut_bool Try.underlying4 _) trodAll_mk0), (trodAll_cons_mk (shut_int Try.underlying3 w0) (trodAll_cons_mk (shut_int Try.underlying3 w1) (trodAll_cons_mk (shut_int Try.underlying3 w2) (trodAll_cons_mk (shut_int Try.underlying3 w3) trodAll_mk0)))), rfl, hg.frame _, fun h => by cases h⟩

theorem over : Rows.physApartRow.holds Try.pinned (OpenSpec.ofChange Rows.physApartSpec) :=
  OpenClaim.holds_of_wide 6 Try.f6 rfl rfl rfl rfl rfl rfl rfl ⟨rfl, rfl, rfl, rfl, rfl⟩ rfl rfl rfl rfl rfl (by kernel_rfl) Try.func6 (by kernel_rfl)
    (of_decide_eq_true (by kernel_rfl)) (by unfold Func.isWrapper; first | (rw [if_pos (by decide +kernel)]; kernel_rfl) | (rw [if_neg (by decide +kernel)]; exact ⟨rfl, rfl⟩))
    (fun os started H enc _ => lifted os started H enc)

/-- ████ THE STATEMENT ████ -/
theorem proved : Rows.PhysApartSaid :=
  over
end Go.Proofs.Ythagnbmoedppgaa.physApart
