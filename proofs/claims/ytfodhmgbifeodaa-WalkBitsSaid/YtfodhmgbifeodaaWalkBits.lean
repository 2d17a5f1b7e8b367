/-
  Which accesses each row of an entry's bits lets through (law WalkBits returns true).
  No condition: whatever the arguments are.
-/
import Derived.Test.YtfodhmgbifeodaaRows
import Derived.WalkKit
import Derived.ProofKit
import Derived.OpenShut
import Derived.Test.YtfodhmgbifeodaaWalkBoth
namespace Go.Proofs.Ytfodhmgbifeodaa.walkBits
open Go.ChangeShapes Go.WideShapes Go.ChangeAt Go.RowKit
set_option linter.unusedVariables false      -- a walk need not use every 'w<i>' (that an integer argument fits its kind)

theorem own : ownKnob Try.prog.godebug = none := by kernel_rfl

theorem two_pokes (w : World) (x0 v0 x1 v1 : Int) : Pokes (w.alloc (.cells #[.int .i64 x0, .int .i64 v0, .int .i64 x1, .int .i64 v1] 35)) (some ⟨w.heap.size, 0, none⟩) 2 (fun i => if i = 0 then (x0, v0) else (x1, v1)) := by
  have h : (w.alloc (.cells #[.int .i64 x0, .int .i64 v0, .int .i64 x1, .int .i64 v1] 35)).heap[w.heap.size]? = some (.cells #[.int .i64 x0, .int .i64 v0, .int .i64 x1, .int .i64 v1] 35 (0, 0)) := heap_alloc_new _ _
  refine ⟨fun _ => ⟨w.heap.size, 0, rfl, (Array.getElem?_eq_some_iff.1 h).1, fun i hi => ?_⟩⟩
  rw [cell_of_row _ _ _ _ _ _ h, cell_of_row _ _ _ _ _ _ h]
  have : i = 0 ∨ i = 1 := by omega
  rcases this with rfl | rfl <;> exact ⟨rfl, rfl⟩
theorem two_bytes (x0 v0 x1 v1 : Int) : bothL 3 (fun i => if i = 0 then (x0, v0) else (x1, v1)) 2 = poke (List.replicate 12288 0) [(x0, v0), (x1, v1)] := rfl
theorem bad_low (F b : Int) (k : Int) (hk : k = 0 ∨ k = 1 ∨ k = 2) (u : Bool) : bad2 (F * 4096 + b) k u ↔ (b % 2 = 0 ∨ b / kb k % 2 = 0 ∨ (u = true ∧ b / 16 % 2 = 0) ∨ (kk k = 0 ∧ ¬ b / 16 % 2 = 0 ∧ u = false)) := by
  have e1 : (F * 4096 + b) % 2 = b % 2 := by omega
  have e2 : (F * 4096 + b) / 16 % 2 = b / 16 % 2 := by omega
  have e3 : (F * 4096 + b) / kb k % 2 = b / kb k % 2 := by
    rcases hk with rfl | rfl | rfl
    · show (F * 4096 + b) / 8 % 2 = b / 8 % 2; omega
    · show (F * 4096 + b) / 2 % 2 = b / 2 % 2; omega
    · show (F * 4096 + b) / 4 % 2 = b / 4 % 2; omega
  unfold bad2; rw [e1, e2, e3]
theorem wd_wd (n : Int) : wd (wd n) = wd n := by unfold wd; omega
set_option maxRecDepth 100000 in
set_option maxHeartbeats 4000000 in
theorem walk (a0 : Int) (a1 : Int) (a2 : Int) (a3 : Int) (a4 : Bool) (w0 : (Lit.int .i64 a0).wf = true) (w1 : (Lit.int .i64 a1).wf = true) (w2 : (Lit.int .i64 a2).wf = true) (w3 : (Lit.int .i64 a3).wf = true) (w : World) :
    Calls Try.prog 4 #[.int .i64 a0, .int .i64 a1, .int .i64 a2, .int .i64 a3, .bool a4] w fun e w' => e = .returned (.bool true) ∧ Below w.heap.size w w' := by
  by_cases hs : 0 ≤ a1 ∧ a1 ≤ 1048575 ∧ 0 ≤ a3 ∧ a3 ≤ 2
  · obtain ⟨f0, f1, k0, k1⟩ := hs
    obtain ⟨V, hV⟩ : ∃ V, V = wd a2 := ⟨_, rfl⟩
    have hVV : wd V = V := by rw [hV, wd_wd]
    have V0 := wd_lo a2
    have V1 := wd_hi a2
    rw [← hV] at V0 V1
    obtain ⟨b, hb⟩ : ∃ b, b = a0 % 32 := ⟨_, rfl⟩
    have eb := and31 a0
    rw [← hb] at eb
    have b0 : 0 ≤ b ∧ b ≤ 31 := by omega
    have hw := walk_bits b a1 V a3 a4 b0.1 b0.2 f0 f1 hVV
    have hk : kk a3 = a3 := by unfold kk; split <;> omega
    rw [hk] at hw
    have j1 := join12 a1 b f0 f1 b0.1 (by omega)
    have j2 := join12 a1 (V % 4096) f0 f1 (by omega) (by omega)
    have m10 := and10b (V / 4096)
    have m12 := and12 V
    have hby := two_bytes (1024 + V / 4194304) 8193 (2048 + V / 4096 % 1024) (a1 * 4096 + b)
    obtain ⟨bs, hbs⟩ : ∃ bs, bs = poke (List.replicate 12288 0) [(1024 + V / 4194304, 8193), (2048 + V / 4096 % 1024, a1 * 4096 + b)] := ⟨_, rfl⟩
    rw [← hbs] at hw hby
    obtain ⟨x, c, h1⟩ : ∃ x c, walkV bs 2147483649 V a3 a4 = (x, c) := ⟨_, _, rfl⟩
    rw [h1] at hw
    have HV := Lib.hid hV; have HB := Lib.hid hby; have HW := Lib.hid hw; have H1 := Lib.hid h1; have HE := Lib.hid hb
    clear hV hVV hb hw hk hby hbs h1
    go_enter Try.func4, Try.ntmps4
    go_upto_region 6 with (first
      | (go_at_call 10; refine (alive5_says _).mono ?_; rintro e w1 ⟨rfl, hL⟩)
      | (go_at_call 14; refine (w_says _ _).mono ?_; rintro e t' ⟨rfl, rfl⟩; rw [← HV.out]))
    go_upto_region 7 with (go_at_call 11; refine (both_says 3 _ _ _ _ (two_pokes w1 (1024 + V / 4194304) 8193 (2048 + V / 4096 % 1024) (a1 * 4096 + b)) (by decide)).mono ?_; rintro e w2 ⟨hm, gm, hr, gr, hT⟩; obtain rfl := hT.e; have T := hT.t; rw [HB.out] at T)
    have hB1 : Below w.heap.size w w2 := below_then (below_then hL ((Below.refl _ _).alloc (Nat.le_refl _) _)) T.b
    go_upto_region 8 with (go_at_call 15; refine (walk_says T.m _ _ _ _).mono ?_; rintro e w3 ⟨rfl, hb3⟩; rw [H1.out])
    have hB3 := below_then hB1 hb3
    clear hb3 hB1 T hT hL
    have hw := HW.out
    have hk : a3 = 0 ∨ a3 = 1 ∨ a3 = 2 := by omega
    have b1 := and1 b
    have b2 := and2 b
    have b4 := and4 b
    have b8 := and8 b
    have b16 := and16 b
    have t1 : b % 2 = 0 ∨ b % 2 = 1 := by omega
    have t2 : b / 2 % 2 = 0 ∨ b / 2 % 2 = 1 := by omega
    have t4 : b / 4 % 2 = 0 ∨ b / 4 % 2 = 1 := by omega
    have t8 : b / 8 % 2 = 0 ∨ b / 8 % 2 = 1 := by omega
    have t16 : b / 16 % 2 = 0 ∨ b / 16 % 2 = 1 := by omega
    simp only [bad_low a1 b a3 hk a4] at hw
    clear H1 HB HV HE HW
    rcases hk with rfl | rfl | rfl
    · rw [show kb 0 = 8 by decide, show kk 0 = 0 by decide] at hw
      cases a4
      · rcases t1 with e1 | e1
        · rw [e1] at b1
          simp [e1] at hw
          obtain ⟨rfl, rfl⟩ := hw
          clear b2 b4 b8 b16 t2 t4 t8 t16
          go_wp2
          go_ret
          exact ⟨ret_bool (by simp), below_then hB3 ((Below.refl _ _).alloc (Nat.le_refl _) _)⟩
        · rw [e1] at b1
          rcases t8 with e2 | e2
          · rw [e2] at b8
            simp [e1, e2] at hw
            obtain ⟨rfl, rfl⟩ := hw
            go_wp2
            go_ret
            exact ⟨ret_bool (by simp), below_then hB3 ((Below.refl _ _).alloc (Nat.le_refl _) _)⟩
          · rw [e2] at b8
            rcases t16 with e3 | e3
            all_goals
              rw [e3] at b16
              simp [e1, e2, e3] at hw
              obtain ⟨rfl, rfl⟩ := hw
              go_wp2
              go_ret
              exact ⟨ret_bool (by simp), below_then hB3 ((Below.refl _ _).alloc (Nat.le_refl _) _)⟩
      · rcases t1 with e1 | e1
        · rw [e1] at b1
          simp [e1] at hw
          obtain ⟨rfl, rfl⟩ := hw
          clear b2 b4 b8 b16 t2 t4 t8 t16
          go_wp2
          go_ret
          exact ⟨ret_bool (by simp), below_then hB3 ((Below.refl _ _).alloc (Nat.le_refl _) _)⟩
        · rw [e1] at b1
          rcases t8 with e2 | e2
          · rw [e2] at b8
            simp [e1, e2] at hw
            obtain ⟨rfl, rfl⟩ := hw
            go_wp2
            go_ret
            exact ⟨ret_bool (by simp), below_then hB3 ((Below.refl _ _).alloc (Nat.le_refl _) _)⟩
          · rw [e2] at b8
            rcases t16 with e3 | e3
            all_goals
              rw [e3] at b16
              simp [e1, e2, e3] at hw
              obtain ⟨rfl, rfl⟩ := hw
              go_wp2
              go_ret
              exact ⟨ret_bool (by simp), below_then hB3 ((Below.refl _ _).alloc (Nat.le_refl _) _)⟩
    · rw [show kb 1 = 2 by decide, show kk 1 = 1 by decide] at hw
      cases a4
      · rcases t1 with e1 | e1
        · rw [e1] at b1
          simp [e1] at hw
          obtain ⟨rfl, rfl⟩ := hw
          clear b2 b4 b8 b16 t2 t4 t8 t16
          go_wp2
          go_ret
          exact ⟨ret_bool (by simp), below_then hB3 ((Below.refl _ _).alloc (Nat.le_refl _) _)⟩
        · rw [e1] at b1
          rcases t2 with e2 | e2
          · rw [e2] at b2
            simp [e1, e2] at hw
            obtain ⟨rfl, rfl⟩ := hw
            go_wp2
            go_ret
            exact ⟨ret_bool (by simp), below_then hB3 ((Below.refl _ _).alloc (Nat.le_refl _) _)⟩
          · rw [e2] at b2
            rcases t16 with e3 | e3
            all_goals
              rw [e3] at b16
              simp [e1, e2, e3] at hw
              obtain ⟨rfl, rfl⟩ := hw
              go_wp2
              go_ret
              exact ⟨ret_bool (by simp), below_then hB3 ((Below.refl _ _).alloc (Nat.le_refl _) _)⟩
      · rcases t1 with e1 | e1
        · rw [e1] at b1
          simp [e1] at hw
          obtain ⟨rfl, rfl⟩ := hw
          clear b2 b4 b8 b16 t2 t4 t8 t16
          go_wp2
          go_ret
          exact ⟨ret_bool (by simp), below_then hB3 ((Below.refl _ _).alloc (Nat.le_refl _) _)⟩
        · rw [e1] at b1
          rcases t2 with e2 | e2
          · rw [e2] at b2
            simp [e1, e2] at hw
            obtain ⟨rfl, rfl⟩ := hw
            go_wp2
            go_ret
            exact ⟨ret_bool (by simp), below_then hB3 ((Below.refl _ _).alloc (Nat.le_refl _) _)⟩
          · rw [e2] at b2
            rcases t16 with e3 | e3
            all_goals
              rw [e3] at b16
              simp [e1, e2, e3] at hw
              obtain ⟨rfl, rfl⟩ := hw
              go_wp2
              go_ret
              exact ⟨ret_bool (by simp), below_then hB3 ((Below.refl _ _).alloc (Nat.le_refl _) _)⟩
    · rw [show kb 2 = 4 by decide, show kk 2 = 2 by decide] at hw
      cases a4
      · rcases t1 with e1 | e1
        · rw [e1] at b1
          simp [e1] at hw
          obtain ⟨rfl, rfl⟩ := hw
          clear b2 b4 b8 b16 t2 t4 t8 t16
          go_wp2
          go_ret
          exact ⟨ret_bool (by simp), below_then hB3 ((Below.refl _ _).alloc (Nat.le_refl _) _)⟩
        · rw [e1] at b1
          rcases t4 with e2 | e2
          · rw [e2] at b4
            simp [e1, e2] at hw
            obtain ⟨rfl, rfl⟩ := hw
            go_wp2
            go_ret
            exact ⟨ret_bool (by simp), below_then hB3 ((Below.refl _ _).alloc (Nat.le_refl _) _)⟩
          · rw [e2] at b4
            rcases t16 with e3 | e3
            all_goals
              rw [e3] at b16
              simp [e1, e2, e3] at hw
              obtain ⟨rfl, rfl⟩ := hw
              go_wp2
              go_ret
              exact ⟨ret_bool (by simp), below_then hB3 ((Below.refl _ _).alloc (Nat.le_refl _) _)⟩
      · rcases t1 with e1 | e1
        · rw [e1] at b1
          simp [e1] at hw
          obtain ⟨rfl, rfl⟩ := hw
          clear b2 b4 b8 b16 t2 t4 t8 t16
          go_wp2
          go_ret
          exact ⟨ret_bool (by simp), below_then hB3 ((Below.refl _ _).alloc (Nat.le_refl _) _)⟩
        · rw [e1] at b1
          rcases t4 with e2 | e2
          · rw [e2] at b4
            simp [e1, e2] at hw
            obtain ⟨rfl, rfl⟩ := hw
            go_wp2
            go_ret
            exact ⟨ret_bool (by simp), below_then hB3 ((Below.refl _ _).alloc (Nat.le_refl _) _)⟩
          · rw [e2] at b4
            rcases t16 with e3 | e3
            all_goals
              rw [e3] at b16
              simp [e1, e2, e3] at hw
              obtain ⟨rfl, rfl⟩ := hw
              go_wp2
              go_ret
              exact ⟨ret_bool (by simp), below_then hB3 ((Below.refl _ _).alloc (Nat.le_refl _) _)⟩
  · have HS := Lib.hid hs; clear hs
    go_enter Try.func4, Try.ntmps4
    go_wp2_with (first
      | (go_at_call 10; refine (alive5_says _).mono ?_; rintro e w1 ⟨rfl, hL⟩)
      | (go_at_call 14; refine (w_says _ _).mono ?_; rintro e t' ⟨rfl, rfl⟩)
      | (go_at_call 11; exact (HS.out (by omega)).elim))
    all_goals
      go_ret
      exact ⟨rfl, hL⟩

/-! ### THE ROW's STEP: WRITTEN OUT: LEAVE IT -/
set_option maxRecDepth 100000 in
theorem lifted (os : Os) (started : os.Started) (H : Type) (enc : TypeId × Value → H) :
    ReturnsInHanded {} Try.checked os 4 .any (Rows.walkBitsSpec.pre6 enc Try.prog Try.f4 Rows.walkBitsRow.domain false) (Rows.walkBitsSpec.post enc Try.prog Try.f4 false true false false) := by
  refine returnsInHanded_of_change (C := Try.checked) own started (by kernel_rfl) Try.func4
    (ChangeSpec.witness6 (enc := enc) (C := Try.checked) false ⟨#[], #[.int .i64 0, .int .i64 0, .int .i64 0, .int .i64 0, .bool false], []⟩ 8 (by kernel_rfl) (by kernel_rfl) (by kernel_rfl) (by kernel_rfl)) ?_
  intro W base args ds gs before hval0 hW hcnd _
  have hval : ∀ (j : Nat) t v, Try.f4.params[j]? = some t → args[j]? = some v → Value.okWide Try.prog W .any base t v := hval0
  have hW' := hW
  obtain ⟨p, q, hA0, hV, rfl, hfz, hnd⟩ := hW
  have hA : DataW.TrodAll enc Try.prog W 0 (fun _ => true) true Try.f4.params.toList args.toList ds p := hA0
  rw [Try.params4] at hA hval
  obtain ⟨v0, vs0, d0, ds0, p0, q0, hargs, rfl, rfl, h0, r0⟩ := trodAll_cons hA
  obtain ⟨v1, vs1, d1, ds1, p1, q1, rfl, rfl, rfl, h1, r1⟩ := trodAll_cons r0
  obtain ⟨v2, vs2, d2, ds2, p2, q2, rfl, rfl, rfl, h2, r2⟩ := trodAll_cons r1
  obtain ⟨v3, vs3, d3, ds3, p3, q3, rfl, rfl, rfl, h3, r3⟩ := trodAll_cons r2
  obtain ⟨v4, vs4, d4, ds4, p4, q4, rfl, rfl, rfl, h4, r4⟩ := trodAll_cons r3
  obtain ⟨rfl, rfl, rfl⟩ := trodAll_nil r4
  obtain rfl : args = #[v0, v1, v2, v3, v4] := by cases args; simp_all
  obtain ⟨rfl, rfl⟩ := trodVars_none hV
  obtain ⟨a0, rfl, rfl, rfl, w0⟩ := open_int Try.underlying3 (hval 0 3 v0 rfl rfl) h0
  obtain ⟨a1, rfl, rfl, rfl, w1⟩ := open_int Try.underlying3 (hval 1 3 v1 rfl rfl) h1
  obtain ⟨a2, rfl, rfl, rfl, w2⟩ := open_int Try.underlying3 (hval 2 3 v2 rfl rfl) h2
  obtain ⟨a3, rfl, rfl, rfl, w3⟩ := open_int Try.underlying3 (hval 3 3 v3 rfl rfl) h3
  obtain ⟨a4, rfl, rfl, rfl⟩ := open_bool Try.underlying4 (hval 4 4 v4 rfl rfl) h4
  clear hA0 hval0
  simp only [List.append_nil] at hW'
  refine (walk a0 a1 a2 a3 a4 w0 w1 w2 w3 W).mono fun e W' ⟨he, hg⟩ => ?_
  subst he
  exact ⟨_, rfl, _, _, _, [], [], [], hW', (trodAll_cons_mk (shut_bool Try.underlying4 _) trodAll_mk0), (trodAll_cons_mk (shut_int Try.underlying3 w0) (trodAll_cons_mk (shut_int Try.underlying3 w1) (trodAll_cons_mk (shut_int Try.underlying3 w2) (trodAll_cons_mk (shut_int Try.underlying3 w3) (trodAll_cons_mk (shut_bool Try.underlying4 _) trodAll_mk0))))), rfl, hg.frame _, fun h => by cases h⟩

theorem over : Rows.walkBitsRow.holds Try.pinned (OpenSpec.ofChange Rows.walkBitsSpec) :=
  OpenClaim.holds_of_wide 4 Try.f4 rfl rfl rfl rfl rfl rfl rfl ⟨rfl, rfl, rfl, rfl, rfl⟩ rfl rfl rfl rfl rfl (by kernel_rfl) Try.func4 (by kernel_rfl)
    (of_decide_eq_true (by kernel_rfl)) (by unfold Func.isWrapper; first | (rw [if_pos (by decide +kernel)]; kernel_rfl) | (rw [if_neg (by decide +kernel)]; exact ⟨rfl, rfl⟩))
    (fun os started H enc _ => lifted os started H enc)

/-- ████ THE STATEMENT ████ -/
theorem proved : Rows.WalkBitsSaid :=
  over
end Go.Proofs.Ytfodhmgbifeodaa.walkBits
