/-
  What is walked is the entry that Map tells, with its rights (law WalkEntry returns true, and each argument reads as it read).
  No condition: whatever the arguments are.
-/
import Derived.Test.YtfodhmgbifeodaaWalkOpen
namespace Go.Proofs.Ytfodhmgbifeodaa.walkEntry
open Go.Proofs.Ytfodhmgbifeodaa
open Go.ChangeShapes Go.WideShapes Go.ChangeAt Go.RowKit
theorem poke_byt : ∀ (l : List (Int × Int)) (bs : List Int), Byt bs → Byt (poke bs l)
  | [], _, h => h
  | (a, v) :: r, bs, h => by
    rw [poke]; refine poke_byt r _ ?_
    split
    · exact h
    · exact stv_byt h _ _ _
theorem mapV_bd {bs : List Int} (hb : Byt bs) (t n : Int) {e : Int} (h : mapV bs t n = some e) : 0 ≤ e ∧ e ≤ 4294967295 := by
  unfold mapV at h
  split at h
  · cases h
  · split at h
    · cases h
    · split at h
      · cases h
      · split at h
        · cases h
        · rename_i x hx
          split at h
          · cases h
          · obtain rfl := Option.some.inj h; exact rd_bd hb hx
set_option maxRecDepth 100000 in
set_option maxHeartbeats 4000000 in
theorem walk {W : World} (a0 : Int) (lp : Option Addr) (len cap : Nat) (f : Nat → Int × Int) (hA : Pokes W lp len f) (hmx : len ≤ 9223372036854775807) (a2 : Int) (a3 : Int) (a4 : Int) :
    Calls Try.prog 9 #[.int .i64 a0, .slice lp len cap, .int .i64 a2, .int .i64 a3, .int .i64 a4] W fun e w' => e = .returned (.bool true) ∧ Below W.heap.size W w' := by
  by_cases hs : a0 ≤ 32 ∧ (len : Int) ≤ 200 ∧ 0 ≤ a3 ∧ a3 ≤ 1048575 ∧ 0 ≤ a2 ∧ a2 ≤ 1048575 ∧ 0 ≤ a4 ∧ a4 ≤ 2
  · obtain ⟨h32, h200, v0, v1, r0, r1, k0, k1⟩ := hs
    have hl4 : (bothL a0 f len).length % 4 = 0 := by rw [bothL_length]; omega
    have hBy : Byt (bothL a0 f len) := by
      unfold bothL
      exact poke_byt _ _ (fun b hb => by rw [List.mem_replicate] at hb; omega)
    obtain ⟨bs, hbs⟩ : ∃ bs, bs = bothL a0 f len := ⟨_, rfl⟩
    rw [← hbs] at hl4 hBy
    have j31 := join31 a2 r0 (by omega)
    have hw := walk_entry bs (2147483648 + a2) a3 a4 (by omega) v0 v1
    obtain ⟨x, c, h1⟩ : ∃ x c, walkV bs (2147483648 + a2) (a3 * 4096) a4 false = (x, c) := ⟨_, _, rfl⟩
    have HB := Lib.hid hbs; have L4 := Lib.hid hl4; clear hbs hl4
    cases hm : mapV bs (2147483648 + a2) a3 with
    | none =>
      rw [hm, h1] at hw
      dsimp only at hw
      have H1 := Lib.hid h1; have HM := Lib.hid hm; clear h1 hm
      have bc : (c != 0) = true := by simpa using hw
      clear hw
      go_enter Try.func9, Try.ntmps9
      go_wp2_with (first
        | (go_at_call 10; refine (alive5_says _).mono ?_; rintro e w1 ⟨rfl, hL⟩)
        | (go_at_call 11; refine (both_says a0 lp len cap f (hA.grow hL) (by omega)).mono ?_; rintro e w2 ⟨hm, gm, hr, gr, hT⟩; obtain rfl := hT.e; have T := hT.t; rw [← HB.out] at T)
        | (go_at_call 12; refine (map_says T.m _ _).mono ?_; rintro e w3 ⟨rfl, hb3⟩; rw [HM.out])
        | (go_at_call 15; refine (walk_says (T.m.grow hb3) _ _ _ false).mono ?_; rintro e w4 ⟨rfl, hb4⟩; rw [H1.out]))
      go_ret
      exact ⟨rfl, below_then (below_then (below_then hL T.b) hb3) hb4⟩
    | some e =>
      rw [hm, h1] at hw
      dsimp only at hw
      have be := mapV_bd hBy _ _ hm
      have H1 := Lib.hid h1; have HM := Lib.hid hm; clear h1 hm
      obtain ⟨-, hw1, hw2⟩ := hw
      have hk : a4 = 0 ∨ a4 = 1 ∨ a4 = 2 := by omega
      have e12 : IntKind.i64.wrap (e / 4096 * 4096) = e / 4096 * 4096 := IntWalk.i64_in _ (by omega)
      have g8 := and8 e
      have g2 := and2 e
      have g4 := and4 e
      have g16 := and16 e
      rcases hk with rfl | rfl | rfl
      · rw [show kb 0 = 8 by decide, show kk 0 = 0 by decide] at hw1
        go_enter Try.func9, Try.ntmps9
        go_upto_region 10 with (first
          | (go_at_call 10; refine (alive5_says _).mono ?_; rintro e w1 ⟨rfl, hL⟩)
          | (go_at_call 11; refine (both_says a0 lp len cap f (hA.grow hL) (by omega)).mono ?_; rintro e w2 ⟨hm, gm, hr, gr, hT⟩; obtain rfl := hT.e; have T := hT.t; rw [← HB.out] at T)
          | (go_at_call 12; refine (map_says T.m _ _).mono ?_; rintro e w3 ⟨rfl, hb3⟩; rw [HM.out])
          | (go_at_call 15; refine (walk_says (T.m.grow hb3) _ _ _ false).mono ?_; rintro e w4 ⟨rfl, hb4⟩; rw [H1.out]))
        by_cases q : e / 8 % 2 = 0
        · rw [q] at g8
          have bc : (c == 0) = false := by simpa using fun h => (hw1.1 h).1 q
          clear g2 g4 g16 hw1 hw2 q
          go_wp2_with (go_at_call 13; refine (rmap_says (((T.r.grow hb3).grow hb4).grow ((Below.refl _ _).alloc (Nat.le_refl _) _)) L4.out _ _).mono ?_; rintro e w5 ⟨rfl, hb5⟩; rw [HM.out])
          go_ret
          exact ⟨ret_bool (by simp), below_then (below_then (below_then (below_then (below_then hL T.b) hb3) hb4) ((Below.refl _ _).alloc (Nat.le_refl _) _)) hb5⟩
        · rw [show e / 8 % 2 = 1 by omega] at g8
          by_cases q16 : e / 16 % 2 = 0
          · obtain rfl := hw1.2 ⟨q, .inr q16⟩
            obtain rfl := hw2 rfl
            rw [q16] at g16
            clear g2 g4 hw1 hw2 q q16
            go_wp2_with (go_at_call 13; refine (rmap_says (((T.r.grow hb3).grow hb4).grow ((Below.refl _ _).alloc (Nat.le_refl _) _)) L4.out _ _).mono ?_; rintro e w5 ⟨rfl, hb5⟩; rw [HM.out])
            go_ret
            exact ⟨ret_bool (by simp), below_then (below_then (below_then (below_then (below_then hL T.b) hb3) hb4) ((Below.refl _ _).alloc (Nat.le_refl _) _)) hb5⟩
          · have bc : (c == 0) = false := by simpa using fun h => (hw1.1 h).2.elim (fun h => h trivial) q16
            rw [show e / 16 % 2 = 1 by omega] at g16
            clear g2 g4 hw1 hw2 q q16
            go_wp2_with (go_at_call 13; refine (rmap_says (((T.r.grow hb3).grow hb4).grow ((Below.refl _ _).alloc (Nat.le_refl _) _)) L4.out _ _).mono ?_; rintro e w5 ⟨rfl, hb5⟩; rw [HM.out])
            go_ret
            exact ⟨ret_bool (by simp), below_then (below_then (below_then (below_then (below_then hL T.b) hb3) hb4) ((Below.refl _ _).alloc (Nat.le_refl _) _)) hb5⟩
      · rw [show kb 1 = 2 by decide, show kk 1 = 1 by decide] at hw1
        go_enter Try.func9, Try.ntmps9
        go_upto_region 10 with (first
          | (go_at_call 10; refine (alive5_says _).mono ?_; rintro e w1 ⟨rfl, hL⟩)
          | (go_at_call 11; refine (both_says a0 lp len cap f (hA.grow hL) (by omega)).mono ?_; rintro e w2 ⟨hm, gm, hr, gr, hT⟩; obtain rfl := hT.e; have T := hT.t; rw [← HB.out] at T)
          | (go_at_call 12; refine (map_says T.m _ _).mono ?_; rintro e w3 ⟨rfl, hb3⟩; rw [HM.out])
          | (go_at_call 15; refine (walk_says (T.m.grow hb3) _ _ _ false).mono ?_; rintro e w4 ⟨rfl, hb4⟩; rw [H1.out]))
        by_cases q : e / 2 % 2 = 0
        · rw [q] at g2
          have bc : (c == 0) = false := by simpa using fun h => (hw1.1 h).1 q
          clear g8 g4 g16 hw1 hw2 q
          go_wp2_with (go_at_call 13; refine (rmap_says (((T.r.grow hb3).grow hb4).grow ((Below.refl _ _).alloc (Nat.le_refl _) _)) L4.out _ _).mono ?_; rintro e w5 ⟨rfl, hb5⟩; rw [HM.out])
          go_ret
          exact ⟨ret_bool (by simp), below_then (below_then (below_then (below_then (below_then hL T.b) hb3) hb4) ((Below.refl _ _).alloc (Nat.le_refl _) _)) hb5⟩
        · rw [show e / 2 % 2 = 1 by omega] at g2
          obtain rfl := hw1.2 ⟨q, .inl (by decide)⟩
          obtain rfl := hw2 rfl
          clear g8 g4 g16 hw1 hw2 q
          go_wp2_with (go_at_call 13; refine (rmap_says (((T.r.grow hb3).grow hb4).grow ((Below.refl _ _).alloc (Nat.le_refl _) _)) L4.out _ _).mono ?_; rintro e w5 ⟨rfl, hb5⟩; rw [HM.out])
          go_ret
          exact ⟨ret_bool (by simp), below_then (below_then (below_then (below_then (below_then hL T.b) hb3) hb4) ((Below.refl _ _).alloc (Nat.le_refl _) _)) hb5⟩
      · rw [show kb 2 = 4 by decide, show kk 2 = 2 by decide] at hw1
        go_enter Try.func9, Try.ntmps9
        go_upto_region 10 with (first
          | (go_at_call 10; refine (alive5_says _).mono ?_; rintro e w1 ⟨rfl, hL⟩)
          | (go_at_call 11; refine (both_says a0 lp len cap f (hA.grow hL) (by omega)).mono ?_; rintro e w2 ⟨hm, gm, hr, gr, hT⟩; obtain rfl := hT.e; have T := hT.t; rw [← HB.out] at T)
          | (go_at_call 12; refine (map_says T.m _ _).mono ?_; rintro e w3 ⟨rfl, hb3⟩; rw [HM.out])
          | (go_at_call 15; refine (walk_says (T.m.grow hb3) _ _ _ false).mono ?_; rintro e w4 ⟨rfl, hb4⟩; rw [H1.out]))
        by_cases q : e / 4 % 2 = 0
        · rw [q] at g4
          have bc : (c == 0) = false := by simpa using fun h => (hw1.1 h).1 q
          clear g8 g2 g16 hw1 hw2 q
          go_wp2_with (go_at_call 13; refine (rmap_says (((T.r.grow hb3).grow hb4).grow ((Below.refl _ _).alloc (Nat.le_refl _) _)) L4.out _ _).mono ?_; rintro e w5 ⟨rfl, hb5⟩; rw [HM.out])
          go_ret
          exact ⟨ret_bool (by simp), below_then (below_then (below_then (below_then (below_then hL T.b) hb3) hb4) ((Below.refl _ _).alloc (Nat.le_refl _) _)) hb5⟩
        · rw [show e / 4 % 2 = 1 by omega] at g4
          obtain rfl := hw1.2 ⟨q, .inl (by decide)⟩
          obtain rfl := hw2 rfl
          clear g8 g2 g16 hw1 hw2 q
          go_wp2_with (go_at_call 13; refine (rmap_says (((T.r.grow hb3).grow hb4).grow ((Below.refl _ _).alloc (Nat.le_refl _) _)) L4.out _ _).mono ?_; rintro e w5 ⟨rfl, hb5⟩; rw [HM.out])
          go_ret
          exact ⟨ret_bool (by simp), below_then (below_then (below_then (below_then (below_then hL T.b) hb3) hb4) ((Below.refl _ _).alloc (Nat.le_refl _) _)) hb5⟩
  · have HS := Lib.hid hs; clear hs
    go_enter Try.func9, Try.ntmps9
    go_wp2_with (first
      | (go_at_call 10; refine (alive5_says _).mono ?_; rintro e w1 ⟨rfl, hL⟩)
      | (go_at_call 11; exact (HS.out (by omega)).elim))
    all_goals
      go_ret
      exact ⟨rfl, hL⟩
set_option maxRecDepth 100000 in
theorem lifted (os : Os) (started : os.Started) (H : Type) (enc : TypeId × Value → H) :
    ReturnsInHanded {} Try.checked os 9 .any (Rows.walkEntrySpec.pre6 enc Try.prog Try.f9 Rows.walkEntryRow.domain false) (Rows.walkEntrySpec.post enc Try.prog Try.f9 false true false false) := by
  refine returnsInHanded_of_change (C := Try.checked) own started (by kernel_rfl) Try.func9
    (ChangeSpec.witness6 (enc := enc) (C := Try.checked) false ⟨#[], #[.int .i64 0, .slice none 0 0, .int .i64 0, .int .i64 0, .int .i64 0], []⟩ 8 (by kernel_rfl) (by kernel_rfl) (by kernel_rfl) (by kernel_rfl)) ?_
  intro W base args ds gs before hval0 hW hcnd _
  have hval : ∀ (j : Nat) t v, Try.f9.params[j]? = some t → args[j]? = some v → Value.okWide Try.prog W .any base t v := hval0
  have hW' := hW
  obtain ⟨p, q, hA0, hV, rfl, hfz, hnd⟩ := hW
  have hA : DataW.TrodAll enc Try.prog W 0 (fun _ => true) true Try.f9.params.toList args.toList ds p := hA0
  rw [Try.params9] at hA hval
  obtain ⟨v0, vs0, d0, ds0, p0, q0, hargs, rfl, rfl, h0, r0⟩ := trodAll_cons hA
  obtain ⟨v1, vs1, d1, ds1, p1, q1, rfl, rfl, rfl, h1, r1⟩ := trodAll_cons r0
  obtain ⟨v2, vs2, d2, ds2, p2, q2, rfl, rfl, rfl, h2, r2⟩ := trodAll_cons r1
  obtain ⟨v3, vs3, d3, ds3, p3, q3, rfl, rfl, rfl, h3, r3⟩ := trodAll_cons r2
  obtain ⟨v4, vs4, d4, ds4, p4, q4, rfl, rfl, rfl, h4, r4⟩ := trodAll_cons r3
  obtain ⟨rfl, rfl, rfl⟩ := trodAll_nil r4
  obtain rfl : args = #[v0, v1, v2, v3, v4] := by cases args; simp_all
  obtain ⟨rfl, rfl⟩ := trodVars_none hV
  obtain ⟨a0, rfl, rfl, rfl, w0⟩ := open_int Try.underlying3 (hval 0 3 v0 rfl rfl) h0
  obtain ⟨lp, len, cap, f, rfl, hmx, hPk⟩ := open_pokes (hval 1 22 v1 rfl rfl) h1
  obtain ⟨a2, rfl, rfl, rfl, w2⟩ := open_int Try.underlying3 (hval 2 3 v2 rfl rfl) h2
  obtain ⟨a3, rfl, rfl, rfl, w3⟩ := open_int Try.underlying3 (hval 3 3 v3 rfl rfl) h3
  obtain ⟨a4, rfl, rfl, rfl, w4⟩ := open_int Try.underlying3 (hval 4 3 v4 rfl rfl) h4
  clear hA0 hval0
  simp only [List.append_nil, List.nil_append] at hW'
  have hlt : ∀ x ∈ p1, x.block < W.heap.size := fun x hx => by simpa using hW'.lt x hx
  refine (walk a0 lp len cap f hPk hmx a2 a3 a4).mono fun e W' ⟨he, hg⟩ => ?_
  subst he
  exact ⟨_, rfl, _, _, _, [], _, [], hW', (trodAll_cons_mk (shut_bool Try.underlying4 _) trodAll_mk0), (trodAll_cons_mk (shut_int Try.underlying3 w0) (trodAll_cons_mk (Below.trod laidOut (by kernel_rfl) (of_decide_eq_true (by kernel_rfl)) h1 hg hlt) (trodAll_cons_mk (shut_int Try.underlying3 w2) (trodAll_cons_mk (shut_int Try.underlying3 w3) (trodAll_cons_mk (shut_int Try.underlying3 w4) trodAll_mk0))))), rfl, hg.frame _, fun h => by cases h⟩

theorem over : Rows.walkEntryRow.holds Try.pinned (OpenSpec.ofChange Rows.walkEntrySpec) :=
  OpenClaim.holds_of_wide 9 Try.f9 rfl rfl rfl rfl rfl rfl rfl ⟨rfl, rfl, rfl, rfl, rfl⟩ rfl rfl rfl rfl rfl (by kernel_rfl) Try.func9 (by kernel_rfl)
    (of_decide_eq_true (by kernel_rfl)) (by unfold Func.isWrapper; first | (rw [if_pos (by decide +kernel)]; kernel_rfl) | (rw [if_neg (by decide +kernel)]; exact ⟨rfl, rfl⟩))
    (fun os started H enc _ => lifted os started H enc)

/-- ████ THE STATEMENT ████ -/
theorem proved : Rows.WalkEntrySaid :=
  over
end Go.Proofs.Ytfodhmgbifeodaa.walkEntry
