/-
  What a user may reach a supervisor may reach, too, but for what it would fetch (law WalkUser returns true, and each argument reads as it read).
  No condition: whatever the arguments are.
-/
import Derived.Test.YtfodhmgbifeodaaWalkOpen
namespace Go.Proofs.Ytfodhmgbifeodaa.walkUser
open Go.Proofs.Ytfodhmgbifeodaa
open Go.ChangeShapes Go.WideShapes Go.ChangeAt Go.RowKit

set_option maxRecDepth 100000 in
set_option maxHeartbeats 4000000 in
theorem walk {W : World} (a0 : Int) (lp : Option Addr) (len cap : Nat) (f : Nat → Int × Int) (hA : Pokes W lp len f) (hmx : len ≤ 9223372036854775807) (a2 : Int) (a3 : Int) (a4 : Int) :
    Calls Try.prog 5 #[.int .i64 a0, .slice lp len cap, .int .i64 a2, .int .i64 a3, .int .i64 a4] W fun e w' => e = .returned (.bool true) ∧ Below W.heap.size W w' := by
  by_cases hs : a0 ≤ 32 ∧ (len : Int) ≤ 200
  · obtain ⟨h32, h200⟩ := hs
    obtain ⟨bs, hbs⟩ : ∃ bs, bs = bothL a0 f len := ⟨_, rfl⟩
    have hu := walk_user bs a2 a3 a4
    obtain ⟨x, c, h1⟩ : ∃ x c, walkV bs a2 a3 a4 true = (x, c) := ⟨_, _, rfl⟩
    obtain ⟨y, d, h2⟩ : ∃ y d, walkV bs a2 a3 a4 false = (y, d) := ⟨_, _, rfl⟩
    rw [h1, h2] at hu
    dsimp only at hu
    have e3 := and3 a4
    have HB := Lib.hid hbs; have H1 := Lib.hid h1; have H2 := Lib.hid h2; clear hbs h1 h2
    rcases hu with hc | hk | ⟨hd, he⟩
    · have bc : (c != 0) = true := by simpa using hc
      clear hc
      go_enter Try.func5, Try.ntmps5
      go_wp2_with (first
        | (go_at_call 10; refine (alive5_says _).mono ?_; rintro e w1 ⟨rfl, hB⟩)
        | (go_at_call 11; refine (both_says a0 lp len cap f (hA.grow hB) (by omega)).mono ?_; rintro e w2 ⟨hm, gm, hr, gr, hT⟩; obtain rfl := hT.e; have T := hT.t; rw [← HB.out] at T)
        | (go_at_call 15; refine (walk_says (T.m.grow hb3) _ _ _ false).mono ?_; rintro e w4 ⟨rfl, hb4⟩; rw [H2.out])
        | (go_at_call 15; refine (walk_says T.m _ _ _ true).mono ?_; rintro e w3 ⟨rfl, hb3⟩; rw [H1.out]))
      go_ret
      exact ⟨ret_bool (by simp), below_then (below_then (below_then hB T.b) hb3) hb4⟩
    · rw [hk] at e3
      clear hk
      go_enter Try.func5, Try.ntmps5
      go_wp2_with (first
        | (go_at_call 10; refine (alive5_says _).mono ?_; rintro e w1 ⟨rfl, hB⟩)
        | (go_at_call 11; refine (both_says a0 lp len cap f (hA.grow hB) (by omega)).mono ?_; rintro e w2 ⟨hm, gm, hr, gr, hT⟩; obtain rfl := hT.e; have T := hT.t; rw [← HB.out] at T)
        | (go_at_call 15; refine (walk_says (T.m.grow hb3) _ _ _ false).mono ?_; rintro e w4 ⟨rfl, hb4⟩; rw [H2.out])
        | (go_at_call 15; refine (walk_says T.m _ _ _ true).mono ?_; rintro e w3 ⟨rfl, hb3⟩; rw [H1.out]))
      all_goals
        go_ret
        exact ⟨ret_bool (by simp), below_then (below_then (below_then hB T.b) hb3) hb4⟩
    · subst hd
      subst he
      clear e3
      go_enter Try.func5, Try.ntmps5
      go_wp2_with (first
        | (go_at_call 10; refine (alive5_says _).mono ?_; rintro e w1 ⟨rfl, hB⟩)
        | (go_at_call 11; refine (both_says a0 lp len cap f (hA.grow hB) (by omega)).mono ?_; rintro e w2 ⟨hm, gm, hr, gr, hT⟩; obtain rfl := hT.e; have T := hT.t; rw [← HB.out] at T)
        | (go_at_call 15; refine (walk_says (T.m.grow hb3) _ _ _ false).mono ?_; rintro e w4 ⟨rfl, hb4⟩; rw [H2.out])
        | (go_at_call 15; refine (walk_says T.m _ _ _ true).mono ?_; rintro e w3 ⟨rfl, hb3⟩; rw [H1.out]))
      all_goals
        go_ret
        exact ⟨ret_bool (by simp), below_then (below_then (below_then hB T.b) hb3) hb4⟩
  · have HS := Lib.hid hs; clear hs
    go_enter Try.func5, Try.ntmps5
    go_wp2_with (first
      | (go_at_call 10; refine (alive5_says _).mono ?_; rintro e w1 ⟨rfl, hB⟩)
      | (go_at_call 11; exact (HS.out (by omega)).elim))
    all_goals
      go_ret
      exact ⟨rfl, hB⟩
set_option maxRecDepth 100000 in
theorem lifted (os : Os) (started : os.Started) (H : Type) (enc : TypeId × Value → H) :
    ReturnsInHanded {} Try.checked os 5 .any (Rows.walkUserSpec.pre6 enc Try.prog Try.f5 Rows.walkUserRow.domain false) (Rows.walkUserSpec.post enc Try.prog Try.f5 false true false false) := by
  refine returnsInHanded_of_change (C := Try.checked) own started (by kernel_rfl) Try.func5
    (ChangeSpec.witness6 (enc := enc) (C := Try.checked) false ⟨#[], #[.int .i64 0, .slice none 0 0, .int .i64 0, .int .i64 0, .int .i64 0], []⟩ 8 (by kernel_rfl) (by kernel_rfl) (by kernel_rfl) (by kernel_rfl)) ?_
  intro W base args ds gs before hval0 hW hcnd _
  have hval : ∀ (j : Nat) t v, Try.f5.params[j]? = some t → args[j]? = some v → Value.okWide Try.prog W .any base t v := hval0
  have hW' := hW
  obtain ⟨p, q, hA0, hV, rfl, hfz, hnd⟩ := hW
  have hA : DataW.TrodAll enc Try.prog W 0 (fun _ => true) true Try.f5.params.toList args.toList ds p := hA0
  rw [Try.params5] at hA hval
  obtain ⟨v0, vs0, d0, ds0, p0, q0, hargs, rfl, rfl, h0, r0⟩ := trodAll_cons hA
  obtain ⟨v1, vs1, d1, ds1, p1, q1, rfl, rfl, rfl, h1, r1⟩ := trodAll_cons r0
  obtain ⟨v2, vs2, d2, ds2, p2, q2, rfl, rfl, rfl, h2, r2⟩ := trodAll_cons r1
  obtain ⟨v3, vs3, d3, ds3, p3, q3, rfl, rfl, rfl, h3, r3⟩ := trodAll_cons r2
  obtain ⟨v4, vs4, d4, ds4, p4, q4, rfl, rfl, rfl, h4, r4⟩ := trodAll_cons r3
  obtain ⟨rfl, rfl, rfl⟩ := trodAll_nil r4
  obtain rfl : args = #[v0, v1, v2, v3, v4] := by cases args; simp_all
  obtain ⟨rfl, rfl⟩ := trodVars_none hV
  obtain ⟨a0, rfl, rfl, rfl, w0⟩ := open_int Try.underlying3 (hval 0 3 v0 rfl rfl) h0
  obtain ⟨lp, len, cap, f, rfl, hmx, hPk⟩ := open_pokes (hval 1 22 v1 rfl rfl) h1
  obtain ⟨a2, rfl, rfl, rfl, w2⟩ := open_int Try.underlying3 (hval 2 3 v2 rfl rfl) h2
  obtain ⟨a3, rfl, rfl, rfl, w3⟩ := open_int Try.underlying3 (hval 3 3 v3 rfl rfl) h3
  obtain ⟨a4, rfl, rfl, rfl, w4⟩ := open_int Try.underlying3 (hval 4 3 v4 rfl rfl) h4
  clear hA0 hval0
  simp only [List.append_nil, List.nil_append] at hW'
  have hlt : ∀ x ∈ p1, x.block < W.heap.size := fun x hx => by simpa using hW'.lt x hx
  refine (walk a0 lp len cap f hPk hmx a2 a3 a4).mono fun e W' ⟨he, hg⟩ => ?_
  subst he
  exact ⟨_, rfl, _, _, _, [], _, [], hW', (trodAll_cons_mk (shut_bool Try.underlying4 _) trodAll_mk0), (trodAll_cons_mk (shut_int Try.underlying3 w0) (trodAll_cons_mk (Below.trod laidOut (by kernel_rfl) (of_decide_eq_true (by kernel_rfl)) h1 hg hlt) (trodAll_cons_mk (shut_int Try.underlying3 w2) (trodAll_cons_mk (shut_int Try.underlying3 w3) (trodAll_cons_mk (shut_int Try.underlying3 w4) trodAll_mk0))))), rfl, hg.frame _, fun h => by cases h⟩

theorem over : Rows.walkUserRow.holds Try.pinned (OpenSpec.ofChange Rows.walkUserSpec) :=
  OpenClaim.holds_of_wide 5 Try.f5 rfl rfl rfl rfl rfl rfl rfl ⟨rfl, rfl, rfl, rfl, rfl⟩ rfl rfl rfl rfl rfl (by kernel_rfl) Try.func5 (by kernel_rfl)
    (of_decide_eq_true (by kernel_rfl)) (by unfold Func.isWrapper; first | (rw [if_pos (by decide +kernel)]; kernel_rfl) | (rw [if_neg (by decide +kernel)]; exact ⟨rfl, rfl⟩))
    (fun os started H enc _ => lifted os started H enc)

/-- ████ THE STATEMENT ████ -/
theorem proved : Rows.WalkUserSaid :=
  over
end Go.Proofs.Ytfodhmgbifeodaa.walkUser
