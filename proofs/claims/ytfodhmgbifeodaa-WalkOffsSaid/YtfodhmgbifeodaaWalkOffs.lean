/-
  All addresses of a page lead to one frame, each at its place within it, or all to one fault (law WalkOffs returns true, and each argument reads as it read).
  No condition: whatever the arguments are.
-/
import Derived.Test.YtfodhmgbifeodaaWalkOpen
namespace Go.Proofs.Ytfodhmgbifeodaa.walkOffs
open Go.Proofs.Ytfodhmgbifeodaa
open Go.ChangeShapes Go.WideShapes Go.ChangeAt Go.RowKit

set_option maxRecDepth 100000 in
set_option maxHeartbeats 4000000 in
theorem walk {W : World} (a0 : Int) (lp : Option Addr) (len cap : Nat) (f : Nat → Int × Int) (hA : Pokes W lp len f) (hmx : len ≤ 9223372036854775807) (a2 : Int) (a3 : Int) (a4 : Int) (a5 : Int) (a6 : Int) (a7 : Bool) :
    Calls Try.prog 8 #[.int .i64 a0, .slice lp len cap, .int .i64 a2, .int .i64 a3, .int .i64 a4, .int .i64 a5, .int .i64 a6, .bool a7] W fun e w' => e = .returned (.bool true) ∧ Below W.heap.size W w' := by
  by_cases hs : a0 ≤ 32 ∧ (len : Int) ≤ 200 ∧ 0 ≤ a3 ∧ a3 ≤ 1048575
  · obtain ⟨h32, h200, v0, v1⟩ := hs
    obtain ⟨bs, hbs⟩ : ∃ bs, bs = bothL a0 f len := ⟨_, rfl⟩
    obtain ⟨A, hAe⟩ : ∃ A, A = a4 % 4096 := ⟨_, rfl⟩
    obtain ⟨B, hBe⟩ : ∃ B, B = a5 % 4096 := ⟨_, rfl⟩
    have bA : 0 ≤ A ∧ A ≤ 4095 := by omega
    have bB : 0 ≤ B ∧ B ≤ 4095 := by omega
    have eA := and12 a4
    have eB := and12 a5
    rw [← hAe] at eA
    rw [← hBe] at eB
    have jA := join12 a3 A v0 v1 bA.1 bA.2
    have jB := join12 a3 B v0 v1 bB.1 bB.2
    obtain ⟨hcd, hx⟩ := walk_offs bs a2 a3 A B a6 a7 v0 v1 bA.1 bA.2 bB.1 bB.2
    obtain ⟨x, c, h1⟩ : ∃ x c, walkV bs a2 (a3 * 4096 + A) a6 a7 = (x, c) := ⟨_, _, rfl⟩
    obtain ⟨y, d, h2⟩ : ∃ y d, walkV bs a2 (a3 * 4096 + B) a6 a7 = (y, d) := ⟨_, _, rfl⟩
    rw [h1, h2] at hcd hx
    dsimp only at hcd hx
    subst hcd
    have HB := Lib.hid hbs; have H1 := Lib.hid h1; have H2 := Lib.hid h2; have HAE := Lib.hid hAe; have HBE := Lib.hid hBe; clear hbs h1 h2 hAe hBe
    rcases hx with ⟨hc, rfl, rfl⟩ | ⟨rfl, F, hx, hy⟩
    · have bc : (c != 0) = true := by simpa using hc
      clear hc
      go_enter Try.func8, Try.ntmps8
      go_wp2_with (first
        | (go_at_call 10; refine (alive5_says _).mono ?_; rintro e w1 ⟨rfl, hL⟩)
        | (go_at_call 11; refine (both_says a0 lp len cap f (hA.grow hL) (by omega)).mono ?_; rintro e w2 ⟨hm, gm, hr, gr, hT⟩; obtain rfl := hT.e; have T := hT.t; rw [← HB.out] at T)
        | (go_at_call 15; refine (walk_says (T.m.grow hb3) _ _ _ _).mono ?_; rintro e w4 ⟨rfl, hb4⟩; rw [H2.out])
        | (go_at_call 15; refine (walk_says T.m _ _ _ _).mono ?_; rintro e w3 ⟨rfl, hb3⟩; rw [H1.out]))
      go_ret
      exact ⟨ret_bool (by simp), below_then (below_then (below_then hL T.b) hb3) hb4⟩
    · have x1 : x / 4096 = F := by omega
      have y1 : y / 4096 = F := by omega
      have x2 : bits .and .i64 x 4095 = A := by rw [and12]; omega
      have y2 : bits .and .i64 y 4095 = B := by rw [and12]; omega
      clear hx hy
      go_enter Try.func8, Try.ntmps8
      go_wp2_with (first
        | (go_at_call 10; refine (alive5_says _).mono ?_; rintro e w1 ⟨rfl, hL⟩)
        | (go_at_call 11; refine (both_says a0 lp len cap f (hA.grow hL) (by omega)).mono ?_; rintro e w2 ⟨hm, gm, hr, gr, hT⟩; obtain rfl := hT.e; have T := hT.t; rw [← HB.out] at T)
        | (go_at_call 15; refine (walk_says (T.m.grow hb3) _ _ _ _).mono ?_; rintro e w4 ⟨rfl, hb4⟩; rw [H2.out])
        | (go_at_call 15; refine (walk_says T.m _ _ _ _).mono ?_; rintro e w3 ⟨rfl, hb3⟩; rw [H1.out]))
      all_goals
        go_ret
        exact ⟨ret_bool (by simp), below_then (below_then (below_then hL T.b) hb3) hb4⟩
  · have HS := Lib.hid hs; clear hs
    go_enter Try.func8, Try.ntmps8
    go_wp2_with (first
      | (go_at_call 10; refine (alive5_says _).mono ?_; rintro e w1 ⟨rfl, hL⟩)
      | (go_at_call 11; exact (HS.out (by omega)).elim))
    all_goals
      go_ret
      exact ⟨rfl, hL⟩
set_option maxRecDepth 100000 in
theorem lifted (os : Os) (started : os.Started) (H : Type) (enc : TypeId × Value → H) :
    ReturnsInHanded {} Try.checked os 8 .any (Rows.walkOffsSpec.pre6 enc Try.prog Try.f8 Rows.walkOffsRow.domain false) (Rows.walkOffsSpec.post enc Try.prog Try.f8 false true false false) := by
  refine returnsInHanded_of_change (C := Try.checked) own started (by kernel_rfl) Try.func8
    (ChangeSpec.witness6 (enc := enc) (C := Try.checked) false ⟨#[], #[.int .i64 0, .slice none 0 0, .int .i64 0, .int .i64 0, .int .i64 0, .int .i64 0, .int .i64 0, .bool false], []⟩ 8 (by kernel_rfl) (by kernel_rfl) (by kernel_rfl) (by kernel_rfl)) ?_
  intro W base args ds gs before hval0 hW hcnd _
  have hval : ∀ (j : Nat) t v, Try.f8.params[j]? = some t → args[j]? = some v → Value.okWide Try.prog W .any base t v := hval0
  have hW' := hW
  obtain ⟨p, q, hA0, hV, rfl, hfz, hnd⟩ := hW
  have hA : DataW.TrodAll enc Try.prog W 0 (fun _ => true) true Try.f8.params.toList args.toList ds p := hA0
  rw [Try.params8] at hA hval
  obtain ⟨v0, vs0, d0, ds0, p0, q0, hargs, rfl, rfl, h0, r0⟩ := trodAll_cons hA
  obtain ⟨v1, vs1, d1, ds1, p1, q1, rfl, rfl, rfl, h1, r1⟩ := trodAll_cons r0
  obtain ⟨v2, vs2, d2, ds2, p2, q2, rfl, rfl, rfl, h2, r2⟩ := trodAll_cons r1
  obtain ⟨v3, vs3, d3, ds3, p3, q3, rfl, rfl, rfl, h3, r3⟩ := trodAll_cons r2
  obtain ⟨v4, vs4, d4, ds4, p4, q4, rfl, rfl, rfl, h4, r4⟩ := trodAll_cons r3
  obtain ⟨v5, vs5, d5, ds5, p5, q5, rfl, rfl, rfl, h5, r5⟩ := trodAll_cons r4
  obtain ⟨v6, vs6, d6, ds6, p6, q6, rfl, rfl, rfl, h6, r6⟩ := trodAll_cons r5
  obtain ⟨v7, vs7, d7, ds7, p7, q7, rfl, rfl, rfl, h7, r7⟩ := trodAll_cons r6
  obtain ⟨rfl, rfl, rfl⟩ := trodAll_nil r7
  obtain rfl : args = #[v0, v1, v2, v3, v4, v5, v6, v7] := by cases args; simp_all
  obtain ⟨rfl, rfl⟩ := trodVars_none hV
  obtain ⟨a0, rfl, rfl, rfl, w0⟩ := open_int Try.underlying3 (hval 0 3 v0 rfl rfl) h0
  obtain ⟨lp, len, cap, f, rfl, hmx, hPk⟩ := open_pokes (hval 1 22 v1 rfl rfl) h1
  obtain ⟨a2, rfl, rfl, rfl, w2⟩ := open_int Try.underlying3 (hval 2 3 v2 rfl rfl) h2
  obtain ⟨a3, rfl, rfl, rfl, w3⟩ := open_int Try.underlying3 (hval 3 3 v3 rfl rfl) h3
  obtain ⟨a4, rfl, rfl, rfl, w4⟩ := open_int Try.underlying3 (hval 4 3 v4 rfl rfl) h4
  obtain ⟨a5, rfl, rfl, rfl, w5⟩ := open_int Try.underlying3 (hval 5 3 v5 rfl rfl) h5
  obtain ⟨a6, rfl, rfl, rfl, w6⟩ := open_int Try.underlying3 (hval 6 3 v6 rfl rfl) h6
  obtain ⟨a7, rfl, rfl, rfl⟩ := open_bool Try.underlying4 (hval 7 4 v7 rfl rfl) h7
  clear hA0 hval0
  simp only [List.append_nil, List.nil_append] at hW'
  have hlt : ∀ x ∈ p1, x.block < W.heap.size := fun x hx => by simpa using hW'.lt x hx
  refine (walk a0 lp len cap f hPk hmx a2 a3 a4 a5 a6 a7).mono fun e W' ⟨he, hg⟩ => ?_
  subst he
  exact ⟨_, rfl, _, _, _, [], _, [], hW', (trodAll_cons_mk (shut_bool Try.underlying4 _) trodAll_mk0), (trodAll_cons_mk (shut_int Try.underlying3 w0) (trodAll_cons_mk (Below.trod laidOut (by kernel_rfl) (of_decide_eq_true (by kernel_rfl)) h1 hg hlt) (trodAll_cons_mk (shut_int Try.underlying3 w2) (trodAll_cons_mk (shut_int Try.underlying3 w3) (trodAll_cons_mk (shut_int Try.underlying3 w4) (trodAll_cons_mk (shut_int Try.underlying3 w5) (trodAll_cons_mk (shut_int Try.underlying3 w6) (trodAll_cons_mk (shut_bool Try.underlying4 _) trodAll_mk0)))))))), rfl, hg.frame _, fun h => by cases h⟩

theorem over : Rows.walkOffsRow.holds Try.pinned (OpenSpec.ofChange Rows.walkOffsSpec) :=
  OpenClaim.holds_of_wide 8 Try.f8 rfl rfl rfl rfl rfl rfl rfl ⟨rfl, rfl, rfl, rfl, rfl⟩ rfl rfl rfl rfl rfl (by kernel_rfl) Try.func8 (by kernel_rfl)
    (of_decide_eq_true (by kernel_rfl)) (by unfold Func.isWrapper; first | (rw [if_pos (by decide +kernel)]; kernel_rfl) | (rw [if_neg (by decide +kernel)]; exact ⟨rfl, rfl⟩))
    (fun os started H enc _ => lifted os started H enc)

/-- ████ THE STATEMENT ████ -/
theorem proved : Rows.WalkOffsSaid :=
  over
end Go.Proofs.Ytfodhmgbifeodaa.walkOffs
