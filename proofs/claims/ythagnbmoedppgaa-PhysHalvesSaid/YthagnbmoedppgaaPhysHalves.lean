/-
  A number of four bytes that is stored is its halves and its quarters, the lowest first (law PhysHalves returns true).
  No condition: whatever the arguments are.
-/
import Derived.Test.YthagnbmoedppgaaRows
import Derived.WalkKit
import Derived.ProofKit
import Derived.OpenShut
import Derived.Test.YthagnbmoedppgaaPhysAlive
import Derived.Lib.EndianBits
namespace Go.Proofs.Ythagnbmoedppgaa.physHalves
open Go.ChangeShapes Go.WideShapes Go.ChangeAt Go.RowKit
set_option linter.unusedVariables false      -- a walk need not use every 'w<i>' (that an integer argument fits its kind)

theorem own : ownKnob Try.prog.godebug = none := by kernel_rfl

structure Halved (x : List Int) (a v : Int) : Prop where
  k4 : okc x.length a 4
  v4 : ldv x a 4 = wd v
  v2 : ldv x a 2 = v % 65536
  w2 : ldv x (a + 2) 2 = v / 65536 % 65536
  v1 : ∀ i : Nat, i < 4 → ldv x (a + i) 1 = v / 256 ^ i % 256
theorem halves_of (bs : List Int) (o : Nat) (v : Int) (h : o + 4 ≤ bs.length) (h4 : o % 4 = 0) : Halved (stv bs o 4 v) o v := by
  obtain ⟨x, hx⟩ : ∃ x, x = stv bs o 4 v := ⟨_, rfl⟩
  have hl : x.length = bs.length := by rw [hx]; exact stv_length _ _ _ _
  have hk : okc bs.length o 4 := (ldv_four bs o h h4).1
  have hg : ∀ i : Nat, i < 4 → x.getD (o + i) 0 = v / 256 ^ i % 256 := by
    intro i hi
    rw [hx]
    have e := stv_getD bs o 4 v hk (o + i)
    rw [if_pos (by omega), Nat.add_sub_cancel_left] at e
    exact e
  have g0 := hg 0 (by omega)
  have g1 := hg 1 (by omega)
  have g2 := hg 2 (by omega)
  have g3 := hg 3 (by omega)
  rw [Nat.add_zero] at g0
  rw [← hx]
  refine ⟨(ldv_four x o (by omega) h4).1, ?_, ?_, ?_, ?_⟩
  · rw [(ldv_four x o (by omega) h4).2, g0, g1, g2, g3]; unfold wd; simp only [Int.pow_succ, Int.pow_zero]; omega
  · rw [(ldv_two x o (by omega) (by omega)).2, g0, g1]; simp only [Int.pow_succ, Int.pow_zero]; omega
  · have e := (ldv_two x (o + 2) (by omega) (by omega)).2
    rw [g2, Nat.add_assoc, g3, Int.natCast_add] at e
    refine e.trans ?_
    simp only [Int.pow_succ, Int.pow_zero]; omega
  · intro i hi
    have e := (ldv_one x (o + i) (by omega)).2
    rw [Int.natCast_add] at e
    rw [e]; exact hg i hi
theorem join2 (v : Int) : bits .or .i64 (v % 65536) (v / 65536 % 65536 * 65536) = wd v := by
  have h := bits_join_low .i64 32 (by decide) (fun n h1 h2 => IntWalk.i64_in n (by omega)) 16 (v % 65536) (v / 65536 % 65536 * 65536) (by omega) (by omega) (by omega) (by omega) (by omega) (by omega)
  rw [h]; unfold wd; omega

theorem quarters (v : Int) : bits .or .i64 0 (v / 16777216 % 256) = v / 16777216 % 256 ∧ bits .or .i64 (v / 16777216 % 256 * 256) (v / 65536 % 256) = v / 65536 % 65536 ∧
    bits .or .i64 (v / 65536 % 65536 * 256) (v / 256 % 256) = v / 256 % 16777216 ∧ bits .or .i64 (v / 256 % 16777216 * 256) (v % 256) = wd v := by
  refine ⟨?_, ?_, ?_, ?_⟩
  · have h := or_low 0 (v / 16777216 % 256) (by omega) (by omega) (by omega) (by omega)
    rw [Int.zero_mul, Int.zero_add] at h; exact h
  · rw [or_low _ _ (by omega) (by omega) (by omega) (by omega)]; omega
  · rw [or_low _ _ (by omega) (by omega) (by omega) (by omega)]; omega
  · rw [or_low _ _ (by omega) (by omega) (by omega) (by omega)]; unfold wd; omega
theorem walk (a0 : Int) (a1 : Int) (w0 : (Lit.int .i64 a0).wf = true) (w1 : (Lit.int .i64 a1).wf = true) (w : World) :
    Calls Try.prog 4 #[.int .i64 a0, .int .i64 a1] w fun e w' => e = .returned (.bool true) ∧ Below w.heap.size w w' := by
  have hj2 := join2
  obtain ⟨x, hx⟩ : ∃ x : List Int, x = stv (List.replicate (pg 2 * 4096) 0) (a0 * 4) 4 a1 := ⟨_, rfl⟩
  have hxx : 0 ≤ a0 ∧ a0 ≤ 1000 → Halved x (a0 * 4) a1 := by
    rintro ⟨h0, h1⟩
    obtain ⟨o, rfl⟩ := Int.eq_ofNat_of_zero_le h0
    have l : (List.replicate (pg 2 * 4096) (0 : Int)).length = 8192 := by rw [List.length_replicate]; rfl
    have h := halves_of (List.replicate (pg 2 * 4096) 0) (o * 4) a1 (by rw [l]; omega) (by omega)
    rw [Int.natCast_mul] at h
    rw [hx]; exact h
  have HX := Lib.hid hx; clear hx
  have HH := Lib.hid hxx; clear hxx
  go_enter Try.func4, Try.ntmps4
  go_wp2_with (first
    | (go_at_call 8; refine (alive4_says _).mono ?_; rintro e w1 ⟨rfl, hb1⟩)
    | (go_at_call 9; refine (new_says _ _).mono ?_; rintro e w1 ⟨h, g, ⟨rfl, hm, hh, hg, hb⟩⟩; have H := HH.out (by assumption))
    | (go_at_call 12; refine (store_says ‹Mem _ _ _ _ _› _ _ _ (by omega)).mono ?_; rintro e w2 ⟨rfl, hm2, ho⟩; rw [← HX.out] at hm2)
    | (go_at_call 13; refine (load_says ‹Mem _ _ _ _ _› _ _ (by omega)).mono ?_; rintro e w' ⟨rfl, rfl⟩))
  · go_ret
    exact ⟨rfl, hb1⟩
  · have hB : Below w.heap.size w w2 := (hb1.trans (hb.mono hb1.size)).trans (ho.below (by have := hb1.size; omega))
    have e4 := H.v4
    have e2 := H.v2
    have ew := H.w2
    have k4 := H.k4
    have q0 : ldv x (a0 * 4) 1 = a1 % 256 := by have h := H.v1 0 (by omega); simpa using h
    have q1 : ldv x (a0 * 4 + 1) 1 = a1 / 256 % 256 := H.v1 1 (by omega)
    have q2 : ldv x (a0 * 4 + 2) 1 = a1 / 65536 % 256 := H.v1 2 (by omega)
    have q3 : ldv x (a0 * 4 + 3) 1 = a1 / 16777216 % 256 := H.v1 3 (by omega)
    obtain ⟨s3, s2, s1, s0⟩ := quarters a1
    rw [e2, ew]
    have EE := Lib.hid e2; have EW := Lib.hid ew
    clear H hm hb1 hb ho e2 ew
    go_loop [11, 12] (fun v i => (i = .int .i64 3 ∧ v = .int .i64 0) ∨ (i = .int .i64 2 ∧ v = .int .i64 (a1 / 16777216 % 256)) ∨ (i = .int .i64 1 ∧ v = .int .i64 (a1 / 65536 % 65536)) ∨ (i = .int .i64 0 ∧ v = .int .i64 (a1 / 256 % 16777216)) ∨ (i = .int .i64 (-1) ∧ v = .int .i64 (wd a1))) (fun _ i => (intOf i + 1).toNat)
    case atStart => exact .inl ⟨rfl, rfl⟩
    case round =>
      rcases hrel with ⟨rfl, rfl⟩ | ⟨rfl, rfl⟩ | ⟨rfl, rfl⟩ | ⟨rfl, rfl⟩ | ⟨rfl, rfl⟩
      iterate 4
        · go_wp2_with (go_at_call 13; refine (load_says ‹Mem _ _ _ _ _› _ _ (by omega)).mono ?_; rintro e w' ⟨rfl, rfl⟩)
          go_round
          case rel => simp
          case measure => simp [intOf]
      · go_wp2_with (first
          | (go_at_call 13; refine (load_says ‹Mem _ _ _ _ _› _ _ (by omega)).mono ?_; rintro e w' ⟨rfl, rfl⟩)
          | (go_at_call 20; refine (w_says _ _).mono ?_; rintro e w' ⟨rfl, rfl⟩))
        go_ret
        exact ⟨rfl, hB⟩
  · go_ret
    exact ⟨rfl, hb1⟩

/-! ### THE ROW's STEP: WRITTEN OUT: LEAVE IT -/
set_option maxRecDepth 100000 in
theorem lifted (os : Os) (started : os.Started) (H : Type) (enc : TypeId × Value → H) :
    ReturnsInHanded {} Try.checked os 4 .any (Rows.physHalvesSpec.pre6 enc Try.prog Try.f4 Rows.physHalvesRow.domain false) (Rows.physHalvesSpec.post enc Try.prog Try.f4 false true false false) := by
  refine returnsInHanded_of_change (C := Try.checked) own started (by kernel_rfl) Try.func4
    (ChangeSpec.witness6 (enc := enc) (C := Try.checked) false ⟨#[], #[.int .i64 0, .int .i64 0], []⟩ 8 (by kernel_rfl) (by kernel_rfl) (by kernel_rfl) (by kernel_rfl)) ?_
  intro W base args ds gs before hval0 hW hcnd _
  have hval : ∀ (j : Nat) t v, Try.f4.params[j]? = some t → args[j]? = some v → Value.okWide Try.prog W .any base t v := hval0
  have hW' := hW
  obtain ⟨p, q, hA0, hV, rfl, hfz, hnd⟩ := hW
  have hA : DataW.TrodAll enc Try.prog W 0 (fun _ => true) true Try.f4.params.toList args.toList ds p := hA0
  rw [Try.params4] at hA hval
  obtain ⟨v0, vs0, d0, ds0, p0, q0, hargs, rfl, rfl, h0, r0⟩ := trodAll_cons hA
  obtain ⟨v1, vs1, d1, ds1, p1, q1, rfl, rfl, rfl, h1, r1⟩ := trodAll_cons r0
  obtain ⟨rfl, rfl, rfl⟩ := trodAll_nil r1
  obtain rfl : args = #[v0, v1] := by cases args; simp_all
  obtain ⟨rfl, rfl⟩ := trodVars_none hV
  obtain ⟨a0, rfl, rfl, rfl, w0⟩ := open_int Try.underlying3 (hval 0 3 v0 rfl rfl) h0
  obtain ⟨a1, rfl, rfl, rfl, w1⟩ := open_int Try.underlying3 (hval 1 3 v1 rfl rfl) h1
  clear hA0 hval0
  simp only [List.append_nil] at hW'
  refine (walk a0 a1 w0 w1 W).mono fun e W' ⟨he, hg⟩ => ?_
  subst he
  exact ⟨_, rfl, _, _, _, [], [], [], hW', (trodAll_cons_mk (shut_bool Try.underlying4 _) trodAll_mk0), (trodAll_cons_mk (shut_int Try.underlying3 w0) (trodAll_cons_mk (shut_int Try.underlying3 w1) trodAll_mk0)), rfl, hg.frame _, fun h => by cases h⟩

theorem over : Rows.physHalvesRow.holds Try.pinned (OpenSpec.ofChange Rows.physHalvesSpec) :=
  OpenClaim.holds_of_wide 4 Try.f4 rfl rfl rfl rfl rfl rfl rfl ⟨rfl, rfl, rfl, rfl, rfl⟩ rfl rfl rfl rfl rfl (by kernel_rfl) Try.func4 (by kernel_rfl)
    (of_decide_eq_true (by kernel_rfl)) (by unfold Func.isWrapper; first | (rw [if_pos (by decide +kernel)]; kernel_rfl) | (rw [if_neg (by decide +kernel)]; exact ⟨rfl, rfl⟩))
    (fun os started H enc _ => lifted os started H enc)

/-- ████ THE STATEMENT ████ -/
theorem proved : Rows.PhysHalvesSaid :=
  over
end Go.Proofs.Ythagnbmoedppgaa.physHalves
