/-
  In a frame that is full of windows each tick but those of the switches is somebody's step (law PlanFull returns true, and each argument reads as it read).
  No condition: whatever the arguments are.
-/
import Derived.Test.YtnglmiihlpjelaaPlnO
import Derived.Test.YtnglmiihlpjelaaPlnR
import Derived.Test.YtnglmiihlpjelaaPlnF
import Derived.Test.YtnglmiihlpjelaaPlnJ
import Derived.Test.YtnglmiihlpjelaaPlnE
namespace Go.Proofs.Ytnglmiihlpjelaa.planFull
open Go.Proofs.Ytnglmiihlpjelaa Go.Proofs.Ytnglmiihlpjelaa.Cfg
open Go.ChangeShapes Go.WideShapes Go.ChangeAt Go.RowKit
set_option maxRecDepth 100000
set_option linter.unusedVariables false

set_option maxHeartbeats 8000000 in
theorem walk (W : World) {p0 : Option Addr} {n0 k0 : Nat} {xs0 : List Int} (L0 : LieS 1 W W.heap.size p0 n0 k0 (xs0.map fun t => [i64 t])) (H0 : ∀ (k : Nat) (x : Int), xs0[k]? = some x → inI x) (m0 : n0 ≤ 9223372036854775807) (x1 : Int) (w1 : (Lit.int .i64 x1).wf = true) (x2 : Int) (w2 : (Lit.int .i64 x2).wf = true) :
    Calls Try.prog 9 #[.slice p0 n0 k0, i64 x1, i64 x2] W fun e w' => e = .returned (.bool true) ∧ Below W.heap.size W w' := by
  obtain ⟨r, hr⟩ : ∃ r : Ending → World → Prop, r = fun e w' => e = .returned (.bool true) ∧ Below W.heap.size W w' := ⟨_, rfl⟩
  rw [← hr]
  have HO := Lib.hid (fun u (b : Below W.heap.size W u) => (by rw [hr]; exact ⟨rfl, b⟩ : r (.returned (.bool true)) u))
  clear hr
  have hl0 := L0.len
  rw [List.length_map] at hl0
  go_enter Try.func9, Try.ntmps9
  go_upto_region 2 with (go_at_call 10; (with_reducible refine (alive15 _).mono ?_); rintro e wa ⟨rfl, ba⟩)
  have BA := Lib.hid ba
  clear ba
  by_cases q0 : n0 < 1
  · go_wp2; exact HO.out _ BA.out
  by_cases q1 : n0 > 32
  · go_wp2; exact HO.out _ BA.out
  by_cases q2 : x1 < 0
  · go_wp2; exact HO.out _ BA.out
  by_cases q3 : x1 > 100
  · go_wp2; exact HO.out _ BA.out
  by_cases q4 : x2 < 0
  · go_wp2; exact HO.out _ BA.out
  by_cases q5 : x2 > 1073741824
  · go_wp2; exact HO.out _ BA.out
  have hn : 1 ≤ n0 ∧ n0 ≤ 32 := by omega
  have hs : 0 ≤ x1 ∧ x1 ≤ 100 := by omega
  have ht : 0 ≤ x2 ∧ x2 ≤ 1073741824 := by omega
  go_upto_region 5 with (go_at_call 22; (with_reducible refine (one_says _).mono ?_); rintro e wb ⟨g1, g3, rfl, hne, bb, o1, o3⟩)
  clear q0 q1 q2 q3 q4 q5
  obtain ⟨hb, hhb⟩ : ∃ hb, wb.heap.size = hb := ⟨_, rfl⟩
  obtain ⟨wc, hwc⟩ : ∃ wc, wc = wb.alloc (.cells #[.int .i64 5, .int .i64 10, .int .i64 0, .slice (some ⟨g1, 0, none⟩) 1 1, .slice none 0 0, .slice (some ⟨g3, 0, none⟩) 1 1] 26) := ⟨_, rfl⟩
  have bwb : Below W.heap.size W wb := BA.out.trans (bb.mono BA.out.size)
  have C0 := Lib.hid (show Cb W wc hb oneC (.slice (some ⟨g1, 0, none⟩) 1 1) (.slice none 0 0) (.slice (some ⟨g3, 0, none⟩) 1 1) by
    have l1 := o1.lt g1 rfl
    have l3 := o3.lt g3 rfl
    refine ⟨by rw [hwc]; exact bwb.alloc bwb.size _, by rw [← hhb]; exact bwb.size, by rw [hwc, ← hhb]; exact heap_alloc_new _ _, ?_, ownS_nil _ _ _ _, ?_, ⟨fun e => ?_, fun e => (by cases e), fun e => ?_⟩, fun g => ⟨fun e => ⟨fun e2 => (by cases e2), fun e2 => ?_⟩, fun e => (by cases e)⟩⟩
    · rw [hwc]; exact ownS_mono (ownS_below o1 (below_alloc _ _)) BA.out.size
    · rw [hwc]; exact ownS_mono (ownS_below o3 (below_alloc _ _)) BA.out.size
    · have e' : g1 = hb := (by injection e)
      omega
    · have e' : g3 = hb := (by injection e)
      omega
    · have e' : g1 = g := (by injection e)
      have e2' : g3 = g := (by injection e2)
      exact hne (e'.trans e2'.symm))
  try rw [hhb]
  rw [← hwc]
  clear hwc hhb bwb bb o1 o3 hne BA
  -- the switch
  have z2 := C0.out.at 2 _ rfl
  have f2 := C0.out.fr 2
  go_upto_region 6 with fail
  have C1' : Cb W (wc.setCell ⟨hb, 2, none⟩ (i64 x1)) hb { oneC with switch := x1 } (.slice (some ⟨g1, 0, none⟩) 1 1) (.slice none 0 0) (.slice (some ⟨g3, 0, none⟩) 1 1) := C0.out.num { oneC with switch := x1 } 2 (i64 x1) rfl rfl rfl rfl
  have C1 := Lib.hid C1'
  clear C1'
  obtain ⟨wd, hwd⟩ : ∃ wd, wd = wc.setCell ⟨hb, 2, none⟩ (i64 x1) := ⟨_, rfl⟩
  rw [← hwd] at C1 ⊢
  clear hwd C0 z2 f2
  -- twenty pages
  have z0 := C1.out.at 0 _ rfl
  have f0 := C1.out.fr 0
  go_upto_region 7 with fail
  have C2' : Cb W (wd.setCell ⟨hb, 0, none⟩ (i64 20)) hb { oneC with switch := x1, pages := 20 } (.slice (some ⟨g1, 0, none⟩) 1 1) (.slice none 0 0) (.slice (some ⟨g3, 0, none⟩) 1 1) := C1.out.num { oneC with switch := x1, pages := 20 } 0 (i64 20) rfl rfl rfl rfl
  have C2 := Lib.hid C2'
  clear C2'
  obtain ⟨we, hwe⟩ : ∃ we, we = wd.setCell ⟨hb, 0, none⟩ (i64 20) := ⟨_, rfl⟩
  rw [← hwe] at C2 ⊢
  clear hwe C1 z0 f0
  -- a second partition
  have z3 := C2.out.at 3 _ rfl
  have HP := Lib.hid (show ∀ u, u = we.alloc (.cells #[.string ⟨#[98]⟩, i64 1, i64 0] 45) → Cb W u hb { oneC with switch := x1, pages := 20 } (.slice (some ⟨g1, 0, none⟩) 1 1) (.slice none 0 0) (.slice (some ⟨g3, 0, none⟩) 1 1) ∧ SrcS 3 u (some ⟨we.heap.size, 0, none⟩) [[.string ⟨#[98]⟩, i64 1, i64 0]] from fun u hu => by
    rw [hu]; exact ⟨C2.out.kept (below_alloc _ _), src_new we 3 [.string ⟨#[98]⟩, i64 1, i64 0] _⟩)
  have HB := Lib.hid (show Even 3 [[Value.string ⟨#[98]⟩, i64 1, i64 0]] from even_pt [⟨⟨#[98]⟩, 1, 0⟩])
  go_upto_region 8 with (at_builtin; (refine wpList_appS kdP rfl _ _ rfl ((HP.out _ rfl).1.b.size) (R1 := oneC.parts.map ptC) rfl (HP.out _ rfl).1.o1 [[.string ⟨#[98]⟩, i64 1, i64 0]] HB.out rfl rfl (fun e => by cases e) (HP.out _ rfl).2 (by decide) ?_); intro v' w4 o4 b4 g4 hv; obtain ⟨p4, c4, e4, m4, -⟩ := ownS_form o4; have e4' : v' = .slice p4 2 c4 := e4; clear e4; subst e4'; have C3 := Lib.hid ((HP.out _ rfl).1.app1 (l := [⟨⟨#[97]⟩, 1, 0⟩, ⟨⟨#[98]⟩, 1, 0⟩]) o4 g4 hv); have z3 : w4.cell? ⟨hb, 3, none⟩ = some (.slice (some ⟨g1, 0, none⟩) 1 1) := (World.cell?_of_block (g4.block hb (HP.out _ rfl).1.lt (fun e => (HP.out _ rfl).1.ne.1 e.symm))).trans ((HP.out _ rfl).1.at 3 _ rfl); have f3 : w4.frozen? ⟨hb, 3, none⟩ = false := by (have hq := (g4.block hb (HP.out _ rfl).1.lt (fun e => (HP.out _ rfl).1.ne.1 e.symm)).trans (HP.out _ rfl).1.hd; simp [World.frozen?, hq]))
  obtain ⟨wf, hwf⟩ : ∃ wf, wf = w4.setCell ⟨hb, 3, none⟩ (.slice p4 2 c4) := ⟨_, rfl⟩
  rw [← hwf] at C3 ⊢
  clear hwf HP HB C2 z3 f3 o4 b4 g4 hv m4
  -- no windows
  have z5 := C3.out.at 5 _ rfl
  have f5 := C3.out.fr 5
  go_upto_region 9 with fail
  have C4' : Cb W (wf.setCell ⟨hb, 5, none⟩ (.slice none 0 0)) hb (cF x1 10 (fW xs0 0)) (.slice p4 2 c4) (.slice none 0 0) (.slice none 0 0) := C3.out.nil3
  have C4 := Lib.hid C4'
  clear C4'
  obtain ⟨wg, hwg⟩ : ∃ wg, wg = wf.setCell ⟨hb, 5, none⟩ (.slice none 0 0) := ⟨_, rfl⟩
  rw [← hwg] at C4 ⊢
  clear hwg C3 z5 f5
  go_wp2
  go_loopw [9, 10] (fun a i wr => ∃ j : Nat, j ≤ n0 ∧ i = .int .i64 j ∧ a = .int .i64 (sN xs0 j) ∧ okX xs0 x1 j ∧ ∃ v3, Cb W wr hb (cF x1 10 (fW xs0 j)) (.slice p4 2 c4) (.slice none 0 0) v3) (fun _ i _ => n0 - (intOf i).toNat)
  case atStart => exact ⟨0, Nat.zero_le _, rfl, rfl, fun k hk => absurd hk (Nat.not_lt_zero _), _, C4.out⟩
  case round =>
    obtain ⟨j, hj, rfl, rfl, hok, v3, C⟩ := hrel
    clear C4
    have hsb := sN_bd hs.1 hok
    by_cases hjl : j < n0
    · have hjI : (j : Int) < (n0 : Int) := by omega
      have hjb : j < 32 := by omega
      obtain ⟨x, hx⟩ : ∃ x, xs0[j]? = some x := ⟨_, List.getElem?_eq_getElem (by omega)⟩
      have hgx := gI_at hx
      obtain ⟨b, off, hpb, hbl, y00⟩ := L0.cell1 j x hx
      subst hpb
      have HY := Lib.hid (fun (u : World) (hu : Below W.heap.size W u) => (World.cell?_of_block (hu.block b hbl)).trans y00)
      have y0 := HY.out wr C.b
      clear y00
      obtain ⟨p3, c3, e3, -, -, -⟩ := ownS_form C.o3
      obtain ⟨n3, hn3⟩ : ∃ n3, ((cF x1 10 (fW xs0 j)).wins.map wnC).length = n3 := ⟨_, rfl⟩
      have hl3 : n3 = j := by rw [← hn3, List.length_map]; exact fW_len xs0 j
      rw [hn3] at e3
      subst e3
      have hnx := Lib.hid (fun (h1 : x1 < x) (h2 : x ≤ 2000) => (⟨fun k hk => by
        by_cases e : k = j
        · subst e; rw [hgx]; exact ⟨h1, h2⟩
        · exact hok k (by omega), by show sN xs0 j + gI xs0 j = _; rw [hgx]⟩ : okX xs0 x1 (j + 1) ∧ sN xs0 (j + 1) = sN xs0 j + x))
      have hwn : fW xs0 (j + 1) = fW xs0 j ++ [⟨sN xs0 j, x, ((j % 2 : Nat) : Int)⟩] := by show fW xs0 j ++ [⟨sN xs0 j, gI xs0 j, _⟩] = _; rw [hgx]
      obtain ⟨at_, hat⟩ : ∃ at_, sN xs0 j = at_ := ⟨_, rfl⟩
      rw [hat] at hsb hnx hwn ⊢
      have ho := Lib.hid (HO.out wr C.b)
      by_cases k1 : x ≤ x1
      · clear hnx HO C hok L0
        go_wp2
        exact ho.out
      by_cases k2 : x > 2000
      · clear hnx HO C hok L0
        go_wp2
        exact ho.out
      obtain ⟨hok1, hsn1⟩ := hnx.out (by omega) (by omega)
      have hand : bits .and .i64 (j : Int) 1 = ((j % 2 : Nat) : Int) := by have := i64_mask (j : Int) 1 (by decide); rw [show (2 : Int) ^ 1 - 1 = 1 by decide, show (2 : Int) ^ 1 = 2 by decide] at this; rw [this]; omega
      have e1 : IntKind.i64.wrap (at_ + x) = at_ + x := by rw [IntKind.wrap_i64]; omega
      obtain ⟨pj, hpj⟩ : ∃ pj, ((j % 2 : Nat) : Int) = pj := ⟨_, rfl⟩
      rw [hpj] at hand hwn
      clear hpj ho hok hgx hat hnx
      have HW := Lib.hid (fun (u : World) (hu : Below wr.heap.size wr u) => And.intro (C.kept hu) (And.intro ((C.kept hu).at 5 _ rfl) ((World.cell?_of_block (hu.block b (Nat.lt_of_lt_of_le hbl C.b.size))).trans y0)))
      obtain ⟨cv, z5v, y0v⟩ := HW.out wr.drew (Below.refl _ _).drew
      obtain ⟨cn, z5n, y0n⟩ := HW.out ((wr.alloc (.cells #[.int .i64 at_, .int .i64 x, .int .i64 pj] 40)).drew) (below_alloc _ _).drew
      obtain ⟨cm, z5m, y0m⟩ := HW.out (wr.drew.alloc (.cells #[.int .i64 at_, .int .i64 x, .int .i64 pj] 40)) ((Below.refl _ _).drew.alloc (by show wr.heap.size ≤ wr.heap.size; omega) _)
      have SN := Lib.hid (show SrcS 3 ((wr.alloc (.cells #[.int .i64 at_, .int .i64 x, .int .i64 pj] 40)).drew) (some ⟨wr.heap.size, 0, none⟩) [[Value.int .i64 at_, .int .i64 x, .int .i64 pj]] from src_new wr 3 [.int .i64 at_, .int .i64 x, .int .i64 pj] _)
      have SM := Lib.hid (show SrcS 3 (wr.drew.alloc (.cells #[.int .i64 at_, .int .i64 x, .int .i64 pj] 40)) (some ⟨wr.heap.size, 0, none⟩) [[Value.int .i64 at_, .int .i64 x, .int .i64 pj]] from src_new wr.drew 3 [.int .i64 at_, .int .i64 x, .int .i64 pj] _)
      have SZ := Lib.hid (by omega : ((cF x1 10 (fW xs0 j)).wins.map wnC).length + 1 ≤ 1000000)
      have CN := Lib.hid cn
      have CM := Lib.hid cm
      have z5 := C.at 5 _ rfl
      clear cn cm cv
      have hz := Lib.hid (fun (wn : World) (CN : Cb W wn hb (cF x1 10 (fW xs0 j)) (.slice p4 2 c4) (.slice none 0 0) (.slice p3 n3 c3)) v' w4 (o4 : OwnS 40 3 w4 W.heap.size v' ((cF x1 10 (fW xs0 j)).wins.map wnC ++ [[Value.int .i64 at_, .int .i64 x, .int .i64 pj]])) (g4 : wn.grownBy w4 (Value.slice p3 n3 c3).ownBlock) (hv : v'.ownBlock = (Value.slice p3 n3 c3).ownBlock ∨ v'.ownBlock = some wn.heap.size) =>
        (⟨(by rw [World.cell?_of_block (g4.block hb CN.lt (fun e => CN.ne.2.2 e.symm))]; exact CN.at 5 _ rfl), (by have hq := (g4.block hb CN.lt (fun e => CN.ne.2.2 e.symm)).trans CN.hd; simp [World.frozen?, hq]), CN.app3 (l := fW xs0 (j + 1)) (by rw [hwn, List.map_append]; exact o4) g4 hv⟩ :
          w4.cell? ⟨hb, 5, none⟩ = some (.slice p3 n3 c3) ∧ w4.frozen? ⟨hb, 5, none⟩ = false ∧ Cb W (w4.setCell ⟨hb, 5, none⟩ v') hb (cF x1 10 (fW xs0 (j + 1))) (.slice p4 2 c4) (.slice none 0 0) v'))
      replace C := Lib.hid C
      clear HW hn3 hl3 L0 hx
      go_wp2
      clear z5
      go_region_law (first | (refine step_appS kdW rfl _ _ rfl CN.out.b.size (v1 := .slice p3 n3 c3) (R1 := (cF x1 10 (fW xs0 j)).wins.map wnC) rfl CN.out.o3 (p := some ⟨wr.heap.size, 0, none⟩) (m := 1) (c := 1) [[Value.int .i64 at_, .int .i64 x, .int .i64 pj]] (even_wn [⟨at_, x, pj⟩]) rfl rfl (fun e => by cases e) SN.out SZ.out ?_; intro v' w4 o4 b4 g4 hv; obtain ⟨k1, k2, C4⟩ := hz.out _ CN.out v' w4 o4 g4 hv; have yw := HY.out _ C4.b; obtain ⟨p5, c5, e5, -, -, -⟩ := ownS_form o4; obtain ⟨n5, hn5⟩ : ∃ n5, ((cF x1 10 (fW xs0 j)).wins.map wnC ++ [[Value.int .i64 at_, .int .i64 x, .int .i64 pj]]).length = n5 := ⟨_, rfl⟩; rw [hn5] at e5; clear hn5 o4 b4 g4 hv; subst e5; have HC := Lib.hid C4; clear C4) | (refine step_appS kdW rfl _ _ rfl CM.out.b.size (v1 := .slice p3 n3 c3) (R1 := (cF x1 10 (fW xs0 j)).wins.map wnC) rfl CM.out.o3 (p := some ⟨wr.heap.size, 0, none⟩) (m := 1) (c := 1) [[Value.int .i64 at_, .int .i64 x, .int .i64 pj]] (even_wn [⟨at_, x, pj⟩]) rfl rfl (fun e => by cases e) SM.out SZ.out ?_; intro v' w4 o4 b4 g4 hv; obtain ⟨k1, k2, C4⟩ := hz.out _ CM.out v' w4 o4 g4 hv; have yw := HY.out _ C4.b; obtain ⟨p5, c5, e5, -, -, -⟩ := ownS_form o4; obtain ⟨n5, hn5⟩ : ∃ n5, ((cF x1 10 (fW xs0 j)).wins.map wnC ++ [[Value.int .i64 at_, .int .i64 x, .int .i64 pj]]).length = n5 := ⟨_, rfl⟩; rw [hn5] at e5; clear hn5 o4 b4 g4 hv; subst e5; have HC := Lib.hid C4; clear C4))
      all_goals
        go_wp2
        go_roundw
        case rel => exact ⟨j + 1, hjl, by go_num, by rw [hsn1], hok1, _, HC.out⟩
        case measure => simp [intOf]; omega
    · have hjm : j = n0 := by omega
      subst hjm
      obtain ⟨f1, f2, f3, f4, ⟨f5, f6⟩, f7, f8⟩ := full_facts hs hn hok ht
      have wfF := cF_wf hs hn.2 hok (sN xs0 j) (by omega)
      replace C := Lib.hid C
      have z1 := C.out.at 1 _ rfl
      have fr1 := C.out.fr 1
      have C5' : Cb W (wr.setCell ⟨hb, 1, none⟩ (i64 (sN xs0 j))) hb (cF x1 (sN xs0 j) (fW xs0 j)) (.slice p4 2 c4) (.slice none 0 0) v3 := C.out.num (cF x1 (sN xs0 j) (fW xs0 j)) 1 (i64 (sN xs0 j)) rfl rfl rfl rfl
      have C5 := Lib.hid C5'
      clear C5' C
      have hP0 : 0 ≤ (j : Int) * x1 := Int.mul_nonneg (by omega) hs.1
      have hP1 : (j : Int) * x1 ≤ 3200 := by
        have := Int.mul_le_mul (show (j : Int) ≤ 32 by omega) hs.2 hs.1 (by omega)
        omega
      obtain ⟨q1, d1, q2, d2, q3, d3, e1, e2, e3, X⟩ := C5.out.cx wfF
      have hX := Lib.hid (fun (u : World) (hu : Below (wr.setCell ⟨hb, 1, none⟩ (i64 (sN xs0 j))).heap.size (wr.setCell ⟨hb, 1, none⟩ (i64 (sN xs0 j))) u) => X.later hu (Nat.le_refl _) (Nat.le_refl _))
      obtain ⟨n3, hn3⟩ : ∃ n3, (cF x1 (sN xs0 j) (fW xs0 j)).wins.length = n3 := ⟨_, rfl⟩
      have hS := Lib.hid (fun (u : World) (hu : Below (wr.setCell ⟨hb, 1, none⟩ (i64 (sN xs0 j))).heap.size (wr.setCell ⟨hb, 1, none⟩ (i64 (sN xs0 j))) u) => And.intro hu (And.intro ((C5.out.kept hu).at 0 _ rfl) (And.intro ((C5.out.kept hu).at 1 _ rfl) (And.intro ((C5.out.kept hu).at 2 _ rfl) (And.intro ((C5.out.kept hu).at 3 _ rfl) (And.intro ((C5.out.kept hu).at 4 _ rfl) ((C5.out.kept hu).at 5 _ rfl)))))))
      have HS0 := Lib.hid (fun u hu => by have := steps_says (hX.out u hu) 0 0 (sN xs0 j * 3); rw [cfV, ← e1, ← e2, ← e3] at this; exact this)
      have HS1 := Lib.hid (fun u hu => by have := steps_says (hX.out u hu) 1 0 (sN xs0 j * 3); rw [cfV, ← e1, ← e2, ← e3] at this; exact this)
      have HA := Lib.hid (fun u hu => by have := at_says (hX.out u hu) x2; rw [cfV, ← e1, ← e2, ← e3] at this; exact this)
      have HH0 := Lib.hid (fun u hu => by have := share_says (hX.out u hu) 0; rw [cfV, ← e1, ← e2, ← e3] at this; exact this)
      have HH1 := Lib.hid (fun u hu => by have := share_says (hX.out u hu) 1; rw [cfV, ← e1, ← e2, ← e3] at this; exact this)
      have HOB := Lib.hid (fun u hu => HO.out u (C5.out.b.trans (Below.mono hu C5.out.b.size)))
      rw [hn3] at e3
      subst e3
      obtain ⟨s0, hs0⟩ : ∃ s0, stepV (cF x1 (sN xs0 j) (fW xs0 j)) 0 0 (sN xs0 j * 3) = s0 := ⟨_, rfl⟩
      obtain ⟨s1, hs1⟩ : ∃ s1, stepV (cF x1 (sN xs0 j) (fW xs0 j)) 1 0 (sN xs0 j * 3) = s1 := ⟨_, rfl⟩
      obtain ⟨a, ha⟩ : ∃ a, (atV (cF x1 (sN xs0 j) (fW xs0 j)) x2).1 = a := ⟨_, rfl⟩
      obtain ⟨k, hk⟩ : ∃ k, (atV (cF x1 (sN xs0 j) (fW xs0 j)) x2).2 = k := ⟨_, rfl⟩
      obtain ⟨v0, hv0⟩ : ∃ v0, shareV (cF x1 (sN xs0 j) (fW xs0 j)) 0 = v0 := ⟨_, rfl⟩
      obtain ⟨v1, hv1⟩ : ∃ v1, shareV (cF x1 (sN xs0 j) (fW xs0 j)) 1 = v1 := ⟨_, rfl⟩
      rw [hs0] at f1 f5 HS0
      rw [hs1] at f1 f6 HS1
      rw [ha] at f3 HA
      rw [hk] at f4 HA
      rw [hv0] at f2 f7 HH0
      rw [hv1] at f2 f8 HH1
      clear hs0 hs1 ha hk hv0 hv1 e1 e2 X hX wfF hok H0 HO
      simp only [show (cF x1 (sN xs0 j) (fW xs0 j)).pages = 20 from rfl, show (cF x1 (sN xs0 j) (fW xs0 j)).major = sN xs0 j from rfl, show (cF x1 (sN xs0 j) (fW xs0 j)).switch = x1 from rfl] at HS0 HS1 HA HH0 HH1 hS
      obtain ⟨at_, hat⟩ : ∃ at_, sN xs0 j = at_ := ⟨_, rfl⟩
      simp only [hat] at HS0 HS1 HA HH0 HH1 hS f1 f2 hsb HOB
      rw [hat]
      have z1' : wr.cell? ⟨hb, 1, none⟩ = some (i64 10) := z1
      clear hat C5 L0 hn3 z1
      go_upto_region 18 with fail
      obtain ⟨wq, hwq⟩ : ∃ wq, wq = wr.setCell ⟨hb, 1, none⟩ (i64 at_) := ⟨_, rfl⟩
      rw [← hwq] at HS0 HS1 HA HH0 HH1 hS HOB ⊢
      clear hwq z1' fr1
      have w1 : IntKind.i64.wrap (at_ * 3) = at_ * 3 := by rw [IntKind.wrap_i64]; omega
      have w2 : IntKind.i64.wrap (s0 + s1) = s0 + s1 := by rw [IntKind.wrap_i64]; omega
      refine wp_region_held_drew (S := (fun u => Below wq.heap.size wq u ∧ u.cell? ⟨hb, 0, none⟩ = some (i64 20) ∧ u.cell? ⟨hb, 1, none⟩ = some (i64 at_) ∧ u.cell? ⟨hb, 2, none⟩ = some (i64 x1) ∧ u.cell? ⟨hb, 3, none⟩ = some (.slice p4 2 c4) ∧ u.cell? ⟨hb, 4, none⟩ = some (.slice none 0 0) ∧ u.cell? ⟨hb, 5, none⟩ = some (.slice q3 n3 d3))) (by kernel_rfl) ?_ (fun hH0 => ?_)
      · ((try dsimp only); (first | assumption | exact hS.out _ (Below.refl _ _) | exact hS.out _ ((Below.refl _ _)).drew | exact hS.out _ ((‹Below wq.heap.size wq _ ∧ _›).1.trans ((‹Below (World.heap _).size _ _›).mono (‹Below wq.heap.size wq _ ∧ _›).1.size))))
      refine wpAnyH_take (i := 0) (oi := { dst := some 95, op := Go.Op.load 26 (Go.Operand.tmp 8), type := 26, pos := "more.go:31", after := #[], guard := none }) (v := ?_) rfl (by kernel_rfl) (by kernel_rfl) (by kernel_rfl) (fun _ _ _ h => h) (Or.inl ⟨by rfl, ?_⟩) (by assumption) ?_
      rotate_left
      · ((intro w hSw; (try dsimp only at hSw); go_simp) <;> (with_reducible rfl))
      try simp only [Act.put, List.setIfInBounds_toArray, List.set_cons_zero, List.set_cons_succ]
      refine wpAnyH_take (i := 1) (oi := { dst := some 96, op := Go.Op.move (Go.Operand.tmp 9), type := 3, pos := "more.go:31", after := #[], guard := none }) (v := ?_) rfl (by kernel_rfl) (by kernel_rfl) (by kernel_rfl) (fun _ _ _ h => h) (Or.inl ⟨by rfl, ?_⟩) (by assumption) ?_
      rotate_left
      · ((intro w hSw; (try dsimp only at hSw); go_simp) <;> (with_reducible rfl))
      try simp only [Act.put, List.setIfInBounds_toArray, List.set_cons_zero, List.set_cons_succ]
      refine wpAnyH_take (i := 2) (oi := { dst := some 97, op := Go.Op.binOp Go.BinOp.mul 3 (Go.Operand.tmp 96) (Go.Operand.const (Go.Value.int Go.IntKind.i64 3)) 3, type := 3, pos := "more.go:31", after := #[{ on := 1, ground := Go.Ground.data }], guard := none }) (v := ?_) rfl (by kernel_rfl) (by kernel_rfl) (by kernel_rfl) (fun _ _ _ h => h) (Or.inl ⟨by rfl, ?_⟩) (by assumption) ?_
      rotate_left
      · ((intro w hSw; (try dsimp only at hSw); go_simp) <;> (with_reducible rfl))
      try simp only [Act.put, List.setIfInBounds_toArray, List.set_cons_zero, List.set_cons_succ]
      refine wpAnyH_take (i := 4) (oi := { dst := some 99, op := Go.Op.load 26 (Go.Operand.tmp 8), type := 26, pos := "more.go:31", after := #[], guard := none }) (v := ?_) rfl (by kernel_rfl) (by kernel_rfl) (by kernel_rfl) (fun _ _ _ h => h) (Or.inl ⟨by rfl, ?_⟩) (by assumption) ?_
      rotate_left
      · ((intro w hSw; (try dsimp only at hSw); go_simp) <;> (with_reducible rfl))
      try simp only [Act.put, List.setIfInBounds_toArray, List.set_cons_zero, List.set_cons_succ]
      refine wpAnyH_take (i := 5) (oi := { dst := some 100, op := Go.Op.move (Go.Operand.tmp 9), type := 3, pos := "more.go:31", after := #[], guard := none }) (v := ?_) rfl (by kernel_rfl) (by kernel_rfl) (by kernel_rfl) (fun _ _ _ h => h) (Or.inl ⟨by rfl, ?_⟩) (by assumption) ?_
      rotate_left
      · ((intro w hSw; (try dsimp only at hSw); go_simp) <;> (with_reducible rfl))
      try simp only [Act.put, List.setIfInBounds_toArray, List.set_cons_zero, List.set_cons_succ]
      refine wpAnyH_take (i := 6) (oi := { dst := some 101, op := Go.Op.binOp Go.BinOp.mul 3 (Go.Operand.tmp 100) (Go.Operand.const (Go.Value.int Go.IntKind.i64 3)) 3, type := 3, pos := "more.go:31", after := #[{ on := 5, ground := Go.Ground.data }], guard := none }) (v := ?_) rfl (by kernel_rfl) (by kernel_rfl) (by kernel_rfl) (fun _ _ _ h => h) (Or.inl ⟨by rfl, ?_⟩) (by assumption) ?_
      rotate_left
      · ((intro w hSw; (try dsimp only at hSw); go_simp) <;> (with_reducible rfl))
      try simp only [Act.put, List.setIfInBounds_toArray, List.set_cons_zero, List.set_cons_succ]
      refine wpAnyH_ready (rs := [3]) (by kernel_rfl) (by simp) ?_
      refine AllReadyH.cons (o := { dst := some 98, op := Go.Op.call { callee := Go.Callee.value (Go.Operand.func 15), args := #[Go.Operand.tmp 95, Go.Operand.const (Go.Value.int Go.IntKind.i64 0), Go.Operand.const (Go.Value.int Go.IntKind.i64 0), Go.Operand.tmp 97], argTypes := #[26, 3, 3, 3] }, type := 3, pos := "more.go:31", after := #[{ on := 0, ground := Go.Ground.data }, { on := 2, ground := Go.Ground.data }], guard := none }) rfl (fun K hK => ?_) AllReadyH.nil
      go_simp
      (first | (go_at_call 15; (with_reducible refine (HS0.out _ (‹Below wq.heap.size wq _ ∧ _›).1).mono ?_); rintro e t2 ⟨rfl, hb2⟩) | (go_at_call 15; (with_reducible refine (HS1.out _ (‹Below wq.heap.size wq _ ∧ _›).1).mono ?_); rintro e t2 ⟨rfl, hb2⟩))
      refine hK.out _ _ ?_ (fun hH1 => ?_)
      · ((try dsimp only); (first | assumption | exact hS.out _ (Below.refl _ _) | exact hS.out _ ((Below.refl _ _)).drew | exact hS.out _ ((‹Below wq.heap.size wq _ ∧ _›).1.trans ((‹Below (World.heap _).size _ _›).mono (‹Below wq.heap.size wq _ ∧ _›).1.size))))
      clear hK K hH0
      try simp only [Act.put, List.setIfInBounds_toArray, List.set_cons_zero, List.set_cons_succ]
      refine wpAnyH_ready (rs := [7]) (by kernel_rfl) (by simp) ?_
      refine AllReadyH.cons (o := { dst := some 102, op := Go.Op.call { callee := Go.Callee.value (Go.Operand.func 15), args := #[Go.Operand.tmp 99, Go.Operand.const (Go.Value.int Go.IntKind.i64 1), Go.Operand.const (Go.Value.int Go.IntKind.i64 0), Go.Operand.tmp 101], argTypes := #[26, 3, 3, 3] }, type := 3, pos := "more.go:31", after := #[{ on := 4, ground := Go.Ground.data }, { on := 6, ground := Go.Ground.data }, { on := 3, ground := Go.Ground.chain }], guard := none }) rfl (fun K hK => ?_) AllReadyH.nil
      go_simp
      (first | (go_at_call 15; (with_reducible refine (HS0.out _ (‹Below wq.heap.size wq _ ∧ _›).1).mono ?_); rintro e t2 ⟨rfl, hb2⟩) | (go_at_call 15; (with_reducible refine (HS1.out _ (‹Below wq.heap.size wq _ ∧ _›).1).mono ?_); rintro e t2 ⟨rfl, hb2⟩))
      refine hK.out _ _ ?_ (fun hH2 => ?_)
      · ((try dsimp only); (first | assumption | exact hS.out _ (Below.refl _ _) | exact hS.out _ ((Below.refl _ _)).drew | exact hS.out _ ((‹Below wq.heap.size wq _ ∧ _›).1.trans ((‹Below (World.heap _).size _ _›).mono (‹Below wq.heap.size wq _ ∧ _›).1.size))))
      clear hK K hH1
      try simp only [Act.put, List.setIfInBounds_toArray, List.set_cons_zero, List.set_cons_succ]
      refine wpAnyH_take (i := 8) (oi := { dst := some 103, op := Go.Op.binOp Go.BinOp.add 3 (Go.Operand.tmp 98) (Go.Operand.tmp 102) 3, type := 3, pos := "more.go:31", after := #[{ on := 3, ground := Go.Ground.data }, { on := 7, ground := Go.Ground.data }], guard := none }) (v := ?_) rfl (by kernel_rfl) (by kernel_rfl) (by kernel_rfl) (fun _ _ _ h => h) (Or.inl ⟨by rfl, ?_⟩) (by assumption) ?_
      rotate_left
      · ((intro w hSw; (try dsimp only at hSw); go_simp) <;> (with_reducible rfl))
      try simp only [Act.put, List.setIfInBounds_toArray, List.set_cons_zero, List.set_cons_succ]
      refine wpAnyH_take (i := 9) (oi := { dst := some 11, op := Go.Op.assign (Go.Operand.tmp 103), type := 3, pos := "more.go:31", after := #[{ on := 8, ground := Go.Ground.data }, { on := 7, ground := Go.Ground.chain }, { on := 0, ground := Go.Ground.phase }, { on := 1, ground := Go.Ground.phase }, { on := 2, ground := Go.Ground.phase }, { on := 3, ground := Go.Ground.phase }, { on := 4, ground := Go.Ground.phase }, { on := 5, ground := Go.Ground.phase }, { on := 6, ground := Go.Ground.phase }, { on := 7, ground := Go.Ground.phase }, { on := 8, ground := Go.Ground.phase }], guard := none }) (v := ?_) rfl (by kernel_rfl) (by kernel_rfl) (by kernel_rfl) (fun _ _ _ h => h) (Or.inl ⟨by rfl, ?_⟩) (by assumption) ?_
      rotate_left
      · ((intro w hSw; (try dsimp only at hSw); go_simp) <;> (with_reducible rfl))
      try simp only [Act.put, List.setIfInBounds_toArray, List.set_cons_zero, List.set_cons_succ]
      refine wpAnyH_done (by kernel_rfl) ?_ _
      all_goals
        have hr2 := Lib.hid ((‹Below wq.heap.size wq _ ∧ _›).1)
        rename World => wl
        obtain ⟨-, z0, z1, z2, z3, z4, z5⟩ := hS.out wl hr2.out
        have hc := Lib.hid (HA.out wl hr2.out)
        go_upto_region 20 with (go_at_call 13; (with_reducible refine hc.out.mono ?_); rintro e wm ⟨rfl, hb2⟩; have hr3 := Lib.hid (hr2.out.trans (hb2.mono hr2.out.size)); clear hb2)
        clear z0 z1 z2 z3 z4 z5 hc
        have w3 : IntKind.i64.wrap ((j : Int) * x1) = (j : Int) * x1 := by rw [IntKind.wrap_i64]; omega
        have w4 : IntKind.i64.wrap (at_ - (j : Int) * x1) = at_ - (j : Int) * x1 := by rw [IntKind.wrap_i64]; omega
        have w5 : IntKind.i64.wrap (3 * (at_ - (j : Int) * x1)) = 3 * (at_ - (j : Int) * x1) := by rw [IntKind.wrap_i64]; omega
        have w6 : IntKind.i64.wrap (v0 + v1) = v0 + v1 := by rw [IntKind.wrap_i64]; omega
        have y1 : (s0 + s1 == 3 * (at_ - (j : Int) * x1)) = true := by simp; omega
        have y2 : (v0 + v1 == at_ - (j : Int) * x1) = true := by simp; omega
        have y3 : (decide (0 ≤ a)) = true := by simp; omega
        have y4 : (decide (0 ≤ k)) = true := by simp; omega
        replace f1 := Lib.hid f1
        replace f2 := Lib.hid f2
        refine wp_region_held_drew (S := (fun u => Below wq.heap.size wq u ∧ u.cell? ⟨hb, 0, none⟩ = some (i64 20) ∧ u.cell? ⟨hb, 1, none⟩ = some (i64 at_) ∧ u.cell? ⟨hb, 2, none⟩ = some (i64 x1) ∧ u.cell? ⟨hb, 3, none⟩ = some (.slice p4 2 c4) ∧ u.cell? ⟨hb, 4, none⟩ = some (.slice none 0 0) ∧ u.cell? ⟨hb, 5, none⟩ = some (.slice q3 n3 d3))) (by kernel_rfl) ?_ (fun hH0 => ?_)
        · ((try dsimp only); (first | assumption | exact hS.out _ hr3.out | exact hS.out _ (hr3.out).drew | exact hS.out _ ((‹Below wq.heap.size wq _ ∧ _›).1.trans ((‹Below (World.heap _).size _ _›).mono (‹Below wq.heap.size wq _ ∧ _›).1.size))))
        refine wpAnyH_take (i := 0) (oi := { dst := some 110, op := Go.Op.move (Go.Operand.tmp 11), type := 3, pos := "more.go:33", after := #[], guard := none }) (v := ?_) rfl (by kernel_rfl) (by kernel_rfl) (by kernel_rfl) (fun _ _ _ h => h) (Or.inl ⟨by rfl, ?_⟩) (by assumption) ?_
        rotate_left
        · ((intro w hSw; (try dsimp only at hSw); go_simp) <;> (with_reducible rfl))
        try simp only [Act.put, List.setIfInBounds_toArray, List.set_cons_zero, List.set_cons_succ]
        refine wpAnyH_take (i := 1) (oi := { dst := some 111, op := Go.Op.move (Go.Operand.tmp 9), type := 3, pos := "more.go:33", after := #[], guard := none }) (v := ?_) rfl (by kernel_rfl) (by kernel_rfl) (by kernel_rfl) (fun _ _ _ h => h) (Or.inl ⟨by rfl, ?_⟩) (by assumption) ?_
        rotate_left
        · ((intro w hSw; (try dsimp only at hSw); go_simp) <;> (with_reducible rfl))
        try simp only [Act.put, List.setIfInBounds_toArray, List.set_cons_zero, List.set_cons_succ]
        refine wpAnyH_take (i := 2) (oi := { dst := some 112, op := Go.Op.move (Go.Operand.tmp 0), type := 42, pos := "more.go:33", after := #[], guard := none }) (v := ?_) rfl (by kernel_rfl) (by kernel_rfl) (by kernel_rfl) (fun _ _ _ h => h) (Or.inl ⟨by rfl, ?_⟩) (by assumption) ?_
        rotate_left
        · ((intro w hSw; (try dsimp only at hSw); go_simp) <;> (with_reducible rfl))
        try simp only [Act.put, List.setIfInBounds_toArray, List.set_cons_zero, List.set_cons_succ]
        refine wpAnyH_take (i := 3) (oi := { dst := some 113, op := Go.Op.call { callee := Go.Callee.builtin Go.Builtin.len, args := #[Go.Operand.tmp 112], argTypes := #[42] }, type := 3, pos := "more.go:33", after := #[{ on := 2, ground := Go.Ground.data }], guard := none }) (v := ?_) rfl (by kernel_rfl) (by kernel_rfl) (by kernel_rfl) (fun _ _ _ h => h) (Or.inl ⟨by rfl, ?_⟩) (by assumption) ?_
        rotate_left
        · ((intro w hSw; (try dsimp only at hSw); go_simp) <;> (with_reducible rfl))
        try simp only [Act.put, List.setIfInBounds_toArray, List.set_cons_zero, List.set_cons_succ]
        refine wpAnyH_take (i := 4) (oi := { dst := some 114, op := Go.Op.move (Go.Operand.tmp 1), type := 3, pos := "more.go:33", after := #[], guard := none }) (v := ?_) rfl (by kernel_rfl) (by kernel_rfl) (by kernel_rfl) (fun _ _ _ h => h) (Or.inl ⟨by rfl, ?_⟩) (by assumption) ?_
        rotate_left
        · ((intro w hSw; (try dsimp only at hSw); go_simp) <;> (with_reducible rfl))
        try simp only [Act.put, List.setIfInBounds_toArray, List.set_cons_zero, List.set_cons_succ]
        refine wpAnyH_take (i := 5) (oi := { dst := some 115, op := Go.Op.binOp Go.BinOp.mul 3 (Go.Operand.tmp 113) (Go.Operand.tmp 114) 3, type := 3, pos := "more.go:33", after := #[{ on := 3, ground := Go.Ground.data }, { on := 4, ground := Go.Ground.data }], guard := none }) (v := ?_) rfl (by kernel_rfl) (by kernel_rfl) (by kernel_rfl) (fun _ _ _ h => h) (Or.inl ⟨by rfl, ?_⟩) (by assumption) ?_
        rotate_left
        · ((intro w hSw; (try dsimp only at hSw); go_simp) <;> (with_reducible rfl))
        try simp only [Act.put, List.setIfInBounds_toArray, List.set_cons_zero, List.set_cons_succ]
        refine wpAnyH_take (i := 6) (oi := { dst := some 116, op := Go.Op.binOp Go.BinOp.sub 3 (Go.Operand.tmp 111) (Go.Operand.tmp 115) 3, type := 3, pos := "more.go:33", after := #[{ on := 1, ground := Go.Ground.data }, { on := 5, ground := Go.Ground.data }], guard := none }) (v := ?_) rfl (by kernel_rfl) (by kernel_rfl) (by kernel_rfl) (fun _ _ _ h => h) (Or.inl ⟨by rfl, ?_⟩) (by assumption) ?_
        rotate_left
        · ((intro w hSw; (try dsimp only at hSw); go_simp) <;> (with_reducible rfl))
        try simp only [Act.put, List.setIfInBounds_toArray, List.set_cons_zero, List.set_cons_succ]
        refine wpAnyH_take (i := 7) (oi := { dst := some 117, op := Go.Op.binOp Go.BinOp.mul 3 (Go.Operand.const (Go.Value.int Go.IntKind.i64 3)) (Go.Operand.tmp 116) 3, type := 3, pos := "more.go:33", after := #[{ on := 6, ground := Go.Ground.data }], guard := none }) (v := ?_) rfl (by kernel_rfl) (by kernel_rfl) (by kernel_rfl) (fun _ _ _ h => h) (Or.inl ⟨by rfl, ?_⟩) (by assumption) ?_
        rotate_left
        · ((intro w hSw; (try dsimp only at hSw); go_simp) <;> (with_reducible rfl))
        try simp only [Act.put, List.setIfInBounds_toArray, List.set_cons_zero, List.set_cons_succ]
        refine wpAnyH_take (i := 8) (oi := { dst := some 118, op := Go.Op.binOp Go.BinOp.eql 3 (Go.Operand.tmp 110) (Go.Operand.tmp 117) 3, type := 4, pos := "more.go:33", after := #[{ on := 0, ground := Go.Ground.data }, { on := 7, ground := Go.Ground.data }], guard := none }) (v := ?_) rfl (by kernel_rfl) (by kernel_rfl) (by kernel_rfl) (fun _ _ _ h => h) (Or.inl ⟨by rfl, ?_⟩) (by assumption) ?_
        rotate_left
        · ((intro w hSw; (try dsimp only at hSw); go_simp) <;> (with_reducible rfl))
        try simp only [Act.put, List.setIfInBounds_toArray, List.set_cons_zero, List.set_cons_succ]
        refine wpAnyH_take (i := 9) (oi := { dst := some 119, op := Go.Op.move (Go.Operand.tmp 118), type := 4, pos := "more.go:33", after := #[{ on := 8, ground := Go.Ground.data }], guard := none }) (v := ?_) rfl (by kernel_rfl) (by kernel_rfl) (by kernel_rfl) (fun _ _ _ h => h) (Or.inl ⟨by rfl, ?_⟩) (by assumption) ?_
        rotate_left
        · ((intro w hSw; (try dsimp only at hSw); go_simp) <;> (with_reducible rfl))
        try simp only [Act.put, List.setIfInBounds_toArray, List.set_cons_zero, List.set_cons_succ]
        refine wpAnyH_take (i := 10) (oi := { dst := some 120, op := Go.Op.move (Go.Operand.tmp 12), type := 3, pos := "more.go:33", after := #[{ on := 9, ground := Go.Ground.guard }], guard := some (9, true) }) (v := ?_) rfl (by kernel_rfl) (by kernel_rfl) (by kernel_rfl) (fun _ _ _ h => h) (Or.inl ⟨by rfl, ?_⟩) (by assumption) ?_
        rotate_left
        · ((intro w hSw; (try dsimp only at hSw); go_simp) <;> (with_reducible rfl))
        try simp only [Act.put, List.setIfInBounds_toArray, List.set_cons_zero, List.set_cons_succ]
        refine wpAnyH_take (i := 11) (oi := { dst := some 121, op := Go.Op.binOp Go.BinOp.geq 3 (Go.Operand.tmp 120) (Go.Operand.const (Go.Value.int Go.IntKind.i64 0)) 3, type := 4, pos := "more.go:33", after := #[{ on := 10, ground := Go.Ground.data }, { on := 9, ground := Go.Ground.guard }], guard := some (9, true) }) (v := ?_) rfl (by kernel_rfl) (by kernel_rfl) (by kernel_rfl) (fun _ _ _ h => h) (Or.inl ⟨by rfl, ?_⟩) (by assumption) ?_
        rotate_left
        · ((intro w hSw; (try dsimp only at hSw); go_simp) <;> (with_reducible rfl))
        try simp only [Act.put, List.setIfInBounds_toArray, List.set_cons_zero, List.set_cons_succ]
        refine wpAnyH_take (i := 12) (oi := { dst := some 122, op := Go.Op.pick (Go.Operand.tmp 119) (Go.Operand.tmp 121) (Go.Operand.const (Go.Value.bool false)), type := 4, pos := "more.go:33", after := #[{ on := 9, ground := Go.Ground.data }, { on := 11, ground := Go.Ground.data }], guard := none }) (v := ?_) rfl (by kernel_rfl) (by kernel_rfl) (by kernel_rfl) (fun _ _ _ h => h) (Or.inl ⟨by rfl, ?_⟩) (by assumption) ?_
        rotate_left
        · ((intro w hSw; (try dsimp only at hSw); go_simp) <;> (with_reducible rfl))
        try simp only [Act.put, List.setIfInBounds_toArray, List.set_cons_zero, List.set_cons_succ]
        refine wpAnyH_take (i := 13) (oi := { dst := some 123, op := Go.Op.move (Go.Operand.tmp 122), type := 4, pos := "more.go:33", after := #[{ on := 12, ground := Go.Ground.data }, { on := 9, ground := Go.Ground.chain }], guard := none }) (v := ?_) rfl (by kernel_rfl) (by kernel_rfl) (by kernel_rfl) (fun _ _ _ h => h) (Or.inl ⟨by rfl, ?_⟩) (by assumption) ?_
        rotate_left
        · ((intro w hSw; (try dsimp only at hSw); go_simp) <;> (with_reducible rfl))
        try simp only [Act.put, List.setIfInBounds_toArray, List.set_cons_zero, List.set_cons_succ]
        refine wpAnyH_take (i := 14) (oi := { dst := some 124, op := Go.Op.move (Go.Operand.tmp 13), type := 3, pos := "more.go:33", after := #[{ on := 13, ground := Go.Ground.guard }], guard := some (13, true) }) (v := ?_) rfl (by kernel_rfl) (by kernel_rfl) (by kernel_rfl) (fun _ _ _ h => h) (Or.inl ⟨by rfl, ?_⟩) (by assumption) ?_
        rotate_left
        · ((intro w hSw; (try dsimp only at hSw); go_simp) <;> (with_reducible rfl))
        try simp only [Act.put, List.setIfInBounds_toArray, List.set_cons_zero, List.set_cons_succ]
        refine wpAnyH_take (i := 15) (oi := { dst := some 125, op := Go.Op.binOp Go.BinOp.geq 3 (Go.Operand.tmp 124) (Go.Operand.const (Go.Value.int Go.IntKind.i64 0)) 3, type := 4, pos := "more.go:33", after := #[{ on := 14, ground := Go.Ground.data }, { on := 13, ground := Go.Ground.guard }], guard := some (13, true) }) (v := ?_) rfl (by kernel_rfl) (by kernel_rfl) (by kernel_rfl) (fun _ _ _ h => h) (Or.inl ⟨by rfl, ?_⟩) (by assumption) ?_
        rotate_left
        · ((intro w hSw; (try dsimp only at hSw); go_simp) <;> (with_reducible rfl))
        try simp only [Act.put, List.setIfInBounds_toArray, List.set_cons_zero, List.set_cons_succ]
        refine wpAnyH_take (i := 16) (oi := { dst := some 126, op := Go.Op.pick (Go.Operand.tmp 123) (Go.Operand.tmp 125) (Go.Operand.const (Go.Value.bool false)), type := 4, pos := "more.go:33", after := #[{ on := 13, ground := Go.Ground.data }, { on := 15, ground := Go.Ground.data }], guard := none }) (v := ?_) rfl (by kernel_rfl) (by kernel_rfl) (by kernel_rfl) (fun _ _ _ h => h) (Or.inl ⟨by rfl, ?_⟩) (by assumption) ?_
        rotate_left
        · ((intro w hSw; (try dsimp only at hSw); go_simp) <;> (with_reducible rfl))
        try simp only [Act.put, List.setIfInBounds_toArray, List.set_cons_zero, List.set_cons_succ]
        refine wpAnyH_take (i := 17) (oi := { dst := some 127, op := Go.Op.move (Go.Operand.tmp 126), type := 4, pos := "more.go:33", after := #[{ on := 16, ground := Go.Ground.data }, { on := 13, ground := Go.Ground.chain }], guard := none }) (v := ?_) rfl (by kernel_rfl) (by kernel_rfl) (by kernel_rfl) (fun _ _ _ h => h) (Or.inl ⟨by rfl, ?_⟩) (by assumption) ?_
        rotate_left
        · ((intro w hSw; (try dsimp only at hSw); go_simp) <;> (with_reducible rfl))
        try simp only [Act.put, List.setIfInBounds_toArray, List.set_cons_zero, List.set_cons_succ]
        refine wpAnyH_take (i := 18) (oi := { dst := some 128, op := Go.Op.load 26 (Go.Operand.tmp 8), type := 26, pos := "more.go:33", after := #[{ on := 17, ground := Go.Ground.guard }], guard := some (17, true) }) (v := ?_) rfl (by kernel_rfl) (by kernel_rfl) (by kernel_rfl) (fun _ _ _ h => h) (Or.inl ⟨by rfl, ?_⟩) (by assumption) ?_
        rotate_left
        · ((intro w hSw; (try dsimp only at hSw); go_simp) <;> (with_reducible rfl))
        try simp only [Act.put, List.setIfInBounds_toArray, List.set_cons_zero, List.set_cons_succ]
        refine wpAnyH_take (i := 20) (oi := { dst := some 130, op := Go.Op.load 26 (Go.Operand.tmp 8), type := 26, pos := "more.go:33", after := #[{ on := 17, ground := Go.Ground.guard }], guard := some (17, true) }) (v := ?_) rfl (by kernel_rfl) (by kernel_rfl) (by kernel_rfl) (fun _ _ _ h => h) (Or.inl ⟨by rfl, ?_⟩) (by assumption) ?_
        rotate_left
        · ((intro w hSw; (try dsimp only at hSw); go_simp) <;> (with_reducible rfl))
        try simp only [Act.put, List.setIfInBounds_toArray, List.set_cons_zero, List.set_cons_succ]
        refine wpAnyH_take (i := 23) (oi := { dst := some 133, op := Go.Op.move (Go.Operand.tmp 9), type := 3, pos := "more.go:33", after := #[{ on := 17, ground := Go.Ground.guard }], guard := some (17, true) }) (v := ?_) rfl (by kernel_rfl) (by kernel_rfl) (by kernel_rfl) (fun _ _ _ h => h) (Or.inl ⟨by rfl, ?_⟩) (by assumption) ?_
        rotate_left
        · ((intro w hSw; (try dsimp only at hSw); go_simp) <;> (with_reducible rfl))
        try simp only [Act.put, List.setIfInBounds_toArray, List.set_cons_zero, List.set_cons_succ]
        refine wpAnyH_take (i := 24) (oi := { dst := some 134, op := Go.Op.move (Go.Operand.tmp 0), type := 42, pos := "more.go:33", after := #[{ on := 17, ground := Go.Ground.guard }], guard := some (17, true) }) (v := ?_) rfl (by kernel_rfl) (by kernel_rfl) (by kernel_rfl) (fun _ _ _ h => h) (Or.inl ⟨by rfl, ?_⟩) (by assumption) ?_
        rotate_left
        · ((intro w hSw; (try dsimp only at hSw); go_simp) <;> (with_reducible rfl))
        try simp only [Act.put, List.setIfInBounds_toArray, List.set_cons_zero, List.set_cons_succ]
        refine wpAnyH_take (i := 25) (oi := { dst := some 135, op := Go.Op.call { callee := Go.Callee.builtin Go.Builtin.len, args := #[Go.Operand.tmp 134], argTypes := #[42] }, type := 3, pos := "more.go:33", after := #[{ on := 24, ground := Go.Ground.data }, { on := 17, ground := Go.Ground.guard }], guard := some (17, true) }) (v := ?_) rfl (by kernel_rfl) (by kernel_rfl) (by kernel_rfl) (fun _ _ _ h => h) (Or.inl ⟨by rfl, ?_⟩) (by assumption) ?_
        rotate_left
        · ((intro w hSw; (try dsimp only at hSw); go_simp) <;> (with_reducible rfl))
        try simp only [Act.put, List.setIfInBounds_toArray, List.set_cons_zero, List.set_cons_succ]
        refine wpAnyH_take (i := 26) (oi := { dst := some 136, op := Go.Op.move (Go.Operand.tmp 1), type := 3, pos := "more.go:33", after := #[{ on := 17, ground := Go.Ground.guard }], guard := some (17, true) }) (v := ?_) rfl (by kernel_rfl) (by kernel_rfl) (by kernel_rfl) (fun _ _ _ h => h) (Or.inl ⟨by rfl, ?_⟩) (by assumption) ?_
        rotate_left
        · ((intro w hSw; (try dsimp only at hSw); go_simp) <;> (with_reducible rfl))
        try simp only [Act.put, List.setIfInBounds_toArray, List.set_cons_zero, List.set_cons_succ]
        refine wpAnyH_take (i := 27) (oi := { dst := some 137, op := Go.Op.binOp Go.BinOp.mul 3 (Go.Operand.tmp 135) (Go.Operand.tmp 136) 3, type := 3, pos := "more.go:33", after := #[{ on := 25, ground := Go.Ground.data }, { on := 26, ground := Go.Ground.data }, { on := 17, ground := Go.Ground.guard }], guard := some (17, true) }) (v := ?_) rfl (by kernel_rfl) (by kernel_rfl) (by kernel_rfl) (fun _ _ _ h => h) (Or.inl ⟨by rfl, ?_⟩) (by assumption) ?_
        rotate_left
        · ((intro w hSw; (try dsimp only at hSw); go_simp) <;> (with_reducible rfl))
        try simp only [Act.put, List.setIfInBounds_toArray, List.set_cons_zero, List.set_cons_succ]
        refine wpAnyH_take (i := 28) (oi := { dst := some 138, op := Go.Op.binOp Go.BinOp.sub 3 (Go.Operand.tmp 133) (Go.Operand.tmp 137) 3, type := 3, pos := "more.go:33", after := #[{ on := 23, ground := Go.Ground.data }, { on := 27, ground := Go.Ground.data }, { on := 17, ground := Go.Ground.guard }], guard := some (17, true) }) (v := ?_) rfl (by kernel_rfl) (by kernel_rfl) (by kernel_rfl) (fun _ _ _ h => h) (Or.inl ⟨by rfl, ?_⟩) (by assumption) ?_
        rotate_left
        · ((intro w hSw; (try dsimp only at hSw); go_simp) <;> (with_reducible rfl))
        try simp only [Act.put, List.setIfInBounds_toArray, List.set_cons_zero, List.set_cons_succ]
        refine wpAnyH_ready (rs := [19]) (by kernel_rfl) (by simp) ?_
        refine AllReadyH.cons (o := { dst := some 129, op := Go.Op.call { callee := Go.Callee.value (Go.Operand.func 21), args := #[Go.Operand.tmp 128, Go.Operand.const (Go.Value.int Go.IntKind.i64 0)], argTypes := #[26, 3] }, type := 3, pos := "more.go:33", after := #[{ on := 18, ground := Go.Ground.data }, { on := 17, ground := Go.Ground.chain }, { on := 17, ground := Go.Ground.guard }], guard := some (17, true) }) rfl (fun K hK => ?_) AllReadyH.nil
        go_simp
        (first | (go_at_call 21; (with_reducible refine (HH0.out _ (‹Below wq.heap.size wq _ ∧ _›).1).mono ?_); rintro e t2 ⟨rfl, hb2⟩) | (go_at_call 21; (with_reducible refine (HH1.out _ (‹Below wq.heap.size wq _ ∧ _›).1).mono ?_); rintro e t2 ⟨rfl, hb2⟩))
        refine hK.out _ _ ?_ (fun hH1 => ?_)
        · ((try dsimp only); (first | assumption | exact hS.out _ hr3.out | exact hS.out _ (hr3.out).drew | exact hS.out _ ((‹Below wq.heap.size wq _ ∧ _›).1.trans ((‹Below (World.heap _).size _ _›).mono (‹Below wq.heap.size wq _ ∧ _›).1.size))))
        clear hK K hH0
        try simp only [Act.put, List.setIfInBounds_toArray, List.set_cons_zero, List.set_cons_succ]
        refine wpAnyH_ready (rs := [21]) (by kernel_rfl) (by simp) ?_
        refine AllReadyH.cons (o := { dst := some 131, op := Go.Op.call { callee := Go.Callee.value (Go.Operand.func 21), args := #[Go.Operand.tmp 130, Go.Operand.const (Go.Value.int Go.IntKind.i64 1)], argTypes := #[26, 3] }, type := 3, pos := "more.go:33", after := #[{ on := 20, ground := Go.Ground.data }, { on := 19, ground := Go.Ground.chain }, { on := 17, ground := Go.Ground.guard }], guard := some (17, true) }) rfl (fun K hK => ?_) AllReadyH.nil
        go_simp
        (first | (go_at_call 21; (with_reducible refine (HH0.out _ (‹Below wq.heap.size wq _ ∧ _›).1).mono ?_); rintro e t2 ⟨rfl, hb2⟩) | (go_at_call 21; (with_reducible refine (HH1.out _ (‹Below wq.heap.size wq _ ∧ _›).1).mono ?_); rintro e t2 ⟨rfl, hb2⟩))
        refine hK.out _ _ ?_ (fun hH2 => ?_)
        · ((try dsimp only); (first | assumption | exact hS.out _ hr3.out | exact hS.out _ (hr3.out).drew | exact hS.out _ ((‹Below wq.heap.size wq _ ∧ _›).1.trans ((‹Below (World.heap _).size _ _›).mono (‹Below wq.heap.size wq _ ∧ _›).1.size))))
        clear hK K hH1
        try simp only [Act.put, List.setIfInBounds_toArray, List.set_cons_zero, List.set_cons_succ]
        refine wpAnyH_take (i := 22) (oi := { dst := some 132, op := Go.Op.binOp Go.BinOp.add 3 (Go.Operand.tmp 129) (Go.Operand.tmp 131) 3, type := 3, pos := "more.go:33", after := #[{ on := 19, ground := Go.Ground.data }, { on := 21, ground := Go.Ground.data }, { on := 17, ground := Go.Ground.guard }], guard := some (17, true) }) (v := ?_) rfl (by kernel_rfl) (by kernel_rfl) (by kernel_rfl) (fun _ _ _ h => h) (Or.inl ⟨by rfl, ?_⟩) (by assumption) ?_
        rotate_left
        · ((intro w hSw; (try dsimp only at hSw); go_simp) <;> (with_reducible rfl))
        try simp only [Act.put, List.setIfInBounds_toArray, List.set_cons_zero, List.set_cons_succ]
        refine wpAnyH_take (i := 29) (oi := { dst := some 139, op := Go.Op.binOp Go.BinOp.eql 3 (Go.Operand.tmp 132) (Go.Operand.tmp 138) 3, type := 4, pos := "more.go:33", after := #[{ on := 22, ground := Go.Ground.data }, { on := 28, ground := Go.Ground.data }, { on := 17, ground := Go.Ground.guard }], guard := some (17, true) }) (v := ?_) rfl (by kernel_rfl) (by kernel_rfl) (by kernel_rfl) (fun _ _ _ h => h) (Or.inl ⟨by rfl, ?_⟩) (by assumption) ?_
        rotate_left
        · ((intro w hSw; (try dsimp only at hSw); go_simp) <;> (with_reducible rfl))
        try simp only [Act.put, List.setIfInBounds_toArray, List.set_cons_zero, List.set_cons_succ]
        refine wpAnyH_take (i := 30) (oi := { dst := some 140, op := Go.Op.pick (Go.Operand.tmp 127) (Go.Operand.tmp 139) (Go.Operand.const (Go.Value.bool false)), type := 4, pos := "more.go:33", after := #[{ on := 17, ground := Go.Ground.data }, { on := 29, ground := Go.Ground.data }], guard := none }) (v := ?_) rfl (by kernel_rfl) (by kernel_rfl) (by kernel_rfl) (fun _ _ _ h => h) (Or.inl ⟨by rfl, ?_⟩) (by assumption) ?_
        rotate_left
        · ((intro w hSw; (try dsimp only at hSw); go_simp) <;> (with_reducible rfl))
        try simp only [Act.put, List.setIfInBounds_toArray, List.set_cons_zero, List.set_cons_succ]
        refine wpAnyH_take (i := 31) (oi := { dst := some 6, op := Go.Op.assign (Go.Operand.tmp 140), type := 4, pos := "more.go:33", after := #[{ on := 30, ground := Go.Ground.data }, { on := 21, ground := Go.Ground.chain }, { on := 0, ground := Go.Ground.phase }, { on := 1, ground := Go.Ground.phase }, { on := 2, ground := Go.Ground.phase }, { on := 3, ground := Go.Ground.phase }, { on := 4, ground := Go.Ground.phase }, { on := 5, ground := Go.Ground.phase }, { on := 6, ground := Go.Ground.phase }, { on := 7, ground := Go.Ground.phase }, { on := 8, ground := Go.Ground.phase }, { on := 9, ground := Go.Ground.phase }, { on := 10, ground := Go.Ground.phase }, { on := 11, ground := Go.Ground.phase }, { on := 12, ground := Go.Ground.phase }, { on := 13, ground := Go.Ground.phase }, { on := 14, ground := Go.Ground.phase }, { on := 15, ground := Go.Ground.phase }, { on := 16, ground := Go.Ground.phase }, { on := 17, ground := Go.Ground.phase }, { on := 18, ground := Go.Ground.phase }, { on := 19, ground := Go.Ground.phase }, { on := 20, ground := Go.Ground.phase }, { on := 21, ground := Go.Ground.phase }, { on := 22, ground := Go.Ground.phase }, { on := 23, ground := Go.Ground.phase }, { on := 24, ground := Go.Ground.phase }, { on := 25, ground := Go.Ground.phase }, { on := 26, ground := Go.Ground.phase }, { on := 27, ground := Go.Ground.phase }, { on := 28, ground := Go.Ground.phase }, { on := 29, ground := Go.Ground.phase }, { on := 30, ground := Go.Ground.phase }], guard := none }) (v := ?_) rfl (by kernel_rfl) (by kernel_rfl) (by kernel_rfl) (fun _ _ _ h => h) (Or.inl ⟨by rfl, ?_⟩) (by assumption) ?_
        rotate_left
        · ((intro w hSw; (try dsimp only at hSw); go_simp) <;> (with_reducible rfl))
        try simp only [Act.put, List.setIfInBounds_toArray, List.set_cons_zero, List.set_cons_succ]
        refine wpAnyH_done (by kernel_rfl) ?_ _
        all_goals
          go_wp2
          exact HOB.out _ (‹Below wq.heap.size wq _ ∧ _›).1
theorem lifted (os : Os) (started : os.Started) (H : Type) (enc : TypeId × Value → H) :
    ReturnsInHanded {} Try.checked os 9 .any (Rows.planFullSpec.pre6 enc Try.prog Try.f9 Rows.planFullRow.domain false) (Rows.planFullSpec.post enc Try.prog Try.f9 false true false false) := by
  refine returnsInHanded_of_change (C := Try.checked) own started (by kernel_rfl) Try.func9
    (ChangeSpec.witness6 (enc := enc) (C := Try.checked) false ⟨#[], #[.slice none 0 0, .int .i64 0, .int .i64 0], []⟩ 8 (by kernel_rfl) (by kernel_rfl) (by kernel_rfl) (by kernel_rfl)) ?_
  intro W base args ds gs before hval0 hW hcnd _
  have hval : ∀ (j : Nat) t v, Try.f9.params[j]? = some t → args[j]? = some v → Value.okWide Try.prog W .any base t v := hval0
  have hW' := hW
  obtain ⟨p, q, hA0, hV, rfl, hfz, hnd⟩ := hW
  have hA : DataW.TrodAll enc Try.prog W 0 (fun _ => true) true Try.f9.params.toList args.toList ds p := hA0
  rw [Try.params9] at hA hval
  obtain ⟨v0, vs0, d0, ds0, p0, q0, hargs, rfl, rfl, h0, r0⟩ := trodAll_cons hA
  obtain ⟨v1, vs1, d1, ds1, p1, q1, rfl, rfl, rfl, h1, r1⟩ := trodAll_cons r0
  obtain ⟨v2, vs2, d2, ds2, p2, q2, rfl, rfl, rfl, h2, r2⟩ := trodAll_cons r1
  obtain ⟨rfl, rfl, rfl⟩ := trodAll_nil r2
  obtain rfl : args = #[v0, v1, v2] := by cases args; simp_all
  obtain ⟨rfl, rfl⟩ := trodVars_none hV
  have hlt0 : ∀ x ∈ p0, x.block < W.heap.size := fun x hx => hW'.lt x (by simp [hx])
  obtain ⟨p0, n0, k0, xs0, rfl, L0, H0, m0⟩ := open_intsC (hval 0 42 v0 rfl rfl) h0
  obtain ⟨x1, rfl, rfl, rfl, w1⟩ := open_int Try.underlying3 (hval 1 3 v1 rfl rfl) h1
  obtain ⟨x2, rfl, rfl, rfl, w2⟩ := open_int Try.underlying3 (hval 2 3 v2 rfl rfl) h2
  clear hA0 hval0
  simp only [List.append_nil] at hW'
  refine (walk W L0 H0 m0 x1 w1 x2 w2).mono fun e W' ⟨he, hg⟩ => ?_
  subst he
  exact ⟨_, rfl, _, _, _, [], _, [], hW', (trodAll_cons_mk (shut_bool Try.underlying4 _) trodAll_mk0), (trodAll_cons_mk (Below.trod laidOut (by kernel_rfl) (of_decide_eq_true (by kernel_rfl)) h0 hg hlt0) (trodAll_cons_mk (shut_int Try.underlying3 w1) (trodAll_cons_mk (shut_int Try.underlying3 w2) trodAll_mk0))), rfl, hg.frame _, fun h => by cases h⟩
theorem over : Rows.planFullRow.holds Try.pinned (OpenSpec.ofChange Rows.planFullSpec) :=
  OpenClaim.holds_of_wide 9 Try.f9 rfl rfl rfl rfl rfl rfl rfl ⟨rfl, rfl, rfl, rfl, rfl⟩ rfl rfl rfl rfl rfl (by kernel_rfl) Try.func9 (by kernel_rfl)
    (of_decide_eq_true (by kernel_rfl)) (by unfold Func.isWrapper; first | (rw [if_pos (by decide +kernel)]; kernel_rfl) | (rw [if_neg (by decide +kernel)]; exact ⟨rfl, rfl⟩))
    (fun os started H enc _ => lifted os started H enc)
/-- THE STATEMENT. -/
theorem proved : Rows.PlanFullSaid :=
  over
end Go.Proofs.Ytnglmiihlpjelaa.planFull
