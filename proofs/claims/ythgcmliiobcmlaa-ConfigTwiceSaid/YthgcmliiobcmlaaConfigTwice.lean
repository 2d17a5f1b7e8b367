/-
  Two names that are one, and two windows that lap, are refused wherever they stand (law ConfigTwice returns true).
  No condition: whatever the arguments are.
-/
import Derived.Test.YthgcmliiobcmlaaRows
import Derived.WalkKit
import Derived.ProofKit
import Derived.OpenShut
import Derived.Test.YthgcmliiobcmlaaCfgTw
import Derived.Test.YthgcmliiobcmlaaCfgR
namespace Go.Proofs.Ythgcmliiobcmlaa.configTwice
open Go.ChangeShapes Go.WideShapes Go.ChangeAt Go.RowKit
set_option linter.unusedVariables false      -- a walk need not use every 'w<i>' (that an integer argument fits its kind)

theorem own : ownKnob Try.prog.godebug = none := by kernel_rfl

open Go.Proofs.Ythgcmliiobcmlaa Go.Proofs.Ythgcmliiobcmlaa.Cfg
set_option maxRecDepth 100000 in
set_option maxHeartbeats 16000000 in
theorem walk (a0 : Int) (a1 : Int) (a2 : Int) (w0 : (Lit.int .i64 a0).wf = true) (w1 : (Lit.int .i64 a1).wf = true) (w2 : (Lit.int .i64 a2).wf = true) (w : World) :
    Calls Try.prog 5 #[.int .i64 a0, .int .i64 a1, .int .i64 a2] w fun e w' => e = .returned (.bool true) ∧ Below w.heap.size w w' := by
  obtain ⟨r, hr⟩ : ∃ r : Ending → World → Prop, r = fun e w' => e = .returned (.bool true) ∧ Below w.heap.size w w' := ⟨_, rfl⟩
  rw [← hr]
  have HO := Lib.hid (fun u (b : Below w.heap.size w u) => (by rw [hr]; exact ⟨rfl, b⟩ : r (.returned (.bool true)) u))
  clear hr w0 w1 w2
  go_enter Try.func5, Try.ntmps5
  go_upto_region 2 with (go_at_call 6; (with_reducible refine (alive14 _).mono ?_); rintro e wa ⟨rfl, ba⟩)
  have BA := Lib.hid ba
  clear ba
  by_cases q0 : a0 < 0
  · go_wp2; exact HO.out _ BA.out
  by_cases q1 : a0 > 5
  · go_wp2; exact HO.out _ BA.out
  by_cases q2 : a1 < 0
  · go_wp2; exact HO.out _ BA.out
  by_cases q3 : a1 > 5
  · go_wp2; exact HO.out _ BA.out
  by_cases q4 : a2 < 0
  · go_wp2; exact HO.out _ BA.out
  by_cases q5 : a2 > 9
  · go_wp2; exact HO.out _ BA.out
  go_upto_region 4 with fail
  obtain ⟨I, rfl⟩ := Int.eq_ofNat_of_zero_le (show 0 ≤ a0 by omega)
  obtain ⟨J, rfl⟩ := Int.eq_ofNat_of_zero_le (show 0 ≤ a1 by omega)
  obtain ⟨P, rfl⟩ := Int.eq_ofNat_of_zero_le (show 0 ≤ a2 by omega)
  have hI : I < 6 := by omega
  have hJ : J < 6 := by omega
  have hP : P ≤ 9 := by omega
  clear q0 q1 q2 q3 q4 q5
  go_upto_region 5 with fail
  obtain ⟨hb, hhb⟩ : ∃ hb, wa.heap.size = hb := ⟨_, rfl⟩
  obtain ⟨wb, hwb⟩ : ∃ wb, wb = wa.alloc (.cells #[.int .i64 40, .int .i64 100, .int .i64 0, .slice none 0 0, .slice none 0 0, .slice none 0 0] 27) := ⟨_, rfl⟩
  have C0 := Lib.hid (show Cb w wb hb (cT 0) (.slice none 0 0) (.slice none 0 0) (.slice none 0 0) by
    refine ⟨by rw [hwb]; exact BA.out.alloc BA.out.size _, by rw [← hhb]; exact BA.out.size, by rw [hwb, ← hhb]; exact heap_alloc_new _ _, ownS_nil _ _ _ _, ownS_nil _ _ _ _, ownS_nil _ _ _ _, ⟨fun e => (by cases e), fun e => (by cases e), fun e => (by cases e)⟩, fun g => ⟨fun e => (by cases e), fun e => (by cases e)⟩⟩)
  try rw [hhb]
  rw [← hwb]
  clear hwb hhb BA
  go_cut [9] from 12 (fun s wx => s = .int .i64 0 ∧ wx = wb)
  case first => go_wp2; go_meet; case rel => exact ⟨rfl, rfl⟩
  case rest =>
    obtain ⟨rfl, rfl⟩ := hcut
    refine ‹∀ (a : Act) (w : World), Code.wp _ _ _ a w → _› _ _ ?_
    go_cut [] from 12 (fun wx => ∃ v1 v3, Cb w wx hb (cT 6) v1 (.slice none 0 0) v3)
    case first =>
      go_wp2
      go_loopw [9] (fun i wr => ∃ j : Nat, j ≤ 6 ∧ i = .int .i64 j ∧ ∃ v1 v3, Cb w wr hb (cT j) v1 (.slice none 0 0) v3) (fun i _ => 6 - (intOf i).toNat)
      case atStart => exact ⟨0, Nat.zero_le _, rfl, _, _, C0.out⟩
      case round =>
        obtain ⟨j, hj, rfl, v1, v3, C⟩ := hrel
        by_cases hjl : j < 6
        · have hjI : (j : Int) < 6 := by omega
          have s5 := abc_slice j hjl
          obtain ⟨p1, c1, e1, -, -, -⟩ := ownS_form C.o1
          obtain ⟨n1, hn1⟩ : ∃ n1, ((cT j).parts.map ptC).length = n1 := ⟨_, rfl⟩
          have hl1 : n1 = j := by rw [← hn1, List.length_map]; exact partsT_len j
          rw [hn1] at e1
          subst e1
          have HW := Lib.hid (fun (u : World) (hu : Below wr.heap.size wr u) => C.kept hu)
          have z3 := C.at 3 _ rfl
          have cv := HW.out wr.drew (Below.refl _ _).drew
          have cn := HW.out ((wr.alloc (.cells #[.string (nmT j), .int .i64 2, .int .i64 0] 30)).drew) (below_alloc _ _).drew
          have cm := HW.out (wr.drew.alloc (.cells #[.string (nmT j), .int .i64 2, .int .i64 0] 30)) ((Below.refl _ _).drew.alloc (by show wr.heap.size ≤ wr.heap.size; omega) _)
          have SN := Lib.hid (show SrcS 3 ((wr.alloc (.cells #[.string (nmT j), .int .i64 2, .int .i64 0] 30)).drew) (some ⟨wr.heap.size, 0, none⟩) [[Value.string (nmT j), .int .i64 2, .int .i64 0]] from src_new wr 3 [.string (nmT j), .int .i64 2, .int .i64 0] _)
          have SM := Lib.hid (show SrcS 3 (wr.drew.alloc (.cells #[.string (nmT j), .int .i64 2, .int .i64 0] 30)) (some ⟨wr.heap.size, 0, none⟩) [[Value.string (nmT j), .int .i64 2, .int .i64 0]] from src_new wr.drew 3 [.string (nmT j), .int .i64 2, .int .i64 0] _)
          have z3v := cv.at 3 _ rfl
          have z3n := cn.at 3 _ rfl
          have z3m := cm.at 3 _ rfl
          have SZ := Lib.hid (by omega : ((cT j).parts.map ptC).length + 1 ≤ 1000000)
          have CN := Lib.hid cn
          have CM := Lib.hid cm
          clear cn cm cv hn1
          have hz := Lib.hid (fun (wn : World) (CN : Cb w wn hb (cT j) (.slice p1 n1 c1) (.slice none 0 0) v3) v' w4 (o4 : OwnS 30 3 w4 w.heap.size v' ((cT j).parts.map ptC ++ [[Value.string (nmT j), .int .i64 2, .int .i64 0]])) (g4 : wn.grownBy w4 (Value.slice p1 n1 c1).ownBlock) (hv : v'.ownBlock = (Value.slice p1 n1 c1).ownBlock ∨ v'.ownBlock = some wn.heap.size) =>
            (⟨(by rw [World.cell?_of_block (g4.block hb CN.lt (fun e => CN.ne.1 e.symm))]; exact CN.at 3 _ rfl), (by have hq := (g4.block hb CN.lt (fun e => CN.ne.1 e.symm)).trans CN.hd; simp [World.frozen?, hq]), CN.app1 (l := partsT (j + 1)) (by rw [partsT_succ, List.map_append]; exact o4) g4 hv⟩ :
              w4.cell? ⟨hb, 3, none⟩ = some (.slice p1 n1 c1) ∧ w4.frozen? ⟨hb, 3, none⟩ = false ∧ Cb w (w4.setCell ⟨hb, 3, none⟩ v') hb { cT j with parts := partsT (j + 1) } v' (.slice none 0 0) v3))
          replace C := Lib.hid C
          clear HW C0 C hl1
          go_wp2
          go_region_law (first
            | (refine step_appS kdP rfl _ _ rfl CN.out.b.size (v1 := .slice p1 n1 c1) (R1 := (cT j).parts.map ptC) rfl CN.out.o1 (p := some ⟨wr.heap.size, 0, none⟩) (m := 1) (c := 1) [[Value.string (nmT j), .int .i64 2, .int .i64 0]] (even_pt [ptT j]) rfl rfl (fun e => by cases e) SN.out SZ.out ?_; intro v' w4 o4 b4 g4 hv; obtain ⟨k1, k2, C4⟩ := hz.out _ CN.out v' w4 o4 g4 hv; obtain ⟨p4, c4, e4, -, -, -⟩ := ownS_form o4; obtain ⟨n4, hn4⟩ : ∃ n4, ((cT j).parts.map ptC ++ [[Value.string (nmT j), .int .i64 2, .int .i64 0]]).length = n4 := ⟨_, rfl⟩; rw [hn4] at e4; clear hn4 o4 b4 g4 hv; subst e4; have HC := Lib.hid C4; clear C4)
            | (refine step_appS kdP rfl _ _ rfl CM.out.b.size (v1 := .slice p1 n1 c1) (R1 := (cT j).parts.map ptC) rfl CM.out.o1 (p := some ⟨wr.heap.size, 0, none⟩) (m := 1) (c := 1) [[Value.string (nmT j), .int .i64 2, .int .i64 0]] (even_pt [ptT j]) rfl rfl (fun e => by cases e) SM.out SZ.out ?_; intro v' w4 o4 b4 g4 hv; obtain ⟨k1, k2, C4⟩ := hz.out _ CM.out v' w4 o4 g4 hv; obtain ⟨p4, c4, e4, -, -, -⟩ := ownS_form o4; obtain ⟨n4, hn4⟩ : ∃ n4, ((cT j).parts.map ptC ++ [[Value.string (nmT j), .int .i64 2, .int .i64 0]]).length = n4 := ⟨_, rfl⟩; rw [hn4] at e4; clear hn4 o4 b4 g4 hv; subst e4; have HC := Lib.hid C4; clear C4))
          all_goals
            clear k1 k2 hz CN CM SN SM z3v z3n z3m z3 s5
            obtain ⟨w5, hw5⟩ : ∃ w5, w5 = w4.setCell ⟨hb, 3, none⟩ (.slice p4 n4 c4) := ⟨_, rfl⟩
            rw [← hw5] at HC ⊢
            clear hw5
            have e10 : IntKind.i64.wrap (10 * (j : Int)) = 10 * (j : Int) := by rw [IntKind.wrap_i64]; omega
            obtain ⟨p3, c3, e3, -, -, -⟩ := ownS_form HC.out.o3
            obtain ⟨n3, hn3⟩ : ∃ n3, ((winsT j).map wnC).length = n3 := ⟨_, rfl⟩
            have hl3 : n3 = j := by rw [← hn3, List.length_map]; exact winsT_len j
            replace e3 : v3 = .slice p3 n3 c3 := by rw [← hn3]; exact e3
            subst e3
            have z5 := HC.out.at 5 _ rfl
            have cn := HC.out.kept (below_alloc w5 (.cells #[.int .i64 (10 * (j : Int)), .int .i64 10, .int .i64 j] 34))
            have SN := Lib.hid (show SrcS 3 (w5.alloc (.cells #[.int .i64 (10 * (j : Int)), .int .i64 10, .int .i64 j] 34)) (some ⟨w5.heap.size, 0, none⟩) [[Value.int .i64 (10 * (j : Int)), .int .i64 10, .int .i64 j]] from src_new w5 3 [.int .i64 (10 * (j : Int)), .int .i64 10, .int .i64 j] _)
            have z5n := cn.at 5 _ rfl
            have SZ := Lib.hid (by omega : ((winsT j).map wnC).length + 1 ≤ 1000000)
            have CN := Lib.hid cn
            have hz := Lib.hid (fun v' w4 (o4 : OwnS 34 3 w4 w.heap.size v' ((winsT j).map wnC ++ [[Value.int .i64 (10 * (j : Int)), .int .i64 10, .int .i64 j]])) (g4 : (w5.alloc (.cells #[.int .i64 (10 * (j : Int)), .int .i64 10, .int .i64 j] 34)).grownBy w4 (Value.slice p3 n3 c3).ownBlock) (hv : v'.ownBlock = (Value.slice p3 n3 c3).ownBlock ∨ v'.ownBlock = some (w5.alloc (.cells #[.int .i64 (10 * (j : Int)), .int .i64 10, .int .i64 j] 34)).heap.size) =>
              (⟨(by rw [World.cell?_of_block (g4.block hb cn.lt (fun e => cn.ne.2.2 e.symm))]; exact cn.at 5 _ rfl), (by have hq := (g4.block hb cn.lt (fun e => cn.ne.2.2 e.symm)).trans cn.hd; simp [World.frozen?, hq]), cn.app3 (l := winsT (j + 1)) (by rw [winsT_succ, List.map_append]; exact o4) g4 hv⟩ :
                w4.cell? ⟨hb, 5, none⟩ = some (.slice p3 n3 c3) ∧ w4.frozen? ⟨hb, 5, none⟩ = false ∧ Cb w (w4.setCell ⟨hb, 5, none⟩ v') hb (cT (j + 1)) (.slice p4 n4 c4) (.slice none 0 0) v'))
            clear cn hn3 hl3 HC
            go_wp2_with (at_builtin; (refine wpList_appS kdW rfl _ _ rfl CN.out.b.size (R1 := (winsT j).map wnC) rfl CN.out.o3 [[Value.int .i64 (10 * (j : Int)), .int .i64 10, .int .i64 j]] (even_wn [wnT j]) rfl rfl (fun e => by cases e) SN.out SZ.out ?_); intro v' w6 o6 b6 g6 hv; obtain ⟨k1, k2, C6⟩ := hz.out v' w6 o6 g6 hv; obtain ⟨p6, c6, e6, -, -, -⟩ := ownS_form o6; obtain ⟨n6, hn6⟩ : ∃ n6, ((winsT j).map wnC ++ [[Value.int .i64 (10 * (j : Int)), .int .i64 10, .int .i64 j]]).length = n6 := ⟨_, rfl⟩; rw [hn6] at e6; clear hn6 o6 b6 g6 hv; subst e6; have HD := Lib.hid C6; clear C6)
            go_roundw
            case rel => exact ⟨j + 1, hjl, by go_num, _, _, HD.out⟩
            case measure => simp [intOf]; omega
        · have hjm : j = 6 := by omega
          subst hjm
          replace C := Lib.hid C
          go_wp2
          go_meet
          case rel => exact ⟨v1, v3, C.out⟩
    case rest =>
      obtain ⟨v1, v3, C⟩ := hcut
      clear C0
      rename World => wo
      obtain ⟨p1, c1, e1, n1, -, -⟩ := ownS_form C.o1
      replace e1 : v1 = .slice p1 6 c1 := e1
      obtain ⟨p3, c3, e3, n3, -, -⟩ := ownS_form C.o3
      replace e3 : v3 = .slice p3 6 c3 := e3
      subst e1 e3
      have N1 := Lib.hid n1
      have N3 := Lib.hid n3
      replace C := Lib.hid C
      clear n1 n3
      refine ‹∀ (a : Act) (w : World), Code.wp _ _ _ a w → _› _ _ ?_
      have hII : (I : Int) < 6 := by omega
      have hJI : (J : Int) < 6 := by omega
      have z0 : wo.cell? ⟨hb, 0, none⟩ = some (.int .i64 40) := C.out.at 0 _ rfl
      have z1 : wo.cell? ⟨hb, 1, none⟩ = some (.int .i64 100) := C.out.at 1 _ rfl
      have z2 : wo.cell? ⟨hb, 2, none⟩ = some (.int .i64 0) := C.out.at 2 _ rfl
      have z3 := C.out.at 3 _ rfl
      have z4 := C.out.at 4 _ rfl
      have z5 := C.out.at 5 _ rfl
      -- d
      go_upto_region 11 with fail
      obtain ⟨hd, hhd⟩ : ∃ hd, wo.heap.size = hd := ⟨_, rfl⟩
      obtain ⟨wd, hwd⟩ : ∃ wd, wd = wo.alloc (.cells #[.int .i64 40, .int .i64 100, .int .i64 0, .slice p1 6 c1, .slice none 0 0, .slice p3 6 c3] 27) := ⟨_, rfl⟩
      have D0 := Lib.hid (by rw [hwd, ← hhd]; exact C.out.copy : Cb w wd hd (cT 6) (.slice p1 6 c1) (.slice none 0 0) (.slice p3 6 c3))
      have BD := Lib.hid (by rw [hwd]; exact below_alloc _ _ : Below wo.heap.size wo wd)
      rw [← hwd]
      try rw [hhd]
      clear hwd z0 z1 z2 z3 z4 z5
      have z3 := (C.out.kept BD.out).at 3 _ rfl
      have S1 := Lib.hid (show SrcS 3 wd p1 ((cT 6).parts.map ptC) by
        obtain ⟨q1, d1, q2, d2, q3, d3, e1, -, -, -, L1, -, -⟩ := D0.out.lies
        injection e1 with e1 _ _
        subst e1
        exact L1.src (by omega) (even_pt _))
      go_upto_region 12 with (at_builtin; go_loud (refine wpList_appS kdP rfl _ _ rfl (Nat.le_refl _) (v1 := .slice none 0 0) (R1 := []) rfl (ownS_nil _ _ _ _) (p := p1) (m := 6) (c := c1) ((cT 6).parts.map ptC) (even_pt _) rfl rfl N1.out S1.out (by decide) ?_); intro v' w4 o4 b4 g4 hv; obtain ⟨g1, q1, e4, l4, m4⟩ := own_some o4 (by decide); go_loud (replace e4 : v' = .slice (some ⟨g1, 0, none⟩) 6 q1 := e4); subst e4; go_loud (have k3 := (D0.out.kept b4).at 3 _ rfl); have f3 := (D0.out.kept b4).fr 3; have B4 := Lib.hid b4; go_loud (have D1 := Lib.hid (D0.out.app1 (l := partsT 6) (ownS_mono o4 D0.out.b.size) (grown_any g4) (.inr (by rcases hv with h | h <;> first | exact h | cases h)) : Cb w _ hd (cT 6) _ _ _)); clear o4 b4 g4 hv)
      obtain ⟨we, hwe⟩ : ∃ we, we = w4.setCell ⟨hd, 3, none⟩ (.slice (some ⟨g1, 0, none⟩) 6 q1) := ⟨_, rfl⟩
      have BE := Lib.hid (by rw [hwe]; exact below_setCell (BD.out.trans (B4.out.mono BD.out.size)) _ _ (by omega) _ : Below wo.heap.size wo we)
      rw [← hwe] at D1 ⊢
      have hg1 : wo.heap.size ≤ g1 := Nat.le_trans BD.out.size l4
      clear hwe k3 f3 B4 D0 S1 l4 m4 z3
      -- its name
      have BF := Lib.hid (BE.out.drew)
      have DF := Lib.hid (D1.out.kept (Below.refl _ _).drew)
      have CF := Lib.hid (C.out.kept BF.out)
      obtain ⟨gg, q, e, fz, zz, hput⟩ := DF.out.put1 (i := I) (k := 0) (x := ptT I) (partsT_get hI) (by omega)
      have eg : g1 = gg := by injection e with e _ _; injection e with e; injection e
      subst eg
      have zz := zz _ rfl
      have D2 := Lib.hid (hput (.string (nmT J)) ⟨nmT J, 2, 0⟩ rfl : Cb w _ hd (dT I J) _ _ _)
      have y0 : ∃ b off, p1 = some ⟨b, off, none⟩ ∧ we.drew.cell? ⟨b, off + J * 3, none⟩ = some (.string (nmT J)) := by
        obtain ⟨q1, d1, q2, d2, q3, d3, e1, -, -, -, L1, -, -⟩ := CF.out.lies
        injection e1 with e1 _ _
        subst e1
        obtain ⟨b, off, e2, -, h0, -, -⟩ := L1.cell3 J (ptT J) (partsT_get hJ) rfl
        exact ⟨b, off, e2, h0⟩
      obtain ⟨b, off, rfl, y0⟩ := y0
      have k3 := DF.out.at 3 _ rfl
      have z3 := CF.out.at 3 _ rfl
      clear e hput D1 BE
      simp only [Nat.add_zero] at fz zz D2
      go_wp2
      go_cut [] from 12 (fun wx => wx = (we.setCell ⟨g1, I * 3, none⟩ (.string (nmT J))).drew)
      case first =>
        go_region_with (fail)
        all_goals
          go_wp2
          go_meet
          case rel => rfl
      case rest =>
      refine ‹∀ (a : Act) (w : World), Code.wp _ _ _ a w → _› _ _ ?_
      rw [hcut]
      clear hcut
      obtain ⟨wf, hwf⟩ : ∃ wf, wf = (we.setCell ⟨g1, I * 3, none⟩ (.string (nmT J))).drew := ⟨_, rfl⟩
      have BF2 := Lib.hid (by rw [hwf]; exact below_setCell BF.out _ _ hg1 _ : Below wo.heap.size wo wf)
      replace D2 := Lib.hid (by rw [hwf]; exact D2.out : Cb w wf hd (dT I J) (.slice (some ⟨g1, 0, none⟩) 6 q1) (.slice none 0 0) (.slice p3 6 c3))
      rw [← hwf]
      have C2 := Lib.hid (C.out.kept BF2.out)
      clear hwf BF DF CF fz zz k3 z3 y0 BD
      -- e
      have z0 : wf.cell? ⟨hb, 0, none⟩ = some (.int .i64 40) := C2.out.at 0 _ rfl
      have z1 : wf.cell? ⟨hb, 1, none⟩ = some (.int .i64 100) := C2.out.at 1 _ rfl
      have z2 : wf.cell? ⟨hb, 2, none⟩ = some (.int .i64 0) := C2.out.at 2 _ rfl
      have z3 := C2.out.at 3 _ rfl
      have z4 := C2.out.at 4 _ rfl
      have z5 := C2.out.at 5 _ rfl
      go_upto_region 14 with fail
      obtain ⟨he, hhe⟩ : ∃ he, wf.heap.size = he := ⟨_, rfl⟩
      obtain ⟨wg, hwg⟩ : ∃ wg, wg = wf.alloc (.cells #[.int .i64 40, .int .i64 100, .int .i64 0, .slice (some ⟨b, off, none⟩) 6 c1, .slice none 0 0, .slice p3 6 c3] 27) := ⟨_, rfl⟩
      have E0 := Lib.hid (by rw [hwg, ← hhe]; exact C2.out.copy : Cb w wg he (cT 6) (.slice (some ⟨b, off, none⟩) 6 c1) (.slice none 0 0) (.slice p3 6 c3))
      have BG := Lib.hid (by rw [hwg]; exact below_alloc _ _ : Below wf.heap.size wf wg)
      rw [← hwg]
      try rw [hhe]
      clear hwg z0 z1 z2 z3 z4 z5
      have z5 := (C2.out.kept BG.out).at 5 _ rfl
      have S3 := Lib.hid (show SrcS 3 wg p3 ((cT 6).wins.map wnC) by
        obtain ⟨q1, d1, q2, d2, q3, d3, -, -, e3, -, -, -, L3⟩ := E0.out.lies
        injection e3 with e3 _ _
        subst e3
        exact L3.src (by omega) (even_wn _))
      go_upto_region 15 with (at_builtin; (refine wpList_appS kdW rfl _ _ rfl (Nat.le_refl _) (v1 := .slice none 0 0) (R1 := []) rfl (ownS_nil _ _ _ _) (p := p3) (m := 6) (c := c3) ((cT 6).wins.map wnC) (even_wn _) rfl rfl N3.out S3.out (by decide) ?_); intro v' w4 o4 b4 g4 hv; obtain ⟨g3, q3, e4, l4, m4⟩ := own_some o4 (by decide); replace e4 : v' = .slice (some ⟨g3, 0, none⟩) 6 q3 := e4; subst e4; have k5 := (E0.out.kept b4).at 5 _ rfl; have f5 := (E0.out.kept b4).fr 5; have B4 := Lib.hid b4; have E1 := Lib.hid (E0.out.app3 (l := winsT 6) (ownS_mono o4 E0.out.b.size) (grown_any g4) (.inr (by rcases hv with h | h <;> first | exact h | cases h)) : Cb w _ he (cT 6) _ _ _); clear o4 b4 g4 hv)
      obtain ⟨wi, hwi⟩ : ∃ wi, wi = w4.setCell ⟨he, 5, none⟩ (.slice (some ⟨g3, 0, none⟩) 6 q3) := ⟨_, rfl⟩
      have BI := Lib.hid (by rw [hwi]; exact below_setCell (BG.out.trans (B4.out.mono BG.out.size)) _ _ (by omega) _ : Below wf.heap.size wf wi)
      rw [← hwi] at E1 ⊢
      have hg3 : wf.heap.size ≤ g3 := Nat.le_trans BG.out.size l4
      clear hwi k5 f5 B4 E0 S3 l4 m4 z5 BG
      -- its window
      have BJ := Lib.hid (BI.out.drew)
      have EF := Lib.hid (E1.out.kept (Below.refl _ _).drew)
      obtain ⟨gg, q, e, fz, zz, hput⟩ := EF.out.put3 (i := I) (k := 0) (x := wnT I) (winsT_get hI) (by omega)
      have eg : g3 = gg := by injection e with e _ _; injection e with e; injection e
      subst eg
      have zz : wi.drew.cell? ⟨g3, I * 3, none⟩ = some (.int .i64 (10 * (I : Int))) := zz _ rfl
      have E2 := Lib.hid (hput (.int .i64 (10 * (I : Int) - P)) ⟨10 * (I : Int) - P, 10, I⟩ rfl : Cb w _ he { cT 6 with wins := (winsT 6).set I ⟨10 * (I : Int) - P, 10, I⟩ } _ _ _)
      have e11 : IntKind.i64.wrap (10 * (I : Int) - P) = 10 * (I : Int) - P := by rw [IntKind.wrap_i64]; omega
      have k5 := EF.out.at 5 _ rfl
      clear e hput E1 BI
      simp only [Nat.add_zero] at fz E2
      go_wp2
      go_cut [] from 12 (fun wx => wx = (wi.setCell ⟨g3, I * 3, none⟩ (.int .i64 (10 * (I : Int) - P))).drew)
      case first =>
        go_region_with (fail)
        all_goals
          go_wp2
          go_meet
          case rel => rfl
      case rest =>
      refine ‹∀ (a : Act) (w : World), Code.wp _ _ _ a w → _› _ _ ?_
      rw [hcut]
      clear hcut
      obtain ⟨wl, hwl⟩ : ∃ wl, wl = (wi.setCell ⟨g3, I * 3, none⟩ (.int .i64 (10 * (I : Int) - P))).drew := ⟨_, rfl⟩
      have BL := Lib.hid (by rw [hwl]; exact below_setCell BJ.out _ _ hg3 _ : Below wf.heap.size wf wl)
      replace E2 := Lib.hid (by rw [hwl]; exact E2.out : Cb w wl he { cT 6 with wins := (winsT 6).set I ⟨10 * (I : Int) - P, 10, I⟩ } (.slice (some ⟨b, off, none⟩) 6 c1) (.slice none 0 0) (.slice (some ⟨g3, 0, none⟩) 6 q3))
      rw [← hwl]
      clear hwl BJ EF fz zz k5 e11
      have e12 : IntKind.i64.wrap (10 + (P : Int)) = 10 + (P : Int) := by rw [IntKind.wrap_i64]; omega
      go_upto_region 16 with fail
      go_cut [99] from 12 (fun s wx => s = .bool (decide (I = 0)) ∧ wx = wl)
      case first =>
        by_cases h0 : I = 0
        · subst h0
          go_wp2; go_meet; case rel => exact ⟨rfl, rfl⟩
        · have h1 : ((I : Int) == 0) = false := by simp; omega
          have h2 := Lib.hid (by simp [h0] : (false : Bool) = decide (I = 0))
          go_wp2; go_meet; case rel => exact ⟨by rw [← h2.out], rfl⟩
      case rest =>
      obtain ⟨rfl, hcut⟩ := hcut
      rw [hcut]
      clear hcut
      refine ‹∀ (a : Act) (w : World), Code.wp _ _ _ a w → _› _ _ ?_
      go_cut [] from 12 (fun wx => Cb w wx he (eT I P) (.slice (some ⟨b, off, none⟩) 6 c1) (.slice none 0 0) (.slice (some ⟨g3, 0, none⟩) 6 q3) ∧ Below wf.heap.size wf wx)
      case first =>
        by_cases h0 : I = 0
        · subst h0
          have k5 := E2.out.at 5 _ rfl
          obtain ⟨gg, qq, e, f0, y0, hput⟩ := E2.out.put3 (i := 0) (k := 0) (x := ⟨10 * ((0 : Nat) : Int) - P, 10, (0 : Nat)⟩) rfl (by omega)
          have eg : g3 = gg := by injection e with e _ _; injection e with e; injection e
          subst eg
          have y0 := y0 _ rfl
          have E3 := hput (.int .i64 0) ⟨0, 10, (0 : Nat)⟩ rfl
          clear e hput
          obtain ⟨gg, qq, e, f1, y1, hput⟩ := E3.put3 (i := 0) (k := 1) (x := ⟨0, 10, (0 : Nat)⟩) rfl (by omega)
          have eg : g3 = gg := by injection e with e _ _; injection e with e; injection e
          subst eg
          have E4 := Lib.hid (hput (.int .i64 (10 + P)) ⟨0, 10 + P, (0 : Nat)⟩ rfl)
          have y1 := y1 _ rfl
          have k5' := E3.at 5 _ rfl
          clear e hput E3 E2
          simp only [Nat.zero_mul, Nat.zero_add] at f0 f1 y0 y1 E4 k5'
          have BZ := Lib.hid (below_setCell (below_setCell BL.out g3 0 hg3 (.int .i64 0)) g3 1 hg3 (.int .i64 (10 + P)))
          go_wp2
          go_meet
          case rel =>
            refine ⟨?_, BZ.out⟩
            have h := E4.out
            rw [List.set_set, List.set_set] at h
            exact h
        · have h2 : decide (I = 0) = false := by simp [h0]
          rw [h2]
          have E5 := Lib.hid (show Cb w wl he (eT I P) (.slice (some ⟨b, off, none⟩) 6 c1) (.slice none 0 0) (.slice (some ⟨g3, 0, none⟩) 6 q3) by have e := E2.out; unfold eT xT; rw [if_neg h0]; exact e)
          clear h2 E2
          go_wp2
          go_meet
          case rel => exact ⟨E5.out, BL.out⟩
      case rest =>
      rename World => wm
      obtain ⟨E, BM⟩ := hcut
      clear E2 BL
      refine ‹∀ (a : Act) (w : World), Code.wp _ _ _ a w → _› _ _ ?_
      have C3 := C2.out.kept BM
      have D3 := D2.out.kept BM
      obtain ⟨kd, hkd⟩ : ∃ kd, chk (dT I J) = kd := ⟨_, rfl⟩
      obtain ⟨ke, hke⟩ : ∃ ke, chk (eT I P) = ke := ⟨_, rfl⟩
      have hC := Lib.hid (fun (u : World) (hu : Below wm.heap.size wm u) => (by
        have CU := C3.kept hu
        obtain ⟨r1, s1, r2, s2, r3, s3, x1, x2, x3, ⟨m1, -, -⟩, L1, L2, L3⟩ := CU.lies
        have hc := check_says L1 L2 L3 wf_cT (by unfold maxLen at m1; omega)
        simp only [cfV] at hc
        rw [← x1, ← x2, ← x3, cT_ok] at hc
        exact hc : Calls Try.prog 9 #[.agg #[i64 40, i64 100, i64 0, .slice (some ⟨b, off, none⟩) 6 c1, .slice none 0 0, .slice p3 6 c3]] u fun e w' => e = .returned (i64 0) ∧ Below u.heap.size u w'))
      have hD := Lib.hid (fun (u : World) (hu : Below wm.heap.size wm u) => (by
        have CU := D3.kept hu
        obtain ⟨r1, s1, r2, s2, r3, s3, x1, x2, x3, ⟨m1, -, -⟩, L1, L2, L3⟩ := CU.lies
        have hc := check_says L1 L2 L3 wf_dT (by unfold maxLen at m1; omega)
        simp only [cfV] at hc
        rw [← x1, ← x2, ← x3, hkd] at hc
        exact hc : Calls Try.prog 9 #[.agg #[i64 40, i64 100, i64 0, .slice (some ⟨g1, 0, none⟩) 6 q1, .slice none 0 0, .slice p3 6 c3]] u fun e w' => e = .returned (i64 kd) ∧ Below u.heap.size u w'))
      have hE := Lib.hid (fun (u : World) (hu : Below wm.heap.size wm u) => (by
        have CU := E.kept hu
        obtain ⟨r1, s1, r2, s2, r3, s3, x1, x2, x3, ⟨m1, -, -⟩, L1, L2, L3⟩ := CU.lies
        have hc := check_says L1 L2 L3 (wf_eT hI hP) (by unfold maxLen at m1; omega)
        simp only [cfV] at hc
        rw [← x1, ← x2, ← x3, hke] at hc
        exact hc : Calls Try.prog 9 #[.agg #[i64 40, i64 100, i64 0, .slice (some ⟨b, off, none⟩) 6 c1, .slice none 0 0, .slice (some ⟨g3, 0, none⟩) 6 q3]] u fun e w' => e = .returned (i64 ke) ∧ Below u.heap.size u w'))
      have hR := Lib.hid (fun (u : World) (hu : Below wm.heap.size wm u) => (by
        have CU := E.kept hu
        obtain ⟨r1, s1, r2, s2, r3, s3, x1, x2, x3, ⟨m1, -, -⟩, L1, L2, L3⟩ := CU.lies
        have hc := rcheck_says L1 L2 L3 (wf_eT hI hP)
        simp only [cfV] at hc
        rw [← x1, ← x2, ← x3, hke] at hc
        exact hc : Calls Try.prog 10 #[.agg #[i64 40, i64 100, i64 0, .slice (some ⟨b, off, none⟩) 6 c1, .slice none 0 0, .slice (some ⟨g3, 0, none⟩) 6 q3]] u fun e w' => e = .returned (i64 ke) ∧ Below u.heap.size u w'))
      have hS := Lib.hid (fun (u : World) (hu : Below wm.heap.size wm u) => (by
        have CU := C3.kept hu
        have DU := D3.kept hu
        have EU := E.kept hu
        exact ⟨hu, CU.at 0 _ rfl, CU.at 1 _ rfl, CU.at 2 _ rfl, CU.at 3 _ rfl, CU.at 4 _ rfl, CU.at 5 _ rfl, DU.at 0 _ rfl, DU.at 1 _ rfl, DU.at 2 _ rfl, DU.at 3 _ rfl, DU.at 4 _ rfl, DU.at 5 _ rfl, EU.at 0 _ rfl, EU.at 1 _ rfl, EU.at 2 _ rfl, EU.at 3 _ rfl, EU.at 4 _ rfl, EU.at 5 _ rfl⟩ : (fun (u : World) => Below wm.heap.size wm u ∧ u.cell? ⟨hb, 0, none⟩ = some (.int .i64 40) ∧ u.cell? ⟨hb, 1, none⟩ = some (.int .i64 100) ∧ u.cell? ⟨hb, 2, none⟩ = some (.int .i64 0) ∧ u.cell? ⟨hb, 3, none⟩ = some (.slice (some ⟨b, off, none⟩) 6 c1) ∧ u.cell? ⟨hb, 4, none⟩ = some (.slice none 0 0) ∧ u.cell? ⟨hb, 5, none⟩ = some (.slice p3 6 c3) ∧ u.cell? ⟨hd, 0, none⟩ = some (.int .i64 40) ∧ u.cell? ⟨hd, 1, none⟩ = some (.int .i64 100) ∧ u.cell? ⟨hd, 2, none⟩ = some (.int .i64 0) ∧ u.cell? ⟨hd, 3, none⟩ = some (.slice (some ⟨g1, 0, none⟩) 6 q1) ∧ u.cell? ⟨hd, 4, none⟩ = some (.slice none 0 0) ∧ u.cell? ⟨hd, 5, none⟩ = some (.slice p3 6 c3) ∧ u.cell? ⟨he, 0, none⟩ = some (.int .i64 40) ∧ u.cell? ⟨he, 1, none⟩ = some (.int .i64 100) ∧ u.cell? ⟨he, 2, none⟩ = some (.int .i64 0) ∧ u.cell? ⟨he, 3, none⟩ = some (.slice (some ⟨b, off, none⟩) 6 c1) ∧ u.cell? ⟨he, 4, none⟩ = some (.slice none 0 0) ∧ u.cell? ⟨he, 5, none⟩ = some (.slice (some ⟨g3, 0, none⟩) 6 q3)) u))
      have BW := Lib.hid (C3.b)
      have hdc := dT_chk (i := I) (j := J) hI hJ
      have hec := eT_chk (i := I) (lap := P) hI
      rw [hkd] at hdc
      rw [hke] at hec
      clear C C2 D2 C3 D3 E BM BF2 hkd hke hI hJ hP hg1 hg3 N1 N3 e12 hII hJI
      have HB := Lib.hid (Below.refl wm.heap.size wm)
      by_cases hij : I = J
      · subst hij
        rw [if_pos rfl] at hdc
        subst hdc
        by_cases hp0 : P = 0
        · subst hp0
          rw [if_pos rfl] at hec
          subst hec
          go_wp2
          refine wp_region_held_drew (S := (fun u => Below wm.heap.size wm u ∧ u.cell? ⟨hb, 0, none⟩ = some (.int .i64 40) ∧ u.cell? ⟨hb, 1, none⟩ = some (.int .i64 100) ∧ u.cell? ⟨hb, 2, none⟩ = some (.int .i64 0) ∧ u.cell? ⟨hb, 3, none⟩ = some (.slice (some ⟨b, off, none⟩) 6 c1) ∧ u.cell? ⟨hb, 4, none⟩ = some (.slice none 0 0) ∧ u.cell? ⟨hb, 5, none⟩ = some (.slice p3 6 c3) ∧ u.cell? ⟨hd, 0, none⟩ = some (.int .i64 40) ∧ u.cell? ⟨hd, 1, none⟩ = some (.int .i64 100) ∧ u.cell? ⟨hd, 2, none⟩ = some (.int .i64 0) ∧ u.cell? ⟨hd, 3, none⟩ = some (.slice (some ⟨g1, 0, none⟩) 6 q1) ∧ u.cell? ⟨hd, 4, none⟩ = some (.slice none 0 0) ∧ u.cell? ⟨hd, 5, none⟩ = some (.slice p3 6 c3) ∧ u.cell? ⟨he, 0, none⟩ = some (.int .i64 40) ∧ u.cell? ⟨he, 1, none⟩ = some (.int .i64 100) ∧ u.cell? ⟨he, 2, none⟩ = some (.int .i64 0) ∧ u.cell? ⟨he, 3, none⟩ = some (.slice (some ⟨b, off, none⟩) 6 c1) ∧ u.cell? ⟨he, 4, none⟩ = some (.slice none 0 0) ∧ u.cell? ⟨he, 5, none⟩ = some (.slice (some ⟨g3, 0, none⟩) 6 q3))) (by kernel_rfl) ?_ (fun hH0 => ?_)
          · ((try dsimp only); (first | assumption | exact hS.out _ (Below.refl _ _) | exact hS.out _ (Below.refl _ _).drew | exact hS.out _ ((‹Below wm.heap.size wm _ ∧ _›).1.trans ((‹Below (World.heap _).size _ _›).mono (‹Below wm.heap.size wm _ ∧ _›).1.size))))
          refine wpAnyH_take (i := 0) (oi := { dst := some 110, op := Go.Op.load 27 (Go.Operand.tmp 8), type := 27, pos := "many.go:64", after := #[], guard := none }) (v := ?_) rfl (by kernel_rfl) (by kernel_rfl) (by kernel_rfl) (fun _ _ _ h => h) (Or.inl ⟨by rfl, ?_⟩) (by assumption) ?_
          rotate_left
          · ((intro w hSw; (try dsimp only at hSw); go_simp) <;> (with_reducible rfl))
          try simp only [Act.put, List.setIfInBounds_toArray, List.set_cons_zero, List.set_cons_succ]
          refine wpAnyH_ready (rs := [1]) (by kernel_rfl) (by simp) ?_
          refine AllReadyH.cons (o := { dst := some 111, op := Go.Op.call { callee := Go.Callee.value (Go.Operand.func 9), args := #[Go.Operand.tmp 110], argTypes := #[27] }, type := 36, pos := "many.go:64", after := #[{ on := 0, ground := Go.Ground.data }], guard := none }) rfl (fun K hK => ?_) AllReadyH.nil
          go_simp
          (first | (go_at_call 8; (with_reducible refine (num_says14 _ _).mono ?_); rintro e t2 ⟨rfl, rfl⟩) | (go_at_call 10; (with_reducible refine (hR.out _ (‹Below wm.heap.size wm _ ∧ _›).1).mono ?_); rintro e t2 ⟨rfl, hb2⟩; (first | (replace HB := Lib.hid (HB.out.trans (hb2.mono HB.out.size))) | (replace HB := Lib.hid (HB.out.drew.trans (hb2.mono HB.out.size))))) | (go_at_call 9; (first | (with_reducible refine (hC.out _ (‹Below wm.heap.size wm _ ∧ _›).1).mono ?_) | (with_reducible refine (hD.out _ (‹Below wm.heap.size wm _ ∧ _›).1).mono ?_) | (with_reducible refine (hE.out _ (‹Below wm.heap.size wm _ ∧ _›).1).mono ?_)); rintro e t2 ⟨rfl, hb2⟩; (first | (replace HB := Lib.hid (HB.out.trans (hb2.mono HB.out.size))) | (replace HB := Lib.hid (HB.out.drew.trans (hb2.mono HB.out.size))))))
          refine hK.out _ _ ?_ (fun hH1 => ?_)
          · ((try dsimp only); (first | assumption | exact hS.out _ (Below.refl _ _) | exact hS.out _ (Below.refl _ _).drew | exact hS.out _ ((‹Below wm.heap.size wm _ ∧ _›).1.trans ((‹Below (World.heap _).size _ _›).mono (‹Below wm.heap.size wm _ ∧ _›).1.size))))
          clear hK K hH0
          try simp only [Act.put, List.setIfInBounds_toArray, List.set_cons_zero, List.set_cons_succ]
          refine wpAnyH_ready (rs := [2]) (by kernel_rfl) (by simp) ?_
          refine AllReadyH.cons (o := { dst := some 112, op := Go.Op.call { callee := Go.Callee.value (Go.Operand.func 8), args := #[Go.Operand.tmp 111], argTypes := #[36] }, type := 3, pos := "many.go:64", after := #[{ on := 1, ground := Go.Ground.data }, { on := 1, ground := Go.Ground.chain }], guard := none }) rfl (fun K hK => ?_) AllReadyH.nil
          go_simp
          (first | (go_at_call 8; (with_reducible refine (num_says14 _ _).mono ?_); rintro e t2 ⟨rfl, rfl⟩) | (go_at_call 10; (with_reducible refine (hR.out _ (‹Below wm.heap.size wm _ ∧ _›).1).mono ?_); rintro e t2 ⟨rfl, hb2⟩; (first | (replace HB := Lib.hid (HB.out.trans (hb2.mono HB.out.size))) | (replace HB := Lib.hid (HB.out.drew.trans (hb2.mono HB.out.size))))) | (go_at_call 9; (first | (with_reducible refine (hC.out _ (‹Below wm.heap.size wm _ ∧ _›).1).mono ?_) | (with_reducible refine (hD.out _ (‹Below wm.heap.size wm _ ∧ _›).1).mono ?_) | (with_reducible refine (hE.out _ (‹Below wm.heap.size wm _ ∧ _›).1).mono ?_)); rintro e t2 ⟨rfl, hb2⟩; (first | (replace HB := Lib.hid (HB.out.trans (hb2.mono HB.out.size))) | (replace HB := Lib.hid (HB.out.drew.trans (hb2.mono HB.out.size))))))
          refine hK.out _ _ ?_ (fun hH2 => ?_)
          · ((try dsimp only); (first | assumption | exact hS.out _ (Below.refl _ _) | exact hS.out _ (Below.refl _ _).drew | exact hS.out _ ((‹Below wm.heap.size wm _ ∧ _›).1.trans ((‹Below (World.heap _).size _ _›).mono (‹Below wm.heap.size wm _ ∧ _›).1.size))))
          clear hK K hH1
          try simp only [Act.put, List.setIfInBounds_toArray, List.set_cons_zero, List.set_cons_succ]
          refine wpAnyH_take (i := 3) (oi := { dst := some 113, op := Go.Op.binOp Go.BinOp.eql 3 (Go.Operand.tmp 112) (Go.Operand.const (Go.Value.int Go.IntKind.i64 0)) 3, type := 4, pos := "many.go:64", after := #[{ on := 2, ground := Go.Ground.data }], guard := none }) (v := ?_) rfl (by kernel_rfl) (by kernel_rfl) (by kernel_rfl) (fun _ _ _ h => h) (Or.inl ⟨by rfl, ?_⟩) (by assumption) ?_
          rotate_left
          · ((intro w hSw; (try dsimp only at hSw); go_simp) <;> (with_reducible rfl))
          try simp only [Act.put, List.setIfInBounds_toArray, List.set_cons_zero, List.set_cons_succ]
          refine wpAnyH_take (i := 4) (oi := { dst := some 114, op := Go.Op.move (Go.Operand.tmp 113), type := 4, pos := "many.go:64", after := #[{ on := 3, ground := Go.Ground.data }, { on := 2, ground := Go.Ground.chain }], guard := none }) (v := ?_) rfl (by kernel_rfl) (by kernel_rfl) (by kernel_rfl) (fun _ _ _ h => h) (Or.inl ⟨by rfl, ?_⟩) (by assumption) ?_
          rotate_left
          · ((intro w hSw; (try dsimp only at hSw); go_simp) <;> (with_reducible rfl))
          try simp only [Act.put, List.setIfInBounds_toArray, List.set_cons_zero, List.set_cons_succ]
          refine wpAnyH_take (i := 5) (oi := { dst := some 115, op := Go.Op.load 27 (Go.Operand.tmp 10), type := 27, pos := "many.go:64", after := #[{ on := 4, ground := Go.Ground.guard }], guard := some (4, true) }) (v := ?_) rfl (by kernel_rfl) (by kernel_rfl) (by kernel_rfl) (fun _ _ _ h => h) (Or.inl ⟨by rfl, ?_⟩) (by assumption) ?_
          rotate_left
          · ((intro w hSw; (try dsimp only at hSw); go_simp) <;> (with_reducible rfl))
          try simp only [Act.put, List.setIfInBounds_toArray, List.set_cons_zero, List.set_cons_succ]
          refine wpAnyH_take (i := 9) (oi := { dst := some 119, op := Go.Op.move (Go.Operand.tmp 0), type := 3, pos := "many.go:64", after := #[{ on := 4, ground := Go.Ground.guard }], guard := some (4, true) }) (v := ?_) rfl (by kernel_rfl) (by kernel_rfl) (by kernel_rfl) (fun _ _ _ h => h) (Or.inl ⟨by rfl, ?_⟩) (by assumption) ?_
          rotate_left
          · ((intro w hSw; (try dsimp only at hSw); go_simp) <;> (with_reducible rfl))
          try simp only [Act.put, List.setIfInBounds_toArray, List.set_cons_zero, List.set_cons_succ]
          refine wpAnyH_take (i := 10) (oi := { dst := some 120, op := Go.Op.move (Go.Operand.tmp 1), type := 3, pos := "many.go:64", after := #[{ on := 4, ground := Go.Ground.guard }], guard := some (4, true) }) (v := ?_) rfl (by kernel_rfl) (by kernel_rfl) (by kernel_rfl) (fun _ _ _ h => h) (Or.inl ⟨by rfl, ?_⟩) (by assumption) ?_
          rotate_left
          · ((intro w hSw; (try dsimp only at hSw); go_simp) <;> (with_reducible rfl))
          try simp only [Act.put, List.setIfInBounds_toArray, List.set_cons_zero, List.set_cons_succ]
          refine wpAnyH_take (i := 11) (oi := { dst := some 121, op := Go.Op.binOp Go.BinOp.eql 3 (Go.Operand.tmp 119) (Go.Operand.tmp 120) 3, type := 4, pos := "many.go:64", after := #[{ on := 9, ground := Go.Ground.data }, { on := 10, ground := Go.Ground.data }, { on := 4, ground := Go.Ground.guard }], guard := some (4, true) }) (v := ?_) rfl (by kernel_rfl) (by kernel_rfl) (by kernel_rfl) (fun _ _ _ h => h) (Or.inl ⟨by rfl, ?_⟩) (by assumption) ?_
          rotate_left
          · ((intro w hSw; (try dsimp only at hSw); go_simp) <;> (with_reducible rfl))
          try simp only [Act.put, List.setIfInBounds_toArray, List.set_cons_zero, List.set_cons_succ]
          refine wpAnyH_ready (rs := [6]) (by kernel_rfl) (by simp) ?_
          refine AllReadyH.cons (o := { dst := some 116, op := Go.Op.call { callee := Go.Callee.value (Go.Operand.func 9), args := #[Go.Operand.tmp 115], argTypes := #[27] }, type := 36, pos := "many.go:64", after := #[{ on := 5, ground := Go.Ground.data }, { on := 4, ground := Go.Ground.chain }, { on := 4, ground := Go.Ground.guard }], guard := some (4, true) }) rfl (fun K hK => ?_) AllReadyH.nil
          go_simp
          (first | (go_at_call 8; (with_reducible refine (num_says14 _ _).mono ?_); rintro e t2 ⟨rfl, rfl⟩) | (go_at_call 10; (with_reducible refine (hR.out _ (‹Below wm.heap.size wm _ ∧ _›).1).mono ?_); rintro e t2 ⟨rfl, hb2⟩; (first | (replace HB := Lib.hid (HB.out.trans (hb2.mono HB.out.size))) | (replace HB := Lib.hid (HB.out.drew.trans (hb2.mono HB.out.size))))) | (go_at_call 9; (first | (with_reducible refine (hC.out _ (‹Below wm.heap.size wm _ ∧ _›).1).mono ?_) | (with_reducible refine (hD.out _ (‹Below wm.heap.size wm _ ∧ _›).1).mono ?_) | (with_reducible refine (hE.out _ (‹Below wm.heap.size wm _ ∧ _›).1).mono ?_)); rintro e t2 ⟨rfl, hb2⟩; (first | (replace HB := Lib.hid (HB.out.trans (hb2.mono HB.out.size))) | (replace HB := Lib.hid (HB.out.drew.trans (hb2.mono HB.out.size))))))
          refine hK.out _ _ ?_ (fun hH3 => ?_)
          · ((try dsimp only); (first | assumption | exact hS.out _ (Below.refl _ _) | exact hS.out _ (Below.refl _ _).drew | exact hS.out _ ((‹Below wm.heap.size wm _ ∧ _›).1.trans ((‹Below (World.heap _).size _ _›).mono (‹Below wm.heap.size wm _ ∧ _›).1.size))))
          clear hK K hH2
          try simp only [Act.put, List.setIfInBounds_toArray, List.set_cons_zero, List.set_cons_succ]
          refine wpAnyH_ready (rs := [7]) (by kernel_rfl) (by simp) ?_
          refine AllReadyH.cons (o := { dst := some 117, op := Go.Op.call { callee := Go.Callee.value (Go.Operand.func 8), args := #[Go.Operand.tmp 116], argTypes := #[36] }, type := 3, pos := "many.go:64", after := #[{ on := 6, ground := Go.Ground.data }, { on := 6, ground := Go.Ground.chain }, { on := 4, ground := Go.Ground.guard }], guard := some (4, true) }) rfl (fun K hK => ?_) AllReadyH.nil
          go_simp
          (first | (go_at_call 8; (with_reducible refine (num_says14 _ _).mono ?_); rintro e t2 ⟨rfl, rfl⟩) | (go_at_call 10; (with_reducible refine (hR.out _ (‹Below wm.heap.size wm _ ∧ _›).1).mono ?_); rintro e t2 ⟨rfl, hb2⟩; (first | (replace HB := Lib.hid (HB.out.trans (hb2.mono HB.out.size))) | (replace HB := Lib.hid (HB.out.drew.trans (hb2.mono HB.out.size))))) | (go_at_call 9; (first | (with_reducible refine (hC.out _ (‹Below wm.heap.size wm _ ∧ _›).1).mono ?_) | (with_reducible refine (hD.out _ (‹Below wm.heap.size wm _ ∧ _›).1).mono ?_) | (with_reducible refine (hE.out _ (‹Below wm.heap.size wm _ ∧ _›).1).mono ?_)); rintro e t2 ⟨rfl, hb2⟩; (first | (replace HB := Lib.hid (HB.out.trans (hb2.mono HB.out.size))) | (replace HB := Lib.hid (HB.out.drew.trans (hb2.mono HB.out.size))))))
          refine hK.out _ _ ?_ (fun hH4 => ?_)
          · ((try dsimp only); (first | assumption | exact hS.out _ (Below.refl _ _) | exact hS.out _ (Below.refl _ _).drew | exact hS.out _ ((‹Below wm.heap.size wm _ ∧ _›).1.trans ((‹Below (World.heap _).size _ _›).mono (‹Below wm.heap.size wm _ ∧ _›).1.size))))
          clear hK K hH3
          try simp only [Act.put, List.setIfInBounds_toArray, List.set_cons_zero, List.set_cons_succ]
          refine wpAnyH_take (i := 8) (oi := { dst := some 118, op := Go.Op.binOp Go.BinOp.eql 3 (Go.Operand.tmp 117) (Go.Operand.const (Go.Value.int Go.IntKind.i64 0)) 3, type := 4, pos := "many.go:64", after := #[{ on := 7, ground := Go.Ground.data }, { on := 4, ground := Go.Ground.guard }], guard := some (4, true) }) (v := ?_) rfl (by kernel_rfl) (by kernel_rfl) (by kernel_rfl) (fun _ _ _ h => h) (Or.inl ⟨by rfl, ?_⟩) (by assumption) ?_
          rotate_left
          · ((intro w hSw; (try dsimp only at hSw); go_simp) <;> (with_reducible rfl))
          try simp only [Act.put, List.setIfInBounds_toArray, List.set_cons_zero, List.set_cons_succ]
          refine wpAnyH_take (i := 12) (oi := { dst := some 122, op := Go.Op.binOp Go.BinOp.eql 4 (Go.Operand.tmp 118) (Go.Operand.tmp 121) 4, type := 4, pos := "many.go:64", after := #[{ on := 8, ground := Go.Ground.data }, { on := 11, ground := Go.Ground.data }, { on := 4, ground := Go.Ground.guard }], guard := some (4, true) }) (v := ?_) rfl (by kernel_rfl) (by kernel_rfl) (by kernel_rfl) (fun _ _ _ h => h) (Or.inl ⟨by rfl, ?_⟩) (by assumption) ?_
          rotate_left
          · ((intro w hSw; (try dsimp only at hSw); go_simp) <;> (with_reducible rfl))
          try simp only [Act.put, List.setIfInBounds_toArray, List.set_cons_zero, List.set_cons_succ]
          refine wpAnyH_take (i := 13) (oi := { dst := some 123, op := Go.Op.pick (Go.Operand.tmp 114) (Go.Operand.tmp 122) (Go.Operand.const (Go.Value.bool false)), type := 4, pos := "many.go:64", after := #[{ on := 4, ground := Go.Ground.data }, { on := 12, ground := Go.Ground.data }], guard := none }) (v := ?_) rfl (by kernel_rfl) (by kernel_rfl) (by kernel_rfl) (fun _ _ _ h => h) (Or.inl ⟨by rfl, ?_⟩) (by assumption) ?_
          rotate_left
          · ((intro w hSw; (try dsimp only at hSw); go_simp) <;> (with_reducible rfl))
          try simp only [Act.put, List.setIfInBounds_toArray, List.set_cons_zero, List.set_cons_succ]
          refine wpAnyH_take (i := 14) (oi := { dst := some 124, op := Go.Op.move (Go.Operand.tmp 123), type := 4, pos := "many.go:64", after := #[{ on := 13, ground := Go.Ground.data }, { on := 7, ground := Go.Ground.chain }], guard := none }) (v := ?_) rfl (by kernel_rfl) (by kernel_rfl) (by kernel_rfl) (fun _ _ _ h => h) (Or.inl ⟨by rfl, ?_⟩) (by assumption) ?_
          rotate_left
          · ((intro w hSw; (try dsimp only at hSw); go_simp) <;> (with_reducible rfl))
          try simp only [Act.put, List.setIfInBounds_toArray, List.set_cons_zero, List.set_cons_succ]
          refine wpAnyH_take (i := 15) (oi := { dst := some 125, op := Go.Op.load 27 (Go.Operand.tmp 11), type := 27, pos := "many.go:64", after := #[{ on := 14, ground := Go.Ground.guard }], guard := some (14, true) }) (v := ?_) rfl (by kernel_rfl) (by kernel_rfl) (by kernel_rfl) (fun _ _ _ h => h) (Or.inl ⟨by rfl, ?_⟩) (by assumption) ?_
          rotate_left
          · ((intro w hSw; (try dsimp only at hSw); go_simp) <;> (with_reducible rfl))
          try simp only [Act.put, List.setIfInBounds_toArray, List.set_cons_zero, List.set_cons_succ]
          refine wpAnyH_take (i := 19) (oi := { dst := some 129, op := Go.Op.move (Go.Operand.tmp 2), type := 3, pos := "many.go:64", after := #[{ on := 14, ground := Go.Ground.guard }], guard := some (14, true) }) (v := ?_) rfl (by kernel_rfl) (by kernel_rfl) (by kernel_rfl) (fun _ _ _ h => h) (Or.inl ⟨by rfl, ?_⟩) (by assumption) ?_
          rotate_left
          · ((intro w hSw; (try dsimp only at hSw); go_simp) <;> (with_reducible rfl))
          try simp only [Act.put, List.setIfInBounds_toArray, List.set_cons_zero, List.set_cons_succ]
          refine wpAnyH_take (i := 20) (oi := { dst := some 130, op := Go.Op.binOp Go.BinOp.eql 3 (Go.Operand.tmp 129) (Go.Operand.const (Go.Value.int Go.IntKind.i64 0)) 3, type := 4, pos := "many.go:64", after := #[{ on := 19, ground := Go.Ground.data }, { on := 14, ground := Go.Ground.guard }], guard := some (14, true) }) (v := ?_) rfl (by kernel_rfl) (by kernel_rfl) (by kernel_rfl) (fun _ _ _ h => h) (Or.inl ⟨by rfl, ?_⟩) (by assumption) ?_
          rotate_left
          · ((intro w hSw; (try dsimp only at hSw); go_simp) <;> (with_reducible rfl))
          try simp only [Act.put, List.setIfInBounds_toArray, List.set_cons_zero, List.set_cons_succ]
          refine wpAnyH_ready (rs := [16]) (by kernel_rfl) (by simp) ?_
          refine AllReadyH.cons (o := { dst := some 126, op := Go.Op.call { callee := Go.Callee.value (Go.Operand.func 9), args := #[Go.Operand.tmp 125], argTypes := #[27] }, type := 36, pos := "many.go:64", after := #[{ on := 15, ground := Go.Ground.data }, { on := 14, ground := Go.Ground.chain }, { on := 14, ground := Go.Ground.guard }], guard := some (14, true) }) rfl (fun K hK => ?_) AllReadyH.nil
          go_simp
          (first | (go_at_call 8; (with_reducible refine (num_says14 _ _).mono ?_); rintro e t2 ⟨rfl, rfl⟩) | (go_at_call 10; (with_reducible refine (hR.out _ (‹Below wm.heap.size wm _ ∧ _›).1).mono ?_); rintro e t2 ⟨rfl, hb2⟩; (first | (replace HB := Lib.hid (HB.out.trans (hb2.mono HB.out.size))) | (replace HB := Lib.hid (HB.out.drew.trans (hb2.mono HB.out.size))))) | (go_at_call 9; (first | (with_reducible refine (hC.out _ (‹Below wm.heap.size wm _ ∧ _›).1).mono ?_) | (with_reducible refine (hD.out _ (‹Below wm.heap.size wm _ ∧ _›).1).mono ?_) | (with_reducible refine (hE.out _ (‹Below wm.heap.size wm _ ∧ _›).1).mono ?_)); rintro e t2 ⟨rfl, hb2⟩; (first | (replace HB := Lib.hid (HB.out.trans (hb2.mono HB.out.size))) | (replace HB := Lib.hid (HB.out.drew.trans (hb2.mono HB.out.size))))))
          refine hK.out _ _ ?_ (fun hH5 => ?_)
          · ((try dsimp only); (first | assumption | exact hS.out _ (Below.refl _ _) | exact hS.out _ (Below.refl _ _).drew | exact hS.out _ ((‹Below wm.heap.size wm _ ∧ _›).1.trans ((‹Below (World.heap _).size _ _›).mono (‹Below wm.heap.size wm _ ∧ _›).1.size))))
          clear hK K hH4
          try simp only [Act.put, List.setIfInBounds_toArray, List.set_cons_zero, List.set_cons_succ]
          refine wpAnyH_ready (rs := [17]) (by kernel_rfl) (by simp) ?_
          refine AllReadyH.cons (o := { dst := some 127, op := Go.Op.call { callee := Go.Callee.value (Go.Operand.func 8), args := #[Go.Operand.tmp 126], argTypes := #[36] }, type := 3, pos := "many.go:64", after := #[{ on := 16, ground := Go.Ground.data }, { on := 16, ground := Go.Ground.chain }, { on := 14, ground := Go.Ground.guard }], guard := some (14, true) }) rfl (fun K hK => ?_) AllReadyH.nil
          go_simp
          (first | (go_at_call 8; (with_reducible refine (num_says14 _ _).mono ?_); rintro e t2 ⟨rfl, rfl⟩) | (go_at_call 10; (with_reducible refine (hR.out _ (‹Below wm.heap.size wm _ ∧ _›).1).mono ?_); rintro e t2 ⟨rfl, hb2⟩; (first | (replace HB := Lib.hid (HB.out.trans (hb2.mono HB.out.size))) | (replace HB := Lib.hid (HB.out.drew.trans (hb2.mono HB.out.size))))) | (go_at_call 9; (first | (with_reducible refine (hC.out _ (‹Below wm.heap.size wm _ ∧ _›).1).mono ?_) | (with_reducible refine (hD.out _ (‹Below wm.heap.size wm _ ∧ _›).1).mono ?_) | (with_reducible refine (hE.out _ (‹Below wm.heap.size wm _ ∧ _›).1).mono ?_)); rintro e t2 ⟨rfl, hb2⟩; (first | (replace HB := Lib.hid (HB.out.trans (hb2.mono HB.out.size))) | (replace HB := Lib.hid (HB.out.drew.trans (hb2.mono HB.out.size))))))
          refine hK.out _ _ ?_ (fun hH6 => ?_)
          · ((try dsimp only); (first | assumption | exact hS.out _ (Below.refl _ _) | exact hS.out _ (Below.refl _ _).drew | exact hS.out _ ((‹Below wm.heap.size wm _ ∧ _›).1.trans ((‹Below (World.heap _).size _ _›).mono (‹Below wm.heap.size wm _ ∧ _›).1.size))))
          clear hK K hH5
          try simp only [Act.put, List.setIfInBounds_toArray, List.set_cons_zero, List.set_cons_succ]
          refine wpAnyH_take (i := 18) (oi := { dst := some 128, op := Go.Op.binOp Go.BinOp.eql 3 (Go.Operand.tmp 127) (Go.Operand.const (Go.Value.int Go.IntKind.i64 0)) 3, type := 4, pos := "many.go:64", after := #[{ on := 17, ground := Go.Ground.data }, { on := 14, ground := Go.Ground.guard }], guard := some (14, true) }) (v := ?_) rfl (by kernel_rfl) (by kernel_rfl) (by kernel_rfl) (fun _ _ _ h => h) (Or.inl ⟨by rfl, ?_⟩) (by assumption) ?_
          rotate_left
          · ((intro w hSw; (try dsimp only at hSw); go_simp) <;> (with_reducible rfl))
          try simp only [Act.put, List.setIfInBounds_toArray, List.set_cons_zero, List.set_cons_succ]
          refine wpAnyH_take (i := 21) (oi := { dst := some 131, op := Go.Op.binOp Go.BinOp.eql 4 (Go.Operand.tmp 128) (Go.Operand.tmp 130) 4, type := 4, pos := "many.go:64", after := #[{ on := 18, ground := Go.Ground.data }, { on := 20, ground := Go.Ground.data }, { on := 14, ground := Go.Ground.guard }], guard := some (14, true) }) (v := ?_) rfl (by kernel_rfl) (by kernel_rfl) (by kernel_rfl) (fun _ _ _ h => h) (Or.inl ⟨by rfl, ?_⟩) (by assumption) ?_
          rotate_left
          · ((intro w hSw; (try dsimp only at hSw); go_simp) <;> (with_reducible rfl))
          try simp only [Act.put, List.setIfInBounds_toArray, List.set_cons_zero, List.set_cons_succ]
          refine wpAnyH_take (i := 22) (oi := { dst := some 132, op := Go.Op.pick (Go.Operand.tmp 124) (Go.Operand.tmp 131) (Go.Operand.const (Go.Value.bool false)), type := 4, pos := "many.go:64", after := #[{ on := 14, ground := Go.Ground.data }, { on := 21, ground := Go.Ground.data }], guard := none }) (v := ?_) rfl (by kernel_rfl) (by kernel_rfl) (by kernel_rfl) (fun _ _ _ h => h) (Or.inl ⟨by rfl, ?_⟩) (by assumption) ?_
          rotate_left
          · ((intro w hSw; (try dsimp only at hSw); go_simp) <;> (with_reducible rfl))
          try simp only [Act.put, List.setIfInBounds_toArray, List.set_cons_zero, List.set_cons_succ]
          refine wpAnyH_take (i := 23) (oi := { dst := some 133, op := Go.Op.move (Go.Operand.tmp 132), type := 4, pos := "many.go:64", after := #[{ on := 22, ground := Go.Ground.data }, { on := 17, ground := Go.Ground.chain }], guard := none }) (v := ?_) rfl (by kernel_rfl) (by kernel_rfl) (by kernel_rfl) (fun _ _ _ h => h) (Or.inl ⟨by rfl, ?_⟩) (by assumption) ?_
          rotate_left
          · ((intro w hSw; (try dsimp only at hSw); go_simp) <;> (with_reducible rfl))
          try simp only [Act.put, List.setIfInBounds_toArray, List.set_cons_zero, List.set_cons_succ]
          refine wpAnyH_take (i := 24) (oi := { dst := some 134, op := Go.Op.load 27 (Go.Operand.tmp 11), type := 27, pos := "many.go:64", after := #[{ on := 23, ground := Go.Ground.guard }], guard := some (23, true) }) (v := ?_) rfl (by kernel_rfl) (by kernel_rfl) (by kernel_rfl) (fun _ _ _ h => h) (Or.inl ⟨by rfl, ?_⟩) (by assumption) ?_
          rotate_left
          · ((intro w hSw; (try dsimp only at hSw); go_simp) <;> (with_reducible rfl))
          try simp only [Act.put, List.setIfInBounds_toArray, List.set_cons_zero, List.set_cons_succ]
          refine wpAnyH_take (i := 27) (oi := { dst := some 137, op := Go.Op.load 27 (Go.Operand.tmp 11), type := 27, pos := "many.go:64", after := #[{ on := 23, ground := Go.Ground.guard }], guard := some (23, true) }) (v := ?_) rfl (by kernel_rfl) (by kernel_rfl) (by kernel_rfl) (fun _ _ _ h => h) (Or.inl ⟨by rfl, ?_⟩) (by assumption) ?_
          rotate_left
          · ((intro w hSw; (try dsimp only at hSw); go_simp) <;> (with_reducible rfl))
          try simp only [Act.put, List.setIfInBounds_toArray, List.set_cons_zero, List.set_cons_succ]
          refine wpAnyH_ready (rs := [25]) (by kernel_rfl) (by simp) ?_
          refine AllReadyH.cons (o := { dst := some 135, op := Go.Op.call { callee := Go.Callee.value (Go.Operand.func 9), args := #[Go.Operand.tmp 134], argTypes := #[27] }, type := 36, pos := "many.go:64", after := #[{ on := 24, ground := Go.Ground.data }, { on := 23, ground := Go.Ground.chain }, { on := 23, ground := Go.Ground.guard }], guard := some (23, true) }) rfl (fun K hK => ?_) AllReadyH.nil
          go_simp
          (first | (go_at_call 8; (with_reducible refine (num_says14 _ _).mono ?_); rintro e t2 ⟨rfl, rfl⟩) | (go_at_call 10; (with_reducible refine (hR.out _ (‹Below wm.heap.size wm _ ∧ _›).1).mono ?_); rintro e t2 ⟨rfl, hb2⟩; (first | (replace HB := Lib.hid (HB.out.trans (hb2.mono HB.out.size))) | (replace HB := Lib.hid (HB.out.drew.trans (hb2.mono HB.out.size))))) | (go_at_call 9; (first | (with_reducible refine (hC.out _ (‹Below wm.heap.size wm _ ∧ _›).1).mono ?_) | (with_reducible refine (hD.out _ (‹Below wm.heap.size wm _ ∧ _›).1).mono ?_) | (with_reducible refine (hE.out _ (‹Below wm.heap.size wm _ ∧ _›).1).mono ?_)); rintro e t2 ⟨rfl, hb2⟩; (first | (replace HB := Lib.hid (HB.out.trans (hb2.mono HB.out.size))) | (replace HB := Lib.hid (HB.out.drew.trans (hb2.mono HB.out.size))))))
          refine hK.out _ _ ?_ (fun hH7 => ?_)
          · ((try dsimp only); (first | assumption | exact hS.out _ (Below.refl _ _) | exact hS.out _ (Below.refl _ _).drew | exact hS.out _ ((‹Below wm.heap.size wm _ ∧ _›).1.trans ((‹Below (World.heap _).size _ _›).mono (‹Below wm.heap.size wm _ ∧ _›).1.size))))
          clear hK K hH6
          try simp only [Act.put, List.setIfInBounds_toArray, List.set_cons_zero, List.set_cons_succ]
          refine wpAnyH_ready (rs := [26]) (by kernel_rfl) (by simp) ?_
          refine AllReadyH.cons (o := { dst := some 136, op := Go.Op.call { callee := Go.Callee.value (Go.Operand.func 8), args := #[Go.Operand.tmp 135], argTypes := #[36] }, type := 3, pos := "many.go:64", after := #[{ on := 25, ground := Go.Ground.data }, { on := 25, ground := Go.Ground.chain }, { on := 23, ground := Go.Ground.guard }], guard := some (23, true) }) rfl (fun K hK => ?_) AllReadyH.nil
          go_simp
          (first | (go_at_call 8; (with_reducible refine (num_says14 _ _).mono ?_); rintro e t2 ⟨rfl, rfl⟩) | (go_at_call 10; (with_reducible refine (hR.out _ (‹Below wm.heap.size wm _ ∧ _›).1).mono ?_); rintro e t2 ⟨rfl, hb2⟩; (first | (replace HB := Lib.hid (HB.out.trans (hb2.mono HB.out.size))) | (replace HB := Lib.hid (HB.out.drew.trans (hb2.mono HB.out.size))))) | (go_at_call 9; (first | (with_reducible refine (hC.out _ (‹Below wm.heap.size wm _ ∧ _›).1).mono ?_) | (with_reducible refine (hD.out _ (‹Below wm.heap.size wm _ ∧ _›).1).mono ?_) | (with_reducible refine (hE.out _ (‹Below wm.heap.size wm _ ∧ _›).1).mono ?_)); rintro e t2 ⟨rfl, hb2⟩; (first | (replace HB := Lib.hid (HB.out.trans (hb2.mono HB.out.size))) | (replace HB := Lib.hid (HB.out.drew.trans (hb2.mono HB.out.size))))))
          refine hK.out _ _ ?_ (fun hH8 => ?_)
          · ((try dsimp only); (first | assumption | exact hS.out _ (Below.refl _ _) | exact hS.out _ (Below.refl _ _).drew | exact hS.out _ ((‹Below wm.heap.size wm _ ∧ _›).1.trans ((‹Below (World.heap _).size _ _›).mono (‹Below wm.heap.size wm _ ∧ _›).1.size))))
          clear hK K hH7
          try simp only [Act.put, List.setIfInBounds_toArray, List.set_cons_zero, List.set_cons_succ]
          refine wpAnyH_ready (rs := [28]) (by kernel_rfl) (by simp) ?_
          refine AllReadyH.cons (o := { dst := some 138, op := Go.Op.call { callee := Go.Callee.value (Go.Operand.func 10), args := #[Go.Operand.tmp 137], argTypes := #[27] }, type := 3, pos := "many.go:64", after := #[{ on := 27, ground := Go.Ground.data }, { on := 26, ground := Go.Ground.chain }, { on := 23, ground := Go.Ground.guard }], guard := some (23, true) }) rfl (fun K hK => ?_) AllReadyH.nil
          go_simp
          (first | (go_at_call 8; (with_reducible refine (num_says14 _ _).mono ?_); rintro e t2 ⟨rfl, rfl⟩) | (go_at_call 10; (with_reducible refine (hR.out _ (‹Below wm.heap.size wm _ ∧ _›).1).mono ?_); rintro e t2 ⟨rfl, hb2⟩; (first | (replace HB := Lib.hid (HB.out.trans (hb2.mono HB.out.size))) | (replace HB := Lib.hid (HB.out.drew.trans (hb2.mono HB.out.size))))) | (go_at_call 9; (first | (with_reducible refine (hC.out _ (‹Below wm.heap.size wm _ ∧ _›).1).mono ?_) | (with_reducible refine (hD.out _ (‹Below wm.heap.size wm _ ∧ _›).1).mono ?_) | (with_reducible refine (hE.out _ (‹Below wm.heap.size wm _ ∧ _›).1).mono ?_)); rintro e t2 ⟨rfl, hb2⟩; (first | (replace HB := Lib.hid (HB.out.trans (hb2.mono HB.out.size))) | (replace HB := Lib.hid (HB.out.drew.trans (hb2.mono HB.out.size))))))
          refine hK.out _ _ ?_ (fun hH9 => ?_)
          · ((try dsimp only); (first | assumption | exact hS.out _ (Below.refl _ _) | exact hS.out _ (Below.refl _ _).drew | exact hS.out _ ((‹Below wm.heap.size wm _ ∧ _›).1.trans ((‹Below (World.heap _).size _ _›).mono (‹Below wm.heap.size wm _ ∧ _›).1.size))))
          clear hK K hH8
          try simp only [Act.put, List.setIfInBounds_toArray, List.set_cons_zero, List.set_cons_succ]
          refine wpAnyH_take (i := 29) (oi := { dst := some 139, op := Go.Op.binOp Go.BinOp.eql 3 (Go.Operand.tmp 136) (Go.Operand.tmp 138) 3, type := 4, pos := "many.go:64", after := #[{ on := 26, ground := Go.Ground.data }, { on := 28, ground := Go.Ground.data }, { on := 23, ground := Go.Ground.guard }], guard := some (23, true) }) (v := ?_) rfl (by kernel_rfl) (by kernel_rfl) (by kernel_rfl) (fun _ _ _ h => h) (Or.inl ⟨by rfl, ?_⟩) (by assumption) ?_
          rotate_left
          · ((intro w hSw; (try dsimp only at hSw); go_simp) <;> (with_reducible rfl))
          try simp only [Act.put, List.setIfInBounds_toArray, List.set_cons_zero, List.set_cons_succ]
          refine wpAnyH_take (i := 30) (oi := { dst := some 140, op := Go.Op.pick (Go.Operand.tmp 133) (Go.Operand.tmp 139) (Go.Operand.const (Go.Value.bool false)), type := 4, pos := "many.go:64", after := #[{ on := 23, ground := Go.Ground.data }, { on := 29, ground := Go.Ground.data }], guard := none }) (v := ?_) rfl (by kernel_rfl) (by kernel_rfl) (by kernel_rfl) (fun _ _ _ h => h) (Or.inl ⟨by rfl, ?_⟩) (by assumption) ?_
          rotate_left
          · ((intro w hSw; (try dsimp only at hSw); go_simp) <;> (with_reducible rfl))
          try simp only [Act.put, List.setIfInBounds_toArray, List.set_cons_zero, List.set_cons_succ]
          refine wpAnyH_take (i := 31) (oi := { dst := some 6, op := Go.Op.assign (Go.Operand.tmp 140), type := 4, pos := "many.go:64", after := #[{ on := 30, ground := Go.Ground.data }, { on := 28, ground := Go.Ground.chain }, { on := 0, ground := Go.Ground.phase }, { on := 1, ground := Go.Ground.phase }, { on := 2, ground := Go.Ground.phase }, { on := 3, ground := Go.Ground.phase }, { on := 4, ground := Go.Ground.phase }, { on := 5, ground := Go.Ground.phase }, { on := 6, ground := Go.Ground.phase }, { on := 7, ground := Go.Ground.phase }, { on := 8, ground := Go.Ground.phase }, { on := 9, ground := Go.Ground.phase }, { on := 10, ground := Go.Ground.phase }, { on := 11, ground := Go.Ground.phase }, { on := 12, ground := Go.Ground.phase }, { on := 13, ground := Go.Ground.phase }, { on := 14, ground := Go.Ground.phase }, { on := 15, ground := Go.Ground.phase }, { on := 16, ground := Go.Ground.phase }, { on := 17, ground := Go.Ground.phase }, { on := 18, ground := Go.Ground.phase }, { on := 19, ground := Go.Ground.phase }, { on := 20, ground := Go.Ground.phase }, { on := 21, ground := Go.Ground.phase }, { on := 22, ground := Go.Ground.phase }, { on := 23, ground := Go.Ground.phase }, { on := 24, ground := Go.Ground.phase }, { on := 25, ground := Go.Ground.phase }, { on := 26, ground := Go.Ground.phase }, { on := 27, ground := Go.Ground.phase }, { on := 28, ground := Go.Ground.phase }, { on := 29, ground := Go.Ground.phase }, { on := 30, ground := Go.Ground.phase }], guard := none }) (v := ?_) rfl (by kernel_rfl) (by kernel_rfl) (by kernel_rfl) (fun _ _ _ h => h) (Or.inl ⟨by rfl, ?_⟩) (by assumption) ?_
          rotate_left
          · ((intro w hSw; (try dsimp only at hSw); go_simp) <;> (with_reducible rfl))
          try simp only [Act.put, List.setIfInBounds_toArray, List.set_cons_zero, List.set_cons_succ]
          refine wpAnyH_done (by kernel_rfl) ?_ _
          all_goals
            go_wp2
            exact HO.out _ (BW.out.trans ((‹Below wm.heap.size wm _ ∧ _›).1.mono BW.out.size))
        · rw [if_neg hp0] at hec
          subst hec
          have x2 : ((P : Int) == 0) = false := by simp; omega
          clear hp0
          go_wp2
          refine wp_region_held_drew (S := (fun u => Below wm.heap.size wm u ∧ u.cell? ⟨hb, 0, none⟩ = some (.int .i64 40) ∧ u.cell? ⟨hb, 1, none⟩ = some (.int .i64 100) ∧ u.cell? ⟨hb, 2, none⟩ = some (.int .i64 0) ∧ u.cell? ⟨hb, 3, none⟩ = some (.slice (some ⟨b, off, none⟩) 6 c1) ∧ u.cell? ⟨hb, 4, none⟩ = some (.slice none 0 0) ∧ u.cell? ⟨hb, 5, none⟩ = some (.slice p3 6 c3) ∧ u.cell? ⟨hd, 0, none⟩ = some (.int .i64 40) ∧ u.cell? ⟨hd, 1, none⟩ = some (.int .i64 100) ∧ u.cell? ⟨hd, 2, none⟩ = some (.int .i64 0) ∧ u.cell? ⟨hd, 3, none⟩ = some (.slice (some ⟨g1, 0, none⟩) 6 q1) ∧ u.cell? ⟨hd, 4, none⟩ = some (.slice none 0 0) ∧ u.cell? ⟨hd, 5, none⟩ = some (.slice p3 6 c3) ∧ u.cell? ⟨he, 0, none⟩ = some (.int .i64 40) ∧ u.cell? ⟨he, 1, none⟩ = some (.int .i64 100) ∧ u.cell? ⟨he, 2, none⟩ = some (.int .i64 0) ∧ u.cell? ⟨he, 3, none⟩ = some (.slice (some ⟨b, off, none⟩) 6 c1) ∧ u.cell? ⟨he, 4, none⟩ = some (.slice none 0 0) ∧ u.cell? ⟨he, 5, none⟩ = some (.slice (some ⟨g3, 0, none⟩) 6 q3))) (by kernel_rfl) ?_ (fun hH0 => ?_)
          · ((try dsimp only); (first | assumption | exact hS.out _ (Below.refl _ _) | exact hS.out _ (Below.refl _ _).drew | exact hS.out _ ((‹Below wm.heap.size wm _ ∧ _›).1.trans ((‹Below (World.heap _).size _ _›).mono (‹Below wm.heap.size wm _ ∧ _›).1.size))))
          refine wpAnyH_take (i := 0) (oi := { dst := some 110, op := Go.Op.load 27 (Go.Operand.tmp 8), type := 27, pos := "many.go:64", after := #[], guard := none }) (v := ?_) rfl (by kernel_rfl) (by kernel_rfl) (by kernel_rfl) (fun _ _ _ h => h) (Or.inl ⟨by rfl, ?_⟩) (by assumption) ?_
          rotate_left
          · ((intro w hSw; (try dsimp only at hSw); go_simp) <;> (with_reducible rfl))
          try simp only [Act.put, List.setIfInBounds_toArray, List.set_cons_zero, List.set_cons_succ]
          refine wpAnyH_ready (rs := [1]) (by kernel_rfl) (by simp) ?_
          refine AllReadyH.cons (o := { dst := some 111, op := Go.Op.call { callee := Go.Callee.value (Go.Operand.func 9), args := #[Go.Operand.tmp 110], argTypes := #[27] }, type := 36, pos := "many.go:64", after := #[{ on := 0, ground := Go.Ground.data }], guard := none }) rfl (fun K hK => ?_) AllReadyH.nil
          go_simp
          (first | (go_at_call 8; (with_reducible refine (num_says14 _ _).mono ?_); rintro e t2 ⟨rfl, rfl⟩) | (go_at_call 10; (with_reducible refine (hR.out _ (‹Below wm.heap.size wm _ ∧ _›).1).mono ?_); rintro e t2 ⟨rfl, hb2⟩; (first | (replace HB := Lib.hid (HB.out.trans (hb2.mono HB.out.size))) | (replace HB := Lib.hid (HB.out.drew.trans (hb2.mono HB.out.size))))) | (go_at_call 9; (first | (with_reducible refine (hC.out _ (‹Below wm.heap.size wm _ ∧ _›).1).mono ?_) | (with_reducible refine (hD.out _ (‹Below wm.heap.size wm _ ∧ _›).1).mono ?_) | (with_reducible refine (hE.out _ (‹Below wm.heap.size wm _ ∧ _›).1).mono ?_)); rintro e t2 ⟨rfl, hb2⟩; (first | (replace HB := Lib.hid (HB.out.trans (hb2.mono HB.out.size))) | (replace HB := Lib.hid (HB.out.drew.trans (hb2.mono HB.out.size))))))
          refine hK.out _ _ ?_ (fun hH1 => ?_)
          · ((try dsimp only); (first | assumption | exact hS.out _ (Below.refl _ _) | exact hS.out _ (Below.refl _ _).drew | exact hS.out _ ((‹Below wm.heap.size wm _ ∧ _›).1.trans ((‹Below (World.heap _).size _ _›).mono (‹Below wm.heap.size wm _ ∧ _›).1.size))))
          clear hK K hH0
          try simp only [Act.put, List.setIfInBounds_toArray, List.set_cons_zero, List.set_cons_succ]
          refine wpAnyH_ready (rs := [2]) (by kernel_rfl) (by simp) ?_
          refine AllReadyH.cons (o := { dst := some 112, op := Go.Op.call { callee := Go.Callee.value (Go.Operand.func 8), args := #[Go.Operand.tmp 111], argTypes := #[36] }, type := 3, pos := "many.go:64", after := #[{ on := 1, ground := Go.Ground.data }, { on := 1, ground := Go.Ground.chain }], guard := none }) rfl (fun K hK => ?_) AllReadyH.nil
          go_simp
          (first | (go_at_call 8; (with_reducible refine (num_says14 _ _).mono ?_); rintro e t2 ⟨rfl, rfl⟩) | (go_at_call 10; (with_reducible refine (hR.out _ (‹Below wm.heap.size wm _ ∧ _›).1).mono ?_); rintro e t2 ⟨rfl, hb2⟩; (first | (replace HB := Lib.hid (HB.out.trans (hb2.mono HB.out.size))) | (replace HB := Lib.hid (HB.out.drew.trans (hb2.mono HB.out.size))))) | (go_at_call 9; (first | (with_reducible refine (hC.out _ (‹Below wm.heap.size wm _ ∧ _›).1).mono ?_) | (with_reducible refine (hD.out _ (‹Below wm.heap.size wm _ ∧ _›).1).mono ?_) | (with_reducible refine (hE.out _ (‹Below wm.heap.size wm _ ∧ _›).1).mono ?_)); rintro e t2 ⟨rfl, hb2⟩; (first | (replace HB := Lib.hid (HB.out.trans (hb2.mono HB.out.size))) | (replace HB := Lib.hid (HB.out.drew.trans (hb2.mono HB.out.size))))))
          refine hK.out _ _ ?_ (fun hH2 => ?_)
          · ((try dsimp only); (first | assumption | exact hS.out _ (Below.refl _ _) | exact hS.out _ (Below.refl _ _).drew | exact hS.out _ ((‹Below wm.heap.size wm _ ∧ _›).1.trans ((‹Below (World.heap _).size _ _›).mono (‹Below wm.heap.size wm _ ∧ _›).1.size))))
          clear hK K hH1
          try simp only [Act.put, List.setIfInBounds_toArray, List.set_cons_zero, List.set_cons_succ]
          refine wpAnyH_take (i := 3) (oi := { dst := some 113, op := Go.Op.binOp Go.BinOp.eql 3 (Go.Operand.tmp 112) (Go.Operand.const (Go.Value.int Go.IntKind.i64 0)) 3, type := 4, pos := "many.go:64", after := #[{ on := 2, ground := Go.Ground.data }], guard := none }) (v := ?_) rfl (by kernel_rfl) (by kernel_rfl) (by kernel_rfl) (fun _ _ _ h => h) (Or.inl ⟨by rfl, ?_⟩) (by assumption) ?_
          rotate_left
          · ((intro w hSw; (try dsimp only at hSw); go_simp) <;> (with_reducible rfl))
          try simp only [Act.put, List.setIfInBounds_toArray, List.set_cons_zero, List.set_cons_succ]
          refine wpAnyH_take (i := 4) (oi := { dst := some 114, op := Go.Op.move (Go.Operand.tmp 113), type := 4, pos := "many.go:64", after := #[{ on := 3, ground := Go.Ground.data }, { on := 2, ground := Go.Ground.chain }], guard := none }) (v := ?_) rfl (by kernel_rfl) (by kernel_rfl) (by kernel_rfl) (fun _ _ _ h => h) (Or.inl ⟨by rfl, ?_⟩) (by assumption) ?_
          rotate_left
          · ((intro w hSw; (try dsimp only at hSw); go_simp) <;> (with_reducible rfl))
          try simp only [Act.put, List.setIfInBounds_toArray, List.set_cons_zero, List.set_cons_succ]
          refine wpAnyH_take (i := 5) (oi := { dst := some 115, op := Go.Op.load 27 (Go.Operand.tmp 10), type := 27, pos := "many.go:64", after := #[{ on := 4, ground := Go.Ground.guard }], guard := some (4, true) }) (v := ?_) rfl (by kernel_rfl) (by kernel_rfl) (by kernel_rfl) (fun _ _ _ h => h) (Or.inl ⟨by rfl, ?_⟩) (by assumption) ?_
          rotate_left
          · ((intro w hSw; (try dsimp only at hSw); go_simp) <;> (with_reducible rfl))
          try simp only [Act.put, List.setIfInBounds_toArray, List.set_cons_zero, List.set_cons_succ]
          refine wpAnyH_take (i := 9) (oi := { dst := some 119, op := Go.Op.move (Go.Operand.tmp 0), type := 3, pos := "many.go:64", after := #[{ on := 4, ground := Go.Ground.guard }], guard := some (4, true) }) (v := ?_) rfl (by kernel_rfl) (by kernel_rfl) (by kernel_rfl) (fun _ _ _ h => h) (Or.inl ⟨by rfl, ?_⟩) (by assumption) ?_
          rotate_left
          · ((intro w hSw; (try dsimp only at hSw); go_simp) <;> (with_reducible rfl))
          try simp only [Act.put, List.setIfInBounds_toArray, List.set_cons_zero, List.set_cons_succ]
          refine wpAnyH_take (i := 10) (oi := { dst := some 120, op := Go.Op.move (Go.Operand.tmp 1), type := 3, pos := "many.go:64", after := #[{ on := 4, ground := Go.Ground.guard }], guard := some (4, true) }) (v := ?_) rfl (by kernel_rfl) (by kernel_rfl) (by kernel_rfl) (fun _ _ _ h => h) (Or.inl ⟨by rfl, ?_⟩) (by assumption) ?_
          rotate_left
          · ((intro w hSw; (try dsimp only at hSw); go_simp) <;> (with_reducible rfl))
          try simp only [Act.put, List.setIfInBounds_toArray, List.set_cons_zero, List.set_cons_succ]
          refine wpAnyH_take (i := 11) (oi := { dst := some 121, op := Go.Op.binOp Go.BinOp.eql 3 (Go.Operand.tmp 119) (Go.Operand.tmp 120) 3, type := 4, pos := "many.go:64", after := #[{ on := 9, ground := Go.Ground.data }, { on := 10, ground := Go.Ground.data }, { on := 4, ground := Go.Ground.guard }], guard := some (4, true) }) (v := ?_) rfl (by kernel_rfl) (by kernel_rfl) (by kernel_rfl) (fun _ _ _ h => h) (Or.inl ⟨by rfl, ?_⟩) (by assumption) ?_
          rotate_left
          · ((intro w hSw; (try dsimp only at hSw); go_simp) <;> (with_reducible rfl))
          try simp only [Act.put, List.setIfInBounds_toArray, List.set_cons_zero, List.set_cons_succ]
          refine wpAnyH_ready (rs := [6]) (by kernel_rfl) (by simp) ?_
          refine AllReadyH.cons (o := { dst := some 116, op := Go.Op.call { callee := Go.Callee.value (Go.Operand.func 9), args := #[Go.Operand.tmp 115], argTypes := #[27] }, type := 36, pos := "many.go:64", after := #[{ on := 5, ground := Go.Ground.data }, { on := 4, ground := Go.Ground.chain }, { on := 4, ground := Go.Ground.guard }], guard := some (4, true) }) rfl (fun K hK => ?_) AllReadyH.nil
          go_simp
          (first | (go_at_call 8; (with_reducible refine (num_says14 _ _).mono ?_); rintro e t2 ⟨rfl, rfl⟩) | (go_at_call 10; (with_reducible refine (hR.out _ (‹Below wm.heap.size wm _ ∧ _›).1).mono ?_); rintro e t2 ⟨rfl, hb2⟩; (first | (replace HB := Lib.hid (HB.out.trans (hb2.mono HB.out.size))) | (replace HB := Lib.hid (HB.out.drew.trans (hb2.mono HB.out.size))))) | (go_at_call 9; (first | (with_reducible refine (hC.out _ (‹Below wm.heap.size wm _ ∧ _›).1).mono ?_) | (with_reducible refine (hD.out _ (‹Below wm.heap.size wm _ ∧ _›).1).mono ?_) | (with_reducible refine (hE.out _ (‹Below wm.heap.size wm _ ∧ _›).1).mono ?_)); rintro e t2 ⟨rfl, hb2⟩; (first | (replace HB := Lib.hid (HB.out.trans (hb2.mono HB.out.size))) | (replace HB := Lib.hid (HB.out.drew.trans (hb2.mono HB.out.size))))))
          refine hK.out _ _ ?_ (fun hH3 => ?_)
          · ((try dsimp only); (first | assumption | exact hS.out _ (Below.refl _ _) | exact hS.out _ (Below.refl _ _).drew | exact hS.out _ ((‹Below wm.heap.size wm _ ∧ _›).1.trans ((‹Below (World.heap _).size _ _›).mono (‹Below wm.heap.size wm _ ∧ _›).1.size))))
          clear hK K hH2
          try simp only [Act.put, List.setIfInBounds_toArray, List.set_cons_zero, List.set_cons_succ]
          refine wpAnyH_ready (rs := [7]) (by kernel_rfl) (by simp) ?_
          refine AllReadyH.cons (o := { dst := some 117, op := Go.Op.call { callee := Go.Callee.value (Go.Operand.func 8), args := #[Go.Operand.tmp 116], argTypes := #[36] }, type := 3, pos := "many.go:64", after := #[{ on := 6, ground := Go.Ground.data }, { on := 6, ground := Go.Ground.chain }, { on := 4, ground := Go.Ground.guard }], guard := some (4, true) }) rfl (fun K hK => ?_) AllReadyH.nil
          go_simp
          (first | (go_at_call 8; (with_reducible refine (num_says14 _ _).mono ?_); rintro e t2 ⟨rfl, rfl⟩) | (go_at_call 10; (with_reducible refine (hR.out _ (‹Below wm.heap.size wm _ ∧ _›).1).mono ?_); rintro e t2 ⟨rfl, hb2⟩; (first | (replace HB := Lib.hid (HB.out.trans (hb2.mono HB.out.size))) | (replace HB := Lib.hid (HB.out.drew.trans (hb2.mono HB.out.size))))) | (go_at_call 9; (first | (with_reducible refine (hC.out _ (‹Below wm.heap.size wm _ ∧ _›).1).mono ?_) | (with_reducible refine (hD.out _ (‹Below wm.heap.size wm _ ∧ _›).1).mono ?_) | (with_reducible refine (hE.out _ (‹Below wm.heap.size wm _ ∧ _›).1).mono ?_)); rintro e t2 ⟨rfl, hb2⟩; (first | (replace HB := Lib.hid (HB.out.trans (hb2.mono HB.out.size))) | (replace HB := Lib.hid (HB.out.drew.trans (hb2.mono HB.out.size))))))
          refine hK.out _ _ ?_ (fun hH4 => ?_)
          · ((try dsimp only); (first | assumption | exact hS.out _ (Below.refl _ _) | exact hS.out _ (Below.refl _ _).drew | exact hS.out _ ((‹Below wm.heap.size wm _ ∧ _›).1.trans ((‹Below (World.heap _).size _ _›).mono (‹Below wm.heap.size wm _ ∧ _›).1.size))))
          clear hK K hH3
          try simp only [Act.put, List.setIfInBounds_toArray, List.set_cons_zero, List.set_cons_succ]
          refine wpAnyH_take (i := 8) (oi := { dst := some 118, op := Go.Op.binOp Go.BinOp.eql 3 (Go.Operand.tmp 117) (Go.Operand.const (Go.Value.int Go.IntKind.i64 0)) 3, type := 4, pos := "many.go:64", after := #[{ on := 7, ground := Go.Ground.data }, { on := 4, ground := Go.Ground.guard }], guard := some (4, true) }) (v := ?_) rfl (by kernel_rfl) (by kernel_rfl) (by kernel_rfl) (fun _ _ _ h => h) (Or.inl ⟨by rfl, ?_⟩) (by assumption) ?_
          rotate_left
          · ((intro w hSw; (try dsimp only at hSw); go_simp) <;> (with_reducible rfl))
          try simp only [Act.put, List.setIfInBounds_toArray, List.set_cons_zero, List.set_cons_succ]
          refine wpAnyH_take (i := 12) (oi := { dst := some 122, op := Go.Op.binOp Go.BinOp.eql 4 (Go.Operand.tmp 118) (Go.Operand.tmp 121) 4, type := 4, pos := "many.go:64", after := #[{ on := 8, ground := Go.Ground.data }, { on := 11, ground := Go.Ground.data }, { on := 4, ground := Go.Ground.guard }], guard := some (4, true) }) (v := ?_) rfl (by kernel_rfl) (by kernel_rfl) (by kernel_rfl) (fun _ _ _ h => h) (Or.inl ⟨by rfl, ?_⟩) (by assumption) ?_
          rotate_left
          · ((intro w hSw; (try dsimp only at hSw); go_simp) <;> (with_reducible rfl))
          try simp only [Act.put, List.setIfInBounds_toArray, List.set_cons_zero, List.set_cons_succ]
          refine wpAnyH_take (i := 13) (oi := { dst := some 123, op := Go.Op.pick (Go.Operand.tmp 114) (Go.Operand.tmp 122) (Go.Operand.const (Go.Value.bool false)), type := 4, pos := "many.go:64", after := #[{ on := 4, ground := Go.Ground.data }, { on := 12, ground := Go.Ground.data }], guard := none }) (v := ?_) rfl (by kernel_rfl) (by kernel_rfl) (by kernel_rfl) (fun _ _ _ h => h) (Or.inl ⟨by rfl, ?_⟩) (by assumption) ?_
          rotate_left
          · ((intro w hSw; (try dsimp only at hSw); go_simp) <;> (with_reducible rfl))
          try simp only [Act.put, List.setIfInBounds_toArray, List.set_cons_zero, List.set_cons_succ]
          refine wpAnyH_take (i := 14) (oi := { dst := some 124, op := Go.Op.move (Go.Operand.tmp 123), type := 4, pos := "many.go:64", after := #[{ on := 13, ground := Go.Ground.data }, { on := 7, ground := Go.Ground.chain }], guard := none }) (v := ?_) rfl (by kernel_rfl) (by kernel_rfl) (by kernel_rfl) (fun _ _ _ h => h) (Or.inl ⟨by rfl, ?_⟩) (by assumption) ?_
          rotate_left
          · ((intro w hSw; (try dsimp only at hSw); go_simp) <;> (with_reducible rfl))
          try simp only [Act.put, List.setIfInBounds_toArray, List.set_cons_zero, List.set_cons_succ]
          refine wpAnyH_take (i := 15) (oi := { dst := some 125, op := Go.Op.load 27 (Go.Operand.tmp 11), type := 27, pos := "many.go:64", after := #[{ on := 14, ground := Go.Ground.guard }], guard := some (14, true) }) (v := ?_) rfl (by kernel_rfl) (by kernel_rfl) (by kernel_rfl) (fun _ _ _ h => h) (Or.inl ⟨by rfl, ?_⟩) (by assumption) ?_
          rotate_left
          · ((intro w hSw; (try dsimp only at hSw); go_simp) <;> (with_reducible rfl))
          try simp only [Act.put, List.setIfInBounds_toArray, List.set_cons_zero, List.set_cons_succ]
          refine wpAnyH_take (i := 19) (oi := { dst := some 129, op := Go.Op.move (Go.Operand.tmp 2), type := 3, pos := "many.go:64", after := #[{ on := 14, ground := Go.Ground.guard }], guard := some (14, true) }) (v := ?_) rfl (by kernel_rfl) (by kernel_rfl) (by kernel_rfl) (fun _ _ _ h => h) (Or.inl ⟨by rfl, ?_⟩) (by assumption) ?_
          rotate_left
          · ((intro w hSw; (try dsimp only at hSw); go_simp) <;> (with_reducible rfl))
          try simp only [Act.put, List.setIfInBounds_toArray, List.set_cons_zero, List.set_cons_succ]
          refine wpAnyH_take (i := 20) (oi := { dst := some 130, op := Go.Op.binOp Go.BinOp.eql 3 (Go.Operand.tmp 129) (Go.Operand.const (Go.Value.int Go.IntKind.i64 0)) 3, type := 4, pos := "many.go:64", after := #[{ on := 19, ground := Go.Ground.data }, { on := 14, ground := Go.Ground.guard }], guard := some (14, true) }) (v := ?_) rfl (by kernel_rfl) (by kernel_rfl) (by kernel_rfl) (fun _ _ _ h => h) (Or.inl ⟨by rfl, ?_⟩) (by assumption) ?_
          rotate_left
          · ((intro w hSw; (try dsimp only at hSw); go_simp) <;> (with_reducible rfl))
          try simp only [Act.put, List.setIfInBounds_toArray, List.set_cons_zero, List.set_cons_succ]
          refine wpAnyH_ready (rs := [16]) (by kernel_rfl) (by simp) ?_
          refine AllReadyH.cons (o := { dst := some 126, op := Go.Op.call { callee := Go.Callee.value (Go.Operand.func 9), args := #[Go.Operand.tmp 125], argTypes := #[27] }, type := 36, pos := "many.go:64", after := #[{ on := 15, ground := Go.Ground.data }, { on := 14, ground := Go.Ground.chain }, { on := 14, ground := Go.Ground.guard }], guard := some (14, true) }) rfl (fun K hK => ?_) AllReadyH.nil
          go_simp
          (first | (go_at_call 8; (with_reducible refine (num_says14 _ _).mono ?_); rintro e t2 ⟨rfl, rfl⟩) | (go_at_call 10; (with_reducible refine (hR.out _ (‹Below wm.heap.size wm _ ∧ _›).1).mono ?_); rintro e t2 ⟨rfl, hb2⟩; (first | (replace HB := Lib.hid (HB.out.trans (hb2.mono HB.out.size))) | (replace HB := Lib.hid (HB.out.drew.trans (hb2.mono HB.out.size))))) | (go_at_call 9; (first | (with_reducible refine (hC.out _ (‹Below wm.heap.size wm _ ∧ _›).1).mono ?_) | (with_reducible refine (hD.out _ (‹Below wm.heap.size wm _ ∧ _›).1).mono ?_) | (with_reducible refine (hE.out _ (‹Below wm.heap.size wm _ ∧ _›).1).mono ?_)); rintro e t2 ⟨rfl, hb2⟩; (first | (replace HB := Lib.hid (HB.out.trans (hb2.mono HB.out.size))) | (replace HB := Lib.hid (HB.out.drew.trans (hb2.mono HB.out.size))))))
          refine hK.out _ _ ?_ (fun hH5 => ?_)
          · ((try dsimp only); (first | assumption | exact hS.out _ (Below.refl _ _) | exact hS.out _ (Below.refl _ _).drew | exact hS.out _ ((‹Below wm.heap.size wm _ ∧ _›).1.trans ((‹Below (World.heap _).size _ _›).mono (‹Below wm.heap.size wm _ ∧ _›).1.size))))
          clear hK K hH4
          try simp only [Act.put, List.setIfInBounds_toArray, List.set_cons_zero, List.set_cons_succ]
          refine wpAnyH_ready (rs := [17]) (by kernel_rfl) (by simp) ?_
          refine AllReadyH.cons (o := { dst := some 127, op := Go.Op.call { callee := Go.Callee.value (Go.Operand.func 8), args := #[Go.Operand.tmp 126], argTypes := #[36] }, type := 3, pos := "many.go:64", after := #[{ on := 16, ground := Go.Ground.data }, { on := 16, ground := Go.Ground.chain }, { on := 14, ground := Go.Ground.guard }], guard := some (14, true) }) rfl (fun K hK => ?_) AllReadyH.nil
          go_simp
          (first | (go_at_call 8; (with_reducible refine (num_says14 _ _).mono ?_); rintro e t2 ⟨rfl, rfl⟩) | (go_at_call 10; (with_reducible refine (hR.out _ (‹Below wm.heap.size wm _ ∧ _›).1).mono ?_); rintro e t2 ⟨rfl, hb2⟩; (first | (replace HB := Lib.hid (HB.out.trans (hb2.mono HB.out.size))) | (replace HB := Lib.hid (HB.out.drew.trans (hb2.mono HB.out.size))))) | (go_at_call 9; (first | (with_reducible refine (hC.out _ (‹Below wm.heap.size wm _ ∧ _›).1).mono ?_) | (with_reducible refine (hD.out _ (‹Below wm.heap.size wm _ ∧ _›).1).mono ?_) | (with_reducible refine (hE.out _ (‹Below wm.heap.size wm _ ∧ _›).1).mono ?_)); rintro e t2 ⟨rfl, hb2⟩; (first | (replace HB := Lib.hid (HB.out.trans (hb2.mono HB.out.size))) | (replace HB := Lib.hid (HB.out.drew.trans (hb2.mono HB.out.size))))))
          refine hK.out _ _ ?_ (fun hH6 => ?_)
          · ((try dsimp only); (first | assumption | exact hS.out _ (Below.refl _ _) | exact hS.out _ (Below.refl _ _).drew | exact hS.out _ ((‹Below wm.heap.size wm _ ∧ _›).1.trans ((‹Below (World.heap _).size _ _›).mono (‹Below wm.heap.size wm _ ∧ _›).1.size))))
          clear hK K hH5
          try simp only [Act.put, List.setIfInBounds_toArray, List.set_cons_zero, List.set_cons_succ]
          refine wpAnyH_take (i := 18) (oi := { dst := some 128, op := Go.Op.binOp Go.BinOp.eql 3 (Go.Operand.tmp 127) (Go.Operand.const (Go.Value.int Go.IntKind.i64 0)) 3, type := 4, pos := "many.go:64", after := #[{ on := 17, ground := Go.Ground.data }, { on := 14, ground := Go.Ground.guard }], guard := some (14, true) }) (v := ?_) rfl (by kernel_rfl) (by kernel_rfl) (by kernel_rfl) (fun _ _ _ h => h) (Or.inl ⟨by rfl, ?_⟩) (by assumption) ?_
          rotate_left
          · ((intro w hSw; (try dsimp only at hSw); go_simp) <;> (with_reducible rfl))
          try simp only [Act.put, List.setIfInBounds_toArray, List.set_cons_zero, List.set_cons_succ]
          refine wpAnyH_take (i := 21) (oi := { dst := some 131, op := Go.Op.binOp Go.BinOp.eql 4 (Go.Operand.tmp 128) (Go.Operand.tmp 130) 4, type := 4, pos := "many.go:64", after := #[{ on := 18, ground := Go.Ground.data }, { on := 20, ground := Go.Ground.data }, { on := 14, ground := Go.Ground.guard }], guard := some (14, true) }) (v := ?_) rfl (by kernel_rfl) (by kernel_rfl) (by kernel_rfl) (fun _ _ _ h => h) (Or.inl ⟨by rfl, ?_⟩) (by assumption) ?_
          rotate_left
          · ((intro w hSw; (try dsimp only at hSw); go_simp) <;> (with_reducible rfl))
          try simp only [Act.put, List.setIfInBounds_toArray, List.set_cons_zero, List.set_cons_succ]
          refine wpAnyH_take (i := 22) (oi := { dst := some 132, op := Go.Op.pick (Go.Operand.tmp 124) (Go.Operand.tmp 131) (Go.Operand.const (Go.Value.bool false)), type := 4, pos := "many.go:64", after := #[{ on := 14, ground := Go.Ground.data }, { on := 21, ground := Go.Ground.data }], guard := none }) (v := ?_) rfl (by kernel_rfl) (by kernel_rfl) (by kernel_rfl) (fun _ _ _ h => h) (Or.inl ⟨by rfl, ?_⟩) (by assumption) ?_
          rotate_left
          · ((intro w hSw; (try dsimp only at hSw); go_simp) <;> (with_reducible rfl))
          try simp only [Act.put, List.setIfInBounds_toArray, List.set_cons_zero, List.set_cons_succ]
          refine wpAnyH_take (i := 23) (oi := { dst := some 133, op := Go.Op.move (Go.Operand.tmp 132), type := 4, pos := "many.go:64", after := #[{ on := 22, ground := Go.Ground.data }, { on := 17, ground := Go.Ground.chain }], guard := none }) (v := ?_) rfl (by kernel_rfl) (by kernel_rfl) (by kernel_rfl) (fun _ _ _ h => h) (Or.inl ⟨by rfl, ?_⟩) (by assumption) ?_
          rotate_left
          · ((intro w hSw; (try dsimp only at hSw); go_simp) <;> (with_reducible rfl))
          try simp only [Act.put, List.setIfInBounds_toArray, List.set_cons_zero, List.set_cons_succ]
          refine wpAnyH_take (i := 24) (oi := { dst := some 134, op := Go.Op.load 27 (Go.Operand.tmp 11), type := 27, pos := "many.go:64", after := #[{ on := 23, ground := Go.Ground.guard }], guard := some (23, true) }) (v := ?_) rfl (by kernel_rfl) (by kernel_rfl) (by kernel_rfl) (fun _ _ _ h => h) (Or.inl ⟨by rfl, ?_⟩) (by assumption) ?_
          rotate_left
          · ((intro w hSw; (try dsimp only at hSw); go_simp) <;> (with_reducible rfl))
          try simp only [Act.put, List.setIfInBounds_toArray, List.set_cons_zero, List.set_cons_succ]
          refine wpAnyH_take (i := 27) (oi := { dst := some 137, op := Go.Op.load 27 (Go.Operand.tmp 11), type := 27, pos := "many.go:64", after := #[{ on := 23, ground := Go.Ground.guard }], guard := some (23, true) }) (v := ?_) rfl (by kernel_rfl) (by kernel_rfl) (by kernel_rfl) (fun _ _ _ h => h) (Or.inl ⟨by rfl, ?_⟩) (by assumption) ?_
          rotate_left
          · ((intro w hSw; (try dsimp only at hSw); go_simp) <;> (with_reducible rfl))
          try simp only [Act.put, List.setIfInBounds_toArray, List.set_cons_zero, List.set_cons_succ]
          refine wpAnyH_ready (rs := [25]) (by kernel_rfl) (by simp) ?_
          refine AllReadyH.cons (o := { dst := some 135, op := Go.Op.call { callee := Go.Callee.value (Go.Operand.func 9), args := #[Go.Operand.tmp 134], argTypes := #[27] }, type := 36, pos := "many.go:64", after := #[{ on := 24, ground := Go.Ground.data }, { on := 23, ground := Go.Ground.chain }, { on := 23, ground := Go.Ground.guard }], guard := some (23, true) }) rfl (fun K hK => ?_) AllReadyH.nil
          go_simp
          (first | (go_at_call 8; (with_reducible refine (num_says14 _ _).mono ?_); rintro e t2 ⟨rfl, rfl⟩) | (go_at_call 10; (with_reducible refine (hR.out _ (‹Below wm.heap.size wm _ ∧ _›).1).mono ?_); rintro e t2 ⟨rfl, hb2⟩; (first | (replace HB := Lib.hid (HB.out.trans (hb2.mono HB.out.size))) | (replace HB := Lib.hid (HB.out.drew.trans (hb2.mono HB.out.size))))) | (go_at_call 9; (first | (with_reducible refine (hC.out _ (‹Below wm.heap.size wm _ ∧ _›).1).mono ?_) | (with_reducible refine (hD.out _ (‹Below wm.heap.size wm _ ∧ _›).1).mono ?_) | (with_reducible refine (hE.out _ (‹Below wm.heap.size wm _ ∧ _›).1).mono ?_)); rintro e t2 ⟨rfl, hb2⟩; (first | (replace HB := Lib.hid (HB.out.trans (hb2.mono HB.out.size))) | (replace HB := Lib.hid (HB.out.drew.trans (hb2.mono HB.out.size))))))
          refine hK.out _ _ ?_ (fun hH7 => ?_)
          · ((try dsimp only); (first | assumption | exact hS.out _ (Below.refl _ _) | exact hS.out _ (Below.refl _ _).drew | exact hS.out _ ((‹Below wm.heap.size wm _ ∧ _›).1.trans ((‹Below (World.heap _).size _ _›).mono (‹Below wm.heap.size wm _ ∧ _›).1.size))))
          clear hK K hH6
          try simp only [Act.put, List.setIfInBounds_toArray, List.set_cons_zero, List.set_cons_succ]
          refine wpAnyH_ready (rs := [26]) (by kernel_rfl) (by simp) ?_
          refine AllReadyH.cons (o := { dst := some 136, op := Go.Op.call { callee := Go.Callee.value (Go.Operand.func 8), args := #[Go.Operand.tmp 135], argTypes := #[36] }, type := 3, pos := "many.go:64", after := #[{ on := 25, ground := Go.Ground.data }, { on := 25, ground := Go.Ground.chain }, { on := 23, ground := Go.Ground.guard }], guard := some (23, true) }) rfl (fun K hK => ?_) AllReadyH.nil
          go_simp
          (first | (go_at_call 8; (with_reducible refine (num_says14 _ _).mono ?_); rintro e t2 ⟨rfl, rfl⟩) | (go_at_call 10; (with_reducible refine (hR.out _ (‹Below wm.heap.size wm _ ∧ _›).1).mono ?_); rintro e t2 ⟨rfl, hb2⟩; (first | (replace HB := Lib.hid (HB.out.trans (hb2.mono HB.out.size))) | (replace HB := Lib.hid (HB.out.drew.trans (hb2.mono HB.out.size))))) | (go_at_call 9; (first | (with_reducible refine (hC.out _ (‹Below wm.heap.size wm _ ∧ _›).1).mono ?_) | (with_reducible refine (hD.out _ (‹Below wm.heap.size wm _ ∧ _›).1).mono ?_) | (with_reducible refine (hE.out _ (‹Below wm.heap.size wm _ ∧ _›).1).mono ?_)); rintro e t2 ⟨rfl, hb2⟩; (first | (replace HB := Lib.hid (HB.out.trans (hb2.mono HB.out.size))) | (replace HB := Lib.hid (HB.out.drew.trans (hb2.mono HB.out.size))))))
          refine hK.out _ _ ?_ (fun hH8 => ?_)
          · ((try dsimp only); (first | assumption | exact hS.out _ (Below.refl _ _) | exact hS.out _ (Below.refl _ _).drew | exact hS.out _ ((‹Below wm.heap.size wm _ ∧ _›).1.trans ((‹Below (World.heap _).size _ _›).mono (‹Below wm.heap.size wm _ ∧ _›).1.size))))
          clear hK K hH7
          try simp only [Act.put, List.setIfInBounds_toArray, List.set_cons_zero, List.set_cons_succ]
          refine wpAnyH_ready (rs := [28]) (by kernel_rfl) (by simp) ?_
          refine AllReadyH.cons (o := { dst := some 138, op := Go.Op.call { callee := Go.Callee.value (Go.Operand.func 10), args := #[Go.Operand.tmp 137], argTypes := #[27] }, type := 3, pos := "many.go:64", after := #[{ on := 27, ground := Go.Ground.data }, { on := 26, ground := Go.Ground.chain }, { on := 23, ground := Go.Ground.guard }], guard := some (23, true) }) rfl (fun K hK => ?_) AllReadyH.nil
          go_simp
          (first | (go_at_call 8; (with_reducible refine (num_says14 _ _).mono ?_); rintro e t2 ⟨rfl, rfl⟩) | (go_at_call 10; (with_reducible refine (hR.out _ (‹Below wm.heap.size wm _ ∧ _›).1).mono ?_); rintro e t2 ⟨rfl, hb2⟩; (first | (replace HB := Lib.hid (HB.out.trans (hb2.mono HB.out.size))) | (replace HB := Lib.hid (HB.out.drew.trans (hb2.mono HB.out.size))))) | (go_at_call 9; (first | (with_reducible refine (hC.out _ (‹Below wm.heap.size wm _ ∧ _›).1).mono ?_) | (with_reducible refine (hD.out _ (‹Below wm.heap.size wm _ ∧ _›).1).mono ?_) | (with_reducible refine (hE.out _ (‹Below wm.heap.size wm _ ∧ _›).1).mono ?_)); rintro e t2 ⟨rfl, hb2⟩; (first | (replace HB := Lib.hid (HB.out.trans (hb2.mono HB.out.size))) | (replace HB := Lib.hid (HB.out.drew.trans (hb2.mono HB.out.size))))))
          refine hK.out _ _ ?_ (fun hH9 => ?_)
          · ((try dsimp only); (first | assumption | exact hS.out _ (Below.refl _ _) | exact hS.out _ (Below.refl _ _).drew | exact hS.out _ ((‹Below wm.heap.size wm _ ∧ _›).1.trans ((‹Below (World.heap _).size _ _›).mono (‹Below wm.heap.size wm _ ∧ _›).1.size))))
          clear hK K hH8
          try simp only [Act.put, List.setIfInBounds_toArray, List.set_cons_zero, List.set_cons_succ]
          refine wpAnyH_take (i := 29) (oi := { dst := some 139, op := Go.Op.binOp Go.BinOp.eql 3 (Go.Operand.tmp 136) (Go.Operand.tmp 138) 3, type := 4, pos := "many.go:64", after := #[{ on := 26, ground := Go.Ground.data }, { on := 28, ground := Go.Ground.data }, { on := 23, ground := Go.Ground.guard }], guard := some (23, true) }) (v := ?_) rfl (by kernel_rfl) (by kernel_rfl) (by kernel_rfl) (fun _ _ _ h => h) (Or.inl ⟨by rfl, ?_⟩) (by assumption) ?_
          rotate_left
          · ((intro w hSw; (try dsimp only at hSw); go_simp) <;> (with_reducible rfl))
          try simp only [Act.put, List.setIfInBounds_toArray, List.set_cons_zero, List.set_cons_succ]
          refine wpAnyH_take (i := 30) (oi := { dst := some 140, op := Go.Op.pick (Go.Operand.tmp 133) (Go.Operand.tmp 139) (Go.Operand.const (Go.Value.bool false)), type := 4, pos := "many.go:64", after := #[{ on := 23, ground := Go.Ground.data }, { on := 29, ground := Go.Ground.data }], guard := none }) (v := ?_) rfl (by kernel_rfl) (by kernel_rfl) (by kernel_rfl) (fun _ _ _ h => h) (Or.inl ⟨by rfl, ?_⟩) (by assumption) ?_
          rotate_left
          · ((intro w hSw; (try dsimp only at hSw); go_simp) <;> (with_reducible rfl))
          try simp only [Act.put, List.setIfInBounds_toArray, List.set_cons_zero, List.set_cons_succ]
          refine wpAnyH_take (i := 31) (oi := { dst := some 6, op := Go.Op.assign (Go.Operand.tmp 140), type := 4, pos := "many.go:64", after := #[{ on := 30, ground := Go.Ground.data }, { on := 28, ground := Go.Ground.chain }, { on := 0, ground := Go.Ground.phase }, { on := 1, ground := Go.Ground.phase }, { on := 2, ground := Go.Ground.phase }, { on := 3, ground := Go.Ground.phase }, { on := 4, ground := Go.Ground.phase }, { on := 5, ground := Go.Ground.phase }, { on := 6, ground := Go.Ground.phase }, { on := 7, ground := Go.Ground.phase }, { on := 8, ground := Go.Ground.phase }, { on := 9, ground := Go.Ground.phase }, { on := 10, ground := Go.Ground.phase }, { on := 11, ground := Go.Ground.phase }, { on := 12, ground := Go.Ground.phase }, { on := 13, ground := Go.Ground.phase }, { on := 14, ground := Go.Ground.phase }, { on := 15, ground := Go.Ground.phase }, { on := 16, ground := Go.Ground.phase }, { on := 17, ground := Go.Ground.phase }, { on := 18, ground := Go.Ground.phase }, { on := 19, ground := Go.Ground.phase }, { on := 20, ground := Go.Ground.phase }, { on := 21, ground := Go.Ground.phase }, { on := 22, ground := Go.Ground.phase }, { on := 23, ground := Go.Ground.phase }, { on := 24, ground := Go.Ground.phase }, { on := 25, ground := Go.Ground.phase }, { on := 26, ground := Go.Ground.phase }, { on := 27, ground := Go.Ground.phase }, { on := 28, ground := Go.Ground.phase }, { on := 29, ground := Go.Ground.phase }, { on := 30, ground := Go.Ground.phase }], guard := none }) (v := ?_) rfl (by kernel_rfl) (by kernel_rfl) (by kernel_rfl) (fun _ _ _ h => h) (Or.inl ⟨by rfl, ?_⟩) (by assumption) ?_
          rotate_left
          · ((intro w hSw; (try dsimp only at hSw); go_simp) <;> (with_reducible rfl))
          try simp only [Act.put, List.setIfInBounds_toArray, List.set_cons_zero, List.set_cons_succ]
          refine wpAnyH_done (by kernel_rfl) ?_ _
          all_goals
            go_wp2
            exact HO.out _ (BW.out.trans ((‹Below wm.heap.size wm _ ∧ _›).1.mono BW.out.size))
      · rw [if_neg hij] at hdc
        subst hdc
        have x1 : ((I : Int) == (J : Int)) = false := by simp; omega
        clear hij
        by_cases hp0 : P = 0
        · subst hp0
          rw [if_pos rfl] at hec
          subst hec
          go_wp2
          refine wp_region_held_drew (S := (fun u => Below wm.heap.size wm u ∧ u.cell? ⟨hb, 0, none⟩ = some (.int .i64 40) ∧ u.cell? ⟨hb, 1, none⟩ = some (.int .i64 100) ∧ u.cell? ⟨hb, 2, none⟩ = some (.int .i64 0) ∧ u.cell? ⟨hb, 3, none⟩ = some (.slice (some ⟨b, off, none⟩) 6 c1) ∧ u.cell? ⟨hb, 4, none⟩ = some (.slice none 0 0) ∧ u.cell? ⟨hb, 5, none⟩ = some (.slice p3 6 c3) ∧ u.cell? ⟨hd, 0, none⟩ = some (.int .i64 40) ∧ u.cell? ⟨hd, 1, none⟩ = some (.int .i64 100) ∧ u.cell? ⟨hd, 2, none⟩ = some (.int .i64 0) ∧ u.cell? ⟨hd, 3, none⟩ = some (.slice (some ⟨g1, 0, none⟩) 6 q1) ∧ u.cell? ⟨hd, 4, none⟩ = some (.slice none 0 0) ∧ u.cell? ⟨hd, 5, none⟩ = some (.slice p3 6 c3) ∧ u.cell? ⟨he, 0, none⟩ = some (.int .i64 40) ∧ u.cell? ⟨he, 1, none⟩ = some (.int .i64 100) ∧ u.cell? ⟨he, 2, none⟩ = some (.int .i64 0) ∧ u.cell? ⟨he, 3, none⟩ = some (.slice (some ⟨b, off, none⟩) 6 c1) ∧ u.cell? ⟨he, 4, none⟩ = some (.slice none 0 0) ∧ u.cell? ⟨he, 5, none⟩ = some (.slice (some ⟨g3, 0, none⟩) 6 q3))) (by kernel_rfl) ?_ (fun hH0 => ?_)
          · ((try dsimp only); (first | assumption | exact hS.out _ (Below.refl _ _) | exact hS.out _ (Below.refl _ _).drew | exact hS.out _ ((‹Below wm.heap.size wm _ ∧ _›).1.trans ((‹Below (World.heap _).size _ _›).mono (‹Below wm.heap.size wm _ ∧ _›).1.size))))
          refine wpAnyH_take (i := 0) (oi := { dst := some 110, op := Go.Op.load 27 (Go.Operand.tmp 8), type := 27, pos := "many.go:64", after := #[], guard := none }) (v := ?_) rfl (by kernel_rfl) (by kernel_rfl) (by kernel_rfl) (fun _ _ _ h => h) (Or.inl ⟨by rfl, ?_⟩) (by assumption) ?_
          rotate_left
          · ((intro w hSw; (try dsimp only at hSw); go_simp) <;> (with_reducible rfl))
          try simp only [Act.put, List.setIfInBounds_toArray, List.set_cons_zero, List.set_cons_succ]
          refine wpAnyH_ready (rs := [1]) (by kernel_rfl) (by simp) ?_
          refine AllReadyH.cons (o := { dst := some 111, op := Go.Op.call { callee := Go.Callee.value (Go.Operand.func 9), args := #[Go.Operand.tmp 110], argTypes := #[27] }, type := 36, pos := "many.go:64", after := #[{ on := 0, ground := Go.Ground.data }], guard := none }) rfl (fun K hK => ?_) AllReadyH.nil
          go_simp
          (first | (go_at_call 8; (with_reducible refine (num_says14 _ _).mono ?_); rintro e t2 ⟨rfl, rfl⟩) | (go_at_call 10; (with_reducible refine (hR.out _ (‹Below wm.heap.size wm _ ∧ _›).1).mono ?_); rintro e t2 ⟨rfl, hb2⟩; (first | (replace HB := Lib.hid (HB.out.trans (hb2.mono HB.out.size))) | (replace HB := Lib.hid (HB.out.drew.trans (hb2.mono HB.out.size))))) | (go_at_call 9; (first | (with_reducible refine (hC.out _ (‹Below wm.heap.size wm _ ∧ _›).1).mono ?_) | (with_reducible refine (hD.out _ (‹Below wm.heap.size wm _ ∧ _›).1).mono ?_) | (with_reducible refine (hE.out _ (‹Below wm.heap.size wm _ ∧ _›).1).mono ?_)); rintro e t2 ⟨rfl, hb2⟩; (first | (replace HB := Lib.hid (HB.out.trans (hb2.mono HB.out.size))) | (replace HB := Lib.hid (HB.out.drew.trans (hb2.mono HB.out.size))))))
          refine hK.out _ _ ?_ (fun hH1 => ?_)
          · ((try dsimp only); (first | assumption | exact hS.out _ (Below.refl _ _) | exact hS.out _ (Below.refl _ _).drew | exact hS.out _ ((‹Below wm.heap.size wm _ ∧ _›).1.trans ((‹Below (World.heap _).size _ _›).mono (‹Below wm.heap.size wm _ ∧ _›).1.size))))
          clear hK K hH0
          try simp only [Act.put, List.setIfInBounds_toArray, List.set_cons_zero, List.set_cons_succ]
          refine wpAnyH_ready (rs := [2]) (by kernel_rfl) (by simp) ?_
          refine AllReadyH.cons (o := { dst := some 112, op := Go.Op.call { callee := Go.Callee.value (Go.Operand.func 8), args := #[Go.Operand.tmp 111], argTypes := #[36] }, type := 3, pos := "many.go:64", after := #[{ on := 1, ground := Go.Ground.data }, { on := 1, ground := Go.Ground.chain }], guard := none }) rfl (fun K hK => ?_) AllReadyH.nil
          go_simp
          (first | (go_at_call 8; (with_reducible refine (num_says14 _ _).mono ?_); rintro e t2 ⟨rfl, rfl⟩) | (go_at_call 10; (with_reducible refine (hR.out _ (‹Below wm.heap.size wm _ ∧ _›).1).mono ?_); rintro e t2 ⟨rfl, hb2⟩; (first | (replace HB := Lib.hid (HB.out.trans (hb2.mono HB.out.size))) | (replace HB := Lib.hid (HB.out.drew.trans (hb2.mono HB.out.size))))) | (go_at_call 9; (first | (with_reducible refine (hC.out _ (‹Below wm.heap.size wm _ ∧ _›).1).mono ?_) | (with_reducible refine (hD.out _ (‹Below wm.heap.size wm _ ∧ _›).1).mono ?_) | (with_reducible refine (hE.out _ (‹Below wm.heap.size wm _ ∧ _›).1).mono ?_)); rintro e t2 ⟨rfl, hb2⟩; (first | (replace HB := Lib.hid (HB.out.trans (hb2.mono HB.out.size))) | (replace HB := Lib.hid (HB.out.drew.trans (hb2.mono HB.out.size))))))
          refine hK.out _ _ ?_ (fun hH2 => ?_)
          · ((try dsimp only); (first | assumption | exact hS.out _ (Below.refl _ _) | exact hS.out _ (Below.refl _ _).drew | exact hS.out _ ((‹Below wm.heap.size wm _ ∧ _›).1.trans ((‹Below (World.heap _).size _ _›).mono (‹Below wm.heap.size wm _ ∧ _›).1.size))))
          clear hK K hH1
          try simp only [Act.put, List.setIfInBounds_toArray, List.set_cons_zero, List.set_cons_succ]
          refine wpAnyH_take (i := 3) (oi := { dst := some 113, op := Go.Op.binOp Go.BinOp.eql 3 (Go.Operand.tmp 112) (Go.Operand.const (Go.Value.int Go.IntKind.i64 0)) 3, type := 4, pos := "many.go:64", after := #[{ on := 2, ground := Go.Ground.data }], guard := none }) (v := ?_) rfl (by kernel_rfl) (by kernel_rfl) (by kernel_rfl) (fun _ _ _ h => h) (Or.inl ⟨by rfl, ?_⟩) (by assumption) ?_
          rotate_left
          · ((intro w hSw; (try dsimp only at hSw); go_simp) <;> (with_reducible rfl))
          try simp only [Act.put, List.setIfInBounds_toArray, List.set_cons_zero, List.set_cons_succ]
          refine wpAnyH_take (i := 4) (oi := { dst := some 114, op := Go.Op.move (Go.Operand.tmp 113), type := 4, pos := "many.go:64", after := #[{ on := 3, ground := Go.Ground.data }, { on := 2, ground := Go.Ground.chain }], guard := none }) (v := ?_) rfl (by kernel_rfl) (by kernel_rfl) (by kernel_rfl) (fun _ _ _ h => h) (Or.inl ⟨by rfl, ?_⟩) (by assumption) ?_
          rotate_left
          · ((intro w hSw; (try dsimp only at hSw); go_simp) <;> (with_reducible rfl))
          try simp only [Act.put, List.setIfInBounds_toArray, List.set_cons_zero, List.set_cons_succ]
          refine wpAnyH_take (i := 5) (oi := { dst := some 115, op := Go.Op.load 27 (Go.Operand.tmp 10), type := 27, pos := "many.go:64", after := #[{ on := 4, ground := Go.Ground.guard }], guard := some (4, true) }) (v := ?_) rfl (by kernel_rfl) (by kernel_rfl) (by kernel_rfl) (fun _ _ _ h => h) (Or.inl ⟨by rfl, ?_⟩) (by assumption) ?_
          rotate_left
          · ((intro w hSw; (try dsimp only at hSw); go_simp) <;> (with_reducible rfl))
          try simp only [Act.put, List.setIfInBounds_toArray, List.set_cons_zero, List.set_cons_succ]
          refine wpAnyH_take (i := 9) (oi := { dst := some 119, op := Go.Op.move (Go.Operand.tmp 0), type := 3, pos := "many.go:64", after := #[{ on := 4, ground := Go.Ground.guard }], guard := some (4, true) }) (v := ?_) rfl (by kernel_rfl) (by kernel_rfl) (by kernel_rfl) (fun _ _ _ h => h) (Or.inl ⟨by rfl, ?_⟩) (by assumption) ?_
          rotate_left
          · ((intro w hSw; (try dsimp only at hSw); go_simp) <;> (with_reducible rfl))
          try simp only [Act.put, List.setIfInBounds_toArray, List.set_cons_zero, List.set_cons_succ]
          refine wpAnyH_take (i := 10) (oi := { dst := some 120, op := Go.Op.move (Go.Operand.tmp 1), type := 3, pos := "many.go:64", after := #[{ on := 4, ground := Go.Ground.guard }], guard := some (4, true) }) (v := ?_) rfl (by kernel_rfl) (by kernel_rfl) (by kernel_rfl) (fun _ _ _ h => h) (Or.inl ⟨by rfl, ?_⟩) (by assumption) ?_
          rotate_left
          · ((intro w hSw; (try dsimp only at hSw); go_simp) <;> (with_reducible rfl))
          try simp only [Act.put, List.setIfInBounds_toArray, List.set_cons_zero, List.set_cons_succ]
          refine wpAnyH_take (i := 11) (oi := { dst := some 121, op := Go.Op.binOp Go.BinOp.eql 3 (Go.Operand.tmp 119) (Go.Operand.tmp 120) 3, type := 4, pos := "many.go:64", after := #[{ on := 9, ground := Go.Ground.data }, { on := 10, ground := Go.Ground.data }, { on := 4, ground := Go.Ground.guard }], guard := some (4, true) }) (v := ?_) rfl (by kernel_rfl) (by kernel_rfl) (by kernel_rfl) (fun _ _ _ h => h) (Or.inl ⟨by rfl, ?_⟩) (by assumption) ?_
          rotate_left
          · ((intro w hSw; (try dsimp only at hSw); go_simp) <;> (with_reducible rfl))
          try simp only [Act.put, List.setIfInBounds_toArray, List.set_cons_zero, List.set_cons_succ]
          refine wpAnyH_ready (rs := [6]) (by kernel_rfl) (by simp) ?_
          refine AllReadyH.cons (o := { dst := some 116, op := Go.Op.call { callee := Go.Callee.value (Go.Operand.func 9), args := #[Go.Operand.tmp 115], argTypes := #[27] }, type := 36, pos := "many.go:64", after := #[{ on := 5, ground := Go.Ground.data }, { on := 4, ground := Go.Ground.chain }, { on := 4, ground := Go.Ground.guard }], guard := some (4, true) }) rfl (fun K hK => ?_) AllReadyH.nil
          go_simp
          (first | (go_at_call 8; (with_reducible refine (num_says14 _ _).mono ?_); rintro e t2 ⟨rfl, rfl⟩) | (go_at_call 10; (with_reducible refine (hR.out _ (‹Below wm.heap.size wm _ ∧ _›).1).mono ?_); rintro e t2 ⟨rfl, hb2⟩; (first | (replace HB := Lib.hid (HB.out.trans (hb2.mono HB.out.size))) | (replace HB := Lib.hid (HB.out.drew.trans (hb2.mono HB.out.size))))) | (go_at_call 9; (first | (with_reducible refine (hC.out _ (‹Below wm.heap.size wm _ ∧ _›).1).mono ?_) | (with_reducible refine (hD.out _ (‹Below wm.heap.size wm _ ∧ _›).1).mono ?_) | (with_reducible refine (hE.out _ (‹Below wm.heap.size wm _ ∧ _›).1).mono ?_)); rintro e t2 ⟨rfl, hb2⟩; (first | (replace HB := Lib.hid (HB.out.trans (hb2.mono HB.out.size))) | (replace HB := Lib.hid (HB.out.drew.trans (hb2.mono HB.out.size))))))
          refine hK.out _ _ ?_ (fun hH3 => ?_)
          · ((try dsimp only); (first | assumption | exact hS.out _ (Below.refl _ _) | exact hS.out _ (Below.refl _ _).drew | exact hS.out _ ((‹Below wm.heap.size wm _ ∧ _›).1.trans ((‹Below (World.heap _).size _ _›).mono (‹Below wm.heap.size wm _ ∧ _›).1.size))))
          clear hK K hH2
          try simp only [Act.put, List.setIfInBounds_toArray, List.set_cons_zero, List.set_cons_succ]
          refine wpAnyH_ready (rs := [7]) (by kernel_rfl) (by simp) ?_
          refine AllReadyH.cons (o := { dst := some 117, op := Go.Op.call { callee := Go.Callee.value (Go.Operand.func 8), args := #[Go.Operand.tmp 116], argTypes := #[36] }, type := 3, pos := "many.go:64", after := #[{ on := 6, ground := Go.Ground.data }, { on := 6, ground := Go.Ground.chain }, { on := 4, ground := Go.Ground.guard }], guard := some (4, true) }) rfl (fun K hK => ?_) AllReadyH.nil
          go_simp
          (first | (go_at_call 8; (with_reducible refine (num_says14 _ _).mono ?_); rintro e t2 ⟨rfl, rfl⟩) | (go_at_call 10; (with_reducible refine (hR.out _ (‹Below wm.heap.size wm _ ∧ _›).1).mono ?_); rintro e t2 ⟨rfl, hb2⟩; (first | (replace HB := Lib.hid (HB.out.trans (hb2.mono HB.out.size))) | (replace HB := Lib.hid (HB.out.drew.trans (hb2.mono HB.out.size))))) | (go_at_call 9; (first | (with_reducible refine (hC.out _ (‹Below wm.heap.size wm _ ∧ _›).1).mono ?_) | (with_reducible refine (hD.out _ (‹Below wm.heap.size wm _ ∧ _›).1).mono ?_) | (with_reducible refine (hE.out _ (‹Below wm.heap.size wm _ ∧ _›).1).mono ?_)); rintro e t2 ⟨rfl, hb2⟩; (first | (replace HB := Lib.hid (HB.out.trans (hb2.mono HB.out.size))) | (replace HB := Lib.hid (HB.out.drew.trans (hb2.mono HB.out.size))))))
          refine hK.out _ _ ?_ (fun hH4 => ?_)
          · ((try dsimp only); (first | assumption | exact hS.out _ (Below.refl _ _) | exact hS.out _ (Below.refl _ _).drew | exact hS.out _ ((‹Below wm.heap.size wm _ ∧ _›).1.trans ((‹Below (World.heap _).size _ _›).mono (‹Below wm.heap.size wm _ ∧ _›).1.size))))
          clear hK K hH3
          try simp only [Act.put, List.setIfInBounds_toArray, List.set_cons_zero, List.set_cons_succ]
          refine wpAnyH_take (i := 8) (oi := { dst := some 118, op := Go.Op.binOp Go.BinOp.eql 3 (Go.Operand.tmp 117) (Go.Operand.const (Go.Value.int Go.IntKind.i64 0)) 3, type := 4, pos := "many.go:64", after := #[{ on := 7, ground := Go.Ground.data }, { on := 4, ground := Go.Ground.guard }], guard := some (4, true) }) (v := ?_) rfl (by kernel_rfl) (by kernel_rfl) (by kernel_rfl) (fun _ _ _ h => h) (Or.inl ⟨by rfl, ?_⟩) (by assumption) ?_
          rotate_left
          · ((intro w hSw; (try dsimp only at hSw); go_simp) <;> (with_reducible rfl))
          try simp only [Act.put, List.setIfInBounds_toArray, List.set_cons_zero, List.set_cons_succ]
          refine wpAnyH_take (i := 12) (oi := { dst := some 122, op := Go.Op.binOp Go.BinOp.eql 4 (Go.Operand.tmp 118) (Go.Operand.tmp 121) 4, type := 4, pos := "many.go:64", after := #[{ on := 8, ground := Go.Ground.data }, { on := 11, ground := Go.Ground.data }, { on := 4, ground := Go.Ground.guard }], guard := some (4, true) }) (v := ?_) rfl (by kernel_rfl) (by kernel_rfl) (by kernel_rfl) (fun _ _ _ h => h) (Or.inl ⟨by rfl, ?_⟩) (by assumption) ?_
          rotate_left
          · ((intro w hSw; (try dsimp only at hSw); go_simp) <;> (with_reducible rfl))
          try simp only [Act.put, List.setIfInBounds_toArray, List.set_cons_zero, List.set_cons_succ]
          refine wpAnyH_take (i := 13) (oi := { dst := some 123, op := Go.Op.pick (Go.Operand.tmp 114) (Go.Operand.tmp 122) (Go.Operand.const (Go.Value.bool false)), type := 4, pos := "many.go:64", after := #[{ on := 4, ground := Go.Ground.data }, { on := 12, ground := Go.Ground.data }], guard := none }) (v := ?_) rfl (by kernel_rfl) (by kernel_rfl) (by kernel_rfl) (fun _ _ _ h => h) (Or.inl ⟨by rfl, ?_⟩) (by assumption) ?_
          rotate_left
          · ((intro w hSw; (try dsimp only at hSw); go_simp) <;> (with_reducible rfl))
          try simp only [Act.put, List.setIfInBounds_toArray, List.set_cons_zero, List.set_cons_succ]
          refine wpAnyH_take (i := 14) (oi := { dst := some 124, op := Go.Op.move (Go.Operand.tmp 123), type := 4, pos := "many.go:64", after := #[{ on := 13, ground := Go.Ground.data }, { on := 7, ground := Go.Ground.chain }], guard := none }) (v := ?_) rfl (by kernel_rfl) (by kernel_rfl) (by kernel_rfl) (fun _ _ _ h => h) (Or.inl ⟨by rfl, ?_⟩) (by assumption) ?_
          rotate_left
          · ((intro w hSw; (try dsimp only at hSw); go_simp) <;> (with_reducible rfl))
          try simp only [Act.put, List.setIfInBounds_toArray, List.set_cons_zero, List.set_cons_succ]
          refine wpAnyH_take (i := 15) (oi := { dst := some 125, op := Go.Op.load 27 (Go.Operand.tmp 11), type := 27, pos := "many.go:64", after := #[{ on := 14, ground := Go.Ground.guard }], guard := some (14, true) }) (v := ?_) rfl (by kernel_rfl) (by kernel_rfl) (by kernel_rfl) (fun _ _ _ h => h) (Or.inl ⟨by rfl, ?_⟩) (by assumption) ?_
          rotate_left
          · ((intro w hSw; (try dsimp only at hSw); go_simp) <;> (with_reducible rfl))
          try simp only [Act.put, List.setIfInBounds_toArray, List.set_cons_zero, List.set_cons_succ]
          refine wpAnyH_take (i := 19) (oi := { dst := some 129, op := Go.Op.move (Go.Operand.tmp 2), type := 3, pos := "many.go:64", after := #[{ on := 14, ground := Go.Ground.guard }], guard := some (14, true) }) (v := ?_) rfl (by kernel_rfl) (by kernel_rfl) (by kernel_rfl) (fun _ _ _ h => h) (Or.inl ⟨by rfl, ?_⟩) (by assumption) ?_
          rotate_left
          · ((intro w hSw; (try dsimp only at hSw); go_simp) <;> (with_reducible rfl))
          try simp only [Act.put, List.setIfInBounds_toArray, List.set_cons_zero, List.set_cons_succ]
          refine wpAnyH_take (i := 20) (oi := { dst := some 130, op := Go.Op.binOp Go.BinOp.eql 3 (Go.Operand.tmp 129) (Go.Operand.const (Go.Value.int Go.IntKind.i64 0)) 3, type := 4, pos := "many.go:64", after := #[{ on := 19, ground := Go.Ground.data }, { on := 14, ground := Go.Ground.guard }], guard := some (14, true) }) (v := ?_) rfl (by kernel_rfl) (by kernel_rfl) (by kernel_rfl) (fun _ _ _ h => h) (Or.inl ⟨by rfl, ?_⟩) (by assumption) ?_
          rotate_left
          · ((intro w hSw; (try dsimp only at hSw); go_simp) <;> (with_reducible rfl))
          try simp only [Act.put, List.setIfInBounds_toArray, List.set_cons_zero, List.set_cons_succ]
          refine wpAnyH_ready (rs := [16]) (by kernel_rfl) (by simp) ?_
          refine AllReadyH.cons (o := { dst := some 126, op := Go.Op.call { callee := Go.Callee.value (Go.Operand.func 9), args := #[Go.Operand.tmp 125], argTypes := #[27] }, type := 36, pos := "many.go:64", after := #[{ on := 15, ground := Go.Ground.data }, { on := 14, ground := Go.Ground.chain }, { on := 14, ground := Go.Ground.guard }], guard := some (14, true) }) rfl (fun K hK => ?_) AllReadyH.nil
          go_simp
          (first | (go_at_call 8; (with_reducible refine (num_says14 _ _).mono ?_); rintro e t2 ⟨rfl, rfl⟩) | (go_at_call 10; (with_reducible refine (hR.out _ (‹Below wm.heap.size wm _ ∧ _›).1).mono ?_); rintro e t2 ⟨rfl, hb2⟩; (first | (replace HB := Lib.hid (HB.out.trans (hb2.mono HB.out.size))) | (replace HB := Lib.hid (HB.out.drew.trans (hb2.mono HB.out.size))))) | (go_at_call 9; (first | (with_reducible refine (hC.out _ (‹Below wm.heap.size wm _ ∧ _›).1).mono ?_) | (with_reducible refine (hD.out _ (‹Below wm.heap.size wm _ ∧ _›).1).mono ?_) | (with_reducible refine (hE.out _ (‹Below wm.heap.size wm _ ∧ _›).1).mono ?_)); rintro e t2 ⟨rfl, hb2⟩; (first | (replace HB := Lib.hid (HB.out.trans (hb2.mono HB.out.size))) | (replace HB := Lib.hid (HB.out.drew.trans (hb2.mono HB.out.size))))))
          refine hK.out _ _ ?_ (fun hH5 => ?_)
          · ((try dsimp only); (first | assumption | exact hS.out _ (Below.refl _ _) | exact hS.out _ (Below.refl _ _).drew | exact hS.out _ ((‹Below wm.heap.size wm _ ∧ _›).1.trans ((‹Below (World.heap _).size _ _›).mono (‹Below wm.heap.size wm _ ∧ _›).1.size))))
          clear hK K hH4
          try simp only [Act.put, List.setIfInBounds_toArray, List.set_cons_zero, List.set_cons_succ]
          refine wpAnyH_ready (rs := [17]) (by kernel_rfl) (by simp) ?_
          refine AllReadyH.cons (o := { dst := some 127, op := Go.Op.call { callee := Go.Callee.value (Go.Operand.func 8), args := #[Go.Operand.tmp 126], argTypes := #[36] }, type := 3, pos := "many.go:64", after := #[{ on := 16, ground := Go.Ground.data }, { on := 16, ground := Go.Ground.chain }, { on := 14, ground := Go.Ground.guard }], guard := some (14, true) }) rfl (fun K hK => ?_) AllReadyH.nil
          go_simp
          (first | (go_at_call 8; (with_reducible refine (num_says14 _ _).mono ?_); rintro e t2 ⟨rfl, rfl⟩) | (go_at_call 10; (with_reducible refine (hR.out _ (‹Below wm.heap.size wm _ ∧ _›).1).mono ?_); rintro e t2 ⟨rfl, hb2⟩; (first | (replace HB := Lib.hid (HB.out.trans (hb2.mono HB.out.size))) | (replace HB := Lib.hid (HB.out.drew.trans (hb2.mono HB.out.size))))) | (go_at_call 9; (first | (with_reducible refine (hC.out _ (‹Below wm.heap.size wm _ ∧ _›).1).mono ?_) | (with_reducible refine (hD.out _ (‹Below wm.heap.size wm _ ∧ _›).1).mono ?_) | (with_reducible refine (hE.out _ (‹Below wm.heap.size wm _ ∧ _›).1).mono ?_)); rintro e t2 ⟨rfl, hb2⟩; (first | (replace HB := Lib.hid (HB.out.trans (hb2.mono HB.out.size))) | (replace HB := Lib.hid (HB.out.drew.trans (hb2.mono HB.out.size))))))
          refine hK.out _ _ ?_ (fun hH6 => ?_)
          · ((try dsimp only); (first | assumption | exact hS.out _ (Below.refl _ _) | exact hS.out _ (Below.refl _ _).drew | exact hS.out _ ((‹Below wm.heap.size wm _ ∧ _›).1.trans ((‹Below (World.heap _).size _ _›).mono (‹Below wm.heap.size wm _ ∧ _›).1.size))))
          clear hK K hH5
          try simp only [Act.put, List.setIfInBounds_toArray, List.set_cons_zero, List.set_cons_succ]
          refine wpAnyH_take (i := 18) (oi := { dst := some 128, op := Go.Op.binOp Go.BinOp.eql 3 (Go.Operand.tmp 127) (Go.Operand.const (Go.Value.int Go.IntKind.i64 0)) 3, type := 4, pos := "many.go:64", after := #[{ on := 17, ground := Go.Ground.data }, { on := 14, ground := Go.Ground.guard }], guard := some (14, true) }) (v := ?_) rfl (by kernel_rfl) (by kernel_rfl) (by kernel_rfl) (fun _ _ _ h => h) (Or.inl ⟨by rfl, ?_⟩) (by assumption) ?_
          rotate_left
          · ((intro w hSw; (try dsimp only at hSw); go_simp) <;> (with_reducible rfl))
          try simp only [Act.put, List.setIfInBounds_toArray, List.set_cons_zero, List.set_cons_succ]
          refine wpAnyH_take (i := 21) (oi := { dst := some 131, op := Go.Op.binOp Go.BinOp.eql 4 (Go.Operand.tmp 128) (Go.Operand.tmp 130) 4, type := 4, pos := "many.go:64", after := #[{ on := 18, ground := Go.Ground.data }, { on := 20, ground := Go.Ground.data }, { on := 14, ground := Go.Ground.guard }], guard := some (14, true) }) (v := ?_) rfl (by kernel_rfl) (by kernel_rfl) (by kernel_rfl) (fun _ _ _ h => h) (Or.inl ⟨by rfl, ?_⟩) (by assumption) ?_
          rotate_left
          · ((intro w hSw; (try dsimp only at hSw); go_simp) <;> (with_reducible rfl))
          try simp only [Act.put, List.setIfInBounds_toArray, List.set_cons_zero, List.set_cons_succ]
          refine wpAnyH_take (i := 22) (oi := { dst := some 132, op := Go.Op.pick (Go.Operand.tmp 124) (Go.Operand.tmp 131) (Go.Operand.const (Go.Value.bool false)), type := 4, pos := "many.go:64", after := #[{ on := 14, ground := Go.Ground.data }, { on := 21, ground := Go.Ground.data }], guard := none }) (v := ?_) rfl (by kernel_rfl) (by kernel_rfl) (by kernel_rfl) (fun _ _ _ h => h) (Or.inl ⟨by rfl, ?_⟩) (by assumption) ?_
          rotate_left
          · ((intro w hSw; (try dsimp only at hSw); go_simp) <;> (with_reducible rfl))
          try simp only [Act.put, List.setIfInBounds_toArray, List.set_cons_zero, List.set_cons_succ]
          refine wpAnyH_take (i := 23) (oi := { dst := some 133, op := Go.Op.move (Go.Operand.tmp 132), type := 4, pos := "many.go:64", after := #[{ on := 22, ground := Go.Ground.data }, { on := 17, ground := Go.Ground.chain }], guard := none }) (v := ?_) rfl (by kernel_rfl) (by kernel_rfl) (by kernel_rfl) (fun _ _ _ h => h) (Or.inl ⟨by rfl, ?_⟩) (by assumption) ?_
          rotate_left
          · ((intro w hSw; (try dsimp only at hSw); go_simp) <;> (with_reducible rfl))
          try simp only [Act.put, List.setIfInBounds_toArray, List.set_cons_zero, List.set_cons_succ]
          refine wpAnyH_take (i := 24) (oi := { dst := some 134, op := Go.Op.load 27 (Go.Operand.tmp 11), type := 27, pos := "many.go:64", after := #[{ on := 23, ground := Go.Ground.guard }], guard := some (23, true) }) (v := ?_) rfl (by kernel_rfl) (by kernel_rfl) (by kernel_rfl) (fun _ _ _ h => h) (Or.inl ⟨by rfl, ?_⟩) (by assumption) ?_
          rotate_left
          · ((intro w hSw; (try dsimp only at hSw); go_simp) <;> (with_reducible rfl))
          try simp only [Act.put, List.setIfInBounds_toArray, List.set_cons_zero, List.set_cons_succ]
          refine wpAnyH_take (i := 27) (oi := { dst := some 137, op := Go.Op.load 27 (Go.Operand.tmp 11), type := 27, pos := "many.go:64", after := #[{ on := 23, ground := Go.Ground.guard }], guard := some (23, true) }) (v := ?_) rfl (by kernel_rfl) (by kernel_rfl) (by kernel_rfl) (fun _ _ _ h => h) (Or.inl ⟨by rfl, ?_⟩) (by assumption) ?_
          rotate_left
          · ((intro w hSw; (try dsimp only at hSw); go_simp) <;> (with_reducible rfl))
          try simp only [Act.put, List.setIfInBounds_toArray, List.set_cons_zero, List.set_cons_succ]
          refine wpAnyH_ready (rs := [25]) (by kernel_rfl) (by simp) ?_
          refine AllReadyH.cons (o := { dst := some 135, op := Go.Op.call { callee := Go.Callee.value (Go.Operand.func 9), args := #[Go.Operand.tmp 134], argTypes := #[27] }, type := 36, pos := "many.go:64", after := #[{ on := 24, ground := Go.Ground.data }, { on := 23, ground := Go.Ground.chain }, { on := 23, ground := Go.Ground.guard }], guard := some (23, true) }) rfl (fun K hK => ?_) AllReadyH.nil
          go_simp
          (first | (go_at_call 8; (with_reducible refine (num_says14 _ _).mono ?_); rintro e t2 ⟨rfl, rfl⟩) | (go_at_call 10; (with_reducible refine (hR.out _ (‹Below wm.heap.size wm _ ∧ _›).1).mono ?_); rintro e t2 ⟨rfl, hb2⟩; (first | (replace HB := Lib.hid (HB.out.trans (hb2.mono HB.out.size))) | (replace HB := Lib.hid (HB.out.drew.trans (hb2.mono HB.out.size))))) | (go_at_call 9; (first | (with_reducible refine (hC.out _ (‹Below wm.heap.size wm _ ∧ _›).1).mono ?_) | (with_reducible refine (hD.out _ (‹Below wm.heap.size wm _ ∧ _›).1).mono ?_) | (with_reducible refine (hE.out _ (‹Below wm.heap.size wm _ ∧ _›).1).mono ?_)); rintro e t2 ⟨rfl, hb2⟩; (first | (replace HB := Lib.hid (HB.out.trans (hb2.mono HB.out.size))) | (replace HB := Lib.hid (HB.out.drew.trans (hb2.mono HB.out.size))))))
          refine hK.out _ _ ?_ (fun hH7 => ?_)
          · ((try dsimp only); (first | assumption | exact hS.out _ (Below.refl _ _) | exact hS.out _ (Below.refl _ _).drew | exact hS.out _ ((‹Below wm.heap.size wm _ ∧ _›).1.trans ((‹Below (World.heap _).size _ _›).mono (‹Below wm.heap.size wm _ ∧ _›).1.size))))
          clear hK K hH6
          try simp only [Act.put, List.setIfInBounds_toArray, List.set_cons_zero, List.set_cons_succ]
          refine wpAnyH_ready (rs := [26]) (by kernel_rfl) (by simp) ?_
          refine AllReadyH.cons (o := { dst := some 136, op := Go.Op.call { callee := Go.Callee.value (Go.Operand.func 8), args := #[Go.Operand.tmp 135], argTypes := #[36] }, type := 3, pos := "many.go:64", after := #[{ on := 25, ground := Go.Ground.data }, { on := 25, ground := Go.Ground.chain }, { on := 23, ground := Go.Ground.guard }], guard := some (23, true) }) rfl (fun K hK => ?_) AllReadyH.nil
          go_simp
          (first | (go_at_call 8; (with_reducible refine (num_says14 _ _).mono ?_); rintro e t2 ⟨rfl, rfl⟩) | (go_at_call 10; (with_reducible refine (hR.out _ (‹Below wm.heap.size wm _ ∧ _›).1).mono ?_); rintro e t2 ⟨rfl, hb2⟩; (first | (replace HB := Lib.hid (HB.out.trans (hb2.mono HB.out.size))) | (replace HB := Lib.hid (HB.out.drew.trans (hb2.mono HB.out.size))))) | (go_at_call 9; (first | (with_reducible refine (hC.out _ (‹Below wm.heap.size wm _ ∧ _›).1).mono ?_) | (with_reducible refine (hD.out _ (‹Below wm.heap.size wm _ ∧ _›).1).mono ?_) | (with_reducible refine (hE.out _ (‹Below wm.heap.size wm _ ∧ _›).1).mono ?_)); rintro e t2 ⟨rfl, hb2⟩; (first | (replace HB := Lib.hid (HB.out.trans (hb2.mono HB.out.size))) | (replace HB := Lib.hid (HB.out.drew.trans (hb2.mono HB.out.size))))))
          refine hK.out _ _ ?_ (fun hH8 => ?_)
          · ((try dsimp only); (first | assumption | exact hS.out _ (Below.refl _ _) | exact hS.out _ (Below.refl _ _).drew | exact hS.out _ ((‹Below wm.heap.size wm _ ∧ _›).1.trans ((‹Below (World.heap _).size _ _›).mono (‹Below wm.heap.size wm _ ∧ _›).1.size))))
          clear hK K hH7
          try simp only [Act.put, List.setIfInBounds_toArray, List.set_cons_zero, List.set_cons_succ]
          refine wpAnyH_ready (rs := [28]) (by kernel_rfl) (by simp) ?_
          refine AllReadyH.cons (o := { dst := some 138, op := Go.Op.call { callee := Go.Callee.value (Go.Operand.func 10), args := #[Go.Operand.tmp 137], argTypes := #[27] }, type := 3, pos := "many.go:64", after := #[{ on := 27, ground := Go.Ground.data }, { on := 26, ground := Go.Ground.chain }, { on := 23, ground := Go.Ground.guard }], guard := some (23, true) }) rfl (fun K hK => ?_) AllReadyH.nil
          go_simp
          (first | (go_at_call 8; (with_reducible refine (num_says14 _ _).mono ?_); rintro e t2 ⟨rfl, rfl⟩) | (go_at_call 10; (with_reducible refine (hR.out _ (‹Below wm.heap.size wm _ ∧ _›).1).mono ?_); rintro e t2 ⟨rfl, hb2⟩; (first | (replace HB := Lib.hid (HB.out.trans (hb2.mono HB.out.size))) | (replace HB := Lib.hid (HB.out.drew.trans (hb2.mono HB.out.size))))) | (go_at_call 9; (first | (with_reducible refine (hC.out _ (‹Below wm.heap.size wm _ ∧ _›).1).mono ?_) | (with_reducible refine (hD.out _ (‹Below wm.heap.size wm _ ∧ _›).1).mono ?_) | (with_reducible refine (hE.out _ (‹Below wm.heap.size wm _ ∧ _›).1).mono ?_)); rintro e t2 ⟨rfl, hb2⟩; (first | (replace HB := Lib.hid (HB.out.trans (hb2.mono HB.out.size))) | (replace HB := Lib.hid (HB.out.drew.trans (hb2.mono HB.out.size))))))
          refine hK.out _ _ ?_ (fun hH9 => ?_)
          · ((try dsimp only); (first | assumption | exact hS.out _ (Below.refl _ _) | exact hS.out _ (Below.refl _ _).drew | exact hS.out _ ((‹Below wm.heap.size wm _ ∧ _›).1.trans ((‹Below (World.heap _).size _ _›).mono (‹Below wm.heap.size wm _ ∧ _›).1.size))))
          clear hK K hH8
          try simp only [Act.put, List.setIfInBounds_toArray, List.set_cons_zero, List.set_cons_succ]
          refine wpAnyH_take (i := 29) (oi := { dst := some 139, op := Go.Op.binOp Go.BinOp.eql 3 (Go.Operand.tmp 136) (Go.Operand.tmp 138) 3, type := 4, pos := "many.go:64", after := #[{ on := 26, ground := Go.Ground.data }, { on := 28, ground := Go.Ground.data }, { on := 23, ground := Go.Ground.guard }], guard := some (23, true) }) (v := ?_) rfl (by kernel_rfl) (by kernel_rfl) (by kernel_rfl) (fun _ _ _ h => h) (Or.inl ⟨by rfl, ?_⟩) (by assumption) ?_
          rotate_left
          · ((intro w hSw; (try dsimp only at hSw); go_simp) <;> (with_reducible rfl))
          try simp only [Act.put, List.setIfInBounds_toArray, List.set_cons_zero, List.set_cons_succ]
          refine wpAnyH_take (i := 30) (oi := { dst := some 140, op := Go.Op.pick (Go.Operand.tmp 133) (Go.Operand.tmp 139) (Go.Operand.const (Go.Value.bool false)), type := 4, pos := "many.go:64", after := #[{ on := 23, ground := Go.Ground.data }, { on := 29, ground := Go.Ground.data }], guard := none }) (v := ?_) rfl (by kernel_rfl) (by kernel_rfl) (by kernel_rfl) (fun _ _ _ h => h) (Or.inl ⟨by rfl, ?_⟩) (by assumption) ?_
          rotate_left
          · ((intro w hSw; (try dsimp only at hSw); go_simp) <;> (with_reducible rfl))
          try simp only [Act.put, List.setIfInBounds_toArray, List.set_cons_zero, List.set_cons_succ]
          refine wpAnyH_take (i := 31) (oi := { dst := some 6, op := Go.Op.assign (Go.Operand.tmp 140), type := 4, pos := "many.go:64", after := #[{ on := 30, ground := Go.Ground.data }, { on := 28, ground := Go.Ground.chain }, { on := 0, ground := Go.Ground.phase }, { on := 1, ground := Go.Ground.phase }, { on := 2, ground := Go.Ground.phase }, { on := 3, ground := Go.Ground.phase }, { on := 4, ground := Go.Ground.phase }, { on := 5, ground := Go.Ground.phase }, { on := 6, ground := Go.Ground.phase }, { on := 7, ground := Go.Ground.phase }, { on := 8, ground := Go.Ground.phase }, { on := 9, ground := Go.Ground.phase }, { on := 10, ground := Go.Ground.phase }, { on := 11, ground := Go.Ground.phase }, { on := 12, ground := Go.Ground.phase }, { on := 13, ground := Go.Ground.phase }, { on := 14, ground := Go.Ground.phase }, { on := 15, ground := Go.Ground.phase }, { on := 16, ground := Go.Ground.phase }, { on := 17, ground := Go.Ground.phase }, { on := 18, ground := Go.Ground.phase }, { on := 19, ground := Go.Ground.phase }, { on := 20, ground := Go.Ground.phase }, { on := 21, ground := Go.Ground.phase }, { on := 22, ground := Go.Ground.phase }, { on := 23, ground := Go.Ground.phase }, { on := 24, ground := Go.Ground.phase }, { on := 25, ground := Go.Ground.phase }, { on := 26, ground := Go.Ground.phase }, { on := 27, ground := Go.Ground.phase }, { on := 28, ground := Go.Ground.phase }, { on := 29, ground := Go.Ground.phase }, { on := 30, ground := Go.Ground.phase }], guard := none }) (v := ?_) rfl (by kernel_rfl) (by kernel_rfl) (by kernel_rfl) (fun _ _ _ h => h) (Or.inl ⟨by rfl, ?_⟩) (by assumption) ?_
          rotate_left
          · ((intro w hSw; (try dsimp only at hSw); go_simp) <;> (with_reducible rfl))
          try simp only [Act.put, List.setIfInBounds_toArray, List.set_cons_zero, List.set_cons_succ]
          refine wpAnyH_done (by kernel_rfl) ?_ _
          all_goals
            go_wp2
            exact HO.out _ (BW.out.trans ((‹Below wm.heap.size wm _ ∧ _›).1.mono BW.out.size))
        · rw [if_neg hp0] at hec
          subst hec
          have x2 : ((P : Int) == 0) = false := by simp; omega
          clear hp0
          go_wp2
          refine wp_region_held_drew (S := (fun u => Below wm.heap.size wm u ∧ u.cell? ⟨hb, 0, none⟩ = some (.int .i64 40) ∧ u.cell? ⟨hb, 1, none⟩ = some (.int .i64 100) ∧ u.cell? ⟨hb, 2, none⟩ = some (.int .i64 0) ∧ u.cell? ⟨hb, 3, none⟩ = some (.slice (some ⟨b, off, none⟩) 6 c1) ∧ u.cell? ⟨hb, 4, none⟩ = some (.slice none 0 0) ∧ u.cell? ⟨hb, 5, none⟩ = some (.slice p3 6 c3) ∧ u.cell? ⟨hd, 0, none⟩ = some (.int .i64 40) ∧ u.cell? ⟨hd, 1, none⟩ = some (.int .i64 100) ∧ u.cell? ⟨hd, 2, none⟩ = some (.int .i64 0) ∧ u.cell? ⟨hd, 3, none⟩ = some (.slice (some ⟨g1, 0, none⟩) 6 q1) ∧ u.cell? ⟨hd, 4, none⟩ = some (.slice none 0 0) ∧ u.cell? ⟨hd, 5, none⟩ = some (.slice p3 6 c3) ∧ u.cell? ⟨he, 0, none⟩ = some (.int .i64 40) ∧ u.cell? ⟨he, 1, none⟩ = some (.int .i64 100) ∧ u.cell? ⟨he, 2, none⟩ = some (.int .i64 0) ∧ u.cell? ⟨he, 3, none⟩ = some (.slice (some ⟨b, off, none⟩) 6 c1) ∧ u.cell? ⟨he, 4, none⟩ = some (.slice none 0 0) ∧ u.cell? ⟨he, 5, none⟩ = some (.slice (some ⟨g3, 0, none⟩) 6 q3))) (by kernel_rfl) ?_ (fun hH0 => ?_)
          · ((try dsimp only); (first | assumption | exact hS.out _ (Below.refl _ _) | exact hS.out _ (Below.refl _ _).drew | exact hS.out _ ((‹Below wm.heap.size wm _ ∧ _›).1.trans ((‹Below (World.heap _).size _ _›).mono (‹Below wm.heap.size wm _ ∧ _›).1.size))))
          refine wpAnyH_take (i := 0) (oi := { dst := some 110, op := Go.Op.load 27 (Go.Operand.tmp 8), type := 27, pos := "many.go:64", after := #[], guard := none }) (v := ?_) rfl (by kernel_rfl) (by kernel_rfl) (by kernel_rfl) (fun _ _ _ h => h) (Or.inl ⟨by rfl, ?_⟩) (by assumption) ?_
          rotate_left
          · ((intro w hSw; (try dsimp only at hSw); go_simp) <;> (with_reducible rfl))
          try simp only [Act.put, List.setIfInBounds_toArray, List.set_cons_zero, List.set_cons_succ]
          refine wpAnyH_ready (rs := [1]) (by kernel_rfl) (by simp) ?_
          refine AllReadyH.cons (o := { dst := some 111, op := Go.Op.call { callee := Go.Callee.value (Go.Operand.func 9), args := #[Go.Operand.tmp 110], argTypes := #[27] }, type := 36, pos := "many.go:64", after := #[{ on := 0, ground := Go.Ground.data }], guard := none }) rfl (fun K hK => ?_) AllReadyH.nil
          go_simp
          (first | (go_at_call 8; (with_reducible refine (num_says14 _ _).mono ?_); rintro e t2 ⟨rfl, rfl⟩) | (go_at_call 10; (with_reducible refine (hR.out _ (‹Below wm.heap.size wm _ ∧ _›).1).mono ?_); rintro e t2 ⟨rfl, hb2⟩; (first | (replace HB := Lib.hid (HB.out.trans (hb2.mono HB.out.size))) | (replace HB := Lib.hid (HB.out.drew.trans (hb2.mono HB.out.size))))) | (go_at_call 9; (first | (with_reducible refine (hC.out _ (‹Below wm.heap.size wm _ ∧ _›).1).mono ?_) | (with_reducible refine (hD.out _ (‹Below wm.heap.size wm _ ∧ _›).1).mono ?_) | (with_reducible refine (hE.out _ (‹Below wm.heap.size wm _ ∧ _›).1).mono ?_)); rintro e t2 ⟨rfl, hb2⟩; (first | (replace HB := Lib.hid (HB.out.trans (hb2.mono HB.out.size))) | (replace HB := Lib.hid (HB.out.drew.trans (hb2.mono HB.out.size))))))
          refine hK.out _ _ ?_ (fun hH1 => ?_)
          · ((try dsimp only); (first | assumption | exact hS.out _ (Below.refl _ _) | exact hS.out _ (Below.refl _ _).drew | exact hS.out _ ((‹Below wm.heap.size wm _ ∧ _›).1.trans ((‹Below (World.heap _).size _ _›).mono (‹Below wm.heap.size wm _ ∧ _›).1.size))))
          clear hK K hH0
          try simp only [Act.put, List.setIfInBounds_toArray, List.set_cons_zero, List.set_cons_succ]
          refine wpAnyH_ready (rs := [2]) (by kernel_rfl) (by simp) ?_
          refine AllReadyH.cons (o := { dst := some 112, op := Go.Op.call { callee := Go.Callee.value (Go.Operand.func 8), args := #[Go.Operand.tmp 111], argTypes := #[36] }, type := 3, pos := "many.go:64", after := #[{ on := 1, ground := Go.Ground.data }, { on := 1, ground := Go.Ground.chain }], guard := none }) rfl (fun K hK => ?_) AllReadyH.nil
          go_simp
          (first | (go_at_call 8; (with_reducible refine (num_says14 _ _).mono ?_); rintro e t2 ⟨rfl, rfl⟩) | (go_at_call 10; (with_reducible refine (hR.out _ (‹Below wm.heap.size wm _ ∧ _›).1).mono ?_); rintro e t2 ⟨rfl, hb2⟩; (first | (replace HB := Lib.hid (HB.out.trans (hb2.mono HB.out.size))) | (replace HB := Lib.hid (HB.out.drew.trans (hb2.mono HB.out.size))))) | (go_at_call 9; (first | (with_reducible refine (hC.out _ (‹Below wm.heap.size wm _ ∧ _›).1).mono ?_) | (with_reducible refine (hD.out _ (‹Below wm.heap.size wm _ ∧ _›).1).mono ?_) | (with_reducible refine (hE.out _ (‹Below wm.heap.size wm _ ∧ _›).1).mono ?_)); rintro e t2 ⟨rfl, hb2⟩; (first | (replace HB := Lib.hid (HB.out.trans (hb2.mono HB.out.size))) | (replace HB := Lib.hid (HB.out.drew.trans (hb2.mono HB.out.size))))))
          refine hK.out _ _ ?_ (fun hH2 => ?_)
          · ((try dsimp only); (first | assumption | exact hS.out _ (Below.refl _ _) | exact hS.out _ (Below.refl _ _).drew | exact hS.out _ ((‹Below wm.heap.size wm _ ∧ _›).1.trans ((‹Below (World.heap _).size _ _›).mono (‹Below wm.heap.size wm _ ∧ _›).1.size))))
          clear hK K hH1
          try simp only [Act.put, List.setIfInBounds_toArray, List.set_cons_zero, List.set_cons_succ]
          refine wpAnyH_take (i := 3) (oi := { dst := some 113, op := Go.Op.binOp Go.BinOp.eql 3 (Go.Operand.tmp 112) (Go.Operand.const (Go.Value.int Go.IntKind.i64 0)) 3, type := 4, pos := "many.go:64", after := #[{ on := 2, ground := Go.Ground.data }], guard := none }) (v := ?_) rfl (by kernel_rfl) (by kernel_rfl) (by kernel_rfl) (fun _ _ _ h => h) (Or.inl ⟨by rfl, ?_⟩) (by assumption) ?_
          rotate_left
          · ((intro w hSw; (try dsimp only at hSw); go_simp) <;> (with_reducible rfl))
          try simp only [Act.put, List.setIfInBounds_toArray, List.set_cons_zero, List.set_cons_succ]
          refine wpAnyH_take (i := 4) (oi := { dst := some 114, op := Go.Op.move (Go.Operand.tmp 113), type := 4, pos := "many.go:64", after := #[{ on := 3, ground := Go.Ground.data }, { on := 2, ground := Go.Ground.chain }], guard := none }) (v := ?_) rfl (by kernel_rfl) (by kernel_rfl) (by kernel_rfl) (fun _ _ _ h => h) (Or.inl ⟨by rfl, ?_⟩) (by assumption) ?_
          rotate_left
          · ((intro w hSw; (try dsimp only at hSw); go_simp) <;> (with_reducible rfl))
          try simp only [Act.put, List.setIfInBounds_toArray, List.set_cons_zero, List.set_cons_succ]
          refine wpAnyH_take (i := 5) (oi := { dst := some 115, op := Go.Op.load 27 (Go.Operand.tmp 10), type := 27, pos := "many.go:64", after := #[{ on := 4, ground := Go.Ground.guard }], guard := some (4, true) }) (v := ?_) rfl (by kernel_rfl) (by kernel_rfl) (by kernel_rfl) (fun _ _ _ h => h) (Or.inl ⟨by rfl, ?_⟩) (by assumption) ?_
          rotate_left
          · ((intro w hSw; (try dsimp only at hSw); go_simp) <;> (with_reducible rfl))
          try simp only [Act.put, List.setIfInBounds_toArray, List.set_cons_zero, List.set_cons_succ]
          refine wpAnyH_take (i := 9) (oi := { dst := some 119, op := Go.Op.move (Go.Operand.tmp 0), type := 3, pos := "many.go:64", after := #[{ on := 4, ground := Go.Ground.guard }], guard := some (4, true) }) (v := ?_) rfl (by kernel_rfl) (by kernel_rfl) (by kernel_rfl) (fun _ _ _ h => h) (Or.inl ⟨by rfl, ?_⟩) (by assumption) ?_
          rotate_left
          · ((intro w hSw; (try dsimp only at hSw); go_simp) <;> (with_reducible rfl))
          try simp only [Act.put, List.setIfInBounds_toArray, List.set_cons_zero, List.set_cons_succ]
          refine wpAnyH_take (i := 10) (oi := { dst := some 120, op := Go.Op.move (Go.Operand.tmp 1), type := 3, pos := "many.go:64", after := #[{ on := 4, ground := Go.Ground.guard }], guard := some (4, true) }) (v := ?_) rfl (by kernel_rfl) (by kernel_rfl) (by kernel_rfl) (fun _ _ _ h => h) (Or.inl ⟨by rfl, ?_⟩) (by assumption) ?_
          rotate_left
          · ((intro w hSw; (try dsimp only at hSw); go_simp) <;> (with_reducible rfl))
          try simp only [Act.put, List.setIfInBounds_toArray, List.set_cons_zero, List.set_cons_succ]
          refine wpAnyH_take (i := 11) (oi := { dst := some 121, op := Go.Op.binOp Go.BinOp.eql 3 (Go.Operand.tmp 119) (Go.Operand.tmp 120) 3, type := 4, pos := "many.go:64", after := #[{ on := 9, ground := Go.Ground.data }, { on := 10, ground := Go.Ground.data }, { on := 4, ground := Go.Ground.guard }], guard := some (4, true) }) (v := ?_) rfl (by kernel_rfl) (by kernel_rfl) (by kernel_rfl) (fun _ _ _ h => h) (Or.inl ⟨by rfl, ?_⟩) (by assumption) ?_
          rotate_left
          · ((intro w hSw; (try dsimp only at hSw); go_simp) <;> (with_reducible rfl))
          try simp only [Act.put, List.setIfInBounds_toArray, List.set_cons_zero, List.set_cons_succ]
          refine wpAnyH_ready (rs := [6]) (by kernel_rfl) (by simp) ?_
          refine AllReadyH.cons (o := { dst := some 116, op := Go.Op.call { callee := Go.Callee.value (Go.Operand.func 9), args := #[Go.Operand.tmp 115], argTypes := #[27] }, type := 36, pos := "many.go:64", after := #[{ on := 5, ground := Go.Ground.data }, { on := 4, ground := Go.Ground.chain }, { on := 4, ground := Go.Ground.guard }], guard := some (4, true) }) rfl (fun K hK => ?_) AllReadyH.nil
          go_simp
          (first | (go_at_call 8; (with_reducible refine (num_says14 _ _).mono ?_); rintro e t2 ⟨rfl, rfl⟩) | (go_at_call 10; (with_reducible refine (hR.out _ (‹Below wm.heap.size wm _ ∧ _›).1).mono ?_); rintro e t2 ⟨rfl, hb2⟩; (first | (replace HB := Lib.hid (HB.out.trans (hb2.mono HB.out.size))) | (replace HB := Lib.hid (HB.out.drew.trans (hb2.mono HB.out.size))))) | (go_at_call 9; (first | (with_reducible refine (hC.out _ (‹Below wm.heap.size wm _ ∧ _›).1).mono ?_) | (with_reducible refine (hD.out _ (‹Below wm.heap.size wm _ ∧ _›).1).mono ?_) | (with_reducible refine (hE.out _ (‹Below wm.heap.size wm _ ∧ _›).1).mono ?_)); rintro e t2 ⟨rfl, hb2⟩; (first | (replace HB := Lib.hid (HB.out.trans (hb2.mono HB.out.size))) | (replace HB := Lib.hid (HB.out.drew.trans (hb2.mono HB.out.size))))))
          refine hK.out _ _ ?_ (fun hH3 => ?_)
          · ((try dsimp only); (first | assumption | exact hS.out _ (Below.refl _ _) | exact hS.out _ (Below.refl _ _).drew | exact hS.out _ ((‹Below wm.heap.size wm _ ∧ _›).1.trans ((‹Below (World.heap _).size _ _›).mono (‹Below wm.heap.size wm _ ∧ _›).1.size))))
          clear hK K hH2
          try simp only [Act.put, List.setIfInBounds_toArray, List.set_cons_zero, List.set_cons_succ]
          refine wpAnyH_ready (rs := [7]) (by kernel_rfl) (by simp) ?_
          refine AllReadyH.cons (o := { dst := some 117, op := Go.Op.call { callee := Go.Callee.value (Go.Operand.func 8), args := #[Go.Operand.tmp 116], argTypes := #[36] }, type := 3, pos := "many.go:64", after := #[{ on := 6, ground := Go.Ground.data }, { on := 6, ground := Go.Ground.chain }, { on := 4, ground := Go.Ground.guard }], guard := some (4, true) }) rfl (fun K hK => ?_) AllReadyH.nil
          go_simp
          (first | (go_at_call 8; (with_reducible refine (num_says14 _ _).mono ?_); rintro e t2 ⟨rfl, rfl⟩) | (go_at_call 10; (with_reducible refine (hR.out _ (‹Below wm.heap.size wm _ ∧ _›).1).mono ?_); rintro e t2 ⟨rfl, hb2⟩; (first | (replace HB := Lib.hid (HB.out.trans (hb2.mono HB.out.size))) | (replace HB := Lib.hid (HB.out.drew.trans (hb2.mono HB.out.size))))) | (go_at_call 9; (first | (with_reducible refine (hC.out _ (‹Below wm.heap.size wm _ ∧ _›).1).mono ?_) | (with_reducible refine (hD.out _ (‹Below wm.heap.size wm _ ∧ _›).1).mono ?_) | (with_reducible refine (hE.out _ (‹Below wm.heap.size wm _ ∧ _›).1).mono ?_)); rintro e t2 ⟨rfl, hb2⟩; (first | (replace HB := Lib.hid (HB.out.trans (hb2.mono HB.out.size))) | (replace HB := Lib.hid (HB.out.drew.trans (hb2.mono HB.out.size))))))
          refine hK.out _ _ ?_ (fun hH4 => ?_)
          · ((try dsimp only); (first | assumption | exact hS.out _ (Below.refl _ _) | exact hS.out _ (Below.refl _ _).drew | exact hS.out _ ((‹Below wm.heap.size wm _ ∧ _›).1.trans ((‹Below (World.heap _).size _ _›).mono (‹Below wm.heap.size wm _ ∧ _›).1.size))))
          clear hK K hH3
          try simp only [Act.put, List.setIfInBounds_toArray, List.set_cons_zero, List.set_cons_succ]
          refine wpAnyH_take (i := 8) (oi := { dst := some 118, op := Go.Op.binOp Go.BinOp.eql 3 (Go.Operand.tmp 117) (Go.Operand.const (Go.Value.int Go.IntKind.i64 0)) 3, type := 4, pos := "many.go:64", after := #[{ on := 7, ground := Go.Ground.data }, { on := 4, ground := Go.Ground.guard }], guard := some (4, true) }) (v := ?_) rfl (by kernel_rfl) (by kernel_rfl) (by kernel_rfl) (fun _ _ _ h => h) (Or.inl ⟨by rfl, ?_⟩) (by assumption) ?_
          rotate_left
          · ((intro w hSw; (try dsimp only at hSw); go_simp) <;> (with_reducible rfl))
          try simp only [Act.put, List.setIfInBounds_toArray, List.set_cons_zero, List.set_cons_succ]
          refine wpAnyH_take (i := 12) (oi := { dst := some 122, op := Go.Op.binOp Go.BinOp.eql 4 (Go.Operand.tmp 118) (Go.Operand.tmp 121) 4, type := 4, pos := "many.go:64", after := #[{ on := 8, ground := Go.Ground.data }, { on := 11, ground := Go.Ground.data }, { on := 4, ground := Go.Ground.guard }], guard := some (4, true) }) (v := ?_) rfl (by kernel_rfl) (by kernel_rfl) (by kernel_rfl) (fun _ _ _ h => h) (Or.inl ⟨by rfl, ?_⟩) (by assumption) ?_
          rotate_left
          · ((intro w hSw; (try dsimp only at hSw); go_simp) <;> (with_reducible rfl))
          try simp only [Act.put, List.setIfInBounds_toArray, List.set_cons_zero, List.set_cons_succ]
          refine wpAnyH_take (i := 13) (oi := { dst := some 123, op := Go.Op.pick (Go.Operand.tmp 114) (Go.Operand.tmp 122) (Go.Operand.const (Go.Value.bool false)), type := 4, pos := "many.go:64", after := #[{ on := 4, ground := Go.Ground.data }, { on := 12, ground := Go.Ground.data }], guard := none }) (v := ?_) rfl (by kernel_rfl) (by kernel_rfl) (by kernel_rfl) (fun _ _ _ h => h) (Or.inl ⟨by rfl, ?_⟩) (by assumption) ?_
          rotate_left
          · ((intro w hSw; (try dsimp only at hSw); go_simp) <;> (with_reducible rfl))
          try simp only [Act.put, List.setIfInBounds_toArray, List.set_cons_zero, List.set_cons_succ]
          refine wpAnyH_take (i := 14) (oi := { dst := some 124, op := Go.Op.move (Go.Operand.tmp 123), type := 4, pos := "many.go:64", after := #[{ on := 13, ground := Go.Ground.data }, { on := 7, ground := Go.Ground.chain }], guard := none }) (v := ?_) rfl (by kernel_rfl) (by kernel_rfl) (by kernel_rfl) (fun _ _ _ h => h) (Or.inl ⟨by rfl, ?_⟩) (by assumption) ?_
          rotate_left
          · ((intro w hSw; (try dsimp only at hSw); go_simp) <;> (with_reducible rfl))
          try simp only [Act.put, List.setIfInBounds_toArray, List.set_cons_zero, List.set_cons_succ]
          refine wpAnyH_take (i := 15) (oi := { dst := some 125, op := Go.Op.load 27 (Go.Operand.tmp 11), type := 27, pos := "many.go:64", after := #[{ on := 14, ground := Go.Ground.guard }], guard := some (14, true) }) (v := ?_) rfl (by kernel_rfl) (by kernel_rfl) (by kernel_rfl) (fun _ _ _ h => h) (Or.inl ⟨by rfl, ?_⟩) (by assumption) ?_
          rotate_left
          · ((intro w hSw; (try dsimp only at hSw); go_simp) <;> (with_reducible rfl))
          try simp only [Act.put, List.setIfInBounds_toArray, List.set_cons_zero, List.set_cons_succ]
          refine wpAnyH_take (i := 19) (oi := { dst := some 129, op := Go.Op.move (Go.Operand.tmp 2), type := 3, pos := "many.go:64", after := #[{ on := 14, ground := Go.Ground.guard }], guard := some (14, true) }) (v := ?_) rfl (by kernel_rfl) (by kernel_rfl) (by kernel_rfl) (fun _ _ _ h => h) (Or.inl ⟨by rfl, ?_⟩) (by assumption) ?_
          rotate_left
          · ((intro w hSw; (try dsimp only at hSw); go_simp) <;> (with_reducible rfl))
          try simp only [Act.put, List.setIfInBounds_toArray, List.set_cons_zero, List.set_cons_succ]
          refine wpAnyH_take (i := 20) (oi := { dst := some 130, op := Go.Op.binOp Go.BinOp.eql 3 (Go.Operand.tmp 129) (Go.Operand.const (Go.Value.int Go.IntKind.i64 0)) 3, type := 4, pos := "many.go:64", after := #[{ on := 19, ground := Go.Ground.data }, { on := 14, ground := Go.Ground.guard }], guard := some (14, true) }) (v := ?_) rfl (by kernel_rfl) (by kernel_rfl) (by kernel_rfl) (fun _ _ _ h => h) (Or.inl ⟨by rfl, ?_⟩) (by assumption) ?_
          rotate_left
          · ((intro w hSw; (try dsimp only at hSw); go_simp) <;> (with_reducible rfl))
          try simp only [Act.put, List.setIfInBounds_toArray, List.set_cons_zero, List.set_cons_succ]
          refine wpAnyH_ready (rs := [16]) (by kernel_rfl) (by simp) ?_
          refine AllReadyH.cons (o := { dst := some 126, op := Go.Op.call { callee := Go.Callee.value (Go.Operand.func 9), args := #[Go.Operand.tmp 125], argTypes := #[27] }, type := 36, pos := "many.go:64", after := #[{ on := 15, ground := Go.Ground.data }, { on := 14, ground := Go.Ground.chain }, { on := 14, ground := Go.Ground.guard }], guard := some (14, true) }) rfl (fun K hK => ?_) AllReadyH.nil
          go_simp
          (first | (go_at_call 8; (with_reducible refine (num_says14 _ _).mono ?_); rintro e t2 ⟨rfl, rfl⟩) | (go_at_call 10; (with_reducible refine (hR.out _ (‹Below wm.heap.size wm _ ∧ _›).1).mono ?_); rintro e t2 ⟨rfl, hb2⟩; (first | (replace HB := Lib.hid (HB.out.trans (hb2.mono HB.out.size))) | (replace HB := Lib.hid (HB.out.drew.trans (hb2.mono HB.out.size))))) | (go_at_call 9; (first | (with_reducible refine (hC.out _ (‹Below wm.heap.size wm _ ∧ _›).1).mono ?_) | (with_reducible refine (hD.out _ (‹Below wm.heap.size wm _ ∧ _›).1).mono ?_) | (with_reducible refine (hE.out _ (‹Below wm.heap.size wm _ ∧ _›).1).mono ?_)); rintro e t2 ⟨rfl, hb2⟩; (first | (replace HB := Lib.hid (HB.out.trans (hb2.mono HB.out.size))) | (replace HB := Lib.hid (HB.out.drew.trans (hb2.mono HB.out.size))))))
          refine hK.out _ _ ?_ (fun hH5 => ?_)
          · ((try dsimp only); (first | assumption | exact hS.out _ (Below.refl _ _) | exact hS.out _ (Below.refl _ _).drew | exact hS.out _ ((‹Below wm.heap.size wm _ ∧ _›).1.trans ((‹Below (World.heap _).size _ _›).mono (‹Below wm.heap.size wm _ ∧ _›).1.size))))
          clear hK K hH4
          try simp only [Act.put, List.setIfInBounds_toArray, List.set_cons_zero, List.set_cons_succ]
          refine wpAnyH_ready (rs := [17]) (by kernel_rfl) (by simp) ?_
          refine AllReadyH.cons (o := { dst := some 127, op := Go.Op.call { callee := Go.Callee.value (Go.Operand.func 8), args := #[Go.Operand.tmp 126], argTypes := #[36] }, type := 3, pos := "many.go:64", after := #[{ on := 16, ground := Go.Ground.data }, { on := 16, ground := Go.Ground.chain }, { on := 14, ground := Go.Ground.guard }], guard := some (14, true) }) rfl (fun K hK => ?_) AllReadyH.nil
          go_simp
          (first | (go_at_call 8; (with_reducible refine (num_says14 _ _).mono ?_); rintro e t2 ⟨rfl, rfl⟩) | (go_at_call 10; (with_reducible refine (hR.out _ (‹Below wm.heap.size wm _ ∧ _›).1).mono ?_); rintro e t2 ⟨rfl, hb2⟩; (first | (replace HB := Lib.hid (HB.out.trans (hb2.mono HB.out.size))) | (replace HB := Lib.hid (HB.out.drew.trans (hb2.mono HB.out.size))))) | (go_at_call 9; (first | (with_reducible refine (hC.out _ (‹Below wm.heap.size wm _ ∧ _›).1).mono ?_) | (with_reducible refine (hD.out _ (‹Below wm.heap.size wm _ ∧ _›).1).mono ?_) | (with_reducible refine (hE.out _ (‹Below wm.heap.size wm _ ∧ _›).1).mono ?_)); rintro e t2 ⟨rfl, hb2⟩; (first | (replace HB := Lib.hid (HB.out.trans (hb2.mono HB.out.size))) | (replace HB := Lib.hid (HB.out.drew.trans (hb2.mono HB.out.size))))))
          refine hK.out _ _ ?_ (fun hH6 => ?_)
          · ((try dsimp only); (first | assumption | exact hS.out _ (Below.refl _ _) | exact hS.out _ (Below.refl _ _).drew | exact hS.out _ ((‹Below wm.heap.size wm _ ∧ _›).1.trans ((‹Below (World.heap _).size _ _›).mono (‹Below wm.heap.size wm _ ∧ _›).1.size))))
          clear hK K hH5
          try simp only [Act.put, List.setIfInBounds_toArray, List.set_cons_zero, List.set_cons_succ]
          refine wpAnyH_take (i := 18) (oi := { dst := some 128, op := Go.Op.binOp Go.BinOp.eql 3 (Go.Operand.tmp 127) (Go.Operand.const (Go.Value.int Go.IntKind.i64 0)) 3, type := 4, pos := "many.go:64", after := #[{ on := 17, ground := Go.Ground.data }, { on := 14, ground := Go.Ground.guard }], guard := some (14, true) }) (v := ?_) rfl (by kernel_rfl) (by kernel_rfl) (by kernel_rfl) (fun _ _ _ h => h) (Or.inl ⟨by rfl, ?_⟩) (by assumption) ?_
          rotate_left
          · ((intro w hSw; (try dsimp only at hSw); go_simp) <;> (with_reducible rfl))
          try simp only [Act.put, List.setIfInBounds_toArray, List.set_cons_zero, List.set_cons_succ]
          refine wpAnyH_take (i := 21) (oi := { dst := some 131, op := Go.Op.binOp Go.BinOp.eql 4 (Go.Operand.tmp 128) (Go.Operand.tmp 130) 4, type := 4, pos := "many.go:64", after := #[{ on := 18, ground := Go.Ground.data }, { on := 20, ground := Go.Ground.data }, { on := 14, ground := Go.Ground.guard }], guard := some (14, true) }) (v := ?_) rfl (by kernel_rfl) (by kernel_rfl) (by kernel_rfl) (fun _ _ _ h => h) (Or.inl ⟨by rfl, ?_⟩) (by assumption) ?_
          rotate_left
          · ((intro w hSw; (try dsimp only at hSw); go_simp) <;> (with_reducible rfl))
          try simp only [Act.put, List.setIfInBounds_toArray, List.set_cons_zero, List.set_cons_succ]
          refine wpAnyH_take (i := 22) (oi := { dst := some 132, op := Go.Op.pick (Go.Operand.tmp 124) (Go.Operand.tmp 131) (Go.Operand.const (Go.Value.bool false)), type := 4, pos := "many.go:64", after := #[{ on := 14, ground := Go.Ground.data }, { on := 21, ground := Go.Ground.data }], guard := none }) (v := ?_) rfl (by kernel_rfl) (by kernel_rfl) (by kernel_rfl) (fun _ _ _ h => h) (Or.inl ⟨by rfl, ?_⟩) (by assumption) ?_
          rotate_left
          · ((intro w hSw; (try dsimp only at hSw); go_simp) <;> (with_reducible rfl))
          try simp only [Act.put, List.setIfInBounds_toArray, List.set_cons_zero, List.set_cons_succ]
          refine wpAnyH_take (i := 23) (oi := { dst := some 133, op := Go.Op.move (Go.Operand.tmp 132), type := 4, pos := "many.go:64", after := #[{ on := 22, ground := Go.Ground.data }, { on := 17, ground := Go.Ground.chain }], guard := none }) (v := ?_) rfl (by kernel_rfl) (by kernel_rfl) (by kernel_rfl) (fun _ _ _ h => h) (Or.inl ⟨by rfl, ?_⟩) (by assumption) ?_
          rotate_left
          · ((intro w hSw; (try dsimp only at hSw); go_simp) <;> (with_reducible rfl))
          try simp only [Act.put, List.setIfInBounds_toArray, List.set_cons_zero, List.set_cons_succ]
          refine wpAnyH_take (i := 24) (oi := { dst := some 134, op := Go.Op.load 27 (Go.Operand.tmp 11), type := 27, pos := "many.go:64", after := #[{ on := 23, ground := Go.Ground.guard }], guard := some (23, true) }) (v := ?_) rfl (by kernel_rfl) (by kernel_rfl) (by kernel_rfl) (fun _ _ _ h => h) (Or.inl ⟨by rfl, ?_⟩) (by assumption) ?_
          rotate_left
          · ((intro w hSw; (try dsimp only at hSw); go_simp) <;> (with_reducible rfl))
          try simp only [Act.put, List.setIfInBounds_toArray, List.set_cons_zero, List.set_cons_succ]
          refine wpAnyH_take (i := 27) (oi := { dst := some 137, op := Go.Op.load 27 (Go.Operand.tmp 11), type := 27, pos := "many.go:64", after := #[{ on := 23, ground := Go.Ground.guard }], guard := some (23, true) }) (v := ?_) rfl (by kernel_rfl) (by kernel_rfl) (by kernel_rfl) (fun _ _ _ h => h) (Or.inl ⟨by rfl, ?_⟩) (by assumption) ?_
          rotate_left
          · ((intro w hSw; (try dsimp only at hSw); go_simp) <;> (with_reducible rfl))
          try simp only [Act.put, List.setIfInBounds_toArray, List.set_cons_zero, List.set_cons_succ]
          refine wpAnyH_ready (rs := [25]) (by kernel_rfl) (by simp) ?_
          refine AllReadyH.cons (o := { dst := some 135, op := Go.Op.call { callee := Go.Callee.value (Go.Operand.func 9), args := #[Go.Operand.tmp 134], argTypes := #[27] }, type := 36, pos := "many.go:64", after := #[{ on := 24, ground := Go.Ground.data }, { on := 23, ground := Go.Ground.chain }, { on := 23, ground := Go.Ground.guard }], guard := some (23, true) }) rfl (fun K hK => ?_) AllReadyH.nil
          go_simp
          (first | (go_at_call 8; (with_reducible refine (num_says14 _ _).mono ?_); rintro e t2 ⟨rfl, rfl⟩) | (go_at_call 10; (with_reducible refine (hR.out _ (‹Below wm.heap.size wm _ ∧ _›).1).mono ?_); rintro e t2 ⟨rfl, hb2⟩; (first | (replace HB := Lib.hid (HB.out.trans (hb2.mono HB.out.size))) | (replace HB := Lib.hid (HB.out.drew.trans (hb2.mono HB.out.size))))) | (go_at_call 9; (first | (with_reducible refine (hC.out _ (‹Below wm.heap.size wm _ ∧ _›).1).mono ?_) | (with_reducible refine (hD.out _ (‹Below wm.heap.size wm _ ∧ _›).1).mono ?_) | (with_reducible refine (hE.out _ (‹Below wm.heap.size wm _ ∧ _›).1).mono ?_)); rintro e t2 ⟨rfl, hb2⟩; (first | (replace HB := Lib.hid (HB.out.trans (hb2.mono HB.out.size))) | (replace HB := Lib.hid (HB.out.drew.trans (hb2.mono HB.out.size))))))
          refine hK.out _ _ ?_ (fun hH7 => ?_)
          · ((try dsimp only); (first | assumption | exact hS.out _ (Below.refl _ _) | exact hS.out _ (Below.refl _ _).drew | exact hS.out _ ((‹Below wm.heap.size wm _ ∧ _›).1.trans ((‹Below (World.heap _).size _ _›).mono (‹Below wm.heap.size wm _ ∧ _›).1.size))))
          clear hK K hH6
          try simp only [Act.put, List.setIfInBounds_toArray, List.set_cons_zero, List.set_cons_succ]
          refine wpAnyH_ready (rs := [26]) (by kernel_rfl) (by simp) ?_
          refine AllReadyH.cons (o := { dst := some 136, op := Go.Op.call { callee := Go.Callee.value (Go.Operand.func 8), args := #[Go.Operand.tmp 135], argTypes := #[36] }, type := 3, pos := "many.go:64", after := #[{ on := 25, ground := Go.Ground.data }, { on := 25, ground := Go.Ground.chain }, { on := 23, ground := Go.Ground.guard }], guard := some (23, true) }) rfl (fun K hK => ?_) AllReadyH.nil
          go_simp
          (first | (go_at_call 8; (with_reducible refine (num_says14 _ _).mono ?_); rintro e t2 ⟨rfl, rfl⟩) | (go_at_call 10; (with_reducible refine (hR.out _ (‹Below wm.heap.size wm _ ∧ _›).1).mono ?_); rintro e t2 ⟨rfl, hb2⟩; (first | (replace HB := Lib.hid (HB.out.trans (hb2.mono HB.out.size))) | (replace HB := Lib.hid (HB.out.drew.trans (hb2.mono HB.out.size))))) | (go_at_call 9; (first | (with_reducible refine (hC.out _ (‹Below wm.heap.size wm _ ∧ _›).1).mono ?_) | (with_reducible refine (hD.out _ (‹Below wm.heap.size wm _ ∧ _›).1).mono ?_) | (with_reducible refine (hE.out _ (‹Below wm.heap.size wm _ ∧ _›).1).mono ?_)); rintro e t2 ⟨rfl, hb2⟩; (first | (replace HB := Lib.hid (HB.out.trans (hb2.mono HB.out.size))) | (replace HB := Lib.hid (HB.out.drew.trans (hb2.mono HB.out.size))))))
          refine hK.out _ _ ?_ (fun hH8 => ?_)
          · ((try dsimp only); (first | assumption | exact hS.out _ (Below.refl _ _) | exact hS.out _ (Below.refl _ _).drew | exact hS.out _ ((‹Below wm.heap.size wm _ ∧ _›).1.trans ((‹Below (World.heap _).size _ _›).mono (‹Below wm.heap.size wm _ ∧ _›).1.size))))
          clear hK K hH7
          try simp only [Act.put, List.setIfInBounds_toArray, List.set_cons_zero, List.set_cons_succ]
          refine wpAnyH_ready (rs := [28]) (by kernel_rfl) (by simp) ?_
          refine AllReadyH.cons (o := { dst := some 138, op := Go.Op.call { callee := Go.Callee.value (Go.Operand.func 10), args := #[Go.Operand.tmp 137], argTypes := #[27] }, type := 3, pos := "many.go:64", after := #[{ on := 27, ground := Go.Ground.data }, { on := 26, ground := Go.Ground.chain }, { on := 23, ground := Go.Ground.guard }], guard := some (23, true) }) rfl (fun K hK => ?_) AllReadyH.nil
          go_simp
          (first | (go_at_call 8; (with_reducible refine (num_says14 _ _).mono ?_); rintro e t2 ⟨rfl, rfl⟩) | (go_at_call 10; (with_reducible refine (hR.out _ (‹Below wm.heap.size wm _ ∧ _›).1).mono ?_); rintro e t2 ⟨rfl, hb2⟩; (first | (replace HB := Lib.hid (HB.out.trans (hb2.mono HB.out.size))) | (replace HB := Lib.hid (HB.out.drew.trans (hb2.mono HB.out.size))))) | (go_at_call 9; (first | (with_reducible refine (hC.out _ (‹Below wm.heap.size wm _ ∧ _›).1).mono ?_) | (with_reducible refine (hD.out _ (‹Below wm.heap.size wm _ ∧ _›).1).mono ?_) | (with_reducible refine (hE.out _ (‹Below wm.heap.size wm _ ∧ _›).1).mono ?_)); rintro e t2 ⟨rfl, hb2⟩; (first | (replace HB := Lib.hid (HB.out.trans (hb2.mono HB.out.size))) | (replace HB := Lib.hid (HB.out.drew.trans (hb2.mono HB.out.size))))))
          refine hK.out _ _ ?_ (fun hH9 => ?_)
          · ((try dsimp only); (first | assumption | exact hS.out _ (Below.refl _ _) | exact hS.out _ (Below.refl _ _).drew | exact hS.out _ ((‹Below wm.heap.size wm _ ∧ _›).1.trans ((‹Below (World.heap _).size _ _›).mono (‹Below wm.heap.size wm _ ∧ _›).1.size))))
          clear hK K hH8
          try simp only [Act.put, List.setIfInBounds_toArray, List.set_cons_zero, List.set_cons_succ]
          refine wpAnyH_take (i := 29) (oi := { dst := some 139, op := Go.Op.binOp Go.BinOp.eql 3 (Go.Operand.tmp 136) (Go.Operand.tmp 138) 3, type := 4, pos := "many.go:64", after := #[{ on := 26, ground := Go.Ground.data }, { on := 28, ground := Go.Ground.data }, { on := 23, ground := Go.Ground.guard }], guard := some (23, true) }) (v := ?_) rfl (by kernel_rfl) (by kernel_rfl) (by kernel_rfl) (fun _ _ _ h => h) (Or.inl ⟨by rfl, ?_⟩) (by assumption) ?_
          rotate_left
          · ((intro w hSw; (try dsimp only at hSw); go_simp) <;> (with_reducible rfl))
          try simp only [Act.put, List.setIfInBounds_toArray, List.set_cons_zero, List.set_cons_succ]
          refine wpAnyH_take (i := 30) (oi := { dst := some 140, op := Go.Op.pick (Go.Operand.tmp 133) (Go.Operand.tmp 139) (Go.Operand.const (Go.Value.bool false)), type := 4, pos := "many.go:64", after := #[{ on := 23, ground := Go.Ground.data }, { on := 29, ground := Go.Ground.data }], guard := none }) (v := ?_) rfl (by kernel_rfl) (by kernel_rfl) (by kernel_rfl) (fun _ _ _ h => h) (Or.inl ⟨by rfl, ?_⟩) (by assumption) ?_
          rotate_left
          · ((intro w hSw; (try dsimp only at hSw); go_simp) <;> (with_reducible rfl))
          try simp only [Act.put, List.setIfInBounds_toArray, List.set_cons_zero, List.set_cons_succ]
          refine wpAnyH_take (i := 31) (oi := { dst := some 6, op := Go.Op.assign (Go.Operand.tmp 140), type := 4, pos := "many.go:64", after := #[{ on := 30, ground := Go.Ground.data }, { on := 28, ground := Go.Ground.chain }, { on := 0, ground := Go.Ground.phase }, { on := 1, ground := Go.Ground.phase }, { on := 2, ground := Go.Ground.phase }, { on := 3, ground := Go.Ground.phase }, { on := 4, ground := Go.Ground.phase }, { on := 5, ground := Go.Ground.phase }, { on := 6, ground := Go.Ground.phase }, { on := 7, ground := Go.Ground.phase }, { on := 8, ground := Go.Ground.phase }, { on := 9, ground := Go.Ground.phase }, { on := 10, ground := Go.Ground.phase }, { on := 11, ground := Go.Ground.phase }, { on := 12, ground := Go.Ground.phase }, { on := 13, ground := Go.Ground.phase }, { on := 14, ground := Go.Ground.phase }, { on := 15, ground := Go.Ground.phase }, { on := 16, ground := Go.Ground.phase }, { on := 17, ground := Go.Ground.phase }, { on := 18, ground := Go.Ground.phase }, { on := 19, ground := Go.Ground.phase }, { on := 20, ground := Go.Ground.phase }, { on := 21, ground := Go.Ground.phase }, { on := 22, ground := Go.Ground.phase }, { on := 23, ground := Go.Ground.phase }, { on := 24, ground := Go.Ground.phase }, { on := 25, ground := Go.Ground.phase }, { on := 26, ground := Go.Ground.phase }, { on := 27, ground := Go.Ground.phase }, { on := 28, ground := Go.Ground.phase }, { on := 29, ground := Go.Ground.phase }, { on := 30, ground := Go.Ground.phase }], guard := none }) (v := ?_) rfl (by kernel_rfl) (by kernel_rfl) (by kernel_rfl) (fun _ _ _ h => h) (Or.inl ⟨by rfl, ?_⟩) (by assumption) ?_
          rotate_left
          · ((intro w hSw; (try dsimp only at hSw); go_simp) <;> (with_reducible rfl))
          try simp only [Act.put, List.setIfInBounds_toArray, List.set_cons_zero, List.set_cons_succ]
          refine wpAnyH_done (by kernel_rfl) ?_ _
          all_goals
            go_wp2
            exact HO.out _ (BW.out.trans ((‹Below wm.heap.size wm _ ∧ _›).1.mono BW.out.size))

/-! ### THE ROW's STEP: WRITTEN OUT: LEAVE IT -/
set_option maxRecDepth 100000 in
theorem lifted (os : Os) (started : os.Started) (H : Type) (enc : TypeId × Value → H) :
    ReturnsInHanded {} Try.checked os 5 .any (Rows.configTwiceSpec.pre6 enc Try.prog Try.f5 Rows.configTwiceRow.domain false) (Rows.configTwiceSpec.post enc Try.prog Try.f5 false true false false) := by
  refine returnsInHanded_of_change (C := Try.checked) own started (by kernel_rfl) Try.func5
    (ChangeSpec.witness6 (enc := enc) (C := Try.checked) false ⟨#[], #[.int .i64 0, .int .i64 0, .int .i64 0], []⟩ 8 (by kernel_rfl) (by kernel_rfl) (by kernel_rfl) (by kernel_rfl)) ?_
  intro W base args ds gs before hval0 hW hcnd _
  have hval : ∀ (j : Nat) t v, Try.f5.params[j]? = some t → args[j]? = some v → Value.okWide Try.prog W .any base t v := hval0
  have hW' := hW
  obtain ⟨p, q, hA0, hV, rfl, hfz, hnd⟩ := hW
  have hA : DataW.TrodAll enc Try.prog W 0 (fun _ => true) true Try.f5.params.toList args.toList ds p := hA0
  rw [Try.params5] at hA hval
  obtain ⟨v0, vs0, d0, ds0, p0, q0, hargs, rfl, rfl, h0, r0⟩ := trodAll_cons hA
  obtain ⟨v1, vs1, d1, ds1, p1, q1, rfl, rfl, rfl, h1, r1⟩ := trodAll_cons r0
  obtain ⟨v2, vs2, d2, ds2, p2, q2, rfl, rfl, rfl, h2, r2⟩ := trodAll_cons r1
  obtain ⟨rfl, rfl, rfl⟩ := trodAll_nil r2
  obtain rfl : args = #[v0, v1, v2] := by cases args; simp_all
  obtain ⟨rfl, rfl⟩ := trodVars_none hV
  obtain ⟨a0, rfl, rfl, rfl, w0⟩ := open_int Try.underlying3 (hval 0 3 v0 rfl rfl) h0
  obtain ⟨a1, rfl, rfl, rfl, w1⟩ := open_int Try.underlying3 (hval 1 3 v1 rfl rfl) h1
  obtain ⟨a2, rfl, rfl, rfl, w2⟩ := open_int Try.underlying3 (hval 2 3 v2 rfl rfl) h2
  clear hA0 hval0
  simp only [List.append_nil] at hW'
  refine (walk a0 a1 a2 w0 w1 w2 W).mono fun e W' ⟨he, hg⟩ => ?_
  subst he
  exact ⟨_, rfl, _, _, _, [], [], [], hW', (trodAll_cons_mk (shut_bool Try.underlying4 _) trodAll_mk0), (trodAll_cons_mk (shut_int Try.underlying3 w0) (trodAll_cons_mk (shut_int Try.underlying3 w1) (trodAll_cons_mk (shut_int Try.underlying3 w2) trodAll_mk0))), rfl, hg.frame _, fun h => by cases h⟩

theorem over : Rows.configTwiceRow.holds Try.pinned (OpenSpec.ofChange Rows.configTwiceSpec) :=
  OpenClaim.holds_of_wide 5 Try.f5 rfl rfl rfl rfl rfl rfl rfl ⟨rfl, rfl, rfl, rfl, rfl⟩ rfl rfl rfl rfl rfl (by kernel_rfl) Try.func5 (by kernel_rfl)
    (of_decide_eq_true (by kernel_rfl)) (by unfold Func.isWrapper; first | (rw [if_pos (by decide +kernel)]; kernel_rfl) | (rw [if_neg (by decide +kernel)]; exact ⟨rfl, rfl⟩))
    (fun os started H enc _ => lifted os started H enc)

/-- ████ THE STATEMENT ████ -/
theorem proved : Rows.ConfigTwiceSaid :=
  over
end Go.Proofs.Ythgcmliiobcmlaa.configTwice
