/-
  However many partitions, channels, windows and pages a configuration has, Check calls it wrong, by its own error, just where the document does (law ConfigMany returns true).
  No condition: whatever the arguments are.
-/
import Derived.Test.YthgcmliiobcmlaaRows
import Derived.WalkKit
import Derived.ProofKit
import Derived.OpenShut
import Derived.Test.YthgcmliiobcmlaaCfgM
namespace Go.Proofs.Ythgcmliiobcmlaa.configMany
open Go.ChangeShapes Go.WideShapes Go.ChangeAt Go.RowKit
set_option linter.unusedVariables false      -- a walk need not use every 'w<i>' (that an integer argument fits its kind)

theorem own : ownKnob Try.prog.godebug = none := by kernel_rfl

open Go.Proofs.Ythgcmliiobcmlaa Go.Proofs.Ythgcmliiobcmlaa.Cfg
set_option maxRecDepth 100000 in
set_option maxHeartbeats 16000000 in
theorem walk (a0 : Int) (a1 : Int) (a2 : Int) (a3 : Int) (a4 : Int) (w0 : (Lit.int .i64 a0).wf = true) (w1 : (Lit.int .i64 a1).wf = true) (w2 : (Lit.int .i64 a2).wf = true) (w3 : (Lit.int .i64 a3).wf = true) (w4 : (Lit.int .i64 a4).wf = true) (w : World) :
    Calls Try.prog 4 #[.int .i64 a0, .int .i64 a1, .int .i64 a2, .int .i64 a3, .int .i64 a4] w fun e w' => e = .returned (.bool true) ∧ Below w.heap.size w w' := by
  obtain ⟨r, hr⟩ : ∃ r : Ending → World → Prop, r = fun e w' => e = .returned (.bool true) ∧ Below w.heap.size w w' := ⟨_, rfl⟩
  rw [← hr]
  have HO := Lib.hid (fun u (b : Below w.heap.size w u) => (by rw [hr]; exact ⟨rfl, b⟩ : r (.returned (.bool true)) u))
  clear hr w0 w1 w2 w3 w4
  go_enter Try.func4, Try.ntmps4
  go_upto_region 2 with (go_at_call 6; (with_reducible refine (alive14 _).mono ?_); rintro e wa ⟨rfl, ba⟩)
  have BA := Lib.hid ba
  clear ba
  by_cases q1 : a0 < 0
  · go_wp2; exact HO.out _ BA.out
  by_cases q2 : a0 > 12
  · go_wp2; exact HO.out _ BA.out
  by_cases q3 : a1 < 0
  · go_wp2; exact HO.out _ BA.out
  by_cases q4 : a1 > 20
  · go_wp2; exact HO.out _ BA.out
  by_cases q5 : a2 < 0
  · go_wp2; exact HO.out _ BA.out
  by_cases q6 : a2 > 40
  · go_wp2; exact HO.out _ BA.out
  by_cases q7 : a3 < 0
  · go_wp2; exact HO.out _ BA.out
  by_cases q8 : a3 > 300
  · go_wp2; exact HO.out _ BA.out
  by_cases q9 : a4 < 1
  · go_wp2; exact HO.out _ BA.out
  by_cases q10 : a4 > 64
  · go_wp2; exact HO.out _ BA.out
  go_upto_region 4 with fail
  obtain ⟨M, rfl⟩ := Int.eq_ofNat_of_zero_le (show 0 ≤ a0 by omega)
  obtain ⟨N, rfl⟩ := Int.eq_ofNat_of_zero_le (show 0 ≤ a1 by omega)
  obtain ⟨W, rfl⟩ := Int.eq_ofNat_of_zero_le (show 0 ≤ a2 by omega)
  have hM : M ≤ 12 := by omega
  have hN : N ≤ 20 := by omega
  have hW : W ≤ 40 := by omega
  have hE : 1 ≤ a4 ∧ a4 ≤ 64 := by omega
  have hPg : 0 ≤ a3 ∧ a3 ≤ 300 := by omega
  clear q1 q2 q3 q4 q5 q6 q7 q8 q9 q10
  go_upto_region 5 with fail
  obtain ⟨hb, hhb⟩ : ∃ hb, wa.heap.size = hb := ⟨_, rfl⟩
  obtain ⟨wb, hwb⟩ : ∃ wb, wb = wa.alloc (.cells #[.int .i64 a3, .int .i64 1000, .int .i64 0, .slice none 0 0, .slice none 0 0, .slice none 0 0] 27) := ⟨_, rfl⟩
  have C0 := Lib.hid (show Cb w wb hb (cM a3 a4 0 0 0) (.slice none 0 0) (.slice none 0 0) (.slice none 0 0) by
    refine ⟨by rw [hwb]; exact BA.out.alloc BA.out.size _, by rw [← hhb]; exact BA.out.size, by rw [hwb, ← hhb]; exact heap_alloc_new _ _, ownS_nil _ _ _ _, ownS_nil _ _ _ _, ownS_nil _ _ _ _, ⟨fun e => (by cases e), fun e => (by cases e), fun e => (by cases e)⟩, fun g => ⟨fun e => (by cases e), fun e => (by cases e)⟩⟩)
  try rw [hhb]
  rw [← hwb]
  clear hwb hhb BA
  go_cut [13] from 17 (fun s wx => s = .int .i64 0 ∧ wx = wb)
  case first => go_wp2; go_meet; case rel => exact ⟨rfl, rfl⟩
  case rest =>
    obtain ⟨rfl, rfl⟩ := hcut
    refine ‹∀ (a : Act) (w : World), Code.wp _ _ _ a w → _› _ _ ?_
    go_cut [] from 17 (fun wx => ∃ v1, Cb w wx hb (cM a3 a4 M 0 0) v1 (.slice none 0 0) (.slice none 0 0))
    case first =>
      go_wp2
      go_loopw [13] (fun i wr => ∃ j : Nat, j ≤ M ∧ i = .int .i64 j ∧ ∃ v1, Cb w wr hb (cM a3 a4 j 0 0) v1 (.slice none 0 0) (.slice none 0 0)) (fun i _ => M - (intOf i).toNat)
      case atStart => exact ⟨0, Nat.zero_le _, rfl, _, C0.out⟩
      case round =>
        obtain ⟨j, hj, rfl, v1, C⟩ := hrel
        by_cases hjl : j < M
        · have hjI : (j : Int) < (M : Int) := by omega
          have hj12 : j < 12 := by omega
          obtain ⟨p1, c1, e1, n1, q1, m1⟩ := ownS_form C.o1
          rw [List.length_map] at e1 q1
          have e2 : (cM a3 a4 j 0 0).parts.length = j := partsM_len a4 j
          rw [e2] at e1 q1
          subst e1
          have z3 := C.at 3 _ rfl
          replace C := Lib.hid C
          clear C0 n1 m1 e2
          go_wp2
          have s5 := dgt_slice j hj12
          have s6 := dgt_add j
          have HW := Lib.hid (fun (u : World) (hu : Below wr.heap.size wr u) => C.out.kept hu)
          have cv := HW.out wr.drew (Below.refl _ _).drew
          have cn := HW.out ((wr.alloc (.cells #[.string (nmM j), .int .i64 a4, .int .i64 0] 30)).drew) (below_alloc _ _).drew
          have cm := HW.out (wr.drew.alloc (.cells #[.string (nmM j), .int .i64 a4, .int .i64 0] 30)) ((Below.refl _ _).drew.alloc (by show wr.heap.size ≤ wr.heap.size; omega) _)
          have SN := Lib.hid (show SrcS 3 ((wr.alloc (.cells #[.string (nmM j), .int .i64 a4, .int .i64 0] 30)).drew) (some ⟨wr.heap.size, 0, none⟩) [[Value.string (nmM j), .int .i64 a4, .int .i64 0]] from src_new wr 3 [.string (nmM j), .int .i64 a4, .int .i64 0] _)
          have SM := Lib.hid (show SrcS 3 (wr.drew.alloc (.cells #[.string (nmM j), .int .i64 a4, .int .i64 0] 30)) (some ⟨wr.heap.size, 0, none⟩) [[Value.string (nmM j), .int .i64 a4, .int .i64 0]] from src_new wr.drew 3 [.string (nmM j), .int .i64 a4, .int .i64 0] _)
          have z3v := cv.at 3 _ rfl
          have z3n := cn.at 3 _ rfl
          have z3m := cm.at 3 _ rfl
          have SZ := Lib.hid (by have h1 : ((cM a3 a4 j 0 0).parts.map ptC).length = j := (by rw [List.length_map]; exact partsM_len a4 j); omega : ((cM a3 a4 j 0 0).parts.map ptC).length + 1 ≤ 1000000)
          have CN := Lib.hid cn
          have CM := Lib.hid cm
          clear cn cm cv
          have hz := Lib.hid (fun (wn : World) (CN : Cb w wn hb (cM a3 a4 j 0 0) (.slice p1 j c1) (.slice none 0 0) (.slice none 0 0)) v' w4 (o4 : OwnS 30 3 w4 w.heap.size v' ((cM a3 a4 j 0 0).parts.map ptC ++ [[Value.string (nmM j), .int .i64 a4, .int .i64 0]])) (g4 : wn.grownBy w4 (Value.slice p1 j c1).ownBlock) (hv : v'.ownBlock = (Value.slice p1 j c1).ownBlock ∨ v'.ownBlock = some wn.heap.size) =>
            (⟨(by rw [World.cell?_of_block (g4.block hb CN.lt (fun e => CN.ne.1 e.symm))]; exact CN.at 3 _ rfl), (by have hq := (g4.block hb CN.lt (fun e => CN.ne.1 e.symm)).trans CN.hd; simp [World.frozen?, hq]), CN.app1 (l := partsM a4 (j + 1)) (by rw [partsM_succ, List.map_append]; exact o4) g4 hv⟩ :
              w4.cell? ⟨hb, 3, none⟩ = some (.slice p1 j c1) ∧ w4.frozen? ⟨hb, 3, none⟩ = false ∧ Cb w (w4.setCell ⟨hb, 3, none⟩ v') hb (cM a3 a4 (j + 1) 0 0) v' (.slice none 0 0) (.slice none 0 0)))
          clear C z3 HW
          go_region_law (first
            | (refine step_appS kdP rfl _ _ rfl CN.out.b.size (v1 := .slice p1 j c1) (R1 := (cM a3 a4 j 0 0).parts.map ptC) rfl CN.out.o1 (p := some ⟨wr.heap.size, 0, none⟩) (m := 1) (c := 1) [[Value.string (nmM j), .int .i64 a4, .int .i64 0]] (even_pt [ptM a4 j]) rfl rfl (fun e => by cases e) SN.out SZ.out ?_; intro v' w4 o4 b4 g4 hv; obtain ⟨k1, k2, C4⟩ := hz.out _ CN.out v' w4 o4 g4 hv; obtain ⟨p4, c4, e4, -, -, -⟩ := ownS_form o4; obtain ⟨n4, hn4⟩ : ∃ n4, ((cM a3 a4 j 0 0).parts.map ptC ++ [[Value.string (nmM j), .int .i64 a4, .int .i64 0]]).length = n4 := ⟨_, rfl⟩; rw [hn4] at e4; clear hn4 o4 b4 g4 hv; subst e4; have HC := Lib.hid C4; clear C4)
            | (refine step_appS kdP rfl _ _ rfl CM.out.b.size (v1 := .slice p1 j c1) (R1 := (cM a3 a4 j 0 0).parts.map ptC) rfl CM.out.o1 (p := some ⟨wr.heap.size, 0, none⟩) (m := 1) (c := 1) [[Value.string (nmM j), .int .i64 a4, .int .i64 0]] (even_pt [ptM a4 j]) rfl rfl (fun e => by cases e) SM.out SZ.out ?_; intro v' w4 o4 b4 g4 hv; obtain ⟨k1, k2, C4⟩ := hz.out _ CM.out v' w4 o4 g4 hv; obtain ⟨p4, c4, e4, -, -, -⟩ := ownS_form o4; obtain ⟨n4, hn4⟩ : ∃ n4, ((cM a3 a4 j 0 0).parts.map ptC ++ [[Value.string (nmM j), .int .i64 a4, .int .i64 0]]).length = n4 := ⟨_, rfl⟩; rw [hn4] at e4; clear hn4 o4 b4 g4 hv; subst e4; have HC := Lib.hid C4; clear C4))
          all_goals
            go_wp2
            go_roundw
            case rel => exact ⟨j + 1, hjl, by go_num, _, HC.out⟩
            case measure => simp [intOf]; omega
        · have hjm : j = M := by omega
          subst hjm
          replace C := Lib.hid C
          go_wp2
          go_meet
          case rel => exact ⟨v1, C.out⟩
    case rest =>
      obtain ⟨v1, C⟩ := hcut
      clear C0
      obtain ⟨p1, c1, e1, -, -, -⟩ := ownS_form C.o1
      obtain ⟨n1, hn1⟩ : ∃ n1, ((cM a3 a4 M 0 0).parts.map ptC).length = n1 := ⟨_, rfl⟩
      rw [hn1] at e1
      clear hn1
      subst e1
      replace C := Lib.hid C
      refine ‹∀ (a : Act) (w : World), Code.wp _ _ _ a w → _› _ _ ?_
      go_upto_region 9 with fail
      go_cut [14] from 17 (fun s wx => s = .int .i64 0 ∧ wx = wc)
      case first => go_wp2; go_meet; case rel => exact ⟨rfl, rfl⟩
      case rest =>
        obtain ⟨rfl, rfl⟩ := hcut
        refine ‹∀ (a : Act) (w : World), Code.wp _ _ _ a w → _› _ _ ?_
        go_cut [] from 17 (fun wx => ∃ v2, Cb w wx hb (cM a3 a4 M N 0) (.slice p1 n1 c1) v2 (.slice none 0 0))
        case first =>
          go_wp2
          go_loopw [14] (fun i wr => ∃ j : Nat, j ≤ N ∧ i = .int .i64 j ∧ ∃ v2, Cb w wr hb (cM a3 a4 M j 0) (.slice p1 n1 c1) v2 (.slice none 0 0)) (fun i _ => N - (intOf i).toNat)
          case atStart => exact ⟨0, Nat.zero_le _, rfl, _, C.out⟩
          case round =>
            obtain ⟨j, hj, rfl, v2, D⟩ := hrel
            by_cases hjl : j < N
            · have hjI : (j : Int) < (N : Int) := by omega
              have hj20 : j < 20 := by omega
              obtain ⟨p2, c2, e2, -, -, -⟩ := ownS_form D.o2
              obtain ⟨n2, hn2⟩ : ∃ n2, ((cM a3 a4 M j 0).chans.map chC).length = n2 := ⟨_, rfl⟩
              have hl2 : n2 = j := by rw [← hn2, List.length_map]; exact chansM_len j
              rw [hn2] at e2
              subst e2
              have z4 := D.at 4 _ rfl
              have cn := D.kept (below_alloc wr (.cells #[.int .i64 0, .int .i64 0, .int .i64 1, .int .i64 1, .int .i64 1] 32))
              have SN := Lib.hid (show SrcS 5 (wr.alloc (.cells #[.int .i64 0, .int .i64 0, .int .i64 1, .int .i64 1, .int .i64 1] 32)) (some ⟨wr.heap.size, 0, none⟩) [[Value.int .i64 0, .int .i64 0, .int .i64 1, .int .i64 1, .int .i64 1]] from src_new wr 5 [.int .i64 0, .int .i64 0, .int .i64 1, .int .i64 1, .int .i64 1] _)
              have z4n := cn.at 4 _ rfl
              have SZ := Lib.hid (by omega : ((cM a3 a4 M j 0).chans.map chC).length + 1 ≤ 1000000)
              have CN := Lib.hid cn
              have hz := Lib.hid (fun v' w4 (o4 : OwnS 32 5 w4 w.heap.size v' ((cM a3 a4 M j 0).chans.map chC ++ [[Value.int .i64 0, .int .i64 0, .int .i64 1, .int .i64 1, .int .i64 1]])) (g4 : (wr.alloc (.cells #[.int .i64 0, .int .i64 0, .int .i64 1, .int .i64 1, .int .i64 1] 32)).grownBy w4 (Value.slice p2 n2 c2).ownBlock) (hv : v'.ownBlock = (Value.slice p2 n2 c2).ownBlock ∨ v'.ownBlock = some (wr.alloc (.cells #[.int .i64 0, .int .i64 0, .int .i64 1, .int .i64 1, .int .i64 1] 32)).heap.size) =>
                (⟨(by rw [World.cell?_of_block (g4.block hb cn.lt (fun e => cn.ne.2.1 e.symm))]; exact cn.at 4 _ rfl), (by have hq := (g4.block hb cn.lt (fun e => cn.ne.2.1 e.symm)).trans cn.hd; simp [World.frozen?, hq]), cn.app2 (l := chansM (j + 1)) (by rw [chansM_succ, List.map_append]; exact o4) g4 hv⟩ :
                  w4.cell? ⟨hb, 4, none⟩ = some (.slice p2 n2 c2) ∧ w4.frozen? ⟨hb, 4, none⟩ = false ∧ Cb w (w4.setCell ⟨hb, 4, none⟩ v') hb (cM a3 a4 M (j + 1) 0) (.slice p1 n1 c1) v' (.slice none 0 0)))
              clear D cn hn2 hl2 C
              go_wp2_with (at_builtin; (refine wpList_appS kdC rfl _ _ rfl CN.out.b.size (R1 := (cM a3 a4 M j 0).chans.map chC) rfl CN.out.o2 [[Value.int .i64 0, .int .i64 0, .int .i64 1, .int .i64 1, .int .i64 1]] (even_ch [⟨0, 0, 1, 1, 1⟩]) rfl rfl (fun e => by cases e) SN.out SZ.out ?_); intro v' w4 o4 b4 g4 hv; obtain ⟨k1, k2, C4⟩ := hz.out v' w4 o4 g4 hv; obtain ⟨p4, c4, e4, -, -, -⟩ := ownS_form o4; obtain ⟨n4, hn4⟩ : ∃ n4, ((cM a3 a4 M j 0).chans.map chC ++ [[Value.int .i64 0, .int .i64 0, .int .i64 1, .int .i64 1, .int .i64 1]]).length = n4 := ⟨_, rfl⟩; rw [hn4] at e4; clear hn4 o4 b4 g4 hv; subst e4; have HC := Lib.hid C4; clear C4)
              go_roundw
              case rel => exact ⟨j + 1, hjl, by go_num, _, HC.out⟩
              case measure => simp [intOf]; omega
            · have hjm : j = N := by omega
              subst hjm
              replace D := Lib.hid D
              go_wp2
              go_meet
              case rel => exact ⟨v2, D.out⟩
        case rest =>
          obtain ⟨v2, D⟩ := hcut
          clear C
          obtain ⟨p2, c2, e2, -, -, -⟩ := ownS_form D.o2
          obtain ⟨n2, hn2⟩ : ∃ n2, ((cM a3 a4 M N 0).chans.map chC).length = n2 := ⟨_, rfl⟩
          rw [hn2] at e2
          clear hn2
          subst e2
          replace D := Lib.hid D
          refine ‹∀ (a : Act) (w : World), Code.wp _ _ _ a w → _› _ _ ?_
          go_upto_region 13 with fail
          go_cut [15] from 17 (fun s wx => s = .int .i64 0 ∧ wx = wc)
          case first => go_wp2; go_meet; case rel => exact ⟨rfl, rfl⟩
          case rest =>
            obtain ⟨rfl, rfl⟩ := hcut
            refine ‹∀ (a : Act) (w : World), Code.wp _ _ _ a w → _› _ _ ?_
            go_cut [] from 17 (fun wx => ∃ v3, Cb w wx hb (cM a3 a4 M N W) (.slice p1 n1 c1) (.slice p2 n2 c2) v3)
            case first =>
              go_wp2
              go_loopw [15] (fun i wr => ∃ j : Nat, j ≤ W ∧ i = .int .i64 j ∧ ∃ v3, Cb w wr hb (cM a3 a4 M N j) (.slice p1 n1 c1) (.slice p2 n2 c2) v3) (fun i _ => W - (intOf i).toNat)
              case atStart => exact ⟨0, Nat.zero_le _, rfl, _, D.out⟩
              case round =>
                obtain ⟨j, hj, rfl, v3, D3⟩ := hrel
                by_cases hjl : j < W
                · have hjI : (j : Int) < (W : Int) := by omega
                  have hj40 : j < 40 := by omega
                  have e10 : IntKind.i64.wrap (10 * (j : Int)) = 10 * (j : Int) := by rw [IntKind.wrap_i64]; omega
                  obtain ⟨p3, c3, e3, -, -, -⟩ := ownS_form D3.o3
                  obtain ⟨n3, hn3⟩ : ∃ n3, ((cM a3 a4 M N j).wins.map wnC).length = n3 := ⟨_, rfl⟩
                  have hl3 : n3 = j := by rw [← hn3, List.length_map]; exact winsM_len j
                  rw [hn3] at e3
                  subst e3
                  have z5 := D3.at 5 _ rfl
                  have cn := D3.kept (below_alloc wr (.cells #[.int .i64 (10 * (j : Int)), .int .i64 10, .int .i64 0] 34))
                  have SN := Lib.hid (show SrcS 3 (wr.alloc (.cells #[.int .i64 (10 * (j : Int)), .int .i64 10, .int .i64 0] 34)) (some ⟨wr.heap.size, 0, none⟩) [[Value.int .i64 (10 * (j : Int)), .int .i64 10, .int .i64 0]] from src_new wr 3 [.int .i64 (10 * (j : Int)), .int .i64 10, .int .i64 0] _)
                  have z5n := cn.at 5 _ rfl
                  have SZ := Lib.hid (by omega : ((cM a3 a4 M N j).wins.map wnC).length + 1 ≤ 1000000)
                  have CN := Lib.hid cn
                  have hz := Lib.hid (fun v' w4 (o4 : OwnS 34 3 w4 w.heap.size v' ((cM a3 a4 M N j).wins.map wnC ++ [[Value.int .i64 (10 * (j : Int)), .int .i64 10, .int .i64 0]])) (g4 : (wr.alloc (.cells #[.int .i64 (10 * (j : Int)), .int .i64 10, .int .i64 0] 34)).grownBy w4 (Value.slice p3 n3 c3).ownBlock) (hv : v'.ownBlock = (Value.slice p3 n3 c3).ownBlock ∨ v'.ownBlock = some (wr.alloc (.cells #[.int .i64 (10 * (j : Int)), .int .i64 10, .int .i64 0] 34)).heap.size) =>
                    (⟨(by rw [World.cell?_of_block (g4.block hb cn.lt (fun e => cn.ne.2.2 e.symm))]; exact cn.at 5 _ rfl), (by have hq := (g4.block hb cn.lt (fun e => cn.ne.2.2 e.symm)).trans cn.hd; simp [World.frozen?, hq]), cn.app3 (l := winsM (j + 1)) (by rw [winsM_succ, List.map_append]; exact o4) g4 hv⟩ :
                      w4.cell? ⟨hb, 5, none⟩ = some (.slice p3 n3 c3) ∧ w4.frozen? ⟨hb, 5, none⟩ = false ∧ Cb w (w4.setCell ⟨hb, 5, none⟩ v') hb (cM a3 a4 M N (j + 1)) (.slice p1 n1 c1) (.slice p2 n2 c2) v'))
                  clear D3 cn hn3 hl3 D
                  go_wp2_with (at_builtin; (refine wpList_appS kdW rfl _ _ rfl CN.out.b.size (R1 := (cM a3 a4 M N j).wins.map wnC) rfl CN.out.o3 [[Value.int .i64 (10 * (j : Int)), .int .i64 10, .int .i64 0]] (even_wn [wnM j]) rfl rfl (fun e => by cases e) SN.out SZ.out ?_); intro v' w4 o4 b4 g4 hv; obtain ⟨k1, k2, C4⟩ := hz.out v' w4 o4 g4 hv; obtain ⟨p4, c4, e4, -, -, -⟩ := ownS_form o4; obtain ⟨n4, hn4⟩ : ∃ n4, ((cM a3 a4 M N j).wins.map wnC ++ [[Value.int .i64 (10 * (j : Int)), .int .i64 10, .int .i64 0]]).length = n4 := ⟨_, rfl⟩; rw [hn4] at e4; clear hn4 o4 b4 g4 hv; subst e4; have HC := Lib.hid C4; clear C4)
                  go_roundw
                  case rel => exact ⟨j + 1, hjl, by go_num, _, HC.out⟩
                  case measure => simp [intOf]; omega
                · have hjm : j = W := by omega
                  subst hjm
                  replace D3 := Lib.hid D3
                  go_wp2
                  go_meet
                  case rel => exact ⟨v3, D3.out⟩
            case rest =>
              obtain ⟨v3, D3⟩ := hcut
              clear D
              refine ‹∀ (a : Act) (w : World), Code.wp _ _ _ a w → _› _ _ ?_
              have wf := cM_wf (pages := a3) (each := a4) hM hN hW hE hPg
              have hck := cM_chk (pages := a3) (n := N) (k := W) hM hE
              obtain ⟨q1, d1, q2, d2, q3, d3, e1, e2, e3, ⟨m1, -, -⟩, L1, L2, L3⟩ := D3.lies
              have hc := Lib.hid (check_says L1 L2 L3 wf (by unfold maxLen at m1; omega))
              obtain ⟨kk, hkk⟩ : ∃ kk, chk (cM a3 a4 M N W) = kk := ⟨_, rfl⟩
              rw [hkk] at hck hc
              have bx := Lib.hid D3.b
              simp only [cfV] at hc
              rw [← e1, ← e2, ← e3] at hc
              obtain ⟨p3, n3, c3, rfl⟩ : ∃ p n c, v3 = Value.slice p n c := ⟨_, _, _, e3⟩
              have z0 := D3.at 0 _ rfl
              have z1 := D3.at 1 _ rfl
              have z2 := D3.at 2 _ rfl
              have z3 := D3.at 3 _ rfl
              have z4 := D3.at 4 _ rfl
              have z5 := D3.at 5 _ rfl
              replace hc := Lib.hid (hc.out : Calls Try.prog 9 #[.agg #[i64 a3, i64 1000, i64 0, .slice p1 n1 c1, .slice p2 n2 c2, .slice p3 n3 c3]] wc fun e w' => e = .returned (i64 kk) ∧ Below wc.heap.size wc w')
              replace hck := Lib.hid hck
              clear D3 wf e1 e2 e3 m1 L1 L2 L3 hkk
              go_upto_region 17 with fail
              go_cut [16] from 17 (fun s wx => s = .int .i64 0 ∧ wx = wc)
              case first => go_wp2; go_meet; case rel => exact ⟨rfl, rfl⟩
              case rest =>
                obtain ⟨rfl, rfl⟩ := hcut
                refine ‹∀ (a : Act) (w : World), Code.wp _ _ _ a w → _› _ _ ?_
                refine wp_seq_k fun Kr hKr => ?_
                go_cut [16] from 17 (fun s wx => s = .int .i64 kk ∧ wx = wc)
                case rest =>
                  obtain ⟨rfl, rfl⟩ := hcut
                  refine hKr _ _ ?_
                  clear hck
                  go_wp2_with (first | (go_at_call 9; (with_reducible refine hc.out.mono ?_); rintro e w2 ⟨rfl, hb2⟩) | (go_at_call 8; (with_reducible refine (num_says14 _ _).mono ?_); rintro e t' ⟨rfl, rfl⟩))
                  exact HO.out _ (bx.out.trans (hb2.mono bx.out.size))
                case first =>
                  clear z0 z1 z2 z3 z4 z5
                  by_cases c : a3 < 5
                  · skip
                    have hk : kk = 11 := (by rw [hck.out]; (repeat (first | rw [if_neg (by omega)] | rw [if_pos (by omega)])))
                    subst hk
                    clear hck hc hM hN hW hE hPg
                    go_wp2
                    go_meet
                    case rel => exact ⟨rfl, rfl⟩
                  by_cases c : a3 > 256
                  · skip
                    have hk : kk = 11 := (by rw [hck.out]; (repeat (first | rw [if_neg (by omega)] | rw [if_pos (by omega)])))
                    subst hk
                    clear hck hc hM hN hW hE hPg
                    go_wp2
                    go_meet
                    case rel => exact ⟨rfl, rfl⟩
                  by_cases c : (M : Int) < 1
                  · skip
                    have hk : kk = 10 := (by rw [hck.out]; (repeat (first | rw [if_neg (by omega)] | rw [if_pos (by omega)])))
                    subst hk
                    clear hck hc hM hN hW hE hPg
                    go_wp2
                    go_meet
                    case rel => exact ⟨rfl, rfl⟩
                  by_cases c : (M : Int) > 8
                  · skip
                    have hk : kk = 10 := (by rw [hck.out]; (repeat (first | rw [if_neg (by omega)] | rw [if_pos (by omega)])))
                    subst hk
                    clear hck hc hM hN hW hE hPg
                    go_wp2
                    go_meet
                    case rel => exact ⟨rfl, rfl⟩
                  have hp0 : 0 ≤ (M : Int) * a4 := Int.mul_nonneg (by omega) (by omega)
                  have hp1 : (M : Int) * a4 ≤ 12 * 64 := Int.mul_le_mul (by omega) (by omega) (by omega) (by omega)
                  have x1 : IntKind.i64.wrap ((M : Int) * a4) = (M : Int) * a4 := by rw [IntKind.wrap_i64]; omega
                  have x2 : IntKind.i64.wrap (a3 - 4) = a3 - 4 := by rw [IntKind.wrap_i64]; omega
                  by_cases c : (M : Int) * a4 > a3 - 4
                  · skip
                    have hk : kk = 11 := (by rw [hck.out]; (repeat (first | rw [if_neg (by omega)] | rw [if_pos (by omega)])))
                    subst hk
                    clear hck hc hM hN hW hE hPg
                    go_wp2
                    go_meet
                    case rel => exact ⟨rfl, rfl⟩
                  by_cases c : (N : Int) > 16
                  · skip
                    have hk : kk = 13 := (by rw [hck.out]; (repeat (first | rw [if_neg (by omega)] | rw [if_pos (by omega)])))
                    subst hk
                    clear hck hc hM hN hW hE hPg
                    go_wp2
                    go_meet
                    case rel => exact ⟨rfl, rfl⟩
                  by_cases c0 : (N : Int) > 0
                  · by_cases c : (M : Int) < 2
                    · skip
                      have hk : kk = 13 := (by rw [hck.out]; (repeat (first | rw [if_neg (by omega)] | rw [if_pos (by omega)])))
                      subst hk
                      clear hck hc hM hN hW hE hPg
                      go_wp2
                      go_meet
                      case rel => exact ⟨rfl, rfl⟩
                    by_cases c : (W : Int) < 1
                    · skip
                      have hk : kk = 12 := (by rw [hck.out]; (repeat (first | rw [if_neg (by omega)] | rw [if_pos (by omega)])))
                      subst hk
                      clear hck hc hM hN hW hE hPg
                      go_wp2
                      go_meet
                      case rel => exact ⟨rfl, rfl⟩
                    by_cases c : (W : Int) > 32
                    · skip
                      have hk : kk = 12 := (by rw [hck.out]; (repeat (first | rw [if_neg (by omega)] | rw [if_pos (by omega)])))
                      subst hk
                      clear hck hc hM hN hW hE hPg
                      go_wp2
                      go_meet
                      case rel => exact ⟨rfl, rfl⟩
                    have hk : kk = 0 := (by rw [hck.out]; (repeat (first | rw [if_neg (by omega)] | rw [if_pos (by omega)])))
                    subst hk
                    clear hck hc hM hN hW hE hPg
                    go_wp2
                    go_meet
                    case rel => exact ⟨rfl, rfl⟩
                  · skip
                    by_cases c : (W : Int) < 1
                    · skip
                      have hk : kk = 12 := (by rw [hck.out]; (repeat (first | rw [if_neg (by omega)] | rw [if_pos (by omega)])))
                      subst hk
                      clear hck hc hM hN hW hE hPg
                      go_wp2
                      go_meet
                      case rel => exact ⟨rfl, rfl⟩
                    by_cases c : (W : Int) > 32
                    · skip
                      have hk : kk = 12 := (by rw [hck.out]; (repeat (first | rw [if_neg (by omega)] | rw [if_pos (by omega)])))
                      subst hk
                      clear hck hc hM hN hW hE hPg
                      go_wp2
                      go_meet
                      case rel => exact ⟨rfl, rfl⟩
                    have hk : kk = 0 := (by rw [hck.out]; (repeat (first | rw [if_neg (by omega)] | rw [if_pos (by omega)])))
                    subst hk
                    clear hck hc hM hN hW hE hPg
                    go_wp2
                    go_meet
                    case rel => exact ⟨rfl, rfl⟩

/-! ### THE ROW's STEP: WRITTEN OUT: LEAVE IT -/
set_option maxRecDepth 100000 in
theorem lifted (os : Os) (started : os.Started) (H : Type) (enc : TypeId × Value → H) :
    ReturnsInHanded {} Try.checked os 4 .any (Rows.configManySpec.pre6 enc Try.prog Try.f4 Rows.configManyRow.domain false) (Rows.configManySpec.post enc Try.prog Try.f4 false true false false) := by
  refine returnsInHanded_of_change (C := Try.checked) own started (by kernel_rfl) Try.func4
    (ChangeSpec.witness6 (enc := enc) (C := Try.checked) false ⟨#[], #[.int .i64 0, .int .i64 0, .int .i64 0, .int .i64 0, .int .i64 0], []⟩ 8 (by kernel_rfl) (by kernel_rfl) (by kernel_rfl) (by kernel_rfl)) ?_
  intro W base args ds gs before hval0 hW hcnd _
  have hval : ∀ (j : Nat) t v, Try.f4.params[j]? = some t → args[j]? = some v → Value.okWide Try.prog W .any base t v := hval0
  have hW' := hW
  obtain ⟨p, q, hA0, hV, rfl, hfz, hnd⟩ := hW
  have hA : DataW.TrodAll enc Try.prog W 0 (fun _ => true) true Try.f4.params.toList args.toList ds p := hA0
  rw [Try.params4] at hA hval
  obtain ⟨v0, vs0, d0, ds0, p0, q0, hargs, rfl, rfl, h0, r0⟩ := trodAll_cons hA
  obtain ⟨v1, vs1, d1, ds1, p1, q1, rfl, rfl, rfl, h1, r1⟩ := trodAll_cons r0
  obtain ⟨v2, vs2, d2, ds2, p2, q2, rfl, rfl, rfl, h2, r2⟩ := trodAll_cons r1
  obtain ⟨v3, vs3, d3, ds3, p3, q3, rfl, rfl, rfl, h3, r3⟩ := trodAll_cons r2
  obtain ⟨v4, vs4, d4, ds4, p4, q4, rfl, rfl, rfl, h4, r4⟩ := trodAll_cons r3
  obtain ⟨rfl, rfl, rfl⟩ := trodAll_nil r4
  obtain rfl : args = #[v0, v1, v2, v3, v4] := by cases args; simp_all
  obtain ⟨rfl, rfl⟩ := trodVars_none hV
  obtain ⟨a0, rfl, rfl, rfl, w0⟩ := open_int Try.underlying3 (hval 0 3 v0 rfl rfl) h0
  obtain ⟨a1, rfl, rfl, rfl, w1⟩ := open_int Try.underlying3 (hval 1 3 v1 rfl rfl) h1
  obtain ⟨a2, rfl, rfl, rfl, w2⟩ := open_int Try.underlying3 (hval 2 3 v2 rfl rfl) h2
  obtain ⟨a3, rfl, rfl, rfl, w3⟩ := open_int Try.underlying3 (hval 3 3 v3 rfl rfl) h3
  obtain ⟨a4, rfl, rfl, rfl, w4⟩ := open_int Try.underlying3 (hval 4 3 v4 rfl rfl) h4
  clear hA0 hval0
  simp only [List.append_nil] at hW'
  refine (walk a0 a1 a2 a3 a4 w0 w1 w2 w3 w4 W).mono fun e W' ⟨he, hg⟩ => ?_
  subst he
  exact ⟨_, rfl, _, _, _, [], [], [], hW', (trodAll_cons_mk (shut_bool Try.underlying4 _) trodAll_mk0), (trodAll_cons_mk (shut_int Try.underlying3 w0) (trodAll_cons_mk (shut_int Try.underlying3 w1) (trodAll_cons_mk (shut_int Try.underlying3 w2) (trodAll_cons_mk (shut_int Try.underlying3 w3) (trodAll_cons_mk (shut_int Try.underlying3 w4) trodAll_mk0))))), rfl, hg.frame _, fun h => by cases h⟩

theorem over : Rows.configManyRow.holds Try.pinned (OpenSpec.ofChange Rows.configManySpec) :=
  OpenClaim.holds_of_wide 4 Try.f4 rfl rfl rfl rfl rfl rfl rfl ⟨rfl, rfl, rfl, rfl, rfl⟩ rfl rfl rfl rfl rfl (by kernel_rfl) Try.func4 (by kernel_rfl)
    (of_decide_eq_true (by kernel_rfl)) (by unfold Func.isWrapper; first | (rw [if_pos (by decide +kernel)]; kernel_rfl) | (rw [if_neg (by decide +kernel)]; exact ⟨rfl, rfl⟩))
    (fun os started H enc _ => lifted os started H enc)

/-- ████ THE STATEMENT ████ -/
theorem proved : Rows.ConfigManySaid :=
  over
end Go.Proofs.Ythgcmliiobcmlaa.configMany
