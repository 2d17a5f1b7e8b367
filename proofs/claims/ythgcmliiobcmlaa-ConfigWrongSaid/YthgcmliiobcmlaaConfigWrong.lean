/-
  Whatever one of twelve numbers of a configuration is made, Check calls it wrong, by its own error, just where the document does (law ConfigWrong returns true).
  No condition: whatever the arguments are.
-/
import Derived.Test.YthgcmliiobcmlaaRows
import Derived.WalkKit
import Derived.ProofKit
import Derived.OpenShut
import Derived.Test.YthgcmliiobcmlaaCfgWs
namespace Go.Proofs.Ythgcmliiobcmlaa.configWrong
open Go.ChangeShapes Go.WideShapes Go.ChangeAt Go.RowKit
set_option linter.unusedVariables false      -- a walk need not use every 'w<i>' (that an integer argument fits its kind)

theorem own : ownKnob Try.prog.godebug = none := by kernel_rfl

open Go.Proofs.Ythgcmliiobcmlaa Go.Proofs.Ythgcmliiobcmlaa.Cfg
set_option maxRecDepth 100000 in
set_option maxHeartbeats 16000000 in
theorem walk (a0 : Int) (a1 : Int) (w0 : (Lit.int .i64 a0).wf = true) (w1 : (Lit.int .i64 a1).wf = true) (w : World) :
    Calls Try.prog 3 #[.int .i64 a0, .int .i64 a1] w fun e w' => e = .returned (.bool true) ∧ Below w.heap.size w w' := by
  obtain ⟨r, hr⟩ : ∃ r : Ending → World → Prop, r = fun e w' => e = .returned (.bool true) ∧ Below w.heap.size w w' := ⟨_, rfl⟩
  rw [← hr]
  have HO := Lib.hid (fun u (b : Below w.heap.size w u) => (by rw [hr]; exact ⟨rfl, b⟩ : r (.returned (.bool true)) u))
  have r1 : -9223372036854775808 ≤ a1 ∧ a1 ≤ 9223372036854775807 := by
    simp [Lit.wf, IntKind.min, IntKind.max, IntKind.signed, IntKind.bits] at w1; omega
  clear hr w0 w1
  go_enter Try.func3, Try.ntmps3
  go_upto_region 2 with (go_at_call 6; (with_reducible refine (alive14 _).mono ?_); rintro e wa ⟨rfl, ba⟩)
  have BA := Lib.hid ba
  clear ba
  go_upto_region 3 with (go_at_call 7; (with_reducible refine (one_says _).mono ?_); rintro e wb ⟨g1, g3, rfl, hne, bb, o1, o3⟩)
  obtain ⟨hb, hhb⟩ : ∃ hb, wb.heap.size = hb := ⟨_, rfl⟩
  obtain ⟨wc, hwc⟩ : ∃ wc, wc = wb.alloc (.cells #[.int .i64 5, .int .i64 10, .int .i64 0, .slice (some ⟨g1, 0, none⟩) 1 1, .slice none 0 0, .slice (some ⟨g3, 0, none⟩) 1 1] 27) := ⟨_, rfl⟩
  have bwb : Below w.heap.size w wb := BA.out.trans (bb.mono BA.out.size)
  have C0 := Lib.hid (show Cb w wc hb oneC (.slice (some ⟨g1, 0, none⟩) 1 1) (.slice none 0 0) (.slice (some ⟨g3, 0, none⟩) 1 1) by
    have l1 := o1.lt g1 rfl
    have l3 := o3.lt g3 rfl
    refine ⟨by rw [hwc]; exact bwb.alloc bwb.size _, by rw [← hhb]; exact bwb.size, by rw [hwc, ← hhb]; exact heap_alloc_new _ _, ?_, ownS_nil _ _ _ _, ?_, ⟨fun e => ?_, fun e => (by cases e), fun e => ?_⟩, fun g => ⟨fun e => ⟨fun e2 => (by cases e2), fun e2 => ?_⟩, fun e => (by cases e)⟩⟩
    · rw [hwc]; exact ownS_mono (ownS_below o1 (below_alloc _ _)) BA.out.size
    · rw [hwc]; exact ownS_mono (ownS_below o3 (below_alloc _ _)) BA.out.size
    · have e' : g1 = hb := (by injection e)
      omega
    · have e' : g3 = hb := (by injection e)
      omega
    · have e' : g1 = g := (by injection e)
      have e2' : g3 = g := (by injection e2)
      exact hne (e'.trans e2'.symm))
  try rw [hhb]
  rw [← hwc]
  clear hwc hhb bwb bb o1 o3 hne BA
  -- twenty pages
  have z0 := C0.out.at 0 _ rfl
  have f0 := C0.out.fr 0
  go_upto_region 4 with fail
  have C1 := Lib.hid (C0.out.num { oneC with pages := 20 } 0 (i64 20) rfl rfl rfl rfl)
  obtain ⟨wd, hwd⟩ : ∃ wd, wd = wc.setCell ⟨hb, 0, none⟩ (i64 20) := ⟨_, rfl⟩
  rw [← hwd] at C1 ⊢
  clear hwd C0 z0 f0
  -- a second partition
  have z3 := C1.out.at 3 _ rfl
  have HP := Lib.hid (show ∀ u, u = wd.alloc (.cells #[.string ⟨#[98]⟩, i64 2, i64 1] 30) → Cb w u hb { oneC with pages := 20 } (.slice (some ⟨g1, 0, none⟩) 1 1) (.slice none 0 0) (.slice (some ⟨g3, 0, none⟩) 1 1) ∧ SrcS 3 u (some ⟨wd.heap.size, 0, none⟩) [[.string ⟨#[98]⟩, i64 2, i64 1]] from fun u hu => by
    rw [hu]; exact ⟨C1.out.kept (below_alloc _ _), src_new wd 3 [.string ⟨#[98]⟩, i64 2, i64 1] _⟩)
  have HB := Lib.hid (show Even 3 [[Value.string ⟨#[98]⟩, i64 2, i64 1]] from even_pt [⟨⟨#[98]⟩, 2, 1⟩])
  go_upto_region 5 with (at_builtin; (refine wpList_appS kdP rfl _ _ rfl ((HP.out _ rfl).1.b.size) (R1 := oneC.parts.map ptC) rfl (HP.out _ rfl).1.o1 [[.string ⟨#[98]⟩, i64 2, i64 1]] HB.out rfl rfl (fun e => by cases e) (HP.out _ rfl).2 (by decide) ?_); intro v' w4 o4 b4 g4 hv; obtain ⟨p4, c4, e4, m4, -⟩ := ownS_form o4; have e4' : v' = .slice p4 2 c4 := e4; clear e4; subst e4'; have C2 := Lib.hid ((HP.out _ rfl).1.app1 (l := [⟨⟨#[97]⟩, 1, 0⟩, ⟨⟨#[98]⟩, 2, 1⟩]) o4 g4 hv); have z3 : w4.cell? ⟨hb, 3, none⟩ = some (.slice (some ⟨g1, 0, none⟩) 1 1) := (World.cell?_of_block (g4.block hb (HP.out _ rfl).1.lt (fun e => (HP.out _ rfl).1.ne.1 e.symm))).trans ((HP.out _ rfl).1.at 3 _ rfl); have f3 : w4.frozen? ⟨hb, 3, none⟩ = false := by (have hq := (g4.block hb (HP.out _ rfl).1.lt (fun e => (HP.out _ rfl).1.ne.1 e.symm)).trans (HP.out _ rfl).1.hd; simp [World.frozen?, hq]))
  obtain ⟨we, hwe⟩ : ∃ we, we = w4.setCell ⟨hb, 3, none⟩ (.slice p4 2 c4) := ⟨_, rfl⟩
  rw [← hwe] at C2 ⊢
  clear hwe HP HB C1 z3 f3 o4 b4 g4 hv m4
  -- a channel
  obtain ⟨wf, hwf⟩ : ∃ wf, wf = we.alloc (.cells #[.int .i64 1, .int .i64 0, .int .i64 1, .int .i64 8, .int .i64 2] 32) := ⟨_, rfl⟩
  have CF := Lib.hid (by rw [hwf]; exact C2.out.kept (below_alloc _ _) : Cb w wf hb _ _ _ _)
  have z4 := CF.out.at 4 _ rfl
  have f4 := CF.out.fr 4
  have C3 := Lib.hid (C2.out.app2 (l := [⟨1, 0, 1, 8, 2⟩]) (w' := wf) (v' := .slice (some ⟨we.heap.size, 0, none⟩) 1 1) (by rw [hwf]; exact ownS_new 32 5 we w.heap.size C2.out.b.size _ (even_ch [⟨1, 0, 1, 8, 2⟩]) (by show 1 ≤ 1000; omega)) (by rw [hwf]; exact grown_alloc _ _ _) (.inr rfl))
  rw [hwf] at z4 f4
  go_upto_region 6 with fail
  rw [← hwf]
  obtain ⟨wg, hwg⟩ : ∃ wg, wg = wf.setCell ⟨hb, 4, none⟩ (.slice (some ⟨we.heap.size, 0, none⟩) 1 1) := ⟨_, rfl⟩
  rw [← hwg] at C3 ⊢
  obtain ⟨g2, hg2⟩ : ∃ g2, we.heap.size = g2 := ⟨_, rfl⟩
  rw [hg2] at C3 ⊢
  clear hwg hwf hg2 C2 CF z4 f4
  -- two windows
  obtain ⟨wh, hwh⟩ : ∃ wh, wh = wg.alloc (.cells #[.int .i64 0, .int .i64 4, .int .i64 0, .int .i64 5, .int .i64 5, .int .i64 1] 34) := ⟨_, rfl⟩
  have CF := Lib.hid (by rw [hwh]; exact C3.out.kept (below_alloc _ _) : Cb w wh hb _ _ _ _)
  have z5 := CF.out.at 5 _ rfl
  have f5 := CF.out.fr 5
  have C4 := Lib.hid (C3.out.app3 (l := [⟨0, 4, 0⟩, ⟨5, 5, 1⟩]) (w' := wh) (v' := .slice (some ⟨wg.heap.size, 0, none⟩) 2 2) (by rw [hwh]; exact ownS_new 34 3 wg w.heap.size C3.out.b.size _ (even_wn [⟨0, 4, 0⟩, ⟨5, 5, 1⟩]) (by show 2 ≤ 1000; omega)) (by rw [hwh]; exact grown_alloc _ _ _) (.inr rfl))
  rw [hwh] at z5 f5
  go_upto_region 7 with fail
  rw [← hwh]
  obtain ⟨wi, hwi⟩ : ∃ wi, wi = wh.setCell ⟨hb, 5, none⟩ (.slice (some ⟨wg.heap.size, 0, none⟩) 2 2) := ⟨_, rfl⟩
  rw [← hwi] at C4 ⊢
  obtain ⟨g5, hg5⟩ : ∃ g5, wg.heap.size = g5 := ⟨_, rfl⟩
  rw [hg5] at C4 ⊢
  clear hwi hwh hg5 C3 CF z5 f5
  have C := Lib.hid (C4.out : Cb w wi hb (cW 20 10 0 2 1 1 1 8 2 4 5 1) (.slice p4 2 c4) (.slice (some ⟨g2, 0, none⟩) 1 1) (.slice (some ⟨g5, 0, none⟩) 2 2))
  clear C4
  go_upto_region 9 with fail
  go_cut [7, 8, 25] from 9 (fun s7 s8 s25 wx => s7 = .bool false ∧ s8 = .int .i64 0 ∧ s25 = .int .i64 a0 ∧ wx = wi)
  case first => go_wp2; go_meet; case rel => exact ⟨rfl, rfl, rfl, rfl⟩
  case rest =>
    obtain ⟨rfl, rfl, rfl, rfl⟩ := hcut
    refine ‹∀ (a : Act) (w : World), Code.wp _ _ _ a w → _› _ _ ?_
    go_cut [7, 8] from 9 (fun ok e wx => Hand w hb ok e wx)
    case rest =>
      obtain ⟨b, k, c, v1, v2, v3, rfl, rfl, CC, wf, hck⟩ := hcut
      obtain ⟨p1, c1, p2, c2, p3, c3, rfl, rfl, rfl, ⟨m1, -, -⟩, L1, L2, L3⟩ := CC.lies
      have hc := Lib.hid (check_says L1 L2 L3 wf (by unfold maxLen at m1; omega))
      have z0 := CC.at 0 _ rfl
      have z1 := CC.at 1 _ rfl
      have z2 := CC.at 2 _ rfl
      have z3 := CC.at 3 _ rfl
      have z4 := CC.at 4 _ rfl
      have z5 := CC.at 5 _ rfl
      have bx := Lib.hid CC.b
      simp only [cfV] at hc
      rw [hck] at hc
      obtain ⟨n1, hn1⟩ : ∃ n, c.parts.length = n := ⟨_, rfl⟩
      obtain ⟨n2, hn2⟩ : ∃ n, c.chans.length = n := ⟨_, rfl⟩
      obtain ⟨n3, hn3⟩ : ∃ n, c.wins.length = n := ⟨_, rfl⟩
      obtain ⟨pg, hpg⟩ : ∃ n, c.pages = n := ⟨_, rfl⟩
      obtain ⟨mj, hmj⟩ : ∃ n, c.major = n := ⟨_, rfl⟩
      obtain ⟨sw, hsw⟩ : ∃ n, c.switch = n := ⟨_, rfl⟩
      rw [hn1, hn2, hn3, hpg, hmj, hsw] at hc
      rw [hpg] at z0
      rw [hmj] at z1
      rw [hsw] at z2
      rw [hn1] at z3
      rw [hn2] at z4
      rw [hn3] at z5
      clear hn1 hn2 hn3 hpg hmj hsw CC L1 L2 L3 wf hck C m1
      cases b with
      | true =>
        rw [if_pos rfl] at hc
        go_wp2_with (first | (go_at_call 9; (with_reducible refine hc.out.mono ?_); rintro e w2 ⟨rfl, hb2⟩) | (go_at_call 8; (with_reducible refine (num_says14 _ _).mono ?_); rintro e t' ⟨rfl, rfl⟩))
        exact HO.out _ (bx.out.trans (hb2.mono bx.out.size))
      | false =>
        rw [if_neg (by simp)] at hc
        go_wp2_with (first | (go_at_call 9; (with_reducible refine hc.out.mono ?_); rintro e w2 ⟨rfl, hb2⟩) | (go_at_call 8; (with_reducible refine (num_says14 _ _).mono ?_); rintro e t' ⟨rfl, rfl⟩))
        exact HO.out _ (bx.out.trans (hb2.mono bx.out.size))
    case first =>
      rename_i J K' hJ hK
      by_cases h0 : a0 = 0
      · subst h0
        exact sw_0 r1 C.out _ _ _ _ _ _ _ _ _ _ _ _ _ _ _ _ _ _ _ _ _ _ _ _ _ _ _ _ _ _ _ _ _ _ _ _ _ _ _ _ _ _ _ _ _ _ _ _ _ _ _ _ _ _ _ _ _ _ _ _ _ _ _ _ _ _ _ _ _ _ _ _ _ _ _ _ _ _ _ _ _ _ _ _ _ _ _ _ _ _ _ _ _ _ _ _ _ _ _ _ _ _ _ _ _ _ _ _ _ _ _ _ _ _ _ _ _ _ _ _ _ _ _ _ _ _ _ _ _ _ _ _ _ _ _ _ _ _ _ _ _ _ _ _ _ _ _ _ _ _ _ _ _ _ _ _ _ _ _ _ _ _ _ _ _ _ _ _ _ _ _ _ (fun ok e wx hh _ _ _ _ _ _ _ _ _ _ _ _ _ _ _ _ _ _ _ _ _ _ _ _ _ _ _ _ _ _ _ _ _ _ _ _ _ _ _ _ _ _ _ _ _ _ _ _ _ _ _ _ _ _ _ _ _ _ _ _ _ _ _ _ _ _ _ _ _ _ _ _ _ _ _ _ _ _ _ _ _ _ _ _ _ _ _ _ _ _ _ _ _ _ _ _ _ _ _ _ _ _ _ _ _ _ _ _ _ _ _ _ _ _ _ _ _ _ _ _ _ _ _ _ _ _ _ _ _ _ _ _ _ _ _ _ _ _ _ _ => hK _ _ (Met.intro (hJ _ _ (by (repeat apply Exists.intro); exact ⟨hh, rfl⟩))))
      have f0 : (a0 == 0) = false := by simpa using h0
      by_cases h1 : a0 = 1
      · subst h1
        exact sw_1 r1 C.out _ _ _ _ _ _ _ _ _ _ _ _ _ _ _ _ _ _ _ _ _ _ _ _ _ _ _ _ _ _ _ _ _ _ _ _ _ _ _ _ _ _ _ _ _ _ _ _ _ _ _ _ _ _ _ _ _ _ _ _ _ _ _ _ _ _ _ _ _ _ _ _ _ _ _ _ _ _ _ _ _ _ _ _ _ _ _ _ _ _ _ _ _ _ _ _ _ _ _ _ _ _ _ _ _ _ _ _ _ _ _ _ _ _ _ _ _ _ _ _ _ _ _ _ _ _ _ _ _ _ _ _ _ _ _ _ _ _ _ _ _ _ _ _ _ _ _ _ _ _ _ _ _ _ _ _ _ _ _ _ _ _ _ _ _ _ _ _ _ _ _ _ (fun ok e wx hh _ _ _ _ _ _ _ _ _ _ _ _ _ _ _ _ _ _ _ _ _ _ _ _ _ _ _ _ _ _ _ _ _ _ _ _ _ _ _ _ _ _ _ _ _ _ _ _ _ _ _ _ _ _ _ _ _ _ _ _ _ _ _ _ _ _ _ _ _ _ _ _ _ _ _ _ _ _ _ _ _ _ _ _ _ _ _ _ _ _ _ _ _ _ _ _ _ _ _ _ _ _ _ _ _ _ _ _ _ _ _ _ _ _ _ _ _ _ _ _ _ _ _ _ _ _ _ _ _ _ _ _ _ _ _ _ _ _ _ _ => hK _ _ (Met.intro (hJ _ _ (by (repeat apply Exists.intro); exact ⟨hh, rfl⟩))))
      have f1 : (a0 == 1) = false := by simpa using h1
      by_cases h2 : a0 = 2
      · subst h2
        exact sw_2 r1 C.out _ _ _ _ _ _ _ _ _ _ _ _ _ _ _ _ _ _ _ _ _ _ _ _ _ _ _ _ _ _ _ _ _ _ _ _ _ _ _ _ _ _ _ _ _ _ _ _ _ _ _ _ _ _ _ _ _ _ _ _ _ _ _ _ _ _ _ _ _ _ _ _ _ _ _ _ _ _ _ _ _ _ _ _ _ _ _ _ _ _ _ _ _ _ _ _ _ _ _ _ _ _ _ _ _ _ _ _ _ _ _ _ _ _ _ _ _ _ _ _ _ _ _ _ _ _ _ _ _ _ _ _ _ _ _ _ _ _ _ _ _ _ _ _ _ _ _ _ _ _ _ _ _ _ _ _ _ _ _ _ _ _ _ _ _ _ _ _ _ _ _ _ (fun ok e wx hh _ _ _ _ _ _ _ _ _ _ _ _ _ _ _ _ _ _ _ _ _ _ _ _ _ _ _ _ _ _ _ _ _ _ _ _ _ _ _ _ _ _ _ _ _ _ _ _ _ _ _ _ _ _ _ _ _ _ _ _ _ _ _ _ _ _ _ _ _ _ _ _ _ _ _ _ _ _ _ _ _ _ _ _ _ _ _ _ _ _ _ _ _ _ _ _ _ _ _ _ _ _ _ _ _ _ _ _ _ _ _ _ _ _ _ _ _ _ _ _ _ _ _ _ _ _ _ _ _ _ _ _ _ _ _ _ _ _ _ _ => hK _ _ (Met.intro (hJ _ _ (by (repeat apply Exists.intro); exact ⟨hh, rfl⟩))))
      have f2 : (a0 == 2) = false := by simpa using h2
      by_cases h3 : a0 = 3
      · subst h3
        exact sw_3 r1 C.out _ _ _ _ _ _ _ _ _ _ _ _ _ _ _ _ _ _ _ _ _ _ _ _ _ _ _ _ _ _ _ _ _ _ _ _ _ _ _ _ _ _ _ _ _ _ _ _ _ _ _ _ _ _ _ _ _ _ _ _ _ _ _ _ _ _ _ _ _ _ _ _ _ _ _ _ _ _ _ _ _ _ _ _ _ _ _ _ _ _ _ _ _ _ _ _ _ _ _ _ _ _ _ _ _ _ _ _ _ _ _ _ _ _ _ _ _ _ _ _ _ _ _ _ _ _ _ _ _ _ _ _ _ _ _ _ _ _ _ _ _ _ _ _ _ _ _ _ _ _ _ _ _ _ _ _ _ _ _ _ _ _ _ _ _ _ _ _ _ _ _ _ (fun ok e wx hh _ _ _ _ _ _ _ _ _ _ _ _ _ _ _ _ _ _ _ _ _ _ _ _ _ _ _ _ _ _ _ _ _ _ _ _ _ _ _ _ _ _ _ _ _ _ _ _ _ _ _ _ _ _ _ _ _ _ _ _ _ _ _ _ _ _ _ _ _ _ _ _ _ _ _ _ _ _ _ _ _ _ _ _ _ _ _ _ _ _ _ _ _ _ _ _ _ _ _ _ _ _ _ _ _ _ _ _ _ _ _ _ _ _ _ _ _ _ _ _ _ _ _ _ _ _ _ _ _ _ _ _ _ _ _ _ _ _ _ _ => hK _ _ (Met.intro (hJ _ _ (by (repeat apply Exists.intro); exact ⟨hh, rfl⟩))))
      have f3 : (a0 == 3) = false := by simpa using h3
      by_cases h4 : a0 = 4
      · subst h4
        exact sw_4 r1 C.out _ _ _ _ _ _ _ _ _ _ _ _ _ _ _ _ _ _ _ _ _ _ _ _ _ _ _ _ _ _ _ _ _ _ _ _ _ _ _ _ _ _ _ _ _ _ _ _ _ _ _ _ _ _ _ _ _ _ _ _ _ _ _ _ _ _ _ _ _ _ _ _ _ _ _ _ _ _ _ _ _ _ _ _ _ _ _ _ _ _ _ _ _ _ _ _ _ _ _ _ _ _ _ _ _ _ _ _ _ _ _ _ _ _ _ _ _ _ _ _ _ _ _ _ _ _ _ _ _ _ _ _ _ _ _ _ _ _ _ _ _ _ _ _ _ _ _ _ _ _ _ _ _ _ _ _ _ _ _ _ _ _ _ _ _ _ _ _ _ _ _ _ (fun ok e wx hh _ _ _ _ _ _ _ _ _ _ _ _ _ _ _ _ _ _ _ _ _ _ _ _ _ _ _ _ _ _ _ _ _ _ _ _ _ _ _ _ _ _ _ _ _ _ _ _ _ _ _ _ _ _ _ _ _ _ _ _ _ _ _ _ _ _ _ _ _ _ _ _ _ _ _ _ _ _ _ _ _ _ _ _ _ _ _ _ _ _ _ _ _ _ _ _ _ _ _ _ _ _ _ _ _ _ _ _ _ _ _ _ _ _ _ _ _ _ _ _ _ _ _ _ _ _ _ _ _ _ _ _ _ _ _ _ _ _ _ _ => hK _ _ (Met.intro (hJ _ _ (by (repeat apply Exists.intro); exact ⟨hh, rfl⟩))))
      have f4 : (a0 == 4) = false := by simpa using h4
      by_cases h5 : a0 = 5
      · subst h5
        exact sw_5 r1 C.out _ _ _ _ _ _ _ _ _ _ _ _ _ _ _ _ _ _ _ _ _ _ _ _ _ _ _ _ _ _ _ _ _ _ _ _ _ _ _ _ _ _ _ _ _ _ _ _ _ _ _ _ _ _ _ _ _ _ _ _ _ _ _ _ _ _ _ _ _ _ _ _ _ _ _ _ _ _ _ _ _ _ _ _ _ _ _ _ _ _ _ _ _ _ _ _ _ _ _ _ _ _ _ _ _ _ _ _ _ _ _ _ _ _ _ _ _ _ _ _ _ _ _ _ _ _ _ _ _ _ _ _ _ _ _ _ _ _ _ _ _ _ _ _ _ _ _ _ _ _ _ _ _ _ _ _ _ _ _ _ _ _ _ _ _ _ _ _ _ _ _ _ (fun ok e wx hh _ _ _ _ _ _ _ _ _ _ _ _ _ _ _ _ _ _ _ _ _ _ _ _ _ _ _ _ _ _ _ _ _ _ _ _ _ _ _ _ _ _ _ _ _ _ _ _ _ _ _ _ _ _ _ _ _ _ _ _ _ _ _ _ _ _ _ _ _ _ _ _ _ _ _ _ _ _ _ _ _ _ _ _ _ _ _ _ _ _ _ _ _ _ _ _ _ _ _ _ _ _ _ _ _ _ _ _ _ _ _ _ _ _ _ _ _ _ _ _ _ _ _ _ _ _ _ _ _ _ _ _ _ _ _ _ _ _ _ _ => hK _ _ (Met.intro (hJ _ _ (by (repeat apply Exists.intro); exact ⟨hh, rfl⟩))))
      have f5 : (a0 == 5) = false := by simpa using h5
      by_cases h6 : a0 = 6
      · subst h6
        exact sw_6 r1 C.out _ _ _ _ _ _ _ _ _ _ _ _ _ _ _ _ _ _ _ _ _ _ _ _ _ _ _ _ _ _ _ _ _ _ _ _ _ _ _ _ _ _ _ _ _ _ _ _ _ _ _ _ _ _ _ _ _ _ _ _ _ _ _ _ _ _ _ _ _ _ _ _ _ _ _ _ _ _ _ _ _ _ _ _ _ _ _ _ _ _ _ _ _ _ _ _ _ _ _ _ _ _ _ _ _ _ _ _ _ _ _ _ _ _ _ _ _ _ _ _ _ _ _ _ _ _ _ _ _ _ _ _ _ _ _ _ _ _ _ _ _ _ _ _ _ _ _ _ _ _ _ _ _ _ _ _ _ _ _ _ _ _ _ _ _ _ _ _ _ _ _ _ (fun ok e wx hh _ _ _ _ _ _ _ _ _ _ _ _ _ _ _ _ _ _ _ _ _ _ _ _ _ _ _ _ _ _ _ _ _ _ _ _ _ _ _ _ _ _ _ _ _ _ _ _ _ _ _ _ _ _ _ _ _ _ _ _ _ _ _ _ _ _ _ _ _ _ _ _ _ _ _ _ _ _ _ _ _ _ _ _ _ _ _ _ _ _ _ _ _ _ _ _ _ _ _ _ _ _ _ _ _ _ _ _ _ _ _ _ _ _ _ _ _ _ _ _ _ _ _ _ _ _ _ _ _ _ _ _ _ _ _ _ _ _ _ _ => hK _ _ (Met.intro (hJ _ _ (by (repeat apply Exists.intro); exact ⟨hh, rfl⟩))))
      have f6 : (a0 == 6) = false := by simpa using h6
      by_cases h7 : a0 = 7
      · subst h7
        exact sw_7 r1 C.out _ _ _ _ _ _ _ _ _ _ _ _ _ _ _ _ _ _ _ _ _ _ _ _ _ _ _ _ _ _ _ _ _ _ _ _ _ _ _ _ _ _ _ _ _ _ _ _ _ _ _ _ _ _ _ _ _ _ _ _ _ _ _ _ _ _ _ _ _ _ _ _ _ _ _ _ _ _ _ _ _ _ _ _ _ _ _ _ _ _ _ _ _ _ _ _ _ _ _ _ _ _ _ _ _ _ _ _ _ _ _ _ _ _ _ _ _ _ _ _ _ _ _ _ _ _ _ _ _ _ _ _ _ _ _ _ _ _ _ _ _ _ _ _ _ _ _ _ _ _ _ _ _ _ _ _ _ _ _ _ _ _ _ _ _ _ _ _ _ _ _ _ (fun ok e wx hh _ _ _ _ _ _ _ _ _ _ _ _ _ _ _ _ _ _ _ _ _ _ _ _ _ _ _ _ _ _ _ _ _ _ _ _ _ _ _ _ _ _ _ _ _ _ _ _ _ _ _ _ _ _ _ _ _ _ _ _ _ _ _ _ _ _ _ _ _ _ _ _ _ _ _ _ _ _ _ _ _ _ _ _ _ _ _ _ _ _ _ _ _ _ _ _ _ _ _ _ _ _ _ _ _ _ _ _ _ _ _ _ _ _ _ _ _ _ _ _ _ _ _ _ _ _ _ _ _ _ _ _ _ _ _ _ _ _ _ _ => hK _ _ (Met.intro (hJ _ _ (by (repeat apply Exists.intro); exact ⟨hh, rfl⟩))))
      have f7 : (a0 == 7) = false := by simpa using h7
      by_cases h8 : a0 = 8
      · subst h8
        exact sw_8 r1 C.out _ _ _ _ _ _ _ _ _ _ _ _ _ _ _ _ _ _ _ _ _ _ _ _ _ _ _ _ _ _ _ _ _ _ _ _ _ _ _ _ _ _ _ _ _ _ _ _ _ _ _ _ _ _ _ _ _ _ _ _ _ _ _ _ _ _ _ _ _ _ _ _ _ _ _ _ _ _ _ _ _ _ _ _ _ _ _ _ _ _ _ _ _ _ _ _ _ _ _ _ _ _ _ _ _ _ _ _ _ _ _ _ _ _ _ _ _ _ _ _ _ _ _ _ _ _ _ _ _ _ _ _ _ _ _ _ _ _ _ _ _ _ _ _ _ _ _ _ _ _ _ _ _ _ _ _ _ _ _ _ _ _ _ _ _ _ _ _ _ _ _ _ (fun ok e wx hh _ _ _ _ _ _ _ _ _ _ _ _ _ _ _ _ _ _ _ _ _ _ _ _ _ _ _ _ _ _ _ _ _ _ _ _ _ _ _ _ _ _ _ _ _ _ _ _ _ _ _ _ _ _ _ _ _ _ _ _ _ _ _ _ _ _ _ _ _ _ _ _ _ _ _ _ _ _ _ _ _ _ _ _ _ _ _ _ _ _ _ _ _ _ _ _ _ _ _ _ _ _ _ _ _ _ _ _ _ _ _ _ _ _ _ _ _ _ _ _ _ _ _ _ _ _ _ _ _ _ _ _ _ _ _ _ _ _ _ _ => hK _ _ (Met.intro (hJ _ _ (by (repeat apply Exists.intro); exact ⟨hh, rfl⟩))))
      have f8 : (a0 == 8) = false := by simpa using h8
      by_cases h9 : a0 = 9
      · subst h9
        exact sw_9 r1 C.out _ _ _ _ _ _ _ _ _ _ _ _ _ _ _ _ _ _ _ _ _ _ _ _ _ _ _ _ _ _ _ _ _ _ _ _ _ _ _ _ _ _ _ _ _ _ _ _ _ _ _ _ _ _ _ _ _ _ _ _ _ _ _ _ _ _ _ _ _ _ _ _ _ _ _ _ _ _ _ _ _ _ _ _ _ _ _ _ _ _ _ _ _ _ _ _ _ _ _ _ _ _ _ _ _ _ _ _ _ _ _ _ _ _ _ _ _ _ _ _ _ _ _ _ _ _ _ _ _ _ _ _ _ _ _ _ _ _ _ _ _ _ _ _ _ _ _ _ _ _ _ _ _ _ _ _ _ _ _ _ _ _ _ _ _ _ _ _ _ _ _ _ (fun ok e wx hh _ _ _ _ _ _ _ _ _ _ _ _ _ _ _ _ _ _ _ _ _ _ _ _ _ _ _ _ _ _ _ _ _ _ _ _ _ _ _ _ _ _ _ _ _ _ _ _ _ _ _ _ _ _ _ _ _ _ _ _ _ _ _ _ _ _ _ _ _ _ _ _ _ _ _ _ _ _ _ _ _ _ _ _ _ _ _ _ _ _ _ _ _ _ _ _ _ _ _ _ _ _ _ _ _ _ _ _ _ _ _ _ _ _ _ _ _ _ _ _ _ _ _ _ _ _ _ _ _ _ _ _ _ _ _ _ _ _ _ _ => hK _ _ (Met.intro (hJ _ _ (by (repeat apply Exists.intro); exact ⟨hh, rfl⟩))))
      have f9 : (a0 == 9) = false := by simpa using h9
      by_cases h10 : a0 = 10
      · subst h10
        exact sw_10 r1 C.out _ _ _ _ _ _ _ _ _ _ _ _ _ _ _ _ _ _ _ _ _ _ _ _ _ _ _ _ _ _ _ _ _ _ _ _ _ _ _ _ _ _ _ _ _ _ _ _ _ _ _ _ _ _ _ _ _ _ _ _ _ _ _ _ _ _ _ _ _ _ _ _ _ _ _ _ _ _ _ _ _ _ _ _ _ _ _ _ _ _ _ _ _ _ _ _ _ _ _ _ _ _ _ _ _ _ _ _ _ _ _ _ _ _ _ _ _ _ _ _ _ _ _ _ _ _ _ _ _ _ _ _ _ _ _ _ _ _ _ _ _ _ _ _ _ _ _ _ _ _ _ _ _ _ _ _ _ _ _ _ _ _ _ _ _ _ _ _ _ _ _ _ (fun ok e wx hh _ _ _ _ _ _ _ _ _ _ _ _ _ _ _ _ _ _ _ _ _ _ _ _ _ _ _ _ _ _ _ _ _ _ _ _ _ _ _ _ _ _ _ _ _ _ _ _ _ _ _ _ _ _ _ _ _ _ _ _ _ _ _ _ _ _ _ _ _ _ _ _ _ _ _ _ _ _ _ _ _ _ _ _ _ _ _ _ _ _ _ _ _ _ _ _ _ _ _ _ _ _ _ _ _ _ _ _ _ _ _ _ _ _ _ _ _ _ _ _ _ _ _ _ _ _ _ _ _ _ _ _ _ _ _ _ _ _ _ _ => hK _ _ (Met.intro (hJ _ _ (by (repeat apply Exists.intro); exact ⟨hh, rfl⟩))))
      have f10 : (a0 == 10) = false := by simpa using h10
      by_cases h11 : a0 = 11
      · subst h11
        exact sw_11 r1 C.out _ _ _ _ _ _ _ _ _ _ _ _ _ _ _ _ _ _ _ _ _ _ _ _ _ _ _ _ _ _ _ _ _ _ _ _ _ _ _ _ _ _ _ _ _ _ _ _ _ _ _ _ _ _ _ _ _ _ _ _ _ _ _ _ _ _ _ _ _ _ _ _ _ _ _ _ _ _ _ _ _ _ _ _ _ _ _ _ _ _ _ _ _ _ _ _ _ _ _ _ _ _ _ _ _ _ _ _ _ _ _ _ _ _ _ _ _ _ _ _ _ _ _ _ _ _ _ _ _ _ _ _ _ _ _ _ _ _ _ _ _ _ _ _ _ _ _ _ _ _ _ _ _ _ _ _ _ _ _ _ _ _ _ _ _ _ _ _ _ _ _ _ (fun ok e wx hh _ _ _ _ _ _ _ _ _ _ _ _ _ _ _ _ _ _ _ _ _ _ _ _ _ _ _ _ _ _ _ _ _ _ _ _ _ _ _ _ _ _ _ _ _ _ _ _ _ _ _ _ _ _ _ _ _ _ _ _ _ _ _ _ _ _ _ _ _ _ _ _ _ _ _ _ _ _ _ _ _ _ _ _ _ _ _ _ _ _ _ _ _ _ _ _ _ _ _ _ _ _ _ _ _ _ _ _ _ _ _ _ _ _ _ _ _ _ _ _ _ _ _ _ _ _ _ _ _ _ _ _ _ _ _ _ _ _ _ _ => hK _ _ (Met.intro (hJ _ _ (by (repeat apply Exists.intro); exact ⟨hh, rfl⟩))))
      have f11 : (a0 == 11) = false := by simpa using h11
      clear h0 h1 h2 h3 h4 h5 h6 h7 h8 h9 h10 h11
      go_wp2
      exact HO.out _ C.out.b

/-! ### THE ROW's STEP: WRITTEN OUT: LEAVE IT -/
set_option maxRecDepth 100000 in
theorem lifted (os : Os) (started : os.Started) (H : Type) (enc : TypeId × Value → H) :
    ReturnsInHanded {} Try.checked os 3 .any (Rows.configWrongSpec.pre6 enc Try.prog Try.f3 Rows.configWrongRow.domain false) (Rows.configWrongSpec.post enc Try.prog Try.f3 false true false false) := by
  refine returnsInHanded_of_change (C := Try.checked) own started (by kernel_rfl) Try.func3
    (ChangeSpec.witness6 (enc := enc) (C := Try.checked) false ⟨#[], #[.int .i64 0, .int .i64 0], []⟩ 8 (by kernel_rfl) (by kernel_rfl) (by kernel_rfl) (by kernel_rfl)) ?_
  intro W base args ds gs before hval0 hW hcnd _
  have hval : ∀ (j : Nat) t v, Try.f3.params[j]? = some t → args[j]? = some v → Value.okWide Try.prog W .any base t v := hval0
  have hW' := hW
  obtain ⟨p, q, hA0, hV, rfl, hfz, hnd⟩ := hW
  have hA : DataW.TrodAll enc Try.prog W 0 (fun _ => true) true Try.f3.params.toList args.toList ds p := hA0
  rw [Try.params3] at hA hval
  obtain ⟨v0, vs0, d0, ds0, p0, q0, hargs, rfl, rfl, h0, r0⟩ := trodAll_cons hA
  obtain ⟨v1, vs1, d1, ds1, p1, q1, rfl, rfl, rfl, h1, r1⟩ := trodAll_cons r0
  obtain ⟨rfl, rfl, rfl⟩ := trodAll_nil r1
  obtain rfl : args = #[v0, v1] := by cases args; simp_all
  obtain ⟨rfl, rfl⟩ := trodVars_none hV
  obtain ⟨a0, rfl, rfl, rfl, w0⟩ := open_int Try.underlying3 (hval 0 3 v0 rfl rfl) h0
  obtain ⟨a1, rfl, rfl, rfl, w1⟩ := open_int Try.underlying3 (hval 1 3 v1 rfl rfl) h1
  clear hA0 hval0
  simp only [List.append_nil] at hW'
  refine (walk a0 a1 w0 w1 W).mono fun e W' ⟨he, hg⟩ => ?_
  subst he
  exact ⟨_, rfl, _, _, _, [], [], [], hW', (trodAll_cons_mk (shut_bool Try.underlying4 _) trodAll_mk0), (trodAll_cons_mk (shut_int Try.underlying3 w0) (trodAll_cons_mk (shut_int Try.underlying3 w1) trodAll_mk0)), rfl, hg.frame _, fun h => by cases h⟩

theorem over : Rows.configWrongRow.holds Try.pinned (OpenSpec.ofChange Rows.configWrongSpec) :=
  OpenClaim.holds_of_wide 3 Try.f3 rfl rfl rfl rfl rfl rfl rfl ⟨rfl, rfl, rfl, rfl, rfl⟩ rfl rfl rfl rfl rfl (by kernel_rfl) Try.func3 (by kernel_rfl)
    (of_decide_eq_true (by kernel_rfl)) (by unfold Func.isWrapper; first | (rw [if_pos (by decide +kernel)]; kernel_rfl) | (rw [if_neg (by decide +kernel)]; exact ⟨rfl, rfl⟩))
    (fun os started H enc _ => lifted os started H enc)

/-- ████ THE STATEMENT ████ -/
theorem proved : Rows.ConfigWrongSaid :=
  over
end Go.Proofs.Ythgcmliiobcmlaa.configWrong
