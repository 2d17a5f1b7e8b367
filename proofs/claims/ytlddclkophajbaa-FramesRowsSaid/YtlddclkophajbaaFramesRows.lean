/-
  Partitions lie one behind the other, the first behind the hypervisor, and what is left is nobody's (law FramesRows returns true, and each argument reads as it read).
  No condition: whatever the arguments are.
-/
import Derived.Test.YtlddclkophajbaaPlnO
import Derived.Test.YtlddclkophajbaaFrmK
namespace Go.Proofs.Ytlddclkophajbaa.framesRows
open Go.Proofs.Ytlddclkophajbaa Go.Proofs.Ytlddclkophajbaa.Cfg
open Go.ChangeShapes Go.WideShapes Go.ChangeAt Go.RowKit
set_option maxRecDepth 100000
set_option linter.unusedVariables false

set_option maxHeartbeats 16000000 in
theorem walk (W : World) {p0 : Option Addr} {n0 k0 : Nat} {xs0 : List Int} (L0 : LieS 1 W W.heap.size p0 n0 k0 (xs0.map fun t => [i64 t])) (H0 : ∀ (k : Nat) (x : Int), xs0[k]? = some x → inI x) (m0 : n0 ≤ 9223372036854775807) (x1 : Int) (w1 : (Lit.int .i64 x1).wf = true) :
    Calls Try.prog 5 #[.slice p0 n0 k0, i64 x1] W fun e w' => e = .returned (.bool true) ∧ Below W.heap.size W w' := by
  obtain ⟨r, hr⟩ : ∃ r : Ending → World → Prop, r = fun e w' => e = .returned (.bool true) ∧ Below W.heap.size W w' := ⟨_, rfl⟩
  rw [← hr]
  have HO := Lib.hid (fun u (b : Below W.heap.size W u) => (by rw [hr]; exact ⟨rfl, b⟩ : r (.returned (.bool true)) u))
  clear hr
  have hl0 := L0.len
  rw [List.length_map] at hl0
  go_enter Try.func5, Try.ntmps5
  go_upto_region 2 with (go_at_call 6; (with_reducible refine (alive16 _).mono ?_); rintro e wa ⟨rfl, ba⟩)
  have BA := Lib.hid ba
  clear ba
  by_cases q0 : n0 < 1
  · go_wp2; exact HO.out _ BA.out
  by_cases q1 : n0 > 8
  · go_wp2; exact HO.out _ BA.out
  by_cases q2 : x1 < 0
  · go_wp2; exact HO.out _ BA.out
  by_cases q3 : x1 > 20
  · go_wp2; exact HO.out _ BA.out
  have hn : 1 ≤ n0 ∧ n0 ≤ 8 := by omega
  have hs : 0 ≤ x1 ∧ x1 ≤ 20 := by omega
  clear q0 q1 q2 q3
  go_upto_region 5 with fail
  have BB := BA.out
  obtain ⟨g3, hg3⟩ : ∃ g3, wa.heap.size = g3 := ⟨_, rfl⟩
  have hg3W : W.heap.size ≤ g3 := by rw [← hg3]; exact BB.size
  try simp only [hg3]
  obtain ⟨wb, hwb⟩ : ∃ wb, wb = wa.alloc (.cells #[i64 0, i64 10, i64 0] 41) := ⟨_, rfl⟩
  have sb : wb.heap.size = g3 + 1 := by rw [hwb, ← hg3]; simp
  have o3 : OwnS 41 3 wb W.heap.size (.slice (some ⟨g3, 0, none⟩) 1 1) [[i64 0, i64 10, i64 0]] := by
    have := ownS_new 41 3 wa W.heap.size BB.size [[i64 0, i64 10, i64 0]] (even_wn [⟨0, 10, 0⟩]) (by decide)
    rw [hg3] at this
    rw [hwb]; exact this
  have bb : Below W.heap.size W wb := by rw [hwb]; exact BB.alloc BB.size _
  obtain ⟨wc, hwc⟩ : ∃ wc, wc = wb.alloc (.cells #[i64 (4 + x1), i64 10, i64 0, .slice none 0 0, .slice none 0 0, .slice (some ⟨g3, 0, none⟩) 1 1] 26) := ⟨_, rfl⟩
  obtain ⟨hb, hhb⟩ : ∃ hb, g3 + 1 = hb := ⟨_, rfl⟩
  have C0 : Cb W wc hb (cR (4 + x1) (fP xs0 0)) (.slice none 0 0) (.slice none 0 0) (.slice (some ⟨g3, 0, none⟩) 1 1) := by
    refine ⟨by rw [hwc]; exact bb.alloc bb.size _, by omega, by rw [hwc, ← hhb, ← sb]; exact heap_alloc_new _ _, ownS_nil _ _ _ _, ownS_nil _ _ _ _, by rw [hwc]; exact ownS_below o3 (below_alloc _ _), ⟨fun e => (by cases e), fun e => (by cases e), fun e => ?_⟩, fun g => ⟨fun e => (by cases e), fun e => (by cases e)⟩⟩
    have e' : g3 = hb := (by injection e)
    omega
  rw [← hwb, hhb, ← hwc]
  clear hwc hwb sb o3 bb BB BA hg3 hhb
  replace C0 := Lib.hid C0
  go_wp2
  go_loopw [7] (fun i wr => ∃ j : Nat, j ≤ n0 ∧ i = .int .i64 j ∧ okS xs0 j ∧ ∃ v1, Cb W wr hb (cR (4 + x1 + sN xs0 j) (fP xs0 j)) v1 (.slice none 0 0) (.slice (some ⟨g3, 0, none⟩) 1 1)) (fun i _ => n0 - (intOf i).toNat)
  case atStart => exact ⟨0, Nat.zero_le _, rfl, fun k hk => absurd hk (Nat.not_lt_zero _), _, by have := C0.out; simpa [sN] using this⟩
  case round =>
    obtain ⟨j, hj, rfl, hok, v1, C⟩ := hrel
    clear C0
    have hsb := sN_bd hok
    by_cases hjl : j < n0
    · have hjI : (j : Int) < (n0 : Int) := by omega
      have hjb : j < 8 := by omega
      obtain ⟨x, hx⟩ : ∃ x, xs0[j]? = some x := ⟨_, List.getElem?_eq_getElem (by omega)⟩
      have hgx := gI_at hx
      obtain ⟨b, off, hpb, hbl, y00⟩ := L0.cell1 j x hx
      subst hpb
      have HY := Lib.hid (fun (u : World) (hu : Below W.heap.size W u) => (World.cell?_of_block (hu.block b hbl)).trans y00)
      have y0 := HY.out wr C.b
      clear y00
      have ho := Lib.hid (HO.out wr C.b)
      by_cases k1 : x < 1
      · clear HO C hok L0
        go_wp2
        exact ho.out
      by_cases k2 : x > 25
      · clear HO C hok L0
        go_wp2
        exact ho.out
      have hok1 : okS xs0 (j + 1) := fun k hk => by
        by_cases e : k = j
        · subst e; rw [hgx]; omega
        · exact hok k (by omega)
      have hsn1 : sN xs0 (j + 1) = sN xs0 j + x := by show sN xs0 j + gI xs0 j = _; rw [hgx]
      have hpn : fP xs0 (j + 1) = fP xs0 j ++ [⟨nmP j, x, 0⟩] := by show fP xs0 j ++ [⟨nmP j, gI xs0 j, 0⟩] = _; rw [hgx]
      obtain ⟨pg, hpg⟩ : ∃ pg, 4 + x1 + sN xs0 j = pg := ⟨_, rfl⟩
      have hpg1 : 4 + x1 + sN xs0 (j + 1) = pg + x := by omega
      have hpb : 4 ≤ pg ∧ pg ≤ 300 := by omega
      have e1 : IntKind.i64.wrap (pg + x) = pg + x := by rw [IntKind.wrap_i64]; omega
      rw [hpg] at C
      clear hok hsb hsn1 ho hgx hpg
      replace hpg1 := Lib.hid hpg1
      replace hpn := Lib.hid hpn
      replace hok1 := Lib.hid hok1
      go_upto_region 10 with fail
      have z0 : wr.cell? ⟨hb, 0, none⟩ = some (i64 pg) := C.at 0 _ rfl
      have f0 := C.fr 0
      have C1 : Cb W (wr.setCell ⟨hb, 0, none⟩ (i64 (pg + x))) hb (cR (pg + x) (fP xs0 j)) v1 (.slice none 0 0) (.slice (some ⟨g3, 0, none⟩) 1 1) := C.num (cR (pg + x) (fP xs0 j)) 0 (i64 (pg + x)) rfl rfl rfl rfl
      clear C
      go_cut [] from 146 (fun wx => wx = (wr.setCell ⟨hb, 0, none⟩ (i64 (pg + x))).drew)
      case first =>
        go_region_with (fail)
        all_goals
          go_wp2
          go_meet
          case rel => rfl
      case rest =>
      refine ‹∀ (a : Act) (w : World), Code.wp _ _ _ a w → _› _ _ ?_
      rw [hcut]
      clear hcut
      have C2 : Cb W ((wr.setCell ⟨hb, 0, none⟩ (i64 (pg + x))).drew) hb (cR (pg + x) (fP xs0 j)) v1 (.slice none 0 0) (.slice (some ⟨g3, 0, none⟩) 1 1) := C1.kept (Below.refl _ _).drew
      clear C1 z0 f0 y0
      generalize (wr.setCell ⟨hb, 0, none⟩ (i64 (pg + x))).drew = wd at C2 ⊢
      clear wr
      rename World => wr
      have y0 := HY.out wr C2.b
      obtain ⟨p3, c3, e3, -, -, -⟩ := ownS_form C2.o1
      obtain ⟨n3, hn3⟩ : ∃ n3, ((cR (pg + x) (fP xs0 j)).parts.map ptC).length = n3 := ⟨_, rfl⟩
      have hl3 : n3 = j := by rw [← hn3, List.length_map]; exact fP_len xs0 j
      rw [hn3] at e3
      subst e3
      have hL1 := run_letter hjb wr.drew
      have hL2 := run_letter hjb ((wr.alloc (.cells #[.string (nmP j), .int .i64 x, .int .i64 0] 38)).drew)
      have hL3 := run_letter hjb wr
      have e2 : IntKind.i64.wrap ((j : Int) + 1) = (j : Int) + 1 := by rw [IntKind.wrap_i64]; omega
      have HW := Lib.hid (fun (u : World) (hu : Below wr.heap.size wr u) => And.intro (C2.kept hu) (And.intro ((C2.kept hu).at 3 _ rfl) ((World.cell?_of_block (hu.block b (Nat.lt_of_lt_of_le hbl C2.b.size))).trans y0)))
      obtain ⟨cv, z3v, y0v⟩ := HW.out wr.drew (Below.refl _ _).drew
      obtain ⟨cn, z3n, y0n⟩ := HW.out ((wr.alloc (.cells #[.string (nmP j), .int .i64 x, .int .i64 0] 38)).drew) (below_alloc _ _).drew
      obtain ⟨cm, z3m, y0m⟩ := HW.out (wr.drew.alloc (.cells #[.string (nmP j), .int .i64 x, .int .i64 0] 38)) ((Below.refl _ _).drew.alloc (by show wr.heap.size ≤ wr.heap.size; omega) _)
      have SN := Lib.hid (show SrcS 3 ((wr.alloc (.cells #[.string (nmP j), .int .i64 x, .int .i64 0] 38)).drew) (some ⟨wr.heap.size, 0, none⟩) [[Value.string (nmP j), .int .i64 x, .int .i64 0]] from src_new wr 3 [.string (nmP j), .int .i64 x, .int .i64 0] _)
      have SM := Lib.hid (show SrcS 3 (wr.drew.alloc (.cells #[.string (nmP j), .int .i64 x, .int .i64 0] 38)) (some ⟨wr.heap.size, 0, none⟩) [[Value.string (nmP j), .int .i64 x, .int .i64 0]] from src_new wr.drew 3 [.string (nmP j), .int .i64 x, .int .i64 0] _)
      have SZ := Lib.hid (by omega : ((cR (pg + x) (fP xs0 j)).parts.map ptC).length + 1 ≤ 1000000)
      have CN := Lib.hid cn
      have CM := Lib.hid cm
      have z3 := C2.at 3 _ rfl
      clear cn cm cv
      have hz := Lib.hid (fun (wn : World) (CN : Cb W wn hb (cR (pg + x) (fP xs0 j)) (.slice p3 n3 c3) (.slice none 0 0) (.slice (some ⟨g3, 0, none⟩) 1 1)) v' w4 (o4 : OwnS 38 3 w4 W.heap.size v' ((cR (pg + x) (fP xs0 j)).parts.map ptC ++ [[Value.string (nmP j), .int .i64 x, .int .i64 0]])) (g4 : wn.grownBy w4 (Value.slice p3 n3 c3).ownBlock) (hv : v'.ownBlock = (Value.slice p3 n3 c3).ownBlock ∨ v'.ownBlock = some wn.heap.size) =>
        (⟨(by rw [World.cell?_of_block (g4.block hb CN.lt (fun e => CN.ne.1 e.symm))]; exact CN.at 3 _ rfl), (by have hq := (g4.block hb CN.lt (fun e => CN.ne.1 e.symm)).trans CN.hd; simp [World.frozen?, hq]), CN.app1 (l := fP xs0 (j + 1)) (by rw [hpn.out, List.map_append]; exact o4) g4 hv⟩ :
          w4.cell? ⟨hb, 3, none⟩ = some (.slice p3 n3 c3) ∧ w4.frozen? ⟨hb, 3, none⟩ = false ∧ Cb W (w4.setCell ⟨hb, 3, none⟩ v') hb (cR (pg + x) (fP xs0 (j + 1))) v' (.slice none 0 0) (.slice (some ⟨g3, 0, none⟩) 1 1)))
      replace C2 := Lib.hid C2
      clear HW hn3 hl3 L0 hx
      go_upto_region 11 with fail
      go_region_law (first | (refine step_appS kdP rfl _ _ rfl CN.out.b.size (v1 := .slice p3 n3 c3) (R1 := (cR (pg + x) (fP xs0 j)).parts.map ptC) rfl CN.out.o1 (p := some ⟨wr.heap.size, 0, none⟩) (m := 1) (c := 1) [[Value.string (nmP j), .int .i64 x, .int .i64 0]] (even_pt [⟨nmP j, x, 0⟩]) rfl rfl (fun e => by cases e) SN.out SZ.out ?_; intro v' w4 o4 b4 g4 hv; obtain ⟨k1, k2, C4⟩ := hz.out _ CN.out v' w4 o4 g4 hv; have yw := HY.out _ C4.b; obtain ⟨p5, c5, e5, -, -, -⟩ := ownS_form o4; obtain ⟨n5, hn5⟩ : ∃ n5, ((cR (pg + x) (fP xs0 j)).parts.map ptC ++ [[Value.string (nmP j), .int .i64 x, .int .i64 0]]).length = n5 := ⟨_, rfl⟩; rw [hn5] at e5; clear hn5 o4 b4 g4 hv; subst e5; have HC := Lib.hid C4; clear C4) | (refine step_appS kdP rfl _ _ rfl CM.out.b.size (v1 := .slice p3 n3 c3) (R1 := (cR (pg + x) (fP xs0 j)).parts.map ptC) rfl CM.out.o1 (p := some ⟨wr.heap.size, 0, none⟩) (m := 1) (c := 1) [[Value.string (nmP j), .int .i64 x, .int .i64 0]] (even_pt [⟨nmP j, x, 0⟩]) rfl rfl (fun e => by cases e) SM.out SZ.out ?_; intro v' w4 o4 b4 g4 hv; obtain ⟨k1, k2, C4⟩ := hz.out _ CM.out v' w4 o4 g4 hv; have yw := HY.out _ C4.b; obtain ⟨p5, c5, e5, -, -, -⟩ := ownS_form o4; obtain ⟨n5, hn5⟩ : ∃ n5, ((cR (pg + x) (fP xs0 j)).parts.map ptC ++ [[Value.string (nmP j), .int .i64 x, .int .i64 0]]).length = n5 := ⟨_, rfl⟩; rw [hn5] at e5; clear hn5 o4 b4 g4 hv; subst e5; have HC := Lib.hid C4; clear C4))
      all_goals
        clear hL1 hL2 hL3 hz SN SM SZ CN CM C2 HY HO y0 y0v y0n y0m z3v z3n z3m z3
        go_wp2
        go_roundw
        case rel => exact ⟨j + 1, hjl, by go_num, hok1.out, _, by rw [hpg1.out]; exact HC.out⟩
        case measure => simp [intOf]; omega
    · have hjm : j = n0 := by omega
      subst hjm
      have fr := fr_of hn hok hs
      have wfF := cR_wf hn.2 hok (pg := 4 + x1 + sN xs0 j) (by omega)
      have hgx := fun (k : Nat) (x : Int) (hx : xs0[k]? = some x) => gI_at hx
      obtain ⟨PG, hPG⟩ : ∃ PG, 4 + x1 + sN xs0 j = PG := ⟨_, rfl⟩
      rw [hPG] at fr wfF C
      have hj1 : (cR PG (fP xs0 j)).parts.length = j := fP_len xs0 j
      obtain ⟨q1, d1, q2, d2, q3, d3, e1, e2, e3, X⟩ := C.cx wfF
      rw [hj1] at e1
      subst e1
      injection e2 with e21 e22 e23
      injection e3 with e31 e32 e33
      subst e21 e23 e31 e33
      clear e22 e32
      have hcv : cfV (cR PG (fP xs0 j)) q1 d1 none 0 (some ⟨g3, 0, none⟩) 1 = .agg #[i64 PG, i64 10, i64 0, .slice q1 j d1, .slice none 0 0, .slice (some ⟨g3, 0, none⟩) 1 1] := by
        simp only [cfV, hj1]; rfl
      have hX := Lib.hid (fun (u : World) (hu : Below wr.heap.size wr u) => X.later hu (Nat.le_refl _) (Nat.le_refl _))
      have hS := Lib.hid (fun (u : World) (hu : Below wr.heap.size wr u) => (⟨hu, (C.kept hu).at 0 _ rfl, (C.kept hu).at 1 _ rfl, (C.kept hu).at 2 _ rfl, (C.kept hu).at 3 _ rfl, (C.kept hu).at 4 _ rfl, (C.kept hu).at 5 _ rfl⟩ : Below wr.heap.size wr u ∧ u.cell? ⟨hb, 0, none⟩ = some (i64 PG) ∧ u.cell? ⟨hb, 1, none⟩ = some (i64 10) ∧ u.cell? ⟨hb, 2, none⟩ = some (i64 0) ∧ u.cell? ⟨hb, 3, none⟩ = some (.slice q1 j d1) ∧ u.cell? ⟨hb, 4, none⟩ = some (.slice none 0 0) ∧ u.cell? ⟨hb, 5, none⟩ = some (.slice (some ⟨g3, 0, none⟩) 1 1)))
      have HF := Lib.hid (fun u hu (k : Nat) (hk : k < j) => by have := first_says (hX.out u hu) k; rw [hcv, fr.first k hk] at this; exact this)
      have HH := Lib.hid (fun u hu (k : Nat) (hk : k < j) => by have := host_says (hX.out u hu) k (gI xs0 k - 1); rw [hcv, fr.host k hk] at this; (try simp only at this); exact this)
      have HL := Lib.hid (fun u hu (k : Int) (h0 : 0 ≤ k) (h1 : k < x1) => by have := owner_says (hX.out u hu) (4 + sN xs0 j + k); rw [hcv, fr.left k h0 h1] at this; exact this)
      have HV := Lib.hid (fun u hu => by have := owner_says (hX.out u hu) (4 + sN xs0 j + x1); rw [hcv, fr.over] at this; exact this)
      have HN := Lib.hid (fun u hu => by have := owner_says (hX.out u hu) (-1); rw [hcv, fr.none] at this; exact this)
      have HE := Lib.hid (fun u hu => by have := first_says (hX.out u hu) j; rw [hcv, fr.last] at this; exact this)
      have HOB := Lib.hid (fun u (hu : Below wr.heap.size wr u) => HO.out u (C.b.trans (Below.mono hu C.b.size)))
      have HX := Lib.hid (fun u (hu : Below wr.heap.size wr u) (k : Nat) (x : Int) (hx : xs0[k]? = some x) => (by
        obtain ⟨b, off, hpb, hbl, y0⟩ := L0.cell1 k x hx
        exact ⟨b, off, hpb, (World.cell?_of_block (hu.block b (Nat.lt_of_lt_of_le hbl C.b.size))).trans ((World.cell?_of_block (C.b.block b hbl)).trans y0)⟩ : ∃ b off, p0 = some ⟨b, off, none⟩ ∧ u.cell? ⟨b, off + k, none⟩ = some (i64 x)))
      have hsum := Lib.hid (fun (k : Nat) (hk : k ≤ j) => sN_bd (n := k) (fun i hi => hok i (by omega)))
      have hokx := Lib.hid (fun (k : Nat) (hk : k < j) => hok k hk)
      clear C X hX fr wfF hcv hj1 L0 HO
      have hbs := hsum.out j (Nat.le_refl _)
      have hbP : 4 ≤ PG ∧ PG ≤ 300 := by omega
      clear hsb hok
      go_upto_region 12 with fail
      go_wp2
      go_loopw [8, 9, 10, 11] (fun a i _ _ u => Below wr.heap.size wr u ∧ ∃ k : Nat, k ≤ j ∧ i = .int .i64 k ∧ a = .int .i64 (4 + sN xs0 k)) (fun _ i _ _ _ => j - (intOf i).toNat)
      case atStart => exact ⟨Below.refl _ _, 0, Nat.zero_le _, rfl, rfl⟩
      case round =>
        rename World => wq
        obtain ⟨b2, k, hk, rfl, rfl⟩ := hrel
        have hb2 := Lib.hid b2
        obtain ⟨-, z0, z1, z2, z3, z4, z5⟩ := hS.out wq b2
        by_cases hkl : k < j
        · have hkI : (k : Int) < (j : Int) := by omega
          have hk8 : k < 8 := by omega
          obtain ⟨x, hx⟩ : ∃ x, xs0[k]? = some x := ⟨_, List.getElem?_eq_getElem (by omega)⟩
          have hgk := hgx k x hx
          have hxb := hokx.out k hkl
          rw [hgk] at hxb
          have hsk := hsum.out k (by omega)
          obtain ⟨b, off, hpb, -⟩ := HX.out wq b2 k x hx
          subst hpb
          have HY := Lib.hid (fun u (hu : Below wr.heap.size wr u) => (by
            obtain ⟨b', off', e', y'⟩ := HX.out u hu k x hx
            injection e' with e'
            injection e' with e1 e2
            subst e1 e2
            exact y' : u.cell? ⟨b, off + k, none⟩ = some (i64 x)))
          have hn1 := Lib.hid (by show sN xs0 k + gI xs0 k = _; rw [hgk] : sN xs0 (k + 1) = sN xs0 k + x)
          have dF := HF.out wq b2 k hkl
          have DH := Lib.hid (fun u hu => by have := HH.out u hu k hkl; rw [hgk] at this; exact this)
          obtain ⟨s, hs⟩ : ∃ s, sN xs0 k = s := ⟨_, rfl⟩
          rw [hs] at hsk dF hn1 ⊢
          simp only [hs] at DH
          replace dF := Lib.hid dF
          clear HF HH HL HV HN HE HOB HX hsum hokx hgx hx hs hgk b2
          go_upto_region 18 with (go_at_call 12; (with_reducible refine dF.out.mono ?_); rintro e wa ⟨rfl, hb⟩; have hwa := Lib.hid (hb2.out.trans (hb.mono (by have := hb2.out.size; omega))); clear hb)
          clear z0 z1 z2 z3 z4 z5 dF hb2
          have e1 : IntKind.i64.wrap (x - 1) = x - 1 := by rw [IntKind.wrap_i64]; omega
          have hSY := Lib.hid (fun u (hu : Below wr.heap.size wr u) => (⟨hu, (hS.out u hu).2, HY.out u hu⟩ : (fun u => Below wr.heap.size wr u ∧ (u.cell? ⟨hb, 0, none⟩ = some (i64 PG) ∧ u.cell? ⟨hb, 1, none⟩ = some (i64 10) ∧ u.cell? ⟨hb, 2, none⟩ = some (i64 0) ∧ u.cell? ⟨hb, 3, none⟩ = some (.slice q1 j d1) ∧ u.cell? ⟨hb, 4, none⟩ = some (.slice none 0 0) ∧ u.cell? ⟨hb, 5, none⟩ = some (.slice (some ⟨g3, 0, none⟩) 1 1)) ∧ u.cell? ⟨b, off + k, none⟩ = some (i64 x)) u))
          refine wp_region_held_drew (S := (fun u => Below wr.heap.size wr u ∧ (u.cell? ⟨hb, 0, none⟩ = some (i64 PG) ∧ u.cell? ⟨hb, 1, none⟩ = some (i64 10) ∧ u.cell? ⟨hb, 2, none⟩ = some (i64 0) ∧ u.cell? ⟨hb, 3, none⟩ = some (.slice q1 j d1) ∧ u.cell? ⟨hb, 4, none⟩ = some (.slice none 0 0) ∧ u.cell? ⟨hb, 5, none⟩ = some (.slice (some ⟨g3, 0, none⟩) 1 1)) ∧ u.cell? ⟨b, off + k, none⟩ = some (i64 x))) (by kernel_rfl) ?_ (fun hH0 => ?_)
          · ((try dsimp only); (first | assumption | exact hSY.out _ hwa.out | exact hSY.out _ hwa.out.drew | exact hSY.out _ ((‹Below wr.heap.size wr _ ∧ _›).1.trans ((‹Below (World.heap _).size _ _›).mono (‹Below wr.heap.size wr _ ∧ _›).1.size))))
          refine wpAnyH_take (i := 0) (oi := { dst := some 92, op := Go.Op.load 26 (Go.Operand.tmp 6), type := 26, pos := "rows.go:29", after := #[], guard := none }) (v := ?_) rfl (by kernel_rfl) (by kernel_rfl) (by kernel_rfl) (fun _ _ _ h => h) (Or.inl ⟨by rfl, ?_⟩) (by assumption) ?_
          rotate_left
          · ((intro w hSw; (try dsimp only at hSw); go_simp) <;> (with_reducible rfl))
          try simp only [Act.put, List.setIfInBounds_toArray, List.set_cons_zero, List.set_cons_succ]
          refine wpAnyH_take (i := 1) (oi := { dst := some 93, op := Go.Op.move (Go.Operand.tmp 9), type := 3, pos := "rows.go:29", after := #[], guard := none }) (v := ?_) rfl (by kernel_rfl) (by kernel_rfl) (by kernel_rfl) (fun _ _ _ h => h) (Or.inl ⟨by rfl, ?_⟩) (by assumption) ?_
          rotate_left
          · ((intro w hSw; (try dsimp only at hSw); go_simp) <;> (with_reducible rfl))
          try simp only [Act.put, List.setIfInBounds_toArray, List.set_cons_zero, List.set_cons_succ]
          refine wpAnyH_take (i := 2) (oi := { dst := some 94, op := Go.Op.move (Go.Operand.tmp 0), type := 39, pos := "rows.go:29", after := #[], guard := none }) (v := ?_) rfl (by kernel_rfl) (by kernel_rfl) (by kernel_rfl) (fun _ _ _ h => h) (Or.inl ⟨by rfl, ?_⟩) (by assumption) ?_
          rotate_left
          · ((intro w hSw; (try dsimp only at hSw); go_simp) <;> (with_reducible rfl))
          try simp only [Act.put, List.setIfInBounds_toArray, List.set_cons_zero, List.set_cons_succ]
          refine wpAnyH_take (i := 3) (oi := { dst := some 95, op := Go.Op.move (Go.Operand.tmp 9), type := 3, pos := "rows.go:29", after := #[], guard := none }) (v := ?_) rfl (by kernel_rfl) (by kernel_rfl) (by kernel_rfl) (fun _ _ _ h => h) (Or.inl ⟨by rfl, ?_⟩) (by assumption) ?_
          rotate_left
          · ((intro w hSw; (try dsimp only at hSw); go_simp) <;> (with_reducible rfl))
          try simp only [Act.put, List.setIfInBounds_toArray, List.set_cons_zero, List.set_cons_succ]
          refine wpAnyH_take (i := 4) (oi := { dst := some 96, op := Go.Op.indexAddr 39 (Go.Operand.tmp 94) (Go.Operand.tmp 95), type := 0, pos := "rows.go:29", after := #[{ on := 2, ground := Go.Ground.data }, { on := 3, ground := Go.Ground.data }], guard := none }) (v := ?_) rfl (by kernel_rfl) (by kernel_rfl) (by kernel_rfl) (fun _ _ _ h => h) (Or.inl ⟨by rfl, ?_⟩) (by assumption) ?_
          rotate_left
          · ((intro w hSw; (try dsimp only at hSw); go_simp) <;> (with_reducible rfl))
          try simp only [Act.put, List.setIfInBounds_toArray, List.set_cons_zero, List.set_cons_succ]
          refine wpAnyH_take (i := 5) (oi := { dst := some 97, op := Go.Op.load 3 (Go.Operand.tmp 96), type := 3, pos := "rows.go:29", after := #[{ on := 4, ground := Go.Ground.data }], guard := none }) (v := ?_) rfl (by kernel_rfl) (by kernel_rfl) (by kernel_rfl) (fun _ _ _ h => h) (Or.inl ⟨by rfl, ?_⟩) (by assumption) ?_
          rotate_left
          · ((intro w hSw; (try dsimp only at hSw); go_simp) <;> (with_reducible rfl))
          try simp only [Act.put, List.setIfInBounds_toArray, List.set_cons_zero, List.set_cons_succ]
          refine wpAnyH_take (i := 6) (oi := { dst := some 98, op := Go.Op.binOp Go.BinOp.sub 3 (Go.Operand.tmp 97) (Go.Operand.const (Go.Value.int Go.IntKind.i64 1)) 3, type := 3, pos := "rows.go:29", after := #[{ on := 5, ground := Go.Ground.data }], guard := none }) (v := ?_) rfl (by kernel_rfl) (by kernel_rfl) (by kernel_rfl) (fun _ _ _ h => h) (Or.inl ⟨by rfl, ?_⟩) (by assumption) ?_
          rotate_left
          · ((intro w hSw; (try dsimp only at hSw); go_simp) <;> (with_reducible rfl))
          try simp only [Act.put, List.setIfInBounds_toArray, List.set_cons_zero, List.set_cons_succ]
          refine wpAnyH_ready (rs := [7]) (by kernel_rfl) (by simp) ?_
          refine AllReadyH.cons (o := { dst := some 99, op := Go.Op.call { callee := Go.Callee.value (Go.Operand.func 8), args := #[Go.Operand.tmp 92, Go.Operand.tmp 93, Go.Operand.tmp 98], argTypes := #[26, 3, 3] }, type := 29, pos := "rows.go:29", after := #[{ on := 0, ground := Go.Ground.data }, { on := 1, ground := Go.Ground.data }, { on := 6, ground := Go.Ground.data }], guard := none }) rfl (fun K hK => ?_) AllReadyH.nil
          go_simp
          (go_at_call 8; (with_reducible refine (DH.out _ (‹Below wr.heap.size wr _ ∧ _›).1).mono ?_); rintro e t2 ⟨rfl, hb9⟩)
          refine hK.out _ _ ?_ (fun hH1 => ?_)
          · ((try dsimp only); (first | assumption | exact hSY.out _ hwa.out | exact hSY.out _ hwa.out.drew | exact hSY.out _ ((‹Below wr.heap.size wr _ ∧ _›).1.trans ((‹Below (World.heap _).size _ _›).mono (‹Below wr.heap.size wr _ ∧ _›).1.size))))
          clear hK K hH0
          try simp only [Act.put, List.setIfInBounds_toArray, List.set_cons_zero, List.set_cons_succ]
          refine wpAnyH_take (i := 8) (oi := { dst := some 91, op := Go.Op.move (Go.Operand.tmp 99), type := 29, pos := "rows.go:29", after := #[{ on := 7, ground := Go.Ground.data }], guard := none }) (v := ?_) rfl (by kernel_rfl) (by kernel_rfl) (by kernel_rfl) (fun _ _ _ h => h) (Or.inl ⟨by rfl, ?_⟩) (by assumption) ?_
          rotate_left
          · ((intro w hSw; (try dsimp only at hSw); go_simp) <;> (with_reducible rfl))
          try simp only [Act.put, List.setIfInBounds_toArray, List.set_cons_zero, List.set_cons_succ]
          refine wpAnyH_take (i := 9) (oi := { dst := some 100, op := Go.Op.extract (Go.Operand.tmp 91) 0, type := 3, pos := "rows.go:29", after := #[{ on := 8, ground := Go.Ground.data }], guard := none }) (v := ?_) rfl (by kernel_rfl) (by kernel_rfl) (by kernel_rfl) (fun _ _ _ h => h) (Or.inl ⟨by rfl, ?_⟩) (by assumption) ?_
          rotate_left
          · ((intro w hSw; (try dsimp only at hSw); go_simp) <;> (with_reducible rfl))
          try simp only [Act.put, List.setIfInBounds_toArray, List.set_cons_zero, List.set_cons_succ]
          refine wpAnyH_take (i := 10) (oi := { dst := some 101, op := Go.Op.extract (Go.Operand.tmp 91) 1, type := 4, pos := "rows.go:29", after := #[{ on := 8, ground := Go.Ground.data }, { on := 11, ground := Go.Ground.gcOnly Go.Departure.lateStores }], guard := none }) (v := ?_) rfl (by kernel_rfl) (by kernel_rfl) (by kernel_rfl) (fun _ _ _ h => h) (Or.inl ⟨by rfl, ?_⟩) (by assumption) ?_
          rotate_left
          · ((intro w hSw; (try dsimp only at hSw); go_simp) <;> (with_reducible rfl))
          try simp only [Act.put, List.setIfInBounds_toArray, List.set_cons_zero, List.set_cons_succ]
          refine wpAnyH_take (i := 11) (oi := { dst := some 10, op := Go.Op.assign (Go.Operand.tmp 100), type := 3, pos := "rows.go:29", after := #[{ on := 9, ground := Go.Ground.data }, { on := 7, ground := Go.Ground.chain }, { on := 0, ground := Go.Ground.phase }, { on := 1, ground := Go.Ground.phase }, { on := 2, ground := Go.Ground.phase }, { on := 3, ground := Go.Ground.phase }, { on := 4, ground := Go.Ground.phase }, { on := 5, ground := Go.Ground.phase }, { on := 6, ground := Go.Ground.phase }, { on := 7, ground := Go.Ground.phase }, { on := 8, ground := Go.Ground.phase }, { on := 9, ground := Go.Ground.phase }, { on := 10, ground := Go.Ground.textOnly Go.Departure.lateStores }], guard := none }) (v := ?_) rfl (by kernel_rfl) (by kernel_rfl) (by kernel_rfl) (fun _ _ _ h => h) (Or.inl ⟨by rfl, ?_⟩) (by assumption) ?_
          rotate_left
          · ((intro w hSw; (try dsimp only at hSw); go_simp) <;> (with_reducible rfl))
          try simp only [Act.put, List.setIfInBounds_toArray, List.set_cons_zero, List.set_cons_succ]
          refine wpAnyH_take (i := 12) (oi := { dst := some 11, op := Go.Op.assign (Go.Operand.tmp 101), type := 4, pos := "rows.go:29", after := #[{ on := 10, ground := Go.Ground.data }, { on := 11, ground := Go.Ground.chain }, { on := 0, ground := Go.Ground.phase }, { on := 1, ground := Go.Ground.phase }, { on := 2, ground := Go.Ground.phase }, { on := 3, ground := Go.Ground.phase }, { on := 4, ground := Go.Ground.phase }, { on := 5, ground := Go.Ground.phase }, { on := 6, ground := Go.Ground.phase }, { on := 7, ground := Go.Ground.phase }, { on := 8, ground := Go.Ground.phase }, { on := 9, ground := Go.Ground.phase }, { on := 10, ground := Go.Ground.phase }, { on := 11, ground := Go.Ground.phase }], guard := none }) (v := ?_) rfl (by kernel_rfl) (by kernel_rfl) (by kernel_rfl) (fun _ _ _ h => h) (Or.inl ⟨by rfl, ?_⟩) (by assumption) ?_
          rotate_left
          · ((intro w hSw; (try dsimp only at hSw); go_simp) <;> (with_reducible rfl))
          try simp only [Act.put, List.setIfInBounds_toArray, List.set_cons_zero, List.set_cons_succ]
          refine wpAnyH_done (by kernel_rfl) ?_ _
          all_goals
            have hr := Lib.hid (‹Below wr.heap.size wr _ ∧ _›).1
            rename World => wz
            have yz := HY.out wz hr.out
            have e2 : IntKind.i64.wrap (4 + s + x) = 4 + s + x := by rw [IntKind.wrap_i64]; omega
            have e3 : IntKind.i64.wrap (4 + s + x - 1) = 4 + s + x - 1 := by rw [IntKind.wrap_i64]; omega
            have e4 : (4 + s + (x - 1) == 4 + s + x - 1) = true := by simp; omega
            clear hSY DH HY hS
            go_wp2
            go_roundw
            case rel => exact ⟨hr.out, k + 1, hkl, by go_num, by rw [hn1.out, Int.add_assoc]⟩
            case measure => simp [intOf]; omega
        · have hkj : k = j := by omega
          subst hkj
          obtain ⟨s, hs⟩ : ∃ s, sN xs0 k = s := ⟨_, rfl⟩
          rw [hs] at hbs ⊢
          simp only [hs] at HL HV
          clear HF HH HX hsum hokx hgx b2 hs hPG
          go_upto_region 22 with fail
          go_wp2
          clear z0 z1 z2 z3 z4 z5
          go_loopw [12] (fun i u => Below wr.heap.size wr u ∧ ∃ q : Nat, (q : Int) ≤ x1 ∧ i = .int .i64 q) (fun i _ => x1.toNat - (intOf i).toNat)
          case atStart => exact ⟨hb2.out, 0, by omega, rfl⟩
          case round =>
            rename World => wy
            obtain ⟨b2, q, hq, rfl⟩ := hrel
            clear hb2
            have hb2 := Lib.hid b2
            obtain ⟨-, z0, z1, z2, z3, z4, z5⟩ := hS.out wy b2
            by_cases hql : (q : Int) < x1
            · have hqI : (q : Int) < x1 := hql
              have dL := Lib.hid (HL.out wy b2 (q : Int) (by omega) hql)
              have e1 : IntKind.i64.wrap (4 + s + (q : Int)) = 4 + s + q := by rw [IntKind.wrap_i64]; omega
              clear HL HV HN HE HOB hS b2
              go_wp2_with (go_at_call 14; (with_reducible refine dL.out.mono ?_); rintro e wa ⟨rfl, hb⟩; have hwa := Lib.hid (hb2.out.trans (hb.mono (by have := hb2.out.size; omega))); clear hb)
              go_roundw
              case rel => exact ⟨hwa.out, q + 1, by omega, by go_num⟩
              case measure => simp [intOf]; omega
            · have hqx : x1 = (q : Int) := by omega
              have e1 : IntKind.i64.wrap (4 + s + x1) = 4 + s + x1 := by rw [IntKind.wrap_i64]; omega
              replace hqx := Lib.hid hqx
              clear HL b2
              go_upto_region 27 with fail
              have HB := Lib.hid hb2.out
              clear hb2
              go_wp2_with (first | (go_at_call 12; (with_reducible refine (HE.out _ HB.out).mono ?_); rintro e wa ⟨rfl, hb9⟩; replace HB := Lib.hid (HB.out.trans (hb9.mono HB.out.size)); clear hb9; obtain ⟨-, z0, z1, z2, z3, z4, z5⟩ := hS.out wa HB.out) | (go_at_call 14; (with_reducible refine (HV.out _ HB.out).mono ?_); rintro e wa ⟨rfl, hb9⟩; replace HB := Lib.hid (HB.out.trans (hb9.mono HB.out.size)); clear hb9; obtain ⟨-, z0, z1, z2, z3, z4, z5⟩ := hS.out wa HB.out) | (go_at_call 14; (with_reducible refine (HN.out _ HB.out).mono ?_); rintro e wa ⟨rfl, hb9⟩; replace HB := Lib.hid (HB.out.trans (hb9.mono HB.out.size)); clear hb9; obtain ⟨-, z0, z1, z2, z3, z4, z5⟩ := hS.out wa HB.out))
              exact HOB.out _ HB.out
theorem lifted (os : Os) (started : os.Started) (H : Type) (enc : TypeId × Value → H) :
    ReturnsInHanded {} Try.checked os 5 .any (Rows.framesRowsSpec.pre6 enc Try.prog Try.f5 Rows.framesRowsRow.domain false) (Rows.framesRowsSpec.post enc Try.prog Try.f5 false true false false) := by
  refine returnsInHanded_of_change (C := Try.checked) own started (by kernel_rfl) Try.func5
    (ChangeSpec.witness6 (enc := enc) (C := Try.checked) false ⟨#[], #[.slice none 0 0, .int .i64 0], []⟩ 8 (by kernel_rfl) (by kernel_rfl) (by kernel_rfl) (by kernel_rfl)) ?_
  intro W base args ds gs before hval0 hW hcnd _
  have hval : ∀ (j : Nat) t v, Try.f5.params[j]? = some t → args[j]? = some v → Value.okWide Try.prog W .any base t v := hval0
  have hW' := hW
  obtain ⟨p, q, hA0, hV, rfl, hfz, hnd⟩ := hW
  have hA : DataW.TrodAll enc Try.prog W 0 (fun _ => true) true Try.f5.params.toList args.toList ds p := hA0
  rw [Try.params5] at hA hval
  obtain ⟨v0, vs0, d0, ds0, p0, q0, hargs, rfl, rfl, h0, r0⟩ := trodAll_cons hA
  obtain ⟨v1, vs1, d1, ds1, p1, q1, rfl, rfl, rfl, h1, r1⟩ := trodAll_cons r0
  obtain ⟨rfl, rfl, rfl⟩ := trodAll_nil r1
  obtain rfl : args = #[v0, v1] := by cases args; simp_all
  obtain ⟨rfl, rfl⟩ := trodVars_none hV
  have hlt0 : ∀ x ∈ p0, x.block < W.heap.size := fun x hx => hW'.lt x (by simp [hx])
  obtain ⟨p0, n0, k0, xs0, rfl, L0, H0, m0⟩ := open_intsC (hval 0 39 v0 rfl rfl) h0
  obtain ⟨x1, rfl, rfl, rfl, w1⟩ := open_int Try.underlying3 (hval 1 3 v1 rfl rfl) h1
  clear hA0 hval0
  simp only [List.append_nil] at hW'
  refine (walk W L0 H0 m0 x1 w1).mono fun e W' ⟨he, hg⟩ => ?_
  subst he
  exact ⟨_, rfl, _, _, _, [], _, [], hW', (trodAll_cons_mk (shut_bool Try.underlying4 _) trodAll_mk0), (trodAll_cons_mk (Below.trod laidOut (by kernel_rfl) (of_decide_eq_true (by kernel_rfl)) h0 hg hlt0) (trodAll_cons_mk (shut_int Try.underlying3 w1) trodAll_mk0)), rfl, hg.frame _, fun h => by cases h⟩
theorem over : Rows.framesRowsRow.holds Try.pinned (OpenSpec.ofChange Rows.framesRowsSpec) :=
  OpenClaim.holds_of_wide 5 Try.f5 rfl rfl rfl rfl rfl rfl rfl ⟨rfl, rfl, rfl, rfl, rfl⟩ rfl rfl rfl rfl rfl (by kernel_rfl) Try.func5 (by kernel_rfl)
    (of_decide_eq_true (by kernel_rfl)) (by unfold Func.isWrapper; first | (rw [if_pos (by decide +kernel)]; kernel_rfl) | (rw [if_neg (by decide +kernel)]; exact ⟨rfl, rfl⟩))
    (fun os started H enc _ => lifted os started H enc)
/-- THE STATEMENT. -/
theorem proved : Rows.FramesRowsSaid :=
  over
end Go.Proofs.Ytlddclkophajbaa.framesRows
