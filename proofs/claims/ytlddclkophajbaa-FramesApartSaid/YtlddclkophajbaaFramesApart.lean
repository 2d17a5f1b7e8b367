/-
  No frame is two partitions', each frame of a partition leads there and back, and none is the hypervisor's, of every configuration (law FramesApart returns true, and each argument reads as it read).
  No condition: whatever the arguments are.
-/
import Derived.Test.YtlddclkophajbaaPlnO
import Derived.Test.YtlddclkophajbaaFrmJ
import Derived.Test.YtlddclkophajbaaCfgBig
namespace Go.Proofs.Ytlddclkophajbaa.framesApart
open Go.Proofs.Ytlddclkophajbaa Go.Proofs.Ytlddclkophajbaa.Cfg
open Go.ChangeShapes Go.WideShapes Go.ChangeAt Go.RowKit
set_option maxRecDepth 100000
set_option linter.unusedVariables false

set_option maxHeartbeats 8000000 in
theorem walk (W : World) {c0 : Cf} {p1_0 : Option Addr} {k1_0 : Nat} {p2_0 : Option Addr} {k2_0 : Nat} {p3_0 : Option Addr} {k3_0 : Nat} (X0 : Cx W W.heap.size c0 p1_0 k1_0 p2_0 k2_0 p3_0 k3_0) :
    Calls Try.prog 4 #[cfV c0 p1_0 k1_0 p2_0 k2_0 p3_0 k3_0] W fun e w' => e = .returned (.bool true) ∧ Below W.heap.size W w' := by
  obtain ⟨r, hr⟩ : ∃ r : Ending → World → Prop, r = fun e w' => e = .returned (.bool true) ∧ Below W.heap.size W w' := ⟨_, rfl⟩
  rw [← hr]
  obtain ⟨h, hhz⟩ : ∃ h, W.heap.size = h := ⟨_, rfl⟩
  have HO := Lib.hid (fun u (b : Below h W u) => (by rw [hr]; exact ⟨rfl, hhz ▸ b⟩ : r (.returned (.bool true)) u))
  clear hr
  have hx := Lib.hid (fun (u : World) (hu : Below h W u) => X0.later hu (Nat.le_of_eq hhz) (by omega))
  have HG := Lib.hid (fun (u : World) (hu : Below h W u) => big_says (hx.out u hu))
  have HC := Lib.hid (fun (u : World) (hu : Below h W u) => rcheck_cx (hx.out u hu))
  have HH := Lib.hid (fun (u : World) (hu : Below h W u) (a b : Int) => host_says (hx.out u hu) a b)
  have HU := Lib.hid (fun (u : World) (hu : Below h W u) (a : Int) => guest_says (hx.out u hu) a)
  have HW := Lib.hid (fun (u : World) (hu : Below h W u) (a : Int) => owner_says (hx.out u hu) a)
  have hap := Lib.hid (fun (g : chk c0 = 0) => ap_of g)
  have L1 := Lib.hid (hhz ▸ X0.L1)
  obtain ⟨kk, hkk⟩ : ∃ kk, chk c0 = kk := ⟨_, rfl⟩
  simp only [hkk] at HC hap
  clear hkk
  obtain ⟨pg, qpg⟩ : ∃ pg, c0.pages = pg := ⟨_, rfl⟩
  obtain ⟨mj, qmj⟩ : ∃ mj, c0.major = mj := ⟨_, rfl⟩
  obtain ⟨sw, qsw⟩ : ∃ sw, c0.switch = sw := ⟨_, rfl⟩
  obtain ⟨n1, qn1⟩ : ∃ n1, c0.parts.length = n1 := ⟨_, rfl⟩
  obtain ⟨n2, qn2⟩ : ∃ n2, c0.chans.length = n2 := ⟨_, rfl⟩
  obtain ⟨m, qm⟩ : ∃ m, c0.wins.length = m := ⟨_, rfl⟩
  simp only [cfV, qpg, qmj, qsw, qn1, qn2, qm] at HG HC HH HU HW L1
  simp only [cfV, qpg, qmj, qsw, qn1, qn2, qm]
  have qpgc := Lib.hid qpg
  have qn1c := Lib.hid qn1
  clear hx qpg qmj qsw qn1 qn2 qm
  obtain ⟨w1, hw1⟩ : ∃ w1, w1 = W.alloc (.cells #[i64 pg, i64 mj, i64 sw, .slice p1_0 n1 k1_0, .slice p2_0 n2 k2_0, .slice p3_0 m k3_0] 26) := ⟨_, rfl⟩
  have b1 := Lib.hid (by rw [hw1]; exact (Below.refl _ _).alloc (Nat.le_of_eq hhz.symm) _ : Below h W w1)
  have hg1 : w1.heap.size = h + 1 := by rw [hw1, ← hhz]; simp
  have hZ := Lib.hid (fun k v hv => by
    rw [hw1, ← hhz, cell_of_row _ _ k _ _ _ (heap_alloc_new _ _), ← Array.getElem?_toList]; exact hv : ∀ (k : Nat) (v : Value), [i64 pg, i64 mj, i64 sw, Value.slice p1_0 n1 k1_0, .slice p2_0 n2 k2_0, .slice p3_0 m k3_0][k]? = some v → w1.cell? ⟨h, k, none⟩ = some v)
  have hS := Lib.hid (fun u (b : Below (h + 1) w1 u) => (by
    have hZ2 := fun k v hv => (World.cell?_of_block (b.block h (Nat.lt_succ_self _))).trans (hZ.out k v hv)
    exact ⟨b, hZ2 0 _ rfl, hZ2 1 _ rfl, hZ2 2 _ rfl, hZ2 3 _ rfl, hZ2 4 _ rfl, hZ2 5 _ rfl⟩ : (fun u => Below (h + 1) w1 u ∧ u.cell? ⟨h, 0, none⟩ = some (i64 pg) ∧ u.cell? ⟨h, 1, none⟩ = some (i64 mj) ∧ u.cell? ⟨h, 2, none⟩ = some (i64 sw) ∧ u.cell? ⟨h, 3, none⟩ = some (.slice p1_0 n1 k1_0) ∧ u.cell? ⟨h, 4, none⟩ = some (.slice p2_0 n2 k2_0) ∧ u.cell? ⟨h, 5, none⟩ = some (.slice p3_0 m k3_0)) u))
  have HBB := Lib.hid (fun u (hu : Below (h + 1) w1 u) => b1.out.trans (hu.mono (Nat.le_succ _)))
  clear hZ
  go_enter Try.func4, Try.ntmps4
  go_upto_region 1 with fail
  try simp only [hhz]
  rw [← hw1]
  clear hw1
  go_upto_region 2 with (go_at_call 6; (with_reducible refine (alive16 _).mono ?_); rintro e w2 ⟨rfl, hb⟩; have hw2 := Lib.hid (hb.mono (Nat.le_of_eq hg1.symm)); clear hb)
  obtain ⟨-, z0, z1, z2, z3, z4, z5⟩ := hS.out w2 hw2.out
  have hc := Lib.hid (HG.out w2 (HBB.out _ hw2.out))
  go_upto_region 3 with (go_at_call 7; (with_reducible refine hc.out.mono ?_); rintro e w3 ⟨big, rfl, hb⟩; have hw3 := Lib.hid (hw2.out.trans (hb.mono (by have := hw2.out.size; omega))); clear hb)
  clear z0 z1 z2 z3 z4 z5 hc HG
  obtain ⟨-, z0, z1, z2, z3, z4, z5⟩ := hS.out w3 hw3.out
  cases big with
  | true =>
    go_wp2
    exact HO.out _ (HBB.out _ hw3.out)
  | false =>
    have hc := Lib.hid (HC.out w3 (HBB.out _ hw3.out))
    go_upto_if 27 with (go_at_call 15; (with_reducible refine hc.out.mono ?_); rintro e w4 ⟨rfl, hb⟩; have hw4 := Lib.hid (hw3.out.trans (hb.mono (by have := hw3.out.size; omega))); clear hb)
    clear z0 z1 z2 z3 z4 z5 hc hw2 HC
    by_cases k0 : kk = 0
    rotate_left
    · have k3 : (kk != 0) = true := by simpa using k0
      go_wp2
      exact HO.out _ (HBB.out _ hw4.out)
    subst k0
    have ap := hap.out rfl
    clear hap
    have hmk := run_seen w4
    obtain ⟨g, hg⟩ : ∃ g, w4.heap.size = g := ⟨_, rfl⟩
    have hgl : h + 1 ≤ g := by rw [← hg, ← hg1]; exact hw4.out.size
    rw [hg] at hmk
    go_upto_region 6 with fail
    have hb5 : Below (h + 1) w1 (w4.alloc (.cells (seenRow 4) 4)) := hw4.out.alloc (by omega) _
    have hs5 : Sn (w4.alloc (.cells (seenRow 4) 4)) (h + 1) g 4 := ⟨hgl, by rw [← hg]; exact heap_alloc_new _ _⟩
    obtain ⟨w5, hw5⟩ : ∃ w5, w5 = w4.alloc (.cells (seenRow 4) 4) := ⟨_, rfl⟩
    rw [← hw5] at hb5 hs5 ⊢
    clear hw5 hg hmk hw3 hw4
    replace hb5 := Lib.hid hb5
    replace hs5 := Lib.hid hs5
    have hpc := qpgc.out
    have hlc := qn1c.out
    have hln := ap.ln
    have hpg := ap.pg
    rw [hpc] at hpg
    rw [hlc] at hln
    have hap := Lib.hid ap
    clear ap
    -- the contracts at a world of the loops
    have CH := Lib.hid (fun (u : World) (hu : Below (h + 1) w1 u) (k : Nat) (x : Pt) (hx : c0.parts[k]? = some x) (i : Int) (h0 : 0 ≤ i) (h1 : i < x.pages) => by
      have := HH.out u (HBB.out _ hu) k i
      rw [(hap.out.here k x hx i h0 h1).1] at this
      exact this)
    have CM := Lib.hid (fun (u : World) (hu : Below (h + 1) w1 u) (k : Nat) (x : Pt) (hx : c0.parts[k]? = some x) => by
      have := HH.out u (HBB.out _ hu) k x.pages
      rw [hap.out.more k x hx] at this
      (try simp only at this)
      exact this)
    have CG := Lib.hid (fun (u : World) (hu : Below (h + 1) w1 u) (k : Nat) (x : Pt) (hx : c0.parts[k]? = some x) (i : Int) (h0 : 0 ≤ i) (h1 : i < x.pages) => by
      have := HU.out u (HBB.out _ hu) (4 + sumTo c0.parts k + i)
      rw [(hap.out.here k x hx i h0 h1).2] at this
      exact this)
    have CO := Lib.hid (fun (u : World) (hu : Below (h + 1) w1 u) (k : Nat) (x : Pt) (hx : c0.parts[k]? = some x) (i : Int) (h0 : 0 ≤ i) (h1 : i < x.pages) => by
      have := HW.out u (HBB.out _ hu) (4 + sumTo c0.parts k + i)
      rw [(hap.out.here k x hx i h0 h1).2] at this
      exact this)
    have CW := Lib.hid (fun (u : World) (hu : Below (h + 1) w1 u) (a : Int) => HW.out u (HBB.out _ hu) a)
    clear HH HU HW
    replace L1 := Lib.hid (L1.out.kept b1.out (Nat.le_refl _))
    go_wp2
    go_loopw [6, 7, 8, 9, 10, 11, 12, 13] (fun i _ _ _ _ _ _ _ wr => Below (h + 1) w1 wr ∧ ∃ j T : Nat, j ≤ n1 ∧ i = .int .i64 j ∧ (T : Int) = 4 + sumTo c0.parts j ∧ Sn wr (h + 1) g T) (fun i _ _ _ _ _ _ _ _ => n1 - (intOf i).toNat)
    case atStart => exact ⟨hb5.out, 0, 4, Nat.zero_le _, rfl, by rw [sumTo_zero]; rfl, hs5.out⟩
    case round =>
      obtain ⟨b2, j, T, hj, rfl, hT, sn⟩ := hrel
      have hb2 := Lib.hid b2
      have hsn := Lib.hid sn
      obtain ⟨-, z0, z1, z2, z3, z4, z5⟩ := hS.out wr b2
      by_cases hjl : j < n1
      · have hjm : (j : Int) < (n1 : Int) := by omega
        have hjb : j < 8 := by omega
        obtain ⟨x, hx⟩ : ∃ x, c0.parts[j]? = some x := ⟨_, List.getElem?_eq_getElem (by omega)⟩
        obtain ⟨b, off, rfl, hbl, v0, v1, v2⟩ := (L1.out.kept b2 (Nat.le_succ _)).cell3 j x hx rfl
        have HY := Lib.hid (fun (u : World) (hu : Below (h + 1) w1 u) => ((L1.out.kept hu (Nat.le_succ _)).cell3 j x hx rfl))
        have hbd := hap.out.bd j x hx
        obtain ⟨sj, hsj⟩ : ∃ sj, sumTo c0.parts j = sj := ⟨_, rfl⟩
        obtain ⟨sk, hsk⟩ : ∃ sk, sumTo c0.parts (j + 1) = sk := ⟨_, rfl⟩
        have DH := Lib.hid (fun u hu => CH.out u hu j x hx)
        have DM := Lib.hid (fun u hu => CM.out u hu j x hx)
        have DG := Lib.hid (fun u hu => CG.out u hu j x hx)
        have DO := Lib.hid (fun u hu => CO.out u hu j x hx)
        rw [hsj] at hbd hT
        rw [hsk, hpc] at hbd
        simp only [hsj] at DH DG DO
        obtain ⟨nm, y, ac⟩ := x
        simp only at v0 v1 v2 hbd DH DM DG DO
        clear b2 sn hs5 hb5 CH CM CG CO CW hx hsj L1
        replace HO := Lib.hid HO.out
        go_upto_region 9 with fail
        go_wp2
        clear z0 z1 z2 z3 z4 z5 v0 v1 v2
        go_loopw [7, 8, 9, 10, 11] (fun i _ _ _ _ wr => Below (h + 1) w1 wr ∧ ∃ k T : Nat, (k : Int) ≤ y ∧ i = .int .i64 k ∧ (T : Int) = 4 + sj + k ∧ Sn wr (h + 1) g T) (fun i _ _ _ _ _ => y.toNat - (intOf i).toNat)
        case atStart => exact ⟨hb2.out, 0, T, by omega, rfl, by omega, hsn.out⟩
        case round =>
          rename World => wq
          obtain ⟨b2, k, T, hk, rfl, hT, sn⟩ := hrel
          clear hb2 hsn
          have hb2 := Lib.hid b2
          have hsn := Lib.hid sn
          obtain ⟨-, z0, z1, z2, z3, z4, z5⟩ := hS.out wq b2
          obtain ⟨b', off', e', -, v0, v1, v2⟩ := HY.out wq b2
          injection e' with e'
          injection e' with e1 e2
          subst e1 e2
          by_cases hkl : (k : Int) < y
          · have hkm : (k : Int) < y := hkl
            have T4 : (4 : Int) ≤ T := by omega
            have T4n : 4 ≤ T := by omega
            have TP : (T : Int) < pg := by omega
            have TN : T < 257 := by omega
            have TI : (T : Int) < 257 := by omega
            replace hT := Lib.hid hT
            have dh := DH.out wq b2 (k : Int) (by omega) hkl
            rw [← hT.out] at dh
            (try simp only at dh)
            have hdh := Lib.hid dh
            clear dh
            go_upto_region 13 with (go_at_call 8; (with_reducible refine hdh.out.mono ?_); rintro e wa ⟨rfl, hb⟩; have hwa := Lib.hid hb; clear hb)
            have sa := hsn.out.kept hwa.out
            have ba := hb2.out.trans (hwa.out.mono (by have := hb2.out.size; omega))
            have hsa := Lib.hid sa
            have hba := Lib.hid ba
            clear z0 z1 z2 z3 z4 z5 v0 v1 v2 hdh hwa hsn hb2 b2 sn
            obtain ⟨-, z0, z1, z2, z3, z4, z5⟩ := hS.out wa ba
            have sc := sa.at T TN
            rw [decide_eq_false (by omega)] at sc
            have sf := sa.fr T
            clear sa ba
            go_upto_region 16 with fail
            have hsb' := hsa.out.set T4n TN
            have hbb' := below_setCell hba.out g T hgl (.bool true)
            obtain ⟨wb, hwb⟩ : ∃ wb, wb = wa.setCell ⟨g, T, none⟩ (.bool true) := ⟨_, rfl⟩
            rw [← hwb] at hsb' hbb' ⊢
            have hsb := Lib.hid hsb'
            have hbb := Lib.hid hbb'
            clear hwb z0 z1 z2 z3 z4 z5 sc sf hsa hba hsb' hbb'
            obtain ⟨-, z0, z1, z2, z3, z4, z5⟩ := hS.out wb hbb.out
            have dh := DG.out wb hbb.out (k : Int) (by omega) hkl
            rw [← hT.out] at dh
            (try simp only at dh)
            have hdh := Lib.hid dh
            clear dh
            go_upto_region 17 with (go_at_call 10; (with_reducible refine hdh.out.mono ?_); rintro e wc ⟨rfl, hb⟩; have hwc := Lib.hid hb; clear hb)
            have hsc := Lib.hid (hsb.out.kept hwc.out)
            have hbc := Lib.hid (hbb.out.trans (hwc.out.mono (by have := hbb.out.size; omega)))
            clear z0 z1 z2 z3 z4 z5 hdh hwc hsb hbb
            obtain ⟨-, z0, z1, z2, z3, z4, z5⟩ := hS.out wc hbc.out
            have dh := DO.out wc hbc.out (k : Int) (by omega) hkl
            rw [← hT.out] at dh
            (try simp only at dh)
            have hdh := Lib.hid dh
            clear dh
            go_wp2_with (go_at_call 14; (with_reducible refine hdh.out.mono ?_); rintro e wd ⟨rfl, hb⟩; have hwd := Lib.hid hb; clear hb)
            go_roundw
            case rel => exact ⟨hbc.out.trans (hwd.out.mono (by have := hbc.out.size; omega)), k + 1, T + 1, by omega, by go_num, by have := hT.out; omega, hsc.out.kept hwd.out⟩
            case measure => simp [intOf]; omega
          · have hky : y = (k : Int) := by omega
            have hdh := Lib.hid (fun u (hu : Below wq.heap.size wq u) => DM.out u (b2.trans (hu.mono (by have := b2.size; omega))))
            have hSY := Lib.hid (fun u (hu : Below wq.heap.size wq u) => (⟨hu, (hS.out u (b2.trans (hu.mono (by have := b2.size; omega)))).2, (World.cell?_of_block (hu.block b (by have := b2.size; omega))).trans v1⟩ : (fun u => Below wq.heap.size wq u ∧ (u.cell? ⟨h, 0, none⟩ = some (i64 pg) ∧ u.cell? ⟨h, 1, none⟩ = some (i64 mj) ∧ u.cell? ⟨h, 2, none⟩ = some (i64 sw) ∧ u.cell? ⟨h, 3, none⟩ = some (.slice (some ⟨b, off, none⟩) n1 k1_0) ∧ u.cell? ⟨h, 4, none⟩ = some (.slice p2_0 n2 k2_0) ∧ u.cell? ⟨h, 5, none⟩ = some (.slice p3_0 m k3_0)) ∧ u.cell? ⟨b, off + j * 3 + 1, none⟩ = some (i64 y)) u))
            replace hsk := Lib.hid hsk
            clear sn HO DH DG DO DM HY hS v0 v2
            replace b2 := Lib.hid b2
            replace hT := Lib.hid hT
            replace hky := Lib.hid hky
            go_upto_region 19 with fail

            refine wp_region_held_drew (S := (fun u => Below wq.heap.size wq u ∧ (u.cell? ⟨h, 0, none⟩ = some (i64 pg) ∧ u.cell? ⟨h, 1, none⟩ = some (i64 mj) ∧ u.cell? ⟨h, 2, none⟩ = some (i64 sw) ∧ u.cell? ⟨h, 3, none⟩ = some (.slice (some ⟨b, off, none⟩) n1 k1_0) ∧ u.cell? ⟨h, 4, none⟩ = some (.slice p2_0 n2 k2_0) ∧ u.cell? ⟨h, 5, none⟩ = some (.slice p3_0 m k3_0)) ∧ u.cell? ⟨b, off + j * 3 + 1, none⟩ = some (i64 y))) (by kernel_rfl) ?_ (fun hH0 => ?_)
            · ((try dsimp only); (first | assumption | exact hSY.out _ (Below.refl _ _) | exact hSY.out _ (Below.refl _ _).drew | exact hSY.out _ ((‹Below wq.heap.size wq _ ∧ _›).1.trans ((‹Below (World.heap _).size _ _›).mono (‹Below wq.heap.size wq _ ∧ _›).1.size))))
            refine wpAnyH_take (i := 0) (oi := { dst := some 97, op := Go.Op.load 26 (Go.Operand.tmp 1), type := 26, pos := "law.go:50", after := #[], guard := none }) (v := ?_) rfl (by kernel_rfl) (by kernel_rfl) (by kernel_rfl) (fun _ _ _ h => h) (Or.inl ⟨by rfl, ?_⟩) (by assumption) ?_
            rotate_left
            · ((intro w hSw; (try dsimp only at hSw); go_simp) <;> (with_reducible rfl))
            try simp only [Act.put, List.setIfInBounds_toArray, List.set_cons_zero, List.set_cons_succ]
            refine wpAnyH_take (i := 1) (oi := { dst := some 98, op := Go.Op.move (Go.Operand.tmp 6), type := 3, pos := "law.go:50", after := #[], guard := none }) (v := ?_) rfl (by kernel_rfl) (by kernel_rfl) (by kernel_rfl) (fun _ _ _ h => h) (Or.inl ⟨by rfl, ?_⟩) (by assumption) ?_
            rotate_left
            · ((intro w hSw; (try dsimp only at hSw); go_simp) <;> (with_reducible rfl))
            try simp only [Act.put, List.setIfInBounds_toArray, List.set_cons_zero, List.set_cons_succ]
            refine wpAnyH_take (i := 2) (oi := { dst := some 99, op := Go.Op.fieldAddr 26 (Go.Operand.tmp 1) 3, type := 0, pos := "law.go:50", after := #[], guard := none }) (v := ?_) rfl (by kernel_rfl) (by kernel_rfl) (by kernel_rfl) (fun _ _ _ h => h) (Or.inl ⟨by rfl, ?_⟩) (by assumption) ?_
            rotate_left
            · ((intro w hSw; (try dsimp only at hSw); go_simp) <;> (with_reducible rfl))
            try simp only [Act.put, List.setIfInBounds_toArray, List.set_cons_zero, List.set_cons_succ]
            refine wpAnyH_take (i := 3) (oi := { dst := some 100, op := Go.Op.load 22 (Go.Operand.tmp 99), type := 22, pos := "law.go:50", after := #[{ on := 2, ground := Go.Ground.data }], guard := none }) (v := ?_) rfl (by kernel_rfl) (by kernel_rfl) (by kernel_rfl) (fun _ _ _ h => h) (Or.inl ⟨by rfl, ?_⟩) (by assumption) ?_
            rotate_left
            · ((intro w hSw; (try dsimp only at hSw); go_simp) <;> (with_reducible rfl))
            try simp only [Act.put, List.setIfInBounds_toArray, List.set_cons_zero, List.set_cons_succ]
            refine wpAnyH_take (i := 4) (oi := { dst := some 101, op := Go.Op.move (Go.Operand.tmp 6), type := 3, pos := "law.go:50", after := #[], guard := none }) (v := ?_) rfl (by kernel_rfl) (by kernel_rfl) (by kernel_rfl) (fun _ _ _ h => h) (Or.inl ⟨by rfl, ?_⟩) (by assumption) ?_
            rotate_left
            · ((intro w hSw; (try dsimp only at hSw); go_simp) <;> (with_reducible rfl))
            try simp only [Act.put, List.setIfInBounds_toArray, List.set_cons_zero, List.set_cons_succ]
            refine wpAnyH_take (i := 5) (oi := { dst := some 102, op := Go.Op.indexAddr 22 (Go.Operand.tmp 100) (Go.Operand.tmp 101), type := 0, pos := "law.go:50", after := #[{ on := 3, ground := Go.Ground.data }, { on := 4, ground := Go.Ground.data }], guard := none }) (v := ?_) rfl (by kernel_rfl) (by kernel_rfl) (by kernel_rfl) (fun _ _ _ h => h) (Or.inl ⟨by rfl, ?_⟩) (by assumption) ?_
            rotate_left
            · ((intro w hSw; (try dsimp only at hSw); go_simp) <;> (with_reducible rfl))
            try simp only [Act.put, List.setIfInBounds_toArray, List.set_cons_zero, List.set_cons_succ]
            refine wpAnyH_take (i := 6) (oi := { dst := some 103, op := Go.Op.fieldAddr 38 (Go.Operand.tmp 102) 1, type := 0, pos := "law.go:50", after := #[{ on := 5, ground := Go.Ground.data }], guard := none }) (v := ?_) rfl (by kernel_rfl) (by kernel_rfl) (by kernel_rfl) (fun _ _ _ h => h) (Or.inl ⟨by rfl, ?_⟩) (by assumption) ?_
            rotate_left
            · ((intro w hSw; (try dsimp only at hSw); go_simp) <;> (with_reducible rfl))
            try simp only [Act.put, List.setIfInBounds_toArray, List.set_cons_zero, List.set_cons_succ]
            refine wpAnyH_take (i := 7) (oi := { dst := some 104, op := Go.Op.load 3 (Go.Operand.tmp 103), type := 3, pos := "law.go:50", after := #[{ on := 6, ground := Go.Ground.data }], guard := none }) (v := ?_) rfl (by kernel_rfl) (by kernel_rfl) (by kernel_rfl) (fun _ _ _ h => h) (Or.inl ⟨by rfl, ?_⟩) (by assumption) ?_
            rotate_left
            · ((intro w hSw; (try dsimp only at hSw); go_simp) <;> (with_reducible rfl))
            try simp only [Act.put, List.setIfInBounds_toArray, List.set_cons_zero, List.set_cons_succ]
            refine wpAnyH_ready (rs := [8]) (by kernel_rfl) (by simp) ?_
            refine AllReadyH.cons (o := { dst := some 105, op := Go.Op.call { callee := Go.Callee.value (Go.Operand.func 8), args := #[Go.Operand.tmp 97, Go.Operand.tmp 98, Go.Operand.tmp 104], argTypes := #[26, 3, 3] }, type := 29, pos := "law.go:50", after := #[{ on := 0, ground := Go.Ground.data }, { on := 1, ground := Go.Ground.data }, { on := 7, ground := Go.Ground.data }], guard := none }) rfl (fun K hK => ?_) AllReadyH.nil
            go_simp
            (go_at_call 8; (with_reducible refine (hdh.out _ (‹Below wq.heap.size wq _ ∧ _›).1).mono ?_); rintro e t2 ⟨rfl, hb9⟩)
            refine hK.out _ _ ?_ (fun hH1 => ?_)
            · ((try dsimp only); (first | assumption | exact hSY.out _ (Below.refl _ _) | exact hSY.out _ (Below.refl _ _).drew | exact hSY.out _ ((‹Below wq.heap.size wq _ ∧ _›).1.trans ((‹Below (World.heap _).size _ _›).mono (‹Below wq.heap.size wq _ ∧ _›).1.size))))
            clear hK K hH0
            try simp only [Act.put, List.setIfInBounds_toArray, List.set_cons_zero, List.set_cons_succ]
            refine wpAnyH_take (i := 9) (oi := { dst := some 96, op := Go.Op.move (Go.Operand.tmp 105), type := 29, pos := "law.go:50", after := #[{ on := 8, ground := Go.Ground.data }], guard := none }) (v := ?_) rfl (by kernel_rfl) (by kernel_rfl) (by kernel_rfl) (fun _ _ _ h => h) (Or.inl ⟨by rfl, ?_⟩) (by assumption) ?_
            rotate_left
            · ((intro w hSw; (try dsimp only at hSw); go_simp) <;> (with_reducible rfl))
            try simp only [Act.put, List.setIfInBounds_toArray, List.set_cons_zero, List.set_cons_succ]
            refine wpAnyH_take (i := 10) (oi := { dst := some 106, op := Go.Op.extract (Go.Operand.tmp 96) 0, type := 3, pos := "law.go:50", after := #[{ on := 9, ground := Go.Ground.data }], guard := none }) (v := ?_) rfl (by kernel_rfl) (by kernel_rfl) (by kernel_rfl) (fun _ _ _ h => h) (Or.inl ⟨by rfl, ?_⟩) (by assumption) ?_
            rotate_left
            · ((intro w hSw; (try dsimp only at hSw); go_simp) <;> (with_reducible rfl))
            try simp only [Act.put, List.setIfInBounds_toArray, List.set_cons_zero, List.set_cons_succ]
            refine wpAnyH_take (i := 11) (oi := { dst := some 107, op := Go.Op.extract (Go.Operand.tmp 96) 1, type := 4, pos := "law.go:50", after := #[{ on := 9, ground := Go.Ground.data }, { on := 12, ground := Go.Ground.gcOnly Go.Departure.lateStores }], guard := none }) (v := ?_) rfl (by kernel_rfl) (by kernel_rfl) (by kernel_rfl) (fun _ _ _ h => h) (Or.inl ⟨by rfl, ?_⟩) (by assumption) ?_
            rotate_left
            · ((intro w hSw; (try dsimp only at hSw); go_simp) <;> (with_reducible rfl))
            try simp only [Act.put, List.setIfInBounds_toArray, List.set_cons_zero, List.set_cons_succ]
            refine wpAnyH_take (i := 12) (oi := { dst := some 12, op := Go.Op.assign (Go.Operand.tmp 106), type := 3, pos := "law.go:50", after := #[{ on := 10, ground := Go.Ground.data }, { on := 8, ground := Go.Ground.chain }, { on := 0, ground := Go.Ground.phase }, { on := 1, ground := Go.Ground.phase }, { on := 2, ground := Go.Ground.phase }, { on := 3, ground := Go.Ground.phase }, { on := 4, ground := Go.Ground.phase }, { on := 5, ground := Go.Ground.phase }, { on := 6, ground := Go.Ground.phase }, { on := 7, ground := Go.Ground.phase }, { on := 8, ground := Go.Ground.phase }, { on := 9, ground := Go.Ground.phase }, { on := 10, ground := Go.Ground.phase }, { on := 11, ground := Go.Ground.textOnly Go.Departure.lateStores }], guard := none }) (v := ?_) rfl (by kernel_rfl) (by kernel_rfl) (by kernel_rfl) (fun _ _ _ h => h) (Or.inl ⟨by rfl, ?_⟩) (by assumption) ?_
            rotate_left
            · ((intro w hSw; (try dsimp only at hSw); go_simp) <;> (with_reducible rfl))
            try simp only [Act.put, List.setIfInBounds_toArray, List.set_cons_zero, List.set_cons_succ]
            refine wpAnyH_take (i := 13) (oi := { dst := some 13, op := Go.Op.assign (Go.Operand.tmp 107), type := 4, pos := "law.go:50", after := #[{ on := 11, ground := Go.Ground.data }, { on := 12, ground := Go.Ground.chain }, { on := 0, ground := Go.Ground.phase }, { on := 1, ground := Go.Ground.phase }, { on := 2, ground := Go.Ground.phase }, { on := 3, ground := Go.Ground.phase }, { on := 4, ground := Go.Ground.phase }, { on := 5, ground := Go.Ground.phase }, { on := 6, ground := Go.Ground.phase }, { on := 7, ground := Go.Ground.phase }, { on := 8, ground := Go.Ground.phase }, { on := 9, ground := Go.Ground.phase }, { on := 10, ground := Go.Ground.phase }, { on := 11, ground := Go.Ground.phase }, { on := 12, ground := Go.Ground.phase }], guard := none }) (v := ?_) rfl (by kernel_rfl) (by kernel_rfl) (by kernel_rfl) (fun _ _ _ h => h) (Or.inl ⟨by rfl, ?_⟩) (by assumption) ?_
            rotate_left
            · ((intro w hSw; (try dsimp only at hSw); go_simp) <;> (with_reducible rfl))
            try simp only [Act.put, List.setIfInBounds_toArray, List.set_cons_zero, List.set_cons_succ]
            refine wpAnyH_done (by kernel_rfl) ?_ _
            all_goals
              have hr := Lib.hid (‹Below wq.heap.size wq _ ∧ _›).1
              go_wp2
              go_roundw
              case rel => exact ⟨b2.out.trans (hr.out.mono (by have := b2.out.size; omega)), j + 1, T, by omega, by go_num, by rw [hsk.out]; have := hT.out; have := hky.out; omega, hsn.out.kept hr.out⟩
              case measure => simp [intOf]; omega
      · have hjm : j = n1 := by omega
        subst hjm
        have hall := hap.out.all
        have hlow := Lib.hid hap.out.low
        have hmid := Lib.hid hap.out.mid
        have htop := Lib.hid hap.out.top
        rw [hpc, hlc, ← hT] at hall
        replace hmid := Lib.hid (by have := hmid.out; rw [hlc, ← hT] at this; exact this)
        replace htop := Lib.hid (by have := htop.out; rw [hlc, ← hT, hpc] at this; exact this)
        have T4 : 4 ≤ T := by omega
        clear hT hap CH CM CG CO L1 hs5 hb5 b2 sn
        go_upto_region 22 with fail
        clear z0 z1 z2 z3 z4 z5
        go_wp2
        go_loopw [14] (fun i wr => Below (h + 1) w1 wr ∧ ∃ q : Nat, (q : Int) ≤ pg ∧ i = .int .i64 q ∧ Sn wr (h + 1) g T) (fun i _ => pg.toNat - (intOf i).toNat)
        case atStart => exact ⟨hb2.out, 0, by omega, rfl, hsn.out⟩
        case round =>
          rename World => wq
          obtain ⟨b2, q, hq, rfl, sn⟩ := hrel
          clear hb2 hsn
          have hb2 := Lib.hid b2
          have hsn := Lib.hid sn
          obtain ⟨-, z0, z1, z2, z3, z4, z5⟩ := hS.out wq b2
          by_cases hqp : (q : Int) < pg
          · have hq256 : q < 257 := by omega
            have hqI : (q : Int) < 257 := by omega
            have hw := Lib.hid (fun u (hu : Below wq.heap.size wq u) => CW.out u (b2.trans (hu.mono (by have := b2.size; omega))) (q : Int))
            have sc := sn.at q hq256
            clear CW sn
            by_cases q4 : q < 4
            · have eV := hlow.out (q : Int) (by omega) (by omega)
              rw [eV] at hw
              rw [decide_eq_false (by omega)] at sc
              have q4I : (q : Int) < 4 := by omega
              have hSY := Lib.hid (fun u (hu : Below wq.heap.size wq u) => (⟨hu, (hS.out u (b2.trans (hu.mono (by have := b2.size; omega)))).2, (World.cell?_of_block (hu.block g hsn.out.lt)).trans sc⟩ : (fun u => Below wq.heap.size wq u ∧ (u.cell? ⟨h, 0, none⟩ = some (i64 pg) ∧ u.cell? ⟨h, 1, none⟩ = some (i64 mj) ∧ u.cell? ⟨h, 2, none⟩ = some (i64 sw) ∧ u.cell? ⟨h, 3, none⟩ = some (.slice p1_0 j k1_0) ∧ u.cell? ⟨h, 4, none⟩ = some (.slice p2_0 n2 k2_0) ∧ u.cell? ⟨h, 5, none⟩ = some (.slice p3_0 m k3_0)) ∧ u.cell? ⟨g, q, none⟩ = some (.bool false)) u))
              clear hS hlow hmid htop HO HBB b2 eV
              go_upto_region 25 with fail
              refine wp_region_held_drew (S := (fun u => Below wq.heap.size wq u ∧ (u.cell? ⟨h, 0, none⟩ = some (i64 pg) ∧ u.cell? ⟨h, 1, none⟩ = some (i64 mj) ∧ u.cell? ⟨h, 2, none⟩ = some (i64 sw) ∧ u.cell? ⟨h, 3, none⟩ = some (.slice p1_0 j k1_0) ∧ u.cell? ⟨h, 4, none⟩ = some (.slice p2_0 n2 k2_0) ∧ u.cell? ⟨h, 5, none⟩ = some (.slice p3_0 m k3_0)) ∧ u.cell? ⟨g, q, none⟩ = some (.bool false))) (by kernel_rfl) ?_ (fun hH0 => ?_)
              · ((try dsimp only); (first | assumption | exact hSY.out _ (Below.refl _ _) | exact hSY.out _ (Below.refl _ _).drew | exact hSY.out _ ((‹Below wq.heap.size wq _ ∧ _›).1.trans ((‹Below (World.heap _).size _ _›).mono (‹Below wq.heap.size wq _ ∧ _›).1.size))))
              refine wpAnyH_take (i := 0) (oi := { dst := some 115, op := Go.Op.load 26 (Go.Operand.tmp 1), type := 26, pos := "law.go:56", after := #[], guard := none }) (v := ?_) rfl (by kernel_rfl) (by kernel_rfl) (by kernel_rfl) (fun _ _ _ h => h) (Or.inl ⟨by rfl, ?_⟩) (by assumption) ?_
              rotate_left
              · ((intro w hSw; (try dsimp only at hSw); go_simp) <;> (with_reducible rfl))
              try simp only [Act.put, List.setIfInBounds_toArray, List.set_cons_zero, List.set_cons_succ]
              refine wpAnyH_take (i := 1) (oi := { dst := some 116, op := Go.Op.move (Go.Operand.tmp 14), type := 3, pos := "law.go:56", after := #[], guard := none }) (v := ?_) rfl (by kernel_rfl) (by kernel_rfl) (by kernel_rfl) (fun _ _ _ h => h) (Or.inl ⟨by rfl, ?_⟩) (by assumption) ?_
              rotate_left
              · ((intro w hSw; (try dsimp only at hSw); go_simp) <;> (with_reducible rfl))
              try simp only [Act.put, List.setIfInBounds_toArray, List.set_cons_zero, List.set_cons_succ]
              refine wpAnyH_take (i := 4) (oi := { dst := some 119, op := Go.Op.move (Go.Operand.tmp 5), type := 36, pos := "law.go:56", after := #[], guard := none }) (v := ?_) rfl (by kernel_rfl) (by kernel_rfl) (by kernel_rfl) (fun _ _ _ h => h) (Or.inl ⟨by rfl, ?_⟩) (by assumption) ?_
              rotate_left
              · ((intro w hSw; (try dsimp only at hSw); go_simp) <;> (with_reducible rfl))
              try simp only [Act.put, List.setIfInBounds_toArray, List.set_cons_zero, List.set_cons_succ]
              refine wpAnyH_take (i := 5) (oi := { dst := some 120, op := Go.Op.move (Go.Operand.tmp 14), type := 3, pos := "law.go:56", after := #[], guard := none }) (v := ?_) rfl (by kernel_rfl) (by kernel_rfl) (by kernel_rfl) (fun _ _ _ h => h) (Or.inl ⟨by rfl, ?_⟩) (by assumption) ?_
              rotate_left
              · ((intro w hSw; (try dsimp only at hSw); go_simp) <;> (with_reducible rfl))
              try simp only [Act.put, List.setIfInBounds_toArray, List.set_cons_zero, List.set_cons_succ]
              refine wpAnyH_take (i := 6) (oi := { dst := some 121, op := Go.Op.indexAddr 36 (Go.Operand.tmp 119) (Go.Operand.tmp 120), type := 0, pos := "law.go:56", after := #[{ on := 4, ground := Go.Ground.data }, { on := 5, ground := Go.Ground.data }], guard := none }) (v := ?_) rfl (by kernel_rfl) (by kernel_rfl) (by kernel_rfl) (fun _ _ _ h => h) (Or.inl ⟨by rfl, ?_⟩) (by assumption) ?_
              rotate_left
              · ((intro w hSw; (try dsimp only at hSw); go_simp) <;> (with_reducible rfl))
              try simp only [Act.put, List.setIfInBounds_toArray, List.set_cons_zero, List.set_cons_succ]
              refine wpAnyH_take (i := 7) (oi := { dst := some 122, op := Go.Op.load 4 (Go.Operand.tmp 121), type := 4, pos := "law.go:56", after := #[{ on := 6, ground := Go.Ground.data }], guard := none }) (v := ?_) rfl (by kernel_rfl) (by kernel_rfl) (by kernel_rfl) (fun _ _ _ h => h) (Or.inl ⟨by rfl, ?_⟩) (by assumption) ?_
              rotate_left
              · ((intro w hSw; (try dsimp only at hSw); go_simp) <;> (with_reducible rfl))
              try simp only [Act.put, List.setIfInBounds_toArray, List.set_cons_zero, List.set_cons_succ]
              refine wpAnyH_ready (rs := [2]) (by kernel_rfl) (by simp) ?_
              refine AllReadyH.cons (o := { dst := some 117, op := Go.Op.call { callee := Go.Callee.value (Go.Operand.func 14), args := #[Go.Operand.tmp 115, Go.Operand.tmp 116], argTypes := #[26, 3] }, type := 3, pos := "law.go:56", after := #[{ on := 0, ground := Go.Ground.data }, { on := 1, ground := Go.Ground.data }], guard := none }) rfl (fun K hK => ?_) AllReadyH.nil
              go_simp
              (go_at_call 14; (with_reducible refine (hw.out _ (‹Below wq.heap.size wq _ ∧ _›).1).mono ?_); rintro e t2 ⟨rfl, hb9⟩)
              refine hK.out _ _ ?_ (fun hH1 => ?_)
              · ((try dsimp only); (first | assumption | exact hSY.out _ (Below.refl _ _) | exact hSY.out _ (Below.refl _ _).drew | exact hSY.out _ ((‹Below wq.heap.size wq _ ∧ _›).1.trans ((‹Below (World.heap _).size _ _›).mono (‹Below wq.heap.size wq _ ∧ _›).1.size))))
              clear hK K hH0
              try simp only [Act.put, List.setIfInBounds_toArray, List.set_cons_zero, List.set_cons_succ]
              refine wpAnyH_take (i := 3) (oi := { dst := some 118, op := Go.Op.binOp Go.BinOp.geq 3 (Go.Operand.tmp 117) (Go.Operand.const (Go.Value.int Go.IntKind.i64 0)) 3, type := 4, pos := "law.go:56", after := #[{ on := 2, ground := Go.Ground.data }], guard := none }) (v := ?_) rfl (by kernel_rfl) (by kernel_rfl) (by kernel_rfl) (fun _ _ _ h => h) (Or.inl ⟨by rfl, ?_⟩) (by assumption) ?_
              rotate_left
              · ((intro w hSw; (try dsimp only at hSw); go_simp) <;> (with_reducible rfl))
              try simp only [Act.put, List.setIfInBounds_toArray, List.set_cons_zero, List.set_cons_succ]
              refine wpAnyH_take (i := 8) (oi := { dst := some 123, op := Go.Op.binOp Go.BinOp.neq 4 (Go.Operand.tmp 118) (Go.Operand.tmp 122) 4, type := 4, pos := "law.go:56", after := #[{ on := 3, ground := Go.Ground.data }, { on := 7, ground := Go.Ground.data }], guard := none }) (v := ?_) rfl (by kernel_rfl) (by kernel_rfl) (by kernel_rfl) (fun _ _ _ h => h) (Or.inl ⟨by rfl, ?_⟩) (by assumption) ?_
              rotate_left
              · ((intro w hSw; (try dsimp only at hSw); go_simp) <;> (with_reducible rfl))
              try simp only [Act.put, List.setIfInBounds_toArray, List.set_cons_zero, List.set_cons_succ]
              refine wpAnyH_take (i := 9) (oi := { dst := some 124, op := Go.Op.move (Go.Operand.tmp 123), type := 4, pos := "law.go:56", after := #[{ on := 8, ground := Go.Ground.data }, { on := 2, ground := Go.Ground.chain }], guard := none }) (v := ?_) rfl (by kernel_rfl) (by kernel_rfl) (by kernel_rfl) (fun _ _ _ h => h) (Or.inl ⟨by rfl, ?_⟩) (by assumption) ?_
              rotate_left
              · ((intro w hSw; (try dsimp only at hSw); go_simp) <;> (with_reducible rfl))
              try simp only [Act.put, List.setIfInBounds_toArray, List.set_cons_zero, List.set_cons_succ]
              refine wpAnyH_take (i := 10) (oi := { dst := some 125, op := Go.Op.move (Go.Operand.tmp 14), type := 3, pos := "law.go:56", after := #[{ on := 9, ground := Go.Ground.guard }], guard := some (9, false) }) (v := ?_) rfl (by kernel_rfl) (by kernel_rfl) (by kernel_rfl) (fun _ _ _ h => h) (Or.inl ⟨by rfl, ?_⟩) (by assumption) ?_
              rotate_left
              · ((intro w hSw; (try dsimp only at hSw); go_simp) <;> (with_reducible rfl))
              try simp only [Act.put, List.setIfInBounds_toArray, List.set_cons_zero, List.set_cons_succ]
              refine wpAnyH_take (i := 11) (oi := { dst := some 126, op := Go.Op.binOp Go.BinOp.lss 3 (Go.Operand.tmp 125) (Go.Operand.const (Go.Value.int Go.IntKind.i64 4)) 3, type := 4, pos := "law.go:56", after := #[{ on := 10, ground := Go.Ground.data }, { on := 9, ground := Go.Ground.guard }], guard := some (9, false) }) (v := ?_) rfl (by kernel_rfl) (by kernel_rfl) (by kernel_rfl) (fun _ _ _ h => h) (Or.inl ⟨by rfl, ?_⟩) (by assumption) ?_
              rotate_left
              · ((intro w hSw; (try dsimp only at hSw); go_simp) <;> (with_reducible rfl))
              try simp only [Act.put, List.setIfInBounds_toArray, List.set_cons_zero, List.set_cons_succ]
              refine wpAnyH_take (i := 12) (oi := { dst := some 127, op := Go.Op.move (Go.Operand.tmp 126), type := 4, pos := "law.go:56", after := #[{ on := 11, ground := Go.Ground.data }, { on := 9, ground := Go.Ground.chain }, { on := 9, ground := Go.Ground.guard }], guard := some (9, false) }) (v := ?_) rfl (by kernel_rfl) (by kernel_rfl) (by kernel_rfl) (fun _ _ _ h => h) (Or.inl ⟨by rfl, ?_⟩) (by assumption) ?_
              rotate_left
              · ((intro w hSw; (try dsimp only at hSw); go_simp) <;> (with_reducible rfl))
              try simp only [Act.put, List.setIfInBounds_toArray, List.set_cons_zero, List.set_cons_succ]
              refine wpAnyH_take (i := 13) (oi := { dst := some 128, op := Go.Op.load 26 (Go.Operand.tmp 1), type := 26, pos := "law.go:56", after := #[{ on := 12, ground := Go.Ground.guard }], guard := some (12, true) }) (v := ?_) rfl (by kernel_rfl) (by kernel_rfl) (by kernel_rfl) (fun _ _ _ h => h) (Or.inl ⟨by rfl, ?_⟩) (by assumption) ?_
              rotate_left
              · ((intro w hSw; (try dsimp only at hSw); go_simp) <;> (with_reducible rfl))
              try simp only [Act.put, List.setIfInBounds_toArray, List.set_cons_zero, List.set_cons_succ]
              refine wpAnyH_take (i := 14) (oi := { dst := some 129, op := Go.Op.move (Go.Operand.tmp 14), type := 3, pos := "law.go:56", after := #[{ on := 12, ground := Go.Ground.guard }], guard := some (12, true) }) (v := ?_) rfl (by kernel_rfl) (by kernel_rfl) (by kernel_rfl) (fun _ _ _ h => h) (Or.inl ⟨by rfl, ?_⟩) (by assumption) ?_
              rotate_left
              · ((intro w hSw; (try dsimp only at hSw); go_simp) <;> (with_reducible rfl))
              try simp only [Act.put, List.setIfInBounds_toArray, List.set_cons_zero, List.set_cons_succ]
              refine wpAnyH_ready (rs := [15]) (by kernel_rfl) (by simp) ?_
              refine AllReadyH.cons (o := { dst := some 130, op := Go.Op.call { callee := Go.Callee.value (Go.Operand.func 14), args := #[Go.Operand.tmp 128, Go.Operand.tmp 129], argTypes := #[26, 3] }, type := 3, pos := "law.go:56", after := #[{ on := 13, ground := Go.Ground.data }, { on := 14, ground := Go.Ground.data }, { on := 12, ground := Go.Ground.chain }, { on := 12, ground := Go.Ground.guard }], guard := some (12, true) }) rfl (fun K hK => ?_) AllReadyH.nil
              go_simp
              (go_at_call 14; (with_reducible refine (hw.out _ (‹Below wq.heap.size wq _ ∧ _›).1).mono ?_); rintro e t2 ⟨rfl, hb9⟩)
              refine hK.out _ _ ?_ (fun hH2 => ?_)
              · ((try dsimp only); (first | assumption | exact hSY.out _ (Below.refl _ _) | exact hSY.out _ (Below.refl _ _).drew | exact hSY.out _ ((‹Below wq.heap.size wq _ ∧ _›).1.trans ((‹Below (World.heap _).size _ _›).mono (‹Below wq.heap.size wq _ ∧ _›).1.size))))
              clear hK K hH1
              try simp only [Act.put, List.setIfInBounds_toArray, List.set_cons_zero, List.set_cons_succ]
              refine wpAnyH_take (i := 16) (oi := { dst := some 131, op := Go.Op.binOp Go.BinOp.neq 3 (Go.Operand.tmp 130) (Go.Operand.const (Go.Value.int Go.IntKind.i64 (-1))) 3, type := 4, pos := "law.go:56", after := #[{ on := 15, ground := Go.Ground.data }, { on := 12, ground := Go.Ground.guard }], guard := some (12, true) }) (v := ?_) rfl (by kernel_rfl) (by kernel_rfl) (by kernel_rfl) (fun _ _ _ h => h) (Or.inl ⟨by rfl, ?_⟩) (by assumption) ?_
              rotate_left
              · ((intro w hSw; (try dsimp only at hSw); go_simp) <;> (with_reducible rfl))
              try simp only [Act.put, List.setIfInBounds_toArray, List.set_cons_zero, List.set_cons_succ]
              refine wpAnyH_take (i := 17) (oi := { dst := some 132, op := Go.Op.pick (Go.Operand.tmp 127) (Go.Operand.tmp 131) (Go.Operand.const (Go.Value.bool false)), type := 4, pos := "law.go:56", after := #[{ on := 12, ground := Go.Ground.data }, { on := 16, ground := Go.Ground.data }, { on := 9, ground := Go.Ground.guard }], guard := some (9, false) }) (v := ?_) rfl (by kernel_rfl) (by kernel_rfl) (by kernel_rfl) (fun _ _ _ h => h) (Or.inl ⟨by rfl, ?_⟩) (by assumption) ?_
              rotate_left
              · ((intro w hSw; (try dsimp only at hSw); go_simp) <;> (with_reducible rfl))
              try simp only [Act.put, List.setIfInBounds_toArray, List.set_cons_zero, List.set_cons_succ]
              refine wpAnyH_take (i := 18) (oi := { dst := some 133, op := Go.Op.pick (Go.Operand.tmp 124) (Go.Operand.const (Go.Value.bool true)) (Go.Operand.tmp 132), type := 4, pos := "law.go:56", after := #[{ on := 9, ground := Go.Ground.data }, { on := 17, ground := Go.Ground.data }], guard := none }) (v := ?_) rfl (by kernel_rfl) (by kernel_rfl) (by kernel_rfl) (fun _ _ _ h => h) (Or.inl ⟨by rfl, ?_⟩) (by assumption) ?_
              rotate_left
              · ((intro w hSw; (try dsimp only at hSw); go_simp) <;> (with_reducible rfl))
              try simp only [Act.put, List.setIfInBounds_toArray, List.set_cons_zero, List.set_cons_succ]
              refine wpAnyH_done (by kernel_rfl) ?_ _
              all_goals
                have hr := Lib.hid (‹Below wq.heap.size wq _ ∧ _›).1
                go_wp2
                go_roundw
                case rel => exact ⟨hb2.out.trans (hr.out.mono (by have := hb2.out.size; omega)), q + 1, by omega, by go_num, hsn.out.kept hr.out⟩
                case measure => simp [intOf]; omega
            by_cases qT : q < T
            · have eV := hmid.out (q : Int) (by omega) (by omega)
              obtain ⟨V, hV⟩ : ∃ V, (guestV c0 (q : Int)).1 = V := ⟨_, rfl⟩
              rw [hV] at hw eV
              rw [decide_eq_true (by omega)] at sc
              have q4I : ¬ (q : Int) < 4 := by omega
              have eD : decide (0 ≤ V) = true := decide_eq_true eV
              clear hV
              have hSY := Lib.hid (fun u (hu : Below wq.heap.size wq u) => (⟨hu, (hS.out u (b2.trans (hu.mono (by have := b2.size; omega)))).2, (World.cell?_of_block (hu.block g hsn.out.lt)).trans sc⟩ : (fun u => Below wq.heap.size wq u ∧ (u.cell? ⟨h, 0, none⟩ = some (i64 pg) ∧ u.cell? ⟨h, 1, none⟩ = some (i64 mj) ∧ u.cell? ⟨h, 2, none⟩ = some (i64 sw) ∧ u.cell? ⟨h, 3, none⟩ = some (.slice p1_0 j k1_0) ∧ u.cell? ⟨h, 4, none⟩ = some (.slice p2_0 n2 k2_0) ∧ u.cell? ⟨h, 5, none⟩ = some (.slice p3_0 m k3_0)) ∧ u.cell? ⟨g, q, none⟩ = some (.bool true)) u))
              clear hS hlow hmid htop HO HBB b2 eV
              go_upto_region 25 with fail
              refine wp_region_held_drew (S := (fun u => Below wq.heap.size wq u ∧ (u.cell? ⟨h, 0, none⟩ = some (i64 pg) ∧ u.cell? ⟨h, 1, none⟩ = some (i64 mj) ∧ u.cell? ⟨h, 2, none⟩ = some (i64 sw) ∧ u.cell? ⟨h, 3, none⟩ = some (.slice p1_0 j k1_0) ∧ u.cell? ⟨h, 4, none⟩ = some (.slice p2_0 n2 k2_0) ∧ u.cell? ⟨h, 5, none⟩ = some (.slice p3_0 m k3_0)) ∧ u.cell? ⟨g, q, none⟩ = some (.bool true))) (by kernel_rfl) ?_ (fun hH0 => ?_)
              · ((try dsimp only); (first | assumption | exact hSY.out _ (Below.refl _ _) | exact hSY.out _ (Below.refl _ _).drew | exact hSY.out _ ((‹Below wq.heap.size wq _ ∧ _›).1.trans ((‹Below (World.heap _).size _ _›).mono (‹Below wq.heap.size wq _ ∧ _›).1.size))))
              refine wpAnyH_take (i := 0) (oi := { dst := some 115, op := Go.Op.load 26 (Go.Operand.tmp 1), type := 26, pos := "law.go:56", after := #[], guard := none }) (v := ?_) rfl (by kernel_rfl) (by kernel_rfl) (by kernel_rfl) (fun _ _ _ h => h) (Or.inl ⟨by rfl, ?_⟩) (by assumption) ?_
              rotate_left
              · ((intro w hSw; (try dsimp only at hSw); go_simp) <;> (with_reducible rfl))
              try simp only [Act.put, List.setIfInBounds_toArray, List.set_cons_zero, List.set_cons_succ]
              refine wpAnyH_take (i := 1) (oi := { dst := some 116, op := Go.Op.move (Go.Operand.tmp 14), type := 3, pos := "law.go:56", after := #[], guard := none }) (v := ?_) rfl (by kernel_rfl) (by kernel_rfl) (by kernel_rfl) (fun _ _ _ h => h) (Or.inl ⟨by rfl, ?_⟩) (by assumption) ?_
              rotate_left
              · ((intro w hSw; (try dsimp only at hSw); go_simp) <;> (with_reducible rfl))
              try simp only [Act.put, List.setIfInBounds_toArray, List.set_cons_zero, List.set_cons_succ]
              refine wpAnyH_take (i := 4) (oi := { dst := some 119, op := Go.Op.move (Go.Operand.tmp 5), type := 36, pos := "law.go:56", after := #[], guard := none }) (v := ?_) rfl (by kernel_rfl) (by kernel_rfl) (by kernel_rfl) (fun _ _ _ h => h) (Or.inl ⟨by rfl, ?_⟩) (by assumption) ?_
              rotate_left
              · ((intro w hSw; (try dsimp only at hSw); go_simp) <;> (with_reducible rfl))
              try simp only [Act.put, List.setIfInBounds_toArray, List.set_cons_zero, List.set_cons_succ]
              refine wpAnyH_take (i := 5) (oi := { dst := some 120, op := Go.Op.move (Go.Operand.tmp 14), type := 3, pos := "law.go:56", after := #[], guard := none }) (v := ?_) rfl (by kernel_rfl) (by kernel_rfl) (by kernel_rfl) (fun _ _ _ h => h) (Or.inl ⟨by rfl, ?_⟩) (by assumption) ?_
              rotate_left
              · ((intro w hSw; (try dsimp only at hSw); go_simp) <;> (with_reducible rfl))
              try simp only [Act.put, List.setIfInBounds_toArray, List.set_cons_zero, List.set_cons_succ]
              refine wpAnyH_take (i := 6) (oi := { dst := some 121, op := Go.Op.indexAddr 36 (Go.Operand.tmp 119) (Go.Operand.tmp 120), type := 0, pos := "law.go:56", after := #[{ on := 4, ground := Go.Ground.data }, { on := 5, ground := Go.Ground.data }], guard := none }) (v := ?_) rfl (by kernel_rfl) (by kernel_rfl) (by kernel_rfl) (fun _ _ _ h => h) (Or.inl ⟨by rfl, ?_⟩) (by assumption) ?_
              rotate_left
              · ((intro w hSw; (try dsimp only at hSw); go_simp) <;> (with_reducible rfl))
              try simp only [Act.put, List.setIfInBounds_toArray, List.set_cons_zero, List.set_cons_succ]
              refine wpAnyH_take (i := 7) (oi := { dst := some 122, op := Go.Op.load 4 (Go.Operand.tmp 121), type := 4, pos := "law.go:56", after := #[{ on := 6, ground := Go.Ground.data }], guard := none }) (v := ?_) rfl (by kernel_rfl) (by kernel_rfl) (by kernel_rfl) (fun _ _ _ h => h) (Or.inl ⟨by rfl, ?_⟩) (by assumption) ?_
              rotate_left
              · ((intro w hSw; (try dsimp only at hSw); go_simp) <;> (with_reducible rfl))
              try simp only [Act.put, List.setIfInBounds_toArray, List.set_cons_zero, List.set_cons_succ]
              refine wpAnyH_ready (rs := [2]) (by kernel_rfl) (by simp) ?_
              refine AllReadyH.cons (o := { dst := some 117, op := Go.Op.call { callee := Go.Callee.value (Go.Operand.func 14), args := #[Go.Operand.tmp 115, Go.Operand.tmp 116], argTypes := #[26, 3] }, type := 3, pos := "law.go:56", after := #[{ on := 0, ground := Go.Ground.data }, { on := 1, ground := Go.Ground.data }], guard := none }) rfl (fun K hK => ?_) AllReadyH.nil
              go_simp
              (go_at_call 14; (with_reducible refine (hw.out _ (‹Below wq.heap.size wq _ ∧ _›).1).mono ?_); rintro e t2 ⟨rfl, hb9⟩)
              refine hK.out _ _ ?_ (fun hH1 => ?_)
              · ((try dsimp only); (first | assumption | exact hSY.out _ (Below.refl _ _) | exact hSY.out _ (Below.refl _ _).drew | exact hSY.out _ ((‹Below wq.heap.size wq _ ∧ _›).1.trans ((‹Below (World.heap _).size _ _›).mono (‹Below wq.heap.size wq _ ∧ _›).1.size))))
              clear hK K hH0
              try simp only [Act.put, List.setIfInBounds_toArray, List.set_cons_zero, List.set_cons_succ]
              refine wpAnyH_take (i := 3) (oi := { dst := some 118, op := Go.Op.binOp Go.BinOp.geq 3 (Go.Operand.tmp 117) (Go.Operand.const (Go.Value.int Go.IntKind.i64 0)) 3, type := 4, pos := "law.go:56", after := #[{ on := 2, ground := Go.Ground.data }], guard := none }) (v := ?_) rfl (by kernel_rfl) (by kernel_rfl) (by kernel_rfl) (fun _ _ _ h => h) (Or.inl ⟨by rfl, ?_⟩) (by assumption) ?_
              rotate_left
              · ((intro w hSw; (try dsimp only at hSw); go_simp) <;> (with_reducible rfl))
              try simp only [Act.put, List.setIfInBounds_toArray, List.set_cons_zero, List.set_cons_succ]
              refine wpAnyH_take (i := 8) (oi := { dst := some 123, op := Go.Op.binOp Go.BinOp.neq 4 (Go.Operand.tmp 118) (Go.Operand.tmp 122) 4, type := 4, pos := "law.go:56", after := #[{ on := 3, ground := Go.Ground.data }, { on := 7, ground := Go.Ground.data }], guard := none }) (v := ?_) rfl (by kernel_rfl) (by kernel_rfl) (by kernel_rfl) (fun _ _ _ h => h) (Or.inl ⟨by rfl, ?_⟩) (by assumption) ?_
              rotate_left
              · ((intro w hSw; (try dsimp only at hSw); go_simp) <;> (with_reducible rfl))
              try simp only [Act.put, List.setIfInBounds_toArray, List.set_cons_zero, List.set_cons_succ]
              refine wpAnyH_take (i := 9) (oi := { dst := some 124, op := Go.Op.move (Go.Operand.tmp 123), type := 4, pos := "law.go:56", after := #[{ on := 8, ground := Go.Ground.data }, { on := 2, ground := Go.Ground.chain }], guard := none }) (v := ?_) rfl (by kernel_rfl) (by kernel_rfl) (by kernel_rfl) (fun _ _ _ h => h) (Or.inl ⟨by rfl, ?_⟩) (by assumption) ?_
              rotate_left
              · ((intro w hSw; (try dsimp only at hSw); go_simp) <;> (with_reducible rfl))
              try simp only [Act.put, List.setIfInBounds_toArray, List.set_cons_zero, List.set_cons_succ]
              refine wpAnyH_take (i := 10) (oi := { dst := some 125, op := Go.Op.move (Go.Operand.tmp 14), type := 3, pos := "law.go:56", after := #[{ on := 9, ground := Go.Ground.guard }], guard := some (9, false) }) (v := ?_) rfl (by kernel_rfl) (by kernel_rfl) (by kernel_rfl) (fun _ _ _ h => h) (Or.inl ⟨by rfl, ?_⟩) (by assumption) ?_
              rotate_left
              · ((intro w hSw; (try dsimp only at hSw); go_simp) <;> (with_reducible rfl))
              try simp only [Act.put, List.setIfInBounds_toArray, List.set_cons_zero, List.set_cons_succ]
              refine wpAnyH_take (i := 11) (oi := { dst := some 126, op := Go.Op.binOp Go.BinOp.lss 3 (Go.Operand.tmp 125) (Go.Operand.const (Go.Value.int Go.IntKind.i64 4)) 3, type := 4, pos := "law.go:56", after := #[{ on := 10, ground := Go.Ground.data }, { on := 9, ground := Go.Ground.guard }], guard := some (9, false) }) (v := ?_) rfl (by kernel_rfl) (by kernel_rfl) (by kernel_rfl) (fun _ _ _ h => h) (Or.inl ⟨by rfl, ?_⟩) (by assumption) ?_
              rotate_left
              · ((intro w hSw; (try dsimp only at hSw); go_simp) <;> (with_reducible rfl))
              try simp only [Act.put, List.setIfInBounds_toArray, List.set_cons_zero, List.set_cons_succ]
              refine wpAnyH_take (i := 12) (oi := { dst := some 127, op := Go.Op.move (Go.Operand.tmp 126), type := 4, pos := "law.go:56", after := #[{ on := 11, ground := Go.Ground.data }, { on := 9, ground := Go.Ground.chain }, { on := 9, ground := Go.Ground.guard }], guard := some (9, false) }) (v := ?_) rfl (by kernel_rfl) (by kernel_rfl) (by kernel_rfl) (fun _ _ _ h => h) (Or.inl ⟨by rfl, ?_⟩) (by assumption) ?_
              rotate_left
              · ((intro w hSw; (try dsimp only at hSw); go_simp) <;> (with_reducible rfl))
              try simp only [Act.put, List.setIfInBounds_toArray, List.set_cons_zero, List.set_cons_succ]
              refine wpAnyH_take (i := 13) (oi := { dst := some 128, op := Go.Op.load 26 (Go.Operand.tmp 1), type := 26, pos := "law.go:56", after := #[{ on := 12, ground := Go.Ground.guard }], guard := some (12, true) }) (v := undef) rfl (by kernel_rfl) (by kernel_rfl) (by kernel_rfl) (fun _ _ _ h => h) (Or.inr ⟨by rfl, rfl⟩) (by assumption) ?_
              try simp only [Act.put, List.setIfInBounds_toArray, List.set_cons_zero, List.set_cons_succ]
              refine wpAnyH_take (i := 14) (oi := { dst := some 129, op := Go.Op.move (Go.Operand.tmp 14), type := 3, pos := "law.go:56", after := #[{ on := 12, ground := Go.Ground.guard }], guard := some (12, true) }) (v := undef) rfl (by kernel_rfl) (by kernel_rfl) (by kernel_rfl) (fun _ _ _ h => h) (Or.inr ⟨by rfl, rfl⟩) (by assumption) ?_
              try simp only [Act.put, List.setIfInBounds_toArray, List.set_cons_zero, List.set_cons_succ]
              refine wpAnyH_take (i := 15) (oi := { dst := some 130, op := Go.Op.call { callee := Go.Callee.value (Go.Operand.func 14), args := #[Go.Operand.tmp 128, Go.Operand.tmp 129], argTypes := #[26, 3] }, type := 3, pos := "law.go:56", after := #[{ on := 13, ground := Go.Ground.data }, { on := 14, ground := Go.Ground.data }, { on := 12, ground := Go.Ground.chain }, { on := 12, ground := Go.Ground.guard }], guard := some (12, true) }) (v := undef) rfl (by kernel_rfl) (by kernel_rfl) (by kernel_rfl) (fun _ _ _ h => h) (Or.inr ⟨by rfl, rfl⟩) (by assumption) ?_
              try simp only [Act.put, List.setIfInBounds_toArray, List.set_cons_zero, List.set_cons_succ]
              refine wpAnyH_take (i := 16) (oi := { dst := some 131, op := Go.Op.binOp Go.BinOp.neq 3 (Go.Operand.tmp 130) (Go.Operand.const (Go.Value.int Go.IntKind.i64 (-1))) 3, type := 4, pos := "law.go:56", after := #[{ on := 15, ground := Go.Ground.data }, { on := 12, ground := Go.Ground.guard }], guard := some (12, true) }) (v := undef) rfl (by kernel_rfl) (by kernel_rfl) (by kernel_rfl) (fun _ _ _ h => h) (Or.inr ⟨by rfl, rfl⟩) (by assumption) ?_
              try simp only [Act.put, List.setIfInBounds_toArray, List.set_cons_zero, List.set_cons_succ]
              refine wpAnyH_take (i := 17) (oi := { dst := some 132, op := Go.Op.pick (Go.Operand.tmp 127) (Go.Operand.tmp 131) (Go.Operand.const (Go.Value.bool false)), type := 4, pos := "law.go:56", after := #[{ on := 12, ground := Go.Ground.data }, { on := 16, ground := Go.Ground.data }, { on := 9, ground := Go.Ground.guard }], guard := some (9, false) }) (v := ?_) rfl (by kernel_rfl) (by kernel_rfl) (by kernel_rfl) (fun _ _ _ h => h) (Or.inl ⟨by rfl, ?_⟩) (by assumption) ?_
              rotate_left
              · ((intro w hSw; (try dsimp only at hSw); go_simp) <;> (with_reducible rfl))
              try simp only [Act.put, List.setIfInBounds_toArray, List.set_cons_zero, List.set_cons_succ]
              refine wpAnyH_take (i := 18) (oi := { dst := some 133, op := Go.Op.pick (Go.Operand.tmp 124) (Go.Operand.const (Go.Value.bool true)) (Go.Operand.tmp 132), type := 4, pos := "law.go:56", after := #[{ on := 9, ground := Go.Ground.data }, { on := 17, ground := Go.Ground.data }], guard := none }) (v := ?_) rfl (by kernel_rfl) (by kernel_rfl) (by kernel_rfl) (fun _ _ _ h => h) (Or.inl ⟨by rfl, ?_⟩) (by assumption) ?_
              rotate_left
              · ((intro w hSw; (try dsimp only at hSw); go_simp) <;> (with_reducible rfl))
              try simp only [Act.put, List.setIfInBounds_toArray, List.set_cons_zero, List.set_cons_succ]
              refine wpAnyH_done (by kernel_rfl) ?_ _
              all_goals
                have hr := Lib.hid (‹Below wq.heap.size wq _ ∧ _›).1
                go_wp2
                go_roundw
                case rel => exact ⟨hb2.out.trans (hr.out.mono (by have := hb2.out.size; omega)), q + 1, by omega, by go_num, hsn.out.kept hr.out⟩
                case measure => simp [intOf]; omega
            · have eV := htop.out (q : Int) (by omega) hqp
              rw [eV] at hw
              rw [decide_eq_false (by omega)] at sc
              have q4I : ¬ (q : Int) < 4 := by omega
              have hSY := Lib.hid (fun u (hu : Below wq.heap.size wq u) => (⟨hu, (hS.out u (b2.trans (hu.mono (by have := b2.size; omega)))).2, (World.cell?_of_block (hu.block g hsn.out.lt)).trans sc⟩ : (fun u => Below wq.heap.size wq u ∧ (u.cell? ⟨h, 0, none⟩ = some (i64 pg) ∧ u.cell? ⟨h, 1, none⟩ = some (i64 mj) ∧ u.cell? ⟨h, 2, none⟩ = some (i64 sw) ∧ u.cell? ⟨h, 3, none⟩ = some (.slice p1_0 j k1_0) ∧ u.cell? ⟨h, 4, none⟩ = some (.slice p2_0 n2 k2_0) ∧ u.cell? ⟨h, 5, none⟩ = some (.slice p3_0 m k3_0)) ∧ u.cell? ⟨g, q, none⟩ = some (.bool false)) u))
              clear hS hlow hmid htop HO HBB b2 eV
              go_upto_region 25 with fail
              refine wp_region_held_drew (S := (fun u => Below wq.heap.size wq u ∧ (u.cell? ⟨h, 0, none⟩ = some (i64 pg) ∧ u.cell? ⟨h, 1, none⟩ = some (i64 mj) ∧ u.cell? ⟨h, 2, none⟩ = some (i64 sw) ∧ u.cell? ⟨h, 3, none⟩ = some (.slice p1_0 j k1_0) ∧ u.cell? ⟨h, 4, none⟩ = some (.slice p2_0 n2 k2_0) ∧ u.cell? ⟨h, 5, none⟩ = some (.slice p3_0 m k3_0)) ∧ u.cell? ⟨g, q, none⟩ = some (.bool false))) (by kernel_rfl) ?_ (fun hH0 => ?_)
              · ((try dsimp only); (first | assumption | exact hSY.out _ (Below.refl _ _) | exact hSY.out _ (Below.refl _ _).drew | exact hSY.out _ ((‹Below wq.heap.size wq _ ∧ _›).1.trans ((‹Below (World.heap _).size _ _›).mono (‹Below wq.heap.size wq _ ∧ _›).1.size))))
              refine wpAnyH_take (i := 0) (oi := { dst := some 115, op := Go.Op.load 26 (Go.Operand.tmp 1), type := 26, pos := "law.go:56", after := #[], guard := none }) (v := ?_) rfl (by kernel_rfl) (by kernel_rfl) (by kernel_rfl) (fun _ _ _ h => h) (Or.inl ⟨by rfl, ?_⟩) (by assumption) ?_
              rotate_left
              · ((intro w hSw; (try dsimp only at hSw); go_simp) <;> (with_reducible rfl))
              try simp only [Act.put, List.setIfInBounds_toArray, List.set_cons_zero, List.set_cons_succ]
              refine wpAnyH_take (i := 1) (oi := { dst := some 116, op := Go.Op.move (Go.Operand.tmp 14), type := 3, pos := "law.go:56", after := #[], guard := none }) (v := ?_) rfl (by kernel_rfl) (by kernel_rfl) (by kernel_rfl) (fun _ _ _ h => h) (Or.inl ⟨by rfl, ?_⟩) (by assumption) ?_
              rotate_left
              · ((intro w hSw; (try dsimp only at hSw); go_simp) <;> (with_reducible rfl))
              try simp only [Act.put, List.setIfInBounds_toArray, List.set_cons_zero, List.set_cons_succ]
              refine wpAnyH_take (i := 4) (oi := { dst := some 119, op := Go.Op.move (Go.Operand.tmp 5), type := 36, pos := "law.go:56", after := #[], guard := none }) (v := ?_) rfl (by kernel_rfl) (by kernel_rfl) (by kernel_rfl) (fun _ _ _ h => h) (Or.inl ⟨by rfl, ?_⟩) (by assumption) ?_
              rotate_left
              · ((intro w hSw; (try dsimp only at hSw); go_simp) <;> (with_reducible rfl))
              try simp only [Act.put, List.setIfInBounds_toArray, List.set_cons_zero, List.set_cons_succ]
              refine wpAnyH_take (i := 5) (oi := { dst := some 120, op := Go.Op.move (Go.Operand.tmp 14), type := 3, pos := "law.go:56", after := #[], guard := none }) (v := ?_) rfl (by kernel_rfl) (by kernel_rfl) (by kernel_rfl) (fun _ _ _ h => h) (Or.inl ⟨by rfl, ?_⟩) (by assumption) ?_
              rotate_left
              · ((intro w hSw; (try dsimp only at hSw); go_simp) <;> (with_reducible rfl))
              try simp only [Act.put, List.setIfInBounds_toArray, List.set_cons_zero, List.set_cons_succ]
              refine wpAnyH_take (i := 6) (oi := { dst := some 121, op := Go.Op.indexAddr 36 (Go.Operand.tmp 119) (Go.Operand.tmp 120), type := 0, pos := "law.go:56", after := #[{ on := 4, ground := Go.Ground.data }, { on := 5, ground := Go.Ground.data }], guard := none }) (v := ?_) rfl (by kernel_rfl) (by kernel_rfl) (by kernel_rfl) (fun _ _ _ h => h) (Or.inl ⟨by rfl, ?_⟩) (by assumption) ?_
              rotate_left
              · ((intro w hSw; (try dsimp only at hSw); go_simp) <;> (with_reducible rfl))
              try simp only [Act.put, List.setIfInBounds_toArray, List.set_cons_zero, List.set_cons_succ]
              refine wpAnyH_take (i := 7) (oi := { dst := some 122, op := Go.Op.load 4 (Go.Operand.tmp 121), type := 4, pos := "law.go:56", after := #[{ on := 6, ground := Go.Ground.data }], guard := none }) (v := ?_) rfl (by kernel_rfl) (by kernel_rfl) (by kernel_rfl) (fun _ _ _ h => h) (Or.inl ⟨by rfl, ?_⟩) (by assumption) ?_
              rotate_left
              · ((intro w hSw; (try dsimp only at hSw); go_simp) <;> (with_reducible rfl))
              try simp only [Act.put, List.setIfInBounds_toArray, List.set_cons_zero, List.set_cons_succ]
              refine wpAnyH_ready (rs := [2]) (by kernel_rfl) (by simp) ?_
              refine AllReadyH.cons (o := { dst := some 117, op := Go.Op.call { callee := Go.Callee.value (Go.Operand.func 14), args := #[Go.Operand.tmp 115, Go.Operand.tmp 116], argTypes := #[26, 3] }, type := 3, pos := "law.go:56", after := #[{ on := 0, ground := Go.Ground.data }, { on := 1, ground := Go.Ground.data }], guard := none }) rfl (fun K hK => ?_) AllReadyH.nil
              go_simp
              (go_at_call 14; (with_reducible refine (hw.out _ (‹Below wq.heap.size wq _ ∧ _›).1).mono ?_); rintro e t2 ⟨rfl, hb9⟩)
              refine hK.out _ _ ?_ (fun hH1 => ?_)
              · ((try dsimp only); (first | assumption | exact hSY.out _ (Below.refl _ _) | exact hSY.out _ (Below.refl _ _).drew | exact hSY.out _ ((‹Below wq.heap.size wq _ ∧ _›).1.trans ((‹Below (World.heap _).size _ _›).mono (‹Below wq.heap.size wq _ ∧ _›).1.size))))
              clear hK K hH0
              try simp only [Act.put, List.setIfInBounds_toArray, List.set_cons_zero, List.set_cons_succ]
              refine wpAnyH_take (i := 3) (oi := { dst := some 118, op := Go.Op.binOp Go.BinOp.geq 3 (Go.Operand.tmp 117) (Go.Operand.const (Go.Value.int Go.IntKind.i64 0)) 3, type := 4, pos := "law.go:56", after := #[{ on := 2, ground := Go.Ground.data }], guard := none }) (v := ?_) rfl (by kernel_rfl) (by kernel_rfl) (by kernel_rfl) (fun _ _ _ h => h) (Or.inl ⟨by rfl, ?_⟩) (by assumption) ?_
              rotate_left
              · ((intro w hSw; (try dsimp only at hSw); go_simp) <;> (with_reducible rfl))
              try simp only [Act.put, List.setIfInBounds_toArray, List.set_cons_zero, List.set_cons_succ]
              refine wpAnyH_take (i := 8) (oi := { dst := some 123, op := Go.Op.binOp Go.BinOp.neq 4 (Go.Operand.tmp 118) (Go.Operand.tmp 122) 4, type := 4, pos := "law.go:56", after := #[{ on := 3, ground := Go.Ground.data }, { on := 7, ground := Go.Ground.data }], guard := none }) (v := ?_) rfl (by kernel_rfl) (by kernel_rfl) (by kernel_rfl) (fun _ _ _ h => h) (Or.inl ⟨by rfl, ?_⟩) (by assumption) ?_
              rotate_left
              · ((intro w hSw; (try dsimp only at hSw); go_simp) <;> (with_reducible rfl))
              try simp only [Act.put, List.setIfInBounds_toArray, List.set_cons_zero, List.set_cons_succ]
              refine wpAnyH_take (i := 9) (oi := { dst := some 124, op := Go.Op.move (Go.Operand.tmp 123), type := 4, pos := "law.go:56", after := #[{ on := 8, ground := Go.Ground.data }, { on := 2, ground := Go.Ground.chain }], guard := none }) (v := ?_) rfl (by kernel_rfl) (by kernel_rfl) (by kernel_rfl) (fun _ _ _ h => h) (Or.inl ⟨by rfl, ?_⟩) (by assumption) ?_
              rotate_left
              · ((intro w hSw; (try dsimp only at hSw); go_simp) <;> (with_reducible rfl))
              try simp only [Act.put, List.setIfInBounds_toArray, List.set_cons_zero, List.set_cons_succ]
              refine wpAnyH_take (i := 10) (oi := { dst := some 125, op := Go.Op.move (Go.Operand.tmp 14), type := 3, pos := "law.go:56", after := #[{ on := 9, ground := Go.Ground.guard }], guard := some (9, false) }) (v := ?_) rfl (by kernel_rfl) (by kernel_rfl) (by kernel_rfl) (fun _ _ _ h => h) (Or.inl ⟨by rfl, ?_⟩) (by assumption) ?_
              rotate_left
              · ((intro w hSw; (try dsimp only at hSw); go_simp) <;> (with_reducible rfl))
              try simp only [Act.put, List.setIfInBounds_toArray, List.set_cons_zero, List.set_cons_succ]
              refine wpAnyH_take (i := 11) (oi := { dst := some 126, op := Go.Op.binOp Go.BinOp.lss 3 (Go.Operand.tmp 125) (Go.Operand.const (Go.Value.int Go.IntKind.i64 4)) 3, type := 4, pos := "law.go:56", after := #[{ on := 10, ground := Go.Ground.data }, { on := 9, ground := Go.Ground.guard }], guard := some (9, false) }) (v := ?_) rfl (by kernel_rfl) (by kernel_rfl) (by kernel_rfl) (fun _ _ _ h => h) (Or.inl ⟨by rfl, ?_⟩) (by assumption) ?_
              rotate_left
              · ((intro w hSw; (try dsimp only at hSw); go_simp) <;> (with_reducible rfl))
              try simp only [Act.put, List.setIfInBounds_toArray, List.set_cons_zero, List.set_cons_succ]
              refine wpAnyH_take (i := 12) (oi := { dst := some 127, op := Go.Op.move (Go.Operand.tmp 126), type := 4, pos := "law.go:56", after := #[{ on := 11, ground := Go.Ground.data }, { on := 9, ground := Go.Ground.chain }, { on := 9, ground := Go.Ground.guard }], guard := some (9, false) }) (v := ?_) rfl (by kernel_rfl) (by kernel_rfl) (by kernel_rfl) (fun _ _ _ h => h) (Or.inl ⟨by rfl, ?_⟩) (by assumption) ?_
              rotate_left
              · ((intro w hSw; (try dsimp only at hSw); go_simp) <;> (with_reducible rfl))
              try simp only [Act.put, List.setIfInBounds_toArray, List.set_cons_zero, List.set_cons_succ]
              refine wpAnyH_take (i := 13) (oi := { dst := some 128, op := Go.Op.load 26 (Go.Operand.tmp 1), type := 26, pos := "law.go:56", after := #[{ on := 12, ground := Go.Ground.guard }], guard := some (12, true) }) (v := undef) rfl (by kernel_rfl) (by kernel_rfl) (by kernel_rfl) (fun _ _ _ h => h) (Or.inr ⟨by rfl, rfl⟩) (by assumption) ?_
              try simp only [Act.put, List.setIfInBounds_toArray, List.set_cons_zero, List.set_cons_succ]
              refine wpAnyH_take (i := 14) (oi := { dst := some 129, op := Go.Op.move (Go.Operand.tmp 14), type := 3, pos := "law.go:56", after := #[{ on := 12, ground := Go.Ground.guard }], guard := some (12, true) }) (v := undef) rfl (by kernel_rfl) (by kernel_rfl) (by kernel_rfl) (fun _ _ _ h => h) (Or.inr ⟨by rfl, rfl⟩) (by assumption) ?_
              try simp only [Act.put, List.setIfInBounds_toArray, List.set_cons_zero, List.set_cons_succ]
              refine wpAnyH_take (i := 15) (oi := { dst := some 130, op := Go.Op.call { callee := Go.Callee.value (Go.Operand.func 14), args := #[Go.Operand.tmp 128, Go.Operand.tmp 129], argTypes := #[26, 3] }, type := 3, pos := "law.go:56", after := #[{ on := 13, ground := Go.Ground.data }, { on := 14, ground := Go.Ground.data }, { on := 12, ground := Go.Ground.chain }, { on := 12, ground := Go.Ground.guard }], guard := some (12, true) }) (v := undef) rfl (by kernel_rfl) (by kernel_rfl) (by kernel_rfl) (fun _ _ _ h => h) (Or.inr ⟨by rfl, rfl⟩) (by assumption) ?_
              try simp only [Act.put, List.setIfInBounds_toArray, List.set_cons_zero, List.set_cons_succ]
              refine wpAnyH_take (i := 16) (oi := { dst := some 131, op := Go.Op.binOp Go.BinOp.neq 3 (Go.Operand.tmp 130) (Go.Operand.const (Go.Value.int Go.IntKind.i64 (-1))) 3, type := 4, pos := "law.go:56", after := #[{ on := 15, ground := Go.Ground.data }, { on := 12, ground := Go.Ground.guard }], guard := some (12, true) }) (v := undef) rfl (by kernel_rfl) (by kernel_rfl) (by kernel_rfl) (fun _ _ _ h => h) (Or.inr ⟨by rfl, rfl⟩) (by assumption) ?_
              try simp only [Act.put, List.setIfInBounds_toArray, List.set_cons_zero, List.set_cons_succ]
              refine wpAnyH_take (i := 17) (oi := { dst := some 132, op := Go.Op.pick (Go.Operand.tmp 127) (Go.Operand.tmp 131) (Go.Operand.const (Go.Value.bool false)), type := 4, pos := "law.go:56", after := #[{ on := 12, ground := Go.Ground.data }, { on := 16, ground := Go.Ground.data }, { on := 9, ground := Go.Ground.guard }], guard := some (9, false) }) (v := ?_) rfl (by kernel_rfl) (by kernel_rfl) (by kernel_rfl) (fun _ _ _ h => h) (Or.inl ⟨by rfl, ?_⟩) (by assumption) ?_
              rotate_left
              · ((intro w hSw; (try dsimp only at hSw); go_simp) <;> (with_reducible rfl))
              try simp only [Act.put, List.setIfInBounds_toArray, List.set_cons_zero, List.set_cons_succ]
              refine wpAnyH_take (i := 18) (oi := { dst := some 133, op := Go.Op.pick (Go.Operand.tmp 124) (Go.Operand.const (Go.Value.bool true)) (Go.Operand.tmp 132), type := 4, pos := "law.go:56", after := #[{ on := 9, ground := Go.Ground.data }, { on := 17, ground := Go.Ground.data }], guard := none }) (v := ?_) rfl (by kernel_rfl) (by kernel_rfl) (by kernel_rfl) (fun _ _ _ h => h) (Or.inl ⟨by rfl, ?_⟩) (by assumption) ?_
              rotate_left
              · ((intro w hSw; (try dsimp only at hSw); go_simp) <;> (with_reducible rfl))
              try simp only [Act.put, List.setIfInBounds_toArray, List.set_cons_zero, List.set_cons_succ]
              refine wpAnyH_done (by kernel_rfl) ?_ _
              all_goals
                have hr := Lib.hid (‹Below wq.heap.size wq _ ∧ _›).1
                go_wp2
                go_roundw
                case rel => exact ⟨hb2.out.trans (hr.out.mono (by have := hb2.out.size; omega)), q + 1, by omega, by go_num, hsn.out.kept hr.out⟩
                case measure => simp [intOf]; omega
          · have ho := Lib.hid (HO.out _ (HBB.out _ b2))
            clear CW sn HO hlow hmid htop hS HBB
            go_wp2
            exact ho.out
theorem lifted (os : Os) (started : os.Started) (H : Type) (enc : TypeId × Value → H) :
    ReturnsInHanded {} Try.checked os 4 .any (Rows.framesApartSpec.pre6 enc Try.prog Try.f4 Rows.framesApartRow.domain false) (Rows.framesApartSpec.post enc Try.prog Try.f4 false true false false) := by
  refine returnsInHanded_of_change (C := Try.checked) own started (by kernel_rfl) Try.func4
    (ChangeSpec.witness6 (enc := enc) (C := Try.checked) false ⟨#[], #[.agg #[.int .i64 0, .int .i64 0, .int .i64 0, .slice none 0 0, .slice none 0 0, .slice none 0 0]], []⟩ 8 (by kernel_rfl) (by kernel_rfl) (by kernel_rfl) (by kernel_rfl)) ?_
  intro W base args ds gs before hval0 hW hcnd _
  have hval : ∀ (j : Nat) t v, Try.f4.params[j]? = some t → args[j]? = some v → Value.okWide Try.prog W .any base t v := hval0
  have hW' := hW
  obtain ⟨p, q, hA0, hV, rfl, hfz, hnd⟩ := hW
  have hA : DataW.TrodAll enc Try.prog W 0 (fun _ => true) true Try.f4.params.toList args.toList ds p := hA0
  rw [Try.params4] at hA hval
  obtain ⟨v0, vs0, d0, ds0, p0, q0, hargs, rfl, rfl, h0, r0⟩ := trodAll_cons hA
  obtain ⟨rfl, rfl, rfl⟩ := trodAll_nil r0
  obtain rfl : args = #[v0] := by cases args; simp_all
  obtain ⟨rfl, rfl⟩ := trodVars_none hV
  have hlt0 : ∀ x ∈ p0, x.block < W.heap.size := fun x hx => hW'.lt x (by simp [hx])
  obtain ⟨c0, p1_0, k1_0, p2_0, k2_0, p3_0, k3_0, rfl, X0⟩ := open_cfg (hval 0 26 v0 rfl rfl) h0
  clear hA0 hval0
  simp only [List.append_nil] at hW'
  refine (walk W X0).mono fun e W' ⟨he, hg⟩ => ?_
  subst he
  exact ⟨_, rfl, _, _, _, [], _, [], hW', (trodAll_cons_mk (shut_bool Try.underlying4 _) trodAll_mk0), (trodAll_cons_mk (Below.trod laidOut (by kernel_rfl) (of_decide_eq_true (by kernel_rfl)) h0 hg hlt0) trodAll_mk0), rfl, hg.frame _, fun h => by cases h⟩
theorem over : Rows.framesApartRow.holds Try.pinned (OpenSpec.ofChange Rows.framesApartSpec) :=
  OpenClaim.holds_of_wide 4 Try.f4 rfl rfl rfl rfl rfl rfl rfl ⟨rfl, rfl, rfl, rfl, rfl⟩ rfl rfl rfl rfl rfl (by kernel_rfl) Try.func4 (by kernel_rfl)
    (of_decide_eq_true (by kernel_rfl)) (by unfold Func.isWrapper; first | (rw [if_pos (by decide +kernel)]; kernel_rfl) | (rw [if_neg (by decide +kernel)]; exact ⟨rfl, rfl⟩))
    (fun os started H enc _ => lifted os started H enc)
/-- THE STATEMENT. -/
theorem proved : Rows.FramesApartSaid :=
  over
end Go.Proofs.Ytlddclkophajbaa.framesApart
