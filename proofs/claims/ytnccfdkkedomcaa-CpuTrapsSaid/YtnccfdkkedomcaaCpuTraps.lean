
/-
  The walk of law CpuTraps.
-/
import Derived.Test.YtnccfdkkedomcaaCpuREn
import Derived.Test.YtnccfdkkedomcaaCpuLent
import Derived.Test.YtnccfdkkedomcaaCpuWipe
import Derived.Test.YtnccfdkkedomcaaCpuStay
import Derived.Deep.RegionWith
namespace Go.Proofs.Ytnccfdkkedomcaa.Ser
open Go.Proofs.Ytnccfdkkedomcaa
open Go.ChangeShapes Go.WideShapes Go.ChangeAt Go.RowKit
theorem lie_of_ownX {E : TypeId} {k : IntKind} {w : World} {B g n q : Nat} {xs : List Int} {x : Int} (h : OwnX E k w B g n q xs x) : Lie k w w.heap.size (some ⟨g, 0, none⟩) (n + 1) q (xs ++ [x]) ∧ q ≤ maxLen := by
  obtain ⟨p, c, e, m, L⟩ := ownK_lie h
  injection e with e1 e2 e3
  subst e1 e3
  rw [← e2] at L
  exact ⟨L, m⟩
theorem full_of {w : World} {B g1 q1 g2 q2 g3 q3 : Nat} {s : St} (O1 : OwnX 3 .i64 w B g1 s.R.length q1 s.R (-71)) (O2 : OwnX 3 .i64 w B g2 s.C.length q2 s.C (-71)) (O3 : OwnX 5 .u8 w B g3 s.O.length q3 s.O 171) :
    FullL w (.agg #[.slice (some ⟨g1, 0, none⟩) s.R.length q1, i64 s.pc, .slice (some ⟨g2, 0, none⟩) s.C.length q2, .bool s.h, .bool s.k, .slice (some ⟨g3, 0, none⟩) s.O.length q3]) s :=
  ⟨g1, q1, g2, q2, g3, q3, rfl, ⟨(lie_of_ownX O1).2, (lie_of_ownX O2).2, (lie_of_ownX O3).2⟩, (lie_of_ownX O1).1, (lie_of_ownX O2).1, (lie_of_ownX O3).1⟩
set_option maxRecDepth 100000 in
theorem traps_big {W : World} {v : Value} {s : St} (A : StL W W.heap.size v s) (hf : ¬ fit s) (a b : Int) : Calls Try.prog 4 #[v, i64 a, i64 b] W fun e w' => e = .returned (.bool true) ∧ Below W.heap.size W w' := by
  have HBig := Lib.hid (fun (u : World) (k : Below W.heap.size W u) => big_yes (A.later k) hf)
  obtain ⟨rp, rn, rc, cp, cn, cc, op, on, oc, rfl, -⟩ := A
  have HB0 := Lib.hid ((Below.refl W.heap.size W).alloc (Nat.le_refl _) (.cells #[.slice rp rn rc, i64 s.pc, .slice cp cn cc, .bool s.h, .bool s.k, .slice op on oc] 31))
  have HX := Lib.hid (Box6.new W (.slice rp rn rc) s.pc (.slice cp cn cc) s.h s.k (.slice op on oc))
  go_enter Try.func4, Try.ntmps4
  go_wp2_with (first
    | (go_at_call 14; refine (HBig.out _ hb1).mono ?_; rintro e w2 ⟨rfl, k2⟩; have hb2 := hb1.trans (k2.mono hb1.size))
    | (go_at_call 9; refine (alive9_says _).mono ?_; rintro e w1 ⟨rfl, k1⟩; have hb1 := HB0.out.trans (k1.mono HB0.out.size); have x1 := HX.out.kept k1 HX.out.lt; obtain ⟨y0, y1, y2, y3, y4, y5⟩ := x1.cells))
  go_ret
  exact ⟨rfl, hb2⟩
set_option maxRecDepth 100000 in
set_option maxHeartbeats 8000000 in
theorem traps_main {W : World} {v : Value} {s : St} (A : StL W W.heap.size v s) (hf : fit s) (a b : Int) : Calls Try.prog 4 #[v, i64 a, i64 b] W fun e w' => e = .returned (.bool true) ∧ Below W.heap.size W w' := by
  have hl : s.R.length ≤ 1000 ∧ s.C.length ≤ 1000 ∧ s.O.length ≤ 10000 := by obtain ⟨f1, f2, f3⟩ := hf; omega
  have hl5 : s.R.length ≤ 100000 ∧ s.C.length ≤ 100000 ∧ s.O.length ≤ 100000 := by omega
  have HLEN := Lib.hid (And.intro hl hl5)
  have HBig := Lib.hid (fun (u : World) (k : Below W.heap.size W u) => big_no (A.later k) hf)
  have HLent := Lib.hid (fun (u : World) (k : Below W.heap.size W u) => lent_says (A.later k) hf)
  have HRL := Lib.hid (fun (u : World) (k : Below W.heap.size W u) => rleave_state (A.later k) hl)
  have HRE := Lib.hid (fun (u : World) (k : Below W.heap.size W u) => renter_state (A.later k) hl a b)
  have HEn := Lib.hid (fun (u : World) (vf : Value) (k : StL u u.heap.size vf s) => enter_state k hl a b)
  have HLe := Lib.hid (fun (u : World) (vf : Value) (k : StL u u.heap.size vf s) => leave_state k hl)
  have HA := Lib.hid A
  obtain ⟨rp, rn, rc, cp, cn, cc, op, on, oc, rfl, -⟩ := A
  have HB0 := Lib.hid ((Below.refl W.heap.size W).alloc (Nat.le_refl _) (.cells #[.slice rp rn rc, i64 s.pc, .slice cp cn cc, .bool s.h, .bool s.k, .slice op on oc] 31))
  have HX := Lib.hid (Box6.new W (.slice rp rn rc) s.pc (.slice cp cn cc) s.h s.k (.slice op on oc))
  clear hl hl5 hf
  go_enter Try.func4, Try.ntmps4
  go_upto_region 6 with (first
    | (go_at_call 15; refine (HLent.out _ hb2).mono ?_; rintro e w3 ⟨g1, q1, g2, q2, g3, q3, rfl, O1, O2, O3, k3⟩; have hb3 := hb2.trans (k3.mono hb2.size); have x3 := x2.kept k3 x2.lt; have HO := Lib.hid (And.intro O1 (And.intro O2 O3)); clear O1 O2 O3)
    | (go_at_call 14; refine (HBig.out _ hb1).mono ?_; rintro e w2 ⟨rfl, k2⟩; have hb2 := hb1.trans (k2.mono hb1.size); have x2 := x1.kept k2 x1.lt; obtain ⟨s0, s1, s2, s3, s4, s5⟩ := x2.cells)
    | (go_at_call 9; refine (alive9_says _).mono ?_; rintro e w1 ⟨rfl, k1⟩; have hb1 := HB0.out.trans (k1.mono HB0.out.size); have x1 := HX.out.kept k1 HX.out.lt; obtain ⟨y0, y1, y2, y3, y4, y5⟩ := x1.cells))
  have F3 := full_of HO.out.1 HO.out.2.1 HO.out.2.2
  obtain ⟨n1, hn1⟩ : ∃ n, s.R.length = n := ⟨_, rfl⟩
  obtain ⟨n2, hn2⟩ : ∃ n, s.C.length = n := ⟨_, rfl⟩
  obtain ⟨n3, hn3⟩ : ∃ n, s.O.length = n := ⟨_, rfl⟩
  rw [hn1, hn2, hn3] at F3 ⊢
  clear HO hn1 hn2 hn3 y0 y1 y2 y3 y4 y5 s0 s1 s2 s3 s4 s5 x1 x2 HX HB0 HBig HLent hb1 hb2 k1 k2
  have ha4 := (Below.refl w3.heap.size w3).alloc (Nat.le_refl _) (.cells #[.slice (some ⟨g1, 0, none⟩) n1 q1, i64 s.pc, .slice (some ⟨g2, 0, none⟩) n2 q2, .bool s.h, .bool s.k, .slice (some ⟨g3, 0, none⟩) n3 q3] 31)
  have F4 := F3.later ha4
  have x4 := x3.kept ha4 x3.lt
  have f4 := Box6.new w3 (.slice (some ⟨g1, 0, none⟩) n1 q1) s.pc (.slice (some ⟨g2, 0, none⟩) n2 q2) s.h s.k (.slice (some ⟨g3, 0, none⟩) n3 q3)
  have hb4 := hb3.trans (ha4.mono hb3.size)
  obtain ⟨w4, hw4⟩ : ∃ u, u = w3.alloc (.cells #[.slice (some ⟨g1, 0, none⟩) n1 q1, i64 s.pc, .slice (some ⟨g2, 0, none⟩) n2 q2, .bool s.h, .bool s.k, .slice (some ⟨g3, 0, none⟩) n3 q3] 31) := ⟨_, rfl⟩
  rw [← hw4] at F4 x4 f4 hb4 ⊢
  obtain ⟨bf, hbf⟩ : ∃ bf, w3.heap.size = bf := ⟨_, rfl⟩
  rw [hbf] at f4 ⊢
  clear hw4 hbf ha4 F3 x3 hb3 k3
  have HF4 := Lib.hid F4; have HX4 := Lib.hid x4; have Hf4 := Lib.hid f4; have HB4 := Lib.hid hb4
  obtain ⟨s0, s1, s2, s3, s4, s5⟩ := f4.cells
  clear F4 x4 f4 hb4
  go_upto_region 7 with (go_at_call 16; refine (HEn.out w4 _ HF4.out.lies).mono ?_; rintro e w5 ⟨ra, ca, oa, rfl, SA, k5⟩; obtain ⟨ap, an, aq, bp, bn, bq, cp5, cn5, cq5, rfl, rfl, rfl, -⟩ := SA.forms; have HSA := Lib.hid SA; have K5 := Lib.hid k5; clear SA k5)
  have ha6 := (Below.refl w5.heap.size w5).alloc (Nat.le_refl _) (.cells #[.slice ap an aq, i64 (enS s a b).pc, .slice bp bn bq, .bool (enS s a b).h, .bool (enS s a b).k, .slice cp5 cn5 cq5] 31)
  have h6 := K5.out.trans (ha6.mono K5.out.size)
  have F6 := HF4.out.later h6
  have x6 := HX4.out.kept h6 HX4.out.lt
  have f6 := Hf4.out.kept h6 Hf4.out.lt
  have b6 := HB4.out.trans (h6.mono HB4.out.size)
  have A6 := HSA.out.lies.later ha6
  have a6 := Box6.new w5 (.slice ap an aq) (enS s a b).pc (.slice bp bn bq) (enS s a b).h (enS s a b).k (.slice cp5 cn5 cq5)
  obtain ⟨w6, hw6⟩ : ∃ u, u = w5.alloc (.cells #[.slice ap an aq, i64 (enS s a b).pc, .slice bp bn bq, .bool (enS s a b).h, .bool (enS s a b).k, .slice cp5 cn5 cq5] 31) := ⟨_, rfl⟩
  rw [← hw6] at F6 x6 f6 b6 A6 a6 ⊢
  obtain ⟨ba, hba⟩ : ∃ ba, w5.heap.size = ba := ⟨_, rfl⟩
  rw [hba] at a6 ⊢
  clear hw6 hba ha6 h6 HF4 HX4 Hf4 HB4 HSA K5 s0 s1 s2 s3 s4 s5 HEn
  have HF6 := Lib.hid F6; have HX6 := Lib.hid x6; have Hf6 := Lib.hid f6; have HB6 := Lib.hid b6; have HA6 := Lib.hid A6; have Ha6 := Lib.hid a6
  obtain ⟨s0, s1, s2, s3, s4, s5⟩ := f6.cells
  clear F6 x6 f6 b6 A6 a6
  go_upto_region 8 with (go_at_call 17; refine (HLe.out w6 _ HF6.out.lies).mono ?_; rintro e w7 ⟨rb, cb, ob, rfl, SB, k7⟩; obtain ⟨dp, dn, dq, ep, en7, eq7, fp, fn, fq, rfl, rfl, rfl, -⟩ := SB.forms; have HSB := Lib.hid SB; have K7 := Lib.hid k7; clear SB k7)
  have ha8 := (Below.refl w7.heap.size w7).alloc (Nat.le_refl _) (.cells #[.slice dp dn dq, i64 (leS s).pc, .slice ep en7 eq7, .bool (leS s).h, .bool (leS s).k, .slice fp fn fq] 31)
  have S8 := HSB.out.below ha8
  have k8 := K7.out.trans (ha8.mono K7.out.size)
  have b8 := Box6.new w7 (.slice dp dn dq) (leS s).pc (.slice ep en7 eq7) (leS s).h (leS s).k (.slice fp fn fq)
  obtain ⟨w8, hw8⟩ : ∃ u, u = w7.alloc (.cells #[.slice dp dn dq, i64 (leS s).pc, .slice ep en7 eq7, .bool (leS s).h, .bool (leS s).k, .slice fp fn fq] 31) := ⟨_, rfl⟩
  rw [← hw8] at S8 k8 b8 ⊢
  obtain ⟨bb, hbb⟩ : ∃ bb, w7.heap.size = bb := ⟨_, rfl⟩
  rw [hbb] at b8 ⊢
  clear hw8 hbb ha8 HSB K7 s0 s1 s2 s3 s4 s5 HLe
  have HS8 := Lib.hid S8; have K8 := Lib.hid k8; have Hb8 := Lib.hid b8
  have kW8 := Lib.hid (HB6.out.trans (k8.mono HB6.out.size))
  have ll := HLEN.out
  have HL1 := Lib.hid (show (leS s).R.length ≤ 100000 ∧ (leS s).C.length ≤ 100000 ∧ (leS s).O.length ≤ 100000 from by rw [leS_length]; exact ⟨ll.2.1, by have := ll.2.2.1; omega, ll.2.2.2⟩)
  have HL2 := Lib.hid (show (enS s a b).R.length ≤ 100000 ∧ (enS s a b).C.length ≤ 100000 ∧ (enS s a b).O.length ≤ 100000 from by rw [enS_length]; exact ⟨ll.2.1, by have := ll.2.2.1; omega, ll.2.2.2⟩)
  clear ll
  go_cut [12] from 13 (fun s12 wx => s12 = .bool true ∧ Below w8.heap.size w8 wx)
  case first =>
    obtain ⟨s0, s1, s2, s3, s4, s5⟩ := b8.cells
    obtain ⟨t0, t1, t2, t3, t4, t5⟩ := (HX6.out.kept k8 HX6.out.lt).cells
    clear S8 k8 b8
    have hd0 : Below w8.heap.size w8 w8.drew := (Below.refl _ _).drew
    go_region_with (first
      | (go_at_call 18; refine (same_state (HS8.out.lies.later k9') S9.out.lies HL1.out.1 HL1.out.2.1).mono ?_; rintro e w10 ⟨rfl, k10⟩; have k10' := k9'.trans (k10.mono k9'.size))
      | (go_at_call 19; refine (HRL.out _ kW8.out.drew).mono ?_; rintro e w9 ⟨r9, c9, o9, rfl, S9', k9⟩; have k9' := hd0.trans (k9.mono hd0.size); have S9 := Lib.hid S9'; clear S9'; obtain ⟨u0, u1, u2, u3, u4, u5⟩ := (Hb8.out.kept k9' Hb8.out.lt).cells))
    all_goals
      go_wp2_with fail
      go_meet
      case rel => exact ⟨rfl, k10'⟩
  case rest =>
    obtain ⟨rfl, kc⟩ := hcut
    clear S8 k8 b8
    obtain ⟨s0, s1, s2, s3, s4, s5⟩ := (Hb8.out.kept kc Hb8.out.lt).cells
    have HSc := Lib.hid (HS8.out.below kc)
    have KC := Lib.hid (K8.out.trans (kc.mono K8.out.size))
    clear kc
    go_upto_region 10 with (go_at_call 20; refine (wipe_says HSc.out KC.out.size HL1.out).mono ?_; rintro e w11 ⟨rfl, k11⟩; have K11 := Lib.hid (KC.out.trans k11); clear k11)
    have kd := K11.out.drew
    obtain ⟨a0, a1, a2, a3, a4, a5⟩ := (Ha6.out.kept K11.out Ha6.out.lt).cells
    obtain ⟨f0, f1, f2, f3, f4, f5⟩ := (Hf6.out.kept K11.out Hf6.out.lt).cells
    obtain ⟨t0, t1, t2, t3, t4, t5⟩ := (HX6.out.kept K11.out HX6.out.lt).cells
    clear s0 s1 s2 s3 s4 s5
    have KD := Lib.hid kd
    clear kd
    go_region_with (first
      | (go_at_call 18; refine (same_state (HA6.out.later K13.out) S13.out.lies HL2.out.1 HL2.out.2.1).mono ?_; rintro e w14 ⟨rfl, k14⟩; have K14 := Lib.hid (K13.out.trans (k14.mono K13.out.size)); clear k14)
      | (go_at_call 22; refine (HRE.out _ (HB6.out.trans (K12.out.mono HB6.out.size))).mono ?_; rintro e w13 ⟨r13, c13, o13, rfl, S13', k13⟩; have K13 := Lib.hid (K12.out.trans (k13.mono K12.out.size)); have S13 := Lib.hid S13'; obtain ⟨x0, x1, x2, x3, x4, x5⟩ := (Ha6.out.kept K13.out Ha6.out.lt).cells; clear S13' k13)
      | (go_at_call 21; refine (stay_says (HF6.out.later KD.out) (HA.out.later (HB6.out.trans (KD.out.mono HB6.out.size))) HLEN.out.2).mono ?_; rintro e w12 ⟨rfl, k12⟩; have K12 := Lib.hid (KD.out.trans (k12.mono KD.out.size)); obtain ⟨y0, y1, y2, y3, y4, y5⟩ := (Ha6.out.kept K12.out Ha6.out.lt).cells; obtain ⟨z0, z1, z2, z3, z4, z5⟩ := (HX6.out.kept K12.out HX6.out.lt).cells; clear k12))
    all_goals
      go_wp2_with fail
      go_ret
      exact ⟨ret_bool (by simp), HB6.out.trans (K14.out.mono HB6.out.size)⟩
theorem traps_walk {W : World} {v : Value} {s : St} (A : StL W W.heap.size v s) (_ : (s.R.length : Int) ≤ 9223372036854775807) (_ : (s.C.length : Int) ≤ 9223372036854775807) (_ : (s.O.length : Int) ≤ 9223372036854775807) (a b : Int) : Calls Try.prog 4 #[v, .int .i64 a, .int .i64 b] W fun e w' => e = .returned (.bool true) ∧ Below W.heap.size W w' := by
  by_cases hf : fit s
  · exact traps_main A hf a b
  · exact traps_big A hf a b
end Go.Proofs.Ytnccfdkkedomcaa.Ser
