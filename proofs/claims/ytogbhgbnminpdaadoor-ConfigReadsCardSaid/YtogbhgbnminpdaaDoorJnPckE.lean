/-
  Package config: Pack.
-/
import Derived.Test.YtogbhgbnminpdaaDoorJnPkCd
set_option linter.unusedVariables false
set_option maxRecDepth 100000
set_option linter.unusedVariables false
namespace Go.Proofs.YtogbhgbnminpdaaDoor.Pck
open Go.Proofs.YtogbhgbnminpdaaDoor Go.Proofs.YtogbhgbnminpdaaDoor.Ser Go.Proofs.YtogbhgbnminpdaaDoor.Img Go.Proofs.YtogbhgbnminpdaaDoor.Cfg
open Go.ChangeShapes Go.WideShapes Go.ChangeAt Go.RowKit
set_option linter.unusedVariables false
open Classical in
noncomputable def packO (c : Cf) : List Int := if chk c = 0 then packC c else []
/-- Bytes and a number are told. -/
def Told (w : World) (xs : List Int) (x : Int) (e : Ending) (w' : World) : Prop := ∃ p n q, e = .returned (.tuple #[.slice p n q, i64 x]) ∧ OwnK 5 .u8 w' w.heap.size (.slice p n q) xs ∧ Below w.heap.size w w'
/-- A row of numbers in a new block. -/
theorem lie_nums (w : World) (xs : List Int) (g n : Nat) (hg : w.heap.size = g) (hn : xs.length = n) : Lie .i64 (w.alloc (.cells (kL .i64 xs).toArray 3)) (w.alloc (.cells (kL .i64 xs).toArray 3)).heap.size (some ⟨g, 0, none⟩) n n xs := by
  subst hn; exact lie_built 3 .i64 w xs (0, 0) g hg
theorem own_lt8 {w : World} {B : Nat} {p : Option Addr} {n q b : Nat} {R : List Int} (o : OwnK 5 .u8 w B (.slice p n q) R) (h : w.heap.size ≤ b) : (Value.slice p n q).ownBlock ≠ some b := fun e => by
  have := (o.lt b e).2; omega
/-- Numbers behind a row of one's own, their row just laid. -/
theorem appn_new {w : World} {B : Nat} {p1 : Option Addr} {n1 c1 : Nat} {R : List Int} (o : OwnK 5 .u8 w B (.slice p1 n1 c1) R) (hB : B ≤ w.heap.size) (xs : List Int) (n g : Nat) (hg : w.heap.size = g) (hn : xs.length = n)
    (hb : ∀ x ∈ xs, -9223372036854775808 ≤ x ∧ x ≤ 9223372036854775807) (hsz : R.length + 4 * n ≤ 900000) :
    Calls Tryd.prog 23 #[.slice p1 n1 c1, .slice (some ⟨g, 0, none⟩) n n] (w.alloc (.cells (kL .i64 xs).toArray 3)) fun e w' => ∃ p n q, e = .returned (.slice p n q) ∧ OwnK 5 .u8 w' B (.slice p n q) (R ++ nums xs) ∧ Below B w w' ∧ ∀ i, i < w.heap.size → (Value.slice p1 n1 c1).ownBlock ≠ some i → w'.heap[i]? = w.heap[i]? := by
  have gb := below_alloc w (.cells (kL .i64 xs).toArray 3)
  have o2 := ownK_below o gb
  refine (appn_says o2 (Nat.le_trans hB gb.size) (lie_nums w xs g n hg hn) (fun b off e => ?_) hb hsz).mono ?_
  · injection e with e; injection e with e1 _ _
    subst e1
    exact own_lt8 o (Nat.le_of_eq hg)
  · rintro e w' ⟨p, n, q, rfl, o3, g3⟩
    refine ⟨p, n, q, rfl, o3, ?_, fun i hi hv => (g3.block i (by have := gb.size; omega) hv).trans (gb.block i hi)⟩
    have hlt := o2.lt
    exact ⟨g3.os.trans gb.os, g3.tape.trans gb.tape, g3.output.trans gb.output, Nat.le_trans gb.size g3.size, fun i hi => (g3.block i (by have := gb.size; omega) (fun e => by have := (hlt i e).1; omega)).trans (gb.block i (by omega))⟩
set_option maxHeartbeats 8000000 in
theorem pack_says {w : World} {c : Cf} {p1 : Option Addr} {c1 : Nat} {p2 : Option Addr} {c2 : Nat} {p3 : Option Addr} {c3 : Nat}
    (L1 : LieS 3 w w.heap.size p1 c.parts.length c1 (c.parts.map ptC)) (L2 : LieS 5 w w.heap.size p2 c.chans.length c2 (c.chans.map chC)) (L3 : LieS 3 w w.heap.size p3 c.wins.length c3 (c.wins.map wnC)) (wf : Wf c) (hc1 : c1 ≤ 9223372036854775807) :
    Calls Tryd.prog 9 #[cfV c p1 c1 p2 c2 p3 c3] w (Told w (packO c) (chk c)) := by
  obtain ⟨r, hr⟩ : ∃ r, r = Told w (packO c) (chk c) := ⟨_, rfl⟩
  rw [← hr]
  obtain ⟨h, hhz⟩ : ∃ h, w.heap.size = h := ⟨_, rfl⟩
  obtain ⟨w1, hw1⟩ : ∃ w1, w1 = w.alloc (.cells #[i64 c.pages, i64 c.major, i64 c.switch, .slice p1 c.parts.length c1, .slice p2 c.chans.length c2, .slice p3 c.wins.length c3] 26) := ⟨_, rfl⟩
  have bw := Lib.hid (by rw [hw1]; exact (Below.refl _ _).alloc (Nat.le_of_eq hhz.symm) _ : Below h w w1)
  have hg1 : w1.heap.size = h + 1 := by rw [hw1, ← hhz]; simp
  have Z := Lib.hid (fun (u : World) (hu : Below (h + 1) w1 u) (k : Nat) (v : Value) (hv : [i64 c.pages, i64 c.major, i64 c.switch, .slice p1 c.parts.length c1, .slice p2 c.chans.length c2, .slice p3 c.wins.length c3][k]? = some v) => (by
    rw [World.cell?_of_block (hu.block h (Nat.lt_succ_self _)), hw1, ← hhz, cell_of_row _ _ k _ _ _ (heap_alloc_new _ _), ← Array.getElem?_toList]; exact hv : u.cell? ⟨h, k, none⟩ = some v))
  rw [hhz] at L1 L2 L3
  have K1 := Lib.hid (fun (u : World) (hu : Below (h + 1) w1 u) => L1.kept (bw.out.trans (hu.mono (Nat.le_succ _))) (Nat.le_refl _))
  have K2 := Lib.hid (fun (u : World) (hu : Below (h + 1) w1 u) => L2.kept (bw.out.trans (hu.mono (Nat.le_succ _))) (Nat.le_refl _))
  have K3 := Lib.hid (fun (u : World) (hu : Below (h + 1) w1 u) => L3.kept (bw.out.trans (hu.mono (Nat.le_succ _))) (Nat.le_refl _))
  have hck := Lib.hid (check_says ((K1.out w1 (Below.refl _ _)).wide (B' := w1.heap.size) (by omega)) ((K2.out w1 (Below.refl _ _)).wide (B' := w1.heap.size) (by omega)) ((K3.out w1 (Below.refl _ _)).wide (B' := w1.heap.size) (by omega)) wf hc1)
  simp only [cfV] at hck ⊢
  have z0 := Z.out w1 (Below.refl _ _) 0 _ rfl
  have z1 := Z.out w1 (Below.refl _ _) 1 _ rfl
  have z2 := Z.out w1 (Below.refl _ _) 2 _ rfl
  have z3 := Z.out w1 (Below.refl _ _) 3 _ rfl
  have z4 := Z.out w1 (Below.refl _ _) 4 _ rfl
  have z5 := Z.out w1 (Below.refl _ _) 5 _ rfl
  clear L1 L2 L3
  by_cases hz : chk c = 0
  · rw [hz] at hck hr
    rw [show packO c = packC c by unfold packO; rw [if_pos hz]] at hr
    have HO := Lib.hid (fun p' n' q' u (o : OwnK 5 .u8 u (h + 1) (.slice p' n' q') (packC c)) (hu : Below (h + 1) w1 u) => (by rw [hr]; exact ⟨p', n', q', rfl, ownK_mono o (by omega), by rw [hhz]; exact bw.out.trans (hu.mono (Nat.le_succ _))⟩ : r (.returned (.tuple #[.slice p' n' q', i64 0])) u))
    have hbl := Lib.hid (b_len hz)
    have hzs := Lib.hid (chk_zero hz)
    have WF := Lib.hid wf
    clear hr hz
    go_enter Tryd.func9, Tryd.ntmps9
    go_upto_region 1 with fail
    try simp only [hhz]
    rw [← hw1]
    clear hw1
    go_upto_region 4 with (go_at_call 8; (with_reducible refine hck.out.mono ?_); rintro e w2 ⟨rfl, hb⟩; have BC := Lib.hid (hb.mono (Nat.le_of_eq hg1.symm)); clear hb)
    have y0 := Z.out _ BC.out 0 _ rfl
    have y1 := Z.out _ BC.out 1 _ rfl
    have y2 := Z.out _ BC.out 2 _ rfl
    have y3 := Z.out _ BC.out 3 _ rfl
    clear z0 z1 z2 z3 z4 z5 hck
    have SZ := Lib.hid (fun (u : World) (b : Below (h + 1) w1 u) => (by have := b.size; omega : h + 1 ≤ u.heap.size))
    obtain ⟨g, hg⟩ : ∃ g, w2.heap.size = g := ⟨_, rfl⟩
    have hcv := Lib.run_convert_bytes_const (P := Tryd.prog) w2 32 5 #[.int .u8 84, .int .u8 82, .int .u8 67, .int .u8 49] 4 4 Tryd.underlying32 Tryd.underlying5
    rw [hg] at hcv
    obtain ⟨w3, hw3⟩ : ∃ w3, w3 = w2.alloc (.cells #[.int .u8 84, .int .u8 82, .int .u8 67, .int .u8 49] 5 (4, 5)) := ⟨_, rfl⟩
    change (convert 32 32 (.slice (some ⟨g, 0, none⟩) 4 4)).run Tryd.prog (w2.alloc (.cells #[.int .u8 84, .int .u8 82, .int .u8 67, .int .u8 49] 5)) = .ok (.slice (some ⟨g, 0, none⟩) 4 4) (w2.alloc (.cells #[.int .u8 84, .int .u8 82, .int .u8 67, .int .u8 49] 5 (4, 5))) at hcv
    have B3 := Lib.hid (by rw [hw3]; exact BC.out.alloc (by have := BC.out.size; omega) _ : Below (h + 1) w1 w3)
    have R3 := Lib.hid (by rw [hw3]; exact lie_built 5 .u8 w2 [84, 82, 67, 49] (4, 5) g hg : Lie .u8 w3 w3.heap.size (some ⟨g, 0, none⟩) 4 4 [84, 82, 67, 49])
    rw [← hw3] at hcv
    have x0 := Z.out _ B3.out 0 _ rfl
    have x1 := Z.out _ B3.out 1 _ rfl
    have x2 := Z.out _ B3.out 2 _ rfl
    have x3 := Z.out _ B3.out 3 _ rfl
    clear hw3 y0 y1 y2 y3
    have hnum := Lib.hid (fun (x : Int) (hx : x ∈ [c.pages, c.major, c.switch, (c.parts.length : Int)]) => (by
      have w1' := WF.out.pages; have w2' := WF.out.major; have w3' := WF.out.switch; have w4' := WF.out.len.1
      simp only [List.mem_cons, List.mem_nil_iff, or_false] at hx
      rcases hx with rfl | rfl | rfl | rfl <;> omega : -9223372036854775808 ≤ x ∧ x ≤ 9223372036854775807))
    have HA := Lib.hid (show Calls Tryd.prog 23 #[.slice (some ⟨g, 0, none⟩) 4 4, .slice (some ⟨w3.heap.size, 0, none⟩) 4 4] (w3.alloc (.cells #[.int .i64 c.pages, .int .i64 c.major, .int .i64 c.switch, .int .i64 c.parts.length] 3)) (App1 (w3.alloc (.cells #[.int .i64 c.pages, .int .i64 c.major, .int .i64 c.switch, .int .i64 c.parts.length] 3)) (b0 c)) from
      appn1_says ((R3.out.kept (below_alloc w3 _) (Nat.le_refl _)).wide (by simp)) (lie_nums w3 [c.pages, c.major, c.switch, (c.parts.length : Int)] w3.heap.size 4 rfl rfl) (by omega) hnum.out (by omega))
    have B4 := Lib.hid (B3.out.alloc (SZ.out _ B3.out) (.cells #[.int .i64 c.pages, .int .i64 c.major, .int .i64 c.switch, .int .i64 c.parts.length] 3))
    go_upto_region 5 with (go_at_call 23; go_loud (with_reducible refine HA.out.mono ?_); rintro e w5 ⟨p5, n5, q5, rfl, o5, g5⟩; have O5 := Lib.hid (ownK_mono o5 (SZ.out _ B4.out)); have B5 := Lib.hid (B4.out.trans (g5.mono (SZ.out _ B4.out))); clear o5 g5)
    clear HA B4 hnum R3 x0 x1 x2 x3 hcv
    have zz3 := Z.out _ B5.out 3 _ rfl
    go_cut [31, 32, 33] from 300 (fun a b i wx => a = .slice p1 c.parts.length c1 ∧ b = .int .i64 c.parts.length ∧ i = .int .i64 0 ∧ wx = w5)
    case first => go_wp2; go_meet; case rel => exact ⟨rfl, rfl, rfl, rfl⟩
    case rest =>
    obtain ⟨rfl, rfl, rfl, hw⟩ := hcut
    rw [hw]
    clear hw zz3
    refine ‹∀ (a : Act) (w : World), Code.wp _ _ _ a w → _› _ _ ?_
    go_cut [5] from 300 (fun v wx => ∃ p n q, v = .slice p n q ∧ OwnK 5 .u8 wx (h + 1) (.slice p n q) (b1 c c.parts.length) ∧ Below (h + 1) w1 wx)
    case first =>
      go_wp2
      go_loopw [5, 7, 33] (fun v _ i wr => ∃ k : Nat, k ≤ c.parts.length ∧ i = .int .i64 k ∧ ∃ p n q, v = .slice p n q ∧ OwnK 5 .u8 wr (h + 1) (.slice p n q) (b1 c k) ∧ Below (h + 1) w1 wr) (fun _ _ i _ => c.parts.length - (intOf i).toNat)
      case atStart => exact ⟨0, Nat.zero_le _, rfl, _, _, _, rfl, (by rw [show b1 c 0 = b0 c by unfold b1; simp]; exact O5.out), B5.out⟩
      case round =>
        obtain ⟨k, hk, rfl, p, n, q, rfl, o, bl⟩ := hrel
        by_cases hkl : k < c.parts.length
        · have hkI : (k : Int) < (c.parts.length : Int) := by omega
          have hk8 := hzs.out.2.1.1.2
          obtain ⟨x, hx⟩ : ∃ x, c.parts[k]? = some x := ⟨_, List.getElem?_eq_getElem hkl⟩
          obtain ⟨b, off, rfl, hbl', y0, y1, y2⟩ := (K1.out wr bl).cell3 k x hx rfl
          have hs := b1_succ c k x hx
          have hx3 := Lib.hid (And.intro (WF.out.nums.1 k x hx) (hzs.out.2.1.2 k x hx))
          have hlen := hbl.out.1 k
          obtain ⟨g6, hg6⟩ : ∃ g6, wr.heap.size = g6 := ⟨_, rfl⟩
          obtain ⟨w6, hw6⟩ : ∃ w6, w6 = wr.alloc (.cells #[.string x.name, .int .i64 x.pages, .int .i64 x.act] 47) := ⟨_, rfl⟩
          have b6 := below_alloc wr (.cells #[.string x.name, .int .i64 x.pages, .int .i64 x.act] 47)
          rw [← hw6] at b6
          have o6 := ownK_below o b6
          have s6 : w6.heap.size = g6 + 1 := by rw [hw6, ← hg6]; simp
          have v0 : w6.cell? ⟨g6, 0, none⟩ = some (.string x.name) := by rw [hw6, ← hg6]; rw [cell_of_row _ _ 0 _ _ _ (heap_alloc_new _ _)]; rfl
          have v1 : w6.cell? ⟨g6, 1, none⟩ = some (.int .i64 x.pages) := by rw [hw6, ← hg6]; rw [cell_of_row _ _ 1 _ _ _ (heap_alloc_new _ _)]; rfl
          have v2 : w6.cell? ⟨g6, 2, none⟩ = some (.int .i64 x.act) := by rw [hw6, ← hg6]; rw [cell_of_row _ _ 2 _ _ _ (heap_alloc_new _ _)]; rfl
          have hgo : (Value.slice p n q).ownBlock ≠ some g6 := own_lt8 o (Nat.le_of_eq hg6)
          have B6 := Lib.hid (bl.trans (b6.mono (SZ.out _ bl)))
          have HA := Lib.hid (show Calls Tryd.prog 23 #[.slice p n q, .slice (some ⟨g6 + 1, 0, none⟩) 3 3] (w6.alloc (.cells #[.int .i64 x.name.size, .int .i64 x.pages, .int .i64 x.act] 3)) _ from
            appn_new o6 (SZ.out _ B6.out) [(x.name.size : Int), x.pages, x.act] 3 (g6 + 1) s6 rfl (fun y hy => by
              simp only [List.mem_cons, List.mem_nil_iff, or_false] at hy
              have h1 := hx3.out.1; have h2 := hx3.out.2.2.1; have h3 := hx3.out.2.1.2.1
              rcases hy with rfl | rfl | rfl <;> omega) (by omega))
          have hsz := Lib.hid (show (b1 c k ++ nums [(x.name.size : Int), x.pages, x.act]).length + x.name.size ≤ 1000000 by rw [List.length_append, nums_len]; have := hx3.out.2.1.2.1; show _ + 4 * 3 + _ ≤ _; omega)
          have hf := Lib.hid (fun (v' : Value) (w' : World) (o' : OwnK 5 .u8 w' (h + 1) v' ((b1 c k ++ nums [(x.name.size : Int), x.pages, x.act]) ++ nameL x.name)) => (by
            rw [← hs] at o'
            obtain ⟨p5, q5, e5, -, -⟩ := ownK_lie o'
            exact ⟨p5, _, q5, e5, o'⟩ : ∃ p5 n5 q5, v' = .slice p5 n5 q5 ∧ OwnK 5 .u8 w' (h + 1) v' (b1 c (k + 1))))
          have hxl : x.name.size ≤ 9223372036854775807 := hx3.out.1.1
          clear hx hs o b6 o6 hbl' hlen
          go_upto_region 8 with fail
          try rw [hg6]
          rw [← hw6]
          clear hw6 y0 y1 y2 hg6
          go_upto_region 9 with (go_at_call 23; go_loud (with_reducible refine HA.out.mono ?_); rintro e w8 ⟨p8, n8, q8, rfl, o8, b8, k8⟩; have O8 := Lib.hid o8; have B8 := Lib.hid (B6.out.trans b8); have v0 := (World.cell?_of_block (k8 g6 (by omega) hgo)).trans v0; clear o8 b8 k8)
          have hB8 := Lib.hid (SZ.out _ B8.out)
          clear HA v1 v2 s6
          go_wp2_with (at_builtin; (refine wpList_appT rfl _ _ rfl hB8.out (v1 := .slice p8 n8 q8) (R1 := b1 c k ++ nums [(x.name.size : Int), x.pages, x.act]) rfl O8.out x.name rfl hsz.out ?_); intro v' w9 o9 b9; obtain ⟨p9, n9, q9, rfl, o9'⟩ := hf.out v' w9 o9; have O9 := Lib.hid o9'; have B9 := Lib.hid (B8.out.trans b9); clear o9 b9 o9')
          go_roundw
          case rel => exact ⟨k + 1, hkl, by go_num, _, _, _, rfl, O9.out, B9.out⟩
          case measure => simp [intOf]; omega
        · have hkm : k = c.parts.length := by omega
          subst hkm
          replace o := Lib.hid o
          go_wp2
          go_meet
          case rel => exact ⟨_, _, _, rfl, o.out, bl⟩
    case rest =>
    rename World => wwA
    obtain ⟨pA, nA, qA, rfl, o, bl⟩ := hcut
    have OOA := Lib.hid o
    have BLA := Lib.hid bl
    clear o bl O5 B5
    refine ‹∀ (a : Act) (w : World), Code.wp _ _ _ a w → _› _ _ ?_
    have zc := Z.out _ BLA.out 4 _ rfl
    have HA := Lib.hid (show Calls Tryd.prog 23 #[.slice pA nA qA, .slice (some ⟨wwA.heap.size, 0, none⟩) 1 1] (wwA.alloc (.cells #[.int .i64 c.chans.length] 3)) _ from
      appn_new OOA.out (SZ.out _ BLA.out) [(c.chans.length : Int)] 1 wwA.heap.size rfl rfl (fun y hy => by
        simp only [List.mem_cons, List.mem_nil_iff, or_false] at hy
        have h1 := WF.out.len
        subst hy; omega) (by have := hbl.out.1 c.parts.length; omega))
    go_upto_region 12 with (go_at_call 23; (with_reducible refine HA.out.mono ?_); rintro e wn ⟨pn, nn, qn, rfl, on, bn, -⟩; have ON := Lib.hid (show OwnK 5 .u8 wn (h + 1) (.slice pn nn qn) (b2 c) from on); have BN := Lib.hid (BLA.out.trans bn); clear on bn)
    clear HA zc OOA BLA
    go_upto_region 12 with fail
    have zz3 := Z.out _ BN.out 4 _ rfl
    obtain ⟨wq, hwq⟩ : ∃ wq, wq = wn := ⟨_, rfl⟩
    go_cut [59, 60, 61] from 300 (fun a b i wx => a = .slice p2 c.chans.length c2 ∧ b = .int .i64 c.chans.length ∧ i = .int .i64 0 ∧ wx = wn)
    case first => go_wp2; go_meet; case rel => exact ⟨rfl, rfl, rfl, rfl⟩
    case rest =>
    obtain ⟨rfl, rfl, rfl, hw⟩ := hcut
    rw [hw]
    clear hw zz3
    refine ‹∀ (a : Act) (w : World), Code.wp _ _ _ a w → _› _ _ ?_
    go_cut [5] from 300 (fun v wx => ∃ p n q, v = .slice p n q ∧ OwnK 5 .u8 wx (h + 1) (.slice p n q) (b3 c c.chans.length) ∧ Below (h + 1) w1 wx)
    case first =>
      go_wp2
      go_loopw [5, 9, 61] (fun v _ i wr => ∃ k : Nat, k ≤ c.chans.length ∧ i = .int .i64 k ∧ ∃ p n q, v = .slice p n q ∧ OwnK 5 .u8 wr (h + 1) (.slice p n q) (b3 c k) ∧ Below (h + 1) w1 wr) (fun _ _ i _ => c.chans.length - (intOf i).toNat)
      case atStart => exact ⟨0, Nat.zero_le _, rfl, _, _, _, rfl, (by rw [show b3 c 0 = b2 c by unfold b3; simp]; exact ON.out), BN.out⟩
      case round =>
        obtain ⟨k, hk, rfl, p, n, q, rfl, o, bl⟩ := hrel
        by_cases hkl : k < c.chans.length
        · have hkI : (k : Int) < (c.chans.length : Int) := by omega
          have hk8 := hzs.out.2.2.2.1.1
          obtain ⟨x, hx⟩ : ∃ x, c.chans[k]? = some x := ⟨_, List.getElem?_eq_getElem hkl⟩
          obtain ⟨b, off, rfl, hbl', y0, y1, y2, y3, y4⟩ := (K2.out wr bl).cell5 k x hx rfl
          have hs := b3_succ c k x hx
          have hx3 := Lib.hid (hzs.out.2.2.2.1.2 k x hx)
          have hlen := hbl.out.2.1 k
          obtain ⟨g6, hg6⟩ : ∃ g6, wr.heap.size = g6 := ⟨_, rfl⟩
          obtain ⟨w6, hw6⟩ : ∃ w6, w6 = wr.alloc (.cells #[.int .i64 x.kind, .int .i64 x.frm, .int .i64 x.to, .int .i64 x.size, .int .i64 x.depth] 49) := ⟨_, rfl⟩
          have b6 := below_alloc wr (.cells #[.int .i64 x.kind, .int .i64 x.frm, .int .i64 x.to, .int .i64 x.size, .int .i64 x.depth] 49)
          rw [← hw6] at b6
          have o6 := ownK_below o b6
          have s6 : w6.heap.size = g6 + 1 := by rw [hw6, ← hg6]; simp
          have v0 : w6.cell? ⟨g6, 0, none⟩ = some (.int .i64 x.kind) := by rw [hw6, ← hg6]; rw [cell_of_row _ _ 0 _ _ _ (heap_alloc_new _ _)]; rfl
          have v1 : w6.cell? ⟨g6, 1, none⟩ = some (.int .i64 x.frm) := by rw [hw6, ← hg6]; rw [cell_of_row _ _ 1 _ _ _ (heap_alloc_new _ _)]; rfl
          have v2 : w6.cell? ⟨g6, 2, none⟩ = some (.int .i64 x.to) := by rw [hw6, ← hg6]; rw [cell_of_row _ _ 2 _ _ _ (heap_alloc_new _ _)]; rfl
          have v3 : w6.cell? ⟨g6, 3, none⟩ = some (.int .i64 x.size) := by rw [hw6, ← hg6]; rw [cell_of_row _ _ 3 _ _ _ (heap_alloc_new _ _)]; rfl
          have v4 : w6.cell? ⟨g6, 4, none⟩ = some (.int .i64 x.depth) := by rw [hw6, ← hg6]; rw [cell_of_row _ _ 4 _ _ _ (heap_alloc_new _ _)]; rfl
          have B6 := Lib.hid (bl.trans (b6.mono (SZ.out _ bl)))
          have HA := Lib.hid (show Calls Tryd.prog 23 #[.slice p n q, .slice (some ⟨g6 + 1, 0, none⟩) 5 5] (w6.alloc (.cells #[.int .i64 x.kind, .int .i64 x.frm, .int .i64 x.to, .int .i64 x.size, .int .i64 x.depth] 3)) _ from
            appn_new o6 (SZ.out _ B6.out) [x.kind, x.frm, x.to, x.size, x.depth] 5 (g6 + 1) s6 rfl (fun y hy => by
              simp only [List.mem_cons, List.mem_nil_iff, or_false] at hy
              have h1 := hx3.out
              unfold okC at h1
              have h2 := WF.out.len.1
              rcases hy with rfl | rfl | rfl | rfl | rfl <;> omega) (by omega))
          rw [← hs] at HA
          clear hx hs o b6 o6 hbl' hlen
          go_upto_region 15 with fail
          try rw [hg6]
          rw [← hw6]
          clear hw6 y0 y1 y2 y3 y4 hg6
          go_wp2_with (go_at_call 23; (with_reducible refine HA.out.mono ?_); rintro e w8 ⟨p8, n8, q8, rfl, o8, b8, -⟩; have O8 := Lib.hid o8; have B8 := Lib.hid (B6.out.trans b8); clear o8 b8)
          go_roundw
          case rel => exact ⟨k + 1, hkl, by go_num, _, _, _, rfl, O8.out, B8.out⟩
          case measure => simp [intOf]; omega
        · have hkm : k = c.chans.length := by omega
          subst hkm
          replace o := Lib.hid o
          go_wp2
          go_meet
          case rel => exact ⟨_, _, _, rfl, o.out, bl⟩
    case rest =>
    rename World => wwB
    obtain ⟨pB, nB, qB, rfl, o, bl⟩ := hcut
    have OOB := Lib.hid o
    have BLB := Lib.hid bl
    clear o bl ON BN
    refine ‹∀ (a : Act) (w : World), Code.wp _ _ _ a w → _› _ _ ?_
    have zc := Z.out _ BLB.out 5 _ rfl
    have HA := Lib.hid (show Calls Tryd.prog 23 #[.slice pB nB qB, .slice (some ⟨wwB.heap.size, 0, none⟩) 1 1] (wwB.alloc (.cells #[.int .i64 c.wins.length] 3)) _ from
      appn_new OOB.out (SZ.out _ BLB.out) [(c.wins.length : Int)] 1 wwB.heap.size rfl rfl (fun y hy => by
        simp only [List.mem_cons, List.mem_nil_iff, or_false] at hy
        have h1 := WF.out.len
        subst hy; omega) (by have := hbl.out.2.1 c.chans.length; omega))
    go_upto_region 18 with (go_at_call 23; (with_reducible refine HA.out.mono ?_); rintro e wn ⟨pn, nn, qn, rfl, on, bn, -⟩; have ON := Lib.hid (show OwnK 5 .u8 wn (h + 1) (.slice pn nn qn) (b4 c) from on); have BN := Lib.hid (BLB.out.trans bn); clear on bn)
    clear HA zc OOB BLB
    go_upto_region 18 with fail
    have zz3 := Z.out _ BN.out 5 _ rfl
    obtain ⟨wq, hwq⟩ : ∃ wq, wq = wn := ⟨_, rfl⟩
    go_cut [86, 87, 88] from 300 (fun a b i wx => a = .slice p3 c.wins.length c3 ∧ b = .int .i64 c.wins.length ∧ i = .int .i64 0 ∧ wx = wn)
    case first => go_wp2; go_meet; case rel => exact ⟨rfl, rfl, rfl, rfl⟩
    case rest =>
    obtain ⟨rfl, rfl, rfl, hw⟩ := hcut
    rw [hw]
    clear hw zz3
    refine ‹∀ (a : Act) (w : World), Code.wp _ _ _ a w → _› _ _ ?_
    go_cut [5] from 300 (fun v wx => ∃ p n q, v = .slice p n q ∧ OwnK 5 .u8 wx (h + 1) (.slice p n q) (headC c) ∧ Below (h + 1) w1 wx)
    case first =>
      go_wp2
      go_loopw [5, 11, 88] (fun v _ i wr => ∃ k : Nat, k ≤ c.wins.length ∧ i = .int .i64 k ∧ ∃ p n q, v = .slice p n q ∧ OwnK 5 .u8 wr (h + 1) (.slice p n q) (b5 c k) ∧ Below (h + 1) w1 wr) (fun _ _ i _ => c.wins.length - (intOf i).toNat)
      case atStart => exact ⟨0, Nat.zero_le _, rfl, _, _, _, rfl, (by rw [show b5 c 0 = b4 c by unfold b5; simp]; exact ON.out), BN.out⟩
      case round =>
        obtain ⟨k, hk, rfl, p, n, q, rfl, o, bl⟩ := hrel
        by_cases hkl : k < c.wins.length
        · have hkI : (k : Int) < (c.wins.length : Int) := by omega
          have hk8 := hzs.out.2.2.2.2.2.2.1.2
          obtain ⟨x, hx⟩ : ∃ x, c.wins[k]? = some x := ⟨_, List.getElem?_eq_getElem hkl⟩
          obtain ⟨b, off, rfl, hbl', y0, y1, y2⟩ := (K3.out wr bl).cell3 k x hx rfl
          have hs := b5_succ c k x hx
          have hx3 := Lib.hid (And.intro (WF.out.nums.2 k x hx) (hzs.out.2.2.2.2.2.2.2 k x hx))
          have hlen := hbl.out.2.2 k
          obtain ⟨g6, hg6⟩ : ∃ g6, wr.heap.size = g6 := ⟨_, rfl⟩
          obtain ⟨w6, hw6⟩ : ∃ w6, w6 = wr.alloc (.cells #[.int .i64 x.start, .int .i64 x.len, .int .i64 x.part] 51) := ⟨_, rfl⟩
          have b6 := below_alloc wr (.cells #[.int .i64 x.start, .int .i64 x.len, .int .i64 x.part] 51)
          rw [← hw6] at b6
          have o6 := ownK_below o b6
          have s6 : w6.heap.size = g6 + 1 := by rw [hw6, ← hg6]; simp
          have v0 : w6.cell? ⟨g6, 0, none⟩ = some (.int .i64 x.start) := by rw [hw6, ← hg6]; rw [cell_of_row _ _ 0 _ _ _ (heap_alloc_new _ _)]; rfl
          have v1 : w6.cell? ⟨g6, 1, none⟩ = some (.int .i64 x.len) := by rw [hw6, ← hg6]; rw [cell_of_row _ _ 1 _ _ _ (heap_alloc_new _ _)]; rfl
          have v2 : w6.cell? ⟨g6, 2, none⟩ = some (.int .i64 x.part) := by rw [hw6, ← hg6]; rw [cell_of_row _ _ 2 _ _ _ (heap_alloc_new _ _)]; rfl
          have B6 := Lib.hid (bl.trans (b6.mono (SZ.out _ bl)))
          have HA := Lib.hid (show Calls Tryd.prog 23 #[.slice p n q, .slice (some ⟨g6 + 1, 0, none⟩) 3 3] (w6.alloc (.cells #[.int .i64 x.start, .int .i64 x.len, .int .i64 x.part] 3)) _ from
            appn_new o6 (SZ.out _ B6.out) [x.start, x.len, x.part] 3 (g6 + 1) s6 rfl (fun y hy => by
              simp only [List.mem_cons, List.mem_nil_iff, or_false] at hy
              have h1 := hx3.out
              obtain ⟨⟨h2, h3⟩, -, -, -, h4⟩ := h1
              have h5 := WF.out.len.1
              rcases hy with rfl | rfl | rfl <;> omega) (by omega))
          rw [← hs] at HA
          clear hx hs o b6 o6 hbl' hlen
          go_upto_region 21 with fail
          try rw [hg6]
          rw [← hw6]
          clear hw6 y0 y1 y2 hg6
          go_wp2_with (go_at_call 23; (with_reducible refine HA.out.mono ?_); rintro e w8 ⟨p8, n8, q8, rfl, o8, b8, -⟩; have O8 := Lib.hid o8; have B8 := Lib.hid (B6.out.trans b8); clear o8 b8)
          go_roundw
          case rel => exact ⟨k + 1, hkl, by go_num, _, _, _, rfl, O8.out, B8.out⟩
          case measure => simp [intOf]; omega
        · have hkm : k = c.wins.length := by omega
          subst hkm
          replace o := Lib.hid o
          go_wp2
          go_meet
          case rel => exact ⟨_, _, _, rfl, o.out, bl⟩
    case rest =>
    rename World => wwC
    obtain ⟨pC, nC, qC, rfl, o, bl⟩ := hcut
    have OOC := Lib.hid o
    have BLC := Lib.hid bl
    clear o bl ON BN
    refine ‹∀ (a : Act) (w : World), Code.wp _ _ _ a w → _› _ _ ?_
    have hl5 := hbl.out.2.2 c.wins.length
    obtain ⟨hsm0, hsm1⟩ := sum_bd (headC c) (head_byt' c)
    have hle : (headC c).length ≤ 1200 := hl5
    have HSm := Lib.hid (csum_says (lie_of OOC.out) (head_byt' c) (by have := (lie_of OOC.out).len; omega))
    have HA := Lib.hid (show Calls Tryd.prog 23 #[.slice pC nC qC, .slice (some ⟨wwC.heap.size, 0, none⟩) 1 1] (wwC.alloc (.cells #[.int .i64 (headC c).sum] 3)) _ from
      appn_new OOC.out (SZ.out _ BLC.out) [(headC c).sum] 1 wwC.heap.size rfl rfl (fun y hy => by
        simp only [List.mem_cons, List.mem_nil_iff, or_false] at hy
        subst hy; omega) (by omega))
    go_wp2_with (first | (go_at_call 24; (with_reducible refine HSm.out.mono ?_); rintro e t2 ⟨rfl, rfl⟩) | (go_at_call 23; (with_reducible refine HA.out.mono ?_); rintro e wn ⟨pn, nn, qn, rfl, on, bn, -⟩; have ON := Lib.hid on; have BN := Lib.hid (BLC.out.trans bn); clear on bn))
    exact HO.out _ _ _ _ ON.out BN.out
  · have HO := Lib.hid (fun u (hu : Below (h + 1) w1 u) => (by rw [hr, show packO c = [] by unfold packO; rw [if_neg hz]]; exact ⟨none, 0, 0, rfl, ownK_nil _ _ _ _, by rw [hhz]; exact bw.out.trans (hu.mono (Nat.le_succ _))⟩ : r (.returned (.tuple #[.slice none 0 0, i64 (Cfg.chk c)])) u))
    obtain ⟨kk, hkk⟩ : ∃ kk, Cfg.chk c = kk := ⟨_, rfl⟩
    rw [hkk] at HO hck hz
    have hne : (kk != 0) = true := by simpa using hz
    clear hr hkk hz
    go_enter Tryd.func9, Tryd.ntmps9
    go_upto_region 1 with fail
    try simp only [hhz]
    rw [← hw1]
    clear hw1
    go_wp2_with (go_at_call 8; (with_reducible refine hck.out.mono ?_); rintro e w2 ⟨rfl, hb⟩; have BC := Lib.hid (hb.mono (Nat.le_of_eq hg1.symm)); clear hb)
    exact HO.out _ BC.out
end Go.Proofs.YtogbhgbnminpdaaDoor.Pck
