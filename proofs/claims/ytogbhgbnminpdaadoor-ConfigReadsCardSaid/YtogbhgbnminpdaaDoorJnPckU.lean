/-
  The reference: Pack whole.
-/
import Derived.Test.YtogbhgbnminpdaaDoorJnPckV
set_option linter.unusedVariables false
set_option maxRecDepth 100000
set_option linter.unusedVariables false
namespace Go.Proofs.YtogbhgbnminpdaaDoor.Pck
open Go.Proofs.YtogbhgbnminpdaaDoor Go.Proofs.YtogbhgbnminpdaaDoor.Ser Go.Proofs.YtogbhgbnminpdaaDoor.Img Go.Proofs.YtogbhgbnminpdaaDoor.Cfg
open Go.ChangeShapes Go.WideShapes Go.ChangeAt Go.RowKit
set_option linter.unusedVariables false
theorem put_O {w1 w : World} {h hb hf : Nat} {v : Value} {R : List Int} (K : Kp w1 h hb hf w v R) (xs : List Int) (n g : Nat) (hg : w.heap.size = g) (hn : xs.length = n) (h5 : n ≤ 5) (hR : R.length ≤ 900000) {c : List Value} (hc : kL .i64 xs = c) {R' : List Int} (hR' : R ++ nums xs = R') :
    Calls Tryd.prog 25 #[.agg #[.pointer (some ⟨hb, 0, none⟩)], .slice (some ⟨g, 0, none⟩) n n] (w.alloc (.cells c.toArray 3)) fun e w' => e = .returned (.tuple #[]) ∧ ∃ v', Kp w1 h hb hf w' v' R' := by
  subst hc hR'
  exact put_K K xs n g hg hn h5 hR
set_option maxHeartbeats 8000000 in
theorem rpack_says {w : World} {c : Cf} {p1 : Option Addr} {c1 : Nat} {p2 : Option Addr} {c2 : Nat} {p3 : Option Addr} {c3 : Nat}
    (L1 : LieS 3 w w.heap.size p1 c.parts.length c1 (c.parts.map ptC)) (L2 : LieS 5 w w.heap.size p2 c.chans.length c2 (c.chans.map chC)) (L3 : LieS 3 w w.heap.size p3 c.wins.length c3 (c.wins.map wnC)) (wf : Wf c) :
    Calls Tryd.prog 10 #[cfV c p1 c1 p2 c2 p3 c3] w (Told w (packO c) (chk c)) := by
  obtain ⟨r, hr⟩ : ∃ r, r = Told w (packO c) (chk c) := ⟨_, rfl⟩
  rw [← hr]
  obtain ⟨h, hhz⟩ : ∃ h, w.heap.size = h := ⟨_, rfl⟩
  obtain ⟨w1, hw1⟩ : ∃ w1, w1 = w.alloc (.cells #[i64 c.pages, i64 c.major, i64 c.switch, .slice p1 c.parts.length c1, .slice p2 c.chans.length c2, .slice p3 c.wins.length c3] 26) := ⟨_, rfl⟩
  have bw := Lib.hid (by rw [hw1]; exact (Below.refl _ _).alloc (Nat.le_of_eq hhz.symm) _ : Below h w w1)
  have hg1 : w1.heap.size = h + 1 := by rw [hw1, ← hhz]; simp
  have Z := Lib.hid (fun (u : World) (hu : Below (h + 1) w1 u) (k : Nat) (v : Value) (hv : [i64 c.pages, i64 c.major, i64 c.switch, .slice p1 c.parts.length c1, .slice p2 c.chans.length c2, .slice p3 c.wins.length c3][k]? = some v) => (by
    rw [World.cell?_of_block (hu.block h (Nat.lt_succ_self _)), hw1, ← hhz, cell_of_row _ _ k _ _ _ (heap_alloc_new _ _), ← Array.getElem?_toList]; exact hv : u.cell? ⟨h, k, none⟩ = some v))
  rw [hhz] at L1 L2 L3
  have K1 := Lib.hid (fun (u : World) (hu : Below (h + 1) w1 u) => L1.kept (bw.out.trans (hu.mono (Nat.le_succ _))) (Nat.le_refl _))
  have K2 := Lib.hid (fun (u : World) (hu : Below (h + 1) w1 u) => L2.kept (bw.out.trans (hu.mono (Nat.le_succ _))) (Nat.le_refl _))
  have K3 := Lib.hid (fun (u : World) (hu : Below (h + 1) w1 u) => L3.kept (bw.out.trans (hu.mono (Nat.le_succ _))) (Nat.le_refl _))
  have hck := Lib.hid (rcheck_says ((K1.out w1 (Below.refl _ _)).wide (B' := w1.heap.size) (by omega)) ((K2.out w1 (Below.refl _ _)).wide (B' := w1.heap.size) (by omega)) ((K3.out w1 (Below.refl _ _)).wide (B' := w1.heap.size) (by omega)) wf)
  simp only [cfV] at hck ⊢
  have z0 := Z.out w1 (Below.refl _ _) 0 _ rfl
  have z1 := Z.out w1 (Below.refl _ _) 1 _ rfl
  have z2 := Z.out w1 (Below.refl _ _) 2 _ rfl
  have z3 := Z.out w1 (Below.refl _ _) 3 _ rfl
  have z4 := Z.out w1 (Below.refl _ _) 4 _ rfl
  have z5 := Z.out w1 (Below.refl _ _) 5 _ rfl
  clear L1 L2 L3
  by_cases hz : chk c = 0
  · rw [hz] at hck hr
    rw [show packO c = packC c by unfold packO; rw [if_pos hz]] at hr
    have HO := Lib.hid (fun p' n' q' u (o : OwnK 5 .u8 u (h + 1) (.slice p' n' q') (packC c)) (hu : Below (h + 1) w1 u) => (by rw [hr]; exact ⟨p', n', q', rfl, ownK_mono o (by omega), by rw [hhz]; exact bw.out.trans (hu.mono (Nat.le_succ _))⟩ : r (.returned (.tuple #[.slice p' n' q', i64 0])) u))
    have hbl := Lib.hid (b_len hz)
    have hzs := Lib.hid (chk_zero hz)
    have WF := Lib.hid wf
    clear hr hz wf
    go_enter Tryd.func10, Tryd.ntmps10
    go_upto_region 1 with fail
    try simp only [hhz]
    rw [← hw1]
    clear hw1
    go_upto_region 4 with (go_at_call 12; (with_reducible refine hck.out.mono ?_); rintro e w2 ⟨rfl, hb⟩; have BC := Lib.hid (hb.mono (Nat.le_of_eq hg1.symm)); clear hb)
    clear z0 z1 z2 z3 z4 z5 hck
    obtain ⟨g, hg⟩ : ∃ g, w2.heap.size = g := ⟨_, rfl⟩
    have hgl : h + 1 ≤ g := by have := BC.out.size; omega
    have hcv := Lib.run_convert_bytes_const (P := Tryd.prog) w2 32 5 #[.int .u8 84, .int .u8 82, .int .u8 67, .int .u8 49] 4 4 Tryd.underlying32 Tryd.underlying5
    rw [hg] at hcv
    obtain ⟨w3, hw3⟩ : ∃ w3, w3 = w2.alloc (.cells #[.int .u8 84, .int .u8 82, .int .u8 67, .int .u8 49] 5 (4, 5)) := ⟨_, rfl⟩
    change (convert 32 32 (.slice (some ⟨g, 0, none⟩) 4 4)).run Tryd.prog (w2.alloc (.cells #[.int .u8 84, .int .u8 82, .int .u8 67, .int .u8 49] 5)) = .ok (.slice (some ⟨g, 0, none⟩) 4 4) (w2.alloc (.cells #[.int .u8 84, .int .u8 82, .int .u8 67, .int .u8 49] 5 (4, 5))) at hcv
    have B3 := Lib.hid (by rw [hw3]; exact BC.out.alloc (by omega) _ : Below (h + 1) w1 w3)
    have R3 := Lib.hid (by rw [hw3]; exact lie_built 5 .u8 w2 [84, 82, 67, 49] (4, 5) g hg : Lie .u8 w3 w3.heap.size (some ⟨g, 0, none⟩) 4 4 [84, 82, 67, 49])
    have hg3 : w3.heap.size = g + 1 := by rw [hw3, ← hg]; simp
    rw [← hw3] at hcv
    clear hw3
    obtain ⟨w4, hw4⟩ : ∃ w4, w4 = w3.alloc (.cells #[.slice (some ⟨g, 0, none⟩) 4 4] 32) := ⟨_, rfl⟩
    obtain ⟨w5, hw5⟩ : ∃ w5, w5 = w4.alloc (.cells #[.pointer (some ⟨g + 1, 0, none⟩)] 60) := ⟨_, rfl⟩
    have hg4 : w4.heap.size = g + 2 := by rw [hw4]; simp [hg3]
    have hg5 : w5.heap.size = g + 3 := by rw [hw5]; simp [hg4]
    have b34 : Below w3.heap.size w3 w4 := by rw [hw4]; exact below_alloc w3 _
    have b45 : Below w4.heap.size w4 w5 := by rw [hw5]; exact below_alloc w4 _
    have b35 : Below w3.heap.size w3 w5 := b34.trans (b45.mono b34.size)
    have B5 := Lib.hid (B3.out.trans (b35.mono (by omega)))
    have d4 : w4.heap[g + 1]? = some (.cells #[.slice (some ⟨g, 0, none⟩) 4 4] 32 (0, 0)) := by rw [hw4, ← hg3]; exact heap_alloc_new _ _
    have d5 : w5.heap[g + 1]? = some (.cells #[.slice (some ⟨g, 0, none⟩) 4 4] 32 (0, 0)) := (b45.block (g + 1) (by omega)).trans d4
    have f5 : w5.heap[g + 1 + 1]? = some (.cells #[.pointer (some ⟨g + 1, 0, none⟩)] 60 (0, 0)) := by rw [hw5, show g + 1 + 1 = w4.heap.size from hg4.symm]; exact heap_alloc_new _ _
    have HP := Lib.hid (show Calls Tryd.prog 25 #[.agg #[.pointer (some ⟨g + 1, 0, none⟩)], .slice (some ⟨g + 3, 0, none⟩) 4 4] (w5.alloc (.cells #[.int .i64 c.pages, .int .i64 c.major, .int .i64 c.switch, .int .i64 c.parts.length] 3)) (fun e w' => e = .returned (.tuple #[]) ∧ ∃ v', Kp w1 h (g + 1) (g + 1 + 1) w' v' (b0 c)) from by
      have b56 := below_alloc w5 (.cells (kL .i64 [c.pages, c.major, c.switch, (c.parts.length : Int)]).toArray 3)
      refine (put1_says (hb := g + 1) ((b56.block (g + 1) (by omega)).trans d5) ((R3.out.kept (b35.trans (b56.mono (by omega))) (Nat.le_refl _)).wide (by have := b56.size; omega)) (by omega) (fun a e => by injection e with e; subst e; simp only; omega) (lie_nums w5 [c.pages, c.major, c.switch, (c.parts.length : Int)] (g + 3) 4 hg5 rfl) (fun a e => by injection e with e; subst e; simp only; omega) (by omega) (by omega) (by simp)).mono ?_
      rintro e w' ⟨rfl, v', P, G⟩
      have hs6 := b56.size
      exact ⟨rfl, v', P.wide (by omega), ⟨G.os.trans (b56.os.trans B5.out.os), G.tape.trans (b56.tape.trans B5.out.tape), G.output.trans (b56.output.trans B5.out.output), Nat.le_trans B5.out.size (Nat.le_trans b56.size G.size), fun i hi => (G.block i (by omega) (by omega)).trans ((b56.block i (by omega)).trans (B5.out.block i hi))⟩, (G.block (g + 1 + 1) (by omega) (by omega)).trans ((b56.block (g + 1 + 1) (by omega)).trans f5), by omega, by omega, by omega⟩)
    have zf5 : w5.cell? ⟨g + 1 + 1, 0, none⟩ = some (.pointer (some ⟨g + 1, 0, none⟩)) := by rw [cell_of_row _ _ 0 _ _ _ f5]; rfl
    have x0 := Z.out _ B5.out 0 _ rfl
    have x1 := Z.out _ B5.out 1 _ rfl
    have x2 := Z.out _ B5.out 2 _ rfl
    have x3 := Z.out _ B5.out 3 _ rfl
    go_upto_region 6 with fail
    rw [← hw4, ← hw5]
    clear hw4 hw5 hcv R3 B3 b34 b45 b35 d4 d5 f5 hg4 hg3
    go_upto_region 7 with (go_at_call 25; go_loud (with_reducible refine HP.out.mono ?_); rintro e w6 ⟨rfl, v6, K6⟩; have KK := Lib.hid K6; clear K6)
    clear HP zf5 x0 x1 x2 x3 hg5 hg B5
    go_cut [7] from 300 (fun i wx => i = .int .i64 0 ∧ ∃ v, Kp w1 h (g + 1) (g + 1 + 1) wx v (b0 c))
    case first => go_wp2; go_meet; case rel => exact ⟨rfl, _, KK.out⟩
    case rest =>
    obtain ⟨rfl, v7, K7⟩ := hcut
    have KA := Lib.hid K7
    clear K7 KK
    refine ‹∀ (a : Act) (w : World), Code.wp _ _ _ a w → _› _ _ ?_
    go_cut [7] from 300 (fun i wx => ∃ v, Kp w1 h (g + 1) (g + 1 + 1) wx v (b1 c c.parts.length))
    case first =>
      go_wp2
      go_loopw [7] (fun i wr => ∃ (k : Nat) (v : Value), k ≤ c.parts.length ∧ i = .int .i64 k ∧ Kp w1 h (g + 1) (g + 1 + 1) wr v (b1 c k)) (fun i _ => c.parts.length - (intOf i).toNat)
      case atStart => exact ⟨0, _, Nat.zero_le _, rfl, by rw [show b1 c 0 = b0 c by unfold b1; simp]; exact KA.out⟩
      case round =>
        obtain ⟨k, v, hk, rfl, K⟩ := hrel
        have zc := Z.out wr K.b 3 _ rfl
        by_cases hkl : k < c.parts.length
        · have hkI : (k : Int) < (c.parts.length : Int) := by omega
          have hk8 := hzs.out.2.1.1.2
          obtain ⟨x, hx⟩ : ∃ x, c.parts[k]? = some x := ⟨_, List.getElem?_eq_getElem hkl⟩
          obtain ⟨b, off, rfl, hbl', y0, y1, y2⟩ := (K1.out wr K.b).cell3 k x hx rfl
          have hs := Lib.hid (b1_succ c k x hx)
          have hlen := hbl.out.1 k
          have hx3 := Lib.hid (And.intro (WF.out.nums.1 k x hx) (hzs.out.2.1.2 k x hx))
          have hsz := Lib.hid (show (b1 c k ++ nums [(x.name.size : Int), x.pages, x.act]).length + x.name.size ≤ 1000000 by rw [List.length_append, nums_len]; have := hx3.out.2.1.2.1; show _ + 4 * 3 + _ ≤ _; omega)
          have hxl : x.name.size ≤ 9223372036854775807 := hx3.out.1.1
          have KD := Lib.hid (K.kept (Below.refl _ wr).drew)
          have zfd : wr.drew.cell? ⟨g + 1 + 1, 0, none⟩ = some (.pointer (some ⟨g + 1, 0, none⟩)) := KD.out.zf
          have hp : Calls Tryd.prog 25 #[.agg #[.pointer (some ⟨g + 1, 0, none⟩)], .slice (some ⟨wr.heap.size, 0, none⟩) 3 3] (wr.drew.alloc (.cells #[.int .i64 x.name.size, .int .i64 x.pages, .int .i64 x.act] 3)) (fun e w' => e = .returned (.tuple #[]) ∧ ∃ v', Kp w1 h (g + 1) (g + 1 + 1) w' v' (b1 c k ++ nums [(x.name.size : Int), x.pages, x.act])) := put_O KD.out [(x.name.size : Int), x.pages, x.act] 3 wr.heap.size rfl rfl (by omega) (by omega) rfl rfl
          have HP := Lib.hid hp
          have zcd : wr.drew.cell? ⟨h, 3, none⟩ = some (.slice (some ⟨b, off, none⟩) c.parts.length c1) := zc
          have y0d : wr.drew.cell? ⟨b, off + k * 3, none⟩ = some (.string x.name) := y0
          have y1d : wr.drew.cell? ⟨b, off + k * 3 + 1, none⟩ = some (.int .i64 x.pages) := y1
          have y2d : wr.drew.cell? ⟨b, off + k * 3 + 2, none⟩ = some (.int .i64 x.act) := y2
          have HY := Lib.hid (fun (u : World) (hu : Below (h + 1) w1 u) => (by rw [World.cell?_of_block ((hu.block b (by omega)).trans (K.b.block b (by omega)).symm)]; exact y0 : u.cell? ⟨b, off + k * 3, none⟩ = some (.string x.name)))
          have hfn := Lib.hid (fun (v' : Value) (w' : World) (o' : OwnK 5 .u8 w' (h + 1) v' ((b1 c k ++ nums [(x.name.size : Int), x.pages, x.act]) ++ nameL x.name)) => (by
            obtain ⟨p5, q5, e5, -, -⟩ := ownK_lie o'
            exact ⟨p5, _, q5, e5⟩ : ∃ p5 n5 q5, v' = .slice p5 n5 q5))
          have hfm := Lib.hid (fun (v' : Value) (w' : World) (o' : OwnK 5 .u8 w' (h + 1) v' (b1 c k ++ nums [(x.name.size : Int), x.pages, x.act])) => (by
            obtain ⟨p5, q5, e5, -, -⟩ := ownK_lie o'
            exact ⟨p5, _, q5, e5⟩ : ∃ p5 n5 q5, v' = .slice p5 n5 q5))
          have hS := Lib.hid (fun (u : World) (hu : Below (h + 1) w1 u) (zf : u.cell? ⟨g + 1 + 1, 0, none⟩ = some (.pointer (some ⟨g + 1, 0, none⟩))) => (by
            obtain ⟨b', off', e', -, q0, q1, q2⟩ := (K1.out u hu).cell3 k x hx rfl
            injection e' with e'
            injection e' with e1 e2
            subst e1 e2
            exact ⟨zf, Z.out u hu 3 _ rfl, q0, q1, q2⟩ : (fun u => u.cell? ⟨g + 1 + 1, 0, none⟩ = some (.pointer (some ⟨g + 1, 0, none⟩)) ∧ u.cell? ⟨h, 3, none⟩ = some (.slice (some ⟨b, off, none⟩) c.parts.length c1) ∧ u.cell? ⟨b, off + k * 3, none⟩ = some (.string x.name) ∧ u.cell? ⟨b, off + k * 3 + 1, none⟩ = some (.int .i64 x.pages) ∧ u.cell? ⟨b, off + k * 3 + 2, none⟩ = some (.int .i64 x.act)) u))
          have KE := Lib.hid (KD.out.kept (below_alloc wr.drew (.cells #[.int .i64 x.name.size, .int .i64 x.pages, .int .i64 x.act] 3)))
          clear hx K hbl' hlen hp y1 y2
          go_upto_region 10 with fail
          clear zfd zcd y0d y1d y2d zc y0
          refine wp_region_held_drew (S := (fun u => u.cell? ⟨g + 1 + 1, 0, none⟩ = some (.pointer (some ⟨g + 1, 0, none⟩)) ∧ u.cell? ⟨h, 3, none⟩ = some (.slice (some ⟨b, off, none⟩) c.parts.length c1) ∧ u.cell? ⟨b, off + k * 3, none⟩ = some (.string x.name) ∧ u.cell? ⟨b, off + k * 3 + 1, none⟩ = some (.int .i64 x.pages) ∧ u.cell? ⟨b, off + k * 3 + 2, none⟩ = some (.int .i64 x.act))) (by kernel_rfl) ?_ (fun hH0 => ?_)
          · ((try dsimp only); (first | assumption | exact hS.out _ KD.out.b KD.out.zf | exact hS.out _ KE.out.b KE.out.zf | exact hS.out _ K6.out.b K6.out.zf))
          refine wpAnyH_take (i := 0) (oi := { dst := some 38, op := Go.Op.load 60 (Go.Operand.tmp 6), type := 60, pos := "config.go:92", after := #[], guard := none }) (v := ?_) rfl (by kernel_rfl) (by kernel_rfl) (by kernel_rfl) (fun _ _ _ h => h) (Or.inl ⟨by rfl, ?_⟩) (by assumption) ?_
          rotate_left
          · ((intro w hSw; (try dsimp only at hSw); go_simp) <;> (with_reducible rfl))
          try simp only [Act.put, List.setIfInBounds_toArray, List.set_cons_zero, List.set_cons_succ]
          refine wpAnyH_take (i := 1) (oi := { dst := some 39, op := Go.Op.fieldAddr 26 (Go.Operand.tmp 1) 3, type := 0, pos := "config.go:92", after := #[], guard := none }) (v := ?_) rfl (by kernel_rfl) (by kernel_rfl) (by kernel_rfl) (fun _ _ _ h => h) (Or.inl ⟨by rfl, ?_⟩) (by assumption) ?_
          rotate_left
          · ((intro w hSw; (try dsimp only at hSw); go_simp) <;> (with_reducible rfl))
          try simp only [Act.put, List.setIfInBounds_toArray, List.set_cons_zero, List.set_cons_succ]
          refine wpAnyH_take (i := 2) (oi := { dst := some 40, op := Go.Op.load 22 (Go.Operand.tmp 39), type := 22, pos := "config.go:92", after := #[{ on := 1, ground := Go.Ground.data }], guard := none }) (v := ?_) rfl (by kernel_rfl) (by kernel_rfl) (by kernel_rfl) (fun _ _ _ h => h) (Or.inl ⟨by rfl, ?_⟩) (by assumption) ?_
          rotate_left
          · ((intro w hSw; (try dsimp only at hSw); go_simp) <;> (with_reducible rfl))
          try simp only [Act.put, List.setIfInBounds_toArray, List.set_cons_zero, List.set_cons_succ]
          refine wpAnyH_take (i := 3) (oi := { dst := some 41, op := Go.Op.move (Go.Operand.tmp 7), type := 3, pos := "config.go:92", after := #[], guard := none }) (v := ?_) rfl (by kernel_rfl) (by kernel_rfl) (by kernel_rfl) (fun _ _ _ h => h) (Or.inl ⟨by rfl, ?_⟩) (by assumption) ?_
          rotate_left
          · ((intro w hSw; (try dsimp only at hSw); go_simp) <;> (with_reducible rfl))
          try simp only [Act.put, List.setIfInBounds_toArray, List.set_cons_zero, List.set_cons_succ]
          refine wpAnyH_take (i := 4) (oi := { dst := some 42, op := Go.Op.indexAddr 22 (Go.Operand.tmp 40) (Go.Operand.tmp 41), type := 0, pos := "config.go:92", after := #[{ on := 2, ground := Go.Ground.data }, { on := 3, ground := Go.Ground.data }], guard := none }) (v := ?_) rfl (by kernel_rfl) (by kernel_rfl) (by kernel_rfl) (fun _ _ _ h => h) (Or.inl ⟨by rfl, ?_⟩) (by assumption) ?_
          rotate_left
          · ((intro w hSw; (try dsimp only at hSw); go_simp) <;> (with_reducible rfl))
          try simp only [Act.put, List.setIfInBounds_toArray, List.set_cons_zero, List.set_cons_succ]
          refine wpAnyH_take (i := 5) (oi := { dst := some 43, op := Go.Op.fieldAddr 47 (Go.Operand.tmp 42) 0, type := 0, pos := "config.go:92", after := #[{ on := 4, ground := Go.Ground.data }], guard := none }) (v := ?_) rfl (by kernel_rfl) (by kernel_rfl) (by kernel_rfl) (fun _ _ _ h => h) (Or.inl ⟨by rfl, ?_⟩) (by assumption) ?_
          rotate_left
          · ((intro w hSw; (try dsimp only at hSw); go_simp) <;> (with_reducible rfl))
          try simp only [Act.put, List.setIfInBounds_toArray, List.set_cons_zero, List.set_cons_succ]
          refine wpAnyH_take (i := 6) (oi := { dst := some 44, op := Go.Op.load 9 (Go.Operand.tmp 43), type := 9, pos := "config.go:92", after := #[{ on := 5, ground := Go.Ground.data }], guard := none }) (v := ?_) rfl (by kernel_rfl) (by kernel_rfl) (by kernel_rfl) (fun _ _ _ h => h) (Or.inl ⟨by rfl, ?_⟩) (by assumption) ?_
          rotate_left
          · ((intro w hSw; (try dsimp only at hSw); go_simp) <;> (with_reducible rfl))
          try simp only [Act.put, List.setIfInBounds_toArray, List.set_cons_zero, List.set_cons_succ]
          refine wpAnyH_take (i := 7) (oi := { dst := some 45, op := Go.Op.call { callee := Go.Callee.builtin Go.Builtin.len, args := #[Go.Operand.tmp 44], argTypes := #[9] }, type := 3, pos := "config.go:92", after := #[{ on := 6, ground := Go.Ground.data }], guard := none }) (v := ?_) rfl (by kernel_rfl) (by kernel_rfl) (by kernel_rfl) (fun _ _ _ h => h) (Or.inl ⟨by rfl, ?_⟩) (by assumption) ?_
          rotate_left
          · ((intro w hSw; (try dsimp only at hSw); go_simp) <;> (with_reducible rfl))
          try simp only [Act.put, List.setIfInBounds_toArray, List.set_cons_zero, List.set_cons_succ]
          refine wpAnyH_take (i := 8) (oi := { dst := some 46, op := Go.Op.fieldAddr 26 (Go.Operand.tmp 1) 3, type := 0, pos := "config.go:92", after := #[], guard := none }) (v := ?_) rfl (by kernel_rfl) (by kernel_rfl) (by kernel_rfl) (fun _ _ _ h => h) (Or.inl ⟨by rfl, ?_⟩) (by assumption) ?_
          rotate_left
          · ((intro w hSw; (try dsimp only at hSw); go_simp) <;> (with_reducible rfl))
          try simp only [Act.put, List.setIfInBounds_toArray, List.set_cons_zero, List.set_cons_succ]
          refine wpAnyH_take (i := 9) (oi := { dst := some 47, op := Go.Op.load 22 (Go.Operand.tmp 46), type := 22, pos := "config.go:92", after := #[{ on := 8, ground := Go.Ground.data }], guard := none }) (v := ?_) rfl (by kernel_rfl) (by kernel_rfl) (by kernel_rfl) (fun _ _ _ h => h) (Or.inl ⟨by rfl, ?_⟩) (by assumption) ?_
          rotate_left
          · ((intro w hSw; (try dsimp only at hSw); go_simp) <;> (with_reducible rfl))
          try simp only [Act.put, List.setIfInBounds_toArray, List.set_cons_zero, List.set_cons_succ]
          refine wpAnyH_take (i := 10) (oi := { dst := some 48, op := Go.Op.move (Go.Operand.tmp 7), type := 3, pos := "config.go:92", after := #[], guard := none }) (v := ?_) rfl (by kernel_rfl) (by kernel_rfl) (by kernel_rfl) (fun _ _ _ h => h) (Or.inl ⟨by rfl, ?_⟩) (by assumption) ?_
          rotate_left
          · ((intro w hSw; (try dsimp only at hSw); go_simp) <;> (with_reducible rfl))
          try simp only [Act.put, List.setIfInBounds_toArray, List.set_cons_zero, List.set_cons_succ]
          refine wpAnyH_take (i := 11) (oi := { dst := some 49, op := Go.Op.indexAddr 22 (Go.Operand.tmp 47) (Go.Operand.tmp 48), type := 0, pos := "config.go:92", after := #[{ on := 9, ground := Go.Ground.data }, { on := 10, ground := Go.Ground.data }], guard := none }) (v := ?_) rfl (by kernel_rfl) (by kernel_rfl) (by kernel_rfl) (fun _ _ _ h => h) (Or.inl ⟨by rfl, ?_⟩) (by assumption) ?_
          rotate_left
          · ((intro w hSw; (try dsimp only at hSw); go_simp) <;> (with_reducible rfl))
          try simp only [Act.put, List.setIfInBounds_toArray, List.set_cons_zero, List.set_cons_succ]
          refine wpAnyH_take (i := 12) (oi := { dst := some 50, op := Go.Op.fieldAddr 47 (Go.Operand.tmp 49) 1, type := 0, pos := "config.go:92", after := #[{ on := 11, ground := Go.Ground.data }], guard := none }) (v := ?_) rfl (by kernel_rfl) (by kernel_rfl) (by kernel_rfl) (fun _ _ _ h => h) (Or.inl ⟨by rfl, ?_⟩) (by assumption) ?_
          rotate_left
          · ((intro w hSw; (try dsimp only at hSw); go_simp) <;> (with_reducible rfl))
          try simp only [Act.put, List.setIfInBounds_toArray, List.set_cons_zero, List.set_cons_succ]
          refine wpAnyH_take (i := 13) (oi := { dst := some 51, op := Go.Op.load 3 (Go.Operand.tmp 50), type := 3, pos := "config.go:92", after := #[{ on := 12, ground := Go.Ground.data }], guard := none }) (v := ?_) rfl (by kernel_rfl) (by kernel_rfl) (by kernel_rfl) (fun _ _ _ h => h) (Or.inl ⟨by rfl, ?_⟩) (by assumption) ?_
          rotate_left
          · ((intro w hSw; (try dsimp only at hSw); go_simp) <;> (with_reducible rfl))
          try simp only [Act.put, List.setIfInBounds_toArray, List.set_cons_zero, List.set_cons_succ]
          refine wpAnyH_take (i := 14) (oi := { dst := some 52, op := Go.Op.fieldAddr 26 (Go.Operand.tmp 1) 3, type := 0, pos := "config.go:92", after := #[], guard := none }) (v := ?_) rfl (by kernel_rfl) (by kernel_rfl) (by kernel_rfl) (fun _ _ _ h => h) (Or.inl ⟨by rfl, ?_⟩) (by assumption) ?_
          rotate_left
          · ((intro w hSw; (try dsimp only at hSw); go_simp) <;> (with_reducible rfl))
          try simp only [Act.put, List.setIfInBounds_toArray, List.set_cons_zero, List.set_cons_succ]
          refine wpAnyH_take (i := 15) (oi := { dst := some 53, op := Go.Op.load 22 (Go.Operand.tmp 52), type := 22, pos := "config.go:92", after := #[{ on := 14, ground := Go.Ground.data }], guard := none }) (v := ?_) rfl (by kernel_rfl) (by kernel_rfl) (by kernel_rfl) (fun _ _ _ h => h) (Or.inl ⟨by rfl, ?_⟩) (by assumption) ?_
          rotate_left
          · ((intro w hSw; (try dsimp only at hSw); go_simp) <;> (with_reducible rfl))
          try simp only [Act.put, List.setIfInBounds_toArray, List.set_cons_zero, List.set_cons_succ]
          refine wpAnyH_take (i := 16) (oi := { dst := some 54, op := Go.Op.move (Go.Operand.tmp 7), type := 3, pos := "config.go:92", after := #[], guard := none }) (v := ?_) rfl (by kernel_rfl) (by kernel_rfl) (by kernel_rfl) (fun _ _ _ h => h) (Or.inl ⟨by rfl, ?_⟩) (by assumption) ?_
          rotate_left
          · ((intro w hSw; (try dsimp only at hSw); go_simp) <;> (with_reducible rfl))
          try simp only [Act.put, List.setIfInBounds_toArray, List.set_cons_zero, List.set_cons_succ]
          refine wpAnyH_take (i := 17) (oi := { dst := some 55, op := Go.Op.indexAddr 22 (Go.Operand.tmp 53) (Go.Operand.tmp 54), type := 0, pos := "config.go:92", after := #[{ on := 15, ground := Go.Ground.data }, { on := 16, ground := Go.Ground.data }], guard := none }) (v := ?_) rfl (by kernel_rfl) (by kernel_rfl) (by kernel_rfl) (fun _ _ _ h => h) (Or.inl ⟨by rfl, ?_⟩) (by assumption) ?_
          rotate_left
          · ((intro w hSw; (try dsimp only at hSw); go_simp) <;> (with_reducible rfl))
          try simp only [Act.put, List.setIfInBounds_toArray, List.set_cons_zero, List.set_cons_succ]
          refine wpAnyH_take (i := 18) (oi := { dst := some 56, op := Go.Op.fieldAddr 47 (Go.Operand.tmp 55) 2, type := 0, pos := "config.go:92", after := #[{ on := 17, ground := Go.Ground.data }], guard := none }) (v := ?_) rfl (by kernel_rfl) (by kernel_rfl) (by kernel_rfl) (fun _ _ _ h => h) (Or.inl ⟨by rfl, ?_⟩) (by assumption) ?_
          rotate_left
          · ((intro w hSw; (try dsimp only at hSw); go_simp) <;> (with_reducible rfl))
          try simp only [Act.put, List.setIfInBounds_toArray, List.set_cons_zero, List.set_cons_succ]
          refine wpAnyH_take (i := 19) (oi := { dst := some 57, op := Go.Op.load 3 (Go.Operand.tmp 56), type := 3, pos := "config.go:92", after := #[{ on := 18, ground := Go.Ground.data }], guard := none }) (v := ?_) rfl (by kernel_rfl) (by kernel_rfl) (by kernel_rfl) (fun _ _ _ h => h) (Or.inl ⟨by rfl, ?_⟩) (by assumption) ?_
          rotate_left
          · ((intro w hSw; (try dsimp only at hSw); go_simp) <;> (with_reducible rfl))
          try simp only [Act.put, List.setIfInBounds_toArray, List.set_cons_zero, List.set_cons_succ]
          refine wpAnyH_ready (rs := [20]) (by kernel_rfl) (by simp) ?_
          refine AllReadyH.cons (o := { dst := some 58, op := Go.Op.buildSlice 84 3 #[(0, Go.Operand.tmp 45), (1, Go.Operand.tmp 51), (2, Go.Operand.tmp 57)], type := 84, pos := "config.go:92", after := #[{ on := 7, ground := Go.Ground.data }, { on := 13, ground := Go.Ground.data }, { on := 19, ground := Go.Ground.data }], guard := none }) rfl (fun K hK => ?_) AllReadyH.nil
          go_simp
          refine hK.out _ _ ?_ (fun hH1 => ?_)
          · ((try dsimp only); (first | assumption | exact hS.out _ KD.out.b KD.out.zf | exact hS.out _ KE.out.b KE.out.zf | exact hS.out _ K6.out.b K6.out.zf))
          clear hK K hH0
          try simp only [Act.put, List.setIfInBounds_toArray, List.set_cons_zero, List.set_cons_succ]
          refine wpAnyH_ready (rs := [21]) (by kernel_rfl) (by simp) ?_
          refine AllReadyH.cons (o := { dst := some 59, op := Go.Op.call { callee := Go.Callee.value (Go.Operand.func 25), args := #[Go.Operand.tmp 38, Go.Operand.tmp 58], argTypes := #[60, 84] }, type := 0, pos := "config.go:92", after := #[{ on := 0, ground := Go.Ground.data }, { on := 20, ground := Go.Ground.data }], guard := none }) rfl (fun K hK => ?_) AllReadyH.nil
          go_simp
          (go_at_call 25; refine HP.out.mono ?_; rintro e w6 ⟨rfl, v6, K6'⟩; have K6 := Lib.hid K6'; clear K6')
          refine hK.out _ _ ?_ (fun hH2 => ?_)
          · ((try dsimp only); (first | assumption | exact hS.out _ KD.out.b KD.out.zf | exact hS.out _ KE.out.b KE.out.zf | exact hS.out _ K6.out.b K6.out.zf))
          clear hK K hH1
          try simp only [Act.put, List.setIfInBounds_toArray, List.set_cons_zero, List.set_cons_succ]
          refine wpAnyH_done (by kernel_rfl) ?_ _
          obtain ⟨p6, n6, q6, rfl⟩ := hfm.out _ _ K6.out.p.o
          clear hS KE KD HP hfm
          have K7 := Lib.hid (K6.out.kept (Below.refl _ w6).drew)
          have zcd : w6.drew.cell? ⟨h, 3, none⟩ = some (.slice (some ⟨b, off, none⟩) c.parts.length c1) := Z.out _ K7.out.b 3 _ rfl
          have y0d := HY.out _ K7.out.b
          have zbd := K7.out.zb
          have hz2 := Lib.hid (fun v' w' (o' : OwnK 5 .u8 w' (h + 1) v' ((b1 c k ++ nums [(x.name.size : Int), x.pages, x.act]) ++ nameL x.name)) (G' : w6.drew.grownBy w' (Value.slice p6 n6 q6).ownBlock) => K7.out.app o' G')
          go_wp2
          clear zcd y0d zbd
          have zcd : w6.drew.cell? ⟨h, 3, none⟩ = some (.slice (some ⟨b, off, none⟩) c.parts.length c1) := Z.out _ K7.out.b 3 _ rfl
          have y0d := HY.out _ K7.out.b
          have zbd := K7.out.zb
          go_region_law (refine step_appT rfl _ _ rfl K7.out.size (v1 := .slice p6 n6 q6) (R1 := b1 c k ++ nums [(x.name.size : Int), x.pages, x.act]) rfl K7.out.p.o x.name rfl (by exact hsz.out) ?_; intro v' w' o' G'; obtain ⟨K8', zb8, fb8⟩ := hz2.out v' w' o' G'; obtain ⟨p8, n8, q8, rfl⟩ := hfn.out _ _ o'; have K8 := Lib.hid K8'; clear K8' o' G')
          all_goals
            go_wp2
            go_roundw
            case rel => exact ⟨k + 1, _, hkl, by go_num, by rw [hs.out]; exact K8.out⟩
            case measure => simp [intOf]; omega
        · have hkm : k = c.parts.length := by omega
          subst hkm
          replace K := Lib.hid K
          go_wp2
          go_meet
          case rel => exact ⟨_, K.out⟩
    case rest =>
    obtain ⟨vA, KA⟩ := hcut
    replace KA := Lib.hid KA
    refine ‹∀ (a : Act) (w : World), Code.wp _ _ _ a w → _› _ _ ?_
    have zf := KA.out.zf
    have zc := Z.out _ KA.out.b 4 _ rfl
    rename World => wA
    have hln := hbl.out
    have hp : Calls Tryd.prog 25 #[.agg #[.pointer (some ⟨g + 1, 0, none⟩)], .slice (some ⟨wA.heap.size, 0, none⟩) 1 1] (wA.alloc (.cells #[.int .i64 c.chans.length] 3)) (fun e w' => e = .returned (.tuple #[]) ∧ ∃ v', Kp w1 h (g + 1) (g + 1 + 1) w' v' (b2 c)) := put_O KA.out [(c.chans.length : Int)] 1 wA.heap.size rfl rfl (by omega) (by have := hln.1 c.parts.length; have := hln.2.1 c.chans.length; omega) rfl rfl
    have HP := Lib.hid hp
    clear hp hln
    go_upto_region 13 with (go_at_call 25; go_loud (with_reducible refine HP.out.mono ?_); rintro e w6 ⟨rfl, v6, K6⟩; have KK := Lib.hid K6; clear K6)
    clear HP zf zc KA
    go_cut [8] from 300 (fun i wx => i = .int .i64 0 ∧ ∃ v, Kp w1 h (g + 1) (g + 1 + 1) wx v (b2 c))
    case first => go_wp2; go_meet; case rel => exact ⟨rfl, _, KK.out⟩
    case rest =>
    obtain ⟨rfl, v7, K7⟩ := hcut
    have KB := Lib.hid K7
    clear K7 KK
    refine ‹∀ (a : Act) (w : World), Code.wp _ _ _ a w → _› _ _ ?_
    go_cut [8] from 300 (fun i wx => ∃ v, Kp w1 h (g + 1) (g + 1 + 1) wx v (b3 c c.chans.length))
    case first =>
      go_wp2
      go_loopw [8, 9] (fun i _ wr => ∃ (k : Nat) (v : Value), k ≤ c.chans.length ∧ i = .int .i64 k ∧ Kp w1 h (g + 1) (g + 1 + 1) wr v (b3 c k)) (fun i _ _ => c.chans.length - (intOf i).toNat)
      case atStart => exact ⟨0, _, Nat.zero_le _, rfl, by rw [show b3 c 0 = b2 c by unfold b3; simp]; exact KB.out⟩
      case round =>
        obtain ⟨k, v, hk, rfl, K⟩ := hrel
        clear KB
        have zc := Z.out wr K.b 4 _ rfl
        by_cases hkl : k < c.chans.length
        · have hkI : (k : Int) < (c.chans.length : Int) := by omega
          have hk16 := hzs.out.2.2.2.1.1
          obtain ⟨x, hx⟩ : ∃ x, c.chans[k]? = some x := ⟨_, List.getElem?_eq_getElem hkl⟩
          obtain ⟨b, off, rfl, hbl', y0, y1, y2, y3, y4⟩ := (K2.out wr K.b).cell5 k x hx rfl
          have hs := Lib.hid (b3_succ c k x hx)
          have hlen := hbl.out.2.1 k
          obtain ⟨wx, hwx⟩ : ∃ wx, wx = wr.alloc (.cells #[.int .i64 x.kind, .int .i64 x.frm, .int .i64 x.to, .int .i64 x.size, .int .i64 x.depth] 49) := ⟨_, rfl⟩
          obtain ⟨gx, hgx⟩ : ∃ gx, wr.heap.size = gx := ⟨_, rfl⟩
          have KX := Lib.hid (by rw [hwx]; exact K.kept (below_alloc _ _) : Kp w1 h (g + 1) (g + 1 + 1) wx v (b3 c k))
          have hgw : wx.heap.size = gx + 1 := by rw [hwx, ← hgx]; simp
          have v0 : wx.cell? ⟨gx, 0, none⟩ = some (.int .i64 x.kind) := by rw [hwx, ← hgx, cell_of_row _ _ 0 _ _ _ (heap_alloc_new _ _)]; rfl
          have v1 : wx.cell? ⟨gx, 1, none⟩ = some (.int .i64 x.frm) := by rw [hwx, ← hgx, cell_of_row _ _ 1 _ _ _ (heap_alloc_new _ _)]; rfl
          have v2 : wx.cell? ⟨gx, 2, none⟩ = some (.int .i64 x.to) := by rw [hwx, ← hgx, cell_of_row _ _ 2 _ _ _ (heap_alloc_new _ _)]; rfl
          have v3 : wx.cell? ⟨gx, 3, none⟩ = some (.int .i64 x.size) := by rw [hwx, ← hgx, cell_of_row _ _ 3 _ _ _ (heap_alloc_new _ _)]; rfl
          have v4 : wx.cell? ⟨gx, 4, none⟩ = some (.int .i64 x.depth) := by rw [hwx, ← hgx, cell_of_row _ _ 4 _ _ _ (heap_alloc_new _ _)]; rfl
          have hp : Calls Tryd.prog 25 #[.agg #[.pointer (some ⟨g + 1, 0, none⟩)], .slice (some ⟨gx + 1, 0, none⟩) 5 5] (wx.alloc (.cells #[.int .i64 x.kind, .int .i64 x.frm, .int .i64 x.to, .int .i64 x.size, .int .i64 x.depth] 3)) (fun e w' => e = .returned (.tuple #[]) ∧ ∃ v', Kp w1 h (g + 1) (g + 1 + 1) w' v' (b3 c k ++ nums [x.kind, x.frm, x.to, x.size, x.depth])) := put_O KX.out [x.kind, x.frm, x.to, x.size, x.depth] 5 (gx + 1) hgw rfl (by omega) (by omega) rfl rfl
          have HP := Lib.hid hp
          clear hp hx K hbl' hlen
          go_upto_region 17 with fail
          try rw [hgx]
          rw [← hwx]
          clear hwx hgx y0 y1 y2 y3 y4 zc
          have zf := KX.out.zf
          clear KX
          go_wp2_with (go_at_call 25; (try rw [hgw]); (with_reducible refine HP.out.mono ?_); rintro e w6 ⟨rfl, v6, K6⟩; have KK := Lib.hid K6; clear K6)
          go_roundw
          case rel => exact ⟨k + 1, _, hkl, by go_num, by rw [hs.out]; exact KK.out⟩
          case measure => simp [intOf]; omega
        · have hkm : k = c.chans.length := by omega
          subst hkm
          replace K := Lib.hid K
          go_wp2
          go_meet
          case rel => exact ⟨_, K.out⟩
    case rest =>
    obtain ⟨vC, KC⟩ := hcut
    replace KC := Lib.hid KC
    refine ‹∀ (a : Act) (w : World), Code.wp _ _ _ a w → _› _ _ ?_
    have zf := KC.out.zf
    have zc := Z.out _ KC.out.b 5 _ rfl
    rename World => wA
    have hln := hbl.out
    have hp : Calls Tryd.prog 25 #[.agg #[.pointer (some ⟨g + 1, 0, none⟩)], .slice (some ⟨wA.heap.size, 0, none⟩) 1 1] (wA.alloc (.cells #[.int .i64 c.wins.length] 3)) (fun e w' => e = .returned (.tuple #[]) ∧ ∃ v', Kp w1 h (g + 1) (g + 1 + 1) w' v' (b4 c)) := put_O KC.out [(c.wins.length : Int)] 1 wA.heap.size rfl rfl (by omega) (by have := hln.1 c.parts.length; have := hln.2.1 c.chans.length; omega) rfl rfl
    have HP := Lib.hid hp
    clear hp hln
    go_upto_region 19 with (go_at_call 25; go_loud (with_reducible refine HP.out.mono ?_); rintro e w6 ⟨rfl, v6, K6⟩; have KK := Lib.hid K6; clear K6)
    clear HP zf zc KC
    go_cut [10] from 300 (fun i wx => i = .int .i64 0 ∧ ∃ v, Kp w1 h (g + 1) (g + 1 + 1) wx v (b4 c))
    case first => go_wp2; go_meet; case rel => exact ⟨rfl, _, KK.out⟩
    case rest =>
    obtain ⟨rfl, v7, K7⟩ := hcut
    have KD := Lib.hid K7
    clear K7 KK
    refine ‹∀ (a : Act) (w : World), Code.wp _ _ _ a w → _› _ _ ?_
    go_cut [10] from 300 (fun i wx => ∃ v, Kp w1 h (g + 1) (g + 1 + 1) wx v (b5 c c.wins.length))
    case first =>
      go_wp2
      go_loopw [10] (fun i wr => ∃ (k : Nat) (v : Value), k ≤ c.wins.length ∧ i = .int .i64 k ∧ Kp w1 h (g + 1) (g + 1 + 1) wr v (b5 c k)) (fun i _ => c.wins.length - (intOf i).toNat)
      case atStart => exact ⟨0, _, Nat.zero_le _, rfl, by rw [show b5 c 0 = b4 c by unfold b5; simp]; exact KD.out⟩
      case round =>
        obtain ⟨k, v, hk, rfl, K⟩ := hrel
        clear KD
        have zc := Z.out wr K.b 5 _ rfl
        by_cases hkl : k < c.wins.length
        · have hkI : (k : Int) < (c.wins.length : Int) := by omega
          have hk32 := hzs.out.2.2.2.2.2.2.1.2
          obtain ⟨x, hx⟩ : ∃ x, c.wins[k]? = some x := ⟨_, List.getElem?_eq_getElem hkl⟩
          obtain ⟨b, off, rfl, hbl', y0, y1, y2⟩ := (K3.out wr K.b).cell3 k x hx rfl
          have hs := Lib.hid (b5_succ c k x hx)
          have hlen := hbl.out.2.2 k
          have KD := Lib.hid (K.kept (Below.refl _ wr).drew)
          have hp : Calls Tryd.prog 25 #[.agg #[.pointer (some ⟨g + 1, 0, none⟩)], .slice (some ⟨wr.heap.size, 0, none⟩) 3 3] (wr.drew.alloc (.cells #[.int .i64 x.start, .int .i64 x.len, .int .i64 x.part] 3)) (fun e w' => e = .returned (.tuple #[]) ∧ ∃ v', Kp w1 h (g + 1) (g + 1 + 1) w' v' (b5 c k ++ nums [x.start, x.len, x.part])) := put_O KD.out [x.start, x.len, x.part] 3 wr.heap.size rfl rfl (by omega) (by omega) rfl rfl
          have HP := Lib.hid hp
          have hS := Lib.hid (fun (u : World) (hu : Below (h + 1) w1 u) (zf : u.cell? ⟨g + 1 + 1, 0, none⟩ = some (.pointer (some ⟨g + 1, 0, none⟩))) => (by
            obtain ⟨b', off', e', -, q0, q1, q2⟩ := (K3.out u hu).cell3 k x hx rfl
            injection e' with e'
            injection e' with e1 e2
            subst e1 e2
            exact ⟨zf, Z.out u hu 5 _ rfl, q0, q1, q2⟩ : (fun u => u.cell? ⟨g + 1 + 1, 0, none⟩ = some (.pointer (some ⟨g + 1, 0, none⟩)) ∧ u.cell? ⟨h, 5, none⟩ = some (.slice (some ⟨b, off, none⟩) c.wins.length c3) ∧ u.cell? ⟨b, off + k * 3, none⟩ = some (.int .i64 x.start) ∧ u.cell? ⟨b, off + k * 3 + 1, none⟩ = some (.int .i64 x.len) ∧ u.cell? ⟨b, off + k * 3 + 2, none⟩ = some (.int .i64 x.part)) u))
          have KE := Lib.hid (KD.out.kept (below_alloc wr.drew (.cells #[.int .i64 x.start, .int .i64 x.len, .int .i64 x.part] 3)))
          clear hx K hbl' hlen hp y0 y1 y2
          go_upto_region 22 with fail
          clear zc
          refine wp_region_held_drew (S := (fun u => u.cell? ⟨g + 1 + 1, 0, none⟩ = some (.pointer (some ⟨g + 1, 0, none⟩)) ∧ u.cell? ⟨h, 5, none⟩ = some (.slice (some ⟨b, off, none⟩) c.wins.length c3) ∧ u.cell? ⟨b, off + k * 3, none⟩ = some (.int .i64 x.start) ∧ u.cell? ⟨b, off + k * 3 + 1, none⟩ = some (.int .i64 x.len) ∧ u.cell? ⟨b, off + k * 3 + 2, none⟩ = some (.int .i64 x.part))) (by kernel_rfl) ?_ (fun hH0 => ?_)
          · ((try dsimp only); (first | assumption | exact hS.out _ KD.out.b KD.out.zf | exact hS.out _ KE.out.b KE.out.zf | exact hS.out _ K6.out.b K6.out.zf))
          refine wpAnyH_take (i := 0) (oi := { dst := some 112, op := Go.Op.load 60 (Go.Operand.tmp 6), type := 60, pos := "config.go:102", after := #[], guard := none }) (v := ?_) rfl (by kernel_rfl) (by kernel_rfl) (by kernel_rfl) (fun _ _ _ h => h) (Or.inl ⟨by rfl, ?_⟩) (by assumption) ?_
          rotate_left
          · ((intro w hSw; (try dsimp only at hSw); go_simp) <;> (with_reducible rfl))
          try simp only [Act.put, List.setIfInBounds_toArray, List.set_cons_zero, List.set_cons_succ]
          refine wpAnyH_take (i := 1) (oi := { dst := some 113, op := Go.Op.fieldAddr 26 (Go.Operand.tmp 1) 5, type := 0, pos := "config.go:102", after := #[], guard := none }) (v := ?_) rfl (by kernel_rfl) (by kernel_rfl) (by kernel_rfl) (fun _ _ _ h => h) (Or.inl ⟨by rfl, ?_⟩) (by assumption) ?_
          rotate_left
          · ((intro w hSw; (try dsimp only at hSw); go_simp) <;> (with_reducible rfl))
          try simp only [Act.put, List.setIfInBounds_toArray, List.set_cons_zero, List.set_cons_succ]
          refine wpAnyH_take (i := 2) (oi := { dst := some 114, op := Go.Op.load 24 (Go.Operand.tmp 113), type := 24, pos := "config.go:102", after := #[{ on := 1, ground := Go.Ground.data }], guard := none }) (v := ?_) rfl (by kernel_rfl) (by kernel_rfl) (by kernel_rfl) (fun _ _ _ h => h) (Or.inl ⟨by rfl, ?_⟩) (by assumption) ?_
          rotate_left
          · ((intro w hSw; (try dsimp only at hSw); go_simp) <;> (with_reducible rfl))
          try simp only [Act.put, List.setIfInBounds_toArray, List.set_cons_zero, List.set_cons_succ]
          refine wpAnyH_take (i := 3) (oi := { dst := some 115, op := Go.Op.move (Go.Operand.tmp 10), type := 3, pos := "config.go:102", after := #[], guard := none }) (v := ?_) rfl (by kernel_rfl) (by kernel_rfl) (by kernel_rfl) (fun _ _ _ h => h) (Or.inl ⟨by rfl, ?_⟩) (by assumption) ?_
          rotate_left
          · ((intro w hSw; (try dsimp only at hSw); go_simp) <;> (with_reducible rfl))
          try simp only [Act.put, List.setIfInBounds_toArray, List.set_cons_zero, List.set_cons_succ]
          refine wpAnyH_take (i := 4) (oi := { dst := some 116, op := Go.Op.indexAddr 24 (Go.Operand.tmp 114) (Go.Operand.tmp 115), type := 0, pos := "config.go:102", after := #[{ on := 2, ground := Go.Ground.data }, { on := 3, ground := Go.Ground.data }], guard := none }) (v := ?_) rfl (by kernel_rfl) (by kernel_rfl) (by kernel_rfl) (fun _ _ _ h => h) (Or.inl ⟨by rfl, ?_⟩) (by assumption) ?_
          rotate_left
          · ((intro w hSw; (try dsimp only at hSw); go_simp) <;> (with_reducible rfl))
          try simp only [Act.put, List.setIfInBounds_toArray, List.set_cons_zero, List.set_cons_succ]
          refine wpAnyH_take (i := 5) (oi := { dst := some 117, op := Go.Op.fieldAddr 51 (Go.Operand.tmp 116) 0, type := 0, pos := "config.go:102", after := #[{ on := 4, ground := Go.Ground.data }], guard := none }) (v := ?_) rfl (by kernel_rfl) (by kernel_rfl) (by kernel_rfl) (fun _ _ _ h => h) (Or.inl ⟨by rfl, ?_⟩) (by assumption) ?_
          rotate_left
          · ((intro w hSw; (try dsimp only at hSw); go_simp) <;> (with_reducible rfl))
          try simp only [Act.put, List.setIfInBounds_toArray, List.set_cons_zero, List.set_cons_succ]
          refine wpAnyH_take (i := 6) (oi := { dst := some 118, op := Go.Op.load 3 (Go.Operand.tmp 117), type := 3, pos := "config.go:102", after := #[{ on := 5, ground := Go.Ground.data }], guard := none }) (v := ?_) rfl (by kernel_rfl) (by kernel_rfl) (by kernel_rfl) (fun _ _ _ h => h) (Or.inl ⟨by rfl, ?_⟩) (by assumption) ?_
          rotate_left
          · ((intro w hSw; (try dsimp only at hSw); go_simp) <;> (with_reducible rfl))
          try simp only [Act.put, List.setIfInBounds_toArray, List.set_cons_zero, List.set_cons_succ]
          refine wpAnyH_take (i := 7) (oi := { dst := some 119, op := Go.Op.fieldAddr 26 (Go.Operand.tmp 1) 5, type := 0, pos := "config.go:102", after := #[], guard := none }) (v := ?_) rfl (by kernel_rfl) (by kernel_rfl) (by kernel_rfl) (fun _ _ _ h => h) (Or.inl ⟨by rfl, ?_⟩) (by assumption) ?_
          rotate_left
          · ((intro w hSw; (try dsimp only at hSw); go_simp) <;> (with_reducible rfl))
          try simp only [Act.put, List.setIfInBounds_toArray, List.set_cons_zero, List.set_cons_succ]
          refine wpAnyH_take (i := 8) (oi := { dst := some 120, op := Go.Op.load 24 (Go.Operand.tmp 119), type := 24, pos := "config.go:102", after := #[{ on := 7, ground := Go.Ground.data }], guard := none }) (v := ?_) rfl (by kernel_rfl) (by kernel_rfl) (by kernel_rfl) (fun _ _ _ h => h) (Or.inl ⟨by rfl, ?_⟩) (by assumption) ?_
          rotate_left
          · ((intro w hSw; (try dsimp only at hSw); go_simp) <;> (with_reducible rfl))
          try simp only [Act.put, List.setIfInBounds_toArray, List.set_cons_zero, List.set_cons_succ]
          refine wpAnyH_take (i := 9) (oi := { dst := some 121, op := Go.Op.move (Go.Operand.tmp 10), type := 3, pos := "config.go:102", after := #[], guard := none }) (v := ?_) rfl (by kernel_rfl) (by kernel_rfl) (by kernel_rfl) (fun _ _ _ h => h) (Or.inl ⟨by rfl, ?_⟩) (by assumption) ?_
          rotate_left
          · ((intro w hSw; (try dsimp only at hSw); go_simp) <;> (with_reducible rfl))
          try simp only [Act.put, List.setIfInBounds_toArray, List.set_cons_zero, List.set_cons_succ]
          refine wpAnyH_take (i := 10) (oi := { dst := some 122, op := Go.Op.indexAddr 24 (Go.Operand.tmp 120) (Go.Operand.tmp 121), type := 0, pos := "config.go:102", after := #[{ on := 8, ground := Go.Ground.data }, { on := 9, ground := Go.Ground.data }], guard := none }) (v := ?_) rfl (by kernel_rfl) (by kernel_rfl) (by kernel_rfl) (fun _ _ _ h => h) (Or.inl ⟨by rfl, ?_⟩) (by assumption) ?_
          rotate_left
          · ((intro w hSw; (try dsimp only at hSw); go_simp) <;> (with_reducible rfl))
          try simp only [Act.put, List.setIfInBounds_toArray, List.set_cons_zero, List.set_cons_succ]
          refine wpAnyH_take (i := 11) (oi := { dst := some 123, op := Go.Op.fieldAddr 51 (Go.Operand.tmp 122) 1, type := 0, pos := "config.go:102", after := #[{ on := 10, ground := Go.Ground.data }], guard := none }) (v := ?_) rfl (by kernel_rfl) (by kernel_rfl) (by kernel_rfl) (fun _ _ _ h => h) (Or.inl ⟨by rfl, ?_⟩) (by assumption) ?_
          rotate_left
          · ((intro w hSw; (try dsimp only at hSw); go_simp) <;> (with_reducible rfl))
          try simp only [Act.put, List.setIfInBounds_toArray, List.set_cons_zero, List.set_cons_succ]
          refine wpAnyH_take (i := 12) (oi := { dst := some 124, op := Go.Op.load 3 (Go.Operand.tmp 123), type := 3, pos := "config.go:102", after := #[{ on := 11, ground := Go.Ground.data }], guard := none }) (v := ?_) rfl (by kernel_rfl) (by kernel_rfl) (by kernel_rfl) (fun _ _ _ h => h) (Or.inl ⟨by rfl, ?_⟩) (by assumption) ?_
          rotate_left
          · ((intro w hSw; (try dsimp only at hSw); go_simp) <;> (with_reducible rfl))
          try simp only [Act.put, List.setIfInBounds_toArray, List.set_cons_zero, List.set_cons_succ]
          refine wpAnyH_take (i := 13) (oi := { dst := some 125, op := Go.Op.fieldAddr 26 (Go.Operand.tmp 1) 5, type := 0, pos := "config.go:102", after := #[], guard := none }) (v := ?_) rfl (by kernel_rfl) (by kernel_rfl) (by kernel_rfl) (fun _ _ _ h => h) (Or.inl ⟨by rfl, ?_⟩) (by assumption) ?_
          rotate_left
          · ((intro w hSw; (try dsimp only at hSw); go_simp) <;> (with_reducible rfl))
          try simp only [Act.put, List.setIfInBounds_toArray, List.set_cons_zero, List.set_cons_succ]
          refine wpAnyH_take (i := 14) (oi := { dst := some 126, op := Go.Op.load 24 (Go.Operand.tmp 125), type := 24, pos := "config.go:102", after := #[{ on := 13, ground := Go.Ground.data }], guard := none }) (v := ?_) rfl (by kernel_rfl) (by kernel_rfl) (by kernel_rfl) (fun _ _ _ h => h) (Or.inl ⟨by rfl, ?_⟩) (by assumption) ?_
          rotate_left
          · ((intro w hSw; (try dsimp only at hSw); go_simp) <;> (with_reducible rfl))
          try simp only [Act.put, List.setIfInBounds_toArray, List.set_cons_zero, List.set_cons_succ]
          refine wpAnyH_take (i := 15) (oi := { dst := some 127, op := Go.Op.move (Go.Operand.tmp 10), type := 3, pos := "config.go:102", after := #[], guard := none }) (v := ?_) rfl (by kernel_rfl) (by kernel_rfl) (by kernel_rfl) (fun _ _ _ h => h) (Or.inl ⟨by rfl, ?_⟩) (by assumption) ?_
          rotate_left
          · ((intro w hSw; (try dsimp only at hSw); go_simp) <;> (with_reducible rfl))
          try simp only [Act.put, List.setIfInBounds_toArray, List.set_cons_zero, List.set_cons_succ]
          refine wpAnyH_take (i := 16) (oi := { dst := some 128, op := Go.Op.indexAddr 24 (Go.Operand.tmp 126) (Go.Operand.tmp 127), type := 0, pos := "config.go:102", after := #[{ on := 14, ground := Go.Ground.data }, { on := 15, ground := Go.Ground.data }], guard := none }) (v := ?_) rfl (by kernel_rfl) (by kernel_rfl) (by kernel_rfl) (fun _ _ _ h => h) (Or.inl ⟨by rfl, ?_⟩) (by assumption) ?_
          rotate_left
          · ((intro w hSw; (try dsimp only at hSw); go_simp) <;> (with_reducible rfl))
          try simp only [Act.put, List.setIfInBounds_toArray, List.set_cons_zero, List.set_cons_succ]
          refine wpAnyH_take (i := 17) (oi := { dst := some 129, op := Go.Op.fieldAddr 51 (Go.Operand.tmp 128) 2, type := 0, pos := "config.go:102", after := #[{ on := 16, ground := Go.Ground.data }], guard := none }) (v := ?_) rfl (by kernel_rfl) (by kernel_rfl) (by kernel_rfl) (fun _ _ _ h => h) (Or.inl ⟨by rfl, ?_⟩) (by assumption) ?_
          rotate_left
          · ((intro w hSw; (try dsimp only at hSw); go_simp) <;> (with_reducible rfl))
          try simp only [Act.put, List.setIfInBounds_toArray, List.set_cons_zero, List.set_cons_succ]
          refine wpAnyH_take (i := 18) (oi := { dst := some 130, op := Go.Op.load 3 (Go.Operand.tmp 129), type := 3, pos := "config.go:102", after := #[{ on := 17, ground := Go.Ground.data }], guard := none }) (v := ?_) rfl (by kernel_rfl) (by kernel_rfl) (by kernel_rfl) (fun _ _ _ h => h) (Or.inl ⟨by rfl, ?_⟩) (by assumption) ?_
          rotate_left
          · ((intro w hSw; (try dsimp only at hSw); go_simp) <;> (with_reducible rfl))
          try simp only [Act.put, List.setIfInBounds_toArray, List.set_cons_zero, List.set_cons_succ]
          refine wpAnyH_ready (rs := [19]) (by kernel_rfl) (by simp) ?_
          refine AllReadyH.cons (o := { dst := some 131, op := Go.Op.buildSlice 84 3 #[(0, Go.Operand.tmp 118), (1, Go.Operand.tmp 124), (2, Go.Operand.tmp 130)], type := 84, pos := "config.go:102", after := #[{ on := 6, ground := Go.Ground.data }, { on := 12, ground := Go.Ground.data }, { on := 18, ground := Go.Ground.data }], guard := none }) rfl (fun K hK => ?_) AllReadyH.nil
          go_simp
          refine hK.out _ _ ?_ (fun hH1 => ?_)
          · ((try dsimp only); (first | assumption | exact hS.out _ KD.out.b KD.out.zf | exact hS.out _ KE.out.b KE.out.zf | exact hS.out _ K6.out.b K6.out.zf))
          clear hK K hH0
          try simp only [Act.put, List.setIfInBounds_toArray, List.set_cons_zero, List.set_cons_succ]
          refine wpAnyH_ready (rs := [20]) (by kernel_rfl) (by simp) ?_
          refine AllReadyH.cons (o := { dst := some 132, op := Go.Op.call { callee := Go.Callee.value (Go.Operand.func 25), args := #[Go.Operand.tmp 112, Go.Operand.tmp 131], argTypes := #[60, 84] }, type := 0, pos := "config.go:102", after := #[{ on := 0, ground := Go.Ground.data }, { on := 19, ground := Go.Ground.data }], guard := none }) rfl (fun K hK => ?_) AllReadyH.nil
          go_simp
          (go_at_call 25; refine HP.out.mono ?_; rintro e w6 ⟨rfl, v6, K6'⟩; have K6 := Lib.hid K6'; clear K6')
          refine hK.out _ _ ?_ (fun hH2 => ?_)
          · ((try dsimp only); (first | assumption | exact hS.out _ KD.out.b KD.out.zf | exact hS.out _ KE.out.b KE.out.zf | exact hS.out _ K6.out.b K6.out.zf))
          clear hK K hH1
          try simp only [Act.put, List.setIfInBounds_toArray, List.set_cons_zero, List.set_cons_succ]
          refine wpAnyH_done (by kernel_rfl) ?_ _
          all_goals
            clear hS KE KD HP
            go_wp2
            go_roundw
            case rel => exact ⟨k + 1, _, hkl, by go_num, by rw [hs.out]; exact K6.out⟩
            case measure => simp [intOf]; omega
        · have hkm : k = c.wins.length := by omega
          subst hkm
          replace K := Lib.hid K
          go_wp2
          go_meet
          case rel => exact ⟨_, K.out⟩
    case rest =>
    obtain ⟨vE, KE⟩ := hcut
    replace KE := Lib.hid KE
    refine ‹∀ (a : Act) (w : World), Code.wp _ _ _ a w → _› _ _ ?_
    rename World => wE
    have hl5 := hbl.out.2.2 c.wins.length
    have KF := Lib.hid (KE.out.kept (Below.refl _ wE).drew)
    obtain ⟨pE, qE, eE, -, -⟩ := ownK_lie KF.out.p.o
    obtain ⟨nE, hnE⟩ : ∃ nE, (b5 c c.wins.length).length = nE := ⟨_, rfl⟩
    rw [hnE] at eE
    subst eE
    have LE := Lib.hid (lie_own KF.out.p.o)
    have HSm := Lib.hid (rsum_says LE.out (head_byt' c) (by omega))
    have zbd := KF.out.zb
    have SZ := Lib.hid (show (b5 c c.wins.length).length + 4 ≤ 1000000 by omega)
    have HF4 := Lib.hid (fun (wf : World) (bf : Below wE.drew.heap.size wE.drew wf) => KF.out.kept bf)
    have hlow := Lib.hid (fun (u u' : World) (v v' : Value) (R : List Int) (K : Kp w1 h (g + 1) (g + 1 + 1) u v R) (G : Grew u u' v v') => (K.b.trans ⟨G.os, G.tape, G.output, G.size, fun i hi => G.block i (by have := K.size; omega) fun e => by have := K.own i e; omega⟩ : Below (h + 1) w1 u'))
    have hpk : packC c = b5 c c.wins.length ++ four (headC c).sum := by unfold packC; simp [nums, headC]
    rw [hpk] at HO
    clear KE hpk hnE
    go_upto_region 23 with fail
    go_region_law (first | (rw [if_pos (by simp [Region.wanted])]; go_simp; go_at_call 27; (with_reducible refine HSm.out.mono ?_); rintro e t2 ⟨rfl, rfl⟩) | (rw [if_pos (by simp [Region.wanted])]; go_simp; go_at_call 26; (with_reducible refine (four_says _ _).mono ?_); rintro e wf ⟨pf, cf, rfl, of, bf⟩; have KG := Lib.hid (HF4.out wf bf); have zbf := KG.out.zb; have S6 := Lib.hid (lie_own of); clear of bf) | (refine step_appG kdB rfl _ _ rfl KG.out.size (v1 := .slice pE nE qE) (R1 := b5 c c.wins.length) rfl KG.out.p.o (four (headC c).sum) (m := 4) rfl rfl S6.out.nil S6.out.src SZ.out ?_; intro v2 w7 o7 g7; have b7 := hlow.out _ _ _ _ _ KG.out g7; obtain ⟨p2, c2, e2, -, -⟩ := ownK_lie o7; obtain ⟨n5, hn5⟩ : ∃ n5, (b5 c c.wins.length ++ four (headC c).sum).length = n5 := ⟨_, rfl⟩; rw [hn5] at e2; clear hn5; subst e2; have ho := Lib.hid (HO.out _ _ _ _ o7 b7); clear o7 b7 g7))
    all_goals
      go_wp2
      first | exact ho.out | exact bodyPost_ret (v := .tuple #[.slice p2 n5 c2, i64 0]) (by simp [results, Tryd.results10, go_sem]) rfl ho.out
  · have HO := Lib.hid (fun u (hu : Below (h + 1) w1 u) => (by rw [hr, show packO c = [] by unfold packO; rw [if_neg hz]]; exact ⟨none, 0, 0, rfl, ownK_nil _ _ _ _, by rw [hhz]; exact bw.out.trans (hu.mono (Nat.le_succ _))⟩ : r (.returned (.tuple #[.slice none 0 0, i64 (Cfg.chk c)])) u))
    obtain ⟨kk, hkk⟩ : ∃ kk, Cfg.chk c = kk := ⟨_, rfl⟩
    rw [hkk] at HO hck hz
    have hne : (kk != 0) = true := by simpa using hz
    clear hr hkk hz
    go_enter Tryd.func10, Tryd.ntmps10
    go_upto_region 1 with fail
    try simp only [hhz]
    rw [← hw1]
    clear hw1
    go_wp2_with (go_at_call 12; (with_reducible refine hck.out.mono ?_); rintro e w2 ⟨rfl, hb⟩; have BC := Lib.hid (hb.mono (Nat.le_of_eq hg1.symm)); clear hb)
    exact HO.out _ BC.out
end Go.Proofs.YtogbhgbnminpdaaDoor.Pck
