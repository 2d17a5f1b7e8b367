/-
  What all bytes are as a configuration, or that they are none (law ConfigReads returns true, and its argument reads as it read). No condition on the arguments: whatever they are. The card ties the listed variable of Go's library to the program's text.
-/
import Derived.Test.YtogbhgbnminpdaaDoorJnCfgLaid
import Derived.Test.YtogbhgbnminpdaaDoorJnPlnAo
import Derived.Test.YtogbhgbnminpdaaDoorCards
import Derived.Test.YtogbhgbnminpdaaDoorTie
import Derived.Test.YtogbhgbnminpdaaDoorJnCfgOb
import Derived.Carry
import Derived.Lay
import Derived.LaidOnce
import Derived.OpenShut
import Derived.Deep.Slices
import Derived.SevenTiedAt
set_option linter.unusedVariables false
namespace Go.Proofs.YtogbhgbnminpdaaDoor.configReads
open Go Go.Proofs.YtogbhgbnminpdaaDoor Go.Proofs.YtogbhgbnminpdaaDoor.Ser Go.Proofs.YtogbhgbnminpdaaDoor.Img Go.Proofs.YtogbhgbnminpdaaDoor.Cfg Go.Proofs.YtogbhgbnminpdaaDoor.Pck Go.ChangeShapes Go.WideShapes Go.ChangeAt Go.RowKit
set_option linter.unusedVariables false
set_option maxRecDepth 100000

/-- What the call does. -/
def Fine (W : World) (e : Ending) (W' : World) : Prop := e = .returned (.bool true) ∧ Below W.heap.size W W'
set_option maxHeartbeats 8000000 in
theorem walk {p0 : Option Addr} {n0 k0 : Nat} {xs0 : List Int} (W : World) (hT : W.cell? ⟨0, 0, none⟩ = some (.iface 105 (hnd 67))) (L0 : Lie .u8 W W.heap.size p0 n0 k0 xs0) (H0 : Byt xs0) (m0 : n0 ≤ 9223372036854775807) (mc0 : k0 ≤ 9223372036854775807) :
    Calls Tryd.prog 4 #[.slice p0 n0 k0] W (Fine W) := by
  unfold Fine
  obtain ⟨r, hr⟩ : ∃ r : Ending → World → Prop, r = fun e w' => e = .returned (.bool true) ∧ Below W.heap.size W w' := ⟨_, rfl⟩
  rw [← hr]
  obtain ⟨h0, hh0⟩ : ∃ h0, W.heap.size = h0 := ⟨_, rfl⟩
  have HO := Lib.hid (fun u (b : Below h0 W u) => (by rw [hr]; exact ⟨rfl, hh0 ▸ b⟩ : r (.returned (.bool true)) u))
  clear hr
  have h0p : 0 < h0 := by rw [← hh0]; exact World.block_lt_of_cell? W _ hT
  have HG := Lib.hid (fun (u : World) (b : Below h0 W u) => (World.cell?_of_block (b.block 0 h0p)).trans hT)
  rw [hh0] at L0
  have LX := Lib.hid (fun (u : World) (b : Below h0 W u) => (L0.kept b (Nat.le_refl _)))
  have HB := Lib.hid H0
  have hln := L0.len
  have hnm := Lib.hid hln
  clear L0 H0 hln
  obtain ⟨cf, x, hl3, HU', HR'⟩ := both xs0
  have HU := Lib.hid HU'
  have HR := Lib.hid HR'
  clear HU' HR'
  have HS := Lib.hid (fun (u : World) {p1 : Option Addr} {e1 : Nat} {p2 : Option Addr} {e2 : Nat} {p3 : Option Addr} {e3 : Nat} {q1 : Option Addr} {f1 : Nat} {q2 : Option Addr} {f2 : Nat} {q3 : Option Addr} {f3 : Nat} (l1 : LieS 3 u u.heap.size p1 cf.parts.length e1 (cf.parts.map ptC)) (l2 : LieS 5 u u.heap.size p2 cf.chans.length e2 (cf.chans.map chC)) (l3 : LieS 3 u u.heap.size p3 cf.wins.length e3 (cf.wins.map wnC)) (m1 : LieS 3 u u.heap.size q1 cf.parts.length f1 (cf.parts.map ptC)) (m2 : LieS 5 u u.heap.size q2 cf.chans.length f2 (cf.chans.map chC)) (m3 : LieS 3 u u.heap.size q3 cf.wins.length f3 (cf.wins.map wnC)) => same_yes l1 l2 l3 m1 m2 m3 hl3)
  unfold Tells at HU HR
  obtain ⟨pg, qpg⟩ : ∃ pg, cf.pages = pg := ⟨_, rfl⟩
  obtain ⟨mj, qmj⟩ : ∃ mj, cf.major = mj := ⟨_, rfl⟩
  obtain ⟨sw, qsw⟩ : ∃ sw, cf.switch = sw := ⟨_, rfl⟩
  obtain ⟨n1, qn1⟩ : ∃ n1, cf.parts.length = n1 := ⟨_, rfl⟩
  obtain ⟨n2, qn2⟩ : ∃ n2, cf.chans.length = n2 := ⟨_, rfl⟩
  obtain ⟨n3, qn3⟩ : ∃ n3, cf.wins.length = n3 := ⟨_, rfl⟩
  simp only [cfV, qpg, qmj, qsw, qn1, qn2, qn3] at HU HR HS
  clear qpg qmj qsw qn1 qn2 qn3 hl3
  have hnn : (0 : Int) ≤ (n0 : Int) := Int.natCast_nonneg n0
  go_enter Tryd.func4, Tryd.ntmps4
  go_upto_region 2 with (go_at_call 5; (with_reducible refine (alive14 _).mono ?_); rintro e w3 ⟨rfl, hb⟩; have B3 := Lib.hid (hh0 ▸ hb : Below h0 W w3); clear hb)
  by_cases k5 : (n0 : Int) > 5000
  · have ho := Lib.hid (HO.out _ B3.out)
    clear HO HU HR HS
    go_wp2
    exact ho.out
  · have k5n : n0 ≤ 5000 := by omega
    have hL3 := Lib.hid (LX.out w3 B3.out)
    go_upto_region 4 with fail
    go_upto_region 5 with (first
      | (at_builtin; refine wpList_appK kdB rfl _ _ rfl (Nat.le_refl _) (R1 := []) rfl (ownK_nil _ _ _ _) xs0 rfl hL3.out.len hL3.out.nil hL3.out.src (by have h3 : ([] : List Int).length = 0 := rfl; have := hnm.out; omega) ?_; intro v4 w4 o4 b4 _; rw [List.nil_append] at o4; obtain ⟨pE, cE, eE, hcE, LE'⟩ := ownK_lie o4; obtain ⟨mE, hmE⟩ : ∃ mE, xs0.length = mE := ⟨_, rfl⟩; rw [hmE] at eE LE'; subst eE; have LE := Lib.hid LE'; have B4 := Lib.hid (B3.out.trans (b4.mono (by have := B3.out.size; omega))); clear o4 b4 LE' hmE; have hcE' : cE ≤ 9223372036854775807 := (by unfold maxLen at hcE; omega))
      | (go_at_call 14; (with_reducible refine (HU.out w4 pE mE cE LE.out HB.out hcE' (HG.out w4 B4.out)).mono ?_); rintro e w5 ⟨hb, p1, e1, p2, e2, p3, e3, rfl, l1, l2, l3⟩; have B5 := Lib.hid (B4.out.trans (hb.mono (by have := B4.out.size; omega))); have M1 := Lib.hid l1; have M2 := Lib.hid l2; have M3 := Lib.hid l3; clear hb l1 l2 l3))
    obtain ⟨hE, hhE⟩ : ∃ hE, w5.heap.size = hE := ⟨_, rfl⟩
    try rw [hhE]
    obtain ⟨w6, hw6⟩ : ∃ w6, w6 = w5.alloc (.cells #[i64 pg, i64 mj, i64 sw, .slice p1 n1 e1, .slice p2 n2 e2, .slice p3 n3 e3] 26) := ⟨_, rfl⟩
    have b6 : Below w5.heap.size w5 w6 := by rw [hw6]; exact below_alloc _ _
    have B6 := Lib.hid (B5.out.trans (b6.mono (by have := B5.out.size; omega)))
    have hD := Lib.hid (by rw [hw6, ← hhE]; exact heap_alloc_new _ _ : w6.heap[hE]? = some (.cells #[i64 pg, i64 mj, i64 sw, .slice p1 n1 e1, .slice p2 n2 e2, .slice p3 n3 e3] 26))
    have hg6 : w6.heap.size = hE + 1 := by rw [hw6, ← hhE]; simp
    have N1 := Lib.hid ((M1.out.kept b6 (Nat.le_refl _)).wide b6.size)
    have N2 := Lib.hid ((M2.out.kept b6 (Nat.le_refl _)).wide b6.size)
    have N3 := Lib.hid ((M3.out.kept b6 (Nat.le_refl _)).wide b6.size)
    rw [← hw6]
    clear hw6 b6 hhE M1 M2 M3 LE hL3
    have hc := Lib.hid (HR.out w6 p0 n0 k0 (by have := (LX.out w6 B6.out).wide (B' := w6.heap.size) (by have := B6.out.size; omega); exact this) HB.out k5n)
    go_upto_region 6 with (go_at_call 16; (with_reducible refine hc.out.mono ?_); rintro e w7 ⟨hb, q1, f1, q2, f2, q3, f3, rfl, l1, l2, l3⟩; have B7 := Lib.hid hb; have M1 := Lib.hid l1; have M2 := Lib.hid l2; have M3 := Lib.hid l3; clear hb l1 l2 l3)
    obtain ⟨hF, hhF⟩ : ∃ hF, w7.heap.size = hF := ⟨_, rfl⟩
    try rw [hhF]
    obtain ⟨w8, hw8⟩ : ∃ w8, w8 = w7.alloc (.cells #[i64 pg, i64 mj, i64 sw, .slice q1 n1 f1, .slice q2 n2 f2, .slice q3 n3 f3] 26) := ⟨_, rfl⟩
    have b8 : Below w7.heap.size w7 w8 := by rw [hw8]; exact below_alloc _ _
    have b68 : Below w6.heap.size w6 w8 := B7.out.trans (b8.mono B7.out.size)
    have B8 := Lib.hid (B6.out.trans (b68.mono (by have := B6.out.size; omega)))
    have hDF : w8.heap[hF]? = some (.cells #[i64 pg, i64 mj, i64 sw, .slice q1 n1 f1, .slice q2 n2 f2, .slice q3 n3 f3] 26) := by rw [hw8, ← hhF]; exact heap_alloc_new _ _
    have hDE : w8.heap[hE]? = some (.cells #[i64 pg, i64 mj, i64 sw, .slice p1 n1 e1, .slice p2 n2 e2, .slice p3 n3 e3] 26) := (b68.block hE (by omega)).trans hD.out
    rw [← hw8]
    clear hw8 hhF
    have xa0 : w8.cell? ⟨hE, 0, none⟩ = some (i64 pg) := by rw [cell_of_row _ _ 0 _ _ _ hDE]; rfl
    have xa1 : w8.cell? ⟨hE, 1, none⟩ = some (i64 mj) := by rw [cell_of_row _ _ 1 _ _ _ hDE]; rfl
    have xa2 : w8.cell? ⟨hE, 2, none⟩ = some (i64 sw) := by rw [cell_of_row _ _ 2 _ _ _ hDE]; rfl
    have xa3 : w8.cell? ⟨hE, 3, none⟩ = some (.slice p1 n1 e1) := by rw [cell_of_row _ _ 3 _ _ _ hDE]; rfl
    have xa4 : w8.cell? ⟨hE, 4, none⟩ = some (.slice p2 n2 e2) := by rw [cell_of_row _ _ 4 _ _ _ hDE]; rfl
    have xa5 : w8.cell? ⟨hE, 5, none⟩ = some (.slice p3 n3 e3) := by rw [cell_of_row _ _ 5 _ _ _ hDE]; rfl
    have xb0 : w8.cell? ⟨hF, 0, none⟩ = some (i64 pg) := by rw [cell_of_row _ _ 0 _ _ _ hDF]; rfl
    have xb1 : w8.cell? ⟨hF, 1, none⟩ = some (i64 mj) := by rw [cell_of_row _ _ 1 _ _ _ hDF]; rfl
    have xb2 : w8.cell? ⟨hF, 2, none⟩ = some (i64 sw) := by rw [cell_of_row _ _ 2 _ _ _ hDF]; rfl
    have xb3 : w8.cell? ⟨hF, 3, none⟩ = some (.slice q1 n1 f1) := by rw [cell_of_row _ _ 3 _ _ _ hDF]; rfl
    have xb4 : w8.cell? ⟨hF, 4, none⟩ = some (.slice q2 n2 f2) := by rw [cell_of_row _ _ 4 _ _ _ hDF]; rfl
    have xb5 : w8.cell? ⟨hF, 5, none⟩ = some (.slice q3 n3 f3) := by rw [cell_of_row _ _ 5 _ _ _ hDF]; rfl
    have hs := Lib.hid (HS.out w8 ((N1.out.kept b68 (Nat.le_refl _)).wide b68.size) ((N2.out.kept b68 (Nat.le_refl _)).wide b68.size) ((N3.out.kept b68 (Nat.le_refl _)).wide b68.size) ((M1.out.kept b8 (Nat.le_refl _)).wide b8.size) ((M2.out.kept b8 (Nat.le_refl _)).wide b8.size) ((M3.out.kept b8 (Nat.le_refl _)).wide b8.size))
    have hxx : (x == x) = true := by simp
    clear hDF hDE b8 b68 HS HU HR hc N1 N2 N3 M1 M2 M3 hD B7
    go_wp2_with (first | (go_at_call 11; (with_reducible refine (num_says14 _ _).mono ?_); rintro e t2 ⟨rfl, rfl⟩) | (go_at_call 15; (with_reducible refine hs.out.mono ?_); rintro e w9 ⟨rfl, hb⟩; have B9 := Lib.hid (B8.out.trans (hb.mono (by have := B8.out.size; omega))); clear hb))
    exact HO.out _ B9.out
set_option maxRecDepth 100000 in
theorem lifted (os : Os) (started : os.Started) (H : Type) (enc : TypeId × Value → H) :
    ReturnsInHanded {} Tryd.checked os 4 .any (fun w args => (Rows.configReadsSpec.pre enc Tryd.prog Tryd.f4 [] false w args ∧ laidMetH Tryd.prog laidB w) ∧ sizedMet enc Tryd.prog Tryd.f4 (OpenSpec.ofChange Rows.configReadsSpec) false w args)
      (Rows.configReadsSpec.post enc Tryd.prog Tryd.f4 false true false false) := by
  refine returnsInHanded_of_change_and (C := Tryd.checked) (X := fun w _ => laidMetH Tryd.prog laidB w) (fun _ _ _ hh h => h.of_heap hh) Pck.ownB started (by kernel_rfl) Tryd.func4
    (ChangeSpec.witness_at (enc := enc) (C := Tryd.checked) (os := os) (X := fun w _ => laidMetH Tryd.prog laidB w) false (laidWorld os) #[.slice none 0 0] 8 rfl (by kernel_rfl) (by kernel_rfl) (by kernel_rfl) (by kernel_rfl) (by kernel_rfl) (laidWorld_met os _)) ?_
  intro W base args ds gs before hval0 hW _ _ hL _
  have hval : ∀ (j : Nat) t v, Tryd.f4.params[j]? = some t → args[j]? = some v → Value.okWide Tryd.prog W .any base t v := hval0
  have hW' := hW
  obtain ⟨p, q, hA0, hV, rfl, hfz, hnd⟩ := hW
  have hA : DataW.TrodAll enc Tryd.prog W 0 (fun _ => true) true Tryd.f4.params.toList args.toList ds p := hA0
  rw [Tryd.params4] at hA hval
  obtain ⟨v0, vs0, d0, ds0, p0, q0, hargs, rfl, rfl, h0, r0⟩ := trodAll_cons hA
  obtain ⟨rfl, rfl, rfl⟩ := trodAll_nil r0
  obtain rfl : args = #[v0] := by cases args; simp_all
  obtain ⟨rfl, rfl⟩ := trodVars_none hV
  have hlt0 : ∀ x ∈ p0, x.block < W.heap.size := fun x hx => hW'.lt x (by simp [hx])
  obtain ⟨p0, n0, k0, xs0, rfl, L0, H0, m0, mc0⟩ := open_bytesI (hval 0 32 v0 rfl rfl) h0
  have hT := glob_of_laid hL
  clear hA0 hval0
  simp only [List.append_nil] at hW'
  refine (walk  W hT L0 H0 m0 mc0).mono fun e W' ⟨he, hb⟩ => ?_
  subst he
  exact ⟨_, rfl, _, _, _, [], _, [], hW', trodAll_cons_mk (shut_bool Tryd.underlying4 _) trodAll_mk0, (trodAll_cons_mk (Below.trod laidOut (by kernel_rfl) (of_decide_eq_true (by kernel_rfl)) h0 hb hlt0) trodAll_mk0), rfl, hb.frame _, fun h => by cases h⟩
theorem over : Rows.ConfigReadsSaid :=
  OpenClaim.holds_of_wide 4 Tryd.f4 rfl rfl rfl rfl rfl rfl rfl ⟨rfl, rfl, rfl, rfl, rfl⟩ rfl rfl rfl rfl rfl (by kernel_rfl) Tryd.func4 (by kernel_rfl)
    (of_decide_eq_true (by kernel_rfl)) (by unfold Func.isWrapper; first | (rw [if_pos (by decide +kernel)]; kernel_rfl) | (rw [if_neg (by decide +kernel)]; exact ⟨rfl, rfl⟩))
    (fun os started H enc _ => lifted os started H enc)
/-- THE STATEMENT: the tied card. -/
theorem proved : Rows.ConfigReadsCardSaid :=
  Claim7.holds_tied_plain_at .later [] [.handle] true (true, "3d922964ccc56c03152f0a58f97dfad90ce0754b08b579d451a782b1ee2f0142") true
    over (fun _ h => by cases h) (by kernel_rfl) (fun _ h => by cases h) configReads_row_tie rfl ⟨rfl, rfl⟩ (by kernel_rfl) rfl
    (fun f fn hf hfn => by
      obtain rfl : f = 4 := Option.some.inj ((show Tryd.prog.funcNamed "trunnion/trunnionlaw14.ConfigReads" = some 4 by kernel_rfl).symm.trans hf) |>.symm
      obtain rfl : fn = Tryd.f4 := (Option.some.inj (Tryd.func4.symm.trans hfn)).symm
      exact ⟨by kernel_rfl, fun j t ht => by
        rw [Tryd.params4] at ht
        have hm : t ∈ [32] := by simpa using Array.mem_of_getElem? ht
        have hall : ([32].all fun u => !Tryd.prog.wantsStandIn u) = true := by kernel_rfl
        exact (show Tryd.prog.wantsStandIn t = false by simpa using List.all_eq_true.1 hall t hm)⟩)
    (by kernel_rfl)
end Go.Proofs.YtogbhgbnminpdaaDoor.configReads
