/-
  The law's Lent: a configuration in memory of its own, one more behind each list.
-/
import Derived.Test.YtogbhgbnminpdaaDoorJnPlnAo
import Derived.Test.YtogbhgbnminpdaaDoorJnRdFg
import Derived.Test.YtogbhgbnminpdaaDoorJnCfgSt
set_option linter.unusedVariables false
set_option maxRecDepth 100000
set_option linter.unusedVariables false
namespace Go.Proofs.YtogbhgbnminpdaaDoor.Pck
open Go.Proofs.YtogbhgbnminpdaaDoor Go.Proofs.YtogbhgbnminpdaaDoor.Ser Go.Proofs.YtogbhgbnminpdaaDoor.Img Go.Proofs.YtogbhgbnminpdaaDoor.Cfg
open Go.ChangeShapes Go.WideShapes Go.ChangeAt Go.RowKit
set_option linter.unusedVariables false
def stP : List Value := [.string ⟨#[]⟩, .int .i64 (-71), .int .i64 0]
def stC : List Value := [.int .i64 (-71), .int .i64 0, .int .i64 0, .int .i64 0, .int .i64 0]
def stW : List Value := [.int .i64 (-71), .int .i64 0, .int .i64 0]
/-- A row of the call's own, one more behind it. -/
structure Fu (E : TypeId) (st : Nat) (w : World) (B g k : Nat) (vs : List (List Value)) (x : List Value) : Prop where
  own : OwnS E st w B (.slice (some ⟨g, 0, none⟩) (vs.length + 1) k) (vs ++ [x])
  cap : vs.length + 1 ≤ k
section
variable {E : TypeId} {st : Nat} {w w' : World} {B B' g k hb : Nat} {vs : List (List Value)} {x : List Value}
theorem Fu.lo (F : Fu E st w B g k vs x) : B ≤ g := (F.own.lt g rfl).1
theorem Fu.lt (F : Fu E st w B g k vs x) : g < w.heap.size := (F.own.lt g rfl).2
theorem Fu.oth (F : Fu E st w B g k vs x) (h : Oth hb w w') (hg : g ≠ hb) : Fu E st w' B g k vs x :=
  ⟨ownS_kept F.own fun j hj => by
    have e : g = j := by injection hj
    subst e; exact h.block g F.lt hg, F.cap⟩
theorem Fu.mono (F : Fu E st w B g k vs x) (hB : B' ≤ B) : Fu E st w B' g k vs x := ⟨ownS_mono F.own hB, F.cap⟩
theorem Fu.lie (F : Fu E st w B g k vs x) (he : Even st vs) (hx : Even st [x]) : LieS st w w.heap.size (some ⟨g, 0, none⟩) (vs.length + 1) k (vs ++ [x]) := by
  obtain ⟨p, c, e, -, L⟩ := ownS_lie F.own (he.app hx)
  have hl : (vs ++ [x]).length = vs.length + 1 := by simp
  rw [hl] at e L
  injection e with e1 e2 e3
  subst e1 e3
  exact L
theorem ownS_some {v : Value} (h : OwnS E st w B v (vs ++ [x])) : ∃ g k, v = .slice (some ⟨g, 0, none⟩) (vs.length + 1) k ∧ Fu E st w B g k vs x := by
  obtain ⟨p, c, e, hp, hc, -⟩ := ownS_form h
  rcases h.2 with ⟨e2, h0⟩ | ⟨g, cap, cu, e2, -⟩
  · simp at h0
  · have hl : (vs ++ [x]).length = vs.length + 1 := by simp
    rw [hl] at e2 hc
    refine ⟨g, cap, e2, ⟨by rw [← e2]; exact h, ?_⟩⟩
    rw [e] at e2
    injection e2 with _ _ e3
    subst e3
    exact hc
end
abbrev boxL (c : Cf) (v1 v2 v3 : Value) : Array Value := #[.int .i64 c.pages, .int .i64 c.major, .int .i64 c.switch, v1, v2, v3]
set_option maxHeartbeats 8000000 in
theorem lent_says {W : World} {c : Cf} {p1 : Option Addr} {c1 : Nat} {p2 : Option Addr} {c2 : Nat} {p3 : Option Addr} {c3 : Nat} (X : Cx W W.heap.size c p1 c1 p2 c2 p3 c3) (hl : c.parts.length ≤ 20 ∧ c.chans.length ≤ 40 ∧ c.wins.length ≤ 60) :
    Calls Tryd.prog 7 #[cfV c p1 c1 p2 c2 p3 c3] W fun e w' => ∃ g1 k1 g2 k2 g3 k3, e = .returned (cfV c (some ⟨g1, 0, none⟩) k1 (some ⟨g2, 0, none⟩) k2 (some ⟨g3, 0, none⟩) k3) ∧ Below W.heap.size W w' ∧
      Fu 47 3 w' W.heap.size g1 k1 (c.parts.map ptC) stP ∧ Fu 49 5 w' W.heap.size g2 k2 (c.chans.map chC) stC ∧ Fu 51 3 w' W.heap.size g3 k3 (c.wins.map wnC) stW := by
  obtain ⟨r, hr⟩ : ∃ r : Ending → World → Prop, r = fun e w' => ∃ g1 k1 g2 k2 g3 k3, e = .returned (cfV c (some ⟨g1, 0, none⟩) k1 (some ⟨g2, 0, none⟩) k2 (some ⟨g3, 0, none⟩) k3) ∧ Below W.heap.size W w' ∧
      Fu 47 3 w' W.heap.size g1 k1 (c.parts.map ptC) stP ∧ Fu 49 5 w' W.heap.size g2 k2 (c.chans.map chC) stC ∧ Fu 51 3 w' W.heap.size g3 k3 (c.wins.map wnC) stW := ⟨_, rfl⟩
  rw [← hr]
  obtain ⟨h, hhz⟩ : ∃ h, W.heap.size = h := ⟨_, rfl⟩
  obtain ⟨w0, hw0⟩ : ∃ w0, w0 = W.alloc (.cells (boxL c (.slice p1 c.parts.length c1) (.slice p2 c.chans.length c2) (.slice p3 c.wins.length c3)) 26) := ⟨_, rfl⟩
  have hg0 : w0.heap.size = h + 1 := by rw [hw0, ← hhz]; simp
  obtain ⟨w1, hw1⟩ : ∃ w1, w1 = w0.alloc (.cells #[.int .i64 0, .int .i64 0, .int .i64 0, .slice none 0 0, .slice none 0 0, .slice none 0 0] 26) := ⟨_, rfl⟩
  have hg1 : w1.heap.size = h + 2 := by rw [hw1]; simp [hg0]
  have b0 : Below h W w0 := by rw [hw0]; exact (Below.refl _ _).alloc (Nat.le_of_eq hhz.symm) _
  have b01 : Below w0.heap.size w0 w1 := by rw [hw1]; exact below_alloc _ _
  have b1 := Lib.hid (b0.trans (b01.mono (by omega)))
  have hd1 : w1.heap[h]? = some (.cells (boxL c (.slice p1 c.parts.length c1) (.slice p2 c.chans.length c2) (.slice p3 c.wins.length c3)) 26) := by rw [b01.block h (by omega), hw0, ← hhz]; exact heap_alloc_new _ _
  have rd1 : w1.heap[h + 1]? = some (.cells #[.int .i64 0, .int .i64 0, .int .i64 0, .slice none 0 0, .slice none 0 0, .slice none 0 0] 26) := by rw [hw1, ← hg0]; exact heap_alloc_new _ _
  have HX := Lib.hid (fun (u : World) (hu : Oth h w1 u) => X.kept (b1.out.trans (hu.below (Nat.le_refl _) (by omega))) (Nat.le_of_eq hhz))
  simp only [cfV]
  go_enter Tryd.func7, Tryd.ntmps7
  go_upto_region 1 with fail
  try simp only [hhz]
  try simp only [hg0]
  rw [← hw0]
  try simp only [hg0]
  rw [← hw1]
  clear hw0 hw1 b01 b0
  have hdw1 := hd1
  have OTw1 := Oth.refl h w1
  have SZw1 : h + 2 ≤ w1.heap.size := by omega
  have sz1 := Lib.hid hg1
  clear hg1 hg0 hd1
  -- stage 1
  have hm := Lib.hid (show (c.parts.map ptC).length = c.parts.length from List.length_map _)
  have hnil := Lib.hid ((HX.out _ OTw1).L1.nil)
  have hsz := Lib.hid (show ([] : List (List Value)).length + c.parts.length ≤ 1000000 by have := hl.1; show 0 + _ ≤ _; omega)
  have hsz2 := Lib.hid (show ([] ++ c.parts.map ptC).length + 1 ≤ 1000000 by rw [List.nil_append, hm.out]; have := hl.1; omega)
  have hml : (c.parts.length : Int) ≤ 100 := by have := hl.1; omega
  have hs := Lib.hid (fun (u : World) (hu : Below w1.heap.size w1 u) => (⟨hu.size, by rw [World.cell?_of_block (hu.block h (by omega)), cell_of_row _ _ 3 _ _ _ hdw1]; rfl, by simp [World.frozen?, hu.block h (by omega), hdw1], ((HX.out _ (OTw1.trans (oth_below hu))).L1).src (by decide) (even_pt _)⟩ :
    w1.heap.size ≤ u.heap.size ∧ u.cell? ⟨h, 3, none⟩ = some (.slice p1 (c.parts.length) c1) ∧ u.frozen? ⟨h, 3, none⟩ = false ∧ SrcS 3 u p1 (c.parts.map ptC)))
  have pa := Lib.hid ((Below.refl w1.heap.size w1).drew)
  have pb := Lib.hid ((below_alloc w1 (.cells #[.string ⟨#[]⟩, .int .i64 (-71), .int .i64 0] 47)).drew)
  have pc := Lib.hid (((Below.refl w1.heap.size w1).drew).alloc (by show w1.heap.size ≤ w1.heap.size; omega) (.cells #[.string ⟨#[]⟩, .int .i64 (-71), .int .i64 0] 47))
  obtain ⟨-, za, fa, -⟩ := hs.out _ pa.out
  obtain ⟨-, zb, fb, -⟩ := hs.out _ pb.out
  obtain ⟨-, zc, fc, -⟩ := hs.out _ pc.out
  have hin := Lib.hid (fun (w5 : World) (g k : Nat) (F : Fu 47 3 w5 w1.heap.size g k (c.parts.map ptC) stP) (B : Below w1.heap.size w1 w5) => (by
    have hb5 := (B.block h (by omega)).trans hdw1
    have hgl := F.lo
    exact ⟨F.oth (oth_set h w5 3 _) (by omega), by rw [Cfg.setCell_row hb5]; rfl, (oth_below B).trans (oth_set h w5 3 _)⟩ :
    Fu 47 3 (w5.setCell ⟨h, 3, none⟩ (.slice (some ⟨g, 0, none⟩) (c.parts.length) k)) w1.heap.size g k (c.parts.map ptC) stP ∧ (w5.setCell ⟨h, 3, none⟩ (.slice (some ⟨g, 0, none⟩) (c.parts.length) k)).heap[h]? = some (.cells (boxL c (.slice (some ⟨g, 0, none⟩) c.parts.length k) (.slice p2 c.chans.length c2) (.slice p3 c.wins.length c3)) 26) ∧ Oth h w1 (w5.setCell ⟨h, 3, none⟩ (.slice (some ⟨g, 0, none⟩) (c.parts.length) k))))
  go_upto_region 1 with fail
  go_cut [] from 40 (fun wx => ∃ g k, Fu 47 3 wx w1.heap.size g k (c.parts.map ptC) stP ∧ wx.heap[h]? = some (.cells (boxL c (.slice (some ⟨g, 0, none⟩) c.parts.length k) (.slice p2 c.chans.length c2) (.slice p3 c.wins.length c3)) 26) ∧ Oth h w1 wx)
  case first =>
    go_region_law (first | (refine step_appS kdP rfl _ _ rfl (by have := B8.out.size; omega) (v1 := .slice p4 (c.parts.length) c4) (R1 := [] ++ c.parts.map ptC) rfl O8.out (p := some ⟨w4.heap.size, 0, none⟩) (m := 1) (c := 1) [[.string ⟨#[]⟩, .int .i64 (-71), .int .i64 0]] (even_pt [⟨⟨#[]⟩, -71, 0⟩]) rfl rfl (fun e => by cases e) S8.out hsz2.out ?_; intro v5 w5 o5 b5 g5 hv5; rw [List.nil_append] at o5; obtain ⟨g, k, e5, F5⟩ := ownS_some o5; rw [hm.out] at e5; subst e5; have FF := Lib.hid F5; have hcap := F5.cap; rw [hm.out] at hcap; have hcI : (c.parts.length : Int) ≤ (k : Int) := (by omega); obtain ⟨-, z9, f9, -⟩ := hs.out _ (B8.out.trans b5); have B9 := Lib.hid (B8.out.trans b5); clear o5 b5 g5 hv5 F5) | (refine step_appS kdP rfl _ _ rfl (by have := B8.out.size; omega) (v1 := .slice p4 (c.parts.length) c4) (R1 := [] ++ c.parts.map ptC) rfl O8.out (p := some ⟨w1.heap.size, 0, none⟩) (m := 1) (c := 1) [[.string ⟨#[]⟩, .int .i64 (-71), .int .i64 0]] (even_pt [⟨⟨#[]⟩, -71, 0⟩]) rfl rfl (fun e => by cases e) S8.out hsz2.out ?_; intro v5 w5 o5 b5 g5 hv5; rw [List.nil_append] at o5; obtain ⟨g, k, e5, F5⟩ := ownS_some o5; rw [hm.out] at e5; subst e5; have FF := Lib.hid F5; have hcap := F5.cap; rw [hm.out] at hcap; have hcI : (c.parts.length : Int) ≤ (k : Int) := (by omega); obtain ⟨-, z9, f9, -⟩ := hs.out _ (B8.out.trans b5); have B9 := Lib.hid (B8.out.trans b5); clear o5 b5 g5 hv5 F5) | (refine step_appS kdP rfl _ _ rfl (hs.out _ pa.out).1 (v1 := .slice none 0 0) (R1 := []) rfl (ownS_nil _ _ _ _) (p := p1) (m := c.parts.length) (c := c1) (c.parts.map ptC) (even_pt _) rfl hm.out hnil.out (hs.out _ pa.out).2.2.2 hsz.out ?_; intro v4 w4 o4 b4 g4 hv4; have zw4 := (hs.out w4 (pa.out.trans b4)).2.1; have B8 := Lib.hid (pa.out.trans b4|>.alloc (by have := (pa.out.trans b4).size; omega) (.cells #[.string ⟨#[]⟩, .int .i64 (-71), .int .i64 0] 47)); have O8 := Lib.hid (ownS_below o4 (below_alloc w4 (.cells #[.string ⟨#[]⟩, .int .i64 (-71), .int .i64 0] 47))); have S8 := Lib.hid (src_new w4 3 [.string ⟨#[]⟩, .int .i64 (-71), .int .i64 0] 47); obtain ⟨-, z8, f8, -⟩ := hs.out _ B8.out; obtain ⟨p4, c4, e4, -, -, -⟩ := ownS_form o4; rw [List.nil_append, hm.out] at e4; subst e4; clear o4 b4 g4 hv4) | (refine step_appS kdP rfl _ _ rfl (hs.out _ pb.out).1 (v1 := .slice none 0 0) (R1 := []) rfl (ownS_nil _ _ _ _) (p := p1) (m := c.parts.length) (c := c1) (c.parts.map ptC) (even_pt _) rfl hm.out hnil.out (hs.out _ pb.out).2.2.2 hsz.out ?_; intro v4 w4 o4 b4 g4 hv4; have B8 := Lib.hid (pb.out.trans b4); have O8 := Lib.hid o4; have S8 := Lib.hid ((src_new w1 3 [.string ⟨#[]⟩, .int .i64 (-71), .int .i64 0] 47 : SrcS 3 (w1.alloc (.cells #[.string ⟨#[]⟩, .int .i64 (-71), .int .i64 0] 47)) (some ⟨w1.heap.size, 0, none⟩) [[.string ⟨#[]⟩, .int .i64 (-71), .int .i64 0]]).kept (g := w1.heap.size) (fun ad e => by injection e with e; rw [← e]) (g4.block w1.heap.size (by simp) (fun e => by cases e))); obtain ⟨-, z8, f8, -⟩ := hs.out _ B8.out; obtain ⟨p4, c4, e4, -, -, -⟩ := ownS_form o4; rw [List.nil_append, hm.out] at e4; subst e4; clear o4 b4 g4 hv4) | (refine step_appS kdP rfl _ _ rfl (hs.out _ pc.out).1 (v1 := .slice none 0 0) (R1 := []) rfl (ownS_nil _ _ _ _) (p := p1) (m := c.parts.length) (c := c1) (c.parts.map ptC) (even_pt _) rfl hm.out hnil.out (hs.out _ pc.out).2.2.2 hsz.out ?_; intro v4 w4 o4 b4 g4 hv4; have B8 := Lib.hid (pc.out.trans b4); have O8 := Lib.hid o4; have S8 := Lib.hid ((src_new w1.drew 3 [.string ⟨#[]⟩, .int .i64 (-71), .int .i64 0] 47 : SrcS 3 (w1.drew.alloc (.cells #[.string ⟨#[]⟩, .int .i64 (-71), .int .i64 0] 47)) (some ⟨w1.heap.size, 0, none⟩) [[.string ⟨#[]⟩, .int .i64 (-71), .int .i64 0]]).kept (g := w1.heap.size) (fun ad e => by injection e with e; rw [← e]) (g4.block w1.heap.size (by simp) (fun e => by cases e))); obtain ⟨-, z8, f8, -⟩ := hs.out _ B8.out; obtain ⟨p4, c4, e4, -, -, -⟩ := ownS_form o4; rw [List.nil_append, hm.out] at e4; subst e4; clear o4 b4 g4 hv4))
    all_goals
      go_wp2
      go_meet
      case rel => exact ⟨_, _, hin.out _ _ _ FF.out B9.out⟩
  case rest =>
  obtain ⟨g1, k1, F1, hdw2, OT1⟩ := hcut
  refine ‹∀ (a : Act) (w : World), Code.wp _ _ _ a w → _› _ _ ?_
  rename World => w2
  have OTw2 := OTw1.trans OT1
  have SZw2 : h + 2 ≤ w2.heap.size := Nat.le_trans SZw1 OT1.size
  clear hm hnil hsz hsz2 hs pa pb pc za fa zb fb zc fc hin
  -- stage 2
  have hm := Lib.hid (show (c.chans.map chC).length = c.chans.length from List.length_map _)
  have hnil := Lib.hid ((HX.out _ OTw2).L2.nil)
  have hsz := Lib.hid (show ([] : List (List Value)).length + c.chans.length ≤ 1000000 by have := hl.2.1; show 0 + _ ≤ _; omega)
  have hsz2 := Lib.hid (show ([] ++ c.chans.map chC).length + 1 ≤ 1000000 by rw [List.nil_append, hm.out]; have := hl.2.1; omega)
  have hml : (c.chans.length : Int) ≤ 100 := by have := hl.2.1; omega
  have hs := Lib.hid (fun (u : World) (hu : Below w2.heap.size w2 u) => (⟨hu.size, by rw [World.cell?_of_block (hu.block h (by omega)), cell_of_row _ _ 4 _ _ _ hdw2]; rfl, by simp [World.frozen?, hu.block h (by omega), hdw2], ((HX.out _ (OTw2.trans (oth_below hu))).L2).src (by decide) (even_ch _)⟩ :
    w2.heap.size ≤ u.heap.size ∧ u.cell? ⟨h, 4, none⟩ = some (.slice p2 (c.chans.length) c2) ∧ u.frozen? ⟨h, 4, none⟩ = false ∧ SrcS 5 u p2 (c.chans.map chC)))
  have pa := Lib.hid ((Below.refl w2.heap.size w2).drew)
  have pb := Lib.hid ((below_alloc w2 (.cells #[.int .i64 (-71), .int .i64 0, .int .i64 0, .int .i64 0, .int .i64 0] 49)).drew)
  have pc := Lib.hid (((Below.refl w2.heap.size w2).drew).alloc (by show w2.heap.size ≤ w2.heap.size; omega) (.cells #[.int .i64 (-71), .int .i64 0, .int .i64 0, .int .i64 0, .int .i64 0] 49))
  obtain ⟨-, za, fa, -⟩ := hs.out _ pa.out
  obtain ⟨-, zb, fb, -⟩ := hs.out _ pb.out
  obtain ⟨-, zc, fc, -⟩ := hs.out _ pc.out
  have hin := Lib.hid (fun (w5 : World) (g k : Nat) (F : Fu 49 5 w5 w2.heap.size g k (c.chans.map chC) stC) (B : Below w2.heap.size w2 w5) => (by
    have hb5 := (B.block h (by omega)).trans hdw2
    have hgl := F.lo
    exact ⟨F.oth (oth_set h w5 4 _) (by omega), by rw [Cfg.setCell_row hb5]; rfl, (oth_below B).trans (oth_set h w5 4 _)⟩ :
    Fu 49 5 (w5.setCell ⟨h, 4, none⟩ (.slice (some ⟨g, 0, none⟩) (c.chans.length) k)) w2.heap.size g k (c.chans.map chC) stC ∧ (w5.setCell ⟨h, 4, none⟩ (.slice (some ⟨g, 0, none⟩) (c.chans.length) k)).heap[h]? = some (.cells (boxL c (.slice (some ⟨g1, 0, none⟩) c.parts.length k1) (.slice (some ⟨g, 0, none⟩) c.chans.length k) (.slice p3 c.wins.length c3)) 26) ∧ Oth h w2 (w5.setCell ⟨h, 4, none⟩ (.slice (some ⟨g, 0, none⟩) (c.chans.length) k))))
  go_upto_region 2 with fail
  go_cut [] from 40 (fun wx => ∃ g k, Fu 49 5 wx w2.heap.size g k (c.chans.map chC) stC ∧ wx.heap[h]? = some (.cells (boxL c (.slice (some ⟨g1, 0, none⟩) c.parts.length k1) (.slice (some ⟨g, 0, none⟩) c.chans.length k) (.slice p3 c.wins.length c3)) 26) ∧ Oth h w2 wx)
  case first =>
    go_region_law (first | (refine step_appS kdC rfl _ _ rfl (by have := B8.out.size; omega) (v1 := .slice p4 (c.chans.length) c4) (R1 := [] ++ c.chans.map chC) rfl O8.out (p := some ⟨w4.heap.size, 0, none⟩) (m := 1) (c := 1) [[.int .i64 (-71), .int .i64 0, .int .i64 0, .int .i64 0, .int .i64 0]] (even_ch [⟨-71, 0, 0, 0, 0⟩]) rfl rfl (fun e => by cases e) S8.out hsz2.out ?_; intro v5 w5 o5 b5 g5 hv5; rw [List.nil_append] at o5; obtain ⟨g, k, e5, F5⟩ := ownS_some o5; rw [hm.out] at e5; subst e5; have FF := Lib.hid F5; have hcap := F5.cap; rw [hm.out] at hcap; have hcI : (c.chans.length : Int) ≤ (k : Int) := (by omega); obtain ⟨-, z9, f9, -⟩ := hs.out _ (B8.out.trans b5); have B9 := Lib.hid (B8.out.trans b5); clear o5 b5 g5 hv5 F5) | (refine step_appS kdC rfl _ _ rfl (by have := B8.out.size; omega) (v1 := .slice p4 (c.chans.length) c4) (R1 := [] ++ c.chans.map chC) rfl O8.out (p := some ⟨w2.heap.size, 0, none⟩) (m := 1) (c := 1) [[.int .i64 (-71), .int .i64 0, .int .i64 0, .int .i64 0, .int .i64 0]] (even_ch [⟨-71, 0, 0, 0, 0⟩]) rfl rfl (fun e => by cases e) S8.out hsz2.out ?_; intro v5 w5 o5 b5 g5 hv5; rw [List.nil_append] at o5; obtain ⟨g, k, e5, F5⟩ := ownS_some o5; rw [hm.out] at e5; subst e5; have FF := Lib.hid F5; have hcap := F5.cap; rw [hm.out] at hcap; have hcI : (c.chans.length : Int) ≤ (k : Int) := (by omega); obtain ⟨-, z9, f9, -⟩ := hs.out _ (B8.out.trans b5); have B9 := Lib.hid (B8.out.trans b5); clear o5 b5 g5 hv5 F5) | (refine step_appS kdC rfl _ _ rfl (hs.out _ pa.out).1 (v1 := .slice none 0 0) (R1 := []) rfl (ownS_nil _ _ _ _) (p := p2) (m := c.chans.length) (c := c2) (c.chans.map chC) (even_ch _) rfl hm.out hnil.out (hs.out _ pa.out).2.2.2 hsz.out ?_; intro v4 w4 o4 b4 g4 hv4; have zw4 := (hs.out w4 (pa.out.trans b4)).2.1; have B8 := Lib.hid (pa.out.trans b4|>.alloc (by have := (pa.out.trans b4).size; omega) (.cells #[.int .i64 (-71), .int .i64 0, .int .i64 0, .int .i64 0, .int .i64 0] 49)); have O8 := Lib.hid (ownS_below o4 (below_alloc w4 (.cells #[.int .i64 (-71), .int .i64 0, .int .i64 0, .int .i64 0, .int .i64 0] 49))); have S8 := Lib.hid (src_new w4 5 [.int .i64 (-71), .int .i64 0, .int .i64 0, .int .i64 0, .int .i64 0] 49); obtain ⟨-, z8, f8, -⟩ := hs.out _ B8.out; obtain ⟨p4, c4, e4, -, -, -⟩ := ownS_form o4; rw [List.nil_append, hm.out] at e4; subst e4; clear o4 b4 g4 hv4) | (refine step_appS kdC rfl _ _ rfl (hs.out _ pb.out).1 (v1 := .slice none 0 0) (R1 := []) rfl (ownS_nil _ _ _ _) (p := p2) (m := c.chans.length) (c := c2) (c.chans.map chC) (even_ch _) rfl hm.out hnil.out (hs.out _ pb.out).2.2.2 hsz.out ?_; intro v4 w4 o4 b4 g4 hv4; have B8 := Lib.hid (pb.out.trans b4); have O8 := Lib.hid o4; have S8 := Lib.hid ((src_new w2 5 [.int .i64 (-71), .int .i64 0, .int .i64 0, .int .i64 0, .int .i64 0] 49 : SrcS 5 (w2.alloc (.cells #[.int .i64 (-71), .int .i64 0, .int .i64 0, .int .i64 0, .int .i64 0] 49)) (some ⟨w2.heap.size, 0, none⟩) [[.int .i64 (-71), .int .i64 0, .int .i64 0, .int .i64 0, .int .i64 0]]).kept (g := w2.heap.size) (fun ad e => by injection e with e; rw [← e]) (g4.block w2.heap.size (by simp) (fun e => by cases e))); obtain ⟨-, z8, f8, -⟩ := hs.out _ B8.out; obtain ⟨p4, c4, e4, -, -, -⟩ := ownS_form o4; rw [List.nil_append, hm.out] at e4; subst e4; clear o4 b4 g4 hv4) | (refine step_appS kdC rfl _ _ rfl (hs.out _ pc.out).1 (v1 := .slice none 0 0) (R1 := []) rfl (ownS_nil _ _ _ _) (p := p2) (m := c.chans.length) (c := c2) (c.chans.map chC) (even_ch _) rfl hm.out hnil.out (hs.out _ pc.out).2.2.2 hsz.out ?_; intro v4 w4 o4 b4 g4 hv4; have B8 := Lib.hid (pc.out.trans b4); have O8 := Lib.hid o4; have S8 := Lib.hid ((src_new w2.drew 5 [.int .i64 (-71), .int .i64 0, .int .i64 0, .int .i64 0, .int .i64 0] 49 : SrcS 5 (w2.drew.alloc (.cells #[.int .i64 (-71), .int .i64 0, .int .i64 0, .int .i64 0, .int .i64 0] 49)) (some ⟨w2.heap.size, 0, none⟩) [[.int .i64 (-71), .int .i64 0, .int .i64 0, .int .i64 0, .int .i64 0]]).kept (g := w2.heap.size) (fun ad e => by injection e with e; rw [← e]) (g4.block w2.heap.size (by simp) (fun e => by cases e))); obtain ⟨-, z8, f8, -⟩ := hs.out _ B8.out; obtain ⟨p4, c4, e4, -, -, -⟩ := ownS_form o4; rw [List.nil_append, hm.out] at e4; subst e4; clear o4 b4 g4 hv4))
    all_goals
      go_wp2
      go_meet
      case rel => exact ⟨_, _, hin.out _ _ _ FF.out B9.out⟩
  case rest =>
  obtain ⟨g2, k2, F2, hdw3, OT2⟩ := hcut
  refine ‹∀ (a : Act) (w : World), Code.wp _ _ _ a w → _› _ _ ?_
  rename World => w3
  have OTw3 := OTw2.trans OT2
  have SZw3 : h + 2 ≤ w3.heap.size := Nat.le_trans SZw2 OT2.size
  clear hm hnil hsz hsz2 hs pa pb pc za fa zb fb zc fc hin
  have F1b := F1.oth OT2 (by have := F1.lo; omega)
  -- stage 3
  have hm := Lib.hid (show (c.wins.map wnC).length = c.wins.length from List.length_map _)
  have hnil := Lib.hid ((HX.out _ OTw3).L3.nil)
  have hsz := Lib.hid (show ([] : List (List Value)).length + c.wins.length ≤ 1000000 by have := hl.2.2; show 0 + _ ≤ _; omega)
  have hsz2 := Lib.hid (show ([] ++ c.wins.map wnC).length + 1 ≤ 1000000 by rw [List.nil_append, hm.out]; have := hl.2.2; omega)
  have hml : (c.wins.length : Int) ≤ 100 := by have := hl.2.2; omega
  have hs := Lib.hid (fun (u : World) (hu : Below w3.heap.size w3 u) => (⟨hu.size, by rw [World.cell?_of_block (hu.block h (by omega)), cell_of_row _ _ 5 _ _ _ hdw3]; rfl, by simp [World.frozen?, hu.block h (by omega), hdw3], ((HX.out _ (OTw3.trans (oth_below hu))).L3).src (by decide) (even_wn _)⟩ :
    w3.heap.size ≤ u.heap.size ∧ u.cell? ⟨h, 5, none⟩ = some (.slice p3 (c.wins.length) c3) ∧ u.frozen? ⟨h, 5, none⟩ = false ∧ SrcS 3 u p3 (c.wins.map wnC)))
  have pa := Lib.hid ((Below.refl w3.heap.size w3).drew)
  have pb := Lib.hid ((below_alloc w3 (.cells #[.int .i64 (-71), .int .i64 0, .int .i64 0] 51)).drew)
  have pc := Lib.hid (((Below.refl w3.heap.size w3).drew).alloc (by show w3.heap.size ≤ w3.heap.size; omega) (.cells #[.int .i64 (-71), .int .i64 0, .int .i64 0] 51))
  obtain ⟨-, za, fa, -⟩ := hs.out _ pa.out
  obtain ⟨-, zb, fb, -⟩ := hs.out _ pb.out
  obtain ⟨-, zc, fc, -⟩ := hs.out _ pc.out
  have hin := Lib.hid (fun (w5 : World) (g k : Nat) (F : Fu 51 3 w5 w3.heap.size g k (c.wins.map wnC) stW) (B : Below w3.heap.size w3 w5) => (by
    have hb5 := (B.block h (by omega)).trans hdw3
    have hgl := F.lo
    exact ⟨F.oth (oth_set h w5 5 _) (by omega), by rw [Cfg.setCell_row hb5]; rfl, (oth_below B).trans (oth_set h w5 5 _)⟩ :
    Fu 51 3 (w5.setCell ⟨h, 5, none⟩ (.slice (some ⟨g, 0, none⟩) (c.wins.length) k)) w3.heap.size g k (c.wins.map wnC) stW ∧ (w5.setCell ⟨h, 5, none⟩ (.slice (some ⟨g, 0, none⟩) (c.wins.length) k)).heap[h]? = some (.cells (boxL c (.slice (some ⟨g1, 0, none⟩) c.parts.length k1) (.slice (some ⟨g2, 0, none⟩) c.chans.length k2) (.slice (some ⟨g, 0, none⟩) c.wins.length k)) 26) ∧ Oth h w3 (w5.setCell ⟨h, 5, none⟩ (.slice (some ⟨g, 0, none⟩) (c.wins.length) k))))
  go_upto_region 3 with fail
  go_cut [] from 40 (fun wx => ∃ g k, Fu 51 3 wx w3.heap.size g k (c.wins.map wnC) stW ∧ wx.heap[h]? = some (.cells (boxL c (.slice (some ⟨g1, 0, none⟩) c.parts.length k1) (.slice (some ⟨g2, 0, none⟩) c.chans.length k2) (.slice (some ⟨g, 0, none⟩) c.wins.length k)) 26) ∧ Oth h w3 wx)
  case first =>
    go_region_law (first | (refine step_appS kdW rfl _ _ rfl (by have := B8.out.size; omega) (v1 := .slice p4 (c.wins.length) c4) (R1 := [] ++ c.wins.map wnC) rfl O8.out (p := some ⟨w4.heap.size, 0, none⟩) (m := 1) (c := 1) [[.int .i64 (-71), .int .i64 0, .int .i64 0]] (even_wn [⟨-71, 0, 0⟩]) rfl rfl (fun e => by cases e) S8.out hsz2.out ?_; intro v5 w5 o5 b5 g5 hv5; rw [List.nil_append] at o5; obtain ⟨g, k, e5, F5⟩ := ownS_some o5; rw [hm.out] at e5; subst e5; have FF := Lib.hid F5; have hcap := F5.cap; rw [hm.out] at hcap; have hcI : (c.wins.length : Int) ≤ (k : Int) := (by omega); obtain ⟨-, z9, f9, -⟩ := hs.out _ (B8.out.trans b5); have B9 := Lib.hid (B8.out.trans b5); clear o5 b5 g5 hv5 F5) | (refine step_appS kdW rfl _ _ rfl (by have := B8.out.size; omega) (v1 := .slice p4 (c.wins.length) c4) (R1 := [] ++ c.wins.map wnC) rfl O8.out (p := some ⟨w3.heap.size, 0, none⟩) (m := 1) (c := 1) [[.int .i64 (-71), .int .i64 0, .int .i64 0]] (even_wn [⟨-71, 0, 0⟩]) rfl rfl (fun e => by cases e) S8.out hsz2.out ?_; intro v5 w5 o5 b5 g5 hv5; rw [List.nil_append] at o5; obtain ⟨g, k, e5, F5⟩ := ownS_some o5; rw [hm.out] at e5; subst e5; have FF := Lib.hid F5; have hcap := F5.cap; rw [hm.out] at hcap; have hcI : (c.wins.length : Int) ≤ (k : Int) := (by omega); obtain ⟨-, z9, f9, -⟩ := hs.out _ (B8.out.trans b5); have B9 := Lib.hid (B8.out.trans b5); clear o5 b5 g5 hv5 F5) | (refine step_appS kdW rfl _ _ rfl (hs.out _ pa.out).1 (v1 := .slice none 0 0) (R1 := []) rfl (ownS_nil _ _ _ _) (p := p3) (m := c.wins.length) (c := c3) (c.wins.map wnC) (even_wn _) rfl hm.out hnil.out (hs.out _ pa.out).2.2.2 hsz.out ?_; intro v4 w4 o4 b4 g4 hv4; have zw4 := (hs.out w4 (pa.out.trans b4)).2.1; have B8 := Lib.hid (pa.out.trans b4|>.alloc (by have := (pa.out.trans b4).size; omega) (.cells #[.int .i64 (-71), .int .i64 0, .int .i64 0] 51)); have O8 := Lib.hid (ownS_below o4 (below_alloc w4 (.cells #[.int .i64 (-71), .int .i64 0, .int .i64 0] 51))); have S8 := Lib.hid (src_new w4 3 [.int .i64 (-71), .int .i64 0, .int .i64 0] 51); obtain ⟨-, z8, f8, -⟩ := hs.out _ B8.out; obtain ⟨p4, c4, e4, -, -, -⟩ := ownS_form o4; rw [List.nil_append, hm.out] at e4; subst e4; clear o4 b4 g4 hv4) | (refine step_appS kdW rfl _ _ rfl (hs.out _ pb.out).1 (v1 := .slice none 0 0) (R1 := []) rfl (ownS_nil _ _ _ _) (p := p3) (m := c.wins.length) (c := c3) (c.wins.map wnC) (even_wn _) rfl hm.out hnil.out (hs.out _ pb.out).2.2.2 hsz.out ?_; intro v4 w4 o4 b4 g4 hv4; have B8 := Lib.hid (pb.out.trans b4); have O8 := Lib.hid o4; have S8 := Lib.hid ((src_new w3 3 [.int .i64 (-71), .int .i64 0, .int .i64 0] 51 : SrcS 3 (w3.alloc (.cells #[.int .i64 (-71), .int .i64 0, .int .i64 0] 51)) (some ⟨w3.heap.size, 0, none⟩) [[.int .i64 (-71), .int .i64 0, .int .i64 0]]).kept (g := w3.heap.size) (fun ad e => by injection e with e; rw [← e]) (g4.block w3.heap.size (by simp) (fun e => by cases e))); obtain ⟨-, z8, f8, -⟩ := hs.out _ B8.out; obtain ⟨p4, c4, e4, -, -, -⟩ := ownS_form o4; rw [List.nil_append, hm.out] at e4; subst e4; clear o4 b4 g4 hv4) | (refine step_appS kdW rfl _ _ rfl (hs.out _ pc.out).1 (v1 := .slice none 0 0) (R1 := []) rfl (ownS_nil _ _ _ _) (p := p3) (m := c.wins.length) (c := c3) (c.wins.map wnC) (even_wn _) rfl hm.out hnil.out (hs.out _ pc.out).2.2.2 hsz.out ?_; intro v4 w4 o4 b4 g4 hv4; have B8 := Lib.hid (pc.out.trans b4); have O8 := Lib.hid o4; have S8 := Lib.hid ((src_new w3.drew 3 [.int .i64 (-71), .int .i64 0, .int .i64 0] 51 : SrcS 3 (w3.drew.alloc (.cells #[.int .i64 (-71), .int .i64 0, .int .i64 0] 51)) (some ⟨w3.heap.size, 0, none⟩) [[.int .i64 (-71), .int .i64 0, .int .i64 0]]).kept (g := w3.heap.size) (fun ad e => by injection e with e; rw [← e]) (g4.block w3.heap.size (by simp) (fun e => by cases e))); obtain ⟨-, z8, f8, -⟩ := hs.out _ B8.out; obtain ⟨p4, c4, e4, -, -, -⟩ := ownS_form o4; rw [List.nil_append, hm.out] at e4; subst e4; clear o4 b4 g4 hv4))
    all_goals
      go_wp2
      go_meet
      case rel => exact ⟨_, _, hin.out _ _ _ FF.out B9.out⟩
  case rest =>
  obtain ⟨g3, k3, F3, hdw4, OT3⟩ := hcut
  refine ‹∀ (a : Act) (w : World), Code.wp _ _ _ a w → _› _ _ ?_
  rename World => w4
  have OTw4 := OTw3.trans OT3
  have SZw4 : h + 2 ≤ w4.heap.size := Nat.le_trans SZw3 OT3.size
  clear hm hnil hsz hsz2 hs pa pb pc za fa zb fb zc fc hin
  have F1c := F1b.oth OT3 (by have := F1.lo; omega)
  have F2c := F2.oth OT3 (by have := F2.lo; omega)
  have rdw4 := (OTw4.block (h + 1) (by omega) (by omega)).trans rd1
  have x0 : w4.cell? ⟨h, 0, none⟩ = some (.int .i64 c.pages) := by rw [cell_of_row _ _ 0 _ _ _ hdw4]; rfl
  have x1 : w4.cell? ⟨h, 1, none⟩ = some (.int .i64 c.major) := by rw [cell_of_row _ _ 1 _ _ _ hdw4]; rfl
  have x2 : w4.cell? ⟨h, 2, none⟩ = some (.int .i64 c.switch) := by rw [cell_of_row _ _ 2 _ _ _ hdw4]; rfl
  have x3 : w4.cell? ⟨h, 3, none⟩ = some (.slice (some ⟨g1, 0, none⟩) c.parts.length k1) := by rw [cell_of_row _ _ 3 _ _ _ hdw4]; rfl
  have x4 : w4.cell? ⟨h, 4, none⟩ = some (.slice (some ⟨g2, 0, none⟩) c.chans.length k2) := by rw [cell_of_row _ _ 4 _ _ _ hdw4]; rfl
  have x5 : w4.cell? ⟨h, 5, none⟩ = some (.slice (some ⟨g3, 0, none⟩) c.wins.length k3) := by rw [cell_of_row _ _ 5 _ _ _ hdw4]; rfl
  have y0 : w4.cell? ⟨h + 1, 0, none⟩ = some (.int .i64 0) := by rw [cell_of_row _ _ 0 _ _ _ rdw4]; rfl
  have y1 : w4.cell? ⟨h + 1, 1, none⟩ = some (.int .i64 0) := by rw [cell_of_row _ _ 1 _ _ _ rdw4]; rfl
  have y2 : w4.cell? ⟨h + 1, 2, none⟩ = some (.int .i64 0) := by rw [cell_of_row _ _ 2 _ _ _ rdw4]; rfl
  have y3 : w4.cell? ⟨h + 1, 3, none⟩ = some (.slice none 0 0) := by rw [cell_of_row _ _ 3 _ _ _ rdw4]; rfl
  have y4 : w4.cell? ⟨h + 1, 4, none⟩ = some (.slice none 0 0) := by rw [cell_of_row _ _ 4 _ _ _ rdw4]; rfl
  have y5 : w4.cell? ⟨h + 1, 5, none⟩ = some (.slice none 0 0) := by rw [cell_of_row _ _ 5 _ _ _ rdw4]; rfl
  have f0 : w4.frozen? ⟨h + 1, 0, none⟩ = false := by simp [World.frozen?, rdw4]
  have f1 : w4.frozen? ⟨h + 1, 1, none⟩ = false := by simp [World.frozen?, rdw4]
  have f2 : w4.frozen? ⟨h + 1, 2, none⟩ = false := by simp [World.frozen?, rdw4]
  have f3 : w4.frozen? ⟨h + 1, 3, none⟩ = false := by simp [World.frozen?, rdw4]
  have f4 : w4.frozen? ⟨h + 1, 4, none⟩ = false := by simp [World.frozen?, rdw4]
  have f5 : w4.frozen? ⟨h + 1, 5, none⟩ = false := by simp [World.frozen?, rdw4]
  replace F1c := Lib.hid F1c
  replace F2c := Lib.hid F2c
  replace F3 := Lib.hid F3
  replace hdw4 := Lib.hid hdw4
  replace rdw4 := Lib.hid rdw4
  have OT := Lib.hid OTw4
  have OT1s := Lib.hid OT1.size
  have OT2s := Lib.hid OT2.size
  clear OTw4 OTw3 OTw2 OTw1 OT1 OT2 OT3 F1 F1b F2 hdw1 hdw2 hdw3 rd1 HX X
  go_wp2
  obtain ⟨w6, hw6⟩ : ∃ w6, w6 = ((((((w4.setCell ⟨h + 1, 0, none⟩ (.int .i64 c.pages)).setCell ⟨h + 1, 1, none⟩ (.int .i64 c.major)).setCell ⟨h + 1, 2, none⟩ (.int .i64 c.switch)).setCell ⟨h + 1, 3, none⟩ (.slice (some ⟨g1, 0, none⟩) c.parts.length k1)).setCell ⟨h + 1, 4, none⟩ (.slice (some ⟨g2, 0, none⟩) c.chans.length k2)).setCell ⟨h + 1, 5, none⟩ (.slice (some ⟨g3, 0, none⟩) c.wins.length k3)) := ⟨_, rfl⟩
  rw [← hw6]
  have hr6 : w6.heap[h + 1]? = some (.cells (boxL c (.slice (some ⟨g1, 0, none⟩) c.parts.length k1) (.slice (some ⟨g2, 0, none⟩) c.chans.length k2) (.slice (some ⟨g3, 0, none⟩) c.wins.length k3)) 26) := by rw [hw6]; exact (Cfg.setCell_row (Cfg.setCell_row (Cfg.setCell_row (Cfg.setCell_row (Cfg.setCell_row (Cfg.setCell_row rdw4.out 0 _) 1 _) 2 _) 3 _) 4 _) 5 _)
  have ot6 : Oth (h + 1) w4 w6 := by rw [hw6]; exact ((((((oth_set (h + 1) w4 0 _).trans (oth_set (h + 1) _ 1 _)).trans (oth_set (h + 1) _ 2 _)).trans (oth_set (h + 1) _ 3 _)).trans (oth_set (h + 1) _ 4 _)).trans (oth_set (h + 1) _ 5 _))
  clear hw6 x0 x1 x2 x3 x4 x5 y0 y1 y2 y3 y4 y5 f0 f1 f2 f3 f4 f5
  have c0 : w6.cell? ⟨h + 1, 0, none⟩ = some (.int .i64 c.pages) := by rw [cell_of_row _ _ 0 _ _ _ hr6]; rfl
  have c1 : w6.cell? ⟨h + 1, 1, none⟩ = some (.int .i64 c.major) := by rw [cell_of_row _ _ 1 _ _ _ hr6]; rfl
  have c2 : w6.cell? ⟨h + 1, 2, none⟩ = some (.int .i64 c.switch) := by rw [cell_of_row _ _ 2 _ _ _ hr6]; rfl
  have c3 : w6.cell? ⟨h + 1, 3, none⟩ = some (.slice (some ⟨g1, 0, none⟩) c.parts.length k1) := by rw [cell_of_row _ _ 3 _ _ _ hr6]; rfl
  have c4 : w6.cell? ⟨h + 1, 4, none⟩ = some (.slice (some ⟨g2, 0, none⟩) c.chans.length k2) := by rw [cell_of_row _ _ 4 _ _ _ hr6]; rfl
  have c5 : w6.cell? ⟨h + 1, 5, none⟩ = some (.slice (some ⟨g3, 0, none⟩) c.wins.length k3) := by rw [cell_of_row _ _ 5 _ _ _ hr6]; rfl
  refine bodyPost_ret (v := cfV c (some ⟨g1, 0, none⟩) k1 (some ⟨g2, 0, none⟩) k2 (some ⟨g3, 0, none⟩) k3) (by simp [results, Tryd.results7, go_sem, c0, c1, c2, c3, c4, c5]) rfl ?_
  rw [hr]
  have l1 := F1c.out.lo
  have l2 := F2c.out.lo
  have l3 := F3.out.lo
  have sw1 := b1.out.size
  have sz1' := sz1.out
  have s12 := OT1s.out
  have s13 := OT2s.out
  have bw4 : Below h W w4 := b1.out.trans (OT.out.below (Nat.le_refl _) (by omega))
  exact ⟨g1, k1, g2, k2, g3, k3, rfl, by rw [hhz]; exact bw4.trans (ot6.below (by omega) (by omega)), (F1c.out.oth ot6 (by omega)).mono (by omega), (F2c.out.oth ot6 (by omega)).mono (by omega), (F3.out.oth ot6 (by omega)).mono (by omega)⟩
end Go.Proofs.YtogbhgbnminpdaaDoor.Pck
