/-
  The reference's Unpack, plainly: what is left to be read; a number that is read.
-/
import Derived.Test.YtogbhgbnminpdaaDoorJnPckRn
import Derived.Test.YtogbhgbnminpdaaDoorJnPckU
import Derived.Test.YtogbhgbnminpdaaDoorJnRdJkl
import Derived.Test.YtogbhgbnminpdaaDoorJnPlnMath
set_option linter.unusedVariables false
set_option maxRecDepth 100000
set_option linter.unusedVariables false
namespace Go.Proofs.YtogbhgbnminpdaaDoor.Pck
open Go.Proofs.YtogbhgbnminpdaaDoor Go.Proofs.YtogbhgbnminpdaaDoor.Ser Go.Proofs.YtogbhgbnminpdaaDoor.Img Go.Proofs.YtogbhgbnminpdaaDoor.Cfg
open Go.ChangeShapes Go.WideShapes Go.ChangeAt Go.RowKit
set_option linter.unusedVariables false
def tW (c : Cf) (k : Nat) : List Int := (c.wins.drop k).flatMap wnL
def tC (c : Cf) (k : Nat) : List Int := (c.chans.drop k).flatMap chL ++ (nums [(c.wins.length : Int)] ++ tW c 0)
def tP (c : Cf) (k : Nat) : List Int := (c.parts.drop k).flatMap ptL ++ (nums [(c.chans.length : Int)] ++ tC c 0)
theorem head_split (c : Cf) : headC c = [84, 82, 67, 49] ++ (nums [c.pages, c.major, c.switch, (c.parts.length : Int)] ++ tP c 0) := by
  unfold headC b5 b4 b3 b2 b1 b0 tP tC tW
  simp only [List.take_length, List.drop_zero, List.append_assoc]
abbrev ptAt (c : Cf) (k : Nat) : Pt := c.parts.getD k ⟨⟨#[]⟩, 0, 0⟩
abbrev chAt (c : Cf) (k : Nat) : Ch := c.chans.getD k ⟨0, 0, 0, 0, 0⟩
abbrev wnAt (c : Cf) (k : Nat) : Wn := c.wins.getD k ⟨0, 0, 0⟩
theorem getD_eq {α : Type} (l : List α) (k : Nat) (d : α) (h : k < l.length) : l.getD k d = l[k] := by simp [List.getD, List.getElem?_eq_getElem h]
theorem tP_succ (c : Cf) (k : Nat) (h : k < c.parts.length) : tP c k = nums [((ptAt c k).name.size : Int), (ptAt c k).pages, (ptAt c k).act] ++ (nameL (ptAt c k).name ++ tP c (k + 1)) := by
  unfold tP
  rw [List.drop_eq_getElem_cons h, List.flatMap_cons]
  simp only [ptAt, getD_eq _ _ _ h, ptL, List.append_assoc]
theorem tC_succ (c : Cf) (k : Nat) (h : k < c.chans.length) : tC c k = nums [(chAt c k).kind, (chAt c k).frm, (chAt c k).to, (chAt c k).size, (chAt c k).depth] ++ tC c (k + 1) := by
  unfold tC
  rw [List.drop_eq_getElem_cons h, List.flatMap_cons]
  simp only [chAt, getD_eq _ _ _ h, chL, List.append_assoc]
theorem tW_succ (c : Cf) (k : Nat) (h : k < c.wins.length) : tW c k = nums [(wnAt c k).start, (wnAt c k).len, (wnAt c k).part] ++ tW c (k + 1) := by
  unfold tW
  rw [List.drop_eq_getElem_cons h, List.flatMap_cons]
  simp only [wnAt, getD_eq _ _ _ h, wnL]
theorem tP_end (c : Cf) : tP c c.parts.length = nums [(c.chans.length : Int)] ++ tC c 0 := by unfold tP; rw [List.drop_length]; rfl
theorem tC_end (c : Cf) : tC c c.chans.length = nums [(c.wins.length : Int)] ++ tW c 0 := by unfold tC; rw [List.drop_length]; rfl
theorem take_at {α : Type} (l : List α) (k : Nat) (d : α) (h : k < l.length) : l.take (k + 1) = l.take k ++ [l.getD k d] := by
  rw [getD_eq l k d h, List.take_succ_eq_append_getElem h]
/-- What a configuration that can be has, of its numbers. -/
theorem nums_ok {c : Cf} (h : Cfg.chk c = 0) : ((0 ≤ c.pages ∧ c.pages ≤ 4294967295) ∧ (0 ≤ c.major ∧ c.major ≤ 4294967295) ∧ (0 ≤ c.switch ∧ c.switch ≤ 4294967295)) ∧ (c.parts.length ≤ 8 ∧ c.chans.length ≤ 16 ∧ c.wins.length ≤ 32) ∧
    (∀ k, k < c.parts.length → (ptAt c k).name.size ≤ 20 ∧ (0 ≤ (ptAt c k).pages ∧ (ptAt c k).pages ≤ 4294967295) ∧ (0 ≤ (ptAt c k).act ∧ (ptAt c k).act ≤ 4294967295)) ∧
    (∀ k, k < c.chans.length → (0 ≤ (chAt c k).kind ∧ (chAt c k).kind ≤ 4294967295) ∧ (0 ≤ (chAt c k).frm ∧ (chAt c k).frm ≤ 4294967295) ∧ (0 ≤ (chAt c k).to ∧ (chAt c k).to ≤ 4294967295) ∧ (0 ≤ (chAt c k).size ∧ (chAt c k).size ≤ 4294967295) ∧ (0 ≤ (chAt c k).depth ∧ (chAt c k).depth ≤ 4294967295)) ∧
    (∀ k, k < c.wins.length → (0 ≤ (wnAt c k).start ∧ (wnAt c k).start ≤ 4294967295) ∧ (0 ≤ (wnAt c k).len ∧ (wnAt c k).len ≤ 4294967295) ∧ (0 ≤ (wnAt c k).part ∧ (wnAt c k).part ≤ 4294967295)) := by
  obtain ⟨g1, g2, g3, g4, g5⟩ := chk_zero h
  have vd := vd_of h
  have h8 := g2.1.2
  refine ⟨⟨?_, ?_, ?_⟩, ⟨g2.1.2, g4.1, g5.2.2.1.2⟩, fun k hk => ?_, fun k hk => ?_, fun k hk => ?_⟩
  · have := g1.1; have := g1.2; omega
  · have := g5.1; omega
  · have := g5.2.1; omega
  · simp only [ptAt, getD_eq _ _ _ hk]
    have q := List.getElem?_eq_getElem hk
    have a := g2.2 k _ q
    have b := g3.1 k _ q
    have := a.1.2.1; have := a.2.1
    omega
  · simp only [chAt, getD_eq _ _ _ hk]
    have a := g4.2 k _ (List.getElem?_eq_getElem hk)
    obtain ⟨a1, a2, a3, -, a5, a6, -⟩ := a
    omega
  · simp only [wnAt, getD_eq _ _ _ hk]
    have a := vd.at (List.getElem?_eq_getElem hk)
    have := vd.mj; have := vd.sw
    omega
/-- A number that is read: where a configuration is read that can be, the number is its own. -/
theorem un_says {V : Prop} {B g n q a : Nat} {w : World} {p : Option Addr} {ys : List Int} {bad : Bool} (r : Rr B w g p n q ys a bad) (hb : Byt ys) (hm : n ≤ 1000000) (x : Int) (l R : List Int) (hk : V → bad = false ∧ ys.drop a = nums (x :: l) ++ R) (hx : V → 0 ≤ x ∧ x ≤ 4294967295) :
    Calls Tryd.prog 33 #[.pointer (some ⟨g, 0, none⟩)] w fun e w' => ∃ (v : Int) (a' : Nat) (bad' : Bool), e = .returned (i64 v) ∧ Rr B w' g p n q ys a' bad' ∧ Oth g w w' ∧ (0 ≤ v ∧ v ≤ 4294967295) ∧ (V → v = x ∧ bad' = false ∧ ys.drop a' = nums l ++ R) :=
  (rn_says r hb hm).mono fun e w' ⟨v, a', bad', he, r', o, hv, hN⟩ => ⟨v, a', bad', he, r', o, hv, fun hV => by
    obtain ⟨h1, h2⟩ := hk hV
    obtain ⟨h3, h4⟩ := hx hV
    obtain ⟨e1, e2⟩ := lv_nums x l R h3 h4
    have hl := congrArg List.length h2
    rw [List.length_drop, r.lie.len, List.length_append, nums_len, List.length_cons] at hl
    obtain ⟨q1, rfl, q3⟩ := hN h1 (by omega)
    exact ⟨by rw [q1, h2]; exact e1, q3, by rw [← List.drop_drop, h2]; exact e2⟩⟩
end Go.Proofs.YtogbhgbnminpdaaDoor.Pck
