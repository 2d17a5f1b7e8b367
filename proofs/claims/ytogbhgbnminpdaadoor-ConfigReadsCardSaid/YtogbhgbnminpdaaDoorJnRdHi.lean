/-
  Package config: what a configuration's bytes tell when they are read, plainly. | Package config: what is read has numbers that are ints.
-/
import Derived.Test.YtogbhgbnminpdaaDoorJnRdFg
import Derived.Lib.LazyBuf
set_option linter.unusedVariables false
set_option maxRecDepth 100000
set_option linter.unusedVariables false
namespace Go.Proofs.YtogbhgbnminpdaaDoor.Pck
open Go.Proofs.YtogbhgbnminpdaaDoor Go.Proofs.YtogbhgbnminpdaaDoor.Ser Go.Proofs.YtogbhgbnminpdaaDoor.Img Go.Proofs.YtogbhgbnminpdaaDoor.Cfg
set_option linter.unusedVariables false
/-- So many things, one behind another. -/
def many {α : Type} (f : List Int → Option (α × List Int)) : Nat → List Int → Option (List α × List Int)
  | 0, R => some ([], R)
  | k + 1, R => (many f k R).bind fun lr => (f lr.2).map fun ar => (lr.1 ++ [ar.1], ar.2)
def rdP (R : List Int) : Option (Pt × List Int) := if R.length < 12 ∨ 20 < lv R ∨ (R.length : Int) < 12 + lv R then none else some (ptO R, R.drop (12 + (lv R).toNat))
def rdCh (R : List Int) : Option (Ch × List Int) := if R.length < 20 then none else some (⟨lv R, lv (R.drop 4), lv (R.drop 8), lv (R.drop 12), lv (R.drop 16)⟩, R.drop 20)
def rdWn (R : List Int) : Option (Wn × List Int) := if R.length < 12 then none else some (⟨lv R, lv (R.drop 4), lv (R.drop 8)⟩, R.drop 12)
/-- A row of at most m things, its count ahead of it. -/
def row {α : Type} (f : List Int → Option (α × List Int)) (m : Int) (R : List Int) : Option (List α × List Int) := if R.length < 4 ∨ m < lv R then none else many f (lv R).toNat (R.drop 4)
/-- The configuration that is read. -/
def rdC (b : List Int) : Option Cf :=
  if b.length < 16 then none else (row rdP 8 (b.drop 16)).bind fun a => (row rdCh 16 a.2).bind fun c => (row rdWn 32 c.2).map fun d => ⟨lv (b.drop 4), lv (b.drop 8), lv (b.drop 12), a.1, c.1, d.1⟩
theorem many_none {α : Type} (f : List Int → Option (α × List Int)) (R : List Int) {k n : Nat} (h : many f k R = none) (hk : k ≤ n) : many f n R = none := by
  induction n with
  | zero => obtain rfl : k = 0 := by omega
            exact h
  | succ n ih =>
    by_cases e : k = n + 1
    · subst e; exact h
    · rw [many, ih (by omega)]; rfl
theorem many_enc {α : Type} {f : List Int → Option (α × List Int)} {enc : α → List Int} : ∀ (k : Nat) (l : List α) (r : List Int), (∀ x ∈ l, ∀ r, f (enc x ++ r) = some (x, r)) → k ≤ l.length → many f k (l.flatMap enc ++ r) = some (l.take k, (l.drop k).flatMap enc ++ r)
  | 0, l, r, _, _ => by simp [many]
  | k + 1, l, r, h, hk => by
    rw [many, many_enc k l r h (by omega), Option.bind_some, List.drop_eq_getElem_cons (by omega), List.flatMap_cons, List.append_assoc, h _ (List.getElem_mem _), Option.map_some, List.take_succ_eq_append_getElem (by omega)]
theorem lv_nums (x : Int) (l r : List Int) (h0 : 0 ≤ x) (h1 : x ≤ 4294967295) : lv (nums (x :: l) ++ r) = x ∧ (nums (x :: l) ++ r).drop 4 = nums l ++ r := by
  have e : nums (x :: l) ++ r = four x ++ (nums l ++ r) := by unfold nums; rw [List.flatMap_cons, List.append_assoc]
  rw [e]
  refine ⟨?_, ?_⟩
  · show lev ((four x ++ (nums l ++ r)).take 4) = x
    rw [List.take_append_of_le_length (by rw [four_len]; omega), List.take_of_length_le (by rw [four_len]; omega), lev_four x h0 h1]
  · rw [List.drop_append_of_le_length (by rw [four_len]; omega), List.drop_of_length_le (by rw [four_len]; omega), List.nil_append]
theorem row_enc {α : Type} {f : List Int → Option (α × List Int)} {enc : α → List Int} (l : List α) (m : Nat) (hm : m ≤ 100) (r : List Int) (h : ∀ x ∈ l, ∀ r, f (enc x ++ r) = some (x, r)) (hl : l.length ≤ m) : row f m (nums [(l.length : Int)] ++ (l.flatMap enc ++ r)) = some (l, r) := by
  obtain ⟨e1, e2⟩ := lv_nums (l.length : Int) [] (l.flatMap enc ++ r) (by omega) (by omega)
  unfold row
  rw [e1, e2, if_neg (by rw [List.length_append, nums_len]; show ¬ (4 * 1 + _ < 4 ∨ _); omega)]
  show many f l.length (l.flatMap enc ++ r) = _
  rw [many_enc l.length l r h (Nat.le_refl _), List.take_length, List.drop_length]
  rfl
theorem nameL_str (s : ByteArray) : strOfNums (nameL s) = s := by unfold nameL; rw [Lib.Lz.strOfNums_map, Array.toArray_toList]
theorem rdWn_enc (x : Wn) (r : List Int) (h : (0 ≤ x.start ∧ x.start ≤ 4294967295) ∧ (0 ≤ x.len ∧ x.len ≤ 4294967295) ∧ (0 ≤ x.part ∧ x.part ≤ 4294967295)) : rdWn (wnL x ++ r) = some (x, r) := by
  obtain ⟨h1, h2, h3⟩ := h
  obtain ⟨a1, b1⟩ := lv_nums x.start [x.len, x.part] r h1.1 h1.2
  obtain ⟨a2, b2⟩ := lv_nums x.len [x.part] r h2.1 h2.2
  obtain ⟨a3, b3⟩ := lv_nums x.part [] r h3.1 h3.2
  have d2 : (wnL x ++ r).drop 8 = nums [x.part] ++ r := by rw [← b2, ← b1, List.drop_drop]; rfl
  have d3 : (wnL x ++ r).drop 12 = r := by
    have : (wnL x ++ r).drop 12 = ((wnL x ++ r).drop 8).drop 4 := by rw [List.drop_drop]
    rw [this, d2, b3]; rfl
  unfold rdWn
  rw [if_neg (by rw [List.length_append]; unfold wnL; rw [nums_len]; show ¬ 4 * 3 + _ < 12; omega), d3, d2, a3]
  show some (Wn.mk (lv (nums [x.start, x.len, x.part] ++ r)) (lv ((nums [x.start, x.len, x.part] ++ r).drop 4)) x.part, r) = _
  rw [a1, b1, a2]
theorem rdCh_enc (x : Ch) (r : List Int) (h : (0 ≤ x.kind ∧ x.kind ≤ 4294967295) ∧ (0 ≤ x.frm ∧ x.frm ≤ 4294967295) ∧ (0 ≤ x.to ∧ x.to ≤ 4294967295) ∧ (0 ≤ x.size ∧ x.size ≤ 4294967295) ∧ (0 ≤ x.depth ∧ x.depth ≤ 4294967295)) : rdCh (chL x ++ r) = some (x, r) := by
  obtain ⟨h1, h2, h3, h4, h5⟩ := h
  obtain ⟨a1, b1⟩ := lv_nums x.kind [x.frm, x.to, x.size, x.depth] r h1.1 h1.2
  obtain ⟨a2, b2⟩ := lv_nums x.frm [x.to, x.size, x.depth] r h2.1 h2.2
  obtain ⟨a3, b3⟩ := lv_nums x.to [x.size, x.depth] r h3.1 h3.2
  obtain ⟨a4, b4⟩ := lv_nums x.size [x.depth] r h4.1 h4.2
  obtain ⟨a5, b5⟩ := lv_nums x.depth [] r h5.1 h5.2
  have d (n : Nat) : (chL x ++ r).drop (n + 4) = ((chL x ++ r).drop n).drop 4 := by rw [List.drop_drop]
  have d1 : (chL x ++ r).drop 4 = nums [x.frm, x.to, x.size, x.depth] ++ r := b1
  have d2 : (chL x ++ r).drop 8 = nums [x.to, x.size, x.depth] ++ r := by rw [d 4, d1, b2]
  have d3 : (chL x ++ r).drop 12 = nums [x.size, x.depth] ++ r := by rw [d 8, d2, b3]
  have d4 : (chL x ++ r).drop 16 = nums [x.depth] ++ r := by rw [d 12, d3, b4]
  have d5 : (chL x ++ r).drop 20 = r := by rw [d 16, d4, b5]; rfl
  unfold rdCh
  rw [if_neg (by rw [List.length_append]; unfold chL; rw [nums_len]; show ¬ 4 * 5 + _ < 20; omega), d1, d2, d3, d4, d5, a2, a3, a4, a5]
  show some (Ch.mk (lv (nums [x.kind, x.frm, x.to, x.size, x.depth] ++ r)) x.frm x.to x.size x.depth, r) = _
  rw [a1]
theorem rdP_enc (x : Pt) (r : List Int) (h : x.name.size ≤ 20 ∧ (0 ≤ x.pages ∧ x.pages ≤ 4294967295) ∧ (0 ≤ x.act ∧ x.act ≤ 4294967295)) : rdP (ptL x ++ r) = some (x, r) := by
  obtain ⟨h1, h2, h3⟩ := h
  have e : ptL x ++ r = nums [(x.name.size : Int), x.pages, x.act] ++ (nameL x.name ++ r) := by unfold ptL; rw [List.append_assoc]
  rw [e]
  obtain ⟨a1, b1⟩ := lv_nums (x.name.size : Int) [x.pages, x.act] (nameL x.name ++ r) (by omega) (by omega)
  obtain ⟨a2, b2⟩ := lv_nums x.pages [x.act] (nameL x.name ++ r) h2.1 h2.2
  obtain ⟨a3, b3⟩ := lv_nums x.act [] (nameL x.name ++ r) h3.1 h3.2
  obtain ⟨S, hS⟩ : ∃ S, S = nums [(x.name.size : Int), x.pages, x.act] ++ (nameL x.name ++ r) := ⟨_, rfl⟩
  have hlen : S.length = 12 + (x.name.size + r.length) := by rw [hS, List.length_append, List.length_append, nums_len, nameL_len]; rfl
  rw [← hS] at a1 b1 ⊢
  have d (n : Nat) : S.drop (n + 4) = (S.drop n).drop 4 := by rw [List.drop_drop]
  have d2 : S.drop 8 = nums [x.act] ++ (nameL x.name ++ r) := by rw [d 4, b1, b2]
  have d3 : S.drop 12 = nameL x.name ++ r := by rw [d 8, d2, b3]; rfl
  unfold rdP
  rw [if_neg (by rw [hlen, a1]; omega), ptO, a1]
  have h12 : S.drop (12 + ((x.name.size : Int)).toNat) = r := by
    rw [← List.drop_drop, d3, Int.toNat_natCast, ← nameL_len, List.drop_append_of_le_length (Nat.le_refl _), List.drop_length, List.nil_append]
  rw [h12, d3, b1, d2, a2, a3, Int.toNat_natCast, ← nameL_len, List.take_append_of_le_length (Nat.le_refl _), List.take_length, nameL_str]
theorem end_nn {c : Cf} (h : planOk c) : ∀ k, k ≤ c.wins.length → 0 ≤ endTo c.wins k
  | 0, _ => by simp [endTo]
  | k + 1, hk => by
    have ih := end_nn h k (by omega)
    have e := List.getElem?_eq_getElem (l := c.wins) (i := k) (by omega)
    have hw := h.2.2.2 k _ e
    have hs := h.2.1
    unfold okW at hw
    rw [endTo, e]
    show 0 ≤ c.wins[k].start + c.wins[k].len
    omega
/-- What is packed is read again. -/
theorem rdC_pack {c : Cf} (h : chk c = 0) : rdC (packC c) = some c := by
  obtain ⟨g1, g2, g3, g4, g5⟩ := chk_zero h
  obtain ⟨t, ht⟩ : ∃ t, t = nums [(headC c).sum] := ⟨_, rfl⟩
  obtain ⟨W, hW⟩ : ∃ W, W = nums [(c.wins.length : Int)] ++ (c.wins.flatMap wnL ++ t) := ⟨_, rfl⟩
  obtain ⟨C, hC⟩ : ∃ C, C = nums [(c.chans.length : Int)] ++ (c.chans.flatMap chL ++ W) := ⟨_, rfl⟩
  obtain ⟨P, hP⟩ : ∃ P, P = nums [(c.parts.length : Int)] ++ (c.parts.flatMap ptL ++ C) := ⟨_, rfl⟩
  have e : packC c = [84, 82, 67, 49] ++ (nums [c.pages, c.major, c.switch] ++ P) := by
    rw [hP, hC, hW, ht]; unfold packC headC b5 b4 b3 b2 b1 b0
    simp only [List.take_length, List.append_assoc, nums, List.flatMap_cons, List.flatMap_nil, List.append_nil]
  have hr := g1; unfold hostOk at hr
  have hp1 := g5.1
  have hp2 := g5.2.1
  have hl1 := g2.1
  have rW : row rdWn 32 W = some (c.wins, t) := by
    rw [hW]
    refine row_enc c.wins 32 (by omega) t (fun x hx r => ?_) g5.2.2.1.2
    obtain ⟨i, hi, rfl⟩ := List.mem_iff_getElem.1 hx
    have hw := g5.2.2.2 i _ (List.getElem?_eq_getElem hi)
    have hn := end_nn g5 i (by omega)
    unfold okW at hw
    exact rdWn_enc _ _ (by omega)
  have rC : row rdCh 16 C = some (c.chans, W) := by
    rw [hC]
    refine row_enc c.chans 16 (by omega) W (fun x hx r => ?_) g4.1
    obtain ⟨i, hi, rfl⟩ := List.mem_iff_getElem.1 hx
    have hw := g4.2 i _ (List.getElem?_eq_getElem hi)
    unfold okC at hw
    exact rdCh_enc _ _ (by omega)
  have rP : row rdP 8 P = some (c.parts, C) := by
    rw [hP]
    refine row_enc c.parts 8 (by omega) C (fun x hx r => ?_) g2.1.2
    obtain ⟨i, hi, rfl⟩ := List.mem_iff_getElem.1 hx
    have hw := g2.2 i _ (List.getElem?_eq_getElem hi)
    have hm := g3.1 i _ (List.getElem?_eq_getElem hi)
    unfold okP okN at hw
    exact rdP_enc _ _ (by omega)
  obtain ⟨a1, b1⟩ := lv_nums c.pages [c.major, c.switch] P (by omega) (by omega)
  obtain ⟨a2, b2⟩ := lv_nums c.major [c.switch] P (by omega) (by omega)
  obtain ⟨a3, b3⟩ := lv_nums c.switch [] P (by omega) (by omega)
  have d (n : Nat) : (packC c).drop (n + 4) = ((packC c).drop n).drop 4 := by rw [List.drop_drop]
  have d1 : (packC c).drop 4 = nums [c.pages, c.major, c.switch] ++ P := by rw [e]; rfl
  have d2 : (packC c).drop 8 = nums [c.major, c.switch] ++ P := by rw [d 4, d1, b1]
  have d3 : (packC c).drop 12 = nums [c.switch] ++ P := by rw [d 8, d2, b2]
  have d4 : (packC c).drop 16 = P := by rw [d 12, d3, b3]; rfl
  have hlen : ¬ (packC c).length < 16 := by rw [e, List.length_append, List.length_append, nums_len]; show ¬ 4 + (4 * 3 + _) < 16; omega
  unfold rdC
  rw [if_neg hlen, d4, rP, Option.bind_some]
  show ((row rdCh 16 C).bind _) = _
  rw [rC, Option.bind_some]
  show ((row rdWn 32 W).map _) = _
  rw [rW, Option.map_some, d1, d2, d3, a1, a2, a3]
end Go.Proofs.YtogbhgbnminpdaaDoor.Pck
set_option maxRecDepth 100000
set_option linter.unusedVariables false
namespace Go.Proofs.YtogbhgbnminpdaaDoor.Pck
open Go.Proofs.YtogbhgbnminpdaaDoor Go.Proofs.YtogbhgbnminpdaaDoor.Ser Go.Proofs.YtogbhgbnminpdaaDoor.Img Go.Proofs.YtogbhgbnminpdaaDoor.Cfg
set_option linter.unusedVariables false
theorem lv_i {R : List Int} (hb : Byt R) : 0 ≤ lv R ∧ lv R ≤ 4294967295 := by
  have h1 := lev_bd (R.take 4) (byt_take hb 4)
  have h2 : (256 : Int) ^ (R.take 4).length ≤ 256 ^ 4 := by
    have e := pow_pos' 0
    have hl : (R.take 4).length ≤ 4 := by rw [List.length_take]; omega
    match (R.take 4).length, hl with
    | 0, _ => decide
    | 1, _ => decide
    | 2, _ => decide
    | 3, _ => decide
    | 4, _ => decide
  rw [show (256 : Int) ^ 4 = 4294967296 from rfl] at h2
  unfold lv; omega
theorem many_all {α : Type} {f : List Int → Option (α × List Int)} {Q : α → Prop} (hf : ∀ R a R', Byt R → f R = some (a, R') → Q a ∧ Byt R') : ∀ (k : Nat) (R : List Int) (l : List α) (R' : List Int), Byt R → many f k R = some (l, R') → (∀ a ∈ l, Q a) ∧ Byt R' ∧ l.length = k
  | 0, R, l, R', hb, h => by
    simp only [many, Option.some.injEq, Prod.mk.injEq] at h
    obtain ⟨rfl, rfl⟩ := h
    exact ⟨by simp, hb, rfl⟩
  | k + 1, R, l, R', hb, h => by
    rw [many, Option.bind_eq_some_iff] at h
    obtain ⟨⟨l1, R1⟩, h1, h2⟩ := h
    obtain ⟨q1, b1, n1⟩ := many_all hf k R l1 R1 hb h1
    rw [Option.map_eq_some_iff] at h2
    obtain ⟨⟨a, R2⟩, h2, h3⟩ := h2
    obtain ⟨q2, b2⟩ := hf R1 a R2 b1 h2
    simp only [Prod.mk.injEq] at h3
    obtain ⟨rfl, rfl⟩ := h3
    refine ⟨fun x hx => ?_, b2, by rw [List.length_append, n1]; rfl⟩
    rw [List.mem_append, List.mem_singleton] at hx
    rcases hx with hx | rfl
    · exact q1 x hx
    · exact q2
theorem row_all {α : Type} {f : List Int → Option (α × List Int)} {Q : α → Prop} (hf : ∀ R a R', Byt R → f R = some (a, R') → Q a ∧ Byt R') (m : Nat) (R : List Int) (l : List α) (R' : List Int) (hb : Byt R) (h : row f m R = some (l, R')) : (∀ a ∈ l, Q a) ∧ Byt R' ∧ l.length ≤ m := by
  unfold row at h
  by_cases h0 : R.length < 4 ∨ (m : Int) < lv R
  · rw [if_pos h0] at h; cases h
  · rw [if_neg h0] at h
    obtain ⟨q, b, n⟩ := many_all hf _ _ _ _ (byt_drop hb 4) h
    exact ⟨q, b, by omega⟩
def okI (x : Int) : Prop := 0 ≤ x ∧ x ≤ 4294967295
theorem rdP_all (R : List Int) (a : Pt) (R' : List Int) (hb : Byt R) (h : rdP R = some (a, R')) : (a.name.size ≤ 20 ∧ okI a.pages ∧ okI a.act) ∧ Byt R' := by
  unfold rdP at h
  by_cases h0 : R.length < 12 ∨ 20 < lv R ∨ (R.length : Int) < 12 + lv R
  · rw [if_pos h0] at h; cases h
  · rw [if_neg h0] at h
    simp only [Option.some.injEq, Prod.mk.injEq] at h
    obtain ⟨rfl, rfl⟩ := h
    refine ⟨⟨?_, lv_i (byt_drop hb 4), lv_i (byt_drop hb 8)⟩, byt_drop hb _⟩
    show (strOfNums _).size ≤ 20
    rw [strOfNums_size, List.length_take]; omega
theorem rdCh_all (R : List Int) (a : Ch) (R' : List Int) (hb : Byt R) (h : rdCh R = some (a, R')) : (okI a.kind ∧ okI a.frm ∧ okI a.to ∧ okI a.size ∧ okI a.depth) ∧ Byt R' := by
  unfold rdCh at h
  by_cases h0 : R.length < 20
  · rw [if_pos h0] at h; cases h
  · rw [if_neg h0] at h
    simp only [Option.some.injEq, Prod.mk.injEq] at h
    obtain ⟨rfl, rfl⟩ := h
    exact ⟨⟨lv_i hb, lv_i (byt_drop hb 4), lv_i (byt_drop hb 8), lv_i (byt_drop hb 12), lv_i (byt_drop hb 16)⟩, byt_drop hb _⟩
theorem rdWn_all (R : List Int) (a : Wn) (R' : List Int) (hb : Byt R) (h : rdWn R = some (a, R')) : (okI a.start ∧ okI a.len ∧ okI a.part) ∧ Byt R' := by
  unfold rdWn at h
  by_cases h0 : R.length < 12
  · rw [if_pos h0] at h; cases h
  · rw [if_neg h0] at h
    simp only [Option.some.injEq, Prod.mk.injEq] at h
    obtain ⟨rfl, rfl⟩ := h
    exact ⟨⟨lv_i hb, lv_i (byt_drop hb 4), lv_i (byt_drop hb 8)⟩, byt_drop hb _⟩
/-- What is read is a configuration of small numbers. -/
theorem rdC_all {b : List Int} {c : Cf} (hb : Byt b) (h : rdC b = some c) : okI c.pages ∧ okI c.major ∧ okI c.switch ∧ ((∀ a ∈ c.parts, a.name.size ≤ 20 ∧ okI a.pages ∧ okI a.act) ∧ c.parts.length ≤ 8) ∧ ((∀ a ∈ c.chans, okI a.kind ∧ okI a.frm ∧ okI a.to ∧ okI a.size ∧ okI a.depth) ∧ c.chans.length ≤ 16) ∧ ((∀ a ∈ c.wins, okI a.start ∧ okI a.len ∧ okI a.part) ∧ c.wins.length ≤ 32) := by
  unfold rdC at h
  by_cases h0 : b.length < 16
  · rw [if_pos h0] at h; cases h
  rw [if_neg h0, Option.bind_eq_some_iff] at h
  obtain ⟨⟨ps, R1⟩, h1, h⟩ := h
  rw [Option.bind_eq_some_iff] at h
  obtain ⟨⟨cs, R2⟩, h2, h⟩ := h
  rw [Option.map_eq_some_iff] at h
  obtain ⟨⟨ws, R3⟩, h3, rfl⟩ := h
  obtain ⟨q1, b1, n1⟩ := row_all rdP_all 8 _ _ _ (byt_drop hb 16) h1
  obtain ⟨q2, b2, n2⟩ := row_all rdCh_all 16 _ _ _ b1 h2
  obtain ⟨q3, b3, n3⟩ := row_all rdWn_all 32 _ _ _ b2 h3
  exact ⟨lv_i (byt_drop hb 4), lv_i (byt_drop hb 8), lv_i (byt_drop hb 12), ⟨q1, n1⟩, ⟨q2, n2⟩, ⟨q3, n3⟩⟩
theorem rdC_wf {b : List Int} {c : Cf} (hb : Byt b) (h : rdC b = some c) : Wf c := by
  obtain ⟨h1, h2, h3, ⟨h4, n4⟩, ⟨h5, n5⟩, ⟨h6, n6⟩⟩ := rdC_all hb h
  unfold okI at *
  refine ⟨by omega, by omega, by omega, ⟨fun k p hp => ?_, fun k x hx => ?_⟩, by omega⟩
  · have := h4 p (List.mem_of_getElem? hp)
    omega
  · have := h6 x (List.mem_of_getElem? hx)
    omega
end Go.Proofs.YtogbhgbnminpdaaDoor.Pck
