/-
  Package config: appendNumbers behind a constant row; a text that is appended. | Plain: a configuration's bytes.
-/
import Derived.Test.YtogbhgbnminpdaaDoorJnPkAb
import Derived.Test.YtogbhgbnminpdaaDoorJnCfgG
import Derived.ArgAppend
import Derived.Lib.SlBytesConst
set_option linter.unusedVariables false
set_option maxRecDepth 100000
set_option linter.unusedVariables false
namespace Go.Proofs.YtogbhgbnminpdaaDoor.Pck
open Go.Proofs.YtogbhgbnminpdaaDoor Go.Proofs.YtogbhgbnminpdaaDoor.Ser Go.Proofs.YtogbhgbnminpdaaDoor.Img Go.Proofs.YtogbhgbnminpdaaDoor.Cfg
open Go.ChangeShapes Go.WideShapes Go.ChangeAt Go.RowKit
set_option linter.unusedVariables false
/-- 'append(s, x...)' where there is no room: s lies anywhere. -/
theorem wpList_growK {T E : TypeId} {k : IntKind} {w : World} {B B' : Nat} {ops : Array Oper} {rest : List Oper} {o : Oper} {a : Act} {Q : Exit → Act → World → Prop} (K : Kd T E k) (hgd : o.guard = none) (s x : Operand)
    (ho : o.op = .call { callee := .builtin .append, args := #[s, x], argTypes := #[T, T] }) {p1 p2 : Option Addr} {n1 c1 m2 c2 : Nat} {xs1 xs2 : List Int} (hs : a.eval s = .slice p1 n1 c1) (L1 : Lie k w B p1 n1 c1 xs1)
    (hx : a.eval x = .slice p2 m2 c2) (L2 : Lie k w B' p2 m2 c2 xs2) (hp : 0 < m2) (hfull : c1 < n1 + m2) (hsz : n1 + m2 ≤ 1000000)
    (h : ∀ v' w', OwnK E k w' w.heap.size v' (xs1 ++ xs2) → Below w.heap.size w w' → wpList Tryd.prog ops Q rest (a.put o.dst v') w') : wpList Tryd.prog ops Q (o :: rest) a w := by
  obtain ⟨bb, hbb, hinfo⟩ := K.info
  obtain ⟨i, hi, hz0, hz1, hz2⟩ := info_parts hinfo
  obtain ⟨ad, rfl, hc⟩ := L2.src (by rw [L2.len]; exact hp)
  refine wpList_append_grows w hgd s x T ho E i _ 1 bb K.under hi hz0 hz1 hz2 rfl (by decide) p1 n1 c1 (kL k xs1) hs (fun e => ⟨by have := L1.cap; have := L1.nil e; omega, L1.nil e⟩) (by rw [List.length_map, L1.len, Nat.mul_one]) (fun b e j u hu => ?_) ad m2 c2 (kL k xs2) hx (by rw [List.length_map, L2.len, Nat.mul_one]) hc (kL_one _ _) hfull (by unfold maxLen; omega) (by have : (n1 + m2) * bb ≤ 1000000 * 8 := Nat.mul_le_mul hsz hbb; omega) (fun v' w' h1 h2 => h v' w' ?_ ((Below.refl _ _).grown h2 (Nat.le_refl _) (by simp)))
  · have hj : j < xs1.length := by have := (List.getElem?_eq_some_iff.1 hu).1; simpa using this
    obtain ⟨ad', e', hc'⟩ := L1.src (by omega)
    rw [e] at e'
    injection e' with e'
    subst e'
    exact hc' j u hu
  · unfold OwnK
    rw [List.length_append, L1.len, L2.len, kL, List.map_append]
    exact h1
theorem lie_of {E : TypeId} {k : IntKind} {w : World} {B : Nat} {p : Option Addr} {m c : Nat} {xs : List Int} (h : OwnK E k w B (.slice p m c) xs) : Lie k w w.heap.size p m c xs := by
  obtain ⟨p2, c2, e, -, L⟩ := ownK_lie h
  injection e with e1 e2 e3
  subst e1 e3
  rw [← e2] at L
  exact L
/-- A row that was written out, whatever its mark. -/
theorem lie_built (E : TypeId) (k : IntKind) (w : World) (xs : List Int) (fr : Nat × Nat) (g : Nat) (hg : w.heap.size = g) : Lie k (w.alloc (.cells (kL k xs).toArray E fr)) (w.alloc (.cells (kL k xs).toArray E fr)).heap.size (some ⟨g, 0, none⟩) xs.length xs.length xs :=
  ⟨rfl, Nat.le_refl _, (fun h => by cases h), fun _ => ⟨g, 0, rfl, by subst hg; simp, fun i x hx => by
    subst hg
    rw [Nat.zero_add, cell_of_row _ w.heap.size i _ _ _ (heap_alloc_new w _)]
    simp [hx]⟩⟩
/-- What appendNumbers tells behind a row that is full and not its own. -/
def App1 (w : World) (R : List Int) (e : Ending) (w' : World) : Prop := ∃ p n c, e = .returned (.slice p n c) ∧ OwnK 5 .u8 w' w.heap.size (.slice p n c) R ∧ Below w.heap.size w w'
set_option maxHeartbeats 4000000 in
theorem appn1_says {w : World} {p1 : Option Addr} {n1 : Nat} {R : List Int} (L1 : Lie .u8 w w.heap.size p1 n1 n1 R) {p : Option Addr} {m c : Nat} {xs : List Int} (L : Lie .i64 w w.heap.size p m c xs) (hm0 : 0 < m)
    (hb : ∀ x ∈ xs, -9223372036854775808 ≤ x ∧ x ≤ 9223372036854775807) (hsz : n1 + 4 * m ≤ 900000) :
    Calls Tryd.prog 23 #[.slice p1 n1 n1, .slice p m c] w (App1 w (R ++ nums xs)) := by
  obtain ⟨r, hr⟩ : ∃ r, r = App1 w (R ++ nums xs) := ⟨_, rfl⟩
  rw [← hr]
  have hl : xs.length = m := L.len
  have hR : R.length = n1 := L1.len
  have HO := Lib.hid (fun w' p' n' c' (o' : OwnK 5 .u8 w' w.heap.size (.slice p' n' c') (R ++ nums (xs.take m))) (g : Below w.heap.size w w') => (by rw [hr]; rw [List.take_of_length_le (by omega)] at o'; exact ⟨p', n', c', rfl, o', g⟩ : r (.returned (.slice p' n' c')) w'))
  clear hr
  have HL := Lib.hid L
  have HL1 := Lib.hid L1
  have HX := Lib.hid hb
  clear L hb L1
  go_enter Tryd.func23, Tryd.ntmps23
  go_wp2
  go_loopw [0, 6, 9] (fun v _ i wr => ∃ k : Nat, k ≤ m ∧ i = .int .i64 k ∧ ∃ p' n' c', v = .slice p' n' c' ∧ Below w.heap.size w wr ∧ ((k = 0 ∧ p1 = p' ∧ n1 = n' ∧ n1 = c' ∧ w = wr) ∨ (1 ≤ k ∧ OwnK 5 .u8 wr w.heap.size (.slice p' n' c') (R ++ nums (xs.take k))))) (fun _ _ i _ => m - (intOf i).toNat)
  case atStart => exact ⟨0, Nat.zero_le _, rfl, _, _, _, rfl, Below.refl _ _, .inl ⟨rfl, rfl, rfl, rfl, rfl⟩⟩
  case round =>
    obtain ⟨k, hk, rfl, p', n', c', rfl, g, hcase⟩ := hrel
    by_cases hkm : k < m
    · have hkI : (k : Int) < (m : Int) := by omega
      obtain ⟨b, off, rfl, hlt, hc⟩ := (HL.out.kept g (Nat.le_refl _)).cell hkm
      have e1 := Lib.hid (nums_succ xs k (by omega))
      have hx := HX.out (xs.getD k 0) (by have h1 : k < xs.length := by omega
                                          have h2 : xs.getD k 0 = xs[k] := by simp [List.getD, List.getElem?_eq_getElem h1]
                                          rw [h2]; exact List.getElem_mem h1)
      obtain ⟨x, hxx⟩ : ∃ x, x = xs.getD k 0 := ⟨_, rfl⟩
      rw [← hxx] at hc hx e1
      clear hxx
      have hB2 := Lib.hid (g.alloc g.size (.cells #[.int .u8 (x % 256), .int .u8 (x / 256 % 256), .int .u8 (x / 65536 % 256), .int .u8 (x / 16777216 % 256)] 5))
      have HS := Lib.hid (srcK_new wr .u8 (four x) 5)
      rcases hcase with ⟨rfl, rfl, rfl, rfl, rfl⟩ | ⟨hk1, o⟩
      · have L0 := Lib.hid ((HL1.out.kept (below_alloc w (.cells #[.int .u8 (x % 256), .int .u8 (x / 256 % 256), .int .u8 (x / 65536 % 256), .int .u8 (x / 16777216 % 256)] 5)) (Nat.le_refl _)).wide (B' := (w.alloc (.cells #[.int .u8 (x % 256), .int .u8 (x / 256 % 256), .int .u8 (x / 65536 % 256), .int .u8 (x / 16777216 % 256)] 5)).heap.size) (by simp))
        have L4 := Lib.hid (lie_built 5 .u8 w (four x) (0, 0) w.heap.size rfl)
        have hd := Lib.hid (fun v' w' (o' : OwnK 5 .u8 w' (w.alloc (.cells #[.int .u8 (x % 256), .int .u8 (x / 256 % 256), .int .u8 (x / 65536 % 256), .int .u8 (x / 16777216 % 256)] 5)).heap.size v' (R ++ four x)) (b' : Below (w.alloc (.cells #[.int .u8 (x % 256), .int .u8 (x / 256 % 256), .int .u8 (x / 65536 % 256), .int .u8 (x / 16777216 % 256)] 5)).heap.size (w.alloc (.cells #[.int .u8 (x % 256), .int .u8 (x / 256 % 256), .int .u8 (x / 65536 % 256), .int .u8 (x / 16777216 % 256)] 5)) w') => (by
          have e2 : R ++ four x = R ++ nums (xs.take (0 + 1)) := by rw [e1.out]; rfl
          rw [e2] at o'
          obtain ⟨p5, q5, e5, -, -⟩ := ownK_lie o'
          exact ⟨p5, _, q5, e5, ownK_mono o' (by simp), (below_alloc w _).trans (b'.mono (by simp))⟩ : ∃ p5 n5 q5, v' = .slice p5 n5 q5 ∧ OwnK 5 .u8 w' w.heap.size v' (R ++ nums (xs.take (0 + 1))) ∧ Below w.heap.size w w'))
        have hf := Lib.hid (by omega : n1 + 4 ≤ 1000000)
        have hlt4 := Lib.hid (by omega : n1 < n1 + 4)
        simp only [Nat.add_zero] at hc
        clear g hR
        go_wp2_with (at_builtin; (refine wpList_growK kdB rfl _ _ rfl (p1 := p1) (n1 := n1) (c1 := n1) rfl L0.out (p2 := some ⟨w.heap.size, 0, none⟩) (m2 := 4) (c2 := 4) rfl L4.out (by decide) hlt4.out hf.out ?_); intro v' w' o' b'; obtain ⟨p5, n5, q5, rfl, o5, g5⟩ := hd.out v' w' o' b'; have O5 := Lib.hid o5; have G5 := Lib.hid g5; clear o' b' o5 g5)
        go_roundw
        case rel => exact ⟨0 + 1, hkm, by go_num, _, _, _, rfl, G5.out, .inr ⟨Nat.le_refl _, O5.out⟩⟩
        case measure => simp [intOf]; omega
      · have gb := below_alloc wr (.cells #[.int .u8 (x % 256), .int .u8 (x / 256 % 256), .int .u8 (x / 65536 % 256), .int .u8 (x / 16777216 % 256)] 5)
        have o2 := Lib.hid (ownK_below o gb)
        have hls : (R ++ nums (xs.take k)).length ≤ R.length + 4 * k := by rw [List.length_append, nums_len, List.length_take]; omega
        have HL2 := Lib.hid (show (R ++ nums (xs.take k)).length + 4 ≤ 1000000 by omega)
        have hB3 := Lib.hid (hB2.out.size)
        have hd := Lib.hid (fun v' w' (o' : OwnK 5 .u8 w' w.heap.size v' ((R ++ nums (xs.take k)) ++ four x)) (b' : Below w.heap.size (wr.alloc (.cells #[.int .u8 (x % 256), .int .u8 (x / 256 % 256), .int .u8 (x / 65536 % 256), .int .u8 (x / 16777216 % 256)] 5)) w') => (by
          rw [List.append_assoc, ← e1.out] at o'
          obtain ⟨p5, q5, e5, -, -⟩ := ownK_lie o'
          exact ⟨p5, _, q5, e5, o', hB2.out.trans b'⟩ : ∃ p5 n5 q5, v' = .slice p5 n5 q5 ∧ OwnK 5 .u8 w' w.heap.size v' (R ++ nums (xs.take (k + 1))) ∧ Below w.heap.size w w'))
        clear o g gb hls hR
        go_wp2_with (at_builtin; (refine wpList_appK kdB rfl _ _ rfl hB3.out (v1 := .slice p' n' c') (R1 := R ++ nums (xs.take k)) rfl o2.out (four x) rfl rfl (fun e => by cases e) HS.out HL2.out ?_); intro v' w' o' b' _; obtain ⟨p5, n5, q5, rfl, o5, g5⟩ := hd.out v' w' o' b'; have O5 := Lib.hid o5; have G5 := Lib.hid g5; clear o' b' o5 g5)
        go_roundw
        case rel => exact ⟨k + 1, hkm, by go_num, _, _, _, rfl, G5.out, .inr ⟨by omega, O5.out⟩⟩
        case measure => simp [intOf]; omega
    · have hkm' : k = m := by omega
      subst hkm'
      rcases hcase with ⟨h0, -⟩ | ⟨-, o⟩
      · omega
      have hf := Lib.hid (HO.out _ _ _ _ o g)
      clear o g HO HL HX HL1
      go_wp2
      exact hf.out
/-- The bytes of a text. -/
def nameL (s : ByteArray) : List Int := s.data.toList.map fun b => (b.toNat : Int)
theorem nameL_len (s : ByteArray) : (nameL s).length = s.size := by rw [nameL, List.length_map, Array.length_toList]; rfl
theorem nameL_cells (s : ByteArray) : kL .u8 (nameL s) = Lib.strCells s := by unfold kL nameL Lib.strCells; rw [List.map_map]; rfl
theorem nameL_byt (s : ByteArray) : Byt (nameL s) := by
  intro x hx
  obtain ⟨b, -, rfl⟩ := List.mem_map.1 hx
  have := b.toNat_lt
  omega
/-- append of a text. -/
theorem wpList_appT {w : World} {B : Nat} {ops : Array Oper} {rest : List Oper} {o : Oper} {a : Act} {Q : Exit → Act → World → Prop} (hgd : o.guard = none) (s x : Operand)
    (ho : o.op = .call { callee := .builtin .append, args := #[s, x], argTypes := #[32, 9] }) (hB : B ≤ w.heap.size) {v1 : Value} {R1 : List Int} (hs : a.eval s = v1) (hown : OwnK 5 .u8 w B v1 R1)
    (t : ByteArray) (hx : a.eval x = .string t) (hsz : R1.length + t.size ≤ 1000000)
    (h : ∀ v' w', OwnK 5 .u8 w' B v' (R1 ++ nameL t) → Below B w w' → wpList Tryd.prog ops Q rest (a.put o.dst v') w') : wpList Tryd.prog ops Q (o :: rest) a w := by
  obtain ⟨bb, hbb, hinfo⟩ := kdB.info
  obtain ⟨i, hi, hz0, hz1, hz2⟩ := info_parts info_u8
  refine Lib.wpList_append_own_string w hgd s x 32 9 ho B 5 i Tryd.underlying32 Tryd.underlying9 hi hz0 hz1 hz2 v1 R1.length (kL .u8 R1) hs hown t hx (by unfold maxLen; omega) (by omega) hB ?_
  intro v' w' h1 h2 _
  refine h v' w' ?_ (grown_below h2 hB fun g hg => (hown.lt g hg).1)
  unfold OwnK
  rw [List.length_append, nameL_len, kL, List.map_append]
  have e := nameL_cells t
  unfold kL at e
  rw [e]; exact h1
end Go.Proofs.YtogbhgbnminpdaaDoor.Pck
set_option maxRecDepth 100000
set_option linter.unusedVariables false
namespace Go.Proofs.YtogbhgbnminpdaaDoor.Pck
open Go.Proofs.YtogbhgbnminpdaaDoor Go.Proofs.YtogbhgbnminpdaaDoor.Ser Go.Proofs.YtogbhgbnminpdaaDoor.Img Go.Proofs.YtogbhgbnminpdaaDoor.Cfg
open Go.ChangeShapes Go.WideShapes Go.ChangeAt Go.RowKit
set_option linter.unusedVariables false
def ptL (p : Pt) : List Int := nums [(p.name.size : Int), p.pages, p.act] ++ nameL p.name
def chL (x : Ch) : List Int := nums [x.kind, x.frm, x.to, x.size, x.depth]
def wnL (x : Wn) : List Int := nums [x.start, x.len, x.part]
def b0 (c : Cf) : List Int := [84, 82, 67, 49] ++ nums [c.pages, c.major, c.switch, (c.parts.length : Int)]
def b1 (c : Cf) (k : Nat) : List Int := b0 c ++ (c.parts.take k).flatMap ptL
def b2 (c : Cf) : List Int := b1 c c.parts.length ++ nums [(c.chans.length : Int)]
def b3 (c : Cf) (k : Nat) : List Int := b2 c ++ (c.chans.take k).flatMap chL
def b4 (c : Cf) : List Int := b3 c c.chans.length ++ nums [(c.wins.length : Int)]
def b5 (c : Cf) (k : Nat) : List Int := b4 c ++ (c.wins.take k).flatMap wnL
/-- All bytes ahead of the sum; with it. -/
def headC (c : Cf) : List Int := b5 c c.wins.length
def packC (c : Cf) : List Int := headC c ++ nums [(headC c).sum]
theorem flat_succ {α : Type} (f : α → List Int) (l : List α) (k : Nat) (x : α) (h : l[k]? = some x) : (l.take (k + 1)).flatMap f = (l.take k).flatMap f ++ f x := by
  obtain ⟨hk, rfl⟩ := List.getElem?_eq_some_iff.1 h
  rw [List.take_succ_eq_append_getElem hk, List.flatMap_append]
  simp [List.flatMap]
theorem b1_succ (c : Cf) (k : Nat) (p : Pt) (h : c.parts[k]? = some p) : b1 c (k + 1) = (b1 c k ++ nums [(p.name.size : Int), p.pages, p.act]) ++ nameL p.name := by
  unfold b1; rw [flat_succ ptL _ k p h]; simp [ptL, List.append_assoc]
theorem b3_succ (c : Cf) (k : Nat) (x : Ch) (h : c.chans[k]? = some x) : b3 c (k + 1) = b3 c k ++ nums [x.kind, x.frm, x.to, x.size, x.depth] := by
  unfold b3; rw [flat_succ chL _ k x h]; simp [chL, List.append_assoc]
theorem b5_succ (c : Cf) (k : Nat) (x : Wn) (h : c.wins[k]? = some x) : b5 c (k + 1) = b5 c k ++ nums [x.start, x.len, x.part] := by
  unfold b5; rw [flat_succ wnL _ k x h]; simp [wnL, List.append_assoc]
theorem flat_le {α : Type} (f : α → List Int) (M : Nat) : ∀ (l : List α), (∀ x ∈ l, (f x).length ≤ M) → (l.flatMap f).length ≤ M * l.length
  | [], _ => by simp
  | a :: r, h => by
    have h1 := h a (List.mem_cons_self ..)
    have h2 := flat_le f M r (fun x hx => h x (List.mem_cons_of_mem _ hx))
    rw [List.flatMap_cons, List.length_append, List.length_cons, Nat.mul_succ]; omega
theorem chk_zero {c : Cf} (h : chk c = 0) : hostOk c ∧ partsOk c.parts ∧ memOk c.pages c.parts ∧ chansOk c.parts.length c.chans ∧ planOk c := by
  have h : chkB (@decide (hostOk c) (Classical.propDecidable _)) (@decide (partsOk c.parts) (Classical.propDecidable _)) (@decide (memOk c.pages c.parts) (Classical.propDecidable _)) (@decide (chansOk c.parts.length c.chans) (Classical.propDecidable _)) (@decide (planOk c) (Classical.propDecidable _)) = 0 := h
  by_cases g1 : hostOk c <;> by_cases g2 : partsOk c.parts <;> by_cases g3 : memOk c.pages c.parts <;> by_cases g4 : chansOk c.parts.length c.chans <;> by_cases g5 : planOk c <;> simp [chkB, g1, g2, g3, g4, g5] at h
  exact ⟨g1, g2, g3, g4, g5⟩
/-- How long they are. -/
theorem b_len {c : Cf} (h : chk c = 0) : (∀ k, (b1 c k).length ≤ 300) ∧ (∀ k, (b3 c k).length ≤ 700) ∧ (∀ k, (b5 c k).length ≤ 1200) := by
  obtain ⟨g1, g2, g3, g4, g5⟩ := chk_zero h
  have h0 : (b0 c).length = 20 := by simp [b0, nums_len]
  have e1 : ∀ k, (b1 c k).length ≤ 300 := fun k => by
    have h1 := flat_le ptL 32 (c.parts.take k) (fun x hx => by
      obtain ⟨i, hi, rfl⟩ := List.mem_iff_getElem.1 (List.mem_of_mem_take hx)
      have := (g2.2 i _ (List.getElem?_eq_getElem hi)).1.2.1
      unfold ptL; rw [List.length_append, nums_len, nameL_len]; show 4 * 3 + _ ≤ 32; omega)
    have h2 : (c.parts.take k).length ≤ 8 := by rw [List.length_take]; have := g2.1.2; omega
    unfold b1; rw [List.length_append, h0]; omega
  have h2 : (b2 c).length ≤ 304 := by unfold b2; rw [List.length_append, nums_len]; have := e1 c.parts.length; show _ + 4 * 1 ≤ 304; omega
  have e3 : ∀ k, (b3 c k).length ≤ 700 := fun k => by
    have h1 := flat_le chL 20 (c.chans.take k) (fun x hx => by unfold chL; rw [nums_len]; show 4 * 5 ≤ 20; omega)
    have h4 : (c.chans.take k).length ≤ 16 := by rw [List.length_take]; have := g4.1; omega
    unfold b3; rw [List.length_append]; omega
  have h4 : (b4 c).length ≤ 704 := by unfold b4; rw [List.length_append, nums_len]; have := e3 c.chans.length; show _ + 4 * 1 ≤ 704; omega
  have e5 : ∀ k, (b5 c k).length ≤ 1200 := fun k => by
    have h1 := flat_le wnL 12 (c.wins.take k) (fun x hx => by unfold wnL; rw [nums_len]; show 4 * 3 ≤ 12; omega)
    have h6 : (c.wins.take k).length ≤ 32 := by rw [List.length_take]; have := g5.2.2.1.2; omega
    unfold b5; rw [List.length_append]; omega
  exact ⟨e1, e3, e5⟩
theorem byt_flat {α : Type} (f : α → List Int) (l : List α) (h : ∀ x ∈ l, Byt (f x)) : Byt (l.flatMap f) := by
  intro b hb
  obtain ⟨x, hx, hbx⟩ := List.mem_flatMap.1 hb
  exact h x hx b hbx
theorem head_byt' (c : Cf) : Byt (headC c) := by
  have h0 : Byt (b0 c) := byt_append (by intro x hx; simp only [List.mem_cons, List.mem_nil_iff, or_false] at hx; rcases hx with rfl | rfl | rfl | rfl <;> omega) (nums_byt _)
  have h1 : Byt (b1 c c.parts.length) := byt_append h0 (byt_flat _ _ fun x _ => byt_append (nums_byt _) (nameL_byt _))
  have h3 : Byt (b3 c c.chans.length) := byt_append (byt_append h1 (nums_byt _)) (byt_flat _ _ fun x _ => nums_byt _)
  exact byt_append (byt_append h3 (nums_byt _)) (byt_flat _ _ fun x _ => nums_byt _)
end Go.Proofs.YtogbhgbnminpdaaDoor.Pck
