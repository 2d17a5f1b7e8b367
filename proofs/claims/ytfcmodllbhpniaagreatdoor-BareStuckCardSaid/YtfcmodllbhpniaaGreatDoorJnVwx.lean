/-
  Package bare: Reset (under way): rows that are made, what lies in them. | Package bare: a state that is laid into a machine that has none. | Package bare: Reset.
-/
import Derived.Test.YtfcmodllbhpniaaGreatDoorJnMor
set_option linter.unusedVariables false
set_option maxRecDepth 100000
namespace Go.Proofs.YtfcmodllbhpniaaGreatDoor.Ser
open Go.Proofs.YtfcmodllbhpniaaGreatDoor
open Go.ChangeShapes Go.WideShapes Go.ChangeAt Go.RowKit
/-- 'make([]T, m)'. -/
theorem make_runK {T E : TypeId} {k : IntKind} (K : Kd T E k) (w : World) (m : Nat) (hm : m ≤ 1048576) : ∃ w', (Instr.makeSlice T (i64 m) (i64 m)).run Tryz.prog w = .ok (.slice (some ⟨w.heap.size, 0, none⟩) m m) w' ∧ OwnK E k w' w.heap.size (.slice (some ⟨w.heap.size, 0, none⟩) m m) (List.replicate m 0) ∧ Below w.heap.size w w' := by
  obtain ⟨bb, hbb, hinfo⟩ := K.info
  obtain ⟨i, hi, hz0, hz1, hz2⟩ := info_parts hinfo
  have hby : i.bytes * m ≤ 8 * 1048576 := Nat.mul_le_mul (by omega) hm
  obtain ⟨w', h1, h2, h3⟩ := run_make_full (P := Tryz.prog) w w.heap.size T E i _ 1 K.under hi hz0 hz1 .i64 .i64 m (by omega) (by unfold maxLen; omega) (Nat.le_refl _)
  have e : (madeCells (Value.int k 0).cells (m * 1)).toList = kL k (List.replicate m 0) := by
    apply List.ext_getElem
    · simp [madeCells]
    · intro j a b
      simp [madeCells, Value.cells, Nat.mod_one]
  have h4 : OwnK E k w' w.heap.size (.slice (some ⟨w.heap.size, 0, none⟩) m m) (List.replicate m 0) := by
    unfold OwnK
    rw [List.length_replicate, ← e]
    exact h2
  exact ⟨w', h1, h4, ⟨h3.os, h3.tape, h3.output, h3.size, fun g hg => h3.block g hg (by simp)⟩⟩
/-- A row that fills its block. -/
theorem own_heap {E : TypeId} {k : IntKind} {w : World} {B g n : Nat} {xs : List Int} (h : OwnK E k w B (.slice (some ⟨g, 0, none⟩) n n) xs) : n = xs.length ∧ w.heap[g]? = some (.cells (kL k xs).toArray E (0, 0)) := by
  obtain ⟨-, h | ⟨g', cap, cur, he, -, hcell, -, -, hsz, htk⟩⟩ := h
  · obtain ⟨h, -⟩ := h
    cases h
  · injection he with h1 h2 h3
    injection h1 with h1
    injection h1 with h1
    subst h1; subst h2; subst h3
    refine ⟨rfl, ?_⟩
    rw [hcell]
    have : cur = (kL k xs).toArray := by
      rw [← htk]; apply Array.ext'; simp; rw [List.take_of_length_le]; simp [hsz]
    rw [this]
/-- A machine without its state: its Uart's block, its memory, the bytes that it begins with. -/
abbrev bones (L : Lay) (Z : List Value) (M rx tx : List Int) : List Thing := [Ua L.h (AL L) Z rx tx, MemT 87 L.hm L.g M, RowT 5 .u8 L.bv L.bs]
/-- What a walk sees of it. -/
structure Bones (w : World) (L : Lay) (Z : List Value) (M : List Int) : Prop where
  c0 : w.cell? ⟨L.h, 0, none⟩ = some L.bv
  c1 : w.cell? ⟨L.h, 1, none⟩ = some (i64 L.en)
  c3 : w.cell? ⟨L.h, 3, none⟩ = some (.pointer (some ⟨L.hm, 0, none⟩))
  cz : ∀ k, w.cell? ⟨L.h, 23 + k, none⟩ = Z[k]?
  fz : ∀ k, w.frozen? ⟨L.h, k, none⟩ = false
  mem : Mem 87 w L.hm L.g M
  own : OwnK 5 .u8 w 0 L.bv L.bs
section
variable {w w' : World} {F : Nat → Prop} {L : Lay} {Z : List Value} {M rx tx : List Int}
theorem bones_sees (h : (Group (bones L Z M rx tx)).is w F) : Bones w L Z M := by
  obtain ⟨Fs, hG⟩ := h
  obtain ⟨ring, f, v, U, -⟩ := hG.p 0 _ rfl
  exact ⟨U.cA 0 (by omega), U.cA 1 (by omega), U.cA 3 (by omega), U.cZ, U.frozen, (hG.p 1 _ rfl).1, (hG.p 2 _ rfl).1⟩
theorem bones_put {M' : List Int} (h : (Group (bones L Z M rx tx)).is w F) (hm : Mem 87 w' L.hm L.g M') (ho : Only L.g w w') : Step F (Group (bones L Z M' rx tx)) w w' := by
  obtain ⟨Fs, hG⟩ := h
  exact hG.turn (n := 1) rfl (MemT.turn (hG.p 1 _ rfl) hm ho)
theorem bones_clear (h : (Group (bones L Z M rx tx)).is w F) : Calls Tryz.prog 36 #[.pointer (some ⟨L.h, 4, none⟩)] w fun e w' => e = .returned (.tuple #[]) ∧ Step F (Group (bones L Z M [] tx)) w w' := by
  obtain ⟨Fs, hG⟩ := h
  exact (clear_says L.h (AL L) Z rx tx w _ (hG.p 0 _ rfl)).mono fun e w' ⟨h1, h2⟩ => ⟨h1, hG.turn (n := 0) rfl h2⟩
/-- All of the memory, as it begins. -/
def allB (L : Lay) (n : Nat) : List Int := L.bs ++ List.replicate (n - L.bs.length) 0
theorem allB_length {n : Nat} (h : L.bs.length ≤ n) : (allB L n).length = n := by simp [allB]; omega
theorem allB_byt {n : Nat} (h : Byt L.bs) : Byt (allB L n) := by
  intro b hb
  rcases List.mem_append.1 hb with hb | hb
  · exact h b hb
  · rw [List.mem_replicate] at hb; omega
theorem all_row (n : Nat) : ((kL .u8 (List.replicate n 0)).toArray.toList.take 0 ++ (u8L L.bs ++ (kL .u8 (List.replicate n 0)).toArray.toList.drop (0 + (u8L L.bs).length))).toArray = (u8L (allB L n)).toArray := by
  simp [allB]
theorem put_all {n : Nat} (hM : M.length = n) (h : L.bs.length ≤ n) (hn : n ≤ 1048576) : putL M 0 (allB L n) = allB L n := by
  have hl := allB_length h
  have hf : fitm M.length 0 (allB L n).length := by unfold fitm; omega
  unfold putL
  rw [if_pos hf]
  unfold Go.splice
  simp [hl, hM]
theorem src_row {g : Nat} {xs : List Int} (hb : Byt xs) (h : w.heap[g]? = some (.cells (u8L xs).toArray 5 (0, 0))) : Src8 w (some ⟨g, 0, none⟩) xs := by
  refine ⟨hb, fun _ => ⟨_, rfl, fun j u hu => ?_⟩⟩
  rw [Addr.add_lit, Nat.zero_add, cell_of_row w g j _ _ _ h]
  simpa using hu
end
end Go.Proofs.YtfcmodllbhpniaaGreatDoor.Ser
set_option maxRecDepth 100000
namespace Go.Proofs.YtfcmodllbhpniaaGreatDoor.Ser
open Go.Proofs.YtfcmodllbhpniaaGreatDoor
open Go.ChangeShapes Go.WideShapes Go.ChangeAt Go.RowKit
section
variable {w w1 : World} {F : Nat → Prop} {L : Lay} {Z : List Value} {M rx tx xs ys : List Int} {r c : Value}
abbrev clad (L : Lay) (Z : List Value) (M rx tx : List Int) (r : Value) (xs : List Int) (c : Value) (ys : List Int) : List Thing :=
  [Ua L.h (AL L) Z rx tx, MemT 87 L.hm L.g M, RowT 3 .i64 r xs, RowT 3 .i64 c ys, RowT 5 .u8 L.bv L.bs, RowT 5 .u8 (.slice none 0 0) []]
theorem bones_clad (h : (Group (bones L Z M rx tx)).is w F) (hb : Below w.heap.size w w1) (oR : OwnK 3 .i64 w1 w.heap.size r xs) (oC : OwnK 3 .i64 w1 w.heap.size c ys) (hne : ∀ i, c.ownBlock = some i → r.ownBlock ≠ some i) :
    Step F (Group (clad L Z M rx tx r xs c ys)) w w1 := by
  obtain ⟨Fs, hG⟩ := h
  have hl3 : (bones L Z M rx tx).length = 3 := rfl
  have old : ∀ (k : Nat) (P : Thing) i, (bones L Z M rx tx)[k]? = some P → Fs k i → i < w.heap.size := fun k P i hP hi => P.lt _ _ (hG.p k P hP) i hi
  have keep : ∀ (k : Nat) (P : Thing), (bones L Z M rx tx)[k]? = some P → P.is w1 (Fs k) := fun k P hP => P.firm _ _ _ (hG.p k P hP) fun i hi => hb.block i (old k P i hP hi)
  have o0 := fun i => old 0 _ i rfl
  have o1 := fun i => old 1 _ i rfl
  have o2 := fun i => old 2 _ i rfl
  have nR : ∀ i, r.ownBlock = some i → w.heap.size ≤ i := fun i hi => (oR.lt i hi).1
  have nC : ∀ i, c.ownBlock = some i → w.heap.size ≤ i := fun i hi => (oC.lt i hi).1
  let G : Nat → Nat → Prop := fun k i => (k = 0 ∧ Fs 0 i) ∨ (k = 1 ∧ Fs 1 i) ∨ (k = 2 ∧ r.ownBlock = some i) ∨ (k = 3 ∧ c.ownBlock = some i) ∨ (k = 4 ∧ Fs 2 i)
  refine ⟨fun i => ∃ k, k < 6 ∧ G k i, ⟨G, ⟨?_, ?_, fun i => Iff.rfl⟩⟩, ?_, But.of hb (Nat.le_refl _)⟩
  · intro k P hP
    match k, hP with
    | 0, hP =>
      obtain rfl := Option.some.inj hP
      have e : G 0 = Fs 0 := by funext i; apply propext; simp [G]
      rw [e]; exact keep 0 _ rfl
    | 1, hP =>
      obtain rfl := Option.some.inj hP
      have e : G 1 = Fs 1 := by funext i; apply propext; simp [G]
      rw [e]; exact keep 1 _ rfl
    | 2, hP =>
      obtain rfl := Option.some.inj hP
      have e : G 2 = fun i => r.ownBlock = some i := by funext i; apply propext; simp [G]
      rw [e]; exact ownK_zero oR
    | 3, hP =>
      obtain rfl := Option.some.inj hP
      have e : G 3 = fun i => c.ownBlock = some i := by funext i; apply propext; simp [G]
      rw [e]; exact ownK_zero oC
    | 4, hP =>
      obtain rfl := Option.some.inj hP
      have e : G 4 = Fs 2 := by funext i; apply propext; simp [G]
      rw [e]; exact keep 2 _ rfl
    | 5, hP =>
      obtain rfl := Option.some.inj hP
      have e : G 5 = fun i => (Value.slice none 0 0).ownBlock = some i := by funext i; apply propext; simp [G, Value.ownBlock]
      rw [e]; exact ⟨ownK_nil _ _ _ _, rfl⟩
    | k + 6, hP => simp at hP
  · intro k k' i _ _ h1 h2
    have d01 := hG.d 0 1 i (by rw [hl3]; decide) (by rw [hl3]; decide)
    have d02 := hG.d 0 2 i (by rw [hl3]; decide) (by rw [hl3]; decide)
    have d12 := hG.d 1 2 i (by rw [hl3]; decide) (by rw [hl3]; decide)
    have q0 := o0 i
    have q1 := o1 i
    have q2 := o2 i
    have n0 := nR i
    have n1 := nC i
    have nn := hne i
    rcases h1 with ⟨rfl, h1⟩ | ⟨rfl, h1⟩ | ⟨rfl, h1⟩ | ⟨rfl, h1⟩ | ⟨rfl, h1⟩ <;> rcases h2 with ⟨rfl, h2⟩ | ⟨rfl, h2⟩ | ⟨rfl, h2⟩ | ⟨rfl, h2⟩ | ⟨rfl, h2⟩ <;>
      first
        | rfl
        | exact absurd (d01 h1 h2) (by decide)
        | exact absurd (d01 h2 h1) (by decide)
        | exact absurd (d02 h1 h2) (by decide)
        | exact absurd (d02 h2 h1) (by decide)
        | exact absurd (d12 h1 h2) (by decide)
        | exact absurd (d12 h2 h1) (by decide)
        | exact absurd h1 (nn h2)
        | exact absurd h2 (nn h1)
        | (exfalso; have a1 := q0 h1; have a2 := n0 h2; omega)
        | (exfalso; have a1 := q0 h1; have a2 := n1 h2; omega)
        | (exfalso; have a1 := q1 h1; have a2 := n0 h2; omega)
        | (exfalso; have a1 := q1 h1; have a2 := n1 h2; omega)
        | (exfalso; have a1 := q2 h1; have a2 := n0 h2; omega)
        | (exfalso; have a1 := q2 h1; have a2 := n1 h2; omega)
        | (exfalso; have a1 := q0 h2; have a2 := n0 h1; omega)
        | (exfalso; have a1 := q0 h2; have a2 := n1 h1; omega)
        | (exfalso; have a1 := q1 h2; have a2 := n0 h1; omega)
        | (exfalso; have a1 := q1 h2; have a2 := n1 h1; omega)
        | (exfalso; have a1 := q2 h2; have a2 := n0 h1; omega)
        | (exfalso; have a1 := q2 h2; have a2 := n1 h1; omega)
  · rintro i ⟨k, -, (⟨-, h⟩ | ⟨-, h⟩ | ⟨-, h⟩ | ⟨-, h⟩ | ⟨-, h⟩)⟩
    · exact .inl ((hG.f i).2 ⟨0, by rw [hl3]; decide, h⟩)
    · exact .inl ((hG.f i).2 ⟨1, by rw [hl3]; decide, h⟩)
    · exact .inr (nR i h)
    · exact .inr (nC i h)
    · exact .inl ((hG.f i).2 ⟨2, by rw [hl3]; decide, h⟩)
/-- The state's cells written. -/
theorem clad_put (h : (Group (clad L Z M rx tx r xs c ys)).is w F) (hZ : Z.length = 6) (pc : Int) : Step F (Group (clad L [r, i64 pc, c, .bool false, .bool false, .slice none 0 0] M rx tx r xs c ys)) w (put6 w L.h r pc c false false (.slice none 0 0)) := by
  obtain ⟨z0, z1, z2, z3, z4, z5, rfl⟩ : ∃ z0 z1 z2 z3 z4 z5, Z = [z0, z1, z2, z3, z4, z5] := by
    match Z, hZ with
    | [a, b, c, d, e, f], _ => exact ⟨a, b, c, d, e, f, rfl⟩
  refine Group.turn h (n := 0) rfl fun F2 p2 => ?_
  refine Step.trans (Ua.setZ p2 0 (by show 0 < 6; omega) r) fun F3 p3 => Step.trans (Ua.setZ p3 1 (by show 1 < 6; omega) (i64 pc)) fun F4 p4 => Step.trans (Ua.setZ p4 2 (by show 2 < 6; omega) c) fun F5 p5 =>
    Step.trans (Ua.setZ p5 3 (by show 3 < 6; omega) (.bool false)) fun F6 p6 => Step.trans (Ua.setZ p6 4 (by show 4 < 6; omega) (.bool false)) fun F7 p7 => Ua.setZ p7 5 (by show 5 < 6; omega) (.slice none 0 0)
/-- The control register of the beginning. -/
theorem clad_c0 {g n k : Nat} (h : (Group (clad L Z M rx tx r xs (.slice (some ⟨g, 0, none⟩) n k) ys)).is w F) (hl : 0 < ys.length) (x : Int) : Step F (Group (clad L Z M rx tx r xs (.slice (some ⟨g, 0, none⟩) n k) (ys.set 0 x))) w (w.setCell ⟨g, 0, none⟩ (i64 x)) :=
  Group.turn h (n := 3) rfl fun _ h => RowT.setAt h 0 hl x
end
end Go.Proofs.YtfcmodllbhpniaaGreatDoor.Ser
set_option maxRecDepth 100000
namespace Go.Proofs.YtfcmodllbhpniaaGreatDoor.Ser
open Go.Proofs.YtfcmodllbhpniaaGreatDoor
open Go.ChangeShapes Go.WideShapes Go.ChangeAt Go.RowKit
/-- A machine as Reset leaves it; n: its memory's bytes. -/
def Ma.anew (L : Lay) (n : Nat) (tx : List Int) : Ma := ⟨List.replicate 16 0, L.en, 4 :: List.replicate 10 0, allB L n, [], tx, false, false⟩
theorem make16 (w : World) : ∃ g w', (Instr.makeSlice 48 (.int .i64 16) (.int .i64 16)).run Tryz.prog w = .ok (.slice (some ⟨g, 0, none⟩) 16 16) w' ∧ OwnK 3 .i64 w' w.heap.size (.slice (some ⟨g, 0, none⟩) 16 16) (List.replicate 16 0) ∧ Below w.heap.size w w' := by
  obtain ⟨w', h1, h2, h3⟩ := make_runK kdI w 16 (by omega)
  exact ⟨_, w', h1, h2, h3⟩
theorem make11 (w : World) : ∃ g w', (Instr.makeSlice 48 (.int .i64 11) (.int .i64 11)).run Tryz.prog w = .ok (.slice (some ⟨g, 0, none⟩) 11 11) w' ∧ OwnK 3 .i64 w' w.heap.size (.slice (some ⟨g, 0, none⟩) 11 11) (List.replicate 11 0) ∧ Below w.heap.size w w' := by
  obtain ⟨w', h1, h2, h3⟩ := make_runK kdI w 11 (by omega)
  exact ⟨_, w', h1, h2, h3⟩
section
variable {w : World} {F : Nat → Prop} {L : Lay} {Z : List Value} {M rx tx : List Int}
theorem clad_end {w5 : World} {n g : Nat} {r : Value} (h : Step F (Group (clad L [r, i64 L.en, .slice (some ⟨g, 0, none⟩) 11 11, .bool false, .bool false, .slice none 0 0] (allB L n) [] tx r (List.replicate 16 0) (.slice (some ⟨g, 0, none⟩) 11 11) (List.replicate 11 0))) w w5) (hf : (Ma.anew L n tx).Fine) :
    w5.cell? ⟨L.h, 25, none⟩ = some (.slice (some ⟨g, 0, none⟩) 11 11) ∧ w5.cell? ⟨g, 0, none⟩ = some (i64 0) ∧ w5.frozen? ⟨g, 0, none⟩ = false ∧ Step F (Bm L (Ma.anew L n tx)) w (w5.setCell ⟨g, 0, none⟩ (i64 4)) := by
  obtain ⟨F5, p5, n5, b5⟩ := h
  have hfin : Step F5 (Bm L (Ma.anew L n tx)) w5 (w5.setCell ⟨g, 0, none⟩ (i64 4)) := bm_of (rv := r) (cv := .slice (some ⟨g, 0, none⟩) 11 11) (ov' := .slice none 0 0) hf (clad_c0 p5 (by decide) 4)
  obtain ⟨Fs, hG⟩ := p5
  obtain ⟨ring, f, v, U, -⟩ := hG.p 0 _ rfl
  obtain ⟨g', c', e, -, -, -, -, h1, h2, -⟩ := ownK_cell (j := 0) (hG.p 3 _ rfl).1 (by decide)
  injection e with e1 e2 e3
  injection e1 with e1
  injection e1 with e1
  subst e1
  exact ⟨U.cZ 2, h1, h2, hfin.join n5 b5⟩
set_option maxHeartbeats 2000000 in
theorem bm_reset (hG : (Group (bones L Z M rx tx)).is w F) (hZ : Z.length = 6) (hb : Byt L.bs) {n : Nat} (hM : M.length = n) (hn : n ≤ 1048576) (hl : L.bs.length ≤ n) (hf : (Ma.anew L n tx).Fine) :
    Calls Tryz.prog 16 #[.pointer (some ⟨L.h, 0, none⟩)] w fun e w' => e = .returned (.tuple #[]) ∧ Step F (Bm L (Ma.anew L n tx)) w w' := by
  have B := bones_sees hG
  have c3 := B.c3
  have hsz := size_says B.mem
  rw [hM] at hsz
  obtain ⟨w1, hmk, o1, b1⟩ := make_runK kdB w n hn
  have G1 : (Group (bones L Z M rx tx)).is w1 F := (Group _).firm _ _ _ hG fun i hi => b1.block i ((Group _).lt _ _ hG i hi)
  have d0 := (bones_sees G1).c0
  have d3 := (bones_sees G1).c3
  obtain ⟨-, hce⟩ := own_heap o1
  obtain ⟨p, c, hbv, -, li⟩ := ownK_lie (bones_sees G1).own
  obtain ⟨k, hk⟩ : ∃ k, L.bs.length = k := ⟨_, rfl⟩
  rw [hk] at hbv li
  rw [hbv] at d0
  have HG := Lib.hid hG; have HG1 := Lib.hid G1; have HL := Lib.hid li; have HB := Lib.hid b1
  have gl : w.heap.size < w1.heap.size := (Array.getElem?_eq_some_iff.1 hce).1
  have HK := Lib.hid hk
  have HC := Lib.hid hce
  have HM := Lib.hid hM
  clear B hG G1 o1 b1 hbv li hk hce hM
  go_enter Tryz.func16, Tryz.ntmps16
  go_upto_region 1 with (go_at_call 29; refine hsz.mono ?_; rintro e w' ⟨rfl, rfl⟩)
  clear hmk hsz c3
  go_cut [] from 3 (fun wx => wx.heap[w.heap.size]? = some (.cells (u8L (allB L n)).toArray 5 (0, 0)) ∧ Below w.heap.size w wx)
  case first =>
    have hlen := HK.out
    by_cases hk : k = 0
    · subst hk
      have hz : (kL .u8 (List.replicate n 0)).toArray = (u8L (allB L n)).toArray := by
        have : L.bs = [] := List.eq_nil_of_length_eq_zero hlen
        simp [allB, this]
      have hout : w1.heap[w.heap.size]? = some (.cells (u8L (allB L n)).toArray 5 (0, 0)) ∧ Below w.heap.size w w1 := ⟨by rw [HC.out, hz], HB.out⟩
      have HO := Lib.hid hout
      clear hout hz hlen
      go_wp2_with (refine wpList_copy_nothing rfl _ _ 22 22 rfl 5 Tryz.underlying22 size_u8 _ _ _ _ _ _ rfl rfl (Nat.zero_min _) ?_)
      go_meet
      case rel => exact HO.out
    · obtain ⟨ad, rfl, hcs⟩ := HL.out.src (by omega)
      have HO := Lib.hid (fun (w2 : World) (e : w2 = w1.setRow w.heap.size (u8L (allB L n)).toArray) => (show w2.heap[w.heap.size]? = some (.cells (u8L (allB L n)).toArray 5 (0, 0)) ∧ Below w.heap.size w w2 from by
        subst e
        refine ⟨setRow_heap _ _ _ _ _ _ HC.out, ?_⟩
        have b := HB.out
        have q := setRow_only w1 w.heap.size (u8L (allB L n)).toArray
        exact ⟨q.os.trans b.os, q.tape.trans b.tape, q.output.trans b.output, by have := b.size; have := q.size; omega, fun i hi => (q.block i (by omega)).trans (b.block i hi)⟩))
      go_wp2_with (refine wpList_copy_own rfl _ _ 22 22 rfl 5 Tryz.underlying22 size_u8 w.heap.size 0 n n ad k c rfl rfl _ _ HC.out (u8L L.bs) (by rw [List.length_map, hlen]; exact (Nat.min_eq_left (by omega)).symm) hcs (by rw [List.length_map, hlen]; simp; omega) (u8_one _) ?_; rw [all_row]; obtain ⟨w2, hw2⟩ : ∃ w2, w2 = w1.setRow w.heap.size (u8L (allB L n)).toArray := ⟨_, rfl⟩; rw [← hw2]; have H2 := HO.out _ hw2; have HH := Lib.hid H2; clear H2 hw2)
      go_meet
      case rel => exact HH.out
  case rest =>
    obtain ⟨hh, hb2⟩ := hcut
    have G2 : (Group (bones L Z M rx tx)).is wc F := (Group _).firm _ _ _ HG.out fun i hi => hb2.block i ((Group _).lt _ _ HG.out i hi)
    have s2 : Step F (Group (bones L Z M rx tx)) w wc := Step.after hb2 (Step.refl G2)
    have c3 := (bones_sees G2).c3
    have hput := put_says (bones_sees G2).mem 0 (by omega) (some ⟨w.heap.size, 0, none⟩) n n (by omega) (allB L n) (allB_length hl) (src_row (allB_byt hb) hh)
    have HP := Lib.hid (fun (e : Ending) (w3 : World) (h : PutP 87 L.hm L.g M 0 (allB L n) wc e w3) => (show (∃ q, e = .returned (.bool q)) ∧ Step F (Group (bones L Z (allB L n) rx tx)) w w3 from by
      obtain ⟨h1, h2, h3⟩ := h
      rw [put_all HM.out hl hn] at h2
      exact ⟨⟨_, h1⟩, Step.after hb2 (bones_put G2 h2 h3)⟩))
    have HC3 := Lib.hid (fun (w3 : World) (h : Step F (Group (bones L Z (allB L n) rx tx)) w w3) => (show Calls Tryz.prog 36 #[.pointer (some ⟨L.h, 4, none⟩)] w3 fun e w4 => e = .returned (.tuple #[]) ∧ Step F (Group (bones L Z (allB L n) [] tx)) w w4 from by
      obtain ⟨F3, p3, n3, b3⟩ := h
      exact (bones_clear p3).mono fun e w4 h => ⟨h.1, h.2.join n3 b3⟩))
    clear hh G2 s2 hb2
    go_upto_region 3 with (go_at_call 35; refine hput.mono ?_; intro e w3 h3; obtain ⟨⟨q3, rfl⟩, s3⟩ := HP.out _ _ h3; have hcl := HC3.out _ s3; clear h3 s3)
    go_upto_region 4 with (go_at_call 36; refine hcl.mono ?_; rintro e w4 ⟨rfl, s4⟩)
    clear hput hcl HP HC3 HG HG1 HL HB HK HC HM d0 d3 c3 hb
    obtain ⟨F4, p4, n4, b4⟩ := s4
    obtain ⟨ga, wa, hma, oa, ba⟩ := make16 w4.drew
    obtain ⟨gab, wab, hmab, oab, bab⟩ := make11 wa
    obtain ⟨gb, wb, hmb, ob, bb⟩ := make11 w4.drew
    obtain ⟨gba, wba, hmba, oba, bba⟩ := make16 wb
    have Ba : Below w4.heap.size w4 wa := (Below.refl _ w4).drew.trans ba
    have Bb : Below w4.heap.size w4 wb := (Below.refl _ w4).drew.trans bb
    have Bab : Below w4.heap.size w4 wab := Ba.trans (bab.mono Ba.size)
    have Bba : Below w4.heap.size w4 wba := Bb.trans (bba.mono Bb.size)
    have Q : ∀ u, Below w4.heap.size w4 u → Bones u L Z (allB L n) := fun u x => bones_sees ((Group _).firm _ _ _ p4 fun i hi => x.block i ((Group _).lt _ _ p4 i hi))
    have e4 := (Q _ (Below.refl _ _)).c1
    have ea := (Q _ Ba).c1
    have eb := (Q _ Bb).c1
    have eab := (Q _ Bab).c1
    have eba := (Q _ Bba).c1
    have RA : OwnK 3 .i64 wab w4.heap.size (.slice (some ⟨ga, 0, none⟩) 16 16) (List.replicate 16 0) := ownK_below oa bab
    have CA : OwnK 3 .i64 wab w4.heap.size (.slice (some ⟨gab, 0, none⟩) 11 11) (List.replicate 11 0) := ownK_mono oab Ba.size
    have CB : OwnK 3 .i64 wba w4.heap.size (.slice (some ⟨gb, 0, none⟩) 11 11) (List.replicate 11 0) := ownK_below ob bba
    have RB : OwnK 3 .i64 wba w4.heap.size (.slice (some ⟨gba, 0, none⟩) 16 16) (List.replicate 16 0) := ownK_mono oba Bb.size
    have NA : ∀ i, (Value.slice (some ⟨gab, 0, none⟩) 11 11).ownBlock = some i → (Value.slice (some ⟨ga, 0, none⟩) 16 16).ownBlock ≠ some i := fun i h1 h2 => by
      have a1 := (oab.lt i h1).1
      have a2 := (oa.lt i h2).2
      omega
    have NB : ∀ i, (Value.slice (some ⟨gb, 0, none⟩) 11 11).ownBlock = some i → (Value.slice (some ⟨gba, 0, none⟩) 16 16).ownBlock ≠ some i := fun i h1 h2 => by
      have a1 := (ob.lt i h1).2
      have a2 := (oba.lt i h2).1
      omega
    have SA : Step F (Group (clad L [.slice (some ⟨ga, 0, none⟩) 16 16, i64 L.en, .slice (some ⟨gab, 0, none⟩) 11 11, .bool false, .bool false, .slice none 0 0] (allB L n) [] tx (.slice (some ⟨ga, 0, none⟩) 16 16) (List.replicate 16 0) (.slice (some ⟨gab, 0, none⟩) 11 11) (List.replicate 11 0))) w (put6 wab L.h (.slice (some ⟨ga, 0, none⟩) 16 16) L.en (.slice (some ⟨gab, 0, none⟩) 11 11) false false (.slice none 0 0)) :=
      ((bones_clad p4 Bab RA CA NA).trans fun F5 p5 => clad_put p5 hZ L.en).join n4 b4
    have SB : Step F (Group (clad L [.slice (some ⟨gba, 0, none⟩) 16 16, i64 L.en, .slice (some ⟨gb, 0, none⟩) 11 11, .bool false, .bool false, .slice none 0 0] (allB L n) [] tx (.slice (some ⟨gba, 0, none⟩) 16 16) (List.replicate 16 0) (.slice (some ⟨gb, 0, none⟩) 11 11) (List.replicate 11 0))) w (put6 wba L.h (.slice (some ⟨gba, 0, none⟩) 16 16) L.en (.slice (some ⟨gb, 0, none⟩) 11 11) false false (.slice none 0 0)) :=
      ((bones_clad p4 Bba RB CB NB).trans fun F5 p5 => clad_put p5 hZ L.en).join n4 b4
    obtain ⟨z0, z1, z2, z3, z4, z5, rfl⟩ : ∃ z0 z1 z2 z3 z4 z5, Z = [z0, z1, z2, z3, z4, z5] := by
      match Z, hZ with
      | [a, b, c, d, e, f], _ => exact ⟨a, b, c, d, e, f, rfl⟩
    have ka := Q _ Bab
    have kb := Q _ Bba
    have a0 : wab.cell? ⟨L.h, 23, none⟩ = some z0 := ka.cz 0
    have a1 : wab.cell? ⟨L.h, 24, none⟩ = some z1 := ka.cz 1
    have a2 : wab.cell? ⟨L.h, 25, none⟩ = some z2 := ka.cz 2
    have a3 : wab.cell? ⟨L.h, 26, none⟩ = some z3 := ka.cz 3
    have a4 : wab.cell? ⟨L.h, 27, none⟩ = some z4 := ka.cz 4
    have a5 : wab.cell? ⟨L.h, 28, none⟩ = some z5 := ka.cz 5
    have fa := ka.fz
    have b0 : wba.cell? ⟨L.h, 23, none⟩ = some z0 := kb.cz 0
    have b1 : wba.cell? ⟨L.h, 24, none⟩ = some z1 := kb.cz 1
    have b2 : wba.cell? ⟨L.h, 25, none⟩ = some z2 := kb.cz 2
    have b3 : wba.cell? ⟨L.h, 26, none⟩ = some z3 := kb.cz 3
    have b5 : wba.cell? ⟨L.h, 27, none⟩ = some z4 := kb.cz 4
    have b6 : wba.cell? ⟨L.h, 28, none⟩ = some z5 := kb.cz 5
    have fb := kb.fz
    have HSA := Lib.hid SA
    have HSB := Lib.hid SB
    clear ka kb Q SA SB RA RB CA CB NA NB Ba Bb Bab Bba oa oab ob oba ba bab bb bba p4 n4 b4
    go_region_with (fail)
    all_goals
      first
        | (obtain ⟨w5, hw5⟩ : ∃ w5, w5 = put6 wab L.h (.slice (some ⟨ga, 0, none⟩) 16 16) L.en (.slice (some ⟨gab, 0, none⟩) 11 11) false false (.slice none 0 0) := ⟨_, rfl⟩
           unfold put6 at hw5
           rw [← hw5]
           have s5 := HSA.out)
        | (obtain ⟨w5, hw5⟩ : ∃ w5, w5 = put6 wba L.h (.slice (some ⟨gba, 0, none⟩) 16 16) L.en (.slice (some ⟨gb, 0, none⟩) 11 11) false false (.slice none 0 0) := ⟨_, rfl⟩
           unfold put6 at hw5
           rw [← hw5]
           have s5 := HSB.out)
      unfold put6 at s5
      rw [← hw5] at s5
      obtain ⟨c25, cg, fg, fin⟩ := clad_end s5 hf
      have HF := Lib.hid fin
      clear s5 fin hw5 hf HSA HSB hma hmab hmb hmba a0 a1 a2 a3 a4 a5 b0 b1 b2 b3 b5 b6 fa fb e4 ea eb eab eba
      go_wp2_with fail
      go_end0
      exact ⟨rfl, HF.out⟩
end
end Go.Proofs.YtfcmodllbhpniaaGreatDoor.Ser
