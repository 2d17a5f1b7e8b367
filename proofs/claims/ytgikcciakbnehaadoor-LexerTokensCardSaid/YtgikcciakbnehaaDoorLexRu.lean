
/-
  Package lexer: isBroken, runesOf.
-/
import Derived.Test.YtgikcciakbnehaaDoorLexFn
import Derived.Test.YtgikcciakbnehaaDoorLexBd
import Derived.Test.YtgikcciakbnehaaDoorCpuRow
import Derived.Laws.MakeOwn
import Derived.Laws.RangeAny
import Derived.Lib.OthersKept
set_option maxRecDepth 100000
namespace Go.Proofs.YtgikcciakbnehaaDoor.Lex
open Go.Proofs.YtgikcciakbnehaaDoor Go.Proofs.YtgikcciakbnehaaDoor.Ser
open Go.ChangeShapes Go.WideShapes Go.ChangeAt Go.RowKit
/-- utf8's tables lie. -/
def U8 (w : World) : Prop := Lib.Utf8Tabs 0 1 w
theorem U8.later {w w' : World} (h : U8 w) (hb : Below w.heap.size w w') : U8 w' := by
  have key : ∀ a v, w.cell? a = some v → w'.cell? a = some v := fun a v hc => by
    rw [World.cell?_of_block (hb.block a.block (World.block_lt_of_cell? w a hc))]; exact hc
  exact ⟨fun c hc => key _ _ (h.1 c hc), fun i hi => ⟨key _ _ (h.2 i hi).1, key _ _ (h.2 i hi).2⟩⟩
theorem broken_says (s : ByteArray) {w : World} (hT : U8 w) : Calls Tryd.prog 22 #[.string s] w fun e w' => e = .returned (.bool (decide (((Lib.decodeGo s).2 : Int) = 1))) ∧ Below w.heap.size w w' := by
  have hc := Tryd.utf8_DecodeRuneInString s w hT
  obtain ⟨a, ha⟩ : ∃ a : Nat, (Lib.decodeGo s).1 = a := ⟨_, rfl⟩
  obtain ⟨b, hb⟩ : ∃ b : Nat, (Lib.decodeGo s).2 = b := ⟨_, rfl⟩
  rw [ha, hb] at hc
  rw [hb]
  clear ha hb hT
  go_enter Tryd.func22, Tryd.ntmps22
  go_wp2_with (go_at_call 38; refine hc.mono ?_; rintro e w1 ⟨rfl, b1⟩)
  go_ret
  exact ⟨by congr 2, b1⟩
theorem kd32 : Kd 37 21 .i32 := ⟨Tryd.underlying37, 4, by decide, by kernel_rfl⟩
theorem extract_list (s : ByteArray) (pos : Nat) : (s.extract pos s.size).data.toList = s.data.toList.drop pos := by
  have e : (s.extract pos s.size).data = s.data.extract pos s.size := by simp
  rw [e, Array.toList_extract, List.extract_eq_take_drop, List.take_of_length_le]
  rw [List.length_drop, Array.length_toList]
  exact Nat.le_refl _
theorem decodeGo_at (s : ByteArray) (pos : Nat) (h : pos < s.size) : Lib.decodeGo (s.extract pos s.size) = Lib.decodeL (s.data.toList.drop pos) := by
  have hs : (s.extract pos s.size).size ≠ 0 := by rw [ByteArray.size_extract]; omega
  unfold Lib.decodeGo
  rw [if_neg hs, ← Lib.decodeL_drop, List.drop_zero, extract_list]
theorem src_new (w : World) (x : Int) : SrcK .i32 (w.alloc (.cells #[.int .i32 x] 21)) (some ⟨w.heap.size, 0, none⟩) [x] := by
  intro _
  refine ⟨_, rfl, fun j u hu => ?_⟩
  match j, hu with
  | 0, hu =>
    simp only [List.map_cons, List.map_nil, List.getElem?_cons_zero, Option.some.injEq] at hu
    subst hu
    rw [Addr.add_lit, cell_of_row _ w.heap.size _ _ _ _ (MapKept.heap_alloc w _).1]
    rfl
  | j + 1, hu => simp at hu
/-- 'append(runes, x)'. -/
theorem wpList_app32 {w : World} {B : Nat} {v : Value} {xs : List Int} {ops : Array Oper} {rest : List Oper} {o : Oper} {a : Act} {Q : Exit → Act → World → Prop} (hgd : o.guard = none) (s x : Operand)
    (ho : o.op = .call { callee := .builtin .append, args := #[s, x], argTypes := #[37, 37] }) (hB : B ≤ w.heap.size) (hs : a.eval s = v) (hown : OwnK 21 .i32 w B v xs) (y : Int) (N : Nat) (hx : a.eval x = .slice (some ⟨N, 0, none⟩) 1 1)
    (hsrc : SrcK .i32 w (some ⟨N, 0, none⟩) [y]) (hn : xs.length ≤ 1000000)
    (h : ∀ v' w', OwnK 21 .i32 w' B v' (xs ++ [y]) → w.grownBy w' v.ownBlock → (v'.ownBlock = v.ownBlock ∨ v'.ownBlock = some w.heap.size) → wpList Tryd.prog ops Q rest (a.put o.dst v') w') : wpList Tryd.prog ops Q (o :: rest) a w := by
  obtain ⟨bb, hbb, hinfo⟩ := kd32.info
  obtain ⟨i, hi, hz0, hz1, hz2⟩ := info_parts hinfo
  obtain ⟨ad, e, hcs⟩ := hsrc (by simp)
  obtain rfl := Option.some.inj e
  obtain ⟨v', w', hr, h2, h3, -, h5⟩ := run_append_own_at (P := Tryd.prog) w B 37 o.type 21 i _ 1 bb kd32.under hi hz0 hz1 hz2 rfl (by decide) v xs.length (kL .i32 xs) hown ⟨N, 0, none⟩ 1 1 (kL .i32 [y]) rfl hcs (kL_one _ _) (by unfold maxLen; omega) (by have : (xs.length + 1) * bb ≤ 1000001 * 8 := Nat.mul_le_mul (by omega) hbb; omega) hB
  refine Lib.wpList_append_run w hgd s x _ _ ho v _ hs hx v' w' hr (h v' w' ?_ h3 h5)
  unfold OwnK
  rw [List.length_append, List.length_singleton, show kL .i32 (xs ++ [y]) = kL .i32 xs ++ kL .i32 [y] from List.map_append]
  exact h2
theorem ownK_slice {w : World} {B : Nat} {v : Value} {xs : List Int} (h : OwnK 21 .i32 w B v xs) : ∃ p n c, v = .slice p n c := by
  obtain ⟨p, c, e, -⟩ := ownK_lie h
  exact ⟨p, _, c, e⟩
/-- So many bytes are left. -/
def itLeft (I : Nat) (w : World) : Nat := match w.heap[I]? with | some (.stringIter s pos) => s.size - pos | _ => 0
/-- The runes so far, and the iterator in block I. -/
structure Ru (W w : World) (I : Nat) (s : ByteArray) (pos : Nat) (v : Value) (xs : List Int) : Prop where
  eq : xs ++ rs (s.data.toList.drop pos) = rs s.data.toList
  own : OwnK 21 .i32 w W.heap.size v xs
  it : w.heap[I]? = some (.stringIter s pos)
  ne : v.ownBlock ≠ some I
  lo : W.heap.size ≤ I
  b : Below W.heap.size W w
section
variable {W w w' : World} {I : Nat} {s : ByteArray} {pos : Nat} {v v' : Value} {xs : List Int}
theorem Ru.left (R : Ru W w I s pos v xs) : itLeft I w = s.size - pos := by unfold itLeft; rw [R.it]
theorem Ru.lt (R : Ru W w I s pos v xs) : I < w.heap.size := (Array.getElem?_eq_some_iff.1 R.it).1
theorem Ru.still (R : Ru W w I s pos v xs) (hb : Below w.heap.size w w') : Ru W w' I s pos v xs :=
  ⟨R.eq, ownK_below R.own hb, (hb.block I R.lt).trans R.it, R.ne, R.lo, R.b.trans (hb.mono R.b.size)⟩
theorem iter_own (R : Ru W w I s pos v xs) (p : Nat) : OwnK 21 .i32 (w.iterAt I s p) W.heap.size v xs :=
  ownK_kept R.own fun g hg => Lib.iterAt_other w I g s p (fun e => R.ne (by rw [hg, e]))
theorem iter_it (R : Ru W w I s pos v xs) (p : Nat) : (w.iterAt I s p).heap[I]? = some (.stringIter s p) := Lib.iterAt_heap w I s pos p R.it
theorem iter_b (R : Ru W w I s pos v xs) (p : Nat) : Below W.heap.size W (w.iterAt I s p) := Lib.below_iterAt R.b R.lo s p
end
/-- The same without the runes that are still to come. -/
structure RuX (W w : World) (I : Nat) (s : ByteArray) (pos : Nat) (v : Value) (xs : List Int) : Prop where
  own : OwnK 21 .i32 w W.heap.size v xs
  it : w.heap[I]? = some (.stringIter s pos)
  ne : v.ownBlock ≠ some I
  lo : W.heap.size ≤ I
  b : Below W.heap.size W w
theorem RuX.app {W w w' : World} {I : Nat} {s : ByteArray} {pos : Nat} {v v' : Value} {xs xs' : List Int} {o : Obj} (R : RuX W w I s pos v xs) (k1 : OwnK 21 .i32 w' W.heap.size v' xs') (k2 : (w.alloc o).grownBy w' v.ownBlock) (k3 : v'.ownBlock = v.ownBlock ∨ v'.ownBlock = some (w.alloc o).heap.size) : RuX W w' I s pos v' xs' := by
  have hI : I < w.heap.size := (Array.getElem?_eq_some_iff.1 R.it).1
  refine ⟨k1, ?_, ?_, R.lo, ?_⟩
  · rw [k2.block I (by simp; omega) (fun e => R.ne e.symm), Below.heap_alloc _ _ _ hI]; exact R.it
  · rcases k3 with e | e
    · rw [e]; exact R.ne
    · rw [e]; intro e'; have := Option.some.inj e'; simp at this; omega
  · have b1 : Below W.heap.size W (w.alloc o) := R.b.alloc R.b.size o
    exact b1.trans ⟨k2.os, k2.tape, k2.output, k2.size, fun i hi => k2.block i (by have := b1.size; omega) (fun e => by have := (R.own.lt i e.symm).1; omega)⟩
/-- What runesOf answers. -/
def RuA (W : World) (s : ByteArray) (e : Ending) (w' : World) : Prop := ∃ v, e = .returned v ∧ OwnK 21 .i32 w' W.heap.size v (rs s.data.toList) ∧ Below W.heap.size W w'
set_option maxRecDepth 100000 in
set_option maxHeartbeats 4000000 in
theorem runesOf_says (s : ByteArray) (hs : s.size ≤ 65536) (w : World) (hT : U8 w) : Calls Tryd.prog 10 #[.string s] w fun e w' => RuA w s e w' := by
  obtain ⟨r, hr⟩ : ∃ r : Ending → World → Prop, r = fun e w' => RuA w s e w' := ⟨_, rfl⟩
  rw [← hr]
  obtain ⟨i, hi, hz0, hz1, hz2⟩ := info_parts (show (Tryd.prog.info? 21).map (fun i => (i.zero, i.size, i.bytes)) = some (some (.int .i32 0), 1, 4) by kernel_rfl)
  obtain ⟨w1, hmk, ho1, hg1⟩ := run_make_own (P := Tryd.prog) w w.heap.size 37 21 i _ 1 Tryd.underlying37 hi hz0 hz1 .i64 .i64 (s.size + 1) (by rw [hz2]; omega) (by unfold maxLen; omega) (Nat.le_refl _)
  have b1 : Below w.heap.size w w1 := ⟨hg1.os, hg1.tape, hg1.output, hg1.size, fun k hk => hg1.block k hk (fun e => by cases e)⟩
  have e1 : ((s.size + 1 : Nat) : Int) = (s.size : Int) + 1 := by omega
  rw [e1] at hmk
  have hsz : (s.size : Int) ≤ 65536 := by omega
  have hs0 : (0 : Int) ≤ (s.size : Int) := Int.natCast_nonneg _
  go_enter Tryd.func10, Tryd.ntmps10
  go_wp2
  have hlt : w.heap.size < w1.heap.size := by
    obtain ⟨h0, ⟨e1, -⟩ | ⟨gg, cap, cur, e1, -, h3, -⟩⟩ := ho1
    · cases e1
    · injection e1 with e1 e2 e3
      injection e1 with e1
      injection e1 with e1 e4 e5
      rw [e1]
      exact (Array.getElem?_eq_some_iff.1 h3).1
  have Q0 : Ru w (w1.iter s 0) w1.heap.size s 0 (.slice (some ⟨w.heap.size, 0, none⟩) 0 (s.size + 1)) [] :=
    ⟨by simp, ownK_below (xs := []) ho1 ((Below.refl w1.heap.size w1).alloc (Nat.le_refl _) _), World.iter_heap w1 s 0, (by intro e; have := Option.some.inj e; have e' : w.heap.size = w1.heap.size := this; omega), b1.size, b1.alloc b1.size _⟩
  have HU := Lib.hid (fun u (hb : Below w.heap.size w u) => hT.later hb)
  have hout : ∀ v w', OwnK 21 .i32 w' w.heap.size v (rs s.data.toList) → Below w.heap.size w w' → r (.returned v) w' := by intro v w' h1 h2; rw [hr]; exact ⟨v, rfl, h1, h2⟩
  have HO := Lib.hid hout
  have HQ0 := Lib.hid Q0
  clear hmk ho1 hg1 e1 hr hout Q0 hT hi hz0 hz1 hz2
  go_loopw [3] (fun v wr => ∃ pos xs, Ru w wr w1.heap.size s pos v xs ∧ xs.length ≤ pos) (fun _ wr => itLeft w1.heap.size wr)
  case atStart => exact ⟨0, [], HQ0.out, Nat.le_refl _⟩
  case round =>
    clear HQ0
    obtain ⟨pos, xs, Q, hxl⟩ := hrel
    obtain ⟨p, cp, rfl, hcp, -⟩ := ownK_lie Q.own
    have HQ := Lib.hid Q
    have HL := Lib.hid Q.left
    by_cases hp : pos < s.size
    · have hne : s.data.toList.drop pos ≠ [] := by intro e; have := congrArg List.length e; rw [List.length_drop, Array.length_toList] at this; simp at this; have hh : s.data.size = s.size := rfl; omega
      have hdl := Lib.decodeL_drop s pos
      have hwd := Lib.decodeL_width (s.data.toList.drop pos)
      have hle := decodeL_le _ hne
      rw [List.length_drop, Array.length_toList] at hle
      have hgo := decodeGo_at s pos hp
      have hrn := decodeL_rune' (s.data.toList.drop pos)
      have hrc := rs_cases (s.data.toList.drop pos)
      rw [List.drop_drop] at hrc
      have hnx : ∀ ty, (Instr.next (.pointer (some ⟨w1.heap.size, 0, none⟩)) true ty).run Tryd.prog wr = _ := fun ty => Lib.run_next_any_at wr w1.heap.size s pos ty Q.it hp
      rw [← hdl] at hnx
      obtain ⟨⟨rn, wd⟩, hd⟩ : ∃ d, Lib.decodeL (s.data.toList.drop pos) = d := ⟨_, rfl⟩
      rw [hd] at hnx hwd hle hgo hrn hrc
      simp only at hnx hwd hle hrn hrc
      have HN := Lib.hid (show xs.length ≤ 1000000 by omega)
      have hpI : (0 : Int) ≤ (pos : Int) := Int.natCast_nonneg _
      have hpS : (pos : Int) < (s.size : Int) := by omega
      have hBI := iter_b Q (pos + wd)
      have hOI := iter_own Q (pos + wd)
      have hII := iter_it Q (pos + wd)
      have hEQ := Q.eq
      have NEX := Q.ne
      have hLO := Q.lo
      clear Q hdl hd hne
      by_cases hr3 : rn = 65533
      · subst hr3
        have hbr := broken_says (s.extract pos s.size) (HU.out _ hBI)
        rw [hgo] at hbr
        simp only at hbr
        by_cases hw1 : wd = 1
        · subst hw1
          rcases hrc with ⟨h1, -⟩ | ⟨-, -, h3⟩ | ⟨-, h2, -⟩
          · exact absurd (congrArg List.length h1) (by rw [List.length_drop, Array.length_toList]; have hh : s.data.size = s.size := rfl; simp; omega)
          · rw [h3] at hEQ
            have HEQ := Lib.hid hEQ
            have hbr1 : Calls Tryd.prog 22 #[.string (s.extract pos s.size)] (wr.iterAt w1.heap.size s (pos + 1)) fun e w' => e = .returned (.bool true) ∧ Below (wr.iterAt w1.heap.size s (pos + 1)).heap.size (wr.iterAt w1.heap.size s (pos + 1)) w' := hbr.mono fun e w' hh => ⟨by rw [hh.1]; rfl, hh.2⟩
            have hbr2 := Lib.hid hbr1
            clear hbr1
            clear hbr hgo h3 hEQ
            go_upto_region 6 with (go_at_call 22; refine hbr2.out.mono ?_; rintro e w3 ⟨rfl, b3⟩)
            obtain ⟨X, hX⟩ : ∃ X, X = w3 := ⟨_, rfl⟩
            rw [← hX]
            have QX : RuX w X w1.heap.size s (pos + 1) (.slice p xs.length cp) xs := by rw [hX]; exact ⟨(ownK_below hOI b3), ((b3.block _ (Array.getElem?_eq_some_iff.1 hII).1).trans hII), NEX, hLO, (hBI.trans (b3.mono hBI.size))⟩
            have HBX := Lib.hid (show w.heap.size ≤ (X.alloc (.cells #[.int .i32 (-2)] 21)).heap.size by have := QX.b.size; simp; omega)
            have HOX := Lib.hid (fun o => ownK_below QX.own ((Below.refl X.heap.size X).alloc (Nat.le_refl _) o))
            have HFX := Lib.hid (fun v' w5 (o : Obj) k1 k2 k3 => QX.app (w' := w5) (v' := v') (xs' := xs ++ [(-2)]) (o := o) k1 k2 k3)
            clear hX QX
            go_wp2_with (at_builtin; (refine wpList_app32 rfl _ _ rfl (B := w.heap.size) HBX.out (v := .slice p xs.length cp) (xs := xs) rfl (HOX.out _) (-2) X.heap.size rfl (src_new X _) HN.out ?_; intro v' w5 k1 k2 k3; have e5 := HFX.out _ _ _ k1 k2 k3; obtain ⟨p5, n5, c5, rfl⟩ := ownK_slice k1; have e5 := Lib.hid e5; clear k1 k2 k3))
            exact HO.out _ _ (by have := e5.out.own; rw [HEQ.out] at this; exact this) e5.out.b
          · exact absurd ⟨rfl, rfl⟩ h2
        · rcases hrc with ⟨h1, -⟩ | ⟨-, h2, -⟩ | ⟨-, -, h3⟩
          · exact absurd (congrArg List.length h1) (by rw [List.length_drop, Array.length_toList]; have hh : s.data.size = s.size := rfl; simp; omega)
          · exact absurd h2.2 hw1
          · have HEQ := Lib.hid (show (xs ++ [(65533 : Int)]) ++ rs (s.data.toList.drop (pos + wd)) = rs s.data.toList by rw [← hEQ, h3]; simp)
            have hbr1 : Calls Tryd.prog 22 #[.string (s.extract pos s.size)] (wr.iterAt w1.heap.size s (pos + wd)) fun e w' => e = .returned (.bool false) ∧ Below (wr.iterAt w1.heap.size s (pos + wd)).heap.size (wr.iterAt w1.heap.size s (pos + wd)) w' := hbr.mono fun e w' hh => ⟨by rw [hh.1, decide_eq_false (by omega)], hh.2⟩
            have hbr2 := Lib.hid hbr1
            clear hbr1
            clear hbr hgo h3 hEQ
            go_upto_region 7 with (go_at_call 22; refine hbr2.out.mono ?_; rintro e w3 ⟨rfl, b3⟩)
            obtain ⟨X, hX⟩ : ∃ X, X = w3 := ⟨_, rfl⟩
            rw [← hX]
            have QX : RuX w X w1.heap.size s (pos + wd) (.slice p xs.length cp) xs := by rw [hX]; exact ⟨(ownK_below hOI b3), ((b3.block _ (Array.getElem?_eq_some_iff.1 hII).1).trans hII), NEX, hLO, (hBI.trans (b3.mono hBI.size))⟩
            have HBX := Lib.hid (show w.heap.size ≤ (X.alloc (.cells #[.int .i32 65533] 21)).heap.size by have := QX.b.size; simp; omega)
            have HOX := Lib.hid (fun o => ownK_below QX.own ((Below.refl X.heap.size X).alloc (Nat.le_refl _) o))
            have HFX := Lib.hid (fun v' w5 (o : Obj) k1 k2 k3 => QX.app (w' := w5) (v' := v') (xs' := xs ++ [65533]) (o := o) k1 k2 k3)
            clear hX QX
            go_wp2_with (at_builtin; (refine wpList_app32 rfl _ _ rfl (B := w.heap.size) HBX.out (v := .slice p xs.length cp) (xs := xs) rfl (HOX.out _) 65533 X.heap.size rfl (src_new X _) HN.out ?_; intro v' w5 k1 k2 k3; have e5 := HFX.out _ _ _ k1 k2 k3; obtain ⟨p5, n5, c5, rfl⟩ := ownK_slice k1; have e5 := Lib.hid e5; clear k1 k2 k3))
            go_roundw
            case rel => exact ⟨pos + wd, xs ++ [65533], ⟨HEQ.out, e5.out.own, e5.out.it, e5.out.ne, e5.out.lo, e5.out.b⟩, by simp; omega⟩
            case measure => rw [HL.out]; unfold itLeft; rw [e5.out.it]; simp only; omega
      · rcases hrc with ⟨h1, -⟩ | ⟨-, h2, -⟩ | ⟨-, -, h3⟩
        · exact absurd (congrArg List.length h1) (by rw [List.length_drop, Array.length_toList]; have hh : s.data.size = s.size := rfl; simp; omega)
        · exact absurd h2.1 hr3
        · have HEQ := Lib.hid (show (xs ++ [(rn : Int)]) ++ rs (s.data.toList.drop (pos + wd)) = rs s.data.toList by rw [← hEQ, h3]; simp)
          have hrz : ((rn : Int) == 65533) = false := by simp; omega
          clear hgo h3 hEQ hrn
          go_upto_region 7 with fail
          obtain ⟨X, hX⟩ : ∃ X, X = wr.iterAt w1.heap.size s (pos + wd) := ⟨_, rfl⟩
          rw [← hX]
          have QX : RuX w X w1.heap.size s (pos + wd) (.slice p xs.length cp) xs := by rw [hX]; exact ⟨hOI, hII, NEX, hLO, hBI⟩
          have HBX := Lib.hid (show w.heap.size ≤ (X.alloc (.cells #[.int .i32 (rn : Int)] 21)).heap.size by have := QX.b.size; simp; omega)
          have HOX := Lib.hid (fun o => ownK_below QX.own ((Below.refl X.heap.size X).alloc (Nat.le_refl _) o))
          have HFX := Lib.hid (fun v' w5 (o : Obj) k1 k2 k3 => QX.app (w' := w5) (v' := v') (xs' := xs ++ [(rn : Int)]) (o := o) k1 k2 k3)
          clear hX QX
          go_wp2_with (at_builtin; (refine wpList_app32 rfl _ _ rfl (B := w.heap.size) HBX.out (v := .slice p xs.length cp) (xs := xs) rfl (HOX.out _) (rn : Int) X.heap.size rfl (src_new X _) HN.out ?_; intro v' w5 k1 k2 k3; have e5 := HFX.out _ _ _ k1 k2 k3; obtain ⟨p5, n5, c5, rfl⟩ := ownK_slice k1; have e5 := Lib.hid e5; clear k1 k2 k3))
          go_roundw
          case rel => exact ⟨pos + wd, xs ++ [(rn : Int)], ⟨HEQ.out, e5.out.own, e5.out.it, e5.out.ne, e5.out.lo, e5.out.b⟩, by simp; omega⟩
          case measure => rw [HL.out]; unfold itLeft; rw [e5.out.it]; simp only; omega
    · have hrc : rs (s.data.toList.drop pos) = [-1] := by
        rw [List.drop_of_length_le (by rw [Array.length_toList]; have hh : s.data.size = s.size := rfl; omega)]; rfl
      have hEQ := Q.eq
      rw [hrc] at hEQ
      have HEQ := Lib.hid hEQ
      have hnx : ∀ ty, (Instr.next (.pointer (some ⟨w1.heap.size, 0, none⟩)) true ty).run Tryd.prog wr = _ := fun ty => Lib.run_next_end_at wr w1.heap.size s pos ty Q.it hp
      have HN := Lib.hid (show xs.length ≤ 1000000 by
        have h1 := congrArg List.length hEQ
        have h2 := rs_len s.data.toList
        have h3 : s.data.toList.length = s.size := Array.length_toList
        simp only [List.length_append, List.length_singleton] at h1
        omega)
      have hBI := Q.b
      have hOI := Q.own
      have hII := Q.it
      have NEX := Q.ne
      have hLO := Q.lo
      clear Q hEQ hrc
      go_upto_region 8 with fail
      obtain ⟨X, hX⟩ : ∃ X, X = wr := ⟨_, rfl⟩
      rw [← hX]
      have QX : RuX w X w1.heap.size s pos (.slice p xs.length cp) xs := by rw [hX]; exact ⟨hOI, hII, NEX, hLO, hBI⟩
      have HBX := Lib.hid (show w.heap.size ≤ (X.alloc (.cells #[.int .i32 (-1)] 21)).heap.size by have := QX.b.size; simp; omega)
      have HOX := Lib.hid (fun o => ownK_below QX.own ((Below.refl X.heap.size X).alloc (Nat.le_refl _) o))
      have HFX := Lib.hid (fun v' w5 (o : Obj) k1 k2 k3 => QX.app (w' := w5) (v' := v') (xs' := xs ++ [(-1)]) (o := o) k1 k2 k3)
      clear hX QX
      go_wp2_with (at_builtin; (refine wpList_app32 rfl _ _ rfl (B := w.heap.size) HBX.out (v := .slice p xs.length cp) (xs := xs) rfl (HOX.out _) (-1) X.heap.size rfl (src_new X _) HN.out ?_; intro v' w5 k1 k2 k3; have e5 := HFX.out _ _ _ k1 k2 k3; obtain ⟨p5, n5, c5, rfl⟩ := ownK_slice k1; have e5 := Lib.hid e5; clear k1 k2 k3))
      exact HO.out _ _ (by have := e5.out.own; rw [HEQ.out] at this; exact this) e5.out.b
end Go.Proofs.YtgikcciakbnehaaDoor.Lex
