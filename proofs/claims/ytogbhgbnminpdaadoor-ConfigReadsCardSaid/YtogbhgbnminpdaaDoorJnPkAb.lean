/-
  Package config: sum, appendNumbers; the reference's Sum, Four. | Package config: appendNumbers.
-/
import Derived.Test.YtogbhgbnminpdaaDoorJnImgAB
import Derived.Test.YtogbhgbnminpdaaDoorJnCfgSt
import Derived.Test.YtogbhgbnminpdaaDoorJnCfgAbc
import Derived.Deep.QuietTactic
import Derived.BigQuiet
set_option linter.unusedVariables false
set_option maxRecDepth 100000
set_option linter.unusedVariables false
namespace Go.Proofs.YtogbhgbnminpdaaDoor.Pck
open Go.Proofs.YtogbhgbnminpdaaDoor Go.Proofs.YtogbhgbnminpdaaDoor.Ser Go.Proofs.YtogbhgbnminpdaaDoor.Img
open Go.ChangeShapes Go.WideShapes Go.ChangeAt Go.RowKit
set_option linter.unusedVariables false
theorem csum_says {w : World} {B : Nat} {p : Option Addr} {m c : Nat} {xs : List Int} (L : Lie .u8 w B p m c xs) (hx : Byt xs) (hl : m ≤ 10000000) :
    Calls Tryd.prog 24 #[.slice p m c] w fun e w' => e = .returned (i64 xs.sum) ∧ w = w' := by
  obtain ⟨r, hr⟩ : ∃ r : Ending → World → Prop, r = fun e w' => e = .returned (i64 xs.sum) ∧ w = w' := ⟨_, rfl⟩
  rw [← hr]
  have HO := Lib.hid (by rw [hr]; exact ⟨by rw [List.take_of_length_le (Nat.le_of_eq L.len)], rfl⟩ : r (.returned (i64 (xs.take m).sum)) w)
  have HL := Lib.hid L
  have HX := Lib.hid hx
  clear hr L hx
  have m0 : (0 : Int) ≤ (m : Int) := Int.natCast_nonneg m
  go_enter Tryd.func24, Tryd.ntmps24
  go_wp2
  go_loop [3, 8] (fun s3 s8 => ∃ k : Nat, k ≤ m ∧ s8 = i64 (k : Int) ∧ s3 = i64 (xs.take k).sum) (fun _ s8 => m - (intOf s8).toNat)
  case atStart => exact ⟨0, Nat.zero_le _, rfl, by simp⟩
  case round =>
    obtain ⟨k, hk, rfl, rfl⟩ := hrel
    have k0 : (0 : Int) ≤ (k : Int) := Int.natCast_nonneg k
    by_cases hkm : k < m
    · have hkI : (k : Int) < (m : Int) := by omega
      obtain ⟨b, off, rfl, hlt, hc⟩ := HL.out.cell hkm
      have e1 := sum_take_succ xs k (by rw [HL.out.len]; exact hkm)
      have b1 := sum_take_le HX.out k
      have b2 := byt_getD HX.out k
      have b3 : (xs.length : Int) ≤ 10000000 := by have := HL.out.len; omega
      obtain ⟨x, hx⟩ : ∃ x, x = xs.getD k 0 := ⟨_, rfl⟩
      obtain ⟨y, hy⟩ : ∃ y, y = (xs.take k).sum := ⟨_, rfl⟩
      rw [← hx] at hc b2 e1
      rw [← hy] at b1 e1 ⊢
      have y0 : 0 ≤ y := b1.1
      have y1 : y ≤ 2550000000 := by omega
      have x0 : 0 ≤ x := b2.1
      have x1 : x < 256 := b2.2
      have E1 := Lib.hid e1
      clear b1 b2 b3 e1 hx hy
      go_wp2
      go_round
      case rel => exact ⟨k + 1, hkm, by go_num, by rw [E1.out]⟩
      case measure => simp [intOf]; omega
    · obtain rfl : k = m := by omega
      go_wp2
      exact HO.out
/-- A row that was written out. -/
theorem ownK_built (E : TypeId) (k : IntKind) (w : World) (xs : List Int) (hl : xs.length ≤ maxLen) : OwnK E k (w.alloc (.cells (kL k xs).toArray E)) w.heap.size (.slice (some ⟨w.heap.size, 0, none⟩) xs.length xs.length) xs :=
  ⟨by simp, .inr ⟨w.heap.size, xs.length, (kL k xs).toArray, rfl, Nat.le_refl _, heap_alloc_new _ _, Nat.le_refl _, hl, by simp, by simp [List.take_of_length_le]⟩⟩
theorem four_says (n : Int) (w : World) : Calls Tryd.prog 26 #[i64 n] w fun e w' => ∃ p c, e = .returned (.slice p 4 c) ∧ OwnK 5 .u8 w' w.heap.size (.slice p 4 c) (four n) ∧ Below w.heap.size w w' := by
  obtain ⟨r, hr⟩ : ∃ r : Ending → World → Prop, r = fun e w' => ∃ p c, e = .returned (.slice p 4 c) ∧ OwnK 5 .u8 w' w.heap.size (.slice p 4 c) (four n) ∧ Below w.heap.size w w' := ⟨_, rfl⟩
  rw [← hr]
  have m0 : bits .and .i64 n 255 = n % 256 := i64_mask n 8 (by decide)
  have m1 : bits .and .i64 (n / 256) 255 = n / 256 % 256 := i64_mask _ 8 (by decide)
  have m2 : bits .and .i64 (n / 65536) 255 = n / 65536 % 256 := i64_mask _ 8 (by decide)
  have m3 : bits .and .i64 (n / 16777216) 255 = n / 16777216 % 256 := i64_mask _ 8 (by decide)
  have HO := Lib.hid (by rw [hr]; exact ⟨_, _, rfl, ownK_built 5 .u8 w (four n) (by rw [four_len]; decide), (Below.refl _ _).alloc (Nat.le_refl _) _⟩ : r (.returned (.slice (some ⟨w.heap.size, 0, none⟩) 4 4)) (w.alloc (.cells #[.int .u8 (n % 256), .int .u8 (n / 256 % 256), .int .u8 (n / 65536 % 256), .int .u8 (n / 16777216 % 256)] 5)))
  clear hr
  go_enter Tryd.func26, Tryd.ntmps26
  go_wp2
  exact HO.out
/-- The sum of bytes. -/
theorem rsum_says {w : World} {B : Nat} {p : Option Addr} {m c : Nat} {xs : List Int} (L : Lie .u8 w B p m c xs) (hx : Byt xs) (hl : m ≤ 10000000) :
    Calls Tryd.prog 27 #[.slice p m c] w fun e w' => e = .returned (i64 xs.sum) ∧ w = w' := by
  obtain ⟨r, hr⟩ : ∃ r : Ending → World → Prop, r = fun e w' => e = .returned (i64 xs.sum) ∧ w = w' := ⟨_, rfl⟩
  rw [← hr]
  have hb := sum_bd xs hx
  rw [L.len] at hb
  have hw : wd xs.sum = xs.sum := wd_eq _ hb.1 (by omega)
  have HW := Lib.hid (show Calls Tryd.prog 42 #[i64 (xs.take m).sum] w (fun e w' => e = .returned (i64 xs.sum) ∧ w = w') from by
    rw [List.take_of_length_le (Nat.le_of_eq L.len)]
    have := w_says xs.sum
    rw [hw] at this
    exact (this w).mono fun e w' ⟨h1, h2⟩ => ⟨h1, h2⟩)
  have HO := Lib.hid (by rw [hr]; exact ⟨rfl, rfl⟩ : r (.returned (i64 xs.sum)) w)
  obtain ⟨S, hS⟩ : ∃ S, S = xs.sum := ⟨_, rfl⟩
  rw [← hS] at HW HO
  have HL := Lib.hid L
  have HX := Lib.hid hx
  clear hr L hx hb hw hS
  have m0 : (0 : Int) ≤ (m : Int) := Int.natCast_nonneg m
  go_enter Tryd.func27, Tryd.ntmps27
  go_wp2
  go_loop [3, 4] (fun s3 s4 => ∃ k : Nat, k ≤ m ∧ s4 = i64 (k : Int) ∧ s3 = i64 (xs.take k).sum) (fun _ s4 => m - (intOf s4).toNat)
  case atStart => exact ⟨0, Nat.zero_le _, rfl, by simp⟩
  case round =>
    obtain ⟨k, hk, rfl, rfl⟩ := hrel
    have k0 : (0 : Int) ≤ (k : Int) := Int.natCast_nonneg k
    by_cases hkm : k < m
    · have hkI : (k : Int) < (m : Int) := by omega
      obtain ⟨b, off, rfl, hlt, hc⟩ := HL.out.cell hkm
      have e1 := sum_take_succ xs k (by rw [HL.out.len]; exact hkm)
      have b1 := sum_take_le HX.out k
      have b2 := byt_getD HX.out k
      have b3 : (xs.length : Int) ≤ 10000000 := by have := HL.out.len; omega
      obtain ⟨x, hx⟩ : ∃ x, x = xs.getD k 0 := ⟨_, rfl⟩
      obtain ⟨y, hy⟩ : ∃ y, y = (xs.take k).sum := ⟨_, rfl⟩
      rw [← hx] at hc b2 e1
      rw [← hy] at b1 e1 ⊢
      have y0 : 0 ≤ y := b1.1
      have y1 : y ≤ 2550000000 := by omega
      have x0 : 0 ≤ x := b2.1
      have x1 : x < 256 := b2.2
      have E1 := Lib.hid e1
      clear b1 b2 b3 e1 hx hy
      go_wp2
      go_round
      case rel => exact ⟨k + 1, hkm, by go_num, by rw [E1.out]⟩
      case measure => simp [intOf]; omega
    · obtain rfl : k = m := by omega
      go_wp2_with (go_at_call 42; refine HW.out.mono ?_; rintro e t' ⟨rfl, rfl⟩)
      exact HO.out

/-- Numbers as bytes. -/
def nums (l : List Int) : List Int := l.flatMap four
theorem nums_len (l : List Int) : (nums l).length = 4 * l.length := by
  induction l with
  | nil => rfl
  | cons a r ih => simp only [nums, List.flatMap_cons, List.length_append, List.length_cons] at ih ⊢; rw [four_len, ih]; omega
theorem nums_byt (l : List Int) : Byt (nums l) := by
  intro x hx
  obtain ⟨a, -, ha⟩ := List.mem_flatMap.1 hx
  exact four_byt a x ha
theorem nums_succ (l : List Int) (k : Nat) (h : k < l.length) : nums (l.take (k + 1)) = nums (l.take k) ++ four (l.getD k 0) := by
  have e : l.getD k 0 = l[k] := by simp [List.getD, List.getElem?_eq_getElem h]
  rw [e]
  unfold nums
  rw [List.take_succ_eq_append_getElem h, List.flatMap_append]
  simp [List.flatMap]
/-- What has grown: a row in v's block, or in a new one; all else lies as it did. -/
structure Grew (w w' : World) (v v' : Value) : Prop where
  os : w'.os = w.os
  tape : w'.tape = w.tape
  output : w'.output = w.output
  size : w.heap.size ≤ w'.heap.size
  block : ∀ i, i < w.heap.size → v.ownBlock ≠ some i → w'.heap[i]? = w.heap[i]?
  to : v'.ownBlock = v.ownBlock ∨ ∃ i, v'.ownBlock = some i ∧ w.heap.size ≤ i
theorem Grew.refl (w : World) (v : Value) : Grew w w v v := ⟨rfl, rfl, rfl, Nat.le_refl _, fun _ _ _ => rfl, .inl rfl⟩
theorem Grew.trans {w w1 w2 : World} {v v1 v2 : Value} (h : Grew w w1 v v1) (h' : Grew w1 w2 v1 v2) : Grew w w2 v v2 :=
  ⟨h'.os.trans h.os, h'.tape.trans h.tape, h'.output.trans h.output, Nat.le_trans h.size h'.size, fun i hi hv => by
    refine (h'.block i (Nat.lt_of_lt_of_le hi h.size) (fun e => ?_)).trans (h.block i hi hv)
    rcases h.to with e1 | ⟨k, e1, hk⟩
    · exact hv (by rw [← e1]; exact e)
    · rw [e1] at e; injection e with e; omega, by
    rcases h'.to with e1 | ⟨k, e1, hk⟩
    · rw [e1]; exact h.to
    · exact .inr ⟨k, e1, Nat.le_trans h.size hk⟩⟩
theorem Grew.below {w w1 : World} {v : Value} (h : Below w.heap.size w w1) : Grew w w1 v v := ⟨h.os, h.tape, h.output, h.size, fun i hi _ => h.block i hi, .inl rfl⟩
/-- A row of ints that lies keeps lying while another grows. -/
theorem Grew.lie {w w' : World} {v v' : Value} {p : Option Addr} {n c : Nat} {xs : List Int} {k : IntKind} (h : Grew w w' v v') (L : Lie k w w.heap.size p n c xs) (hne : ∀ b off, p = some ⟨b, off, none⟩ → v.ownBlock ≠ some b) : Lie k w' w.heap.size p n c xs :=
  ⟨L.len, L.cap, L.nil, fun hn => by
    obtain ⟨b, off, e, hl, ha⟩ := L.at_ hn
    exact ⟨b, off, e, hl, fun i x hx => (World.cell?_of_block (h.block b hl (hne b off e))).trans (ha i x hx)⟩⟩
section
variable {k : IntKind} {T E : TypeId} {w : World} {B : Nat}
/-- append, and all that it leaves. -/
theorem app_runG (K : Kd T E k) (ty : TypeId) (hB : B ≤ w.heap.size) {v1 : Value} {R1 : List Int} (hown : OwnK E k w B v1 R1)
    {p : Option Addr} {m c : Nat} (R2 : List Int) (hm : R2.length = m) (hc : p = none → c = 0) (hsrc : SrcK k w p R2) (hsz : R1.length + m ≤ 1000000) :
    ∃ v' w', (Builtin.append_ #[T, T] ty #[v1, .slice p m c]).run Tryd.prog w = .ok v' w' ∧ OwnK E k w' B v' (R1 ++ R2) ∧ Grew w w' v1 v' := by
  obtain ⟨bb, hbb, hinfo⟩ := K.info
  obtain ⟨i, hi, hz0, hz1, hz2⟩ := info_parts hinfo
  cases p with
  | none =>
    obtain rfl := hc rfl
    have h0 : R2.length = 0 := by
      rcases Nat.eq_zero_or_pos R2.length with h0 | h0
      · exact h0
      · obtain ⟨ad, e, -⟩ := hsrc h0; cases e
    obtain rfl : m = 0 := by omega
    obtain rfl := List.eq_nil_of_length_eq_zero h0
    exact ⟨v1, w, run_append_owned_none (P := Tryd.prog) (w := w) B T ty E i 1 K.under hi v1 R1.length (kL k R1) hown, by rw [List.append_nil]; exact hown, Grew.refl _ _⟩
  | some ad =>
    have hcs : ∀ j u, (kL k R2)[j]? = some u → w.cell? (ad.add j) = some u := by
      intro j u hu
      have hj : j < R2.length := by have := (List.getElem?_eq_some_iff.1 hu).1; simpa using this
      obtain ⟨ad', e, hcs⟩ := hsrc (by omega)
      obtain rfl := Option.some.inj e
      exact hcs j u hu
    obtain ⟨v', w', hr, h2, h3, -, h5⟩ := run_append_own_at (P := Tryd.prog) w B T ty E i _ 1 bb K.under hi hz0 hz1 hz2 rfl (by decide) v1 R1.length (kL k R1) hown ad m c (kL k R2) (by rw [List.length_map, hm, Nat.mul_one]) hcs (kL_one _ _) (by unfold maxLen; omega) (by have : (R1.length + m) * bb ≤ 1000000 * 8 := Nat.mul_le_mul hsz hbb; omega) hB
    refine ⟨v', w', hr, ?_, ⟨h3.os, h3.tape, h3.output, h3.size, fun i hi hv => h3.block i hi (fun e => hv e.symm), ?_⟩⟩
    · have e : kL k (R1 ++ R2) = kL k R1 ++ kL k R2 := List.map_append
      unfold OwnK; rw [List.length_append, e, hm]; exact h2
    · rcases h5 with h5 | h5
      · exact .inl h5
      · exact .inr ⟨_, h5, Nat.le_refl _⟩
theorem wpList_appG {ops : Array Oper} {rest : List Oper} {o : Oper} {a : Act} {Q : Exit → Act → World → Prop} (K : Kd T E k) (hgd : o.guard = none) (s x : Operand)
    (ho : o.op = .call { callee := .builtin .append, args := #[s, x], argTypes := #[T, T] }) (hB : B ≤ w.heap.size) {v1 : Value} {R1 : List Int} (hs : a.eval s = v1) (hown : OwnK E k w B v1 R1)
    {p : Option Addr} {m c : Nat} (R2 : List Int) (hx : a.eval x = .slice p m c) (hm : R2.length = m) (hc : p = none → c = 0) (hsrc : SrcK k w p R2) (hsz : R1.length + m ≤ 1000000)
    (h : ∀ v' w', OwnK E k w' B v' (R1 ++ R2) → Grew w w' v1 v' → wpList Tryd.prog ops Q rest (a.put o.dst v') w') : wpList Tryd.prog ops Q (o :: rest) a w := by
  obtain ⟨v', w', hr, h1, h2⟩ := app_runG K o.type hB hown R2 hm hc hsrc hsz
  exact Lib.wpList_append_run w hgd s x T T ho v1 _ hs hx v' w' hr (h v' w' h1 h2)
end
/-- A row that lies in a new block of its own. -/
theorem srcK_new (w : World) (k : IntKind) (xs : List Int) (ty : TypeId) : SrcK k (w.alloc (.cells (kL k xs).toArray ty)) (some ⟨w.heap.size, 0, none⟩) xs := by
  intro _
  refine ⟨_, rfl, fun j u hu => ?_⟩
  rw [Addr.add_lit, Nat.zero_add, cell_of_row _ w.heap.size j _ _ _ (heap_alloc_new w _), ← hu]
  simp
end Go.Proofs.YtogbhgbnminpdaaDoor.Pck
set_option maxRecDepth 100000
set_option linter.unusedVariables false
namespace Go.Proofs.YtogbhgbnminpdaaDoor.Pck
open Go.Proofs.YtogbhgbnminpdaaDoor Go.Proofs.YtogbhgbnminpdaaDoor.Ser Go.Proofs.YtogbhgbnminpdaaDoor.Img Go.Proofs.YtogbhgbnminpdaaDoor.Cfg
open Go.ChangeShapes Go.WideShapes Go.ChangeAt Go.RowKit
set_option linter.unusedVariables false
/-- What appendNumbers tells. -/
def App (w : World) (B : Nat) (v : Value) (R : List Int) (e : Ending) (w' : World) : Prop := ∃ p n c, e = .returned (.slice p n c) ∧ OwnK 5 .u8 w' B (.slice p n c) R ∧ Grew w w' v (.slice p n c)
set_option maxHeartbeats 4000000 in
theorem appn_says {w : World} {B : Nat} {p1 : Option Addr} {n1 c1 : Nat} {R : List Int} (o : OwnK 5 .u8 w B (.slice p1 n1 c1) R) (hB : B ≤ w.heap.size) {p : Option Addr} {m c : Nat} {xs : List Int} (L : Lie .i64 w w.heap.size p m c xs)
    (hne : ∀ b off, p = some ⟨b, off, none⟩ → (Value.slice p1 n1 c1).ownBlock ≠ some b) (hb : ∀ x ∈ xs, -9223372036854775808 ≤ x ∧ x ≤ 9223372036854775807) (hsz : R.length + 4 * m ≤ 900000) :
    Calls Tryd.prog 23 #[.slice p1 n1 c1, .slice p m c] w (App w B (.slice p1 n1 c1) (R ++ nums xs)) := by
  obtain ⟨r, hr⟩ : ∃ r, r = App w B (.slice p1 n1 c1) (R ++ nums xs) := ⟨_, rfl⟩
  rw [← hr]
  have hl : xs.length = m := L.len
  have HO := Lib.hid (fun w' p' n' c' (o' : OwnK 5 .u8 w' B (.slice p' n' c') (R ++ nums (xs.take m))) (g : Grew w w' (.slice p1 n1 c1) (.slice p' n' c')) => (by rw [hr]; rw [List.take_of_length_le (by omega)] at o'; exact ⟨p', n', c', rfl, o', g⟩ : r (.returned (.slice p' n' c')) w'))
  clear hr
  have HL := Lib.hid L
  have HN := Lib.hid hne
  have HX := Lib.hid hb
  have o0 := Lib.hid (show OwnK 5 .u8 w B (.slice p1 n1 c1) (R ++ nums (xs.take 0)) by simpa [nums] using o)
  clear L hne hb o
  go_enter Tryd.func23, Tryd.ntmps23
  go_wp2
  go_loopw [0, 6, 9] (fun v _ i wr => ∃ k : Nat, k ≤ m ∧ i = .int .i64 k ∧ ∃ p' n' c', v = .slice p' n' c' ∧ OwnK 5 .u8 wr B (.slice p' n' c') (R ++ nums (xs.take k)) ∧ Grew w wr (.slice p1 n1 c1) (.slice p' n' c')) (fun _ _ i _ => m - (intOf i).toNat)
  case atStart => exact ⟨0, Nat.zero_le _, rfl, _, _, _, rfl, o0.out, Grew.refl _ _⟩
  case round =>
    obtain ⟨k, hk, rfl, p', n', c', rfl, o, g⟩ := hrel
    by_cases hkm : k < m
    · have hkI : (k : Int) < (m : Int) := by omega
      obtain ⟨b, off, rfl, hlt, hc⟩ := (g.lie HL.out HN.out).cell hkm
      have e1 := Lib.hid (nums_succ xs k (by omega))
      have hx := HX.out (xs.getD k 0) (by have h1 : k < xs.length := by omega
                                          have h2 : xs.getD k 0 = xs[k] := by simp [List.getD, List.getElem?_eq_getElem h1]
                                          rw [h2]; exact List.getElem_mem h1)
      obtain ⟨x, hxx⟩ : ∃ x, x = xs.getD k 0 := ⟨_, rfl⟩
      rw [← hxx] at hc hx e1
      clear hxx
      have gb := Grew.below (v := .slice p' n' c') (below_alloc wr (.cells #[.int .u8 (x % 256), .int .u8 (x / 256 % 256), .int .u8 (x / 65536 % 256), .int .u8 (x / 16777216 % 256)] 5))
      have HS := Lib.hid (srcK_new wr .u8 (four x) 5)
      have o2 := Lib.hid (ownK_below o (below_alloc wr (.cells #[.int .u8 (x % 256), .int .u8 (x / 256 % 256), .int .u8 (x / 65536 % 256), .int .u8 (x / 16777216 % 256)] 5)))
      have hB2 := Lib.hid (Nat.le_trans hB (g.trans gb).size)
      have HG := Lib.hid (g.trans gb)
      have hls : (R ++ nums (xs.take k)).length ≤ R.length + 4 * k := by rw [List.length_append, nums_len, List.length_take]; omega
      have HL2 := Lib.hid (show (R ++ nums (xs.take k)).length + 4 ≤ 1000000 by omega)
      have hd := Lib.hid (fun v' w' (o' : OwnK 5 .u8 w' B v' ((R ++ nums (xs.take k)) ++ four x)) (g' : Grew (wr.alloc (.cells #[.int .u8 (x % 256), .int .u8 (x / 256 % 256), .int .u8 (x / 65536 % 256), .int .u8 (x / 16777216 % 256)] 5)) w' (.slice p' n' c') v') => (by
        rw [List.append_assoc, ← e1.out] at o'
        obtain ⟨p5, q5, e5, -, -⟩ := ownK_lie o'
        exact ⟨p5, _, q5, e5, o', HG.out.trans g'⟩ : ∃ p5 n5 q5, v' = .slice p5 n5 q5 ∧ OwnK 5 .u8 w' B v' (R ++ nums (xs.take (k + 1))) ∧ Grew w w' (.slice p1 n1 c1) v'))
      clear o g gb hls
      go_wp2_with (at_builtin; (refine wpList_appG kdB rfl _ _ rfl hB2.out (v1 := .slice p' n' c') (R1 := R ++ nums (xs.take k)) rfl o2.out (four x) rfl rfl (fun e => by cases e) HS.out HL2.out ?_); intro v' w' o' g'; obtain ⟨p5, n5, q5, rfl, o5, g5⟩ := hd.out v' w' o' g'; have O5 := Lib.hid o5; have G5 := Lib.hid g5; clear o' g' o5 g5)
      go_roundw
      case rel => exact ⟨k + 1, hkm, by go_num, _, _, _, rfl, O5.out, G5.out⟩
      case measure => simp [intOf]; omega
    · have hkm' : k = m := by omega
      subst hkm'
      have hf := Lib.hid (HO.out _ _ _ _ o g)
      clear o g HO o0 HL HN HX
      go_wp2
      exact hf.out
end Go.Proofs.YtogbhgbnminpdaaDoor.Pck
