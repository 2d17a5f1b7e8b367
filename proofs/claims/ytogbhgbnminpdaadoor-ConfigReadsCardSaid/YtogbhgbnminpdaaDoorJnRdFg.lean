/-
  Package config: the reader's take. | Package config: the reader's part.
-/
import Derived.Test.YtogbhgbnminpdaaDoorJnPckE
import Derived.WalkSmall
import Derived.Laws.BytesString
set_option linter.unusedVariables false
set_option maxRecDepth 100000
set_option linter.unusedVariables false
namespace Go.Proofs.YtogbhgbnminpdaaDoor.Pck
open Go.Proofs.YtogbhgbnminpdaaDoor Go.Proofs.YtogbhgbnminpdaaDoor.Ser Go.Proofs.YtogbhgbnminpdaaDoor.Img Go.Proofs.YtogbhgbnminpdaaDoor.Cfg
open Go.ChangeShapes Go.WideShapes Go.ChangeAt Go.RowKit
set_option linter.unusedVariables false
theorem below_setC {B : Nat} {w u : World} (h : Below B w u) (g o : Nat) (hg : B ≤ g) (v : Value) : Below B w (u.setCell ⟨g, o, none⟩ v) :=
  h.trans ⟨rfl, rfl, rfl, by simp [World.setCell], fun k hk => Below.heap_setCell _ _ _ _ (by show k ≠ g; omega)⟩
/-- All else than block g stays. -/
structure Oth (g : Nat) (w w' : World) : Prop where
  os : w'.os = w.os
  tape : w'.tape = w.tape
  output : w'.output = w.output
  size : w.heap.size ≤ w'.heap.size
  block : ∀ k, k < w.heap.size → k ≠ g → w'.heap[k]? = w.heap[k]?
theorem Oth.refl (g : Nat) (w : World) : Oth g w w := ⟨rfl, rfl, rfl, Nat.le_refl _, fun _ _ _ => rfl⟩
theorem Oth.trans {g : Nat} {a b c : World} (h : Oth g a b) (h' : Oth g b c) : Oth g a c :=
  ⟨h'.os.trans h.os, h'.tape.trans h.tape, h'.output.trans h.output, Nat.le_trans h.size h'.size, fun k hk hg => (h'.block k (Nat.lt_of_lt_of_le hk h.size) hg).trans (h.block k hk hg)⟩
theorem oth_below {g : Nat} {w w' : World} (h : Below w.heap.size w w') : Oth g w w' := ⟨h.os, h.tape, h.output, h.size, fun k hk _ => h.block k hk⟩
theorem Oth.below {g B : Nat} {w w' : World} (h : Oth g w w') (hg : B ≤ g) (hB : B ≤ w.heap.size) : Below B w w' := ⟨h.os, h.tape, h.output, h.size, fun k hk => h.block k (by omega) (by omega)⟩
theorem oth_set (g : Nat) (w : World) (o : Nat) (v : Value) : Oth g w (w.setCell ⟨g, o, none⟩ v) := ⟨rfl, rfl, rfl, by simp [World.setCell], fun k _ hk => Below.heap_setCell _ _ _ _ (by show k ≠ g; omega)⟩
/-- A reader in block g: the bytes that are left lie below B. -/
structure Rd (B : Nat) (w0 w : World) (g : Nat) (R : List Int) : Prop where
  b : Oth g w0 w
  bg : B ≤ g
  hd : ∃ p m c, w.heap[g]? = some (.cells #[.slice p m c] 72 (0, 0)) ∧ Lie .u8 w B p m c R ∧ c ≤ 9223372036854775807
section
variable {B : Nat} {w0 w w' : World} {g : Nat} {R : List Int}
theorem Rd.lt (r : Rd B w0 w g R) : g < w.heap.size := by obtain ⟨p, m, c, h, -⟩ := r.hd; exact (Array.getElem?_eq_some_iff.1 h).1
theorem Rd.re (r : Rd B w0 w g R) : Rd B w w g R := ⟨Oth.refl _ _, r.bg, r.hd⟩
theorem Rd.from (r : Rd B w w' g R) (h : Oth g w0 w) : Rd B w0 w' g R := ⟨h.trans r.b, r.bg, r.hd⟩
theorem Rd.keptB {B' : Nat} (r : Rd B w0 w g R) (h : Below B' w w') (hB : g < B') (ho : Oth g w w') : Rd B w0 w' g R := by
  obtain ⟨p, m, c, h1, h2, h3⟩ := r.hd
  have := r.bg
  exact ⟨r.b.trans ho, r.bg, p, m, c, (h.block g hB).trans h1, h2.kept h (by omega), h3⟩
theorem Rd.kept (r : Rd B w0 w g R) (h : Below w.heap.size w w') : Rd B w0 w' g R := r.keptB h r.lt (oth_below h)
/-- The reader's cell is written anew. -/
theorem Rd.set (r : Rd B w0 w g R) {p : Option Addr} {m c : Nat} {S : List Int} (L : Lie .u8 w B p m c S) (hc : c ≤ 9223372036854775807) : Rd B w0 (w.setCell ⟨g, 0, none⟩ (.slice p m c)) g S := by
  obtain ⟨p0, m0, c0, h1, -, -⟩ := r.hd
  refine ⟨r.b.trans (oth_set _ _ _ _), r.bg, p, m, c, by rw [Cfg.setCell_row h1]; rfl, ?_, hc⟩
  exact L.kept (B' := B) ⟨rfl, rfl, rfl, by simp [World.setCell], fun i hi => Below.heap_setCell _ _ _ _ (by show i ≠ g; have := r.bg; omega)⟩ (Nat.le_refl _)
theorem take_all {k : IntKind} {n c c' : Nat} {p : Option Addr} {xs : List Int} (L : Lie k w B p n c xs) (i : Nat) (h : i ≤ n) (hc : i ≤ c') (hn : p = none → c' = 0) : Lie k w B p i c' (xs.take i) :=
  ⟨by rw [List.length_take, L.len]; omega, hc, hn, fun hi => by
    obtain ⟨b, off, e, hl, ha⟩ := L.at_ (by omega)
    refine ⟨b, off, e, hl, fun j x hx => ?_⟩
    have hj : j < i := by have := (List.getElem?_eq_some_iff.1 hx).1; rw [List.length_take] at this; omega
    rw [List.getElem?_take_of_lt hj] at hx
    exact ha j x hx⟩
theorem drop_lie {k : IntKind} {n c : Nat} {p : Option Addr} {xs : List Int} (L : Lie k w B p n c xs) (i : Nat) (h : i ≤ n) : Lie k w B (Option.map (fun x => x.add i) p) (n - i) (c - i) (xs.drop i) :=
  ⟨by rw [List.length_drop, L.len], by have := L.cap; omega, (fun e => by
    have hp : p = none := by
      cases p with
      | none => rfl
      | some a => cases e
    have := L.nil hp; omega), fun hi => by
    obtain ⟨b, off, e, hl, ha⟩ := L.at_ (by omega)
    subst e
    refine ⟨b, off + i, by rw [Option.map_some, Addr.add_lit], hl, fun j x hx => ?_⟩
    rw [List.getElem?_drop] at hx
    rw [Nat.add_assoc]; exact ha _ x hx⟩
end
set_option maxHeartbeats 4000000 in
theorem take_ok {B : Nat} {w0 w : World} {g : Nat} {R : List Int} (r : Rd B w0 w g R) (n : Nat) (h : n ≤ R.length) :
    Calls Tryd.prog 47 #[.pointer (some ⟨g, 0, none⟩), i64 n] w fun e w' => ∃ p c, e = .returned (.slice p n c) ∧ Lie .u8 w' B p n c (R.take n) ∧ Rd B w0 w' g (R.drop n) := by
  obtain ⟨q, hq⟩ : ∃ q : Ending → World → Prop, q = fun e w' => ∃ p c, e = .returned (.slice p n c) ∧ Lie .u8 w' B p n c (R.take n) ∧ Rd B w0 w' g (R.drop n) := ⟨_, rfl⟩
  rw [← hq]
  obtain ⟨p, m, c, h1, L, h3⟩ := r.hd
  have hm := L.len
  have hcap := L.cap
  have z : w.cell? ⟨g, 0, none⟩ = some (.slice p m c) := by rw [cell_of_row w g 0 _ _ _ h1]; rfl
  have f : w.frozen? ⟨g, 0, none⟩ = false := by simp [World.frozen?, h1]
  have hnm : n ≤ m := by omega
  have hnI : (n : Int) ≤ (m : Int) := by omega
  have hmc : (m : Int) ≤ (c : Int) := by omega
  have n0 : (0 : Int) ≤ (n : Int) := Int.natCast_nonneg n
  have HQ := Lib.hid (fun p' c' w' (a : Lie .u8 w' B p' n c' (R.take n)) (b : Rd B w0 w' g (R.drop n)) => (by rw [hq]; exact ⟨p', c', rfl, a, b⟩ : q (.returned (.slice p' n c')) w'))
  have HL := Lib.hid L
  have HR := Lib.hid r
  clear hq L r h1 h hm
  go_enter Tryd.func47, Tryd.ntmps47
  go_wp2
  · have hcn : c = n := by omega
    have hz : R.drop n = [] := List.drop_of_length_le (by have := HL.out.len; omega)
    have K := below_setC (Below.refl B w) g 0 HR.out.bg (.slice p (m - n) 0)
    refine HQ.out p n _ ((take_all HL.out n hnm (Nat.le_refl _) (fun e => by have := HL.out.nil e; omega)).kept K (Nat.le_refl _)) ?_
    rw [hz]
    have hmn : m - n = 0 := by omega
    rw [hmn]
    exact HR.out.set (S := []) ⟨rfl, Nat.le_refl _, fun _ => rfl, fun h => by omega⟩ (by omega)
  · have K := below_setC (Below.refl B w) g 0 HR.out.bg (.slice (Option.map (fun x => x.add n) p) (m - n) (c - n))
    exact HQ.out p c _ ((take_all HL.out n hnm (by omega) HL.out.nil).kept K (Nat.le_refl _)) (HR.out.set (drop_lie HL.out n hnm) (by omega))
/-- The panic that the reader gives up with. -/
abbrev giveUp : Ending := .panicked [{ v := .iface 65 (.agg #[]), recovered := false }]
theorem take_no {B : Nat} {w0 w : World} {g : Nat} {R : List Int} (r : Rd B w0 w g R) (n : Nat) (hn : (n : Int) ≤ 9223372036854775807) (h : R.length < n) :
    Calls Tryd.prog 47 #[.pointer (some ⟨g, 0, none⟩), i64 n] w fun e w' => e = giveUp ∧ w = w' := by
  obtain ⟨p, m, c, h1, L, h3⟩ := r.hd
  have hm := L.len
  have z : w.cell? ⟨g, 0, none⟩ = some (.slice p m c) := by rw [cell_of_row w g 0 _ _ _ h1]; rfl
  have hnI : (n : Int) > (m : Int) := by omega
  clear L r h1 h hm
  go_enter Tryd.func47, Tryd.ntmps47
  go_wp2
  exact ⟨rfl, rfl, rfl⟩
/-- The number of four bytes. -/
def lv (R : List Int) : Int := lev (R.take 4)
theorem lev_four4 (a b c d : Int) (a0 : 0 ≤ a) (a1 : a < 256) (b0 : 0 ≤ b) (b1 : b < 256) (c0 : 0 ≤ c) (c1 : c < 256) (d0 : 0 ≤ d) (d1 : d < 256) :
    bits .or .u32 (bits .or .u32 (bits .or .u32 a (b * 256)) (c * 65536)) (d * 16777216) = lev [a, b, c, d] := by
  have e1 := or_byte32 1 (by decide) a b a0 (by omega) b0 b1
  have e2 := or_byte32 2 (by decide) (a + b * 256) c (by omega) (by omega) c0 c1
  have e3 := or_byte32 3 (by decide) (a + b * 256 + c * 65536) d (by omega) (by omega) d0 d1
  simp only [show (256 : Int) ^ 1 = 256 from rfl, show (256 : Int) ^ 2 = 65536 from rfl, show (256 : Int) ^ 3 = 16777216 from rfl] at e1 e2 e3
  rw [e1, e2, e3]; simp only [lev]; omega
set_option maxHeartbeats 4000000 in
theorem number_ok {B : Nat} {w0 w : World} {g : Nat} {R : List Int} (r : Rd B w0 w g R) (hb : Byt R) (h : 4 ≤ R.length) :
    Calls Tryd.prog 48 #[.pointer (some ⟨g, 0, none⟩)] w fun e w' => e = .returned (i64 (lv R)) ∧ Rd B w0 w' g (R.drop 4) := by
  obtain ⟨q, hq⟩ : ∃ q : Ending → World → Prop, q = fun e w' => e = .returned (i64 (lv R)) ∧ Rd B w0 w' g (R.drop 4) := ⟨_, rfl⟩
  rw [← hq]
  have HQ := Lib.hid (fun w' (b : Rd B w0 w' g (R.drop 4)) => (by rw [hq]; exact ⟨rfl, b⟩ : q (.returned (i64 (lv R))) w'))
  have HT := Lib.hid (show Calls Tryd.prog 47 #[.pointer (some ⟨g, 0, none⟩), i64 4] w _ from take_ok r 4 h)
  have HB := Lib.hid hb
  clear hq r hb
  go_enter Tryd.func48, Tryd.ntmps48
  go_upto_region 2 with (go_at_call 47; (with_reducible refine HT.out.mono ?_); rintro e w2 ⟨p, c, rfl, L, r2⟩)
  obtain ⟨b, off, rfl, -, ha⟩ := L.at_ (by omega)
  obtain ⟨ys, hys⟩ : ∃ ys, ys = R.take 4 := ⟨_, rfl⟩
  have hl : ys.length = 4 := by rw [hys, List.length_take]; omega
  have hyb : Byt ys := by rw [hys]; exact byt_take HB.out 4
  have HC : ∀ k, k < 4 → w2.cell? ⟨b, off + k, none⟩ = some (.int .u8 (ys.getD k 0)) := fun k hk => ha k _ (by rw [← hys, List.getElem?_eq_getElem (by omega)]; simp [List.getD_eq_getElem?_getD, hl, hk])
  have c0 : w2.cell? ⟨b, off, none⟩ = _ := HC 0 (by decide)
  have c1 : w2.cell? ⟨b, off + 1, none⟩ = _ := HC 1 (by decide)
  have c2 : w2.cell? ⟨b, off + 2, none⟩ = _ := HC 2 (by decide)
  have c3 : w2.cell? ⟨b, off + 3, none⟩ = _ := HC 3 (by decide)
  have b0 := byt_getD hyb 0; have b1 := byt_getD hyb 1; have b2 := byt_getD hyb 2; have b3 := byt_getD hyb 3
  have hlv : lv R = lev ys := by rw [hys]; rfl
  rw [hlv] at HQ
  match ys, hl with
  | [y0, y1, y2, y3], _ =>
  simp only [List.getD_cons_zero, List.getD_cons_succ] at c0 c1 c2 c3 b0 b1 b2 b3
  obtain ⟨b00, b01⟩ := b0; obtain ⟨b10, b11⟩ := b1; obtain ⟨b20, b21⟩ := b2; obtain ⟨b30, b31⟩ := b3
  have HE := Lib.hid (lev_four4 y0 y1 y2 y3 b00 b01 b10 b11 b20 b21 b30 b31)
  have hR := Lib.hid r2
  clear L r2 HT HC ha hys hyb hlv
  go_quiet (fail)
  go_wp2
  have hv : lev [y0, y1, y2, y3] = wrap64 (bits .or .u32 (bits .or .u32 (bits .or .u32 y0 (y1 * 256)) (y2 * 65536)) (y3 * 16777216)) := by
    rw [HE.out, IntWalk.wrap64_in]; simp only [lev]; omega
  rw [hv] at HQ
  exact HQ.out _ (hR.out.kept ⟨rfl, rfl, rfl, Nat.le_refl _, fun _ _ => rfl⟩)
theorem number_no {B : Nat} {w0 w : World} {g : Nat} {R : List Int} (r : Rd B w0 w g R) (h : R.length < 4) :
    Calls Tryd.prog 48 #[.pointer (some ⟨g, 0, none⟩)] w fun e w' => e = giveUp ∧ w = w' := by
  have HT := Lib.hid (show Calls Tryd.prog 47 #[.pointer (some ⟨g, 0, none⟩), i64 4] w _ from take_no r 4 (by decide) h)
  clear r h
  go_enter Tryd.func48, Tryd.ntmps48
  go_wp2_with (go_at_call 47; (with_reducible refine HT.out.mono ?_); rintro e w2 ⟨rfl, rfl⟩)
  exact ⟨rfl, rfl, rfl⟩
/-- What is left behind a number. -/
theorem number_says {B : Nat} {w0 w : World} {g : Nat} {R : List Int} (r : Rd B w0 w g R) (hb : Byt R) :
    Calls Tryd.prog 48 #[.pointer (some ⟨g, 0, none⟩)] w fun e w' => (4 ≤ R.length → e = .returned (i64 (lv R)) ∧ Rd B w0 w' g (R.drop 4)) ∧ (R.length < 4 → e = giveUp ∧ w = w') := by
  by_cases h : 4 ≤ R.length
  · exact (number_ok r hb h).mono fun e w' a => ⟨fun _ => a, fun c => absurd c (by omega)⟩
  · exact (number_no r (by omega)).mono fun e w' a => ⟨fun c => absurd c h, fun _ => a⟩
theorem count_ok {B : Nat} {w0 w : World} {g : Nat} {R : List Int} (r : Rd B w0 w g R) (hb : Byt R) (m : Int) (h : 4 ≤ R.length) (hm : lv R ≤ m) :
    Calls Tryd.prog 49 #[.pointer (some ⟨g, 0, none⟩), i64 m] w fun e w' => e = .returned (i64 (lv R)) ∧ Rd B w0 w' g (R.drop 4) := by
  obtain ⟨q, hq⟩ : ∃ q : Ending → World → Prop, q = fun e w' => e = .returned (i64 (lv R)) ∧ Rd B w0 w' g (R.drop 4) := ⟨_, rfl⟩
  rw [← hq]
  have HQ := Lib.hid (fun w' (b : Rd B w0 w' g (R.drop 4)) => (by rw [hq]; exact ⟨rfl, b⟩ : q (.returned (i64 (lv R))) w'))
  have HT := Lib.hid (number_ok r hb h)
  clear hq r hb
  generalize lv R = x at *
  go_enter Tryd.func49, Tryd.ntmps49
  go_wp2_with (go_at_call 48; (with_reducible refine HT.out.mono ?_); rintro e w2 ⟨rfl, hr⟩; have hR := Lib.hid hr; clear hr)
  exact HQ.out _ hR.out
theorem count_no {B : Nat} {w0 w : World} {g : Nat} {R : List Int} (r : Rd B w0 w g R) (hb : Byt R) (m : Int) (h : 4 ≤ R.length) (hm : m < lv R) :
    Calls Tryd.prog 49 #[.pointer (some ⟨g, 0, none⟩), i64 m] w fun e w' => e = giveUp ∧ Rd B w0 w' g (R.drop 4) := by
  have HT := Lib.hid (number_ok r hb h)
  clear r hb
  generalize lv R = x at *
  have hxm : x > m := hm
  clear hm
  go_enter Tryd.func49, Tryd.ntmps49
  go_wp2_with (go_at_call 48; (with_reducible refine HT.out.mono ?_); rintro e w2 ⟨rfl, hr⟩; have hR := Lib.hid hr; clear hr)
  exact ⟨rfl, rfl, hR.out⟩
theorem count_short {B : Nat} {w0 w : World} {g : Nat} {R : List Int} (r : Rd B w0 w g R) (m : Int) (h : R.length < 4) :
    Calls Tryd.prog 49 #[.pointer (some ⟨g, 0, none⟩), i64 m] w fun e w' => e = giveUp ∧ w = w' := by
  have HT := Lib.hid (number_no r h)
  clear r h
  go_enter Tryd.func49, Tryd.ntmps49
  go_wp2_with (go_at_call 48; (with_reducible refine HT.out.mono ?_); rintro e w2 ⟨rfl, rfl⟩)
  exact ⟨rfl, rfl, rfl⟩
end Go.Proofs.YtogbhgbnminpdaaDoor.Pck
set_option maxRecDepth 100000
set_option linter.unusedVariables false
namespace Go.Proofs.YtogbhgbnminpdaaDoor.Pck
open Go.Proofs.YtogbhgbnminpdaaDoor Go.Proofs.YtogbhgbnminpdaaDoor.Ser Go.Proofs.YtogbhgbnminpdaaDoor.Img Go.Proofs.YtogbhgbnminpdaaDoor.Cfg
open Go.ChangeShapes Go.WideShapes Go.ChangeAt Go.RowKit
set_option linter.unusedVariables false
theorem lv_bd {R : List Int} (hb : Byt R) (h : 4 ≤ R.length) : 0 ≤ lv R ∧ lv R ≤ 4294967295 := by
  have h1 := lev_bd (R.take 4) (byt_take hb 4)
  rw [List.length_take, Nat.min_eq_left h, show (256 : Int) ^ 4 = 4294967296 from rfl] at h1
  unfold lv; omega
/-- The part that the bytes tell. -/
def ptO (R : List Int) : Pt := ⟨strOfNums ((R.drop 12).take (lv R).toNat), lv (R.drop 4), lv (R.drop 8)⟩
theorem drop_drop' (R : List Int) (i : Nat) : (R.drop i).drop 4 = R.drop (i + 4) := by rw [List.drop_drop]
theorem num_at {B : Nat} {w0 u : World} {g : Nat} {R : List Int} (hb : Byt R) (i : Nat) (hi : i + 4 ≤ R.length) (r : Rd B w0 u g (R.drop i)) :
    Calls Tryd.prog 48 #[.pointer (some ⟨g, 0, none⟩)] u fun e w' => e = .returned (i64 (lv (R.drop i))) ∧ Rd B w0 w' g (R.drop (i + 4)) ∧ Oth g u w' :=
  (number_ok r.re (byt_drop hb i) (by rw [List.length_drop]; omega)).mono fun e w' h => ⟨h.1, by rw [← drop_drop']; exact h.2.from r.b, h.2.b⟩
theorem Rd.setN {B : Nat} {w0 u : World} {g : Nat} {R : List Int} (r : Rd B w0 u g R) {k : Nat} (hk : w0.heap.size ≤ k) (hg : g < k) (o : Nat) (v : Value) : Rd B w0 (u.setCell ⟨k, o, none⟩ v) g R := by
  obtain ⟨p, m, c, h1, h2, h3⟩ := r.hd
  have hb : Below k u (u.setCell ⟨k, o, none⟩ v) := ⟨rfl, rfl, rfl, by simp [World.setCell], fun i hi => Below.heap_setCell _ _ _ _ (by show i ≠ k; omega)⟩
  have := r.bg
  exact ⟨⟨r.b.os, r.b.tape, r.b.output, Nat.le_trans r.b.size hb.size, fun i hi hig => (hb.block i (by omega)).trans (r.b.block i hi hig)⟩, r.bg, p, m, c, (hb.block g hg).trans h1, h2.kept hb (by omega), h3⟩
theorem lie_src {w : World} {B n c : Nat} {p : Option Addr} {xs : List Int} (L : Lie .u8 w B p n c xs) : Src w p xs := fun h => by
  obtain ⟨b, off, e, -, ha⟩ := L.at_ (by have := L.len; omega)
  refine ⟨_, e, fun j u hu => ?_⟩
  unfold u8L at hu
  rw [List.getElem?_map, Option.map_eq_some_iff] at hu
  obtain ⟨x, hx, rfl⟩ := hu
  rw [Addr.add_lit]; exact ha j x hx
set_option maxHeartbeats 4000000 in
theorem part_ok {B : Nat} {w0 w : World} {g : Nat} {R : List Int} (r : Rd B w0 w g R) (hb : Byt R) (n : Nat) (h12 : 12 ≤ R.length) (hn : lv R = n) (h20 : n ≤ 20) (hl : 12 + n ≤ R.length) :
    Calls Tryd.prog 50 #[.pointer (some ⟨g, 0, none⟩)] w fun e w' => e = .returned (.agg #[.string (ptO R).name, i64 (ptO R).pages, i64 (ptO R).act]) ∧ Rd B w0 w' g (R.drop (12 + n)) := by
  obtain ⟨q, hq⟩ : ∃ q : Ending → World → Prop, q = fun e w' => e = .returned (.agg #[.string (ptO R).name, i64 (ptO R).pages, i64 (ptO R).act]) ∧ Rd B w0 w' g (R.drop (12 + n)) := ⟨_, rfl⟩
  rw [← hq]
  have HQ := Lib.hid (fun w' (b : Rd B w w' g (R.drop (12 + n))) => (by rw [hq]; exact ⟨rfl, b.from r.b⟩ : q (.returned (.agg #[.string (ptO R).name, i64 (lv (R.drop 4)), i64 (lv (R.drop 8))])) w'))
  obtain ⟨h, hh⟩ : ∃ h, w.heap.size = h := ⟨_, rfl⟩
  have hgh : g < h := by rw [← hh]; exact r.lt
  obtain ⟨w1, hw1⟩ : ∃ w1, w1 = w.alloc (.cells #[.string { data := #[] }, .int .i64 0, .int .i64 0] 47) := ⟨_, rfl⟩
  have bk := Lib.hid (by rw [hw1, ← hh]; exact heap_alloc_new _ _ : w1.heap[h]? = some (.cells #[.string { data := #[] }, .int .i64 0, .int .i64 0] 47))
  have hr1 : Rd B w w1 g R := by rw [hw1]; exact r.re.kept ((Below.refl _ _).alloc (Nat.le_refl _) _)
  have HC := Lib.hid ((count_ok hr1.re hb 20 (by omega) (by omega)).mono fun e w' a => (⟨a.1, by rw [← drop_drop' R 0] ; exact a.2.from hr1.b, a.2.b⟩ : e = .returned (i64 (lv R)) ∧ Rd B w w' g (R.drop (0 + 4)) ∧ Oth g w1 w'))
  have HN := Lib.hid (fun (i : Nat) (u : World) (hi : i + 4 ≤ R.length) (b : Rd B w u g (R.drop i)) => num_at hb i hi b)
  have HT := Lib.hid (fun (u : World) (b : Rd B w u g (R.drop 12)) => (take_ok b.re n (by rw [List.length_drop]; omega)).mono fun e w' a => (by
    obtain ⟨p, c, e1, L, a⟩ := a
    exact ⟨p, c, e1, L, by rw [List.drop_drop] at a; exact a.from b.b, a.b⟩ : ∃ p c, e = .returned (.slice p n c) ∧ Lie .u8 w' B p n c ((R.drop 12).take n) ∧ Rd B w w' g (R.drop (12 + n)) ∧ Oth g u w'))
  rw [hn] at HC
  clear hq r hr1
  go_enter Tryd.func50, Tryd.ntmps50
  go_wp2_with fail
  rw [← hw1]
  clear hw1
  go_at_call 49
  refine HC.out.mono ?_
  rintro e w2 ⟨rfl, hr, ho⟩
  have k1 := Lib.hid ((ho.block h (Array.getElem?_eq_some_iff.1 bk.out).1 (by omega)).trans bk.out)
  have hR := Lib.hid hr
  clear hr ho HC bk
  go_wp2_with fail
  go_at_call 48
  refine (HN.out 4 w2 (by omega) hR.out).mono ?_
  rintro e w3 ⟨rfl, hr, ho⟩
  have k2 := Lib.hid ((ho.block h (Array.getElem?_eq_some_iff.1 k1.out).1 (by omega)).trans k1.out)
  have hR3 := Lib.hid hr
  clear hr ho hR k1
  go_wp2_with fail
  go_at_call 48
  refine (HN.out 8 w3 (by omega) hR3.out).mono ?_
  rintro e w4 ⟨rfl, hr, ho⟩
  have k3 := Lib.hid ((ho.block h (Array.getElem?_eq_some_iff.1 k2.out).1 (by omega)).trans k2.out)
  have hR4 := Lib.hid hr
  clear hr ho hR3 k2 HN
  obtain ⟨h2, hh2⟩ : ∃ h2, w4.heap.size = h2 := ⟨_, rfl⟩
  generalize lv (R.drop 4) = n4 at *
  generalize lv (R.drop 8) = n8 at *
  go_wp2_with fail
  obtain ⟨w5, hw5⟩ : ∃ w5, w5 = w4.alloc (.cells #[.string { data := #[] }, .int .i64 n4, .int .i64 n8] 47) := ⟨_, rfl⟩
  have bk := Lib.hid (by rw [hw5, ← hh2]; exact heap_alloc_new _ _ : w5.heap[h2]? = some (.cells #[.string { data := #[] }, .int .i64 n4, .int .i64 n8] 47))
  have hR5 : Rd B w w5 g (R.drop 12) := by rw [hw5]; exact hR4.out.kept ((Below.refl _ _).alloc (Nat.le_refl _) _)
  have hgh2 : g < h2 := by rw [← hh2]; exact hR4.out.lt
  have hhh2 : h < h2 := by rw [← hh2]; exact (Array.getElem?_eq_some_iff.1 k3.out).1
  have k5 := Lib.hid ((by rw [hw5]; exact ((Below.refl _ _).alloc (Nat.le_refl _) _ : Below w4.heap.size w4 (w4.alloc _)).block h (by rw [hh2]; exact hhh2) : w5.heap[h]? = w4.heap[h]?).trans k3.out)
  rw [← hw5]
  clear hw5 hR4 k3
  go_at_call 47
  refine (HT.out w5 hR5).mono ?_
  rintro e w6 ⟨p, c, rfl, L, hr, ho⟩
  have k6 := Lib.hid ((ho.block h (Array.getElem?_eq_some_iff.1 k5.out).1 (by omega)).trans k5.out)
  have b6 := Lib.hid ((ho.block h2 (Array.getElem?_eq_some_iff.1 bk.out).1 (by omega)).trans bk.out)
  have hR := Lib.hid hr
  have hcv := (show (convert 32 9 (.slice p n c)).run Tryd.prog w6 = .ok (.string (ptO R).name) w6 by
    have e := conv_src (lie_src L) c
    rw [L.len] at e
    rw [e]; unfold ptO; rw [hn]; rfl)
  have c0 : w6.cell? ⟨h2, 0, none⟩ = some (.string { data := #[] }) := by rw [cell_of_row w6 h2 0 _ _ _ b6.out]; rfl
  have c1 : w6.cell? ⟨h2, 1, none⟩ = some (.int .i64 n4) := by rw [cell_of_row w6 h2 1 _ _ _ b6.out]; rfl
  have c2 : w6.cell? ⟨h2, 2, none⟩ = some (.int .i64 n8) := by rw [cell_of_row w6 h2 2 _ _ _ b6.out]; rfl
  have fz : w6.frozen? ⟨h2, 0, none⟩ = false := by simp [World.frozen?, b6.out]
  have d0 : w6.cell? ⟨h, 0, none⟩ = some (.string { data := #[] }) := by rw [cell_of_row w6 h 0 _ _ _ k6.out]; rfl
  have d1 : w6.cell? ⟨h, 1, none⟩ = some (.int .i64 0) := by rw [cell_of_row w6 h 1 _ _ _ k6.out]; rfl
  have d2 : w6.cell? ⟨h, 2, none⟩ = some (.int .i64 0) := by rw [cell_of_row w6 h 2 _ _ _ k6.out]; rfl
  have fy : w6.frozen? ⟨h, 0, none⟩ = false := by simp [World.frozen?, k6.out]
  have fy1 : w6.frozen? ⟨h, 1, none⟩ = false := by simp [World.frozen?, k6.out]
  have fy2 : w6.frozen? ⟨h, 2, none⟩ = false := by simp [World.frozen?, k6.out]
  have hne : ¬ h = h2 := by omega
  have hne2 : ¬ h2 = h := by omega
  clear hr ho hR5 k5 bk L HT
  go_wp2_with fail
  refine bodyPost_ret (v := .agg #[.string (ptO R).name, i64 n4, i64 n8]) (by simp [results, Tryd.results50, go_sem, d0, d1, d2]) rfl (HQ.out _ ?_)
  exact (((hR.out.setN (by omega) hgh2 0 _).setN (by omega) hgh 0 _).setN (by omega) hgh 1 _).setN (by omega) hgh 2 _
theorem oth_alloc {g : Nat} {w0 w : World} (h : Oth g w0 w) (o : Obj) : Oth g w0 (w.alloc o) := h.trans (oth_below ((Below.refl _ _).alloc (Nat.le_refl _) _))
set_option maxHeartbeats 4000000 in
/-- The part is not all there. -/
theorem part_no {B : Nat} {w0 w : World} {g : Nat} {R : List Int} (r : Rd B w0 w g R) (hb : Byt R) (hno : R.length < 12 ∨ 20 < lv R ∨ (R.length : Int) < 12 + lv R) :
    Calls Tryd.prog 50 #[.pointer (some ⟨g, 0, none⟩)] w fun e w' => e = giveUp ∧ Oth g w0 w' := by
  obtain ⟨w1, hw1⟩ : ∃ w1, w1 = w.alloc (.cells #[.string { data := #[] }, .int .i64 0, .int .i64 0] 47) := ⟨_, rfl⟩
  have hr1 : Rd B w0 w1 g R := by rw [hw1]; exact r.kept ((Below.refl _ _).alloc (Nat.le_refl _) _)
  clear r
  have HN := Lib.hid (fun (i : Nat) (u : World) (hi : i + 4 ≤ R.length) (b : Rd B w0 u g (R.drop i)) => num_at hb i hi b)
  have HX := Lib.hid (fun (i : Nat) (u : World) (hi : R.length < i + 4) (hi' : i ≤ R.length) (b : Rd B w0 u g (R.drop i)) => number_no b (by rw [List.length_drop]; omega))
  by_cases h1 : R.length < 4
  · have HC := Lib.hid (count_short hr1 20 h1)
    go_enter Tryd.func50, Tryd.ntmps50
    go_wp2_with fail
    rw [← hw1]
    go_at_call 49
    refine HC.out.mono ?_
    rintro e w2 ⟨rfl, rfl⟩
    exact ⟨rfl, rfl, hr1.b⟩
  by_cases h2 : 20 < lv R
  · have HC := Lib.hid (count_no hr1 hb 20 (by omega) h2)
    go_enter Tryd.func50, Tryd.ntmps50
    go_wp2_with fail
    rw [← hw1]
    go_at_call 49
    refine HC.out.mono ?_
    rintro e w2 ⟨rfl, hr⟩
    exact ⟨rfl, rfl, hr.b⟩
  have HC := Lib.hid ((count_ok hr1 hb 20 (by omega) (by omega)).mono fun e w' a => (⟨a.1, by rw [← drop_drop' R 0] ; exact a.2⟩ : e = .returned (i64 (lv R)) ∧ Rd B w0 w' g (R.drop (0 + 4))))
  have hbd := lv_bd hb (by omega)
  obtain ⟨n, hn⟩ := Int.eq_ofNat_of_zero_le hbd.1
  have HT := Lib.hid (fun (u : World) (hi : 12 ≤ R.length) (b : Rd B w0 u g (R.drop 12)) => take_no b n (by omega) (by rw [List.length_drop]; omega))
  rw [hn] at HC
  clear hr1
  go_enter Tryd.func50, Tryd.ntmps50
  go_wp2_with fail
  rw [← hw1]
  go_at_call 49
  refine HC.out.mono ?_
  rintro e w2 ⟨rfl, hr⟩
  have hR := Lib.hid hr
  clear hr HC
  go_wp2_with fail
  go_at_call 48
  by_cases h3 : R.length < 8
  · refine (HX.out 4 w2 (by omega) (by omega) hR.out).mono ?_
    rintro e w3 ⟨rfl, rfl⟩
    exact ⟨rfl, rfl, hR.out.b⟩
  refine (HN.out 4 w2 (by omega) hR.out).mono ?_
  rintro e w3 ⟨rfl, hr, ho⟩
  have hR3 := Lib.hid hr
  clear hr ho hR
  go_wp2_with fail
  go_at_call 48
  by_cases h4 : R.length < 12
  · refine (HX.out 8 w3 (by omega) (by omega) hR3.out).mono ?_
    rintro e w4 ⟨rfl, rfl⟩
    exact ⟨rfl, rfl, hR3.out.b⟩
  refine (HN.out 8 w3 (by omega) hR3.out).mono ?_
  rintro e w4 ⟨rfl, hr, ho⟩
  have hR4 := Lib.hid hr
  clear hr ho hR3 HN HX
  generalize lv (R.drop 4) = n4 at *
  generalize lv (R.drop 8) = n8 at *
  go_wp2_with fail
  go_at_call 47
  refine (HT.out _ (by omega) (hR4.out.kept ((Below.refl _ _).alloc (Nat.le_refl _) _))).mono ?_
  rintro e w6 ⟨rfl, rfl⟩
  exact ⟨rfl, rfl, oth_alloc hR4.out.b _⟩
end Go.Proofs.YtogbhgbnminpdaaDoor.Pck
