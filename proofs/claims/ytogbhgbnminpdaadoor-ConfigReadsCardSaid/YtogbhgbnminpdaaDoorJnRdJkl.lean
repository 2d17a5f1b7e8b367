/-
  Package config: the reader's config. | Package config: steps of the reader, plainly; part_says, count_says. | Package config: a configuration of the call's own beside a reader whose block is written.
-/
import Derived.Test.YtogbhgbnminpdaaDoorJnRdHi
import Derived.Test.YtogbhgbnminpdaaDoorJnCfgSt
set_option linter.unusedVariables false
set_option maxRecDepth 100000
set_option linter.unusedVariables false
namespace Go.Proofs.YtogbhgbnminpdaaDoor.Pck
open Go.Proofs.YtogbhgbnminpdaaDoor Go.Proofs.YtogbhgbnminpdaaDoor.Ser Go.Proofs.YtogbhgbnminpdaaDoor.Img Go.Proofs.YtogbhgbnminpdaaDoor.Cfg
open Go.ChangeShapes Go.WideShapes Go.ChangeAt Go.RowKit
set_option linter.unusedVariables false
/-- A configuration that lies, its first row's room an int; its rows lie in blocks from lo on. -/
def AtC (w : World) (lo B : Nat) (v : Value) (c : Cf) : Prop := ∃ p1 c1 p2 c2 p3 c3, v = cfV c p1 c1 p2 c2 p3 c3 ∧
  LieS 3 w B p1 c.parts.length c1 (c.parts.map ptC) ∧ LieS 5 w B p2 c.chans.length c2 (c.chans.map chC) ∧ LieS 3 w B p3 c.wins.length c3 (c.wins.map wnC) ∧ c1 ≤ 9223372036854775807 ∧
  (∀ a : Addr, p1 = some a ∨ p2 = some a ∨ p3 = some a → lo ≤ a.block)
theorem lieS_off {st : Nat} {w w' : World} {lo B n c : Nat} {p : Option Addr} {vs : List (List Value)} (h : LieS st w B p n c vs) (hp : ∀ a : Addr, p = some a → lo ≤ a.block) (hk : ∀ k, lo ≤ k → k < B → w'.heap[k]? = w.heap[k]?) : LieS st w' B p n c vs :=
  ⟨h.len, h.cap, h.nil, fun hn => by
    obtain ⟨b, off, e, hl, hc⟩ := h.at_ hn
    exact ⟨b, off, e, hl, fun i x hx k v hv => (World.cell?_of_block (hk b (hp _ e) hl)).trans (hc i x hx k v hv)⟩⟩
theorem ownS_lo {E : TypeId} {st : Nat} {w : World} {B n c : Nat} {p : Option Addr} {vs : List (List Value)} (h : OwnS E st w B (.slice p n c) vs) (a : Addr) (hp : p = some a) : B ≤ a.block := by
  obtain ⟨h0, ⟨e, h1⟩ | ⟨g, cap, cur, e, h2, h3⟩⟩ := h
  · injection e with e; rw [hp] at e; cases e
  · injection e with e; rw [hp] at e; injection e with e; rw [e]; exact h2
/-- The reader's answer: the configuration that is read, in a world where all but block g stays; or the panic. -/
def ReadBy (w0 w : World) (g : Nat) (b : List Int) (e : Ending) (w' : World) : Prop :=
  Oth g w0 w' ∧ match rdC b with
    | none => e = giveUp
    | some c => ∃ v, e = .returned v ∧ AtC w' w.heap.size w'.heap.size v c
set_option maxHeartbeats 4000000 in
/-- Sixteen bytes are not there. -/
theorem config_short {B : Nat} {w0 w : World} {g : Nat} {b : List Int} (r : Rd B w0 w g b) (hb : Byt b) (hs : b.length < 16) :
    Calls Tryd.prog 31 #[.pointer (some ⟨g, 0, none⟩)] w (ReadBy w0 w g b) := by
  obtain ⟨q, hq⟩ : ∃ q, q = ReadBy w0 w g b := ⟨_, rfl⟩
  rw [← hq]
  have HQ := Lib.hid (fun w' (o : Oth g w0 w') => (by rw [hq]; refine ⟨o, ?_⟩; unfold rdC; rw [if_pos hs] : q giveUp w'))
  have HN := Lib.hid (fun (i : Nat) (u : World) (hi : i + 4 ≤ b.length) (r : Rd B w0 u g (b.drop i)) => num_at hb i hi r)
  have HX := Lib.hid (fun (i : Nat) (u : World) (hi : b.length < i + 4) (hi' : i ≤ b.length) (r : Rd B w0 u g (b.drop i)) => number_no r (by rw [List.length_drop]; omega))
  obtain ⟨w1, hw1⟩ : ∃ w1, w1 = w.alloc (.cells #[.int .i64 0, .int .i64 0, .int .i64 0, .slice none 0 0, .slice none 0 0, .slice none 0 0] 26) := ⟨_, rfl⟩
  have hR1 : Hid (Rd B w0 w1 g b) := Lib.hid (by rw [hw1]; exact r.kept ((Below.refl _ _).alloc (Nat.le_refl _) _))
  clear r hq
  go_enter Tryd.func31, Tryd.ntmps31
  go_wp2_with fail
  rw [← hw1]
  go_at_call 47
  by_cases h4 : b.length < 4
  · refine (take_no hR1.out 4 (by decide) h4).mono ?_
    rintro e w2 ⟨rfl, rfl⟩
    exact ⟨rfl, HQ.out _ hR1.out.b⟩
  refine (take_ok hR1.out 4 (by omega)).mono ?_
  rintro e w2 ⟨p, c, rfl, -, hr⟩
  have hR2 := Lib.hid hr
  clear hr hw1 hR1
  go_wp2_with fail
  go_at_call 48
  by_cases h8 : b.length < 8
  · refine (HX.out 4 w2 (by omega) (by omega) hR2.out).mono ?_
    rintro e w3 ⟨rfl, rfl⟩
    exact ⟨rfl, HQ.out _ hR2.out.b⟩
  refine (HN.out 4 w2 (by omega) hR2.out).mono ?_
  rintro e w3 ⟨rfl, hr, -⟩
  have hR3 := Lib.hid hr
  clear hr hR2
  generalize lv (b.drop 4) = n4 at *
  go_wp2_with fail
  go_at_call 48
  by_cases h12 : b.length < 12
  · refine (HX.out 8 w3 (by omega) (by omega) hR3.out).mono ?_
    rintro e w4 ⟨rfl, rfl⟩
    exact ⟨rfl, HQ.out _ hR3.out.b⟩
  refine (HN.out 8 w3 (by omega) hR3.out).mono ?_
  rintro e w4 ⟨rfl, hr, -⟩
  have hR4 := Lib.hid hr
  clear hr hR3
  generalize lv (b.drop 8) = n8 at *
  go_wp2_with fail
  go_at_call 48
  refine (HX.out 12 w4 (by omega) (by omega) hR4.out).mono ?_
  rintro e w5 ⟨rfl, rfl⟩
  exact ⟨rfl, HQ.out _ hR4.out.b⟩
end Go.Proofs.YtogbhgbnminpdaaDoor.Pck
set_option maxRecDepth 100000
set_option linter.unusedVariables false
namespace Go.Proofs.YtogbhgbnminpdaaDoor.Pck
open Go.Proofs.YtogbhgbnminpdaaDoor Go.Proofs.YtogbhgbnminpdaaDoor.Ser Go.Proofs.YtogbhgbnminpdaaDoor.Img Go.Proofs.YtogbhgbnminpdaaDoor.Cfg
open Go.ChangeShapes Go.WideShapes Go.ChangeAt Go.RowKit
set_option linter.unusedVariables false
theorem rdC_none1 {b : List Int} (h : row rdP 8 (b.drop 16) = none) : rdC b = none := by
  unfold rdC; by_cases h0 : b.length < 16
  · rw [if_pos h0]
  · rw [if_neg h0, h]; rfl
theorem rdC_none2 {b : List Int} {a : List Pt × List Int} (h : row rdP 8 (b.drop 16) = some a) (h2 : row rdCh 16 a.2 = none) : rdC b = none := by
  unfold rdC; by_cases h0 : b.length < 16
  · rw [if_pos h0]
  · rw [if_neg h0, h, Option.bind_some, h2]; rfl
theorem rdC_none3 {b : List Int} {a : List Pt × List Int} {c : List Ch × List Int} (h : row rdP 8 (b.drop 16) = some a) (h2 : row rdCh 16 a.2 = some c) (h3 : row rdWn 32 c.2 = none) : rdC b = none := by
  unfold rdC; by_cases h0 : b.length < 16
  · rw [if_pos h0]
  · rw [if_neg h0, h, Option.bind_some, h2, Option.bind_some, h3]; rfl
theorem rdC_some {b : List Int} {a : List Pt × List Int} {c : List Ch × List Int} {d : List Wn × List Int} (h0 : ¬ b.length < 16) (h : row rdP 8 (b.drop 16) = some a) (h2 : row rdCh 16 a.2 = some c) (h3 : row rdWn 32 c.2 = some d) :
    rdC b = some ⟨lv (b.drop 4), lv (b.drop 8), lv (b.drop 12), a.1, c.1, d.1⟩ := by
  unfold rdC; rw [if_neg h0, h, Option.bind_some, h2, Option.bind_some, h3, Option.map_some]
theorem row_no {α : Type} (f : List Int → Option (α × List Int)) (m : Int) (R : List Int) (h : R.length < 4 ∨ m < lv R) : row f m R = none := if_pos h
theorem row_many {α : Type} (f : List Int → Option (α × List Int)) (m : Int) (R : List Int) (h : 4 ≤ R.length) (hm : lv R ≤ m) : row f m R = many f (lv R).toNat (R.drop 4) := if_neg (by omega)
/-- A step of the row: the next thing is there, or it is not. -/
theorem many_yes {α : Type} {f : List Int → Option (α × List Int)} {k : Nat} {R R1 R2 : List Int} {l : List α} {a : α} (h : many f k R = some (l, R1)) (h2 : f R1 = some (a, R2)) : many f (k + 1) R = some (l ++ [a], R2) := by
  rw [many, h, Option.bind_some]; show (f R1).map _ = _; rw [h2]; rfl
theorem many_not {α : Type} {f : List Int → Option (α × List Int)} {k n : Nat} {R R1 : List Int} {l : List α} (h : many f k R = some (l, R1)) (h2 : f R1 = none) (hk : k < n) : many f n R = none := by
  refine many_none f R (k := k + 1) ?_ hk
  rw [many, h, Option.bind_some]; show (f R1).map _ = _; rw [h2]; rfl
theorem part_says {B : Nat} {w0 w : World} {g : Nat} {R : List Int} (r : Rd B w0 w g R) (hb : Byt R) :
    Calls Tryd.prog 50 #[.pointer (some ⟨g, 0, none⟩)] w fun e w' => match rdP R with
      | none => e = giveUp ∧ Oth g w0 w'
      | some (p, R') => e = .returned (.agg #[.string p.name, i64 p.pages, i64 p.act]) ∧ Rd B w0 w' g R' := by
  by_cases h : R.length < 12 ∨ 20 < lv R ∨ (R.length : Int) < 12 + lv R
  · unfold rdP; rw [if_pos h]
    exact part_no r hb h
  · unfold rdP; rw [if_neg h]
    have hv := lv_i hb
    exact part_ok r hb (lv R).toNat (by omega) (by omega) (by omega) (by omega)
theorem count_says {B : Nat} {w0 w : World} {g : Nat} {R : List Int} (r : Rd B w0 w g R) (hb : Byt R) (m : Int) :
    Calls Tryd.prog 49 #[.pointer (some ⟨g, 0, none⟩), i64 m] w fun e w' => (4 ≤ R.length ∧ lv R ≤ m ∧ e = .returned (i64 (lv R)) ∧ Rd B w0 w' g (R.drop 4)) ∨ ((R.length < 4 ∨ m < lv R) ∧ e = giveUp ∧ Oth g w0 w') := by
  by_cases h : R.length < 4
  · exact (count_short r m h).mono fun e w' a => .inr ⟨.inl h, a.1, a.2 ▸ r.b⟩
  by_cases hm : lv R ≤ m
  · exact (count_ok r hb m (by omega) hm).mono fun e w' a => .inl ⟨by omega, hm, a⟩
  · exact (count_no r hb m (by omega) (by omega)).mono fun e w' a => .inr ⟨.inr (by omega), a.1, a.2.b⟩
end Go.Proofs.YtogbhgbnminpdaaDoor.Pck
set_option maxRecDepth 100000
set_option linter.unusedVariables false
namespace Go.Proofs.YtogbhgbnminpdaaDoor.Pck
open Go.Proofs.YtogbhgbnminpdaaDoor Go.Proofs.YtogbhgbnminpdaaDoor.Ser Go.Proofs.YtogbhgbnminpdaaDoor.Img Go.Proofs.YtogbhgbnminpdaaDoor.Cfg
open Go.ChangeShapes Go.WideShapes Go.ChangeAt Go.RowKit
set_option linter.unusedVariables false
/-- The world's first B blocks. -/
def cut (w : World) (B : Nat) : World := { w with heap := w.heap.extract 0 B }
theorem cut_size (w : World) {B : Nat} (h : B ≤ w.heap.size) : (cut w B).heap.size = B := by simp [cut]; omega
theorem below_cut (w : World) {B : Nat} (h : B ≤ w.heap.size) : Below B (cut w B) w :=
  ⟨rfl, rfl, rfl, by rw [cut_size w h]; exact h, fun k hk => by
    show w.heap[k]? = (w.heap.extract 0 B)[k]?
    rw [Array.getElem?_extract]; simp [hk, h]⟩
/-- A configuration of one's own, all of it in blocks from B on. -/
def Cg (B : Nat) (w : World) (hb : Nat) (c : Cf) (v1 v2 v3 : Value) : Prop := B ≤ w.heap.size ∧ Cb (cut w B) w hb c v1 v2 v3
theorem cg_of {w0 w : World} {hb : Nat} {c : Cf} {v1 v2 v3 : Value} (C : Cb w0 w hb c v1 v2 v3) : Cg w0.heap.size w hb c v1 v2 v3 := by
  have hs := C.b.size
  have e := cut_size w hs
  exact ⟨hs, by rw [e]; exact below_cut w hs, by rw [e]; exact C.hb0, C.hd, by rw [e]; exact C.o1, by rw [e]; exact C.o2, by rw [e]; exact C.o3, C.ne, C.ap⟩
theorem ownS_oth {E : TypeId} {st : Nat} {w w' : World} {B g : Nat} {v : Value} {vs : List (List Value)} (h : OwnS E st w B v vs) (o : Oth g w w') (hg : g < B) : OwnS E st w' B v vs :=
  ownS_kept h fun i hi => by
    have := h.lt i hi
    exact o.block i (by omega) (by omega)
/-- What the reader does leaves it alone. -/
theorem Cg.oth {B g : Nat} {w w' : World} {hb : Nat} {c : Cf} {v1 v2 v3 : Value} (C : Cg B w hb c v1 v2 v3) (o : Oth g w w') (hg : g < B) : Cg B w' hb c v1 v2 v3 := by
  obtain ⟨hs, C⟩ := C
  have e := cut_size w hs
  have hs' : B ≤ w'.heap.size := Nat.le_trans hs o.size
  have e' := cut_size w' hs'
  obtain ⟨b, hb0, hd, o1, o2, o3, ne, ap⟩ := C
  rw [e] at b hb0 o1 o2 o3
  have hlt : hb < w.heap.size := (Array.getElem?_eq_some_iff.1 hd).1
  exact ⟨hs', by rw [e']; exact below_cut w' hs', by rw [e']; exact hb0, (o.block hb hlt (by omega)).trans hd, by rw [e']; exact ownS_oth o1 o hg, by rw [e']; exact ownS_oth o2 o hg, by rw [e']; exact ownS_oth o3 o hg, ne, ap⟩
/-- What is laid or grown from block B on leaves the reader alone. -/
theorem Rd.past {B0 B : Nat} {w0 u u' : World} {g : Nat} {R : List Int} (r : Rd B0 w0 u g R) (h : Below B u u') (hg : g < B) (hB : w0.heap.size ≤ B) : Rd B0 w0 u' g R := by
  obtain ⟨p, m, c, h1, h2, h3⟩ := r.hd
  have := r.bg
  exact ⟨⟨h.os.trans r.b.os, h.tape.trans r.b.tape, h.output.trans r.b.output, Nat.le_trans r.b.size h.size, fun k hk hkg => (h.block k (by omega)).trans (r.b.block k hk hkg)⟩, r.bg, p, m, c, (h.block g hg).trans h1, h2.kept h (by omega), h3⟩
section
variable {B : Nat} {w w4 : World} {hb : Nat} {c : Cf} {v1 v2 v3 v' : Value}
theorem Cg.size (C : Cg B w hb c v1 v2 v3) : B ≤ w.heap.size := C.1
theorem Cg.at (C : Cg B w hb c v1 v2 v3) (k : Nat) (v : Value) (h : [i64 c.pages, i64 c.major, i64 c.switch, v1, v2, v3][k]? = some v) : w.cell? ⟨hb, k, none⟩ = some v := C.2.at k v h
theorem Cg.own1 (C : Cg B w hb c v1 v2 v3) : OwnS 47 3 w B v1 (c.parts.map ptC) := by have := C.2.o1; rw [cut_size w C.1] at this; exact this
theorem Cg.own2 (C : Cg B w hb c v1 v2 v3) : OwnS 49 5 w B v2 (c.chans.map chC) := by have := C.2.o2; rw [cut_size w C.1] at this; exact this
theorem Cg.own3 (C : Cg B w hb c v1 v2 v3) : OwnS 51 3 w B v3 (c.wins.map wnC) := by have := C.2.o3; rw [cut_size w C.1] at this; exact this
theorem Cg.app1 (C : Cg B w hb c v1 v2 v3) {l : List Pt} (o : OwnS 47 3 w4 B v' (l.map ptC)) (g4 : w.grownBy w4 v1.ownBlock) (hv : v'.ownBlock = v1.ownBlock ∨ v'.ownBlock = some w.heap.size) : Cg B (w4.setCell ⟨hb, 3, none⟩ v') hb { c with parts := l } v' v2 v3 := by
  have e := cut_size w C.1
  have h := cg_of (C.2.app1 (l := l) (by rw [e]; exact o) g4 hv)
  rw [e] at h; exact h
theorem Cg.app2 (C : Cg B w hb c v1 v2 v3) {l : List Ch} (o : OwnS 49 5 w4 B v' (l.map chC)) (g4 : w.grownBy w4 v2.ownBlock) (hv : v'.ownBlock = v2.ownBlock ∨ v'.ownBlock = some w.heap.size) : Cg B (w4.setCell ⟨hb, 4, none⟩ v') hb { c with chans := l } v1 v' v3 := by
  have e := cut_size w C.1
  have h := cg_of (C.2.app2 (l := l) (by rw [e]; exact o) g4 hv)
  rw [e] at h; exact h
theorem Cg.app3 (C : Cg B w hb c v1 v2 v3) {l : List Wn} (o : OwnS 51 3 w4 B v' (l.map wnC)) (g4 : w.grownBy w4 v3.ownBlock) (hv : v'.ownBlock = v3.ownBlock ∨ v'.ownBlock = some w.heap.size) : Cg B (w4.setCell ⟨hb, 5, none⟩ v') hb { c with wins := l } v1 v2 v' := by
  have e := cut_size w C.1
  have h := cg_of (C.2.app3 (l := l) (by rw [e]; exact o) g4 hv)
  rw [e] at h; exact h
theorem Cg.lies (C : Cg B w hb c v1 v2 v3) : ∃ p1 c1 p2 c2 p3 c3, v1 = .slice p1 c.parts.length c1 ∧ v2 = .slice p2 c.chans.length c2 ∧ v3 = .slice p3 c.wins.length c3 ∧ (c1 ≤ maxLen ∧ c2 ≤ maxLen ∧ c3 ≤ maxLen) ∧
    LieS 3 w w.heap.size p1 c.parts.length c1 (c.parts.map ptC) ∧ LieS 5 w w.heap.size p2 c.chans.length c2 (c.chans.map chC) ∧ LieS 3 w w.heap.size p3 c.wins.length c3 (c.wins.map wnC) := C.2.lies
end
end Go.Proofs.YtogbhgbnminpdaaDoor.Pck
