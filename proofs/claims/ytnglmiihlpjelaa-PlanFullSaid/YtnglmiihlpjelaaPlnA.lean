
/-
  Package plan: isAsked. A configuration that lies, as an argument.
-/
import Derived.Test.YtnglmiihlpjelaaPlnMath
import Derived.Test.YtnglmiihlpjelaaCfgG
import Derived.Test.YtnglmiihlpjelaaCfgR
set_option maxRecDepth 100000
set_option linter.unusedVariables false
namespace Go.Proofs.Ytnglmiihlpjelaa.Cfg
open Go.Proofs.Ytnglmiihlpjelaa
open Go.ChangeShapes Go.WideShapes Go.ChangeAt Go.RowKit
/-- A configuration that lies, its rows below B. -/
structure Cx (w : World) (B : Nat) (c : Cf) (p1 : Option Addr) (c1 : Nat) (p2 : Option Addr) (c2 : Nat) (p3 : Option Addr) (c3 : Nat) : Prop where
  L1 : LieS 3 w B p1 c.parts.length c1 (c.parts.map ptC)
  L2 : LieS 5 w B p2 c.chans.length c2 (c.chans.map chC)
  L3 : LieS 3 w B p3 c.wins.length c3 (c.wins.map wnC)
  wf : Wf c
  cap : c1 ≤ 9223372036854775807
section
variable {w w' : World} {B B' : Nat} {c : Cf} {p1 : Option Addr} {c1 : Nat} {p2 : Option Addr} {c2 : Nat} {p3 : Option Addr} {c3 : Nat}
theorem Cx.kept (X : Cx w B c p1 c1 p2 c2 p3 c3) (hb : Below B' w w') (hB : B ≤ B') : Cx w' B c p1 c1 p2 c2 p3 c3 :=
  ⟨X.L1.kept hb hB, X.L2.kept hb hB, X.L3.kept hb hB, X.wf, X.cap⟩
theorem Cx.wide (X : Cx w B c p1 c1 p2 c2 p3 c3) (hB : B ≤ B') : Cx w B' c p1 c1 p2 c2 p3 c3 :=
  ⟨X.L1.wide hB, X.L2.wide hB, X.L3.wide hB, X.wf, X.cap⟩
theorem Cx.later (X : Cx w B c p1 c1 p2 c2 p3 c3) (hb : Below B' w w') (hB : B ≤ B') (hz : B' ≤ w.heap.size) : Cx w' w'.heap.size c p1 c1 p2 c2 p3 c3 :=
  (X.kept hb hB).wide (Nat.le_trans hB (Nat.le_trans hz hb.size))
theorem check_cx (X : Cx w w.heap.size c p1 c1 p2 c2 p3 c3) : Calls Try.prog 28 #[cfV c p1 c1 p2 c2 p3 c3] w fun e w' => e = .returned (i64 (chk c)) ∧ Below w.heap.size w w' :=
  check_says X.L1 X.L2 X.L3 X.wf X.cap
theorem rcheck_cx (X : Cx w w.heap.size c p1 c1 p2 c2 p3 c3) : Calls Try.prog 12 #[cfV c p1 c1 p2 c2 p3 c3] w fun e w' => e = .returned (i64 (chk c)) ∧ Below w.heap.size w w' :=
  rcheck_says X.L1 X.L2 X.L3 X.wf
end
/-- The cell of one int of a row. -/
theorem LieS.cell1 {w : World} {B n c : Nat} {p : Option Addr} {l : List Int} (h : LieS 1 w B p n c (l.map fun t => [i64 t])) (i : Nat) (x : Int) (hx : l[i]? = some x) :
    ∃ b off, p = some ⟨b, off, none⟩ ∧ b < B ∧ w.cell? ⟨b, off + i, none⟩ = some (i64 x) := by
  have hi : i < n := by have := (List.getElem?_eq_some_iff.1 hx).1; have := h.len; rw [List.length_map] at this; omega
  obtain ⟨b, off, e, hl, ha⟩ := h.at_ (by omega)
  have hm : (l.map fun t => [i64 t])[i]? = some [i64 x] := by rw [List.getElem?_map, hx]; rfl
  have := ha i _ hm 0 _ rfl
  rw [Nat.mul_one, Nat.add_zero] at this
  exact ⟨b, off, e, hl, this⟩
set_option maxHeartbeats 4000000 in
theorem isAsked_says {w : World} {c : Cf} {p1 : Option Addr} {c1 : Nat} {p2 : Option Addr} {c2 : Nat} {p3 : Option Addr} {c3 : Nat} (X : Cx w w.heap.size c p1 c1 p2 c2 p3 c3)
    (ts : List Int) {p0 : Option Addr} {c0 : Nat} (T : LieS 1 w w.heap.size p0 ts.length c0 (ts.map fun t => [i64 t])) (hn : ts.length ≤ 2) (b : Bool) (hb : b = true ↔ (∀ (k : Nat) (t : Int), ts[k]? = some t → okT t) ∧ chk c = 0) :
    Calls Try.prog 24 #[cfV c p1 c1 p2 c2 p3 c3, .slice p0 ts.length c0] w fun e w' => e = .returned (.bool b) ∧ Below w.heap.size w w' := by
  obtain ⟨p, hp⟩ : ∃ p : Ending → World → Prop, p = fun e w' => e = .returned (.bool b) ∧ Below w.heap.size w w' := ⟨_, rfl⟩
  rw [← hp]
  have h1 := Lib.hid (fun (h : ∀ (k : Nat) (t : Int), ts[k]? = some t → okT t) (hc : chk c = 0) w' (hw : Below w.heap.size w w') => (by rw [hp, hb.2 ⟨h, hc⟩]; exact ⟨rfl, hw⟩ : p (.returned (.bool true)) w'))
  have h0 := Lib.hid (fun (h : ¬ ((∀ (k : Nat) (t : Int), ts[k]? = some t → okT t) ∧ chk c = 0)) w' (hw : Below w.heap.size w w') => (by rw [hp, (by cases b with | true => exact absurd (hb.1 rfl) h | false => rfl : b = false)]; exact ⟨rfl, hw⟩ : p (.returned (.bool false)) w'))
  clear hp hb
  obtain ⟨h, hhz⟩ : ∃ h, w.heap.size = h := ⟨_, rfl⟩
  have HC := Lib.hid (fun (u : World) (hu : Below h w u) => check_cx (X.later hu (Nat.le_of_eq hhz) (by omega)))
  simp only [cfV] at HC ⊢
  obtain ⟨k, hk⟩ : ∃ k, chk c = k := ⟨_, rfl⟩
  obtain ⟨pg, hpg⟩ : ∃ pg, c.pages = pg := ⟨_, rfl⟩
  obtain ⟨mj, hmj⟩ : ∃ mj, c.major = mj := ⟨_, rfl⟩
  obtain ⟨sw, hsw⟩ : ∃ sw, c.switch = sw := ⟨_, rfl⟩
  obtain ⟨n1, hn1⟩ : ∃ n1, c.parts.length = n1 := ⟨_, rfl⟩
  obtain ⟨n2, hn2⟩ : ∃ n2, c.chans.length = n2 := ⟨_, rfl⟩
  obtain ⟨n3, hn3⟩ : ∃ n3, c.wins.length = n3 := ⟨_, rfl⟩
  obtain ⟨m, hm⟩ : ∃ m, ts.length = m := ⟨_, rfl⟩
  rw [hk] at h1 h0
  rw [hk, hpg, hmj, hsw, hn1, hn2, hn3] at HC
  rw [hpg, hmj, hsw, hn1, hn2, hn3, hm]
  rw [hm] at T hn
  rw [hhz] at T h1 h0
  clear hpg hmj hsw hn1 hn2 hn3 hk X
  obtain ⟨w1, hw1⟩ : ∃ w1, w1 = w.alloc (.cells #[i64 pg, i64 mj, i64 sw, .slice p1 n1 c1, .slice p2 n2 c2, .slice p3 n3 c3] 26) := ⟨_, rfl⟩
  have b1 := Lib.hid (by rw [hw1]; exact (Below.refl _ _).alloc (Nat.le_of_eq hhz.symm) _ : Below h w w1)
  have hg1 : w1.heap.size = h + 1 := by rw [hw1, ← hhz]; simp
  have hZ := Lib.hid (fun k v hv => by
    rw [hw1, ← hhz, cell_of_row _ _ k _ _ _ (heap_alloc_new _ _), ← Array.getElem?_toList]; exact hv : ∀ (k : Nat) (v : Value), [i64 pg, i64 mj, i64 sw, .slice p1 n1 c1, .slice p2 n2 c2, .slice p3 n3 c3][k]? = some v → w1.cell? ⟨h, k, none⟩ = some v)
  have T1 := T.kept b1.out (Nat.le_refl _)
  clear T
  go_enter Try.func24, Try.ntmps24
  go_upto_region 1 with fail
  try simp only [hhz]
  rw [← hw1]
  clear hw1
  go_wp2
  go_loopw [6, 9] (fun _ i wr => Below (h + 1) w1 wr ∧ ∃ j : Nat, j ≤ m ∧ i = .int .i64 j ∧ ∀ (k : Nat) (t : Int), k < j → ts[k]? = some t → okT t) (fun _ i _ => m - (intOf i).toNat)
  case atStart => exact ⟨Below.refl _ _, 0, Nat.zero_le _, rfl, fun k p hk => absurd hk (Nat.not_lt_zero _)⟩
  case round =>
    obtain ⟨b2, j, hj, rfl, hk⟩ := hrel
    by_cases hjl : j < m
    · have hjI : (j : Int) < (m : Int) := by omega
      have hjb : j < 2 := by omega
      obtain ⟨x, hx⟩ : ∃ x, ts[j]? = some x := ⟨_, List.getElem?_eq_getElem (by omega)⟩
      obtain ⟨b, off, rfl, hbl, y0⟩ := (T1.kept b2 (Nat.le_succ _)).cell1 j x hx
      have hnext := Lib.hid (fun hy : okT x => (fun k q hkj hq => by
        by_cases e : k = j
        · subst e; rw [hx] at hq; cases hq; exact hy
        · exact hk k q (by omega) hq : ∀ (k : Nat) (q : Int), k < j + 1 → ts[k]? = some q → okT q))
      have hno := Lib.hid (fun (hy : ¬ okT x) w' (hw : Below (h + 1) w1 w') => h0.out (fun hm => hy (hm.1 j x hx)) w' (b1.out.trans (hw.mono (Nat.le_succ _))))
      replace b2 := Lib.hid b2
      clear hx T1 hk h1 h0 HC hZ b1
      by_cases k1 : x < 0
      · have hn := Lib.hid (hno.out (fun hy => absurd hy.1 (by omega)) wr b2.out)
        clear hno hnext
        go_wp2
        exact hn.out
      by_cases k2 : x > 1099511627776
      · have hn := Lib.hid (hno.out (fun hy => absurd hy.2 (by omega)) wr b2.out)
        clear hno hnext
        go_wp2
        exact hn.out
      · have hn := Lib.hid (hnext.out ⟨by omega, by omega⟩)
        clear hno hnext
        go_wp2
        go_roundw
        case rel => exact ⟨b2.out, j + 1, hjl, by go_num, hn.out⟩
        case measure => simp [intOf]; omega
    · have hjm : j = m := by omega
      subst hjm
      have hall := Lib.hid (fun (k : Nat) (q : Int) (hq : ts[k]? = some q) => hk k q (by have := (List.getElem?_eq_some_iff.1 hq).1; omega) hq)
      have bb := Lib.hid (b1.out.trans (b2.mono (Nat.le_succ _)))
      have hc := HC.out wr bb.out
      have hZ2 := fun k v hv => (World.cell?_of_block (b2.block h (Nat.lt_succ_self _))).trans (hZ.out k v hv)
      have z0 := hZ2 0 _ rfl
      have z1 := hZ2 1 _ rfl
      have z2 := hZ2 2 _ rfl
      have z3 := hZ2 3 _ rfl
      have z4 := hZ2 4 _ rfl
      have z5 := hZ2 5 _ rfl
      clear hZ2 hZ HC hk T1 b2 b1
      by_cases g : k = 0
      · subst g
        have hr := Lib.hid (fun w' hw => h1.out hall.out rfl w' hw)
        clear h1 h0 hall
        go_wp2_with (go_at_call 28; (with_reducible refine hc.mono ?_); rintro e w3 ⟨rfl, hb⟩)
        exact hr.out _ (bb.out.trans (hb.mono (by have := bb.out.size; omega)))
      · have hr := Lib.hid (fun w' hw => h0.out (fun hx => g hx.2) w' hw)
        have hk0 : (k == 0) = false := by simpa using g
        clear h1 h0 hall
        go_wp2_with (go_at_call 28; (with_reducible refine hc.mono ?_); rintro e w3 ⟨rfl, hb⟩)
        exact hr.out _ (bb.out.trans (hb.mono (by have := bb.out.size; omega)))
end Go.Proofs.Ytnglmiihlpjelaa.Cfg
