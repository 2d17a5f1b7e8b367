
/-
  Package config: channelsFit; planFits.
-/
import Derived.Test.YtlddclkophajbaaCfgD
set_option maxRecDepth 100000
set_option linter.unusedVariables false
namespace Go.Proofs.Ytlddclkophajbaa.Cfg
open Go.Proofs.Ytlddclkophajbaa
open Go.ChangeShapes Go.WideShapes Go.ChangeAt Go.RowKit
theorem cclos_says (c : Cf) (p1 : Option Addr) (c1 : Nat) (p2 : Option Addr) (c2 : Nat) (p3 : Option Addr) (c3 : Nat) (hl : c.parts.length ≤ 9223372036854775807) (x : Ch) (b : Bool) (hb : b = true ↔ ¬ okC c.parts.length x) {g : Nat} (w : World)
    (z : ∀ (k : Nat) (v : Value), [i64 c.pages, i64 c.major, i64 c.switch, .slice p1 c.parts.length c1, .slice p2 c.chans.length c2, .slice p3 c.wins.length c3][k]? = some v → w.cell? ⟨g, k, none⟩ = some v) (hg : g < w.heap.size) :
    Calls Try.prog 29 (#[chV x] ++ #[.pointer (some ⟨g, 0, none⟩)]) w fun e w' => e = .returned (.bool b) ∧ Below w.heap.size w w' := by
  obtain ⟨p, hp⟩ : ∃ p : Ending → World → Prop, p = fun e w' => e = .returned (.bool b) ∧ Below w.heap.size w w' := ⟨_, rfl⟩
  rw [← hp]
  have hc := Lib.hid (fun (w : World) => channelFits_says (w := w) c p1 c1 p2 c2 p3 c3 hl x (!b) (by cases b <;> simp at hb ⊢ <;> exact hb))
  have h1 := Lib.hid (fun w' (h : Below w.heap.size w w') => (by rw [hp]; exact ⟨rfl, h⟩ : p (.returned (.bool b)) w'))
  clear hp hb
  obtain ⟨m, hm⟩ : ∃ m, c.parts.length = m := ⟨_, rfl⟩
  obtain ⟨pg, hpg⟩ : ∃ pg, c.pages = pg := ⟨_, rfl⟩
  obtain ⟨mj, hmj⟩ : ∃ mj, c.major = mj := ⟨_, rfl⟩
  obtain ⟨sw, hsw⟩ : ∃ sw, c.switch = sw := ⟨_, rfl⟩
  obtain ⟨n2, hn2⟩ : ∃ n2, c.chans.length = n2 := ⟨_, rfl⟩
  obtain ⟨n3, hn3⟩ : ∃ n3, c.wins.length = n3 := ⟨_, rfl⟩
  simp only [cfV] at hc
  rw [hm, hpg, hmj, hsw, hn2, hn3] at hc
  rw [hm, hpg, hmj, hsw, hn2, hn3] at z
  clear hm hpg hmj hsw hn2 hn3 hl
  obtain ⟨kd, fr, to, sz, dp⟩ := x
  simp only [chV] at hc ⊢
  obtain ⟨w1, hw1⟩ : ∃ w1, w1 = w.alloc (.cells #[i64 kd, i64 fr, i64 to, i64 sz, i64 dp] 48) := ⟨_, rfl⟩
  have b1 := Lib.hid (by rw [hw1]; exact (Below.refl _ _).alloc (Nat.le_refl _) _ : Below w.heap.size w w1)
  have X1 : ∀ (k : Nat) (v : Value), [i64 kd, i64 fr, i64 to, i64 sz, i64 dp][k]? = some v → w1.cell? ⟨w.heap.size, k, none⟩ = some v := fun k v hv => by
    rw [hw1, cell_of_row _ _ k _ _ _ (heap_alloc_new _ _), ← Array.getElem?_toList]; exact hv
  have x0 := X1 0 _ rfl
  have x1 := X1 1 _ rfl
  have x2 := X1 2 _ rfl
  have x3 := X1 3 _ rfl
  have x4 := X1 4 _ rfl
  have z' : ∀ (k : Nat) (v : Value), [i64 pg, i64 mj, i64 sw, .slice p1 m c1, .slice p2 n2 c2, .slice p3 n3 c3][k]? = some v → w1.cell? ⟨g, k, none⟩ = some v := fun k v hv => (World.cell?_of_block (b1.out.block g hg)).trans (z k v hv)
  have z0 := z' 0 _ rfl
  have z1 := z' 1 _ rfl
  have z2 := z' 2 _ rfl
  have z3 := z' 3 _ rfl
  have z4 := z' 4 _ rfl
  have z5 := z' 5 _ rfl
  clear X1 z z' hg
  obtain ⟨h, hhz⟩ : ∃ h, w.heap.size = h := ⟨_, rfl⟩
  rw [hhz] at x0 x1 x2 x3 x4 h1 b1
  go_enter Try.func29, Try.ntmps29
  go_upto_region 1 with fail
  rw [← hw1]
  have hs : h ≤ w1.heap.size := Nat.le_trans (Nat.le_of_eq hhz.symm) b1.out.size
  clear hw1
  go_wp2_with (go_at_call 30; (with_reducible refine (hc.out _).mono ?_); rintro e w' ⟨rfl, hb⟩)
  have hr := h1.out w' (b1.out.trans (hb.mono hs))
  first
  | (rw [Bool.not_not]; exact hr)
  | exact hr
set_option maxHeartbeats 4000000 in
theorem channelsFit_says {w : World} (c : Cf) (p1 : Option Addr) (c1 : Nat) {p2 : Option Addr} {c2 : Nat} (p3 : Option Addr) (c3 : Nat) (L : LieS 5 w w.heap.size p2 c.chans.length c2 (c.chans.map chC)) (wf : Wf c) (b : Bool) (hb : b = true ↔ chansOk c.parts.length c.chans) :
    Calls Try.prog 22 #[cfV c p1 c1 p2 c2 p3 c3] w fun e w' => e = .returned (.bool b) ∧ Below w.heap.size w w' := by
  obtain ⟨p, hp⟩ : ∃ p : Ending → World → Prop, p = fun e w' => e = .returned (.bool b) ∧ Below w.heap.size w w' := ⟨_, rfl⟩
  rw [← hp]
  have h1 := Lib.hid (fun (h : chansOk c.parts.length c.chans) w' (hw : Below w.heap.size w w') => (by rw [hp, hb.2 h]; exact ⟨rfl, hw⟩ : p (.returned (.bool true)) w'))
  have h0 := Lib.hid (fun (h : ¬ chansOk c.parts.length c.chans) w' (hw : Below w.heap.size w w') => (by rw [hp, (by cases b with | true => exact absurd (hb.1 rfl) h | false => rfl : b = false)]; exact ⟨rfl, hw⟩ : p (.returned (.bool false)) w'))
  clear hp hb
  have hl := wf.len.1
  have hl2 := wf.len.2.1
  obtain ⟨h, hhz⟩ : ∃ h, w.heap.size = h := ⟨_, rfl⟩
  obtain ⟨w1, hw1⟩ : ∃ w1, w1 = w.alloc (.cells #[i64 c.pages, i64 c.major, i64 c.switch, .slice p1 c.parts.length c1, .slice p2 c.chans.length c2, .slice p3 c.wins.length c3] 49) := ⟨_, rfl⟩
  have b1 := Lib.hid (by rw [hw1]; exact (Below.refl _ _).alloc (Nat.le_of_eq hhz.symm) _ : Below h w w1)
  have hg1 : w1.heap.size = h + 1 := by rw [hw1, ← hhz]; simp
  have Z : ∀ (k : Nat) (v : Value), [i64 c.pages, i64 c.major, i64 c.switch, .slice p1 c.parts.length c1, .slice p2 c.chans.length c2, .slice p3 c.wins.length c3][k]? = some v → w1.cell? ⟨h, k, none⟩ = some v := fun k v hv => by
    rw [hw1, ← hhz, cell_of_row _ _ k _ _ _ (heap_alloc_new _ _), ← Array.getElem?_toList]; exact hv
  have z4 := Z 4 _ rfl
  rw [hhz] at L h1 h0
  have L1 : LieS 5 w1 w1.heap.size p2 c.chans.length c2 (c.chans.map chC) := (L.kept b1.out (Nat.le_refl _)).wide (by omega)
  have eg : ∀ args w, (callFunc 29 args).run Try.prog w = .ok (.enter 29 args) w := fun _ _ => by kernel_rfl
  have hcon := Lib.hid (fun (ba : Bool) hba => ccon_says L1 hl2 29 #[.pointer (some ⟨h, 0, none⟩)] (fun x => ¬ okC c.parts.length x) (fun q => Classical.propDecidable _) eg
    (fun i q _ u hu bq hbq => cclos_says c p1 c1 p2 c2 p3 c3 hl q bq hbq u (fun k v hv => (World.cell?_of_block (hu.block h (by omega))).trans (Z k v hv)) (by have := hu.size; omega)) ba hba)
  obtain ⟨m, hm⟩ : ∃ m, c.parts.length = m := ⟨_, rfl⟩
  obtain ⟨pg, hpg⟩ : ∃ pg, c.pages = pg := ⟨_, rfl⟩
  obtain ⟨mj, hmj⟩ : ∃ mj, c.major = mj := ⟨_, rfl⟩
  obtain ⟨sw, hsw⟩ : ∃ sw, c.switch = sw := ⟨_, rfl⟩
  obtain ⟨l, hll⟩ : ∃ l, c.chans = l := ⟨_, rfl⟩
  obtain ⟨n2, hn2⟩ : ∃ n2, l.length = n2 := ⟨_, rfl⟩
  obtain ⟨n3, hn3⟩ : ∃ n3, c.wins.length = n3 := ⟨_, rfl⟩
  simp only [cfV]
  rw [hm, hll] at h1 h0
  rw [hm, hll, hn2] at hcon
  rw [hll, hn2] at z4
  rw [hm, hpg, hmj, hsw, hll, hn2, hn3] at hw1 ⊢
  clear hpg hmj hsw hn3 Z L L1 eg wf
  go_enter Try.func22, Try.ntmps22
  go_upto_region 1 with fail
  rw [← hw1]
  clear hw1
  by_cases hn : (n2 : Int) ≤ 16
  · by_cases hA : ∃ (i : Nat) (x : Ch), l[i]? = some x ∧ ¬ okC m x
    · have hc := Lib.hid (hcon.out true ⟨fun _ => hA, fun _ => rfl⟩)
      have hr := Lib.hid (h0.out (fun hk => by obtain ⟨i, x, h2, h3⟩ := hA; exact h3 (hk.2 i x h2)))
      clear hcon h0 h1 hA
      go_wp2_with (go_at_call 28; (with_reducible refine hc.out.mono ?_); rintro e w' ⟨rfl, hbl⟩)
      exact hr.out _ (b1.out.trans (hbl.mono (by omega)))
    · have hc := Lib.hid (hcon.out false ⟨fun h => (by cases h), fun h => absurd h hA⟩)
      have hr := Lib.hid (h1.out ⟨by omega, fun k x hx => Classical.byContradiction fun h => hA ⟨k, x, hx, h⟩⟩)
      clear hcon h0 h1 hA
      go_wp2_with (go_at_call 28; (with_reducible refine hc.out.mono ?_); rintro e w' ⟨rfl, hbl⟩)
      exact hr.out _ (b1.out.trans (hbl.mono (by omega)))
  · have hr := Lib.hid (h0.out (fun hk => hn (by have := hk.1; omega)) w1 b1.out)
    clear hcon h0 h1
    go_wp2
    exact hr.out
end Go.Proofs.Ytlddclkophajbaa.Cfg
