
/-
  Kept translations: keys as the map takes them, what a map and a row of keys hold, and the state of a Tlb.
-/
import Derived.Test.YtkcjhhppfolajaaWord
import Derived.Test.YtkcjhhppfolajaaTlbMath
import Derived.Laws.CopyOwn
import Derived.Laws.AppendOwnNone
import Derived.LoopTactic
import Derived.Maps.OwnSet
import Derived.Maps.OwnOps
import Derived.DeepKeys4
namespace Go.Proofs.Ytkcjhhppfolajaa
open Go.ChangeShapes Go.WideShapes Go.ChangeAt Go.RowKit
/-! ### A key -/
def KeyIn (k : Key) : Prop := (-9223372036854775808 ≤ k.1 ∧ k.1 ≤ 9223372036854775807) ∧ (-9223372036854775808 ≤ k.2 ∧ k.2 ≤ 9223372036854775807)
def kv (k : Key) : Value := .agg #[i64 k.1, i64 k.2]
def kl (k : Key) : Lit := .string (keyBytes [.int .i64 k.1, .int .i64 k.2])
theorem key_laid : laidOutB Try.prog = true := by kernel_rfl
theorem key_row : 42 < Try.prog.types.size := by decide +kernel
theorem key_wide : (match Try.prog.underlying 42 with | some (.array _ _) | some (.struct _) => true | _ => false) = true := by kernel_rfl
theorem key_law : Maps.Keyed Try.prog 42 := Maps.Keyed.of_law (deep_law_laid key_laid (m := 2) (by omega) key_row (by kernel_rfl) key_wide)
theorem key_type : Try.prog.keyType 42 = true := by kernel_rfl
theorem key_cells : Try.prog.cellsOf 42 = 2 := by kernel_rfl
theorem key_zero (w : World) : (zeroValue 3).run Try.prog w = .ok (.int .i64 0) w := by kernel_rfl
theorem keyOf_kv {k : Key} (h : KeyIn k) : keyOf Try.prog 42 (kv k) = some (kl k) := by
  obtain ⟨a, b⟩ := k
  have wa : (Lit.int .i64 a).wf = true := WalkArith.wf_i64 h.1
  have wb : (Lit.int .i64 b).wf = true := WalkArith.wf_i64 h.2
  obtain ⟨m, hm⟩ : ∃ m, Try.prog.types.size = m + 1 := ⟨Try.prog.types.size - 1, by have := key_row; omega⟩
  have hf : (kv (a, b)).formed Try.prog 42 = true := by simp [kv, Value.formed, Try.underlying42, key_cells]
  have hu : Try.prog.underlying 42 = some (.struct _) := Try.underlying42
  have hl : Try.prog.keyLits (Try.prog.types.size + 1) 42 (kv (a, b)).cells.toList = some [.int .i64 a, .int .i64 b] := by
    rw [hm]
    have c3 : Try.prog.cellsOf 3 = 1 := by kernel_rfl
    have ui : Try.prog.underlying 3 = some (.int .i64) := Try.underlying3
    have c42 := key_cells
    generalize Try.prog = P at *
    unfold Program.keyLits
    rw [hu]
    simp only [kv, Value.cells]
    refine (if_pos ⟨by rw [c42]; rfl, by simp⟩).trans ?_
    simp [Program.keyLits, ui, c3, wa, wb]
  unfold keyOf
  rw [hu]
  simp only [key_type, hf, hl, Bool.and_self, if_true, Option.map_some]
  rfl
theorem kl_inj {a b : Key} (ha : KeyIn a) (hb : KeyIn b) (h : kl a = kl b) : a = b := by
  have h1 := keyOf_kv ha
  have h2 := keyOf_kv hb
  rw [h] at h1
  have h3 := key_law.inj h1 h2
  unfold kv at h3
  obtain ⟨a1, a2⟩ := a
  obtain ⟨b1, b2⟩ := b
  simpa using h3
theorem kl_key {k : Key} (h : KeyIn k) : WideAt.IsKeyLit (kl k) := key_law.key (keyOf_kv h)
/-! ### What a map holds -/
/-- Block m is a map of c entries that holds f's. -/
def MapF (w : World) (m : Nat) (f : Key → Option Int) (c : Nat) : Prop :=
  ∃ D : DataW Unit, w.ownsMap Try.prog 42 (plainElem Try.prog 3) m c D ∧ Maps.size D = c ∧
    ∀ k, KeyIn k → Maps.has D (kl k) = (f k).isSome ∧ D.atKey (kl k) (.lit (.int .i64 0)) = .lit (.int .i64 ((f k).getD 0))
/-- f, but v at k. -/
def upd (f : Key → Option Int) (k : Key) (v : Option Int) (k' : Key) : Option Int := if k' = k then v else f k'
section
variable {w w' : World} {m c : Nat} {f g : Key → Option Int} {k : Key} {e : Int}
theorem MapF.congr (h : MapF w m f c) (hf : ∀ k, KeyIn k → f k = g k) : MapF w m g c := by
  obtain ⟨D, h1, h2, h3⟩ := h
  exact ⟨D, h1, h2, fun k hk => by rw [← hf k hk]; exact h3 k hk⟩
theorem MapF.made (w : World) : MapF (w.alloc (.map #[] 0)) w.heap.size (fun _ => none) 0 :=
  ⟨.map [], World.ownsMap_made _ _ _ _, rfl, fun _ _ => ⟨rfl, rfl⟩⟩
theorem MapF.kept (h : MapF w m f c) (hb : w'.heap[m]? = w.heap[m]?) : MapF w' m f c := by
  obtain ⟨D, ⟨es, cl, h1, hr⟩, h2, h3⟩ := h
  exact ⟨D, ⟨es, cl, hb.trans h1, hr⟩, h2, h3⟩
theorem MapF.lt (h : MapF w m f c) : m < w.heap.size := by obtain ⟨D, h1, -⟩ := h; exact h1.lt
theorem own_tight {n : Nat} {D : DataW Unit} (h : w.ownsMap Try.prog 42 (plainElem Try.prog 3) m n D) : w.ownsMap Try.prog 42 (plainElem Try.prog 3) m (Maps.size D) D := by
  obtain ⟨es, cl, hb, F, hs, rfl⟩ := h
  exact ⟨es, cl, hb, F, by simp [Maps.size, length_sorted], rfl⟩
/-- 'v, ok := m[k]'. -/
theorem MapF.look (h : MapF w m f c) (hk : KeyIn k) : (Instr.lookup 37 (.map (some m)) (.agg #[i64 k.1, i64 k.2]) true).run Try.prog w = .ok (.tuple #[i64 ((f k).getD 0), .bool (f k).isSome]) w := by
  obtain ⟨D, h1, -, h3⟩ := h
  obtain ⟨h4, h5⟩ := h3 k hk
  obtain ⟨v, ps, hr, hv⟩ := h1.look_ok key_law Try.underlying37 (key_zero w) (zd := .lit (.int .i64 0)) (zp := []) (plainElem_int Try.underlying3 (by decide)) (keyOf_kv hk)
  obtain ⟨a, rfl, hz, -⟩ := plainElem_int_inv Try.underlying3 hv
  rw [h5] at hz
  have : a = (f k).getD 0 := by have := congrArg Prod.fst hz; simpa using this.symm
  rw [h4] at hr
  rw [← this]; exact hr
/-- 'm[k] = e'. -/
theorem MapF.put (h : MapF w m f c) (hk : KeyIn k) (he : -9223372036854775808 ≤ e ∧ e ≤ 9223372036854775807) (hc : c < 1000000) :
    ∃ w', (Instr.mapUpdate 37 (.map (some m)) (.agg #[i64 k.1, i64 k.2]) (i64 e)).run Try.prog w = .ok () w' ∧ MapF w' m (upd f k (some e)) (if (f k).isSome then c else c + 1) ∧ w.mapTurned w' m := by
  obtain ⟨D, h1, h2, h3⟩ := h
  obtain ⟨h4, h5⟩ := h3 k hk
  obtain ⟨w', hr, h6, h7⟩ := h1.store key_law Try.underlying37 (by unfold maxLen; omega) (keyOf_kv hk) (val := i64 e) (d := .lit (.int .i64 e)) (ps := []) (plainElem_int Try.underlying3 (WalkArith.wf_i64 he))
  have hs : Maps.size (D.put (kl k) (DataW.lit (.int .i64 e))) = if (f k).isSome then c else c + 1 := by
    have h9 := Maps.size_put (k := kl k) (h1.tidy key_law) (DataW.lit (.int .i64 e) : DataW Unit)
    rw [h4, h2] at h9
    exact h9
  refine ⟨w', hr, ⟨_, hs ▸ own_tight h6, hs, fun k' hk' => ?_⟩, h7⟩
  · have hne : k' ≠ k → kl k' ≠ kl k := fun h e => h (kl_inj hk' hk e)
    unfold upd
    by_cases hkk : k' = k
    · subst hkk
      rw [if_pos rfl]
      exact ⟨Maps.has_put_same h1.isMap (kl_key hk) _, Maps.atKey_put_same h1.isMap (kl_key hk) _ _⟩
    · rw [if_neg hkk, Maps.has_put_other (hne hkk), Maps.atKey_put_other (hne hkk)]
      exact h3 k' hk'
/-- 'delete(m, k)'. -/
theorem MapF.del (h : MapF w m f c) (hk : KeyIn k) : ∃ w', (∀ ty, (Builtin.delete_ #[37, 42] ty #[.map (some m), .agg #[i64 k.1, i64 k.2]]).run Try.prog w = .ok (.tuple #[]) w') ∧ MapF w' m (upd f k none) (if (f k).isSome then c - 1 else c) ∧ w.mapTurned w' m := by
  obtain ⟨D, h1, h2, h3⟩ := h
  obtain ⟨h4, h5⟩ := h3 k hk
  obtain ⟨w', hr, h6, h7⟩ := h1.drop key_law Try.underlying37 (keyOf_kv hk) 0
  have hs : Maps.size (D.del (kl k)) = if (f k).isSome then c - 1 else c := by
    have h9 := Maps.size_del (k := kl k) (h1.tidy key_law)
    rw [h4, h2] at h9
    split at h9 <;> simp_all <;> omega
  refine ⟨w', fun ty => hr, ⟨_, hs ▸ own_tight h6, hs, fun k' hk' => ?_⟩, h7⟩
  · have hne : k' ≠ k → kl k' ≠ kl k := fun h e => h (kl_inj hk' hk e)
    unfold upd
    by_cases hkk : k' = k
    · subst hkk
      rw [if_pos rfl]
      exact ⟨Maps.has_del_same, Maps.atKey_del_same _⟩
    · rw [if_neg hkk, Maps.has_del_other (hne hkk), Maps.atKey_del_other (hne hkk)]
      exact h3 k' hk'
end
end Go.Proofs.Ytkcjhhppfolajaa
