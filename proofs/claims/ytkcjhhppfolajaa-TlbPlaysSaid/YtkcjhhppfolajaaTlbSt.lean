
/-
  The state of a Tlb; what a call on it turns; contracts of New, Len, Look.
-/
import Derived.Test.YtkcjhhppfolajaaTlbRow
namespace Go.Proofs.Ytkcjhhppfolajaa
open Go.ChangeShapes Go.WideShapes Go.ChangeAt Go.RowKit
/-- All that lay lies as it did, but for blocks of S. -/
structure But (S : Nat → Prop) (w w' : World) : Prop where
  os : w'.os = w.os
  tape : w'.tape = w.tape
  output : w'.output = w.output
  size : w.heap.size ≤ w'.heap.size
  block : ∀ k, k < w.heap.size → ¬ S k → w'.heap[k]? = w.heap[k]?
section
variable {S S' T : Nat → Prop} {w w' w'' : World}
theorem But.refl (S : Nat → Prop) (w : World) : But S w w := ⟨rfl, rfl, rfl, Nat.le_refl _, fun _ _ _ => rfl⟩
theorem But.then (h : But S w w') (h' : But S' w' w'') (hT : ∀ i, S i → T i) (hT' : ∀ i, i < w.heap.size → S' i → T i) : But T w w'' :=
  ⟨h'.os.trans h.os, h'.tape.trans h.tape, h'.output.trans h.output, Nat.le_trans h.size h'.size, fun k hk hn =>
    (h'.block k (Nat.lt_of_lt_of_le hk h.size) (fun hs => hn (hT' k hk hs))).trans (h.block k hk (fun hs => hn (hT k hs)))⟩
theorem But.trans (h : But S w w') (h' : But S w' w'') : But S w w'' := h.then h' (fun _ h => h) (fun _ _ h => h)
theorem But.mono (h : But S w w') (hT : ∀ i, S i → T i) : But T w w' := ⟨h.os, h.tape, h.output, h.size, fun k hk hn => h.block k hk (fun hs => hn (hT k hs))⟩
theorem But.drew (h : But S w w') : But S w w'.drew := ⟨h.os, h.tape, h.output, h.size, h.block⟩
theorem But.alloc (h : But S w w') (o : Obj) : But S w (w'.alloc o) :=
  h.trans ⟨rfl, rfl, rfl, by simp, fun k hk _ => Below.heap_alloc _ _ _ hk⟩
theorem But.setCell (h : But S w w') (a : Addr) (ha : S a.block) (v : Value) : But S w (w'.setCell a v) :=
  h.trans ⟨rfl, rfl, rfl, by simp [World.setCell], fun k _ hn => Below.heap_setCell _ _ _ _ (fun e => hn (e ▸ ha))⟩
theorem But.setCells (h : But S w w') (g o : Nat) (hg : S g) (vs : List Value) : But S w (w'.setCells g o vs) := by
  obtain ⟨h1, h2, h3, h4⟩ := setCells_same g vs o w'
  exact h.trans ⟨h1, h2, h3, Nat.le_of_eq h4.symm, fun k _ hn => setCells_other g vs o w' k (fun e => hn (e ▸ hg))⟩
theorem But.map {m : Nat} (h : But S w w') (hm : S m) (ht : w'.mapTurned w'' m) : But S w w'' := by
  have hg := ht.grown
  exact h.trans ⟨hg.os, hg.tape, hg.output, hg.size, fun k hk hn => hg.block k hk (fun e => hn (by injection e with e; rw [e]; exact hm))⟩
theorem But.grown {row : Option Nat} (h : But S w w') (hg : w'.grownBy w'' row) (hr : ∀ k, row = some k → S k) : But S w w'' :=
  h.trans ⟨hg.os, hg.tape, hg.output, hg.size, fun k hk hn => hg.block k hk (fun e => hn (hr k e.symm))⟩
theorem But.below (h : But S w w') {B : Nat} (hB : B ≤ w.heap.size) (hS : ∀ i, S i → B ≤ i) : Below B w w' :=
  ⟨h.os, h.tape, h.output, h.size, fun k hk => h.block k (by omega) (fun hs => by have := hS k hs; omega)⟩
theorem But.of {B : Nat} (h : Below B w w') (hB : w.heap.size ≤ B) : But S w w' := ⟨h.os, h.tape, h.output, h.size, fun k hk _ => h.block k (by omega)⟩
theorem But.cell (h : But S w w') {a : Addr} {v : Value} (hc : w.cell? a = some v) (hn : ¬ S a.block) : w'.cell? a = some v :=
  (World.cell?_of_block (h.block a.block (World.block_lt_of_cell? w a hc) hn)).trans hc
end
/-- The keys by age: a nil slice, or block g. -/
def Ages (w : World) (h m g : Nat) (v : Value) (ks : List Key) : Prop :=
  (v = .slice none 0 0 ∧ ks = []) ∨ ∃ cap, v = .slice (some ⟨g, 0, none⟩) ks.length cap ∧ Keys w g cap ks ∧ h ≠ g ∧ m ≠ g
/-- A Tlb: block h holds the struct, block m its map, block g its keys by age. -/
structure Tl (w : World) (h m g : Nat) (n : Nat) (l : List Ent) : Prop where
  hd : ∃ v, w.heap[h]? = some (.cells #[i64 n, .map (some m), v] 40 (0, 0)) ∧ Ages w h m g v (l.map (·.1))
  mp : MapF w m (tlook l) l.length
  uq : Uniq l
  ki : ∀ x ∈ l, KeyIn x.1
  n1 : 1 ≤ n
  n2 : n ≤ 256
  le : l.length ≤ n
  hm : h ≠ m
  lg : g < w.heap.size
section
variable {w w' : World} {h m g n : Nat} {l : List Ent} {S : Nat → Prop}
theorem Ages.form {v : Value} {ks : List Key} (ha : Ages w h m g v ks) : ∃ p c, v = .slice p ks.length c := by
  rcases ha with ⟨rfl, rfl⟩ | ⟨c, rfl, -⟩
  · exact ⟨_, _, rfl⟩
  · exact ⟨_, _, rfl⟩
theorem Tl.lt (ht : Tl w h m g n l) : h < w.heap.size ∧ m < w.heap.size := by
  obtain ⟨v, h1, -⟩ := ht.hd
  exact ⟨(Array.getElem?_eq_some_iff.1 h1).1, ht.mp.lt⟩
/-- It stays what it is while its blocks stay. -/
theorem Tl.kept (ht : Tl w h m g n l) (hb : But S w w') (h1 : ¬ S h) (h2 : ¬ S m) (h3 : ¬ S g) : Tl w' h m g n l := by
  obtain ⟨l1, l2⟩ := ht.lt
  obtain ⟨v, hv, ha⟩ := ht.hd
  refine ⟨⟨v, (hb.block h l1 h1).trans hv, ?_⟩, ht.mp.kept (hb.block m l2 h2), ht.uq, ht.ki, ht.n1, ht.n2, ht.le, ht.hm, Nat.lt_of_lt_of_le ht.lg hb.size⟩
  rcases ha with ha | ⟨cap, e, hk, hd⟩
  · exact .inl ha
  · exact .inr ⟨cap, e, hk.kept (hb.block g hk.lt h3), hd⟩
theorem Tl.grow (ht : Tl w h m g n l) (hb : Below w.heap.size w w') : Tl w' h m g n l := ht.kept (S := fun _ => False) (But.of hb (Nat.le_refl _)) id id id
/-- What a call on it leaves. -/
def Did (h m g n : Nat) (l' : List Ent) (w w' : World) : Prop :=
  ∃ g', Tl w' h m g' n l' ∧ (g' = g ∨ w.heap.size ≤ g') ∧ But (fun i => i = h ∨ i = m ∨ i = g) w w'
end
theorem len_says {w : World} {h m g n : Nat} {l : List Ent} (ht : Tl w h m g n l) : Calls Try.prog 13 #[.pointer (some ⟨h, 0, none⟩)] w fun e w' => e = .returned (i64 l.length) ∧ w = w' := by
  obtain ⟨v, h1, ha⟩ := ht.hd
  obtain ⟨p, c, rfl⟩ := ha.form
  rw [List.length_map] at h1
  have hc := cell_of_row w h 2 _ _ _ h1
  have hc : w.cell? ⟨h, 2, none⟩ = some (.slice p l.length c) := hc
  clear h1
  go_enter Try.func13, Try.ntmps13
  go_wp2
  go_ret
  exact ⟨rfl, rfl⟩
/-- What Look tells. -/
def lk (l : List Ent) (t v : Int) : Ending := .returned (.tuple #[i64 ((tlook l (t, v)).getD 0), .bool (tlook l (t, v)).isSome])
theorem look_says {w : World} {h m g n : Nat} {l : List Ent} (ht : Tl w h m g n l) (t v : Int) (hk : KeyIn (t, v)) : Calls Try.prog 10 #[.pointer (some ⟨h, 0, none⟩), i64 t, i64 v] w fun e w' => e = lk l t v ∧ w = w' := by
  obtain ⟨a, h1, -⟩ := ht.hd
  have hc := cell_of_row w h 1 _ _ _ h1
  have hc : w.cell? ⟨h, 1, none⟩ = some (.map (some m)) := hc
  clear h1
  have hl := ht.mp.look hk
  unfold lk
  generalize (tlook l (t, v)).getD 0 = e at *
  generalize (tlook l (t, v)).isSome = ok at *
  clear hk
  go_enter Try.func10, Try.ntmps10
  go_wp2
  go_ret2
  exact ⟨rfl, rfl⟩
/-- How many places New makes. -/
def places (n : Int) : Nat := (min (max n 1) 256).toNat
structure NewP (w : World) (n : Nat) (e : Ending) (h m : Nat) (w' : World) : Prop where
  e : e = .returned (.pointer (some ⟨h, 0, none⟩))
  t : Tl w' h m h n []
  lh : w.heap.size ≤ h
  lm : w.heap.size ≤ m
  b : Below w.heap.size w w'
def Made (w : World) (n : Nat) (e : Ending) (w' : World) : Prop := ∃ h m, NewP w n e h m w'
theorem made_new (w : World) (n : Int) : Made w (places n) (.returned (.pointer (some ⟨(w.alloc (.map #[] 0)).heap.size, 0, none⟩))) ((w.alloc (.map #[] 0)).alloc (.cells #[i64 (places n), .map (some w.heap.size), .slice none 0 0] 40)) := by
  have hu : Uniq ([] : List Ent) := by unfold Uniq; simp
  have hmp : MapF ((w.alloc (.map #[] 0)).alloc (.cells #[i64 (places n), .map (some w.heap.size), .slice none 0 0] 40)) w.heap.size (tlook []) 0 :=
    (MapF.made w).kept (Below.heap_alloc _ _ _ (by simp))
  have hb : Below w.heap.size w ((w.alloc (.map #[] 0)).alloc (.cells #[i64 (places n), .map (some w.heap.size), .slice none 0 0] 40)) := ((Below.refl _ _).alloc (Nat.le_refl _) _).alloc (by simp) _
  have hg := heap_alloc_new (w.alloc (.map #[] 0)) (.cells #[i64 (places n), .map (some w.heap.size), .slice none 0 0] 40)
  exact ⟨_, w.heap.size, rfl, ⟨⟨_, hg, .inl ⟨rfl, rfl⟩⟩, hmp, hu, (fun x hx => by cases hx), by unfold places; omega, by unfold places; omega, Nat.zero_le _, by simp, by simp⟩, by simp, Nat.le_refl _, hb⟩
theorem new_says (n : Int) (w : World) : Calls Try.prog 8 #[i64 n] w fun e w' => Made w (places n) e w' := by
  have hmm := @run_makeMap Try.prog
  have hm := made_new w n
  have hp : ((places n : Nat) : Int) = min (max n 1) 256 := by unfold places; omega
  rw [hp, show (w.alloc (.map #[] 0)).heap.size = w.heap.size + 1 by simp] at hm
  obtain ⟨r, hr⟩ : ∃ r, r = Made w (places n) := ⟨_, rfl⟩
  rw [← hr] at hm
  show Calls Try.prog 8 #[i64 n] w (Made w (places n))
  rw [← hr]
  clear hp hr
  go_enter Try.func8, Try.ntmps8
  go_wp2
  · rw [show min (max n 1) 256 = 1 by omega] at hm; exact hm
  · rw [show min (max n 1) 256 = 256 by omega] at hm; exact hm
  · rw [show min (max n 1) 256 = n by omega] at hm; exact hm
end Go.Proofs.Ytkcjhhppfolajaa
