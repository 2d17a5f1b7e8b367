/-
  Kit: any number of things that lie apart (Group); rows as things; no call of any package. | Package uart: a Uart within a machine's block; In, Waiting, Clear (laid by mkbareua.py from XUart). | Package uart: the table of offsets; write. | Package uart: Load, Store, Out. | Package uart: Out.
-/
import Derived.Test.YtfcmodllbhpniaaGreatDoorJnBytes
import Derived.Lib.SliceRun
set_option linter.unusedVariables false
set_option maxRecDepth 100000
namespace Go.Proofs.YtfcmodllbhpniaaGreatDoor.Ser
open Go.Proofs.YtfcmodllbhpniaaGreatDoor
open Go.ChangeShapes Go.WideShapes Go.ChangeAt Go.RowKit
/-- Things that lie apart from each other. -/
structure GroupAt (Ps : List Thing) (w : World) (F : Nat → Prop) (Fs : Nat → Nat → Prop) : Prop where
  p : ∀ (n : Nat) (P : Thing), Ps[n]? = some P → P.is w (Fs n)
  d : ∀ n n' i : Nat, n < Ps.length → n' < Ps.length → Fs n i → Fs n' i → n = n'
  f : ∀ i, F i ↔ ∃ n, n < Ps.length ∧ Fs n i
def Group (Ps : List Thing) : Thing where
  is w F := ∃ Fs, GroupAt Ps w F Fs
  firm := by
    rintro w w' F ⟨Fs, h⟩ hk
    refine ⟨Fs, fun n P hP => P.firm _ _ _ (h.p n P hP) fun i hi => hk i ((h.f i).2 ⟨n, ?_, hi⟩), h.d, h.f⟩
    exact (List.getElem?_eq_some_iff.1 hP).1
  lt := by
    rintro w F ⟨Fs, h⟩ i hi
    obtain ⟨n, hn, hx⟩ := (h.f i).1 hi
    exact Ps[n].lt _ _ (h.p n Ps[n] (List.getElem?_eq_getElem hn)) i hx
section
variable {Ps : List Thing} {w w' : World} {F : Nat → Prop} {Fs : Nat → Nat → Prop} {P P' : Thing} {n : Nat}
/-- One of them turns. -/
theorem GroupAt.turn (h : GroupAt Ps w F Fs) (hP : Ps[n]? = some P) (hs : Step (Fs n) P' w w') : Step F (Group (Ps.set n P')) w w' := by
  obtain ⟨F', p', hn, b⟩ := hs
  have hlt := (List.getElem?_eq_some_iff.1 hP).1
  have off : ∀ k i, k < Ps.length → k ≠ n → Fs k i → ¬ F' i := by
    intro k i hk hkn hi h'
    rcases hn i h' with h' | h'
    · exact hkn (h.d k n i hk hlt hi h')
    · have := Ps[k].lt _ _ (h.p k Ps[k] (List.getElem?_eq_getElem hk)) i hi; omega
  refine ⟨fun i => ∃ k, k < Ps.length ∧ (if k = n then F' i else Fs k i), ⟨fun k => if k = n then F' else Fs k, ?_, ?_, ?_⟩, ?_, b.mono fun i hi => (h.f i).2 ⟨n, hlt, hi⟩⟩
  · intro k Q hQ
    by_cases hk : k = n
    · subst hk
      rw [List.getElem?_set_self hlt] at hQ
      obtain rfl := Option.some.inj hQ
      simpa using p'
    · rw [List.getElem?_set_ne (Ne.symm hk)] at hQ
      have hq := h.p k Q hQ
      simp only [if_neg hk]
      exact Q.firm _ _ _ hq fun i hi => b.block i (Q.lt _ _ hq i hi) fun hx => hk (h.d k n i (List.getElem?_eq_some_iff.1 hQ).1 hlt hi hx)
  · intro k k' i hk hk' h1 h2
    rw [List.length_set] at hk hk'
    by_cases e : k = n <;> by_cases e' : k' = n <;> simp only [e, e', if_true, if_false] at h1 h2 ⊢
    · exact absurd h1 (off k' i hk' e' h2)
    · exact absurd h2 (off k i hk e h1)
    · exact h.d k k' i hk hk' h1 h2
  · intro i
    simp only [List.length_set]
    constructor
    · rintro ⟨k, hk, hx⟩
      refine ⟨k, hk, ?_⟩
      by_cases e : k = n <;> simpa [e] using hx
    · rintro ⟨k, hk, hx⟩
      refine ⟨k, hk, ?_⟩
      by_cases e : k = n <;> simpa [e] using hx
  · rintro i ⟨k, hk, hx⟩
    by_cases e : k = n
    · simp only [e, if_true] at hx
      rcases hn i hx with hx | hx
      · exact .inl ((h.f i).2 ⟨n, hlt, hx⟩)
      · exact .inr hx
    · simp only [e, if_false] at hx
      exact .inl ((h.f i).2 ⟨k, hk, hx⟩)
theorem Group.turn (h : (Group Ps).is w F) (hP : Ps[n]? = some P) (hs : ∀ F, P.is w F → Step F P' w w') : Step F (Group (Ps.set n P')) w w' := by
  obtain ⟨Fs, h⟩ := h
  exact h.turn hP (hs _ (h.p n P hP))
theorem Group.turned (hP : Ps[n]? = some P) (hs : Turned P P' w w') : Turned (Group Ps) (Group (Ps.set n P')) w w' := fun _ h => Group.turn h hP hs
/-- A step behind a step. -/
theorem Step.trans {F : Nat → Prop} {P Q : Thing} {w w1 w2 : World} (h : Step F P w w1) (h2 : ∀ F, P.is w1 F → Step F Q w1 w2) : Step F Q w w2 := by
  obtain ⟨F1, p1, n1, b1⟩ := h
  obtain ⟨F2, p2, n2, b2⟩ := h2 F1 p1
  have hs := b1.size
  refine ⟨F2, p2, fun i hi => ?_, b1.then b2 (fun _ h => h) fun i hi hx => ?_⟩
  · rcases n2 i hi with h | h
    · exact n1 i h
    · exact .inr (by omega)
  · rcases n1 i hx with h | h
    · exact h
    · omega
theorem Step.refl {F : Nat → Prop} {P : Thing} {w : World} (p : P.is w F) : Step F P w w := ⟨F, p, fun _ h => .inl h, But.refl _ _⟩
theorem Step.is {F : Nat → Prop} {P : Thing} {w w' : World} (h : Step F P w w') : ∃ F', P.is w' F' := ⟨h.choose, h.choose_spec.1⟩
/-- What was said of another one since. -/
theorem Step.later {F : Nat → Prop} {P : Thing} {w w' w'' : World} (h : Step F P w w') (b : Below w'.heap.size w' w'') : Step F P w w'' := h.trans fun _ p => .still b p
theorem Step.size {F : Nat → Prop} {P : Thing} {w w' : World} (h : Step F P w w') : w.heap.size ≤ w'.heap.size := by obtain ⟨_, _, _, b⟩ := h; exact b.size
/-- Some things are laid anew, in blocks of their own. -/
theorem Group.relay {Qs : List Thing} {G : Nat → Nat → Prop} (h : (Group Ps).is w F) (hb : Below w.heap.size w w') (hlen : Qs.length = Ps.length)
    (hq : ∀ (k : Nat) (Q : Thing), Qs[k]? = some Q → Ps[k]? = some Q ∨ Q.is w' (G k)) (hG : ∀ k i, G k i → w.heap.size ≤ i) (hd : ∀ k k' i, G k i → G k' i → k = k') : Step F (Group Qs) w w' := by
  obtain ⟨Fs, h⟩ := h
  have old : ∀ k i, k < Ps.length → Fs k i → i < w.heap.size := fun k i hk hi => Ps[k].lt _ _ (h.p k Ps[k] (List.getElem?_eq_getElem hk)) i hi
  have e1 : ∀ k, Ps[k]? = Qs[k]? → (fun i => (Ps[k]? = Qs[k]? ∧ Fs k i) ∨ (¬ Ps[k]? = Qs[k]? ∧ G k i)) = Fs k := fun k e => by
    funext i; apply propext; exact ⟨fun h => h.elim (fun h => h.2) (fun h => absurd e h.1), fun h => .inl ⟨e, h⟩⟩
  have e2 : ∀ k, ¬ Ps[k]? = Qs[k]? → (fun i => (Ps[k]? = Qs[k]? ∧ Fs k i) ∨ (¬ Ps[k]? = Qs[k]? ∧ G k i)) = G k := fun k e => by
    funext i; apply propext; exact ⟨fun h => h.elim (fun h => absurd h.1 e) (fun h => h.2), fun h => .inr ⟨e, h⟩⟩
  refine ⟨fun i => ∃ k, k < Qs.length ∧ ((Ps[k]? = Qs[k]? ∧ Fs k i) ∨ (¬ Ps[k]? = Qs[k]? ∧ G k i)), ⟨fun k i => (Ps[k]? = Qs[k]? ∧ Fs k i) ∨ (¬ Ps[k]? = Qs[k]? ∧ G k i), ?_, ?_, fun i => Iff.rfl⟩, ?_, But.of hb (Nat.le_refl _)⟩
  · intro k Q hQ
    by_cases e : Ps[k]? = Qs[k]?
    · rw [e1 k e]
      have hp := h.p k Q (e.trans hQ)
      exact Q.firm _ _ _ hp fun i hi => hb.block i (Q.lt _ _ hp i hi)
    · rw [e2 k e]
      rcases hq k Q hQ with h' | h'
      · exact absurd (h'.trans hQ.symm) e
      · exact h'
  · rintro k k' i hk hk' (⟨_, h1⟩ | ⟨_, h1⟩) (⟨_, h2⟩ | ⟨_, h2⟩)
    · exact h.d k k' i (hlen ▸ hk) (hlen ▸ hk') h1 h2
    · have := old k i (hlen ▸ hk) h1; have := hG k' i h2; omega
    · have := old k' i (hlen ▸ hk') h2; have := hG k i h1; omega
    · exact hd k k' i h1 h2
  · rintro i ⟨k, hk, (⟨_, h1⟩ | ⟨_, h1⟩)⟩
    · exact .inl ((h.f i).2 ⟨k, hlen ▸ hk, h1⟩)
    · exact .inr (hG k i h1)
end
/-- A row of one's own as a thing. -/
def RowT (E : TypeId) (k : IntKind) (v : Value) (xs : List Int) : Thing where
  is w F := OwnK E k w 0 v xs ∧ F = fun i => v.ownBlock = some i
  firm := by rintro w w' _ ⟨h, rfl⟩ hk; exact ⟨ownK_kept h fun g hg => hk g hg, rfl⟩
  lt := by rintro w _ ⟨h, rfl⟩ i hi; exact (h.lt i hi).2
end Go.Proofs.YtfcmodllbhpniaaGreatDoor.Ser
set_option maxRecDepth 100000
namespace Go.Proofs.YtfcmodllbhpniaaGreatDoor.Ser
open Go.Proofs.YtfcmodllbhpniaaGreatDoor
open Go.ChangeShapes Go.WideShapes Go.ChangeAt Go.RowKit
/-- The cells of a block that has a Uart behind A. -/
def uc (A Z : List Value) (ring : List Int) (f c : Int) (v : Value) : Array Value := (A ++ (u8L ring ++ ([i64 f, i64 c, v] ++ Z))).toArray
structure UaAt (w : World) (h : Nat) (A Z : List Value) (rx tx ring : List Int) (f : Nat) (v : Value) : Prop where
  hd : w.heap[h]? = some (.cells (uc A Z ring f rx.length v) 69 (0, 0))
  al : A.length = 4
  rl : ring.length = 16
  fl : f < 16
  rg : ∀ j, j < rx.length → ring[(f + j) % 16]? = rx[j]?
  le : rx.length ≤ 16
  byr : Byts rx
  byt : Byts tx
  own : Own w 0 v tx
  ne : v.ownBlock ≠ some h
/-- A block with a Uart: rx waits, tx was written out. -/
def Ua (h : Nat) (A Z : List Value) (rx tx : List Int) : Thing where
  is w F := ∃ ring f v, UaAt w h A Z rx tx ring f v ∧ F = fun i => i = h ∨ v.ownBlock = some i
  firm := by
    rintro w w' _ ⟨ring, f, v, U, rfl⟩ hk
    exact ⟨ring, f, v, ⟨(hk h (.inl rfl)).trans U.hd, U.al, U.rl, U.fl, U.rg, U.le, U.byr, U.byt, own_kept U.own fun g hg => hk g (.inr hg), U.ne⟩, rfl⟩
  lt := by
    rintro w _ ⟨ring, f, v, U, rfl⟩ i (rfl | hi)
    · exact (Array.getElem?_eq_some_iff.1 U.hd).1
    · exact (U.own.lt i hi).2
theorem uc_get (A Z : List Value) (ring : List Int) (f c : Int) (v : Value) (ha : A.length = 4) (hl : ring.length = 16) (k : Nat) :
    (uc A Z ring f c v)[k]? = if k < 4 then A[k]? else if k < 20 then (u8L ring)[k - 4]? else if k < 23 then [i64 f, i64 c, v][k - 20]? else Z[k - 23]? := by
  unfold uc
  rw [List.getElem?_toArray, List.getElem?_append, ha, List.getElem?_append, List.getElem?_append]
  simp only [List.length_map, hl, List.length_cons, List.length_nil]
  by_cases h1 : k < 4
  · rw [if_pos h1, if_pos h1]
  · by_cases h2 : k < 20
    · rw [if_neg h1, if_neg h1, if_pos h2, if_pos (by omega)]
    · by_cases h3 : k < 23
      · rw [if_neg h1, if_neg h1, if_neg h2, if_pos h3, if_neg (by omega), if_pos (by omega), show k - 4 - 16 = k - 20 by omega]
      · rw [if_neg h1, if_neg h1, if_neg h2, if_neg h3, if_neg (by omega), if_neg (by omega), show k - 4 - 16 - (0 + 1 + 1 + 1) = k - 23 by omega]
theorem uc_size (A Z : List Value) (ring : List Int) (f c : Int) (v : Value) (ha : A.length = 4) (hl : ring.length = 16) : (uc A Z ring f c v).size = 23 + Z.length := by
  unfold uc; simp [ha, hl]; omega
theorem uc_set {A Z A' Z' : List Value} {ring ring' : List Int} {f c f' c' : Int} {v v' : Value} (ha : A.length = 4) (hl : ring.length = 16) (k : Nat) (hk : k < 23 + Z.length) (x : Value)
    (h0 : ∀ j, j ≠ k → (uc A' Z' ring' f' c' v')[j]? = (uc A Z ring f c v)[j]?) (h1 : (uc A' Z' ring' f' c' v')[k]? = some x) : (uc A Z ring f c v).setIfInBounds k x = uc A' Z' ring' f' c' v' := by
  apply Array.ext_getElem?
  intro j
  by_cases e : j = k
  · subst e
    rw [h1, Array.getElem?_setIfInBounds_self_of_lt (by rw [uc_size _ _ _ _ _ _ ha hl]; exact hk)]
  · rw [h0 j e, Array.getElem?_setIfInBounds_ne (Ne.symm e)]
section
variable {w : World} {h : Nat} {A Z : List Value} {rx tx ring : List Int} {f : Nat} {v : Value}
theorem UaAt.c16 (U : UaAt w h A Z rx tx ring f v) : w.cell? ⟨h, 20, none⟩ = some (i64 f) := by
  rw [cell_of_row w h 20 _ _ _ U.hd, uc_get _ _ _ _ _ _ U.al U.rl]; rfl
theorem UaAt.c17 (U : UaAt w h A Z rx tx ring f v) : w.cell? ⟨h, 21, none⟩ = some (i64 rx.length) := by
  rw [cell_of_row w h 21 _ _ _ U.hd, uc_get _ _ _ _ _ _ U.al U.rl]; rfl
theorem UaAt.c18 (U : UaAt w h A Z rx tx ring f v) : w.cell? ⟨h, 22, none⟩ = some v := by
  rw [cell_of_row w h 22 _ _ _ U.hd, uc_get _ _ _ _ _ _ U.al U.rl]; rfl
theorem UaAt.cell (U : UaAt w h A Z rx tx ring f v) (k : Nat) (hk : k < 16) : w.cell? ⟨h, 4 + k, none⟩ = some (.int .u8 (ring.getD k 0)) := by
  rw [cell_of_row w h (4 + k) _ _ _ U.hd, uc_get _ _ _ _ _ _ U.al U.rl, if_neg (by omega), if_pos (by omega), show 4 + k - 4 = k by omega]
  have : k < ring.length := by rw [U.rl]; exact hk
  simp [this]
theorem UaAt.cA (U : UaAt w h A Z rx tx ring f v) (k : Nat) (hk : k < 4) : w.cell? ⟨h, k, none⟩ = A[k]? := by
  rw [cell_of_row w h k _ _ _ U.hd, uc_get _ _ _ _ _ _ U.al U.rl, if_pos hk]
theorem UaAt.cZ (U : UaAt w h A Z rx tx ring f v) (k : Nat) : w.cell? ⟨h, 23 + k, none⟩ = Z[k]? := by
  rw [cell_of_row w h (23 + k) _ _ _ U.hd, uc_get _ _ _ _ _ _ U.al U.rl, if_neg (by omega), if_neg (by omega), if_neg (by omega), show 23 + k - 23 = k by omega]
theorem UaAt.frozen (U : UaAt w h A Z rx tx ring f v) (k : Nat) : w.frozen? ⟨h, k, none⟩ = false := by simp [World.frozen?, U.hd]
theorem uc_16 (ha : A.length = 4) (hl : ring.length = 16) (f c x : Int) (v : Value) : (uc A Z ring f c v).setIfInBounds 20 (i64 x) = uc A Z ring x c v := by
  refine uc_set ha hl 20 (by omega) _ (fun j hj => ?_) ?_
  · rw [uc_get _ _ _ _ _ _ ha hl, uc_get _ _ _ _ _ _ ha hl]
    split
    · rfl
    · split
      · rfl
      · split
        · have : j = 21 ∨ j = 22 := by omega
          rcases this with rfl | rfl <;> rfl
        · rfl
  · rw [uc_get _ _ _ _ _ _ ha hl]; rfl
theorem uc_17 (ha : A.length = 4) (hl : ring.length = 16) (f c x : Int) (v : Value) : (uc A Z ring f c v).setIfInBounds 21 (i64 x) = uc A Z ring f x v := by
  refine uc_set ha hl 21 (by omega) _ (fun j hj => ?_) ?_
  · rw [uc_get _ _ _ _ _ _ ha hl, uc_get _ _ _ _ _ _ ha hl]
    split
    · rfl
    · split
      · rfl
      · split
        · have : j = 20 ∨ j = 22 := by omega
          rcases this with rfl | rfl <;> rfl
        · rfl
  · rw [uc_get _ _ _ _ _ _ ha hl]; rfl
theorem uc_18 (ha : A.length = 4) (hl : ring.length = 16) (f c : Int) (v x : Value) : (uc A Z ring f c v).setIfInBounds 22 x = uc A Z ring f c x := by
  refine uc_set ha hl 22 (by omega) _ (fun j hj => ?_) ?_
  · rw [uc_get _ _ _ _ _ _ ha hl, uc_get _ _ _ _ _ _ ha hl]
    split
    · rfl
    · split
      · rfl
      · split
        · have : j = 20 ∨ j = 21 := by omega
          rcases this with rfl | rfl <;> rfl
        · rfl
  · rw [uc_get _ _ _ _ _ _ ha hl]; rfl
theorem uc_k (ha : A.length = 4) (hl : ring.length = 16) (f c : Int) (v : Value) (k : Nat) (hk : k < 16) (b : Int) : (uc A Z ring f c v).setIfInBounds (4 + k) (.int .u8 b) = uc A Z (ring.set k b) f c v := by
  refine uc_set ha hl (4 + k) (by omega) _ (fun j hj => ?_) ?_
  · rw [uc_get _ _ _ _ _ _ ha hl, uc_get _ _ _ _ _ _ ha (by rw [List.length_set]; exact hl)]
    split
    · rfl
    · split
      · rw [List.getElem?_map, List.getElem?_map, List.getElem?_set_ne (by omega)]
      · rfl
  · rw [uc_get _ _ _ _ _ _ ha (by rw [List.length_set]; exact hl), if_neg (by omega), if_pos (by omega), show 4 + k - 4 = k by omega, List.getElem?_map, List.getElem?_set_self (by omega)]; rfl
/-- A cell behind the Uart is written. -/
theorem uc_Z (ha : A.length = 4) (hl : ring.length = 16) (f c : Int) (v : Value) (k : Nat) (hk : k < Z.length) (x : Value) : (uc A Z ring f c v).setIfInBounds (23 + k) x = uc A (Z.set k x) ring f c v := by
  refine uc_set ha hl (23 + k) (by omega) _ (fun j hj => ?_) ?_
  · rw [uc_get _ _ _ _ _ _ ha hl, uc_get _ _ _ _ _ _ ha hl]
    split
    · rfl
    · split
      · rfl
      · split
        · rfl
        · rw [List.getElem?_set_ne (by omega)]
  · rw [uc_get _ _ _ _ _ _ ha hl, if_neg (by omega), if_neg (by omega), if_neg (by omega), show 23 + k - 23 = k by omega, List.getElem?_set_self hk]
theorem UaAt.setZ (U : UaAt w h A Z rx tx ring f v) (k : Nat) (hk : k < Z.length) (x : Value) : UaAt (w.setCell ⟨h, 23 + k, none⟩ x) h A (Z.set k x) rx tx ring f v := by
  have hd := setCell_row U.hd (23 + k) x
  rw [uc_Z U.al U.rl _ _ _ _ hk] at hd
  exact ⟨hd, U.al, U.rl, U.fl, U.rg, U.le, U.byr, U.byt, own_kept U.own fun g hg => Below.heap_setCell _ _ _ _ (fun e => U.ne (by rw [hg, e])), U.ne⟩
theorem UaAt.in_full (U : UaAt w h A Z rx tx ring f v) (hl : rx.length = 16) (b : Int) : UaAt w h A Z (uin rx b) tx ring f v := by
  unfold uin; rw [if_neg (by omega)]; exact U
theorem own_cell_off {w : World} {h : Nat} {v : Value} {xs : List Int} (ho : Own w 0 v xs) (hn : v.ownBlock ≠ some h) (k : Nat) (x : Value) : Own (w.setCell ⟨h, k, none⟩ x) 0 v xs :=
  own_kept ho fun g hg => Below.heap_setCell _ _ _ _ (fun e => hn (by rw [hg, e]))
theorem UaAt.in_room (U : UaAt w h A Z rx tx ring f v) (hl : rx.length < 16) (b : Int) : UaAt ((w.drew.setCell ⟨h, 4 + (f + rx.length) % 16, none⟩ (.int .u8 (b % 256))).setCell ⟨h, 21, none⟩ (i64 (rx.length + 1))) h A Z (uin rx b) tx (ring.set ((f + rx.length) % 16) (b % 256)) f v := by
  have hb := uin_byts U.byr b
  have he : uin rx b = rx ++ [b % 256] := by unfold uin; rw [if_pos hl]
  rw [he] at hb ⊢
  have hk : (f + rx.length) % 16 < 16 := by omega
  have hd := setCell_row (w := w.drew) U.hd (4 + (f + rx.length) % 16) (.int .u8 (b % 256))
  rw [uc_k U.al U.rl _ _ _ _ hk] at hd
  have hd := setCell_row hd 21 (i64 (rx.length + 1))
  rw [uc_17 U.al (by rw [List.length_set]; exact U.rl)] at hd
  refine ⟨by rw [List.length_append, List.length_singleton]; exact hd, U.al, by rw [List.length_set]; exact U.rl, U.fl, fun j hj => ?_, by simp; omega, hb, U.byt, own_cell_off (own_cell_off U.own U.ne _ _) U.ne _ _, U.ne⟩
  rw [List.length_append, List.length_singleton] at hj
  have hfl := U.fl; have hrl := U.rl
  by_cases hj2 : j < rx.length
  · rw [List.getElem?_append_left hj2, List.getElem?_set_ne (by omega)]
    exact U.rg j hj2
  · obtain rfl : j = rx.length := by omega
    rw [List.getElem?_set_self (by omega)]; simp
theorem UaAt.clear (U : UaAt w h A Z rx tx ring f v) : UaAt (w.setCell ⟨h, 21, none⟩ (i64 0)) h A Z [] tx ring f v := by
  have hd := setCell_row U.hd 21 (i64 0)
  rw [uc_17 U.al U.rl] at hd
  exact ⟨hd, U.al, U.rl, U.fl, fun j hj => by simp at hj, by simp, fun b hb => by simp at hb, U.byt, own_cell_off U.own U.ne _ _, U.ne⟩
theorem UaAt.first (U : UaAt w h A Z rx tx ring f v) (hl : 0 < rx.length) : ring.getD f 0 = rx.headD 4294967295 ∧ 0 ≤ rx.headD 4294967295 ∧ rx.headD 4294967295 < 256 := by
  have h0 := U.rg 0 hl
  rw [Nat.add_zero, Nat.mod_eq_of_lt U.fl] at h0
  cases rx with
  | nil => simp at hl
  | cons a l =>
    refine ⟨?_, U.byr a (List.mem_cons_self ..)⟩
    rw [List.getD_eq_getElem?_getD, h0]; rfl
theorem took_v (rx : List Int) : ulv rx 4 = rx.headD 4294967295 := by unfold ulv; rw [if_pos rfl]
theorem UaAt.took (U : UaAt w h A Z rx tx ring f v) (hl : 0 < rx.length) : UaAt ((w.drew.setCell ⟨h, 20, none⟩ (i64 (((f : Int) + 1) % 16))).setCell ⟨h, 21, none⟩ (i64 ((rx.length : Int) - 1))) h A Z (ulr rx 4) tx ring ((f + 1) % 16) v := by
  have he : ulr rx 4 = rx.drop 1 := by unfold ulr; rw [if_pos rfl]
  have hb := ulr_byts U.byr 4
  rw [he] at hb ⊢
  have hd := setCell_row (w := w.drew) U.hd 20 (i64 (((f : Int) + 1) % 16))
  rw [uc_16 U.al U.rl] at hd
  have hd := setCell_row hd 21 (i64 ((rx.length : Int) - 1))
  rw [uc_17 U.al U.rl] at hd
  have e1 : ((rx.drop 1).length : Int) = (rx.length : Int) - 1 := by rw [List.length_drop]; omega
  have e2 : (((f + 1) % 16 : Nat) : Int) = ((f : Int) + 1) % 16 := by omega
  refine ⟨by rw [e1, e2]; exact hd, U.al, U.rl, by omega, fun j hj => ?_, by have := U.le; rw [List.length_drop]; omega, hb, U.byt, own_cell_off (own_cell_off U.own U.ne _ _) U.ne _ _, U.ne⟩
  rw [List.length_drop] at hj
  rw [List.getElem?_drop, ← U.rg (1 + j) (by omega)]
  congr 1; omega
end
set_option maxRecDepth 100000 in
theorem in_says (h : Nat) (A Z : List Value) (rx tx : List Int) (b : Int) : Turns 34 #[.pointer (some ⟨h, 4, none⟩), i64 b] (.returned (.bool (decide (rx.length < 16)))) (Ua h A Z rx tx) (Ua h A Z (uin rx b) tx) := by
  rintro w F ⟨ring, f, v, U, rfl⟩
  have c16 := U.c16
  have c17 := U.c17
  have hle := U.le
  have hfl := U.fl
  have hc := U.cell ((f + rx.length) % 16) (by omega)
  have hfr := U.frozen (4 + (f + rx.length) % 16)
  have hf17 := U.frozen 21
  obtain ⟨b0, hb0⟩ : ∃ b0, b0 = ring.getD ((f + rx.length) % 16) 0 := ⟨_, rfl⟩
  rw [← hb0] at hc
  obtain ⟨r, hr⟩ : ∃ r : Ending → World → Prop, r = fun e w' => e = .returned (.bool (decide (rx.length < 16))) ∧ Step (fun i => i = h ∨ v.ownBlock = some i) (Ua h A Z (uin rx b) tx) w w' := ⟨_, rfl⟩
  rw [← hr]
  have h1 : rx.length = 16 → r (.returned (.bool false)) w := by
    intro hl
    rw [hr]
    refine ⟨ret_bool (by simp [hl]), _, ⟨ring, f, v, U.in_full hl b, rfl⟩, fun i hi => .inl hi, But.refl _ _⟩
  have h2 : rx.length < 16 → r (.returned (.bool true)) ((w.drew.setCell ⟨h, 4 + (f + rx.length) % 16, none⟩ (.int .u8 (b % 256))).setCell ⟨h, 21, none⟩ (i64 (rx.length + 1))) := by
    intro hl
    rw [hr]
    refine ⟨ret_bool (by simp [hl]), _, ⟨_, f, v, U.in_room hl b, rfl⟩, fun i hi => .inl hi, (((But.refl _ _).drew).setCell _ (.inl rfl) _).setCell _ (.inl rfl) _⟩
  clear U hb0 hr
  by_cases hc16 : rx.length = 16
  · replace h1 := h1 hc16
    rw [hc16] at c17
    clear h2 hc hfr hle hfl hc16
    go_enter Tryz.func34, Tryz.ntmps34
    go_wp2
    exact h1
  · replace h2 := h2 (by omega)
    have hb : ((rx.length : Int) == 16) = false := by simpa using (by omega : ¬ (rx.length : Int) = 16)
    obtain ⟨c, hcc⟩ : ∃ c : Nat, rx.length = c := ⟨_, rfl⟩
    rw [hcc] at c17 hle hc hfr h2 hb
    clear hcc h1 hc16
    go_enter Tryz.func34, Tryz.ntmps34
    go_wp2
    go_region
    go_wp2
    exact h2
theorem waiting_says {w : World} {h : Nat} {A Z : List Value} {rx tx ring : List Int} {f : Nat} {v : Value} (U : UaAt w h A Z rx tx ring f v) : Calls Tryz.prog 52 #[.pointer (some ⟨h, 4, none⟩)] w fun e w' => e = .returned (i64 rx.length) ∧ w = w' := by
  have c17 := U.c17
  obtain ⟨c, hcc⟩ : ∃ c : Nat, rx.length = c := ⟨_, rfl⟩
  rw [hcc] at c17 ⊢
  clear U hcc
  go_enter Tryz.func52, Tryz.ntmps52
  go_wp2
  go_ret
  exact ⟨rfl, rfl⟩
theorem clear_says (h : Nat) (A Z : List Value) (rx tx : List Int) : Turns 36 #[.pointer (some ⟨h, 4, none⟩)] (.returned (.tuple #[])) (Ua h A Z rx tx) (Ua h A Z [] tx) := by
  rintro w F ⟨ring, f, v, U, rfl⟩
  have c17 := U.c17
  have hf17 := U.frozen 21
  obtain ⟨r, hr⟩ : ∃ r : Ending → World → Prop, r = fun e w' => e = .returned (.tuple #[]) ∧ Step (fun i => i = h ∨ v.ownBlock = some i) (Ua h A Z [] tx) w w' := ⟨_, rfl⟩
  rw [← hr]
  have h1 : r (.returned (.tuple #[])) (w.setCell ⟨h, 21, none⟩ (i64 0)) := by
    rw [hr]
    refine ⟨rfl, _, ⟨ring, f, v, U.clear, rfl⟩, fun i hi => .inl hi, (But.refl _ _).setCell _ (.inl rfl) _⟩
  clear hr
  obtain ⟨c, hcc⟩ : ∃ c : Nat, rx.length = c := ⟨_, rfl⟩
  rw [hcc] at c17
  clear U hcc
  go_enter Tryz.func36, Tryz.ntmps36
  go_wp2
  go_end0
  exact h1
theorem nothing_says (h : Nat) (w : World) : Calls Tryz.prog 200 #[.pointer (some ⟨h, 4, none⟩)] w fun e w' => e = .returned (i64 0) ∧ w = w' := by
  go_enter Tryz.func200, Tryz.ntmps200
  go_wp2
  go_ret
  exact ⟨rfl, rfl⟩
theorem ignore_says (h : Nat) (x : Int) (w : World) : Calls Tryz.prog 203 #[.pointer (some ⟨h, 4, none⟩), i64 x] w fun e w' => e = .returned (.tuple #[]) ∧ w = w' := by
  go_enter Tryz.func203, Tryz.ntmps203
  go_wp2
  go_end0
  exact ⟨rfl, rfl⟩
set_option maxRecDepth 100000 in
theorem take_says (h : Nat) (A Z : List Value) (rx tx : List Int) : Turns 202 #[.pointer (some ⟨h, 4, none⟩)] (.returned (i64 (ulv rx 4))) (Ua h A Z rx tx) (Ua h A Z (ulr rx 4) tx) := by
  rintro w F ⟨ring, f, v, U, rfl⟩
  have c16 := U.c16
  have c17 := U.c17
  have hle := U.le
  have hfl := U.fl
  have hc := U.cell f hfl
  have hf16 := U.frozen 20
  have hf17 := U.frozen 21
  obtain ⟨b0, hb0⟩ : ∃ b0, b0 = ring.getD f 0 := ⟨_, rfl⟩
  rw [← hb0] at hc
  obtain ⟨r, hr⟩ : ∃ r : Ending → World → Prop, r = fun e w' => e = .returned (i64 (ulv rx 4)) ∧ Step (fun i => i = h ∨ v.ownBlock = some i) (Ua h A Z (ulr rx 4) tx) w w' := ⟨_, rfl⟩
  rw [← hr]
  have h1 : rx.length = 0 → r (.returned (i64 4294967295)) w := by
    intro hl
    obtain rfl := List.eq_nil_of_length_eq_zero hl
    rw [hr]
    exact ⟨rfl, _, ⟨ring, f, v, U, rfl⟩, fun i hi => .inl hi, But.refl _ _⟩
  have h2 : 0 < rx.length → 0 ≤ b0 ∧ b0 < 256 ∧ r (.returned (i64 b0)) ((w.drew.setCell ⟨h, 20, none⟩ (i64 (((f : Int) + 1) % 16))).setCell ⟨h, 21, none⟩ (i64 ((rx.length : Int) - 1))) := by
    intro hl
    obtain ⟨e1, e2⟩ := U.first hl
    rw [← hb0] at e1
    rw [hr]
    exact ⟨by rw [e1]; exact e2.1, by rw [e1]; exact e2.2, by rw [e1, took_v], _, ⟨ring, _, v, U.took hl, rfl⟩, fun i hi => .inl hi, (((But.refl _ _).drew).setCell _ (.inl rfl) _).setCell _ (.inl rfl) _⟩
  clear U hb0 hr
  by_cases hc0 : rx.length = 0
  · replace h1 := h1 hc0
    rw [hc0] at c17
    clear h2 hc hle hfl hc0
    go_enter Tryz.func202, Tryz.ntmps202
    go_wp2
    exact h1
  · obtain ⟨a1, a2, h2⟩ := h2 (by omega)
    have hb : ((rx.length : Int) == 0) = false := by simpa using (by omega : ¬ (rx.length : Int) = 0)
    obtain ⟨c, hcc⟩ : ∃ c : Nat, rx.length = c := ⟨_, rfl⟩
    rw [hcc] at c17 hle h2 hb hc0
    clear hcc h1
    go_enter Tryz.func202, Tryz.ntmps202
    go_wp2
    go_region
    go_wp2
    exact h2
end Go.Proofs.YtfcmodllbhpniaaGreatDoor.Ser
set_option maxRecDepth 100000
namespace Go.Proofs.YtfcmodllbhpniaaGreatDoor.Ser
open Go.Proofs.YtfcmodllbhpniaaGreatDoor
open Go.ChangeShapes Go.WideShapes Go.ChangeAt Go.RowKit
theorem UaAt.wrote {w w1 : World} {h : Nat} {A Z : List Value} {rx tx ring : List Int} {f : Nat} {v v' : Value} (U : UaAt w h A Z rx tx ring f v) (x : Int) (o : Obj) (hown : Own w1 0 v' (tx ++ [x % 256])) (hg : (w.alloc o).grownBy w1 v.ownBlock) (hv : ∀ g, v'.ownBlock = some g → v.ownBlock = some g ∨ (w.alloc o).heap.size ≤ g) :
    w1.cell? ⟨h, 22, none⟩ = some v ∧ w1.frozen? ⟨h, 22, none⟩ = false ∧ Step (fun i => i = h ∨ v.ownBlock = some i) (Ua h A Z rx (ust tx 0 x)) w (w1.setCell ⟨h, 22, none⟩ v') := by
  have hlt : h < w.heap.size := (Array.getElem?_eq_some_iff.1 U.hd).1
  have hsz : (w.alloc o).heap.size = w.heap.size + 1 := by simp
  have hd1 : w1.heap[h]? = some (.cells (uc A Z ring f rx.length v) 69 (0, 0)) := by
    rw [hg.block h (by omega) U.ne.symm, Below.heap_alloc _ _ _ hlt]; exact U.hd
  have b1 : But (fun i => i = h ∨ v.ownBlock = some i) w w1 := ((But.refl _ w).alloc o).grown hg fun k hk => .inr hk
  have hd2 := setCell_row hd1 22 v'
  rw [uc_18 U.al U.rl] at hd2
  have he : ust tx 0 x = tx ++ [x % 256] := by unfold ust; rw [if_pos rfl]
  have hbt := ust_byts U.byt 0 x
  rw [he] at hbt ⊢
  have hne : v'.ownBlock ≠ some h := by
    intro e
    rcases hv h e with h1 | h1
    · exact U.ne h1
    · omega
  refine ⟨by rw [cell_of_row w1 h 22 _ _ _ hd1]; rw [uc_get _ _ _ _ _ _ U.al U.rl]; rfl, by simp [World.frozen?, hd1], fun i => i = h ∨ v'.ownBlock = some i, ⟨ring, f, v', ⟨hd2, U.al, U.rl, U.fl, U.rg, U.le, U.byr, hbt, own_cell_off hown hne _ _, hne⟩, rfl⟩, ?_, b1.setCell _ (.inl rfl) _⟩
  rintro i (rfl | hi)
  · exact .inl (.inl rfl)
  · rcases hv i hi with h1 | h1
    · exact .inl (.inr h1)
    · exact .inr (by omega)
theorem src_one (w : World) (b : Int) : Src (w.alloc (.cells #[.int .u8 b] 5)) (some ⟨w.heap.size, 0, none⟩) [b] := by
  intro _
  refine ⟨_, rfl, fun j u hu => ?_⟩
  rw [Addr.add_lit, Nat.zero_add, cell_of_row _ w.heap.size j _ _ _ (by rw [heap_alloc_new])]
  simpa using hu
theorem write_says (h : Nat) (A Z : List Value) (rx tx : List Int) (x : Int) (hl : tx.length < 100000) : Turns 201 #[.pointer (some ⟨h, 4, none⟩), i64 x] (.returned (.tuple #[])) (Ua h A Z rx tx) (Ua h A Z rx (ust tx 0 x)) := by
  rintro w F ⟨ring, f, v, U, rfl⟩
  have c18 := U.c18
  obtain ⟨r, hr⟩ : ∃ r : Ending → World → Prop, r = fun e w' => e = .returned (.tuple #[]) ∧ Step (fun i => i = h ∨ v.ownBlock = some i) (Ua h A Z rx (ust tx 0 x)) w w' := ⟨_, rfl⟩
  rw [← hr]
  have K : ∀ v' w1, Own w1 0 v' (tx ++ [x % 256]) → (w.alloc (.cells #[.int .u8 (x % 256)] 5)).grownBy w1 v.ownBlock → (∀ g, v'.ownBlock = some g → v.ownBlock = some g ∨ (w.alloc (.cells #[.int .u8 (x % 256)] 5)).heap.size ≤ g) →
      w1.cell? ⟨h, 22, none⟩ = some v ∧ w1.frozen? ⟨h, 22, none⟩ = false ∧ r (.returned (.tuple #[])) (w1.setCell ⟨h, 22, none⟩ v') := by
    intro v' w1 h1 h2 h3
    obtain ⟨d1, d2, d3⟩ := U.wrote x _ h1 h2 h3
    exact ⟨d1, d2, by rw [hr]; exact ⟨rfl, d3⟩⟩
  have own1 : Own (w.alloc (.cells #[.int .u8 (x % 256)] 5)) 0 v tx := own_kept U.own fun g hg => Below.heap_alloc _ _ _ (U.own.lt g hg).2
  have hs := src_one w (x % 256)
  have HK := Lib.hid K; have HO := Lib.hid own1; have HS := Lib.hid hs; have HL := Lib.hid hl
  clear K own1 hs hr U hl
  go_enter Tryz.func201, Tryz.ntmps201
  go_wp2_with (at_builtin; (refine wpList_app rfl _ _ rfl (Nat.zero_le _) (v1 := v) (R1 := tx) rfl HO.out [x % 256] rfl rfl (fun e => by cases e) HS.out (by have := HL.out; omega) ?_; intro v' w1 k1 k2 k3; obtain ⟨p', c', e', -⟩ := own_form k1; obtain ⟨n', hn'⟩ : ∃ n, n = (tx ++ [x % 256]).length := ⟨_, rfl⟩; rw [← hn'] at e'; subst e'; obtain ⟨d1, d2, d3⟩ := HK.out _ w1 k1 k2 k3; have d3 := Lib.hid d3; clear k1 k2 k3 hn'))
  go_end0
  exact d3.out
abbrev tab : Value := .agg #[Value.func (.func 200) #[] #[], Value.func (.func 201) #[] #[], Value.func (.func 202) #[] #[], Value.func (.func 203) #[] #[], Value.func (.func 52) #[] #[], Value.func (.func 203) #[] #[]]
theorem tab_0 (w : World) : (Instr.index 239 tab (i64 0)).run Tryz.prog w = .ok (.agg #[Value.func (.func 200) #[] #[], Value.func (.func 201) #[] #[]]) w := by kernel_rfl
theorem tab_1 (w : World) : (Instr.index 239 tab (i64 1)).run Tryz.prog w = .ok (.agg #[Value.func (.func 202) #[] #[], Value.func (.func 203) #[] #[]]) w := by kernel_rfl
theorem tab_2 (w : World) : (Instr.index 239 tab (i64 2)).run Tryz.prog w = .ok (.agg #[Value.func (.func 52) #[] #[], Value.func (.func 203) #[] #[]]) w := by kernel_rfl
set_option maxRecDepth 100000 in
theorem at_0 (w : World) : Calls Tryz.prog 199 #[i64 0] w fun e w' => e = .returned (.tuple #[.agg #[Value.func (.func 200) #[] #[], Value.func (.func 201) #[] #[]], .bool true]) ∧ Below w.heap.size w w' := by
  have ht := tab_0
  go_enter Tryz.func199, Tryz.ntmps199
  go_wp2
  exact bodyPost_ret (v := .tuple #[.agg #[Value.func (.func 200) #[] #[], Value.func (.func 201) #[] #[]], .bool true]) (by simp [results, Tryz.results199, go_sem]) rfl ⟨rfl, (Below.refl _ _).alloc (Nat.le_refl _) _⟩
set_option maxRecDepth 100000 in
theorem at_4 (w : World) : Calls Tryz.prog 199 #[i64 4] w fun e w' => e = .returned (.tuple #[.agg #[Value.func (.func 202) #[] #[], Value.func (.func 203) #[] #[]], .bool true]) ∧ Below w.heap.size w w' := by
  have ht := tab_1
  go_enter Tryz.func199, Tryz.ntmps199
  go_wp2
  exact bodyPost_ret (v := .tuple #[.agg #[Value.func (.func 202) #[] #[], Value.func (.func 203) #[] #[]], .bool true]) (by simp [results, Tryz.results199, go_sem]) rfl ⟨rfl, (Below.refl _ _).alloc (Nat.le_refl _) _⟩
set_option maxRecDepth 100000 in
theorem at_8 (w : World) : Calls Tryz.prog 199 #[i64 8] w fun e w' => e = .returned (.tuple #[.agg #[Value.func (.func 52) #[] #[], Value.func (.func 203) #[] #[]], .bool true]) ∧ Below w.heap.size w w' := by
  have ht := tab_2
  go_enter Tryz.func199, Tryz.ntmps199
  go_wp2
  exact bodyPost_ret (v := .tuple #[.agg #[Value.func (.func 52) #[] #[], Value.func (.func 203) #[] #[]], .bool true]) (by simp [results, Tryz.results199, go_sem]) rfl ⟨rfl, (Below.refl _ _).alloc (Nat.le_refl _) _⟩
set_option maxRecDepth 100000 in
theorem at_no (off : Int) (ho : -9223372036854775808 ≤ off ∧ off ≤ 9223372036854775807) (h0 : off ≠ 0) (h4 : off ≠ 4) (h8 : off ≠ 8) (w : World) : Calls Tryz.prog 199 #[i64 off] w fun e w' => e = .returned (.tuple #[.agg #[.nilFunc, .nilFunc], .bool false]) ∧ Below w.heap.size w w' := by
  go_enter Tryz.func199, Tryz.ntmps199
  go_wp2
  all_goals first
    | exact bodyPost_ret (v := .tuple #[.agg #[.nilFunc, .nilFunc], .bool false]) (by simp [results, Tryz.results199, go_sem]) rfl ⟨rfl, (Below.refl _ _).alloc (Nat.le_refl _) _⟩
    | (exfalso; have h := ‹_ ∧ (off % 4 != 0) = false›; simp at h; omega)
    | (exfalso; omega)
end Go.Proofs.YtfcmodllbhpniaaGreatDoor.Ser
set_option maxRecDepth 100000
namespace Go.Proofs.YtfcmodllbhpniaaGreatDoor.Ser
open Go.Proofs.YtfcmodllbhpniaaGreatDoor
open Go.ChangeShapes Go.WideShapes Go.ChangeAt Go.RowKit
theorem Step.after {F : Nat → Prop} {P' : Thing} {w w' w'' : World} (b : Below w.heap.size w w') (h : Step F P' w' w'') : Step F P' w w'' := by
  obtain ⟨F', p, n, b'⟩ := h
  have := b.size
  refine ⟨F', p, fun i hi => ?_, (But.of (S := F) b (Nat.le_refl _)).trans b'⟩
  rcases n i hi with h | h
  · exact .inl h
  · exact .inr (by omega)
theorem Thing.is.later {P : Thing} {F : Nat → Prop} {w w' : World} (p : P.is w F) (b : Below w.heap.size w w') : P.is w' F :=
  P.firm _ _ _ p fun i hi => b.block i (P.lt _ _ p i hi)
set_option maxRecDepth 100000 in
theorem load_4 (h : Nat) (A Z : List Value) (rx tx : List Int) : Turns 197 #[.pointer (some ⟨h, 4, none⟩), i64 4] (.returned (.tuple #[i64 (ulv rx 4), .bool true])) (Ua h A Z rx tx) (Ua h A Z (ulr rx 4) tx) := by
  intro w F hp
  have ht := take_says h A Z rx tx
  generalize Ua h A Z rx tx = T at *
  generalize ulv rx 4 = v at *
  go_enter Tryz.func197, Tryz.ntmps197
  go_wp2_with (first
    | (go_at_call 202; refine (ht _ F (hp.later (hb.alloc (by have := hb.size; omega) _))).mono ?_; rintro e w2 ⟨rfl, hs⟩)
    | (go_at_call 199; refine (at_4 w).mono ?_; rintro e w1 ⟨rfl, hb⟩))
  go_ret2
  exact ⟨rfl, hs.after (hb.alloc (by have := hb.size; omega) _)⟩
set_option maxRecDepth 100000 in
theorem load_0 (h : Nat) (A Z : List Value) (rx tx : List Int) : Turns 197 #[.pointer (some ⟨h, 4, none⟩), i64 0] (.returned (.tuple #[i64 0, .bool true])) (Ua h A Z rx tx) (Ua h A Z rx tx) := by
  intro w F hp
  generalize Ua h A Z rx tx = T at *
  go_enter Tryz.func197, Tryz.ntmps197
  go_wp2_with (first
    | (go_at_call 200; refine (nothing_says h _).mono ?_; rintro e w2 ⟨rfl, rfl⟩)
    | (go_at_call 199; refine (at_0 w).mono ?_; rintro e w1 ⟨rfl, hb⟩))
  go_ret2
  exact ⟨rfl, .still (hb.alloc (by have := hb.size; omega) _) hp⟩
set_option maxRecDepth 100000 in
theorem load_8 (h : Nat) (A Z : List Value) (rx tx : List Int) : Turns 197 #[.pointer (some ⟨h, 4, none⟩), i64 8] (.returned (.tuple #[i64 rx.length, .bool true])) (Ua h A Z rx tx) (Ua h A Z rx tx) := by
  intro w F hp
  have ht : ∀ w, (Ua h A Z rx tx).is w F → Calls Tryz.prog 52 #[.pointer (some ⟨h, 4, none⟩)] w fun e w' => e = .returned (i64 rx.length) ∧ w = w' := by
    rintro w ⟨ring, f, v, U, -⟩
    exact waiting_says U
  generalize Ua h A Z rx tx = T at *
  generalize rx.length = c at *
  go_enter Tryz.func197, Tryz.ntmps197
  go_wp2_with (first
    | (go_at_call 52; refine (ht _ (hp.later (hb.alloc (by have := hb.size; omega) _))).mono ?_; rintro e w2 ⟨rfl, rfl⟩)
    | (go_at_call 199; refine (at_8 w).mono ?_; rintro e w1 ⟨rfl, hb⟩))
  go_ret2
  exact ⟨rfl, .still (hb.alloc (by have := hb.size; omega) _) hp⟩
set_option maxRecDepth 100000 in
theorem load_no (h : Nat) (A Z : List Value) (rx tx : List Int) (off : Int) (ho : -9223372036854775808 ≤ off ∧ off ≤ 9223372036854775807) (h0 : off ≠ 0) (h4 : off ≠ 4) (h8 : off ≠ 8) : Turns 197 #[.pointer (some ⟨h, 4, none⟩), i64 off] (.returned (.tuple #[i64 0, .bool false])) (Ua h A Z rx tx) (Ua h A Z rx tx) := by
  intro w F hp
  generalize Ua h A Z rx tx = T at *
  go_enter Tryz.func197, Tryz.ntmps197
  go_wp2_with (go_at_call 199; refine (at_no off ho h0 h4 h8 w).mono ?_; rintro e w1 ⟨rfl, hb⟩)
  go_ret2
  exact ⟨rfl, .still (hb.alloc (by have := hb.size; omega) _) hp⟩
/-- Load. -/
theorem load_says (h : Nat) (A Z : List Value) (rx tx : List Int) (off : Int) (ho : -9223372036854775808 ≤ off ∧ off ≤ 9223372036854775807) : Turns 197 #[.pointer (some ⟨h, 4, none⟩), i64 off] (.returned (.tuple #[i64 (ulv rx off), .bool (uok off)])) (Ua h A Z rx tx) (Ua h A Z (ulr rx off) tx) := by
  by_cases h4 : off = 4
  · subst h4; exact load_4 h A Z rx tx
  · have hr : ulr rx off = rx := by unfold ulr; rw [if_neg h4]
    rw [hr]
    by_cases h8 : off = 8
    · subst h8
      have hv : ulv rx 8 = rx.length := by unfold ulv; rw [if_neg (by decide), if_pos rfl]
      rw [hv]; exact load_8 h A Z rx tx
    · have hv : ulv rx off = 0 := by unfold ulv; rw [if_neg h4, if_neg h8]
      rw [hv]
      by_cases h0 : off = 0
      · subst h0; exact load_0 h A Z rx tx
      · have hk : uok off = false := by unfold uok; simp [h0, h4, h8]
        rw [hk]; exact load_no h A Z rx tx off ho h0 h4 h8
set_option maxRecDepth 100000 in
theorem store_0 (h : Nat) (A Z : List Value) (rx tx : List Int) (x : Int) (hl : tx.length < 100000) : Turns 198 #[.pointer (some ⟨h, 4, none⟩), i64 0, i64 x] (.returned (.bool true)) (Ua h A Z rx tx) (Ua h A Z rx (ust tx 0 x)) := by
  intro w F hp
  have ht := write_says h A Z rx tx x hl
  generalize Ua h A Z rx tx = T at *
  go_enter Tryz.func198, Tryz.ntmps198
  go_wp2_with (first
    | (go_at_call 201; refine (ht _ F (hp.later (hb.alloc (by have := hb.size; omega) _))).mono ?_; rintro e w2 ⟨rfl, hs⟩)
    | (go_at_call 199; refine (at_0 w).mono ?_; rintro e w1 ⟨rfl, hb⟩))
  go_ret
  exact ⟨rfl, hs.after (hb.alloc (by have := hb.size; omega) _)⟩
set_option maxRecDepth 100000 in
theorem store_4 (h : Nat) (A Z : List Value) (rx tx : List Int) (x : Int) : Turns 198 #[.pointer (some ⟨h, 4, none⟩), i64 4, i64 x] (.returned (.bool true)) (Ua h A Z rx tx) (Ua h A Z rx tx) := by
  intro w F hp
  generalize Ua h A Z rx tx = T at *
  go_enter Tryz.func198, Tryz.ntmps198
  go_wp2_with (first
    | (go_at_call 203; refine (ignore_says h x _).mono ?_; rintro e w2 ⟨rfl, rfl⟩)
    | (go_at_call 199; refine (at_4 w).mono ?_; rintro e w1 ⟨rfl, hb⟩))
  go_ret
  exact ⟨rfl, .still (hb.alloc (by have := hb.size; omega) _) hp⟩
set_option maxRecDepth 100000 in
theorem store_8 (h : Nat) (A Z : List Value) (rx tx : List Int) (x : Int) : Turns 198 #[.pointer (some ⟨h, 4, none⟩), i64 8, i64 x] (.returned (.bool true)) (Ua h A Z rx tx) (Ua h A Z rx tx) := by
  intro w F hp
  generalize Ua h A Z rx tx = T at *
  go_enter Tryz.func198, Tryz.ntmps198
  go_wp2_with (first
    | (go_at_call 203; refine (ignore_says h x _).mono ?_; rintro e w2 ⟨rfl, rfl⟩)
    | (go_at_call 199; refine (at_8 w).mono ?_; rintro e w1 ⟨rfl, hb⟩))
  go_ret
  exact ⟨rfl, .still (hb.alloc (by have := hb.size; omega) _) hp⟩
set_option maxRecDepth 100000 in
theorem store_no (h : Nat) (A Z : List Value) (rx tx : List Int) (off x : Int) (ho : -9223372036854775808 ≤ off ∧ off ≤ 9223372036854775807) (h0 : off ≠ 0) (h4 : off ≠ 4) (h8 : off ≠ 8) : Turns 198 #[.pointer (some ⟨h, 4, none⟩), i64 off, i64 x] (.returned (.bool false)) (Ua h A Z rx tx) (Ua h A Z rx tx) := by
  intro w F hp
  generalize Ua h A Z rx tx = T at *
  go_enter Tryz.func198, Tryz.ntmps198
  go_wp2_with (go_at_call 199; refine (at_no off ho h0 h4 h8 w).mono ?_; rintro e w1 ⟨rfl, hb⟩)
  go_ret
  exact ⟨rfl, .still (hb.alloc (by have := hb.size; omega) _) hp⟩
/-- Store. -/
theorem store_says (h : Nat) (A Z : List Value) (rx tx : List Int) (off x : Int) (ho : -9223372036854775808 ≤ off ∧ off ≤ 9223372036854775807) (hl : tx.length < 100000) : Turns 198 #[.pointer (some ⟨h, 4, none⟩), i64 off, i64 x] (.returned (.bool (uok off))) (Ua h A Z rx tx) (Ua h A Z rx (ust tx off x)) := by
  by_cases h0 : off = 0
  · subst h0; exact store_0 h A Z rx tx x hl
  · have hr : ust tx off x = tx := by unfold ust; rw [if_neg h0]
    rw [hr]
    by_cases h4 : off = 4
    · subst h4; exact store_4 h A Z rx tx x
    · by_cases h8 : off = 8
      · subst h8; exact store_8 h A Z rx tx x
      · have hk : uok off = false := by unfold uok; simp [h0, h4, h8]
        rw [hk]; exact store_no h A Z rx tx off x ho h0 h4 h8
end Go.Proofs.YtfcmodllbhpniaaGreatDoor.Ser
set_option maxRecDepth 100000
namespace Go.Proofs.YtfcmodllbhpniaaGreatDoor.Ser
open Go.Proofs.YtfcmodllbhpniaaGreatDoor
open Go.ChangeShapes Go.WideShapes Go.ChangeAt Go.RowKit
/-- Bytes of the call's own are answered. -/
def NewRow (w : World) (tx : List Int) (e : Ending) (w' : World) : Prop := ∃ p c, e = .returned (.slice p tx.length c) ∧ Own w' w.heap.size (.slice p tx.length c) tx ∧ Below w.heap.size w w'
theorem own_none (w : World) : Own (w.alloc (.cells #[] 5)) w.heap.size (.slice (some ⟨w.heap.size, 0, none⟩) 0 0) [] :=
  ⟨rfl, .inr ⟨w.heap.size, 0, #[], rfl, Nat.le_refl _, heap_alloc_new _ _, Nat.le_refl _, by unfold maxLen; omega, rfl, rfl⟩⟩
theorem clone_says {w : World} {v : Value} {tx : List Int} (ho : Own w 0 v tx) (hl : tx.length < 100000) : Calls Tryz.prog 28 #[v] w (NewRow w tx) := by
  obtain ⟨r, hr⟩ : ∃ r, r = NewRow w tx := ⟨_, rfl⟩
  rw [← hr]
  obtain ⟨p, c, rfl, hn, -, -⟩ := own_form ho
  cases p with
  | none =>
    obtain ⟨rfl, rfl⟩ := hn rfl
    have h1 : r (.returned (.slice none 0 0)) w := by rw [hr]; exact ⟨none, 0, rfl, own_nil _ _, Below.refl _ _⟩
    clear hr ho hn hl
    have he : ∀ w : World, (binOp .eql 22 (.slice none 0 0) (.slice none 0 0)).run Tryz.prog w = .ok (.bool true) w := fun w => Lib.run_eql_slice_nil w _ _ none 0 0 0 0 Tryz.underlying22
    go_enter Tryz.func28, Tryz.ntmps28
    go_wp2
    exact h1
  | some ad =>
    have K : ∀ v' w1, Own w1 w.heap.size v' ([] ++ tx) → (w.alloc (.cells #[] 5)).grownBy w1 (some w.heap.size) → r (.returned v') w1 := by
      intro v' w1 h1 h2
      rw [List.nil_append] at h1
      obtain ⟨p', c', rfl, -⟩ := own_form h1
      rw [hr]
      exact ⟨p', c', rfl, h1, ((Below.refl _ _).alloc (Nat.le_refl _) _).grown h2 (by simp) (by simp)⟩
    have hs : Src (w.alloc (.cells #[] 5)) (some ad) tx := by
      refine own_src (B := 0) (w := w.alloc (.cells #[] 5)) (n := tx.length) (c := c) (own_kept ho fun g hg => Below.heap_alloc _ _ _ (ho.lt g hg).2)
    have HO := Lib.hid (own_none w)
    have HS := Lib.hid hs; have HK := Lib.hid K; have HL := Lib.hid hl
    clear hs K hl hr hn ho
    obtain ⟨n, hn⟩ : ∃ n, tx.length = n := ⟨_, rfl⟩
    rw [hn]
    have HN := Lib.hid hn
    clear hn
    have he : ∀ w : World, (binOp .eql 22 (.slice (some ad) n c) (.slice none 0 0)).run Tryz.prog w = .ok (.bool false) w := fun w => Lib.run_eql_slice_nil w _ _ (some ad) n c 0 0 Tryz.underlying22
    go_enter Tryz.func28, Tryz.ntmps28
    go_wp2_with (at_builtin; (refine wpList_app rfl _ _ rfl (by simp) (R1 := []) rfl HO.out tx rfl HN.out (fun e => by cases e) HS.out (by have h1 := HL.out; have h2 := HN.out; have h3 : ([] : List Int).length = 0 := rfl; omega) ?_; intro v' w1 k1 k2 k3; have d3 := Lib.hid (HK.out v' w1 k1 k2); clear k1 k2 k3))
    exact d3.out
theorem out_says {w : World} {h : Nat} {A Z : List Value} {rx tx ring : List Int} {f : Nat} {v : Value} (U : UaAt w h A Z rx tx ring f v) (hl : tx.length < 100000) : Calls Tryz.prog 44 #[.pointer (some ⟨h, 4, none⟩)] w (NewRow w tx) := by
  have c18 := U.c18
  have hc := clone_says U.own hl
  clear U hl
  go_enter Tryz.func44, Tryz.ntmps44
  go_wp2_with (go_at_call 28; refine hc.mono ?_; rintro e w1 ⟨p, c, rfl, h1, h2⟩)
  go_ret
  exact ⟨p, c, rfl, h1, h2⟩
end Go.Proofs.YtfcmodllbhpniaaGreatDoor.Ser
