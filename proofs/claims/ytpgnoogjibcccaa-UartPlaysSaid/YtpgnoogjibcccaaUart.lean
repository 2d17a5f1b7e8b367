
/-
  Package uart: a Uart as two lists of bytes; contracts of In, Waiting, Clear.
-/
import Derived.Test.YtpgnoogjibcccaaBytes
namespace Go.Proofs.Ytpgnoogjibcccaa.Ser
open Go.Proofs.Ytpgnoogjibcccaa
open Go.ChangeShapes Go.WideShapes Go.ChangeAt Go.RowKit
/-- The cells of a Uart. -/
def uc (ring : List Int) (f c : Int) (v : Value) : Array Value := (u8L ring ++ [i64 f, i64 c, v]).toArray
structure UaAt (w : World) (h : Nat) (rx tx ring : List Int) (f : Nat) (v : Value) : Prop where
  hd : w.heap[h]? = some (.cells (uc ring f rx.length v) 28 (0, 0))
  rl : ring.length = 16
  fl : f < 16
  rg : ∀ j, j < rx.length → ring[(f + j) % 16]? = rx[j]?
  le : rx.length ≤ 16
  byr : Byts rx
  byt : Byts tx
  own : Own w 0 v tx
  ne : v.ownBlock ≠ some h
/-- A Uart in block h: rx waits, tx was written out. -/
def Ua (h : Nat) (rx tx : List Int) : Thing where
  is w F := ∃ ring f v, UaAt w h rx tx ring f v ∧ F = fun i => i = h ∨ v.ownBlock = some i
  firm := by
    rintro w w' _ ⟨ring, f, v, U, rfl⟩ hk
    exact ⟨ring, f, v, ⟨(hk h (.inl rfl)).trans U.hd, U.rl, U.fl, U.rg, U.le, U.byr, U.byt, own_kept U.own fun g hg => hk g (.inr hg), U.ne⟩, rfl⟩
  lt := by
    rintro w _ ⟨ring, f, v, U, rfl⟩ i (rfl | hi)
    · exact (Array.getElem?_eq_some_iff.1 U.hd).1
    · exact (U.own.lt i hi).2
section
variable {w : World} {h : Nat} {rx tx ring : List Int} {f : Nat} {v : Value}
theorem UaAt.c16 (U : UaAt w h rx tx ring f v) : w.cell? ⟨h, 16, none⟩ = some (i64 f) := by
  rw [cell_of_row w h 16 _ _ _ U.hd]; simp [uc, U.rl]
theorem UaAt.c17 (U : UaAt w h rx tx ring f v) : w.cell? ⟨h, 17, none⟩ = some (i64 rx.length) := by
  rw [cell_of_row w h 17 _ _ _ U.hd]; simp [uc, U.rl]
theorem UaAt.c18 (U : UaAt w h rx tx ring f v) : w.cell? ⟨h, 18, none⟩ = some v := by
  rw [cell_of_row w h 18 _ _ _ U.hd]; simp [uc, U.rl]
theorem UaAt.cell (U : UaAt w h rx tx ring f v) (k : Nat) (hk : k < 16) : w.cell? ⟨h, k, none⟩ = some (.int .u8 (ring.getD k 0)) := by
  rw [cell_of_row w h k _ _ _ U.hd]
  have : k < ring.length := by rw [U.rl]; exact hk
  simp [uc, List.getElem?_append_left, this]
theorem UaAt.frozen (U : UaAt w h rx tx ring f v) (k : Nat) : w.frozen? ⟨h, k, none⟩ = false := by simp [World.frozen?, U.hd]
theorem uc_16 (hl : ring.length = 16) (f c x : Int) (v : Value) : (uc ring f c v).setIfInBounds 16 (i64 x) = uc ring x c v := by
  unfold uc; apply Array.ext'; simp [hl]
theorem uc_17 (hl : ring.length = 16) (f c x : Int) (v : Value) : (uc ring f c v).setIfInBounds 17 (i64 x) = uc ring f x v := by
  unfold uc; apply Array.ext'; simp [hl]
theorem uc_18 (hl : ring.length = 16) (f c : Int) (v x : Value) : (uc ring f c v).setIfInBounds 18 x = uc ring f c x := by
  unfold uc; apply Array.ext'; simp [hl]
theorem uc_k (hl : ring.length = 16) (f c : Int) (v : Value) (k : Nat) (hk : k < 16) (b : Int) : (uc ring f c v).setIfInBounds k (.int .u8 b) = uc (ring.set k b) f c v := by
  unfold uc; apply Array.ext'; simp [hl, hk]
theorem UaAt.in_full (U : UaAt w h rx tx ring f v) (hl : rx.length = 16) (b : Int) : UaAt w h (uin rx b) tx ring f v := by
  unfold uin; rw [if_neg (by omega)]; exact U
theorem own_cell_off {w : World} {h : Nat} {v : Value} {xs : List Int} (ho : Own w 0 v xs) (hn : v.ownBlock ≠ some h) (k : Nat) (x : Value) : Own (w.setCell ⟨h, k, none⟩ x) 0 v xs :=
  own_kept ho fun g hg => Below.heap_setCell _ _ _ _ (fun e => hn (by rw [hg, e]))
theorem UaAt.in_room (U : UaAt w h rx tx ring f v) (hl : rx.length < 16) (b : Int) : UaAt ((w.drew.setCell ⟨h, (f + rx.length) % 16, none⟩ (.int .u8 (b % 256))).setCell ⟨h, 17, none⟩ (i64 (rx.length + 1))) h (uin rx b) tx (ring.set ((f + rx.length) % 16) (b % 256)) f v := by
  have hb := uin_byts U.byr b
  have he : uin rx b = rx ++ [b % 256] := by unfold uin; rw [if_pos hl]
  rw [he] at hb ⊢
  have hk : (f + rx.length) % 16 < 16 := by omega
  have hd := setCell_row (w := w.drew) U.hd ((f + rx.length) % 16) (.int .u8 (b % 256))
  rw [uc_k U.rl _ _ _ _ hk] at hd
  have hd := setCell_row hd 17 (i64 (rx.length + 1))
  rw [uc_17 (by rw [List.length_set]; exact U.rl)] at hd
  refine ⟨by rw [List.length_append, List.length_singleton]; exact hd, by rw [List.length_set]; exact U.rl, U.fl, fun j hj => ?_, by simp; omega, hb, U.byt, own_cell_off (own_cell_off U.own U.ne _ _) U.ne _ _, U.ne⟩
  rw [List.length_append, List.length_singleton] at hj
  have hfl := U.fl; have hrl := U.rl
  by_cases hj2 : j < rx.length
  · rw [List.getElem?_append_left hj2, List.getElem?_set_ne (by omega)]
    exact U.rg j hj2
  · obtain rfl : j = rx.length := by omega
    rw [List.getElem?_set_self (by omega)]; simp
theorem UaAt.clear (U : UaAt w h rx tx ring f v) : UaAt (w.setCell ⟨h, 17, none⟩ (i64 0)) h [] tx ring f v := by
  have hd := setCell_row U.hd 17 (i64 0)
  rw [uc_17 U.rl] at hd
  exact ⟨hd, U.rl, U.fl, fun j hj => by simp at hj, by simp, fun b hb => by simp at hb, U.byt, own_cell_off U.own U.ne _ _, U.ne⟩
theorem UaAt.first (U : UaAt w h rx tx ring f v) (hl : 0 < rx.length) : ring.getD f 0 = rx.headD 4294967295 ∧ 0 ≤ rx.headD 4294967295 ∧ rx.headD 4294967295 < 256 := by
  have h0 := U.rg 0 hl
  rw [Nat.add_zero, Nat.mod_eq_of_lt U.fl] at h0
  cases rx with
  | nil => simp at hl
  | cons a l =>
    refine ⟨?_, U.byr a (List.mem_cons_self ..)⟩
    rw [List.getD_eq_getElem?_getD, h0]; rfl
theorem took_v (rx : List Int) : ulv rx 4 = rx.headD 4294967295 := by unfold ulv; rw [if_pos rfl]
theorem UaAt.took (U : UaAt w h rx tx ring f v) (hl : 0 < rx.length) : UaAt ((w.drew.setCell ⟨h, 16, none⟩ (i64 (((f : Int) + 1) % 16))).setCell ⟨h, 17, none⟩ (i64 ((rx.length : Int) - 1))) h (ulr rx 4) tx ring ((f + 1) % 16) v := by
  have he : ulr rx 4 = rx.drop 1 := by unfold ulr; rw [if_pos rfl]
  have hb := ulr_byts U.byr 4
  rw [he] at hb ⊢
  have hd := setCell_row (w := w.drew) U.hd 16 (i64 (((f : Int) + 1) % 16))
  rw [uc_16 U.rl] at hd
  have hd := setCell_row hd 17 (i64 ((rx.length : Int) - 1))
  rw [uc_17 U.rl] at hd
  have e1 : ((rx.drop 1).length : Int) = (rx.length : Int) - 1 := by rw [List.length_drop]; omega
  have e2 : (((f + 1) % 16 : Nat) : Int) = ((f : Int) + 1) % 16 := by omega
  refine ⟨by rw [e1, e2]; exact hd, U.rl, by omega, fun j hj => ?_, by have := U.le; rw [List.length_drop]; omega, hb, U.byt, own_cell_off (own_cell_off U.own U.ne _ _) U.ne _ _, U.ne⟩
  rw [List.length_drop] at hj
  rw [List.getElem?_drop, ← U.rg (1 + j) (by omega)]
  congr 1; omega
end
set_option maxRecDepth 100000 in
theorem in_says (h : Nat) (rx tx : List Int) (b : Int) : Turns 6 #[.pointer (some ⟨h, 0, none⟩), i64 b] (.returned (.bool (decide (rx.length < 16)))) (Ua h rx tx) (Ua h (uin rx b) tx) := by
  rintro w F ⟨ring, f, v, U, rfl⟩
  have c16 := U.c16
  have c17 := U.c17
  have hle := U.le
  have hfl := U.fl
  have hc := U.cell ((f + rx.length) % 16) (by omega)
  have hfr := U.frozen ((f + rx.length) % 16)
  have hf17 := U.frozen 17
  obtain ⟨b0, hb0⟩ : ∃ b0, b0 = ring.getD ((f + rx.length) % 16) 0 := ⟨_, rfl⟩
  rw [← hb0] at hc
  obtain ⟨r, hr⟩ : ∃ r : Ending → World → Prop, r = fun e w' => e = .returned (.bool (decide (rx.length < 16))) ∧ Step (fun i => i = h ∨ v.ownBlock = some i) (Ua h (uin rx b) tx) w w' := ⟨_, rfl⟩
  rw [← hr]
  have h1 : rx.length = 16 → r (.returned (.bool false)) w := by
    intro hl
    rw [hr]
    refine ⟨ret_bool (by simp [hl]), _, ⟨ring, f, v, U.in_full hl b, rfl⟩, fun i hi => .inl hi, But.refl _ _⟩
  have h2 : rx.length < 16 → r (.returned (.bool true)) ((w.drew.setCell ⟨h, (f + rx.length) % 16, none⟩ (.int .u8 (b % 256))).setCell ⟨h, 17, none⟩ (i64 (rx.length + 1))) := by
    intro hl
    rw [hr]
    refine ⟨ret_bool (by simp [hl]), _, ⟨_, f, v, U.in_room hl b, rfl⟩, fun i hi => .inl hi, (((But.refl _ _).drew).setCell _ (.inl rfl) _).setCell _ (.inl rfl) _⟩
  clear U hb0 hr
  by_cases hc16 : rx.length = 16
  · replace h1 := h1 hc16
    rw [hc16] at c17
    clear h2 hc hfr hle hfl hc16
    go_enter Try.func6, Try.ntmps6
    go_wp2
    exact h1
  · replace h2 := h2 (by omega)
    have hb : ((rx.length : Int) == 16) = false := by simpa using (by omega : ¬ (rx.length : Int) = 16)
    obtain ⟨c, hcc⟩ : ∃ c : Nat, rx.length = c := ⟨_, rfl⟩
    rw [hcc] at c17 hle hc hfr h2 hb
    clear hcc h1 hc16
    go_enter Try.func6, Try.ntmps6
    go_wp2
    go_region
    go_wp2
    exact h2
theorem waiting_says {w : World} {h : Nat} {rx tx ring : List Int} {f : Nat} {v : Value} (U : UaAt w h rx tx ring f v) : Calls Try.prog 13 #[.pointer (some ⟨h, 0, none⟩)] w fun e w' => e = .returned (i64 rx.length) ∧ w = w' := by
  have c17 := U.c17
  obtain ⟨c, hcc⟩ : ∃ c : Nat, rx.length = c := ⟨_, rfl⟩
  rw [hcc] at c17 ⊢
  clear U hcc
  go_enter Try.func13, Try.ntmps13
  go_wp2
  go_ret
  exact ⟨rfl, rfl⟩
theorem clear_says (h : Nat) (rx tx : List Int) : Turns 12 #[.pointer (some ⟨h, 0, none⟩)] (.returned (.tuple #[])) (Ua h rx tx) (Ua h [] tx) := by
  rintro w F ⟨ring, f, v, U, rfl⟩
  have c17 := U.c17
  have hf17 := U.frozen 17
  obtain ⟨r, hr⟩ : ∃ r : Ending → World → Prop, r = fun e w' => e = .returned (.tuple #[]) ∧ Step (fun i => i = h ∨ v.ownBlock = some i) (Ua h [] tx) w w' := ⟨_, rfl⟩
  rw [← hr]
  have h1 : r (.returned (.tuple #[])) (w.setCell ⟨h, 17, none⟩ (i64 0)) := by
    rw [hr]
    refine ⟨rfl, _, ⟨ring, f, v, U.clear, rfl⟩, fun i hi => .inl hi, (But.refl _ _).setCell _ (.inl rfl) _⟩
  clear hr
  obtain ⟨c, hcc⟩ : ∃ c : Nat, rx.length = c := ⟨_, rfl⟩
  rw [hcc] at c17
  clear U hcc
  go_enter Try.func12, Try.ntmps12
  go_wp2
  go_end0
  exact h1
theorem nothing_says (h : Nat) (w : World) : Calls Try.prog 17 #[.pointer (some ⟨h, 0, none⟩)] w fun e w' => e = .returned (i64 0) ∧ w = w' := by
  go_enter Try.func17, Try.ntmps17
  go_wp2
  go_ret
  exact ⟨rfl, rfl⟩
theorem ignore_says (h : Nat) (x : Int) (w : World) : Calls Try.prog 20 #[.pointer (some ⟨h, 0, none⟩), i64 x] w fun e w' => e = .returned (.tuple #[]) ∧ w = w' := by
  go_enter Try.func20, Try.ntmps20
  go_wp2
  go_end0
  exact ⟨rfl, rfl⟩
set_option maxRecDepth 100000 in
theorem take_says (h : Nat) (rx tx : List Int) : Turns 19 #[.pointer (some ⟨h, 0, none⟩)] (.returned (i64 (ulv rx 4))) (Ua h rx tx) (Ua h (ulr rx 4) tx) := by
  rintro w F ⟨ring, f, v, U, rfl⟩
  have c16 := U.c16
  have c17 := U.c17
  have hle := U.le
  have hfl := U.fl
  have hc := U.cell f hfl
  have hf16 := U.frozen 16
  have hf17 := U.frozen 17
  obtain ⟨b0, hb0⟩ : ∃ b0, b0 = ring.getD f 0 := ⟨_, rfl⟩
  rw [← hb0] at hc
  obtain ⟨r, hr⟩ : ∃ r : Ending → World → Prop, r = fun e w' => e = .returned (i64 (ulv rx 4)) ∧ Step (fun i => i = h ∨ v.ownBlock = some i) (Ua h (ulr rx 4) tx) w w' := ⟨_, rfl⟩
  rw [← hr]
  have h1 : rx.length = 0 → r (.returned (i64 4294967295)) w := by
    intro hl
    obtain rfl := List.eq_nil_of_length_eq_zero hl
    rw [hr]
    exact ⟨rfl, _, ⟨ring, f, v, U, rfl⟩, fun i hi => .inl hi, But.refl _ _⟩
  have h2 : 0 < rx.length → 0 ≤ b0 ∧ b0 < 256 ∧ r (.returned (i64 b0)) ((w.drew.setCell ⟨h, 16, none⟩ (i64 (((f : Int) + 1) % 16))).setCell ⟨h, 17, none⟩ (i64 ((rx.length : Int) - 1))) := by
    intro hl
    obtain ⟨e1, e2⟩ := U.first hl
    rw [← hb0] at e1
    rw [hr]
    exact ⟨by rw [e1]; exact e2.1, by rw [e1]; exact e2.2, by rw [e1, took_v], _, ⟨ring, _, v, U.took hl, rfl⟩, fun i hi => .inl hi, (((But.refl _ _).drew).setCell _ (.inl rfl) _).setCell _ (.inl rfl) _⟩
  clear U hb0 hr
  by_cases hc0 : rx.length = 0
  · replace h1 := h1 hc0
    rw [hc0] at c17
    clear h2 hc hle hfl hc0
    go_enter Try.func19, Try.ntmps19
    go_wp2
    exact h1
  · obtain ⟨a1, a2, h2⟩ := h2 (by omega)
    have hb : ((rx.length : Int) == 0) = false := by simpa using (by omega : ¬ (rx.length : Int) = 0)
    obtain ⟨c, hcc⟩ : ∃ c : Nat, rx.length = c := ⟨_, rfl⟩
    rw [hcc] at c17 hle h2 hb hc0
    clear hcc h1
    go_enter Try.func19, Try.ntmps19
    go_wp2
    go_region
    go_wp2
    exact h2
end Go.Proofs.Ytpgnoogjibcccaa.Ser
