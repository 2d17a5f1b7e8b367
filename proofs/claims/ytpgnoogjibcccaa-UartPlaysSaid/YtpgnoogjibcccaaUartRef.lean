
/-
  trunnionref1's Uart as two lists of bytes; contracts of its In, Load, Store.
-/
import Derived.Test.YtpgnoogjibcccaaUartOut
namespace Go.Proofs.Ytpgnoogjibcccaa.Ser
open Go.Proofs.Ytpgnoogjibcccaa
open Go.ChangeShapes Go.WideShapes Go.ChangeAt Go.RowKit
/-- The block of a slice. -/
def blk (p : Option Addr) : Option Nat := p.map (·.block)
structure RuAt (w : World) (h : Nat) (rx tx : List Int) (p : Option Addr) (c : Nat) (v : Value) : Prop where
  hd : w.heap[h]? = some (.cells #[.slice p rx.length c, v] 31 (0, 0))
  src : Src w p rx
  nil : p = none → c = 0
  cap : rx.length ≤ c
  cmx : c ≤ 9223372036854775807
  pl : ∀ i, blk p = some i → i < w.heap.size
  le : rx.length ≤ 16
  byr : Byts rx
  byt : Byts tx
  own : Own w 0 v tx
  ne : v.ownBlock ≠ some h
  np : blk p ≠ some h
  nv : ∀ i, blk p = some i → v.ownBlock ≠ some i
theorem src_kept {w w' : World} {p : Option Addr} {xs : List Int} (h : Src w p xs) (hb : ∀ i, blk p = some i → w'.heap[i]? = w.heap[i]?) : Src w' p xs := by
  intro hp
  obtain ⟨ad, rfl, hc⟩ := h hp
  refine ⟨ad, rfl, fun j u hu => ?_⟩
  have e : (ad.add j).block = ad.block := by unfold Addr.add; split <;> rfl
  rw [World.cell?_of_block (w := w) (w' := w') (by rw [e]; exact hb _ rfl)]
  exact hc j u hu
/-- trunnionref1's Uart in block h. -/
def Ru (h : Nat) (rx tx : List Int) : Thing where
  is w F := ∃ p c v, RuAt w h rx tx p c v ∧ F = fun i => i = h ∨ v.ownBlock = some i ∨ blk p = some i
  firm := by
    rintro w w' _ ⟨p, c, v, U, rfl⟩ hk
    refine ⟨p, c, v, ⟨(hk h (.inl rfl)).trans U.hd, src_kept U.src fun i hi => hk i (.inr (.inr hi)), U.nil, U.cap, U.cmx, fun i hi => ?_, U.le, U.byr, U.byt, own_kept U.own fun g hg => hk g (.inr (.inl hg)), U.ne, U.np, U.nv⟩, rfl⟩
    have := U.pl i hi
    have e := hk i (.inr (.inr hi))
    rw [Array.getElem?_eq_getElem this] at e
    exact (Array.getElem?_eq_some_iff.1 e).1
  lt := by
    rintro w _ ⟨p, c, v, U, rfl⟩ i (rfl | hi | hi)
    · exact (Array.getElem?_eq_some_iff.1 U.hd).1
    · exact (U.own.lt i hi).2
    · exact U.pl i hi
section
variable {w : World} {h : Nat} {rx tx : List Int} {p : Option Addr} {c : Nat} {v : Value}
theorem RuAt.c0 (U : RuAt w h rx tx p c v) : w.cell? ⟨h, 0, none⟩ = some (.slice p rx.length c) := by
  rw [cell_of_row w h 0 _ _ _ U.hd]; rfl
theorem RuAt.c1 (U : RuAt w h rx tx p c v) : w.cell? ⟨h, 1, none⟩ = some v := by
  rw [cell_of_row w h 1 _ _ _ U.hd]; rfl
theorem RuAt.frozen (U : RuAt w h rx tx p c v) (k : Nat) : w.frozen? ⟨h, k, none⟩ = false := by simp [World.frozen?, U.hd]
theorem RuAt.lt (U : RuAt w h rx tx p c v) : h < w.heap.size := (Array.getElem?_eq_some_iff.1 U.hd).1
/-- Rx is another row, which was laid since. -/
theorem RuAt.newRx (U : RuAt w h rx tx p c v) {w1 : World} {xs : List Int} {p' : Option Addr} {c' : Nat} (b : Below w.heap.size w w1) (ho : Own w1 w.heap.size (.slice p' xs.length c') xs) (hl : xs.length ≤ 16) (hx : Byts xs) :
    w1.cell? ⟨h, 0, none⟩ = some (.slice p rx.length c) ∧ w1.frozen? ⟨h, 0, none⟩ = false ∧ Step (fun i => i = h ∨ v.ownBlock = some i ∨ blk p = some i) (Ru h xs tx) w (w1.setCell ⟨h, 0, none⟩ (.slice p' xs.length c')) := by
  have hd1 := (b.block h U.lt).trans U.hd
  have hd2 := setCell_row hd1 0 (.slice p' xs.length c')
  have hob : ∀ i, blk p' = some i → (Value.slice p' xs.length c').ownBlock = some i := by
    intro i hi
    cases p' with
    | none => cases hi
    | some ad => exact hi
  obtain ⟨p2, c2, e, f1, f2, f3⟩ := own_form ho
  injection e with e1 e2 e3; subst e1; subst e3
  have nb : ∀ i, blk p' = some i → w.heap.size ≤ i ∧ i < w1.heap.size := fun i hi => ho.lt i (hob i hi)
  have k1 : Own w1 0 v tx := own_kept U.own fun g hg => b.block g (U.own.lt g hg).2
  have hs : ∀ i, i ≠ h → (w1.setCell ⟨h, 0, none⟩ (.slice p' xs.length c')).heap[i]? = w1.heap[i]? := fun i hi => Below.heap_setCell _ _ _ _ hi
  have hlt := U.lt
  refine ⟨by rw [cell_of_row w1 h 0 _ _ _ hd1]; rfl, by simp [World.frozen?, hd1], fun i => i = h ∨ v.ownBlock = some i ∨ blk p' = some i, ⟨p', c', v, ⟨hd2, src_kept (own_src ho) fun i hi => hs i (by have := nb i hi; omega), fun e => (f1 e).2, f2, f3, fun i hi => ?_, hl, hx, U.byt, own_cell_off k1 U.ne _ _, U.ne, fun e => by have := nb _ e; omega, fun i hi e => ?_⟩, rfl⟩, ?_, (But.of b (Nat.le_refl _)).setCell _ (.inl rfl) _⟩
  · have := nb i hi
    simpa [World.setCell] using this.2
  · have := nb i hi; have := (U.own.lt i e).2; omega
  · rintro i (hi | hi | hi)
    · exact .inl (.inl hi)
    · exact .inl (.inr (.inl hi))
    · exact .inr (nb i hi).1
end
set_option maxRecDepth 100000 in
theorem rin_says (h : Nat) (rx tx : List Int) (b : Int) : Turns 8 #[.pointer (some ⟨h, 0, none⟩), i64 b] (.returned (.bool (decide (rx.length < 16)))) (Ru h rx tx) (Ru h (uin rx b) tx) := by
  rintro w F ⟨p, c, v, U, rfl⟩
  have c0 := U.c0
  have hle := U.le
  have hcm := U.cmx
  have hcap := U.cap
  have e3 : bits .and .i64 b 255 = b % 256 := i64_mask b 8 (by decide)
  obtain ⟨r, hr⟩ : ∃ r : Ending → World → Prop, r = fun e w' => e = .returned (.bool (decide (rx.length < 16))) ∧ Step (fun i => i = h ∨ v.ownBlock = some i ∨ blk p = some i) (Ru h (uin rx b) tx) w w' := ⟨_, rfl⟩
  rw [← hr]
  by_cases hl : rx.length = 16
  · have h1 : r (.returned (.bool false)) w := by
      have e : uin rx b = rx := by unfold uin; rw [if_neg (by omega)]
      rw [hr, e]
      exact ⟨ret_bool (by simp [hl]), .still (Below.refl _ _) ⟨p, c, v, U, rfl⟩⟩
    rw [hl] at c0
    clear hr U hle hl e3 hcap
    go_enter Try.func8, Try.ntmps8
    go_wp2
    exact h1
  · have hl : rx.length < 16 := by omega
    have hnil := U.nil
    have hsrc := U.src
    have A1 : ∀ v1 w1, Own w1 w.heap.size v1 ([] ++ rx) → w.grownBy w1 (Value.slice none 0 0).ownBlock → ∃ p1 c1, v1 = .slice p1 rx.length c1 ∧ Below w.heap.size w w1 ∧ w.heap.size ≤ w1.heap.size + 1 ∧ Own (w1.alloc (.cells #[.int .u8 (b % 256)] 5)) w.heap.size (.slice p1 rx.length c1) rx := by
      intro v1 w1 k1 k2
      rw [List.nil_append] at k1
      obtain ⟨p1, c1, rfl, -⟩ := own_form k1
      have hb := (Below.refl w.heap.size w).grown k2 (Nat.le_refl _) (by simp [Value.ownBlock])
      exact ⟨p1, c1, rfl, hb, by have := hb.size; omega, own_kept k1 fun g hg => Below.heap_alloc _ _ _ (k1.lt g hg).2⟩
    have A2 : ∀ w1 p1 c1 v2 w2, Below w.heap.size w w1 → Own (w1.alloc (.cells #[.int .u8 (b % 256)] 5)) w.heap.size (.slice p1 rx.length c1) rx → Own w2 w.heap.size v2 (rx ++ [b % 256]) → (w1.alloc (.cells #[.int .u8 (b % 256)] 5)).grownBy w2 (Value.slice p1 rx.length c1).ownBlock →
        ∃ p2 n2 c2, v2 = .slice p2 n2 c2 ∧ w2.cell? ⟨h, 0, none⟩ = some (.slice p rx.length c) ∧ w2.frozen? ⟨h, 0, none⟩ = false ∧ r (.returned (.bool true)) (w2.setCell ⟨h, 0, none⟩ (.slice p2 n2 c2)) := by
      intro w1 p1 c1 v2 w2 b1 ho k1 k2
      have e : uin rx b = rx ++ [b % 256] := by unfold uin; rw [if_pos hl]
      obtain ⟨p2, c2, rfl, -⟩ := own_form k1
      have b2 : Below w.heap.size w w2 := (b1.alloc b1.size _).grown k2 (by have := b1.size; simp; omega) fun g hg => (ho.lt g hg).1
      obtain ⟨d1, d2, d3⟩ := U.newRx b2 k1 (by rw [List.length_append, List.length_singleton]; omega) (by rw [← e]; exact uin_byts U.byr b)
      exact ⟨p2, _, c2, rfl, d1, d2, by rw [hr, e]; exact ⟨ret_bool (by simp [hl]), d3⟩⟩
    have hb : ((rx.length : Int) == 16) = false := by simpa using (by omega : ¬ (rx.length : Int) = 16)
    have hge : ¬ (16 : Int) ≤ rx.length := by omega
    obtain ⟨n, hn⟩ : ∃ n, rx.length = n := ⟨_, rfl⟩
    rw [hn] at c0 A1 A2 hge hle hcap hl
    have HN := Lib.hid hn; have HA1 := Lib.hid A1; have HA2 := Lib.hid A2; have HS := Lib.hid hsrc; have HI := Lib.hid hnil
    clear hb hr U A1 A2 hn hsrc hnil
    have hlt : (n : Int) < 16 := by omega
    clear hge
    go_enter Try.func8, Try.ntmps8
    go_wp2_with (first
      | (at_builtin; (refine wpList_app rfl _ _ rfl (B := w.heap.size) (by have := hb1.size; simp; omega) (v1 := .slice p1 n c1) (R1 := rx) rfl (by rw [HN.out] at *; exact HO.out) [b % 256] rfl rfl (fun e => by cases e) (src_one w1 (b % 256)) (by have := HN.out; omega) ?_; intro v2 w2 k1 k2 _; obtain ⟨p2, n2, c2, rfl, d1, d2, d3⟩ := HA2.out w1 p1 c1 v2 w2 hb1 HO.out k1 k2; have d3 := Lib.hid d3; clear k1 k2))
      | (at_builtin; (refine wpList_app rfl _ _ rfl (B := w.heap.size) (Nat.le_refl _) (v1 := .slice none 0 0) (R1 := []) rfl (own_nil _ _) rx rfl HN.out HI.out HS.out (by have h1 := HN.out; have h3 : ([] : List Int).length = 0 := rfl; omega) ?_; intro v1 w1 k1 k2 _; obtain ⟨p1, c1, rfl, hb1, hz1, HO⟩ := HA1.out v1 w1 k1 k2; have HO := Lib.hid HO; clear k1 k2)))
    exact d3.out
end Go.Proofs.Ytpgnoogjibcccaa.Ser
