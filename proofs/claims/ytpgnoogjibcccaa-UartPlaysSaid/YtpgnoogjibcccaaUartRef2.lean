
/-
  trunnionref1's Uart: contracts of its Load and Store.
-/
import Derived.Test.YtpgnoogjibcccaaUartRef
namespace Go.Proofs.Ytpgnoogjibcccaa.Ser
open Go.Proofs.Ytpgnoogjibcccaa
open Go.ChangeShapes Go.WideShapes Go.ChangeAt Go.RowKit
theorem add_block (ad : Addr) (k : Nat) : (ad.add k).block = ad.block := by unfold Addr.add; split <;> rfl
section
variable {w : World} {h : Nat} {rx tx : List Int} {p : Option Addr} {c : Nat} {v : Value}
/-- The first byte's cell. -/
theorem RuAt.first (U : RuAt w h rx tx p c v) (hl : 0 < rx.length) : ∃ ad, p = some ad ∧ w.cell? ad = some (.int .u8 (ulv rx 4)) ∧ 0 ≤ ulv rx 4 ∧ ulv rx 4 < 256 := by
  obtain ⟨ad, rfl, hc⟩ := U.src hl
  rw [took_v]
  cases rx with
  | nil => simp at hl
  | cons a l =>
    refine ⟨ad, rfl, ?_, U.byr a (List.mem_cons_self ..)⟩
    have := hc 0 (.int .u8 a) rfl
    rw [Addr.add_zero'] at this
    exact this
theorem RuAt.took (U : RuAt w h rx tx p c v) {ad : Addr} (hp : p = some ad) (hl : 0 < rx.length) {p' : Option Addr} (hp' : p' = if c = 1 then some ad else some (ad.add 1)) :
    Step (fun i => i = h ∨ v.ownBlock = some i ∨ blk p = some i) (Ru h (ulr rx 4) tx) w (w.setCell ⟨h, 0, none⟩ (.slice p' (rx.length - 1) (c - 1))) := by
  subst hp
  have he : ulr rx 4 = rx.drop 1 := by unfold ulr; rw [if_pos rfl]
  have hb := ulr_byts U.byr 4
  rw [he] at hb ⊢
  have hbk : blk p' = blk (some ad) := by
    rw [hp']; split
    · rfl
    · simp only [blk, Option.map_some, add_block]
  have hd := setCell_row U.hd 0 (.slice p' (rx.length - 1) (c - 1))
  have hs : ∀ i, i ≠ h → (w.setCell ⟨h, 0, none⟩ (.slice p' (rx.length - 1) (c - 1))).heap[i]? = w.heap[i]? := fun i hi => Below.heap_setCell _ _ _ _ hi
  have hcap := U.cap
  have hcm := U.cmx
  have hle := U.le
  refine ⟨fun i => i = h ∨ v.ownBlock = some i ∨ blk p' = some i, ⟨p', c - 1, v, ⟨by rw [List.length_drop]; exact hd, ?_, ?_, by rw [List.length_drop]; omega, by omega, fun i hi => ?_, by rw [List.length_drop]; omega, hb, U.byt, own_cell_off U.own U.ne _ _, U.ne, by rw [hbk]; exact U.np, by rw [hbk]; exact U.nv⟩, rfl⟩, ?_, (But.refl _ _).setCell _ (.inl rfl) _⟩
  · intro hp
    rw [List.length_drop] at hp
    have hc1 : ¬ c = 1 := by omega
    rw [if_neg hc1] at hp'
    obtain ⟨ad', e, hc⟩ := U.src hl
    obtain rfl := Option.some.inj e
    refine ⟨_, hp', fun j u hu => ?_⟩
    have hne : ((ad.add 1).add j).block = ad.block := (add_block _ _).trans (add_block _ _)
    rw [World.cell?_of_block (w := w) (by rw [hne]; exact hs _ fun e => U.np (by rw [← e]; rfl)), Addr.add_add]
    refine hc (1 + j) u ?_
    rw [← hu, Nat.add_comm 1 j]; simp
  · intro e; rw [hp'] at e; split at e <;> cases e
  · rw [hbk] at hi
    have := U.pl i hi
    simpa [World.setCell] using this
  · rw [hbk]; exact fun i hi => .inl hi
end
set_option maxRecDepth 100000 in
theorem rload_4 (h : Nat) (rx tx : List Int) : Turns 10 #[.pointer (some ⟨h, 0, none⟩), i64 4] (.returned (.tuple #[i64 (ulv rx 4), .bool true])) (Ru h rx tx) (Ru h (ulr rx 4) tx) := by
  rintro w F ⟨p, c, v, U, rfl⟩
  have c0 := U.c0
  obtain ⟨r, hr⟩ : ∃ r : Ending → World → Prop, r = fun e w' => e = .returned (.tuple #[i64 (ulv rx 4), .bool true]) ∧ Step (fun i => i = h ∨ v.ownBlock = some i ∨ blk p = some i) (Ru h (ulr rx 4) tx) w w' := ⟨_, rfl⟩
  rw [← hr]
  by_cases hl : rx.length = 0
  · have h1 : r (.returned (.tuple #[i64 4294967295, .bool true])) w := by
      obtain rfl := List.eq_nil_of_length_eq_zero hl
      rw [hr]
      exact ⟨rfl, .still (Below.refl _ _) ⟨p, c, v, U, rfl⟩⟩
    rw [hl] at c0
    clear hr U hl
    go_enter Try.func10, Try.ntmps10
    go_wp2
    exact h1
  · obtain ⟨ad, hp, hc, b0, b1⟩ := U.first (by omega)
    have h1 : ∀ p', p' = (if c = 1 then some ad else some (ad.add 1)) → r (.returned (.tuple #[i64 (ulv rx 4), .bool true])) (w.setCell ⟨h, 0, none⟩ (.slice p' (rx.length - 1) (c - 1))) := by
      intro p' hp'
      rw [hr]
      exact ⟨rfl, U.took hp (by omega) hp'⟩
    have hfr := U.frozen 0
    subst hp
    have hcap := U.cap
    have hcm := U.cmx
    have hlb : ((rx.length : Int) == 0) = false := by simpa using hl
    have hle := U.le
    obtain ⟨n, hn⟩ : ∃ n, rx.length = n := ⟨_, rfl⟩
    rw [hn] at c0 h1 hcap hlb hle hl
    obtain ⟨x, hx⟩ : ∃ x, ulv rx 4 = x := ⟨_, rfl⟩
    rw [hx] at hc b0 b1 h1
    have h1a : c = 1 → r (.returned (.tuple #[i64 x, .bool true])) (w.setCell ⟨h, 0, none⟩ (.slice (some ad) (n - 1) 0)) := by
      rintro rfl; exact h1 _ rfl
    have h1b : ¬ c = 1 → r (.returned (.tuple #[i64 x, .bool true])) (w.setCell ⟨h, 0, none⟩ (.slice (some (ad.add 1)) (n - 1) (c - 1))) := by
      intro hc1; exact h1 _ (by rw [if_neg hc1])
    have H1 := Lib.hid h1a; have H2 := Lib.hid h1b; clear h1a h1b
    clear hr U hn h1 hx
    go_enter Try.func10, Try.ntmps10
    go_wp2
    all_goals first
      | exact H1.out ‹_›
      | exact H2.out ‹_›
/-- Load. -/
theorem rload_says (h : Nat) (rx tx : List Int) (off : Int) : Turns 10 #[.pointer (some ⟨h, 0, none⟩), i64 off] (.returned (.tuple #[i64 (ulv rx off), .bool (uok off)])) (Ru h rx tx) (Ru h (ulr rx off) tx) := by
  by_cases h4 : off = 4
  · subst h4; exact rload_4 h rx tx
  · have hr : ulr rx off = rx := by unfold ulr; rw [if_neg h4]
    rw [hr]
    rintro w F ⟨p, c, v, U, rfl⟩
    obtain ⟨r, hr⟩ : ∃ r : Ending → World → Prop, r = fun e w' => e = .returned (.tuple #[i64 (ulv rx off), .bool (uok off)]) ∧ Step (fun i => i = h ∨ v.ownBlock = some i ∨ blk p = some i) (Ru h rx tx) w w' := ⟨_, rfl⟩
    rw [← hr]
    have h1 : r (.returned (.tuple #[i64 (ulv rx off), .bool (uok off)])) w := by
      rw [hr]
      exact ⟨rfl, .still (Below.refl _ _) ⟨p, c, v, U, rfl⟩⟩
    have c0 := U.c0
    clear hr U
    by_cases h8 : off = 8
    · subst h8
      rw [show ulv rx 8 = rx.length by unfold ulv; rw [if_neg (by decide), if_pos rfl], show uok 8 = true from rfl] at h1
      generalize rx.length = n at *
      go_enter Try.func10, Try.ntmps10
      go_wp2
      exact h1
    · rw [show ulv rx off = 0 by unfold ulv; rw [if_neg h4, if_neg h8]] at h1
      by_cases h0 : off = 0
      · subst h0
        rw [show uok 0 = true from rfl] at h1
        go_enter Try.func10, Try.ntmps10
        go_wp2
        exact h1
      · rw [show uok off = false by unfold uok; simp [h0, h4, h8]] at h1
        have e0 : (off == 0) = false := by simpa using h0
        have e4 : (off == 4) = false := by simpa using h4
        have e8 : (off == 8) = false := by simpa using h8
        go_enter Try.func10, Try.ntmps10
        go_wp2
        exact h1
/-- Tx has grown. -/
theorem RuAt.wrote {w w1 : World} {h : Nat} {rx tx : List Int} {p : Option Addr} {c : Nat} {v v' : Value} (U : RuAt w h rx tx p c v) (x : Int) (o : Obj) (hown : Own w1 0 v' (tx ++ [x % 256])) (hg : (w.alloc o).grownBy w1 v.ownBlock) (hv : ∀ g, v'.ownBlock = some g → v.ownBlock = some g ∨ (w.alloc o).heap.size ≤ g) :
    w1.cell? ⟨h, 1, none⟩ = some v ∧ w1.frozen? ⟨h, 1, none⟩ = false ∧ Step (fun i => i = h ∨ v.ownBlock = some i ∨ blk p = some i) (Ru h rx (ust tx 0 x)) w (w1.setCell ⟨h, 1, none⟩ v') := by
  have hlt : h < w.heap.size := U.lt
  have hsz : (w.alloc o).heap.size = w.heap.size + 1 := by simp
  have hd1 : w1.heap[h]? = some (.cells #[.slice p rx.length c, v] 31 (0, 0)) := by
    rw [hg.block h (by omega) U.ne.symm, Below.heap_alloc _ _ _ hlt]; exact U.hd
  have hpb : ∀ i, blk p = some i → w1.heap[i]? = w.heap[i]? := by
    intro i hi
    have := U.pl i hi
    rw [hg.block i (by omega) (U.nv i hi).symm, Below.heap_alloc _ _ _ this]
  have b1 : But (fun i => i = h ∨ v.ownBlock = some i ∨ blk p = some i) w w1 := ((But.refl _ w).alloc o).grown hg fun k hk => .inr (.inl hk)
  have hd2 := setCell_row hd1 1 v'
  have he : ust tx 0 x = tx ++ [x % 256] := by unfold ust; rw [if_pos rfl]
  have hbt := ust_byts U.byt 0 x
  rw [he] at hbt ⊢
  have hs : ∀ i, i ≠ h → (w1.setCell ⟨h, 1, none⟩ v').heap[i]? = w1.heap[i]? := fun i hi => Below.heap_setCell _ _ _ _ hi
  have hne : v'.ownBlock ≠ some h := by
    intro e
    rcases hv h e with h1 | h1
    · exact U.ne h1
    · omega
  have hsz1 := hg.size
  refine ⟨by rw [cell_of_row w1 h 1 _ _ _ hd1]; rfl, by simp [World.frozen?, hd1], fun i => i = h ∨ v'.ownBlock = some i ∨ blk p = some i, ⟨p, c, v', ⟨hd2, src_kept U.src fun i hi => (hs i fun e => U.np (by rw [← e]; exact hi)).trans (hpb i hi), U.nil, U.cap, U.cmx, fun i hi => ?_, U.le, U.byr, hbt, own_cell_off hown hne _ _, hne, U.np, fun i hi e => ?_⟩, rfl⟩, ?_, b1.setCell _ (.inl rfl) _⟩
  · have := U.pl i hi
    have h2 : i < w1.heap.size := by omega
    simpa [World.setCell] using h2
  · have := U.pl i hi
    rcases hv i e with h1 | h1
    · exact U.nv i hi h1
    · omega
  · rintro i (hi | hi | hi)
    · exact .inl (.inl hi)
    · rcases hv i hi with h1 | h1
      · exact .inl (.inr (.inl h1))
      · exact .inr (by omega)
    · exact .inl (.inr (.inr hi))
theorem rstore_0 (h : Nat) (rx tx : List Int) (x : Int) (hl : tx.length < 100000) : Turns 11 #[.pointer (some ⟨h, 0, none⟩), i64 0, i64 x] (.returned (.bool true)) (Ru h rx tx) (Ru h rx (ust tx 0 x)) := by
  rintro w F ⟨p, c, v, U, rfl⟩
  have c1 := U.c1
  have e3 : bits .and .i64 x 255 = x % 256 := i64_mask x 8 (by decide)
  obtain ⟨r, hr⟩ : ∃ r : Ending → World → Prop, r = fun e w' => e = .returned (.bool true) ∧ Step (fun i => i = h ∨ v.ownBlock = some i ∨ blk p = some i) (Ru h rx (ust tx 0 x)) w w' := ⟨_, rfl⟩
  rw [← hr]
  have K : ∀ v' w1, Own w1 0 v' (tx ++ [x % 256]) → (w.alloc (.cells #[.int .u8 (x % 256)] 5)).grownBy w1 v.ownBlock → (∀ g, v'.ownBlock = some g → v.ownBlock = some g ∨ (w.alloc (.cells #[.int .u8 (x % 256)] 5)).heap.size ≤ g) →
      w1.cell? ⟨h, 1, none⟩ = some v ∧ w1.frozen? ⟨h, 1, none⟩ = false ∧ r (.returned (.bool true)) (w1.setCell ⟨h, 1, none⟩ v') := by
    intro v' w1 h1 h2 h3
    obtain ⟨d1, d2, d3⟩ := U.wrote x _ h1 h2 h3
    exact ⟨d1, d2, by rw [hr]; exact ⟨rfl, d3⟩⟩
  have own1 : Own (w.alloc (.cells #[.int .u8 (x % 256)] 5)) 0 v tx := own_kept U.own fun g hg => Below.heap_alloc _ _ _ (U.own.lt g hg).2
  have hs := src_one w (x % 256)
  have HK := Lib.hid K; have HO := Lib.hid own1; have HS := Lib.hid hs; have HL := Lib.hid hl
  clear K own1 hs hr U hl
  go_enter Try.func11, Try.ntmps11
  go_wp2_with (at_builtin; (refine wpList_app rfl _ _ rfl (Nat.zero_le _) (v1 := v) (R1 := tx) rfl HO.out [x % 256] rfl rfl (fun e => by cases e) HS.out (by have := HL.out; omega) ?_; intro v' w1 k1 k2 k3; obtain ⟨p', c', e', -⟩ := own_form k1; obtain ⟨n', hn'⟩ : ∃ n, n = (tx ++ [x % 256]).length := ⟨_, rfl⟩; rw [← hn'] at e'; subst e'; obtain ⟨d1, d2, d3⟩ := HK.out _ w1 k1 k2 k3; have d3 := Lib.hid d3; clear k1 k2 k3 hn'))
  exact d3.out
theorem rstore_else (h : Nat) (rx tx : List Int) (off x : Int) (h0 : off ≠ 0) : Turns 11 #[.pointer (some ⟨h, 0, none⟩), i64 off, i64 x] (.returned (.bool (uok off))) (Ru h rx tx) (Ru h rx tx) := by
  intro w F hp
  generalize Ru h rx tx = T at *
  obtain ⟨r, hr⟩ : ∃ r : Ending → World → Prop, r = fun e w' => e = .returned (.bool (uok off)) ∧ Step F T w w' := ⟨_, rfl⟩
  rw [← hr]
  have h1 : r (.returned (.bool (uok off))) w := by rw [hr]; exact ⟨rfl, .still (Below.refl _ _) hp⟩
  clear hr hp
  by_cases h4 : off = 4
  · subst h4
    rw [show uok 4 = true from rfl] at h1
    go_enter Try.func11, Try.ntmps11
    go_wp2
    exact h1
  · by_cases h8 : off = 8
    · subst h8
      rw [show uok 8 = true from rfl] at h1
      go_enter Try.func11, Try.ntmps11
      go_wp2
      exact h1
    · rw [show uok off = false by unfold uok; simp [h0, h4, h8]] at h1
      have e0 : (off == 0) = false := by simpa using h0
      have e4 : (off == 4) = false := by simpa using h4
      have e8 : (off == 8) = false := by simpa using h8
      go_enter Try.func11, Try.ntmps11
      go_wp2
      exact h1
/-- Store. -/
theorem rstore_says (h : Nat) (rx tx : List Int) (off x : Int) (hl : tx.length < 100000) : Turns 11 #[.pointer (some ⟨h, 0, none⟩), i64 off, i64 x] (.returned (.bool (uok off))) (Ru h rx tx) (Ru h rx (ust tx off x)) := by
  by_cases h0 : off = 0
  · subst h0; exact rstore_0 h rx tx x hl
  · rw [show ust tx off x = tx by unfold ust; rw [if_neg h0]]; exact rstore_else h rx tx off x h0
end Go.Proofs.Ytpgnoogjibcccaa.Ser
