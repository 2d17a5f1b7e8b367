/-
  Contracts of package phys's calls: a memory as its block, its bytes as a list. | The document's example of chapter 4 stands; and what loads tell behind a store.
-/
import Derived.Test.YtfcmodllbhpniaaGreatDoorJnWords
import Derived.Test.YtfcmodllbhpniaaGreatDoorJnNum
import Derived.Laws.CopyOwn
import Derived.Laws.AppendOwnNone
import Derived.LoopTactic
set_option linter.unusedVariables false
set_option maxRecDepth 100000
namespace Go.Proofs.YtfcmodllbhpniaaGreatDoor
open Go.ChangeShapes Go.WideShapes Go.ChangeAt Go.RowKit
/-- The cells of bytes. -/
abbrev u8L (bs : List Int) : List Value := bs.map (.int .u8)
theorem info_u8 : (Tryz.prog.info? 5).map (fun i => (i.zero, i.size, i.bytes)) = some (some (.int .u8 0), 1, 1) := by kernel_rfl
/-- A memory: block h holds the struct, block g its bytes. -/
structure Mem (t : TypeId) (w : World) (h g : Nat) (bs : List Int) : Prop where
  hd : w.heap[h]? = some (.cells #[.slice (some ⟨g, 0, none⟩) bs.length bs.length] t (0, 0))
  ce : w.heap[g]? = some (.cells (u8L bs).toArray 5 (0, 0))
  ne : h ≠ g
  byt : Byt bs
  le : bs.length ≤ 1048576
/-- How many pages New makes. -/
def pg (n : Int) : Nat := (min (max n 0) 256).toNat
theorem pg_le (n : Int) : pg n ≤ 256 := by unfold pg; omega
theorem mem_made {t : TypeId} {w0 w1 : World} {c : Nat} (hc : c ≤ 1048576) (hown : w1.ownsRow w0.heap.size 5 1 (.slice (some ⟨w0.heap.size, 0, none⟩) c c) c (madeCells #[.int .u8 0] c).toList) (hg : w0.grownBy w1 none) :
    Mem t (w1.alloc (.cells #[.slice (some ⟨w0.heap.size, 0, none⟩) c c] t)) w1.heap.size w0.heap.size (List.replicate c 0) ∧ Below w0.heap.size w0 (w1.alloc (.cells #[.slice (some ⟨w0.heap.size, 0, none⟩) c c] t)) := by
  have hlt := (hown.lt w0.heap.size rfl).2
  obtain ⟨-, h | ⟨g, cap, cur, he, -, hcell, -, -, hsz, htk⟩⟩ := hown
  · simp at h
  · simp at he; obtain ⟨rfl, rfl⟩ := he
    refine ⟨⟨?_, ?_, by omega, ?_, by simpa using hc⟩, ?_⟩
    · rw [heap_alloc_new]; simp
    · rw [Below.heap_alloc _ _ _ hlt, hcell]
      rw [toList_madeCells_one] at htk
      have : cur = (List.replicate c (Value.int .u8 0)).toArray := by
        rw [← htk]; apply Array.ext'; simp; rw [List.take_of_length_le]; simp [hsz]
      rw [this]; simp
    · intro b hb; rw [List.mem_replicate] at hb; omega
    · exact ((Below.refl _ _).grown hg (Nat.le_refl _) (by simp)).alloc (by have := hg.size; omega) _
structure MadeAt (t : TypeId) (w : World) (c h g : Nat) (e : Ending) (w' : World) : Prop where
  e : e = .returned (.pointer (some ⟨h, 0, none⟩))
  m : Mem t w' h g (List.replicate c 0)
  lh : w.heap.size ≤ h
  lg : w.heap.size ≤ g
  b : Below w.heap.size w w'
def Made (t : TypeId) (w : World) (c : Nat) (e : Ending) (w' : World) : Prop := ∃ h g, MadeAt t w c h g e w'
set_option maxRecDepth 100000 in
theorem new_says (n : Int) (w : World) : Calls Tryz.prog 26 #[i64 n] w fun e w' => Made 87 w (pg n * 4096) e w' := by
  obtain ⟨i, hi, hz0, hz1, hz2⟩ := info_parts info_u8
  have hp := pg_le n
  go_enter Tryz.func26, Tryz.ntmps26
  go_wp2_with (at_make; refine wpList_make_full _ rfl _ _ 22 rfl w.heap.size 5 i _ 1 Tryz.underlying22 hi hz0 hz1 _ _ _ _ (pg n * 4096) rfl rfl (by unfold pg; simp; omega) (by unfold pg; simp; omega) (by rw [hz2]; omega) (by unfold maxLen; omega) (Nat.le_refl _) ?_; intro w1 hown hgrow; rw [Nat.mul_one, show (Value.int IntKind.u8 0).cells = #[Value.int IntKind.u8 0] from rfl] at hown)
  all_goals
    go_ret
    have hm := mem_made (t := 87) (c := pg n * 4096) (by omega) hown hgrow
    exact ⟨_, _, rfl, hm.1, hgrow.size, Nat.le_refl _, hm.2⟩
set_option maxRecDepth 100000 in
theorem rnew_says (n : Int) (w : World) : Calls Tryz.prog 48 #[i64 n] w fun e w' => Made 77 w (pg n * 4096) e w' := by
  obtain ⟨i, hi, hz0, hz1, hz2⟩ := info_parts info_u8
  have hp := pg_le n
  go_enter Tryz.func48, Tryz.ntmps48
  go_wp2_with (at_make; refine wpList_make_full _ rfl _ _ 22 rfl w.heap.size 5 i _ 1 Tryz.underlying22 hi hz0 hz1 _ _ _ _ (pg n * 4096) rfl rfl (by unfold pg; simp; omega) (by unfold pg; simp; omega) (by rw [hz2]; omega) (by unfold maxLen; omega) (Nat.le_refl _) ?_; intro w1 hown hgrow; rw [Nat.mul_one, show (Value.int IntKind.u8 0).cells = #[Value.int IntKind.u8 0] from rfl] at hown)
  all_goals
    go_ret
    have hm := mem_made (t := 77) (c := pg n * 4096) (by omega) hown hgrow
    exact ⟨_, _, rfl, hm.1, hgrow.size, Nat.le_refl _, hm.2⟩
theorem size_says {w : World} {h g : Nat} {bs : List Int} (hm : Mem 87 w h g bs) : Calls Tryz.prog 29 #[.pointer (some ⟨h, 0, none⟩)] w fun e w' => e = .returned (i64 bs.length) ∧ w = w' := by
  have hc := cell_of_row w h 0 _ _ _ hm.hd
  go_enter Tryz.func29, Tryz.ntmps29
  go_wp2
  go_ret
  exact ⟨rfl, rfl⟩
/-- What cut answers of n bytes from a on. -/
def cutV (g L : Nat) (a n : Int) (v : Value) : Prop :=
  (¬ fitm L a n ∧ v = .slice none 0 0) ∨ (fitm L a n ∧ ∃ p : Option Addr, v = .slice p n.toNat n.toNat ∧ (0 < n → p = some ⟨g, a.toNat, none⟩))
def CutP (g L : Nat) (a n : Int) (w : World) (e : Ending) (w' : World) : Prop :=
  ∃ v, e = .returned (.tuple #[v, .bool (decide (fitm L a n))]) ∧ cutV g L a n v ∧ w = w'
theorem cutP_no {g L : Nat} {a n : Int} {w : World} (hf : ¬ fitm L a n) : CutP g L a n w (.returned (.tuple #[.slice none 0 0, .bool false])) w :=
  ⟨_, by simp [hf], .inl ⟨hf, rfl⟩, rfl⟩
theorem cutP_yes {g L : Nat} {a n : Int} {w : World} (p : Option Addr) (hf : fitm L a n) (hp : 0 < n → p = some ⟨g, a.toNat, none⟩) : CutP g L a n w (.returned (.tuple #[.slice p n.toNat n.toNat, .bool true])) w :=
  ⟨_, by simp [hf], .inr ⟨hf, p, rfl, hp⟩, rfl⟩
theorem cut_says {w : World} {h g : Nat} {bs : List Int} (hm : Mem 87 w h g bs) (a n : Int) (ha : -9223372036854775808 ≤ a ∧ a ≤ 9223372036854775807) (hn : -9223372036854775808 ≤ n ∧ n ≤ 9223372036854775807) :
    Calls Tryz.prog 50 #[.pointer (some ⟨h, 0, none⟩), i64 a, i64 n] w (CutP g bs.length a n w) := by
  have hc := cell_of_row w h 0 _ _ _ hm.hd
  have hl := hm.le
  go_enter Tryz.func50, Tryz.ntmps50
  go_wp2
  all_goals
    go_ret2
    first
      | exact cutP_no (by unfold fitm; omega)
      | exact cutP_yes _ (by unfold fitm; omega) (fun _ => by first | rfl | omega)
/-- What cell answers. -/
def CellP (g L : Nat) (a s : Int) (w : World) (e : Ending) (w' : World) : Prop :=
  ((¬ okc L a s ∧ e = .returned (.tuple #[.slice none 0 0, .bool false])) ∨ (okc L a s ∧ e = .returned (.tuple #[.slice (some ⟨g, a.toNat, none⟩) s.toNat s.toNat, .bool true]))) ∧ w = w'
theorem CutP.cell {g L : Nat} {a s : Int} {w w' : World} {e : Ending} (h : CutP g L a s w e w') (hs : s = 1 ∨ s = 2 ∨ s = 4) (ha : a % s = 0) : CellP g L a s w e w' := by
  obtain ⟨v, rfl, hv, rfl⟩ := h
  refine ⟨?_, rfl⟩
  rcases hv with ⟨hf, rfl⟩ | ⟨hf, p, rfl, hp⟩
  · exact .inl ⟨fun h => hf h.2.2, by simp [hf]⟩
  · rw [hp (by omega)]
    exact .inr ⟨⟨hs, ha, hf⟩, by simp [hf]⟩
theorem cell_says {w : World} {h g : Nat} {bs : List Int} (hm : Mem 87 w h g bs) (a s : Int) (ha : -9223372036854775808 ≤ a ∧ a ≤ 9223372036854775807) :
    Calls Tryz.prog 118 #[.pointer (some ⟨h, 0, none⟩), i64 a, i64 s] w (CellP g bs.length a s w) := by
  have e0 : bits .and .i64 a 0 = a % 1 := i64_mask a 0 (by decide)
  have e1 : bits .and .i64 a 1 = a % 2 := i64_mask a 1 (by decide)
  have e3 : bits .and .i64 a 3 = a % 4 := i64_mask a 2 (by decide)
  have hs : s = 1 ∨ s = 2 ∨ s = 4 ∨ (¬ s = 1 ∧ ¬ s = 2 ∧ ¬ s = 4) := by omega
  rcases hs with rfl | rfl | rfl | ⟨h1, h2, h4⟩
  iterate 3
    · go_enter Tryz.func118, Tryz.ntmps118
      go_wp2_with (go_at_call 50; go_loud (refine (cut_says hm a _ ha (by omega)).mono ?_); intro e w' hp; have hp := hp.cell (by omega) (by first | omega | exact eq_of_beq (by assumption)); obtain ⟨⟨hk, rfl⟩ | ⟨hk, rfl⟩, rfl⟩ := hp)
      all_goals
        go_ret2
        first
          | exact ⟨.inl ⟨hk, rfl⟩, rfl⟩
          | exact ⟨.inr ⟨hk, rfl⟩, rfl⟩
          | exact ⟨.inl ⟨fun hk => by have h2 := hk.2.1; have h3 := ne_of_beq_false ‹_›; exact h3 h2, rfl⟩, rfl⟩
  · go_enter Tryz.func118, Tryz.ntmps118
    go_wp2
    go_ret2
    exact ⟨.inl ⟨fun hk => by have := hk.1; omega, rfl⟩, rfl⟩
/-- Where a loop reads: cells of a memory. -/
theorem Mem.cell {t : TypeId} {w : World} {h g : Nat} {bs : List Int} (hm : Mem t w h g bs) (i : Nat) (hi : i < bs.length) : w.cell? ⟨g, i, none⟩ = some (.int .u8 (bs.getD i 0)) := by
  rw [cell_of_row w g i _ _ _ hm.ce]
  simp [hi]
def LoadP (bs : List Int) (a s : Int) (w : World) (e : Ending) (w' : World) : Prop := e = .returned (.tuple #[i64 (ldv bs a s), .bool (decide (okc bs.length a s))]) ∧ w = w'
theorem load_says {w : World} {h g : Nat} {bs : List Int} (hm : Mem 87 w h g bs) (a s : Int) (ha : -9223372036854775808 ≤ a ∧ a ≤ 9223372036854775807) :
    Calls Tryz.prog 85 #[.pointer (some ⟨h, 0, none⟩), i64 a, i64 s] w (LoadP bs a s w) := by
  by_cases hk : okc bs.length a s
  · obtain ⟨h0, h1, h2⟩ := hk.2.2
    obtain ⟨o, rfl⟩ := Int.eq_ofNat_of_zero_le h0
    obtain ⟨n, rfl⟩ := Int.eq_ofNat_of_zero_le h1
    have hb0 := byt_getD hm.byt
    have hL : o + n ≤ bs.length := by omega
    have hn4 : n ≤ 4 := by have := hk.1; omega
    obtain ⟨xs, hxs⟩ : ∃ xs, xs = (bs.drop o).take n := ⟨_, rfl⟩
    obtain ⟨r, hr⟩ : ∃ r, r = LoadP bs o n w := ⟨_, rfl⟩
    rw [← hr]
    have hout : r (.returned (.tuple #[i64 (lev xs), .bool true])) w := by rw [hr, hxs]; unfold LoadP ldv; rw [if_pos hk]; simp [hk]
    go_enter Tryz.func85, Tryz.ntmps85
    go_wp2_with (go_at_call 118; refine (cell_says hm _ _ ha).mono ?_; intro e w' hp; obtain ⟨⟨hk', rfl⟩ | ⟨hk', rfl⟩, rfl⟩ := hp; exact absurd hk hk')
    go_loop [10, 22] (fun v i => ∃ k : Nat, k ≤ n ∧ i = .int .i64 k ∧ v = .int .i64 (lev (xs.take k))) (fun _ i => n - (intOf i).toNat)
    case atStart => exact ⟨0, Nat.zero_le _, rfl, rfl⟩
    case round =>
      obtain ⟨k, hk, rfl, rfl⟩ := hrel
      obtain ⟨b, hb⟩ : ∃ b, b = bs.getD (o + k) 0 := ⟨_, rfl⟩
      have hcell : k < n → w.cell? ⟨g, o + k, none⟩ = some (.int .u8 b) := fun _ => by rw [hb]; exact hm.cell _ (by omega)
      have hb1 := hb0 (o + k)
      rw [← hb] at hb1
      have hxk : k < n → b = xs.getD k 0 := fun h => by rw [hb, hxs, getD_drop_take _ _ _ _ h]
      have hxl : xs.length = n := by rw [hxs]; simp; omega
      have hxB : Byt xs := by rw [hxs]; exact byt_take (byt_drop hm.byt _) _
      clear hm hb0 hr hxs hb
      have HK := Lib.hid hxk; have HL := Lib.hid hxl; clear hxk hxl
      go_wp2
      · have hlt : k < n := by assumption
        go_round
        case rel => exact ⟨k + 1, hlt, by go_num, by rw [load_step hxB k (by have := HL.out; omega) (by have := HL.out; omega) b (HK.out hlt)]⟩
        case measure => simp [intOf]; omega
      · have hkn : k = n := by omega
        have e : xs.take k = xs := List.take_of_length_le (by have := HL.out; omega)
        rw [e]; exact hout
  · have hout : LoadP bs a s w (.returned (.tuple #[i64 0, .bool false])) w := by unfold LoadP ldv; rw [if_neg hk]; simp [hk]
    obtain ⟨r, hr⟩ : ∃ r, r = LoadP bs a s w := ⟨_, rfl⟩
    rw [← hr] at hout ⊢; clear hr
    go_enter Tryz.func85, Tryz.ntmps85
    go_wp2_with (go_at_call 118; refine (cell_says hm _ _ ha).mono ?_; intro e w' hp; obtain ⟨⟨hk', rfl⟩ | ⟨hk', rfl⟩, rfl⟩ := hp; rotate_left; exact absurd hk' hk)
    go_loop [10, 22] (fun v i => i = .int .i64 0 ∧ v = .int .i64 0) (fun _ i => 0)
    case atStart => exact ⟨rfl, rfl⟩
    case round =>
      obtain ⟨rfl, rfl⟩ := hrel
      go_wp2
      exact hout
/-- Block g alone has turned. -/
structure Only (g : Nat) (w w' : World) : Prop where
  os : w'.os = w.os
  tape : w'.tape = w.tape
  output : w'.output = w.output
  size : w'.heap.size = w.heap.size
  block : ∀ k, k ≠ g → w'.heap[k]? = w.heap[k]?
theorem Only.refl (g : Nat) (w : World) : Only g w w := ⟨rfl, rfl, rfl, rfl, fun _ _ => rfl⟩
theorem Only.setCell {g : Nat} {w w' : World} (h : Only g w w') (j : Nat) (v : Value) : Only g w (w'.setCell ⟨g, j, none⟩ v) :=
  ⟨h.os, h.tape, h.output, by simpa [World.setCell] using h.size, fun k hk => by rw [Below.heap_setCell _ _ _ _ hk]; exact h.block k hk⟩
theorem Only.below {g B : Nat} {w w' : World} (h : Only g w w') (hB : B ≤ g) : Below B w w' :=
  ⟨h.os, h.tape, h.output, by rw [h.size]; exact Nat.le_refl _, fun k hk => h.block k (by omega)⟩
theorem Mem.lt {t : TypeId} {w : World} {h g : Nat} {bs : List Int} (hm : Mem t w h g bs) : h < w.heap.size ∧ g < w.heap.size :=
  ⟨(Array.getElem?_eq_some_iff.1 hm.hd).1, (Array.getElem?_eq_some_iff.1 hm.ce).1⟩
theorem Mem.below {t : TypeId} {w w' : World} {h g B : Nat} {bs : List Int} (hm : Mem t w h g bs) (hb : Below B w w') (h1 : h < B) (h2 : g < B) : Mem t w' h g bs :=
  ⟨by rw [hb.block h h1]; exact hm.hd, by rw [hb.block g h2]; exact hm.ce, hm.ne, hm.byt, hm.le⟩
theorem Mem.grow {t : TypeId} {w w' : World} {h g : Nat} {bs : List Int} (hm : Mem t w h g bs) (hb : Below w.heap.size w w') : Mem t w' h g bs := hm.below hb hm.lt.1 hm.lt.2
theorem Mem.only {t : TypeId} {w w' : World} {h g g' : Nat} {bs : List Int} (hm : Mem t w h g bs) (ho : Only g' w w') (h1 : h ≠ g') (h2 : g ≠ g') : Mem t w' h g bs :=
  ⟨by rw [ho.block h h1]; exact hm.hd, by rw [ho.block g h2]; exact hm.ce, hm.ne, hm.byt, hm.le⟩
theorem Mem.set {t : TypeId} {w : World} {h g : Nat} {bs : List Int} (hm : Mem t w h g bs) (j : Nat) (b : Int) (hb : 0 ≤ b ∧ b < 256) : Mem t (w.setCell ⟨g, j, none⟩ (.int .u8 b)) h g (bs.set j b) := by
  refine ⟨?_, ?_, hm.ne, byt_set hm.byt _ _ hb, by simpa using hm.le⟩
  · rw [Below.heap_setCell _ _ _ _ hm.ne]; simpa using hm.hd
  · simp only [World.setCell, Array.getElem?_modify, if_true, hm.ce, Option.map_some]
    simp
theorem Mem.frozen {t : TypeId} {w : World} {h g : Nat} {bs : List Int} (hm : Mem t w h g bs) (j : Nat) : w.frozen? ⟨g, j, none⟩ = false := by
  simp [World.frozen?, hm.ce]
/-- Store. -/
def StoreP (h g : Nat) (bs : List Int) (a s v : Int) (w : World) (e : Ending) (w' : World) : Prop :=
  e = .returned (.bool (decide (okc bs.length a s))) ∧ Mem 87 w' h g (stv bs a s v) ∧ Only g w w'
theorem store_says {w : World} {h g : Nat} {bs : List Int} (hm : Mem 87 w h g bs) (a s v : Int) (ha : -9223372036854775808 ≤ a ∧ a ≤ 9223372036854775807) :
    Calls Tryz.prog 196 #[.pointer (some ⟨h, 0, none⟩), i64 a, i64 s, i64 v] w (StoreP h g bs a s v w) := by
  by_cases hk : okc bs.length a s
  · obtain ⟨h0, h1, h2⟩ := hk.2.2
    obtain ⟨o, rfl⟩ := Int.eq_ofNat_of_zero_le h0
    obtain ⟨n, rfl⟩ := Int.eq_ofNat_of_zero_le h1
    have hL : o + n ≤ bs.length := by omega
    have hn4 : n ≤ 4 := by have := hk.1; omega
    obtain ⟨r, hr⟩ : ∃ r, r = StoreP h g bs o n v w := ⟨_, rfl⟩
    rw [← hr]
    have hout : ∀ w', Mem 87 w' h g (stN bs o v n) → Only g w w' → r (.returned (.bool true)) w' := by
      intro w' h1 h2; rw [hr]; exact ⟨by simp [hk], by unfold stv; rw [if_pos hk]; exact h1, h2⟩
    go_enter Tryz.func196, Tryz.ntmps196
    go_wp2_with (go_at_call 118; refine (cell_says hm _ _ ha).mono ?_; intro e w' hp; obtain ⟨⟨hk', rfl⟩ | ⟨hk', rfl⟩, rfl⟩ := hp; exact absurd hk hk')
    go_loopw [21] (fun i wr => ∃ k : Nat, k ≤ n ∧ i = .int .i64 k ∧ Mem 87 wr h g (stN bs o v k) ∧ Only g w wr) (fun i _ => n - (intOf i).toNat)
    case atStart => exact ⟨0, Nat.zero_le _, rfl, hm, Only.refl _ _⟩
    case round =>
      obtain ⟨k, hk, rfl, hmr, hor⟩ := hrel
      obtain ⟨b, hb⟩ : ∃ b, b = (stN bs o v k).getD (o + k) 0 := ⟨_, rfl⟩
      have hcell : k < n → wr.cell? ⟨g, o + k, none⟩ = some (.int .u8 b) := fun _ => by rw [hb]; exact hmr.cell _ (by rw [stN_length]; omega)
      have hfr := hmr.frozen (o + k)
      clear hm hr hb
      go_wp2
      · have hlt : k < n := by assumption
        go_roundw
        case rel => exact ⟨k + 1, hlt, by go_num, by rw [p256]; exact hmr.set _ _ (by omega), hor.setCell _ _⟩
        case measure => simp [intOf]; omega
      · have hkn : k = n := by omega
        subst hkn
        exact hout _ hmr hor
  · have hout : StoreP h g bs a s v w (.returned (.bool false)) w := ⟨by simp [hk], by unfold stv; rw [if_neg hk]; exact hm, Only.refl _ _⟩
    obtain ⟨r, hr⟩ : ∃ r, r = StoreP h g bs a s v w := ⟨_, rfl⟩
    rw [← hr] at hout ⊢; clear hr
    go_enter Tryz.func196, Tryz.ntmps196
    go_wp2_with (go_at_call 118; refine (cell_says hm _ _ ha).mono ?_; intro e w' hp; obtain ⟨⟨hk', rfl⟩ | ⟨hk', rfl⟩, rfl⟩ := hp; rotate_left; exact absurd hk' hk)
    go_loop [21] (fun i => i = .int .i64 0) (fun _ => 0)
    case atStart => rfl
    case round =>
      obtain rfl := hrel
      go_wp2
      exact hout
/-- What Get answers: bytes of the call's own. -/
def GetP (xs : List Int) (w : World) (e : Ending) (w' : World) : Prop :=
  ∃ v, e = .returned v ∧ w'.ownsRow w.heap.size 5 1 v xs.length (u8L xs) ∧ w.grownBy w' none
def getL (bs : List Int) (a n : Int) : List Int := if fitm bs.length a n then (bs.drop a.toNat).take n.toNat else []
theorem getL_in (bs : List Int) (o n : Nat) (h : o + n ≤ bs.length) : (getL bs o n).length = n ∧ getL bs o n = (bs.drop o).take n := by
  unfold getL; rw [if_pos (by unfold fitm; omega)]; simp; omega
theorem Mem.cells {t : TypeId} {w : World} {h g : Nat} {bs : List Int} (hm : Mem t w h g bs) (o n : Nat) : ∀ j u, (u8L ((bs.drop o).take n))[j]? = some u → w.cell? ((⟨g, o, none⟩ : Addr).add j) = some u := by
  intro j u hu
  have hj : j < ((bs.drop o).take n).length := by
    have := (List.getElem?_eq_some_iff.1 hu).1; simpa using this
  have hj' : j < n ∧ o + j < bs.length := by rw [List.length_take, List.length_drop] at hj; omega
  rw [Addr.add_lit, hm.cell _ hj'.2]
  simp [hj'.1, List.getElem?_eq_getElem hj'.2] at hu
  simp [List.getElem?_eq_getElem hj'.2, hu]
theorem u8_one (xs : List Int) : ∀ u ∈ u8L xs, u.oneCell' = true := by
  intro u hu; obtain ⟨_, _, rfl⟩ := List.mem_map.1 hu; rfl
theorem getP_none (w : World) : GetP [] w (.returned (.slice none 0 0)) w := ⟨_, rfl, World.ownsRow_nil _ _ _ _, World.grownBy.refl _ _⟩
theorem get_says {w : World} {h g : Nat} {bs : List Int} (hm : Mem 87 w h g bs) (a n : Int) (ha : -9223372036854775808 ≤ a ∧ a ≤ 9223372036854775807) (hn : -9223372036854775808 ≤ n ∧ n ≤ 9223372036854775807) :
    Calls Tryz.prog 49 #[.pointer (some ⟨h, 0, none⟩), i64 a, i64 n] w (GetP (getL bs a n) w) := by
  obtain ⟨i, hi, hz0, hz1, hz2⟩ := info_parts info_u8
  have hl := hm.le
  by_cases hk : fitm bs.length a n
  · obtain ⟨h0, h1, h2⟩ := hk
    obtain ⟨o, rfl⟩ := Int.eq_ofNat_of_zero_le h0
    obtain ⟨k, rfl⟩ := Int.eq_ofNat_of_zero_le h1
    have hL : o + k ≤ bs.length := by omega
    obtain ⟨e1, e2⟩ := getL_in bs o k hL
    obtain ⟨xs, hxs⟩ : ∃ xs, xs = getL bs o k := ⟨_, rfl⟩
    have hcs := hm.cells o k
    rw [← e2, ← hxs] at hcs
    rw [← hxs] at e1 ⊢
    have hkk : k ≤ 1048576 := by omega
    obtain ⟨r, hr⟩ : ∃ r, r = GetP xs w := ⟨_, rfl⟩
    have hout : ∀ v w', w'.ownsRow w.heap.size 5 1 v k (u8L xs) → w.grownBy w' none → r (.returned v) w' := by
      intro v w' h1 h2; rw [hr]; exact ⟨v, rfl, by rw [e1]; exact h1, h2⟩
    have hnil : k = 0 → r (.returned (.slice none 0 0)) w := by
      intro h; subst h; obtain rfl := List.eq_nil_of_length_eq_zero e1; rw [hr]; exact getP_none w
    rw [← hr]
    clear hr
    have HE := Lib.hid e1; have HX := Lib.hid hxs; clear e1 hxs e2
    by_cases hz : k = 0
    · have hn0 := hnil hz
      subst hz
      have hfit : fitm bs.length (o : Int) 0 := ⟨h0, h1, h2⟩
      have hn' : -9223372036854775808 ≤ (0 : Int) ∧ (0 : Int) ≤ 9223372036854775807 := by omega
      clear hnil hcs hkk hL h1 h2 hn h0 HX
      show Calls _ _ #[_, _, i64 0] _ _
      go_enter Tryz.func49, Tryz.ntmps49
      go_wp2_with (first | (go_at_call 50; refine (cut_says hm _ _ ha hn').mono ?_; intro e w' hp; obtain ⟨v, rfl, ⟨hk', rfl⟩ | ⟨hk', p, rfl, hp⟩, rfl⟩ := hp; exact absurd hfit hk'; clear hp; rcases p with _ | p))
      all_goals exact hn0
    · go_enter Tryz.func49, Tryz.ntmps49
      go_wp2_with (first
        | (go_at_call 50; refine (cut_says hm _ _ ha hn).mono ?_; intro e w' hp; obtain ⟨v, rfl, ⟨hk', rfl⟩ | ⟨hk', p, rfl, hp⟩, rfl⟩ := hp; exact absurd ⟨h0, h1, h2⟩ hk'; rw [hp (by omega)])
        | (at_builtin; refine wpList_append_own _ rfl _ _ 22 rfl w.heap.size 5 i (.int .u8 0) 1 1 Tryz.underlying22 hi hz0 hz1 hz2 rfl (by decide) _ 0 [] rfl (World.ownsRow_nil _ _ _ _) _ k k (u8L xs) rfl (by have := HE.out; simp [this]) hcs (u8_one _) (by unfold maxLen; omega) (by omega) (Nat.le_refl _) ?_; intro v w1 hown hgrow hn'))
      exact hout _ _ (by simpa using hown) hgrow
  · have e : getL bs a n = [] := by unfold getL; rw [if_neg hk]
    rw [e]
    obtain ⟨r, hr⟩ : ∃ r, r = GetP [] w := ⟨_, rfl⟩
    have hout := getP_none w
    rw [← hr] at hout ⊢; clear hr
    go_enter Tryz.func49, Tryz.ntmps49
    go_wp2_with (first
      | (go_at_call 50; refine (cut_says hm _ _ ha hn).mono ?_; intro e w' hp; obtain ⟨v, rfl, ⟨hk', rfl⟩ | ⟨hk', p, rfl, hp⟩, rfl⟩ := hp; rotate_left; exact absurd hk' hk)
      | (at_builtin; refine wpList_append_own_none rfl _ _ 22 rfl w.heap.size 5 i 1 Tryz.underlying22 hi _ 0 [] rfl (World.ownsRow_nil _ _ _ _) rfl ?_))
    exact hout
theorem setRow_only (w : World) (g : Nat) (cs : Array Value) : Only g w (w.setRow g cs) :=
  ⟨rfl, rfl, rfl, by simp [World.setRow], fun k hk => setRow_other w g k cs hk⟩
/-- Bytes that are handed in. -/
structure Src8 (w : World) (sp : Option Addr) (xs : List Int) : Prop where
  byt : Byt xs
  at_ : 0 < xs.length → ∃ ad, sp = some ad ∧ ∀ j u, (u8L xs)[j]? = some u → w.cell? (ad.add j) = some u
def putL (bs : List Int) (a : Int) (xs : List Int) : List Int := if fitm bs.length a xs.length then splice bs a.toNat xs else bs
theorem Byt.splice {bs xs : List Int} (hb : Byt bs) (hx : Byt xs) (o : Nat) : Byt (splice bs o xs) := by
  intro b h
  unfold Go.splice at h
  rcases List.mem_append.1 h with h | h
  · exact hb b (List.mem_of_mem_take h)
  · rcases List.mem_append.1 h with h | h
    · exact hx b h
    · exact hb b (List.mem_of_mem_drop h)
theorem Mem.put {t : TypeId} {w : World} {h g : Nat} {bs : List Int} (hm : Mem t w h g bs) {xs : List Int} (hx : Byt xs) (o : Nat) (hL : o + xs.length ≤ bs.length) :
    Mem t (w.setRow g ((u8L bs).toArray.toList.take o ++ (u8L xs ++ (u8L bs).toArray.toList.drop (o + (u8L xs).length))).toArray) h g (splice bs o xs) := by
  refine ⟨?_, ?_, hm.ne, hm.byt.splice hx o, by rw [length_splice _ _ _ hL]; exact hm.le⟩
  · rw [setRow_other _ _ _ _ hm.ne, length_splice _ _ _ hL]; exact hm.hd
  · rw [setRow_heap w g _ _ _ _ hm.ce]
    simp [splice, List.map_take, List.map_drop]
def PutP (t : TypeId) (h g : Nat) (bs : List Int) (a : Int) (xs : List Int) (w : World) (e : Ending) (w' : World) : Prop :=
  e = .returned (.bool (decide (fitm bs.length a xs.length))) ∧ Mem t w' h g (putL bs a xs) ∧ Only g w w'
theorem size_u8 : (Tryz.prog.info? 5).map (·.size) = some 1 := by kernel_rfl
theorem put_says {w : World} {h g : Nat} {bs : List Int} (hm : Mem 87 w h g bs) (a : Int) (ha : -9223372036854775808 ≤ a ∧ a ≤ 9223372036854775807) (sp : Option Addr) (n c : Nat) (hn : n ≤ 9223372036854775807) (xs : List Int) (hx : xs.length = n) (hs : Src8 w sp xs) :
    Calls Tryz.prog 35 #[.pointer (some ⟨h, 0, none⟩), i64 a, .slice sp n c] w (PutP 87 h g bs a xs w) := by
  have hl := hm.le
  have hce := hm.ce
  by_cases hk : fitm bs.length a n
  · obtain ⟨h0, h1, h2⟩ := hk
    obtain ⟨o, rfl⟩ := Int.eq_ofNat_of_zero_le h0
    have hL : o + n ≤ bs.length := by omega
    obtain ⟨r, hr⟩ : ∃ r, r = PutP 87 h g bs o xs w := ⟨_, rfl⟩
    have hf : fitm bs.length (o : Int) xs.length := by rw [hx]; exact ⟨h0, h1, h2⟩
    have hout : ∀ w', Mem 87 w' h g (splice bs o xs) → Only g w w' → r (.returned (.bool true)) w' := by
      intro w' h1 h2; rw [hr]; exact ⟨by simp [hf], by unfold putL; rw [if_pos hf]; exact h1, h2⟩
    rw [← hr]; clear hr
    by_cases hz : n = 0
    · have hn0 : r (.returned (.bool true)) w := hout w (by rw [hz] at hx; obtain rfl := List.eq_nil_of_length_eq_zero hx; unfold Go.splice; simpa using hm) (Only.refl _ _)
      subst hz
      clear hout
      go_enter Tryz.func35, Tryz.ntmps35
      go_wp2_with (first
        | (go_at_call 50; refine (cut_says hm _ _ ha (by omega)).mono ?_; intro e w' hp; obtain ⟨v, rfl, ⟨hk', rfl⟩ | ⟨hk', p, rfl, hp⟩, rfl⟩ := hp; exact absurd ⟨h0, h1, h2⟩ hk'; clear hp)
        | (refine wpList_copy_nothing rfl _ _ 22 22 rfl 5 Tryz.underlying22 size_u8 _ _ _ _ _ _ rfl rfl rfl ?_))
      exact hn0
    · obtain ⟨ad, rfl, hcs⟩ := hs.at_ (by omega)
      have hxs := hx
      have HX := Lib.hid hx; clear hx
      go_enter Tryz.func35, Tryz.ntmps35
      go_wp2_with (first
        | (go_at_call 50; refine (cut_says hm _ _ ha (by omega)).mono ?_; intro e w' hp; obtain ⟨v, rfl, ⟨hk', rfl⟩ | ⟨hk', p, rfl, hp⟩, rfl⟩ := hp; exact absurd ⟨h0, h1, h2⟩ hk'; rw [hp (by omega)])
        | (refine wpList_copy_own rfl _ _ 22 22 rfl 5 Tryz.underlying22 size_u8 g o n n ad n c rfl rfl _ _ hce (u8L xs) (by simp [hxs]) hcs (by simp [hxs]; omega) (u8_one _) ?_))
      exact hout _ (by have h := hm.put hs.byt o (by rw [HX.out]; omega); rw [List.length_map, HX.out] at h; exact h) (setRow_only _ _ _)
  · have hf : ¬ fitm bs.length a xs.length := by rw [hx]; exact hk
    have hout : PutP 87 h g bs a xs w (.returned (.bool false)) w := ⟨by simp [hf], by unfold putL; rw [if_neg hf]; exact hm, Only.refl _ _⟩
    obtain ⟨r, hr⟩ : ∃ r, r = PutP 87 h g bs a xs w := ⟨_, rfl⟩
    rw [← hr] at hout ⊢; clear hr
    go_enter Tryz.func35, Tryz.ntmps35
    go_wp2_with (first
      | (go_at_call 50; refine (cut_says hm _ _ ha (by omega)).mono ?_; intro e w' hp; obtain ⟨v, rfl, ⟨hk', rfl⟩ | ⟨hk', p, rfl, hp⟩, rfl⟩ := hp; rotate_left; exact absurd hk' hk)
      | (refine wpList_copy_nothing rfl _ _ 22 22 rfl 5 Tryz.underlying22 size_u8 _ _ _ _ _ _ rfl rfl (Nat.min_zero _) ?_))
    exact hout
end Go.Proofs.YtfcmodllbhpniaaGreatDoor
set_option maxRecDepth 100000
namespace Go.Proofs.YtfcmodllbhpniaaGreatDoor
open Go.ChangeShapes Go.WideShapes Go.ChangeAt Go.RowKit
theorem ldv_one (bs : List Int) (o : Nat) (h : o < bs.length) : okc bs.length o 1 ∧ ldv bs o 1 = bs.getD o 0 := by
  have hk : okc bs.length (o : Int) 1 := ⟨by omega, by omega, by unfold fitm; omega⟩
  refine ⟨hk, ?_⟩
  unfold ldv; rw [if_pos hk]
  have e := le_down ((bs.drop o).take 1) 0 (by simp; omega)
  rw [List.drop_zero, List.drop_of_length_le (i := 0 + 1) (by simp; omega), getD_drop_take _ _ _ _ (by omega)] at e
  simpa [lev] using e
theorem ldv_two (bs : List Int) (o : Nat) (h : o + 2 ≤ bs.length) (h2 : o % 2 = 0) : okc bs.length o 2 ∧ ldv bs o 2 = bs.getD o 0 + 256 * bs.getD (o + 1) 0 := by
  have hk : okc bs.length (o : Int) 2 := ⟨by omega, by omega, by unfold fitm; omega⟩
  refine ⟨hk, ?_⟩
  unfold ldv; rw [if_pos hk]
  have e := le_down ((bs.drop o).take 2) 0 (by simp; omega)
  have e1 := le_down ((bs.drop o).take 2) 1 (by simp; omega)
  rw [List.drop_of_length_le (i := 1 + 1) (by simp; omega), getD_drop_take _ _ _ _ (by omega)] at e1
  rw [List.drop_zero, e1, getD_drop_take _ _ _ _ (by omega)] at e
  simpa [lev] using e
theorem ldv_four (bs : List Int) (o : Nat) (h : o + 4 ≤ bs.length) (h2 : o % 4 = 0) : okc bs.length o 4 ∧ ldv bs o 4 = bs.getD o 0 + 256 * (bs.getD (o + 1) 0 + 256 * (bs.getD (o + 2) 0 + 256 * bs.getD (o + 3) 0)) := by
  have hk : okc bs.length (o : Int) 4 := ⟨by omega, by omega, by unfold fitm; omega⟩
  refine ⟨hk, ?_⟩
  unfold ldv; rw [if_pos hk]
  have e := le_down ((bs.drop o).take 4) 0 (by simp; omega)
  have e1 := le_down ((bs.drop o).take 4) 1 (by simp; omega)
  have e2 := le_down ((bs.drop o).take 4) 2 (by simp; omega)
  have e3 := le_down ((bs.drop o).take 4) 3 (by simp; omega)
  rw [List.drop_of_length_le (i := 3 + 1) (by simp; omega), getD_drop_take _ _ _ _ (by omega)] at e3
  rw [e3, getD_drop_take _ _ _ _ (by omega)] at e2
  rw [e2, getD_drop_take _ _ _ _ (by omega)] at e1
  rw [List.drop_zero, e1, getD_drop_take _ _ _ _ (by omega)] at e
  simpa [lev] using e
theorem stv_getD (bs : List Int) (o s : Nat) (v : Int) (hk : okc bs.length o s) (i : Nat) : (stv bs o s v).getD i 0 = if o ≤ i ∧ i < o + s then v / 256 ^ (i - o) % 256 else bs.getD i 0 := by
  unfold stv; rw [if_pos hk]
  exact stN_getD bs o v i s (by have := hk.2.2.2.2; omega)
theorem pg1 : pg 1 * 4096 = 4096 := rfl
/-- A slice of bytes of the call's own: nil, or a row's head. -/
def Own8 (B : Nat) (w : World) (p : Option Addr) (xs : List Int) : Prop :=
  (p = none ∧ xs = []) ∨ ∃ g cur, p = some ⟨g, 0, none⟩ ∧ B ≤ g ∧ w.heap[g]? = some (.cells cur 5 (0, 0)) ∧ xs.length ≤ cur.size ∧ cur.toList.take xs.length = u8L xs
/-- What Get answers, in one shape. -/
def GetQ (xs : List Int) (w : World) (e : Ending) (w' : World) : Prop :=
  ∃ p c, e = .returned (.slice p xs.length c) ∧ Own8 w.heap.size w' p xs ∧ Below w.heap.size w w'
theorem getQ {xs : List Int} {w w' : World} {e : Ending} (h : GetP xs w e w') : GetQ xs w e w' := by
  obtain ⟨v, rfl, ⟨-, ⟨rfl, hn⟩ | ⟨g, cap, cur, rfl, hb, hg, hn, -, hs, htk⟩⟩, hgr⟩ := h
  · obtain rfl := List.eq_nil_of_length_eq_zero hn
    exact ⟨none, 0, rfl, .inl ⟨rfl, rfl⟩, (Below.refl _ _).grown hgr (Nat.le_refl _) (by simp)⟩
  · exact ⟨_, cap, rfl, .inr ⟨g, cur, rfl, hb, hg, by rw [hs]; omega, by simpa using htk⟩, (Below.refl _ _).grown hgr (Nat.le_refl _) (by simp)⟩
theorem Own8.src {B : Nat} {w : World} {p : Option Addr} {xs : List Int} (h : Own8 B w p xs) (hx : Byt xs) : Src8 w p xs := by
  refine ⟨hx, fun hp => ?_⟩
  rcases h with ⟨rfl, rfl⟩ | ⟨g, cur, rfl, -, hg, hle, htk⟩
  · simp at hp
  · refine ⟨_, rfl, fun j u hu => ?_⟩
    rw [Addr.add_lit, Nat.zero_add, cell_of_row w g j _ _ _ hg]
    rw [← htk, List.getElem?_take] at hu
    split at hu
    · simpa using hu
    · simp at hu
/-- Two slices of bytes that are written out where they are used. -/
theorem Src8.made (w : World) (xs : List Int) (hx : Byt xs) : Src8 (w.alloc (.cells (u8L xs).toArray 5)) (some ⟨w.heap.size, 0, none⟩) xs := by
  refine ⟨hx, fun _ => ⟨_, rfl, fun j u hu => ?_⟩⟩
  rw [Addr.add_lit, Nat.zero_add, cell_of_row _ w.heap.size j _ _ _ (by rw [heap_alloc_new])]
  simpa using hu
theorem Mem.alloc {t : TypeId} {w : World} {h g : Nat} {bs : List Int} (hm : Mem t w h g bs) (o : Obj) : Mem t (w.alloc o) h g bs :=
  hm.grow ((Below.refl _ _).alloc (Nat.le_refl _) o)
def PutQ (t : TypeId) (h g : Nat) (bs : List Int) (a : Int) (n : Nat) (xs : List Int) (w : World) (e : Ending) (w' : World) : Prop :=
  e = .returned (.bool (decide (fitm bs.length a n))) ∧ Mem t w' h g (putL bs a xs) ∧ Only g w w'
theorem putQ {t : TypeId} {h g : Nat} {bs : List Int} {a : Int} {n : Nat} {xs : List Int} {w : World} {e : Ending} {w' : World} (hx : xs.length = n) (hp : PutP t h g bs a xs w e w') : PutQ t h g bs a n xs w e w' := by
  subst hx; exact hp
end Go.Proofs.YtfcmodllbhpniaaGreatDoor
