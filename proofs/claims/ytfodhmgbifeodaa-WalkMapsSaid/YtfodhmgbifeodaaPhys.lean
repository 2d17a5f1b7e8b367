
/-
  Contracts of package phys's calls: a memory as its block, its bytes as a list.
-/
import Derived.Test.YtfodhmgbifeodaaWord
import Derived.Test.YtfodhmgbifeodaaPhysMath
import Derived.Laws.CopyOwn
import Derived.Laws.AppendOwnNone
import Derived.LoopTactic
namespace Go.Proofs.Ytfodhmgbifeodaa
open Go.ChangeShapes Go.WideShapes Go.ChangeAt Go.RowKit
/-- The cells of bytes. -/
abbrev u8L (bs : List Int) : List Value := bs.map (.int .u8)
theorem info_u8 : (Try.prog.info? 5).map (fun i => (i.zero, i.size, i.bytes)) = some (some (.int .u8 0), 1, 1) := by kernel_rfl
/-- A memory: block h holds the struct, block g its bytes. -/
structure Mem (t : TypeId) (w : World) (h g : Nat) (bs : List Int) : Prop where
  hd : w.heap[h]? = some (.cells #[.slice (some ⟨g, 0, none⟩) bs.length bs.length] t (0, 0))
  ce : w.heap[g]? = some (.cells (u8L bs).toArray 5 (0, 0))
  ne : h ≠ g
  byt : Byt bs
  le : bs.length ≤ 1048576
/-- How many pages New makes. -/
def pg (n : Int) : Nat := (min (max n 0) 256).toNat
theorem pg_le (n : Int) : pg n ≤ 256 := by unfold pg; omega
theorem mem_made {t : TypeId} {w0 w1 : World} {c : Nat} (hc : c ≤ 1048576) (hown : w1.ownsRow w0.heap.size 5 1 (.slice (some ⟨w0.heap.size, 0, none⟩) c c) c (madeCells #[.int .u8 0] c).toList) (hg : w0.grownBy w1 none) :
    Mem t (w1.alloc (.cells #[.slice (some ⟨w0.heap.size, 0, none⟩) c c] t)) w1.heap.size w0.heap.size (List.replicate c 0) ∧ Below w0.heap.size w0 (w1.alloc (.cells #[.slice (some ⟨w0.heap.size, 0, none⟩) c c] t)) := by
  have hlt := (hown.lt w0.heap.size rfl).2
  obtain ⟨-, h | ⟨g, cap, cur, he, -, hcell, -, -, hsz, htk⟩⟩ := hown
  · simp at h
  · simp at he; obtain ⟨rfl, rfl⟩ := he
    refine ⟨⟨?_, ?_, by omega, ?_, by simpa using hc⟩, ?_⟩
    · rw [heap_alloc_new]; simp
    · rw [Below.heap_alloc _ _ _ hlt, hcell]
      rw [toList_madeCells_one] at htk
      have : cur = (List.replicate c (Value.int .u8 0)).toArray := by
        rw [← htk]; apply Array.ext'; simp; rw [List.take_of_length_le]; simp [hsz]
      rw [this]; simp
    · intro b hb; rw [List.mem_replicate] at hb; omega
    · exact ((Below.refl _ _).grown hg (Nat.le_refl _) (by simp)).alloc (by have := hg.size; omega) _
structure MadeAt (t : TypeId) (w : World) (c h g : Nat) (e : Ending) (w' : World) : Prop where
  e : e = .returned (.pointer (some ⟨h, 0, none⟩))
  m : Mem t w' h g (List.replicate c 0)
  lh : w.heap.size ≤ h
  lg : w.heap.size ≤ g
  b : Below w.heap.size w w'
def Made (t : TypeId) (w : World) (c : Nat) (e : Ending) (w' : World) : Prop := ∃ h g, MadeAt t w c h g e w'
theorem new_says (n : Int) (w : World) : Calls Try.prog 17 #[i64 n] w fun e w' => Made 61 w (pg n * 4096) e w' := by
  obtain ⟨i, hi, hz0, hz1, hz2⟩ := info_parts info_u8
  have hp := pg_le n
  go_enter Try.func17, Try.ntmps17
  go_wp2_with (at_make; refine wpList_make_full _ rfl _ _ 57 rfl w.heap.size 5 i _ 1 Try.underlying57 hi hz0 hz1 _ _ _ _ (pg n * 4096) rfl rfl (by unfold pg; simp; omega) (by unfold pg; simp; omega) (by rw [hz2]; omega) (by unfold maxLen; omega) (Nat.le_refl _) ?_; intro w1 hown hgrow; rw [Nat.mul_one, show (Value.int IntKind.u8 0).cells = #[Value.int IntKind.u8 0] from rfl] at hown)
  all_goals
    go_ret
    have hm := mem_made (t := 61) (c := pg n * 4096) (by omega) hown hgrow
    exact ⟨_, _, rfl, hm.1, hgrow.size, Nat.le_refl _, hm.2⟩
theorem rnew_says (n : Int) (w : World) : Calls Try.prog 18 #[i64 n] w fun e w' => Made 63 w (pg n * 4096) e w' := by
  obtain ⟨i, hi, hz0, hz1, hz2⟩ := info_parts info_u8
  have hp := pg_le n
  go_enter Try.func18, Try.ntmps18
  go_wp2_with (at_make; refine wpList_make_full _ rfl _ _ 57 rfl w.heap.size 5 i _ 1 Try.underlying57 hi hz0 hz1 _ _ _ _ (pg n * 4096) rfl rfl (by unfold pg; simp; omega) (by unfold pg; simp; omega) (by rw [hz2]; omega) (by unfold maxLen; omega) (Nat.le_refl _) ?_; intro w1 hown hgrow; rw [Nat.mul_one, show (Value.int IntKind.u8 0).cells = #[Value.int IntKind.u8 0] from rfl] at hown)
  all_goals
    go_ret
    have hm := mem_made (t := 63) (c := pg n * 4096) (by omega) hown hgrow
    exact ⟨_, _, rfl, hm.1, hgrow.size, Nat.le_refl _, hm.2⟩
/-- What cut answers of n bytes from a on. -/
def cutV (g L : Nat) (a n : Int) (v : Value) : Prop :=
  (¬ fitm L a n ∧ v = .slice none 0 0) ∨ (fitm L a n ∧ ∃ p : Option Addr, v = .slice p n.toNat n.toNat ∧ (0 < n → p = some ⟨g, a.toNat, none⟩))
def CutP (g L : Nat) (a n : Int) (w : World) (e : Ending) (w' : World) : Prop :=
  ∃ v, e = .returned (.tuple #[v, .bool (decide (fitm L a n))]) ∧ cutV g L a n v ∧ w = w'
theorem cutP_no {g L : Nat} {a n : Int} {w : World} (hf : ¬ fitm L a n) : CutP g L a n w (.returned (.tuple #[.slice none 0 0, .bool false])) w :=
  ⟨_, by simp [hf], .inl ⟨hf, rfl⟩, rfl⟩
theorem cutP_yes {g L : Nat} {a n : Int} {w : World} (p : Option Addr) (hf : fitm L a n) (hp : 0 < n → p = some ⟨g, a.toNat, none⟩) : CutP g L a n w (.returned (.tuple #[.slice p n.toNat n.toNat, .bool true])) w :=
  ⟨_, by simp [hf], .inr ⟨hf, p, rfl, hp⟩, rfl⟩
theorem cut_says {w : World} {h g : Nat} {bs : List Int} (hm : Mem 61 w h g bs) (a n : Int) (ha : -9223372036854775808 ≤ a ∧ a ≤ 9223372036854775807) (hn : -9223372036854775808 ≤ n ∧ n ≤ 9223372036854775807) :
    Calls Try.prog 29 #[.pointer (some ⟨h, 0, none⟩), i64 a, i64 n] w (CutP g bs.length a n w) := by
  have hc := cell_of_row w h 0 _ _ _ hm.hd
  have hl := hm.le
  go_enter Try.func29, Try.ntmps29
  go_wp2
  all_goals
    go_ret2
    first
      | exact cutP_no (by unfold fitm; omega)
      | exact cutP_yes _ (by unfold fitm; omega) (fun _ => by first | rfl | omega)
/-- What cell answers. -/
def CellP (g L : Nat) (a s : Int) (w : World) (e : Ending) (w' : World) : Prop :=
  ((¬ okc L a s ∧ e = .returned (.tuple #[.slice none 0 0, .bool false])) ∨ (okc L a s ∧ e = .returned (.tuple #[.slice (some ⟨g, a.toNat, none⟩) s.toNat s.toNat, .bool true]))) ∧ w = w'
theorem CutP.cell {g L : Nat} {a s : Int} {w w' : World} {e : Ending} (h : CutP g L a s w e w') (hs : s = 1 ∨ s = 2 ∨ s = 4) (ha : a % s = 0) : CellP g L a s w e w' := by
  obtain ⟨v, rfl, hv, rfl⟩ := h
  refine ⟨?_, rfl⟩
  rcases hv with ⟨hf, rfl⟩ | ⟨hf, p, rfl, hp⟩
  · exact .inl ⟨fun h => hf h.2.2, by simp [hf]⟩
  · rw [hp (by omega)]
    exact .inr ⟨⟨hs, ha, hf⟩, by simp [hf]⟩
theorem cell_says {w : World} {h g : Nat} {bs : List Int} (hm : Mem 61 w h g bs) (a s : Int) (ha : -9223372036854775808 ≤ a ∧ a ≤ 9223372036854775807) :
    Calls Try.prog 28 #[.pointer (some ⟨h, 0, none⟩), i64 a, i64 s] w (CellP g bs.length a s w) := by
  have e0 : bits .and .i64 a 0 = a % 1 := i64_mask a 0 (by decide)
  have e1 : bits .and .i64 a 1 = a % 2 := i64_mask a 1 (by decide)
  have e3 : bits .and .i64 a 3 = a % 4 := i64_mask a 2 (by decide)
  have hs : s = 1 ∨ s = 2 ∨ s = 4 ∨ (¬ s = 1 ∧ ¬ s = 2 ∧ ¬ s = 4) := by omega
  rcases hs with rfl | rfl | rfl | ⟨h1, h2, h4⟩
  iterate 3
    · go_enter Try.func28, Try.ntmps28
      go_wp2_with (go_at_call 29; go_loud (refine (cut_says hm a _ ha (by omega)).mono ?_); intro e w' hp; have hp := hp.cell (by omega) (by first | omega | exact eq_of_beq (by assumption)); obtain ⟨⟨hk, rfl⟩ | ⟨hk, rfl⟩, rfl⟩ := hp)
      all_goals
        go_ret2
        first
          | exact ⟨.inl ⟨hk, rfl⟩, rfl⟩
          | exact ⟨.inr ⟨hk, rfl⟩, rfl⟩
          | exact ⟨.inl ⟨fun hk => by have h2 := hk.2.1; have h3 := ne_of_beq_false ‹_›; exact h3 h2, rfl⟩, rfl⟩
  · go_enter Try.func28, Try.ntmps28
    go_wp2
    go_ret2
    exact ⟨.inl ⟨fun hk => by have := hk.1; omega, rfl⟩, rfl⟩
/-- Where a loop reads: cells of a memory. -/
theorem Mem.cell {t : TypeId} {w : World} {h g : Nat} {bs : List Int} (hm : Mem t w h g bs) (i : Nat) (hi : i < bs.length) : w.cell? ⟨g, i, none⟩ = some (.int .u8 (bs.getD i 0)) := by
  rw [cell_of_row w g i _ _ _ hm.ce]
  simp [hi]
def LoadP (bs : List Int) (a s : Int) (w : World) (e : Ending) (w' : World) : Prop := e = .returned (.tuple #[i64 (ldv bs a s), .bool (decide (okc bs.length a s))]) ∧ w = w'
theorem load_says {w : World} {h g : Nat} {bs : List Int} (hm : Mem 61 w h g bs) (a s : Int) (ha : -9223372036854775808 ≤ a ∧ a ≤ 9223372036854775807) :
    Calls Try.prog 45 #[.pointer (some ⟨h, 0, none⟩), i64 a, i64 s] w (LoadP bs a s w) := by
  by_cases hk : okc bs.length a s
  · obtain ⟨h0, h1, h2⟩ := hk.2.2
    obtain ⟨o, rfl⟩ := Int.eq_ofNat_of_zero_le h0
    obtain ⟨n, rfl⟩ := Int.eq_ofNat_of_zero_le h1
    have hb0 := byt_getD hm.byt
    have hL : o + n ≤ bs.length := by omega
    have hn4 : n ≤ 4 := by have := hk.1; omega
    obtain ⟨xs, hxs⟩ : ∃ xs, xs = (bs.drop o).take n := ⟨_, rfl⟩
    obtain ⟨r, hr⟩ : ∃ r, r = LoadP bs o n w := ⟨_, rfl⟩
    rw [← hr]
    have hout : r (.returned (.tuple #[i64 (lev xs), .bool true])) w := by rw [hr, hxs]; unfold LoadP ldv; rw [if_pos hk]; simp [hk]
    go_enter Try.func45, Try.ntmps45
    go_wp2_with (go_at_call 28; refine (cell_says hm _ _ ha).mono ?_; intro e w' hp; obtain ⟨⟨hk', rfl⟩ | ⟨hk', rfl⟩, rfl⟩ := hp; exact absurd hk hk')
    go_loop [10, 22] (fun v i => ∃ k : Nat, k ≤ n ∧ i = .int .i64 k ∧ v = .int .i64 (lev (xs.take k))) (fun _ i => n - (intOf i).toNat)
    case atStart => exact ⟨0, Nat.zero_le _, rfl, rfl⟩
    case round =>
      obtain ⟨k, hk, rfl, rfl⟩ := hrel
      obtain ⟨b, hb⟩ : ∃ b, b = bs.getD (o + k) 0 := ⟨_, rfl⟩
      have hcell : k < n → w.cell? ⟨g, o + k, none⟩ = some (.int .u8 b) := fun _ => by rw [hb]; exact hm.cell _ (by omega)
      have hb1 := hb0 (o + k)
      rw [← hb] at hb1
      have hxk : k < n → b = xs.getD k 0 := fun h => by rw [hb, hxs, getD_drop_take _ _ _ _ h]
      have hxl : xs.length = n := by rw [hxs]; simp; omega
      have hxB : Byt xs := by rw [hxs]; exact byt_take (byt_drop hm.byt _) _
      clear hm hb0 hr hxs hb
      have HK := Lib.hid hxk; have HL := Lib.hid hxl; clear hxk hxl
      go_wp2
      · have hlt : k < n := by assumption
        go_round
        case rel => exact ⟨k + 1, hlt, by go_num, by rw [load_step hxB k (by have := HL.out; omega) (by have := HL.out; omega) b (HK.out hlt)]⟩
        case measure => simp [intOf]; omega
      · have hkn : k = n := by omega
        have e : xs.take k = xs := List.take_of_length_le (by have := HL.out; omega)
        rw [e]; exact hout
  · have hout : LoadP bs a s w (.returned (.tuple #[i64 0, .bool false])) w := by unfold LoadP ldv; rw [if_neg hk]; simp [hk]
    obtain ⟨r, hr⟩ : ∃ r, r = LoadP bs a s w := ⟨_, rfl⟩
    rw [← hr] at hout ⊢; clear hr
    go_enter Try.func45, Try.ntmps45
    go_wp2_with (go_at_call 28; refine (cell_says hm _ _ ha).mono ?_; intro e w' hp; obtain ⟨⟨hk', rfl⟩ | ⟨hk', rfl⟩, rfl⟩ := hp; rotate_left; exact absurd hk' hk)
    go_loop [10, 22] (fun v i => i = .int .i64 0 ∧ v = .int .i64 0) (fun _ i => 0)
    case atStart => exact ⟨rfl, rfl⟩
    case round =>
      obtain ⟨rfl, rfl⟩ := hrel
      go_wp2
      exact hout
/-- Block g alone has turned. -/
structure Only (g : Nat) (w w' : World) : Prop where
  os : w'.os = w.os
  tape : w'.tape = w.tape
  output : w'.output = w.output
  size : w'.heap.size = w.heap.size
  block : ∀ k, k ≠ g → w'.heap[k]? = w.heap[k]?
theorem Only.refl (g : Nat) (w : World) : Only g w w := ⟨rfl, rfl, rfl, rfl, fun _ _ => rfl⟩
theorem Only.setCell {g : Nat} {w w' : World} (h : Only g w w') (j : Nat) (v : Value) : Only g w (w'.setCell ⟨g, j, none⟩ v) :=
  ⟨h.os, h.tape, h.output, by simpa [World.setCell] using h.size, fun k hk => by rw [Below.heap_setCell _ _ _ _ hk]; exact h.block k hk⟩
theorem Only.below {g B : Nat} {w w' : World} (h : Only g w w') (hB : B ≤ g) : Below B w w' :=
  ⟨h.os, h.tape, h.output, by rw [h.size]; exact Nat.le_refl _, fun k hk => h.block k (by omega)⟩
theorem Mem.lt {t : TypeId} {w : World} {h g : Nat} {bs : List Int} (hm : Mem t w h g bs) : h < w.heap.size ∧ g < w.heap.size :=
  ⟨(Array.getElem?_eq_some_iff.1 hm.hd).1, (Array.getElem?_eq_some_iff.1 hm.ce).1⟩
theorem Mem.below {t : TypeId} {w w' : World} {h g B : Nat} {bs : List Int} (hm : Mem t w h g bs) (hb : Below B w w') (h1 : h < B) (h2 : g < B) : Mem t w' h g bs :=
  ⟨by rw [hb.block h h1]; exact hm.hd, by rw [hb.block g h2]; exact hm.ce, hm.ne, hm.byt, hm.le⟩
theorem Mem.grow {t : TypeId} {w w' : World} {h g : Nat} {bs : List Int} (hm : Mem t w h g bs) (hb : Below w.heap.size w w') : Mem t w' h g bs := hm.below hb hm.lt.1 hm.lt.2
theorem Mem.only {t : TypeId} {w w' : World} {h g g' : Nat} {bs : List Int} (hm : Mem t w h g bs) (ho : Only g' w w') (h1 : h ≠ g') (h2 : g ≠ g') : Mem t w' h g bs :=
  ⟨by rw [ho.block h h1]; exact hm.hd, by rw [ho.block g h2]; exact hm.ce, hm.ne, hm.byt, hm.le⟩
theorem Mem.set {t : TypeId} {w : World} {h g : Nat} {bs : List Int} (hm : Mem t w h g bs) (j : Nat) (b : Int) (hb : 0 ≤ b ∧ b < 256) : Mem t (w.setCell ⟨g, j, none⟩ (.int .u8 b)) h g (bs.set j b) := by
  refine ⟨?_, ?_, hm.ne, byt_set hm.byt _ _ hb, by simpa using hm.le⟩
  · rw [Below.heap_setCell _ _ _ _ hm.ne]; simpa using hm.hd
  · simp only [World.setCell, Array.getElem?_modify, if_true, hm.ce, Option.map_some]
    simp
theorem Mem.frozen {t : TypeId} {w : World} {h g : Nat} {bs : List Int} (hm : Mem t w h g bs) (j : Nat) : w.frozen? ⟨g, j, none⟩ = false := by
  simp [World.frozen?, hm.ce]
/-- Store. -/
def StoreP (h g : Nat) (bs : List Int) (a s v : Int) (w : World) (e : Ending) (w' : World) : Prop :=
  e = .returned (.bool (decide (okc bs.length a s))) ∧ Mem 61 w' h g (stv bs a s v) ∧ Only g w w'
theorem store_says {w : World} {h g : Nat} {bs : List Int} (hm : Mem 61 w h g bs) (a s v : Int) (ha : -9223372036854775808 ≤ a ∧ a ≤ 9223372036854775807) :
    Calls Try.prog 16 #[.pointer (some ⟨h, 0, none⟩), i64 a, i64 s, i64 v] w (StoreP h g bs a s v w) := by
  by_cases hk : okc bs.length a s
  · obtain ⟨h0, h1, h2⟩ := hk.2.2
    obtain ⟨o, rfl⟩ := Int.eq_ofNat_of_zero_le h0
    obtain ⟨n, rfl⟩ := Int.eq_ofNat_of_zero_le h1
    have hL : o + n ≤ bs.length := by omega
    have hn4 : n ≤ 4 := by have := hk.1; omega
    obtain ⟨r, hr⟩ : ∃ r, r = StoreP h g bs o n v w := ⟨_, rfl⟩
    rw [← hr]
    have hout : ∀ w', Mem 61 w' h g (stN bs o v n) → Only g w w' → r (.returned (.bool true)) w' := by
      intro w' h1 h2; rw [hr]; exact ⟨by simp [hk], by unfold stv; rw [if_pos hk]; exact h1, h2⟩
    go_enter Try.func16, Try.ntmps16
    go_wp2_with (go_at_call 28; refine (cell_says hm _ _ ha).mono ?_; intro e w' hp; obtain ⟨⟨hk', rfl⟩ | ⟨hk', rfl⟩, rfl⟩ := hp; exact absurd hk hk')
    go_loopw [21] (fun i wr => ∃ k : Nat, k ≤ n ∧ i = .int .i64 k ∧ Mem 61 wr h g (stN bs o v k) ∧ Only g w wr) (fun i _ => n - (intOf i).toNat)
    case atStart => exact ⟨0, Nat.zero_le _, rfl, hm, Only.refl _ _⟩
    case round =>
      obtain ⟨k, hk, rfl, hmr, hor⟩ := hrel
      obtain ⟨b, hb⟩ : ∃ b, b = (stN bs o v k).getD (o + k) 0 := ⟨_, rfl⟩
      have hcell : k < n → wr.cell? ⟨g, o + k, none⟩ = some (.int .u8 b) := fun _ => by rw [hb]; exact hmr.cell _ (by rw [stN_length]; omega)
      have hfr := hmr.frozen (o + k)
      clear hm hr hb
      go_wp2
      · have hlt : k < n := by assumption
        go_roundw
        case rel => exact ⟨k + 1, hlt, by go_num, by rw [p256]; exact hmr.set _ _ (by omega), hor.setCell _ _⟩
        case measure => simp [intOf]; omega
      · have hkn : k = n := by omega
        subst hkn
        exact hout _ hmr hor
  · have hout : StoreP h g bs a s v w (.returned (.bool false)) w := ⟨by simp [hk], by unfold stv; rw [if_neg hk]; exact hm, Only.refl _ _⟩
    obtain ⟨r, hr⟩ : ∃ r, r = StoreP h g bs a s v w := ⟨_, rfl⟩
    rw [← hr] at hout ⊢; clear hr
    go_enter Try.func16, Try.ntmps16
    go_wp2_with (go_at_call 28; refine (cell_says hm _ _ ha).mono ?_; intro e w' hp; obtain ⟨⟨hk', rfl⟩ | ⟨hk', rfl⟩, rfl⟩ := hp; rotate_left; exact absurd hk' hk)
    go_loop [21] (fun i => i = .int .i64 0) (fun _ => 0)
    case atStart => rfl
    case round =>
      obtain rfl := hrel
      go_wp2
      exact hout
/-- What Get answers: bytes of the call's own. -/
def GetP (xs : List Int) (w : World) (e : Ending) (w' : World) : Prop :=
  ∃ v, e = .returned v ∧ w'.ownsRow w.heap.size 5 1 v xs.length (u8L xs) ∧ w.grownBy w' none
def getL (bs : List Int) (a n : Int) : List Int := if fitm bs.length a n then (bs.drop a.toNat).take n.toNat else []
theorem getL_in (bs : List Int) (o n : Nat) (h : o + n ≤ bs.length) : (getL bs o n).length = n ∧ getL bs o n = (bs.drop o).take n := by
  unfold getL; rw [if_pos (by unfold fitm; omega)]; simp; omega
theorem Mem.cells {t : TypeId} {w : World} {h g : Nat} {bs : List Int} (hm : Mem t w h g bs) (o n : Nat) : ∀ j u, (u8L ((bs.drop o).take n))[j]? = some u → w.cell? ((⟨g, o, none⟩ : Addr).add j) = some u := by
  intro j u hu
  have hj : j < ((bs.drop o).take n).length := by
    have := (List.getElem?_eq_some_iff.1 hu).1; simpa using this
  have hj' : j < n ∧ o + j < bs.length := by rw [List.length_take, List.length_drop] at hj; omega
  rw [Addr.add_lit, hm.cell _ hj'.2]
  simp [hj'.1, List.getElem?_eq_getElem hj'.2] at hu
  simp [List.getElem?_eq_getElem hj'.2, hu]
theorem u8_one (xs : List Int) : ∀ u ∈ u8L xs, u.oneCell' = true := by
  intro u hu; obtain ⟨_, _, rfl⟩ := List.mem_map.1 hu; rfl
theorem getP_none (w : World) : GetP [] w (.returned (.slice none 0 0)) w := ⟨_, rfl, World.ownsRow_nil _ _ _ _, World.grownBy.refl _ _⟩
theorem setRow_only (w : World) (g : Nat) (cs : Array Value) : Only g w (w.setRow g cs) :=
  ⟨rfl, rfl, rfl, by simp [World.setRow], fun k hk => setRow_other w g k cs hk⟩
/-- Bytes that are handed in. -/
structure Src8 (w : World) (sp : Option Addr) (xs : List Int) : Prop where
  byt : Byt xs
  at_ : 0 < xs.length → ∃ ad, sp = some ad ∧ ∀ j u, (u8L xs)[j]? = some u → w.cell? (ad.add j) = some u
def putL (bs : List Int) (a : Int) (xs : List Int) : List Int := if fitm bs.length a xs.length then splice bs a.toNat xs else bs
theorem Byt.splice {bs xs : List Int} (hb : Byt bs) (hx : Byt xs) (o : Nat) : Byt (splice bs o xs) := by
  intro b h
  unfold Go.splice at h
  rcases List.mem_append.1 h with h | h
  · exact hb b (List.mem_of_mem_take h)
  · rcases List.mem_append.1 h with h | h
    · exact hx b h
    · exact hb b (List.mem_of_mem_drop h)
theorem Mem.put {t : TypeId} {w : World} {h g : Nat} {bs : List Int} (hm : Mem t w h g bs) {xs : List Int} (hx : Byt xs) (o : Nat) (hL : o + xs.length ≤ bs.length) :
    Mem t (w.setRow g ((u8L bs).toArray.toList.take o ++ (u8L xs ++ (u8L bs).toArray.toList.drop (o + (u8L xs).length))).toArray) h g (splice bs o xs) := by
  refine ⟨?_, ?_, hm.ne, hm.byt.splice hx o, by rw [length_splice _ _ _ hL]; exact hm.le⟩
  · rw [setRow_other _ _ _ _ hm.ne, length_splice _ _ _ hL]; exact hm.hd
  · rw [setRow_heap w g _ _ _ _ hm.ce]
    simp [splice, List.map_take, List.map_drop]
def PutP (t : TypeId) (h g : Nat) (bs : List Int) (a : Int) (xs : List Int) (w : World) (e : Ending) (w' : World) : Prop :=
  e = .returned (.bool (decide (fitm bs.length a xs.length))) ∧ Mem t w' h g (putL bs a xs) ∧ Only g w w'
theorem size_u8 : (Try.prog.info? 5).map (·.size) = some 1 := by kernel_rfl
end Go.Proofs.Ytfodhmgbifeodaa
