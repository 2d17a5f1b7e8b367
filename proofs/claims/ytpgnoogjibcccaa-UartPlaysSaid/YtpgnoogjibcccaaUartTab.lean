
/-
  Package uart: the table of offsets; write.
-/
import Derived.Test.YtpgnoogjibcccaaUart
namespace Go.Proofs.Ytpgnoogjibcccaa.Ser
open Go.Proofs.Ytpgnoogjibcccaa
open Go.ChangeShapes Go.WideShapes Go.ChangeAt Go.RowKit
theorem UaAt.wrote {w w1 : World} {h : Nat} {rx tx ring : List Int} {f : Nat} {v v' : Value} (U : UaAt w h rx tx ring f v) (x : Int) (o : Obj) (hown : Own w1 0 v' (tx ++ [x % 256])) (hg : (w.alloc o).grownBy w1 v.ownBlock) (hv : ∀ g, v'.ownBlock = some g → v.ownBlock = some g ∨ (w.alloc o).heap.size ≤ g) :
    w1.cell? ⟨h, 18, none⟩ = some v ∧ w1.frozen? ⟨h, 18, none⟩ = false ∧ Step (fun i => i = h ∨ v.ownBlock = some i) (Ua h rx (ust tx 0 x)) w (w1.setCell ⟨h, 18, none⟩ v') := by
  have hlt : h < w.heap.size := (Array.getElem?_eq_some_iff.1 U.hd).1
  have hsz : (w.alloc o).heap.size = w.heap.size + 1 := by simp
  have hd1 : w1.heap[h]? = some (.cells (uc ring f rx.length v) 28 (0, 0)) := by
    rw [hg.block h (by omega) U.ne.symm, Below.heap_alloc _ _ _ hlt]; exact U.hd
  have b1 : But (fun i => i = h ∨ v.ownBlock = some i) w w1 := ((But.refl _ w).alloc o).grown hg fun k hk => .inr hk
  have hd2 := setCell_row hd1 18 v'
  rw [uc_18 U.rl] at hd2
  have he : ust tx 0 x = tx ++ [x % 256] := by unfold ust; rw [if_pos rfl]
  have hbt := ust_byts U.byt 0 x
  rw [he] at hbt ⊢
  have hne : v'.ownBlock ≠ some h := by
    intro e
    rcases hv h e with h1 | h1
    · exact U.ne h1
    · omega
  refine ⟨by rw [cell_of_row w1 h 18 _ _ _ hd1]; simp [uc, U.rl], by simp [World.frozen?, hd1], fun i => i = h ∨ v'.ownBlock = some i, ⟨ring, f, v', ⟨hd2, U.rl, U.fl, U.rg, U.le, U.byr, hbt, own_cell_off hown hne _ _, hne⟩, rfl⟩, ?_, b1.setCell _ (.inl rfl) _⟩
  rintro i (rfl | hi)
  · exact .inl (.inl rfl)
  · rcases hv i hi with h1 | h1
    · exact .inl (.inr h1)
    · exact .inr (by omega)
theorem src_one (w : World) (b : Int) : Src (w.alloc (.cells #[.int .u8 b] 5)) (some ⟨w.heap.size, 0, none⟩) [b] := by
  intro _
  refine ⟨_, rfl, fun j u hu => ?_⟩
  rw [Addr.add_lit, Nat.zero_add, cell_of_row _ w.heap.size j _ _ _ (by rw [heap_alloc_new])]
  simpa using hu
theorem write_says (h : Nat) (rx tx : List Int) (x : Int) (hl : tx.length < 100000) : Turns 18 #[.pointer (some ⟨h, 0, none⟩), i64 x] (.returned (.tuple #[])) (Ua h rx tx) (Ua h rx (ust tx 0 x)) := by
  rintro w F ⟨ring, f, v, U, rfl⟩
  have c18 := U.c18
  obtain ⟨r, hr⟩ : ∃ r : Ending → World → Prop, r = fun e w' => e = .returned (.tuple #[]) ∧ Step (fun i => i = h ∨ v.ownBlock = some i) (Ua h rx (ust tx 0 x)) w w' := ⟨_, rfl⟩
  rw [← hr]
  have K : ∀ v' w1, Own w1 0 v' (tx ++ [x % 256]) → (w.alloc (.cells #[.int .u8 (x % 256)] 5)).grownBy w1 v.ownBlock → (∀ g, v'.ownBlock = some g → v.ownBlock = some g ∨ (w.alloc (.cells #[.int .u8 (x % 256)] 5)).heap.size ≤ g) →
      w1.cell? ⟨h, 18, none⟩ = some v ∧ w1.frozen? ⟨h, 18, none⟩ = false ∧ r (.returned (.tuple #[])) (w1.setCell ⟨h, 18, none⟩ v') := by
    intro v' w1 h1 h2 h3
    obtain ⟨d1, d2, d3⟩ := U.wrote x _ h1 h2 h3
    exact ⟨d1, d2, by rw [hr]; exact ⟨rfl, d3⟩⟩
  have own1 : Own (w.alloc (.cells #[.int .u8 (x % 256)] 5)) 0 v tx := own_kept U.own fun g hg => Below.heap_alloc _ _ _ (U.own.lt g hg).2
  have hs := src_one w (x % 256)
  have HK := Lib.hid K; have HO := Lib.hid own1; have HS := Lib.hid hs; have HL := Lib.hid hl
  clear K own1 hs hr U hl
  go_enter Try.func18, Try.ntmps18
  go_wp2_with (at_builtin; (refine wpList_app rfl _ _ rfl (Nat.zero_le _) (v1 := v) (R1 := tx) rfl HO.out [x % 256] rfl rfl (fun e => by cases e) HS.out (by have := HL.out; omega) ?_; intro v' w1 k1 k2 k3; obtain ⟨p', c', e', -⟩ := own_form k1; obtain ⟨n', hn'⟩ : ∃ n, n = (tx ++ [x % 256]).length := ⟨_, rfl⟩; rw [← hn'] at e'; subst e'; obtain ⟨d1, d2, d3⟩ := HK.out _ w1 k1 k2 k3; have d3 := Lib.hid d3; clear k1 k2 k3 hn'))
  go_end0
  exact d3.out
abbrev tab : Value := .agg #[Value.func (.func 17) #[] #[], Value.func (.func 18) #[] #[], Value.func (.func 19) #[] #[], Value.func (.func 20) #[] #[], Value.func (.func 13) #[] #[], Value.func (.func 20) #[] #[]]
theorem tab_0 (w : World) : (Instr.index 51 tab (i64 0)).run Try.prog w = .ok (.agg #[Value.func (.func 17) #[] #[], Value.func (.func 18) #[] #[]]) w := by kernel_rfl
theorem tab_1 (w : World) : (Instr.index 51 tab (i64 1)).run Try.prog w = .ok (.agg #[Value.func (.func 19) #[] #[], Value.func (.func 20) #[] #[]]) w := by kernel_rfl
theorem tab_2 (w : World) : (Instr.index 51 tab (i64 2)).run Try.prog w = .ok (.agg #[Value.func (.func 13) #[] #[], Value.func (.func 20) #[] #[]]) w := by kernel_rfl
theorem at_0 (w : World) : Calls Try.prog 15 #[i64 0] w fun e w' => e = .returned (.tuple #[.agg #[Value.func (.func 17) #[] #[], Value.func (.func 18) #[] #[]], .bool true]) ∧ Below w.heap.size w w' := by
  have ht := tab_0
  go_enter Try.func15, Try.ntmps15
  go_wp2
  exact bodyPost_ret (v := .tuple #[.agg #[Value.func (.func 17) #[] #[], Value.func (.func 18) #[] #[]], .bool true]) (by simp [results, Try.results15, go_sem]) rfl ⟨rfl, (Below.refl _ _).alloc (Nat.le_refl _) _⟩
theorem at_4 (w : World) : Calls Try.prog 15 #[i64 4] w fun e w' => e = .returned (.tuple #[.agg #[Value.func (.func 19) #[] #[], Value.func (.func 20) #[] #[]], .bool true]) ∧ Below w.heap.size w w' := by
  have ht := tab_1
  go_enter Try.func15, Try.ntmps15
  go_wp2
  exact bodyPost_ret (v := .tuple #[.agg #[Value.func (.func 19) #[] #[], Value.func (.func 20) #[] #[]], .bool true]) (by simp [results, Try.results15, go_sem]) rfl ⟨rfl, (Below.refl _ _).alloc (Nat.le_refl _) _⟩
theorem at_8 (w : World) : Calls Try.prog 15 #[i64 8] w fun e w' => e = .returned (.tuple #[.agg #[Value.func (.func 13) #[] #[], Value.func (.func 20) #[] #[]], .bool true]) ∧ Below w.heap.size w w' := by
  have ht := tab_2
  go_enter Try.func15, Try.ntmps15
  go_wp2
  exact bodyPost_ret (v := .tuple #[.agg #[Value.func (.func 13) #[] #[], Value.func (.func 20) #[] #[]], .bool true]) (by simp [results, Try.results15, go_sem]) rfl ⟨rfl, (Below.refl _ _).alloc (Nat.le_refl _) _⟩
theorem at_no (off : Int) (ho : -9223372036854775808 ≤ off ∧ off ≤ 9223372036854775807) (h0 : off ≠ 0) (h4 : off ≠ 4) (h8 : off ≠ 8) (w : World) : Calls Try.prog 15 #[i64 off] w fun e w' => e = .returned (.tuple #[.agg #[.nilFunc, .nilFunc], .bool false]) ∧ Below w.heap.size w w' := by
  go_enter Try.func15, Try.ntmps15
  go_wp2
  all_goals first
    | exact bodyPost_ret (v := .tuple #[.agg #[.nilFunc, .nilFunc], .bool false]) (by simp [results, Try.results15, go_sem]) rfl ⟨rfl, (Below.refl _ _).alloc (Nat.le_refl _) _⟩
    | (exfalso; have h := ‹_ ∧ (off % 4 != 0) = false›; simp at h; omega)
    | (exfalso; omega)
end Go.Proofs.Ytpgnoogjibcccaa.Ser
