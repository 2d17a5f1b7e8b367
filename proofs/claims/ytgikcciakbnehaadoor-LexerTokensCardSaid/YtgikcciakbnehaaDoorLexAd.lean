
/-
  Package lexer: add.
-/
import Derived.Test.YtgikcciakbnehaaDoorLexRd
set_option maxRecDepth 100000
namespace Go.Proofs.YtgikcciakbnehaaDoor.Lex
open Go.Proofs.YtgikcciakbnehaaDoor Go.Proofs.YtgikcciakbnehaaDoor.Ser
open Go.ChangeShapes Go.WideShapes Go.ChangeAt Go.RowKit
section
variable {w : World} {B h g q k : Nat} {L : List Int} {l c : Int} {v : Value} {T : List Tok}
set_option maxRecDepth 100000 in
set_option maxHeartbeats 2000000 in
theorem add_says (R : Rd w B h g q L k l c v T) (fl fc kind n : Int) (s : ByteArray) (hn : T.length ≤ 1000000) (hB : B ≤ w.heap.size) : Calls Tryd.prog 13 #[.pointer (some ⟨h, 0, none⟩), .agg #[i64 fl, i64 fc], i64 kind, .string s, i64 n] w fun e w' => e = .returned (.tuple #[]) ∧ ∃ v', Rd w' B h g q L k l c v' (T ++ [⟨kind, s, n, fl, fc⟩]) ∧ But (fun i => i = h ∨ v.ownBlock = some i) w w' ∧ NewOwn w v v' := by
  obtain ⟨r, hr⟩ : ∃ r : Ending → World → Prop, r = fun e w' => e = .returned (.tuple #[]) ∧ ∃ v', Rd w' B h g q L k l c v' (T ++ [⟨kind, s, n, fl, fc⟩]) ∧ But (fun i => i = h ∨ v.ownBlock = some i) w w' ∧ NewOwn w v v' := ⟨_, rfl⟩
  rw [← hr]
  obtain ⟨wk, hwk⟩ : ∃ wk, wk = w.alloc (.cells #[i64 fl, i64 fc] 40) := ⟨_, rfl⟩
  have b0 : But (fun _ => False) w wk := by rw [hwk]; exact (But.refl _ w).alloc _
  have R0 := R.later b0
  have s0 : wk.heap.size = w.heap.size + 1 := by rw [hwk]; simp
  have p0 : wk.cell? ⟨w.heap.size, 0, none⟩ = some (i64 fl) := by rw [hwk, cell_of_row _ w.heap.size 0 _ _ _ (MapKept.heap_alloc w _).1]; rfl
  have p1 : wk.cell? ⟨w.heap.size, 1, none⟩ = some (i64 fc) := by rw [hwk, cell_of_row _ w.heap.size 1 _ _ _ (MapKept.heap_alloc w _).1]; rfl
  have c4 := R0.c4
  have HR := Lib.hid R0
  have HN := Lib.hid hn
  have HB := Lib.hid (show B ≤ wk.heap.size by omega)
  have hout : ∀ (v' : Value) (u : World), OwnT u B v' (T ++ [⟨kind, s, n, fl, fc⟩]) → But (fun i => v.ownBlock = some i) wk u → (v'.ownBlock = v.ownBlock ∨ ∃ i, v'.ownBlock = some i ∧ wk.heap.size ≤ i) → r (.returned (.tuple #[])) (u.setCell ⟨h, 4, none⟩ v') := by
    intro v' u h1 h2 h3
    obtain ⟨R1, b1⟩ := R0.put h2 h3 h1
    rw [hr]
    exact ⟨rfl, v', R1, b0.then b1 (fun _ h => h.elim) (fun _ _ h => h), h3.imp id fun ⟨i, e, hi⟩ => ⟨i, e, by omega⟩⟩
  have HO := Lib.hid hout
  have HX := Lib.hid (show ∀ j u, (tcell ⟨kind, s, n, fl, fc⟩)[j]? = some u → ((wk.alloc (.cells #[i64 kind, .string s, i64 n, i64 fl, i64 fc] 28)).drew).cell? ((⟨w.heap.size + 1, 0, none⟩ : Addr).add j) = some u by rw [← s0]; exact tok_new wk ⟨kind, s, n, fl, fc⟩ 28)
  obtain ⟨p, cp, rfl, -, -, -⟩ := ownT_form R.tk
  have c4A : (wk.alloc (.cells #[i64 kind, .string s, i64 n, i64 fl, i64 fc] 28)).cell? ⟨h, 4, none⟩ = some (.slice p T.length cp) := ((But.refl (fun _ => False) wk).alloc _).cell c4 id
  go_enter Tryd.func13, Tryd.ntmps13
  go_upto_region 1 with fail
  rw [← hwk]
  clear hwk R R0 b0 hn hB hout hr
  go_region_law (refine step_appT rfl _ _ rfl (by have := HB.out; simp; omega) rfl (HR.out.later ((But.refl _ wk).alloc _).drew).tk ⟨kind, s, n, fl, fc⟩ (w.heap.size + 1) rfl HX.out HN.out ?_; intro v' u h1 h2 h3; have b2 := grown_tok h2; have e2 := b2.cell c4 HR.out.vh; have f2 := HR.out.frz b2; have k3 := Lib.hid (grown_own h3); obtain ⟨p2, m2, c2, rfl⟩ := ownT_slice h1; have k1 := Lib.hid h1; have k2 := Lib.hid b2; clear h1 h2 h3 b2)
  all_goals
    go_wp2
    go_end0
    exact HO.out _ _ k1.out k2.out k3.out
end
end Go.Proofs.YtgikcciakbnehaaDoor.Lex
