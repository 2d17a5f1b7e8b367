/-
  Contracts of Alu and of Taken (laid by mkcpu.py).
-/
import Derived.Test.YtfcmodllbhpniaaGreatDoorJnCpuOp
import Derived.Laws.Tables
import Derived.Laws.CopyOwn
set_option linter.unusedVariables false
set_option maxRecDepth 100000
namespace Go.Proofs.YtfcmodllbhpniaaGreatDoor
open Go.ChangeShapes Go.WideShapes Go.ChangeAt Go.RowKit
theorem hmf (fn : Fn) (first cap : Array Value) (w : World) : (Instr.makeFunc fn first cap).run Tryz.prog w = .ok (.func fn first cap) w := rfl
theorem eq_nil (fn : Fn) (first cap : Array Value) (w : World) : (binOp BinOp.eql 71 (.func fn first cap) .nilFunc).run Tryz.prog w = .ok (.bool false) w := rfl
theorem nil_nil (w : World) : (binOp BinOp.eql 71 .nilFunc .nilFunc).run Tryz.prog w = .ok (.bool true) w := rfl
theorem below_2 {w w1 : World} (o o2 : Obj) (h : Below ((w.alloc o).alloc o2).heap.size ((w.alloc o).alloc o2) w1) : Below w.heap.size w w1 := below_1 o (below_1 o2 h)
/-- The table of operations, laid. -/
structure Tab (x y : Int) (w wx : World) : Prop where
  b : Below w.heap.size w wx
  c0 : wx.cell? ⟨w.heap.size + 1, 0, none⟩ = some (.nilFunc)
  c1 : wx.cell? ⟨w.heap.size + 1, 1, none⟩ = some (.func (.func 144) #[opnd x y] #[])
  c2 : wx.cell? ⟨w.heap.size + 1, 2, none⟩ = some (.func (.func 145) #[opnd x y] #[])
  c3 : wx.cell? ⟨w.heap.size + 1, 3, none⟩ = some (.func (.func 146) #[opnd x y] #[])
  c4 : wx.cell? ⟨w.heap.size + 1, 4, none⟩ = some (.func (.func 147) #[opnd x y] #[])
  c5 : wx.cell? ⟨w.heap.size + 1, 5, none⟩ = some (.func (.func 148) #[opnd x y] #[])
  c6 : wx.cell? ⟨w.heap.size + 1, 6, none⟩ = some (.func (.func 149) #[opnd x y] #[])
  c7 : wx.cell? ⟨w.heap.size + 1, 7, none⟩ = some (.func (.func 150) #[opnd x y] #[])
  c8 : wx.cell? ⟨w.heap.size + 1, 8, none⟩ = some (.func (.func 151) #[opnd x y] #[])
  c9 : wx.cell? ⟨w.heap.size + 1, 9, none⟩ = some (.func (.func 152) #[opnd x y] #[])
  c10 : wx.cell? ⟨w.heap.size + 1, 10, none⟩ = some (.func (.func 153) #[opnd x y] #[])
  c11 : wx.cell? ⟨w.heap.size + 1, 11, none⟩ = some (.func (.func 154) #[opnd x y] #[])
  c12 : wx.cell? ⟨w.heap.size + 1, 12, none⟩ = some (.func (.func 155) #[opnd x y] #[])
  c13 : wx.cell? ⟨w.heap.size + 1, 13, none⟩ = some (.func (.func 156) #[opnd x y] #[])
  c14 : wx.cell? ⟨w.heap.size + 1, 14, none⟩ = some (.nilFunc)
  c15 : wx.cell? ⟨w.heap.size + 1, 15, none⟩ = some (.nilFunc)
  c16 : wx.cell? ⟨w.heap.size + 1, 16, none⟩ = some (.func (.func 144) #[opnd x y] #[])
  c17 : wx.cell? ⟨w.heap.size + 1, 17, none⟩ = some (.func (.func 146) #[opnd x y] #[])
  c18 : wx.cell? ⟨w.heap.size + 1, 18, none⟩ = some (.func (.func 147) #[opnd x y] #[])
  c19 : wx.cell? ⟨w.heap.size + 1, 19, none⟩ = some (.func (.func 148) #[opnd x y] #[])
  c20 : wx.cell? ⟨w.heap.size + 1, 20, none⟩ = some (.func (.func 149) #[opnd x y] #[])
  c21 : wx.cell? ⟨w.heap.size + 1, 21, none⟩ = some (.func (.func 150) #[opnd x y] #[])
  c22 : wx.cell? ⟨w.heap.size + 1, 22, none⟩ = some (.func (.func 151) #[opnd x y] #[])
  c23 : wx.cell? ⟨w.heap.size + 1, 23, none⟩ = some (.func (.func 157) #[opnd x y] #[])
  c24 : wx.cell? ⟨w.heap.size + 1, 24, none⟩ = some (.func (.func 153) #[opnd x y] #[])
abbrev tabR (x y : Int) : Array Value := #[.nilFunc, .func (.func 144) #[opnd x y] #[], .func (.func 145) #[opnd x y] #[], .func (.func 146) #[opnd x y] #[], .func (.func 147) #[opnd x y] #[], .func (.func 148) #[opnd x y] #[], .func (.func 149) #[opnd x y] #[], .func (.func 150) #[opnd x y] #[], .func (.func 151) #[opnd x y] #[], .func (.func 152) #[opnd x y] #[], .func (.func 153) #[opnd x y] #[], .func (.func 154) #[opnd x y] #[], .func (.func 155) #[opnd x y] #[], .func (.func 156) #[opnd x y] #[], .nilFunc, .nilFunc, .func (.func 144) #[opnd x y] #[], .func (.func 146) #[opnd x y] #[], .func (.func 147) #[opnd x y] #[], .func (.func 148) #[opnd x y] #[], .func (.func 149) #[opnd x y] #[], .func (.func 150) #[opnd x y] #[], .func (.func 151) #[opnd x y] #[], .func (.func 157) #[opnd x y] #[], .func (.func 153) #[opnd x y] #[]]
abbrev tabA (A : Array Value) : Array Value := #[.nilFunc, .func (.func 144) A #[], .func (.func 145) A #[], .func (.func 146) A #[], .func (.func 147) A #[], .func (.func 148) A #[], .func (.func 149) A #[], .func (.func 150) A #[], .func (.func 151) A #[], .func (.func 152) A #[], .func (.func 153) A #[], .func (.func 154) A #[], .func (.func 155) A #[], .func (.func 156) A #[], .nilFunc, .nilFunc, .func (.func 144) A #[], .func (.func 146) A #[], .func (.func 147) A #[], .func (.func 148) A #[], .func (.func 149) A #[], .func (.func 150) A #[], .func (.func 151) A #[], .func (.func 157) A #[], .func (.func 153) A #[]]
abbrev zs25 : Array Value := #[.nilFunc, .nilFunc, .nilFunc, .nilFunc, .nilFunc, .nilFunc, .nilFunc, .nilFunc, .nilFunc, .nilFunc, .nilFunc, .nilFunc, .nilFunc, .nilFunc, .nilFunc, .nilFunc, .nilFunc, .nilFunc, .nilFunc, .nilFunc, .nilFunc, .nilFunc, .nilFunc, .nilFunc, .nilFunc]
theorem tab_new (x y : Int) (w : World) : ((w.alloc (.cells #[i64 x, i64 y] 196)).alloc (.cells zs25 198)).heap[w.heap.size + 1]? = some (.cells zs25 198) := by
  have hs : (w.alloc (.cells #[i64 x, i64 y] 196)).heap.size = w.heap.size + 1 := by simp
  have hn := heap_alloc_new (w.alloc (.cells #[i64 x, i64 y] 196)) (.cells zs25 198)
  rw [hs] at hn
  exact hn
theorem st_new (x y : Int) (w : World) (cs : Array Value) (hl : cs.size = 25) (h1 : cs.all (·.oneCell') = true) : (storeCells ⟨w.heap.size + 1, 0, none⟩ cs.toList).run Tryz.prog ((w.alloc (.cells #[i64 x, i64 y] 196)).alloc (.cells zs25 198)) = .ok () (((w.alloc (.cells #[i64 x, i64 y] 196)).alloc (.cells zs25 198)).setRow (w.heap.size + 1) cs) := by
  have := run_storeCells_from (P := Tryz.prog) (w.heap.size + 1) _ cs.toList 0 zs25 _ (tab_new x y w) (by simp [hl]) (fun v hv => (Array.all_eq_true_iff_forall_mem.1 h1) v (by simpa using hv))
  simpa [hl] using this
theorem wpList_buildTo {ops : Array Oper} {rest : List Oper} {o : Oper} {a : Act} {w : World} {Q : Exit → Act → World → Prop} (hg : o.guard = none) (t : TypeId) (parts : Array (Nat × Operand)) (ho : o.op = .build t parts) (cs : Array Value)
    (hf : Tryz.prog.built t (parts.map fun (i, x) => (i, a.eval x)).toList = some cs)
    (h : wpList Tryz.prog ops Q rest (a.put o.dst (.agg cs)) w) : wpList Tryz.prog ops Q (o :: rest) a w := by
  refine wpList_build hg t parts ho (by rw [hf]; rfl) ?_
  rw [hf]; exact h
theorem tab_laid (x y : Int) (w : World) (cs zs : Array Value) (h : cs = tabR x y) : Tab x y w (((w.alloc (.cells #[i64 x, i64 y] 196)).alloc (.cells zs 198)).setRow (w.heap.size + 1) cs) := by
  have hs : (w.alloc (.cells #[i64 x, i64 y] 196)).heap.size = w.heap.size + 1 := by simp
  have hn0 := heap_alloc_new (w.alloc (.cells #[i64 x, i64 y] 196)) (.cells zs 198)
  rw [hs] at hn0
  have hn := setRow_heap _ _ _ cs _ _ hn0
  subst h
  refine ⟨below_setRow (((Below.refl _ w).alloc (Nat.le_refl _) _).alloc (by rw [hs]; omega) _) (by omega) _, (cell_of_row _ _ 0 _ _ _ hn).trans rfl, (cell_of_row _ _ 1 _ _ _ hn).trans rfl, (cell_of_row _ _ 2 _ _ _ hn).trans rfl, (cell_of_row _ _ 3 _ _ _ hn).trans rfl, (cell_of_row _ _ 4 _ _ _ hn).trans rfl, (cell_of_row _ _ 5 _ _ _ hn).trans rfl, (cell_of_row _ _ 6 _ _ _ hn).trans rfl, (cell_of_row _ _ 7 _ _ _ hn).trans rfl, (cell_of_row _ _ 8 _ _ _ hn).trans rfl, (cell_of_row _ _ 9 _ _ _ hn).trans rfl, (cell_of_row _ _ 10 _ _ _ hn).trans rfl, (cell_of_row _ _ 11 _ _ _ hn).trans rfl, (cell_of_row _ _ 12 _ _ _ hn).trans rfl, (cell_of_row _ _ 13 _ _ _ hn).trans rfl, (cell_of_row _ _ 14 _ _ _ hn).trans rfl, (cell_of_row _ _ 15 _ _ _ hn).trans rfl, (cell_of_row _ _ 16 _ _ _ hn).trans rfl, (cell_of_row _ _ 17 _ _ _ hn).trans rfl, (cell_of_row _ _ 18 _ _ _ hn).trans rfl, (cell_of_row _ _ 19 _ _ _ hn).trans rfl, (cell_of_row _ _ 20 _ _ _ hn).trans rfl, (cell_of_row _ _ 21 _ _ _ hn).trans rfl, (cell_of_row _ _ 22 _ _ _ hn).trans rfl, (cell_of_row _ _ 23 _ _ _ hn).trans rfl, (cell_of_row _ _ 24 _ _ _ hn).trans rfl⟩
theorem alu_cases (op : Int) : op = 0 ∨ op = 1 ∨ op = 2 ∨ op = 3 ∨ op = 4 ∨ op = 5 ∨ op = 6 ∨ op = 7 ∨ op = 8 ∨ op = 9 ∨ op = 10 ∨ op = 11 ∨ op = 12 ∨ op = 13 ∨ op = 14 ∨ op = 15 ∨ op = 16 ∨ op = 17 ∨ op = 18 ∨ op = 19 ∨ op = 20 ∨ op = 21 ∨ op = 22 ∨ op = 23 ∨ op = 24 ∨ op < 0 ∨ 25 ≤ op := by omega
set_option maxRecDepth 100000 in
set_option maxHeartbeats 4000000 in
theorem alu_says (op x y : Int) (ho : -9223372036854775808 ≤ op ∧ op ≤ 9223372036854775807) : Tells 117 #[i64 op, i64 x, i64 y] (.tuple #[i64 (aluV op x y), .bool (aluK op)]) := by
  intro w
  obtain ⟨r, hr⟩ : ∃ r : Ending → World → Prop, r = fun e w' => e = .returned (.tuple #[i64 (aluV op x y), .bool (aluK op)]) ∧ Below w.heap.size w w' := ⟨_, rfl⟩
  rw [← hr]
  go_enter Tryz.func117, Tryz.ntmps117
  go_upto_region 2 with fail
  go_cut [9] from 10 (fun s9 wx => s9 = .pointer (some ⟨w.heap.size + 1, 0, none⟩) ∧ Tab x y w wx)
  case first =>
    clear hr ho
    obtain ⟨A, hA⟩ : ∃ A : Array Value, #[Value.agg #[Value.int .i64 x, Value.int .i64 y]] = A := ⟨_, rfl⟩
    obtain ⟨O, hO⟩ : ∃ O : Value, Value.agg #[Value.int .i64 x, Value.int .i64 y] = O := ⟨_, rfl⟩
    have hA' := Lib.hid hA
    have hO' := Lib.hid hO
    rw [hO] at hA
    obtain ⟨cs, hcs⟩ : ∃ cs : Array Value, cs = tabA A := ⟨_, rfl⟩
    have hcs' := Lib.hid hcs
    clear hcs
    have hl25 : cs.size = 25 := by rw [hcs'.out]; rfl
    have hst := st_new x y w cs hl25 (by rw [hcs'.out]; simp [Value.oneCell'])
    go_wp2_with (refine wpList_buildTo rfl 198 _ rfl cs (by rw [hcs'.out]; kernel_rfl) ?_)
    go_meet
    case rel =>
      refine ⟨rfl, tab_laid x y w _ _ ?_⟩
      rw [hcs'.out, ← hA'.out]
  case rest =>
    obtain ⟨rfl, T⟩ := hcut
    rcases alu_cases op with rfl | rfl | rfl | rfl | rfl | rfl | rfl | rfl | rfl | rfl | rfl | rfl | rfl | rfl | rfl | rfl | rfl | rfl | rfl | rfl | rfl | rfl | rfl | rfl | rfl | hop | hop
    · have c := T.c0
      have hb0 := T.b
      have hn := nil_nil
      have hr' : r (.returned (.tuple #[i64 0, .bool false])) = fun w' => Below w.heap.size w w' := by rw [hr]; funext w'; exact propext ⟨fun h => h.2, fun h => ⟨rfl, h⟩⟩
      clear T hr
      go_wp2_with fail
      exact (congrFun hr' wc).mpr hb0
    · have c := T.c1
      have hc := o_add x y
      have hb0 := T.b
      have hn := eq_nil
      have hr' : r (.returned (.tuple #[i64 (wd (x + y)), .bool true])) = fun w' => Below w.heap.size w w' := by rw [hr]; funext w'; exact propext ⟨fun h => h.2, fun h => ⟨rfl, h⟩⟩
      clear T hr
      generalize wd (x + y) = v at *
      generalize opnd x y = O at *
      go_wp2_with (go_at_call 144; refine (hc _).mono ?_; rintro e w' ⟨rfl, hb⟩)
      have k := congrFun hr' w'
      exact k.mpr (hb0.trans (hb.mono hb0.size))
    · have c := T.c2
      have hc := o_sub x y
      have hb0 := T.b
      have hn := eq_nil
      have hr' : r (.returned (.tuple #[i64 (wd (x - y)), .bool true])) = fun w' => Below w.heap.size w w' := by rw [hr]; funext w'; exact propext ⟨fun h => h.2, fun h => ⟨rfl, h⟩⟩
      clear T hr
      generalize wd (x - y) = v at *
      generalize opnd x y = O at *
      go_wp2_with (go_at_call 145; refine (hc _).mono ?_; rintro e w' ⟨rfl, hb⟩)
      have k := congrFun hr' w'
      exact k.mpr (hb0.trans (hb.mono hb0.size))
    · have c := T.c3
      have hc := o_and x y
      have hb0 := T.b
      have hn := eq_nil
      have hr' : r (.returned (.tuple #[i64 (wd (bits .and .i64 x y)), .bool true])) = fun w' => Below w.heap.size w w' := by rw [hr]; funext w'; exact propext ⟨fun h => h.2, fun h => ⟨rfl, h⟩⟩
      clear T hr
      generalize wd (bits .and .i64 x y) = v at *
      generalize opnd x y = O at *
      go_wp2_with (go_at_call 146; refine (hc _).mono ?_; rintro e w' ⟨rfl, hb⟩)
      have k := congrFun hr' w'
      exact k.mpr (hb0.trans (hb.mono hb0.size))
    · have c := T.c4
      have hc := o_or x y
      have hb0 := T.b
      have hn := eq_nil
      have hr' : r (.returned (.tuple #[i64 (wd (bits .or .i64 x y)), .bool true])) = fun w' => Below w.heap.size w w' := by rw [hr]; funext w'; exact propext ⟨fun h => h.2, fun h => ⟨rfl, h⟩⟩
      clear T hr
      generalize wd (bits .or .i64 x y) = v at *
      generalize opnd x y = O at *
      go_wp2_with (go_at_call 147; refine (hc _).mono ?_; rintro e w' ⟨rfl, hb⟩)
      have k := congrFun hr' w'
      exact k.mpr (hb0.trans (hb.mono hb0.size))
    · have c := T.c5
      have hc := o_xor x y
      have hb0 := T.b
      have hn := eq_nil
      have hr' : r (.returned (.tuple #[i64 (wd (bits .xor .i64 x y)), .bool true])) = fun w' => Below w.heap.size w w' := by rw [hr]; funext w'; exact propext ⟨fun h => h.2, fun h => ⟨rfl, h⟩⟩
      clear T hr
      generalize wd (bits .xor .i64 x y) = v at *
      generalize opnd x y = O at *
      go_wp2_with (go_at_call 148; refine (hc _).mono ?_; rintro e w' ⟨rfl, hb⟩)
      have k := congrFun hr' w'
      exact k.mpr (hb0.trans (hb.mono hb0.size))
    · have c := T.c6
      have hc := o_sll x y
      have hb0 := T.b
      have hn := eq_nil
      have hr' : r (.returned (.tuple #[i64 (lf x y), .bool true])) = fun w' => Below w.heap.size w w' := by rw [hr]; funext w'; exact propext ⟨fun h => h.2, fun h => ⟨rfl, h⟩⟩
      clear T hr
      generalize lf x y = v at *
      generalize opnd x y = O at *
      go_wp2_with (go_at_call 149; refine (hc _).mono ?_; rintro e w' ⟨rfl, hb⟩)
      have k := congrFun hr' w'
      exact k.mpr (hb0.trans (hb.mono hb0.size))
    · have c := T.c7
      have hc := o_srl x y
      have hb0 := T.b
      have hn := eq_nil
      have hr' : r (.returned (.tuple #[i64 (rt x y), .bool true])) = fun w' => Below w.heap.size w w' := by rw [hr]; funext w'; exact propext ⟨fun h => h.2, fun h => ⟨rfl, h⟩⟩
      clear T hr
      generalize rt x y = v at *
      generalize opnd x y = O at *
      go_wp2_with (go_at_call 150; refine (hc _).mono ?_; rintro e w' ⟨rfl, hb⟩)
      have k := congrFun hr' w'
      exact k.mpr (hb0.trans (hb.mono hb0.size))
    · have c := T.c8
      have hc := o_sra x y
      have hb0 := T.b
      have hn := eq_nil
      have hr' : r (.returned (.tuple #[i64 (ar x y), .bool true])) = fun w' => Below w.heap.size w w' := by rw [hr]; funext w'; exact propext ⟨fun h => h.2, fun h => ⟨rfl, h⟩⟩
      clear T hr
      generalize ar x y = v at *
      generalize opnd x y = O at *
      go_wp2_with (go_at_call 151; refine (hc _).mono ?_; rintro e w' ⟨rfl, hb⟩)
      have k := congrFun hr' w'
      exact k.mpr (hb0.trans (hb.mono hb0.size))
    · have c := T.c9
      have hc := o_mul x y
      have hb0 := T.b
      have hn := eq_nil
      have hr' : r (.returned (.tuple #[i64 (wd (x * y)), .bool true])) = fun w' => Below w.heap.size w w' := by rw [hr]; funext w'; exact propext ⟨fun h => h.2, fun h => ⟨rfl, h⟩⟩
      clear T hr
      generalize wd (x * y) = v at *
      generalize opnd x y = O at *
      go_wp2_with (go_at_call 152; refine (hc _).mono ?_; rintro e w' ⟨rfl, hb⟩)
      have k := congrFun hr' w'
      exact k.mpr (hb0.trans (hb.mono hb0.size))
    · have c := T.c10
      have hc := o_slt x y
      have hb0 := T.b
      have hn := eq_nil
      have hr' : r (.returned (.tuple #[i64 ((if sg x < sg y then (1 : Int) else 0)), .bool true])) = fun w' => Below w.heap.size w w' := by rw [hr]; funext w'; exact propext ⟨fun h => h.2, fun h => ⟨rfl, h⟩⟩
      clear T hr
      generalize (if sg x < sg y then (1 : Int) else 0) = v at *
      generalize opnd x y = O at *
      go_wp2_with (go_at_call 153; refine (hc _).mono ?_; rintro e w' ⟨rfl, hb⟩)
      have k := congrFun hr' w'
      exact k.mpr (hb0.trans (hb.mono hb0.size))
    · have c := T.c11
      have hc := o_sltu x y
      have hb0 := T.b
      have hn := eq_nil
      have hr' : r (.returned (.tuple #[i64 ((if wd x < wd y then (1 : Int) else 0)), .bool true])) = fun w' => Below w.heap.size w w' := by rw [hr]; funext w'; exact propext ⟨fun h => h.2, fun h => ⟨rfl, h⟩⟩
      clear T hr
      generalize (if wd x < wd y then (1 : Int) else 0) = v at *
      generalize opnd x y = O at *
      go_wp2_with (go_at_call 154; refine (hc _).mono ?_; rintro e w' ⟨rfl, hb⟩)
      have k := congrFun hr' w'
      exact k.mpr (hb0.trans (hb.mono hb0.size))
    · have c := T.c12
      have hc := o_divu x y
      have hb0 := T.b
      have hn := eq_nil
      have hr' : r (.returned (.tuple #[i64 (dv x y), .bool true])) = fun w' => Below w.heap.size w w' := by rw [hr]; funext w'; exact propext ⟨fun h => h.2, fun h => ⟨rfl, h⟩⟩
      clear T hr
      generalize dv x y = v at *
      generalize opnd x y = O at *
      go_wp2_with (go_at_call 155; refine (hc _).mono ?_; rintro e w' ⟨rfl, hb⟩)
      have k := congrFun hr' w'
      exact k.mpr (hb0.trans (hb.mono hb0.size))
    · have c := T.c13
      have hc := o_remu x y
      have hb0 := T.b
      have hn := eq_nil
      have hr' : r (.returned (.tuple #[i64 (rm x y), .bool true])) = fun w' => Below w.heap.size w w' := by rw [hr]; funext w'; exact propext ⟨fun h => h.2, fun h => ⟨rfl, h⟩⟩
      clear T hr
      generalize rm x y = v at *
      generalize opnd x y = O at *
      go_wp2_with (go_at_call 156; refine (hc _).mono ?_; rintro e w' ⟨rfl, hb⟩)
      have k := congrFun hr' w'
      exact k.mpr (hb0.trans (hb.mono hb0.size))
    · have c := T.c14
      have hb0 := T.b
      have hn := nil_nil
      have hr' : r (.returned (.tuple #[i64 0, .bool false])) = fun w' => Below w.heap.size w w' := by rw [hr]; funext w'; exact propext ⟨fun h => h.2, fun h => ⟨rfl, h⟩⟩
      clear T hr
      go_wp2_with fail
      exact (congrFun hr' wc).mpr hb0
    · have c := T.c15
      have hb0 := T.b
      have hn := nil_nil
      have hr' : r (.returned (.tuple #[i64 0, .bool false])) = fun w' => Below w.heap.size w w' := by rw [hr]; funext w'; exact propext ⟨fun h => h.2, fun h => ⟨rfl, h⟩⟩
      clear T hr
      go_wp2_with fail
      exact (congrFun hr' wc).mpr hb0
    · have c := T.c16
      have hc := o_add x y
      have hb0 := T.b
      have hn := eq_nil
      have hr' : r (.returned (.tuple #[i64 (wd (x + y)), .bool true])) = fun w' => Below w.heap.size w w' := by rw [hr]; funext w'; exact propext ⟨fun h => h.2, fun h => ⟨rfl, h⟩⟩
      clear T hr
      generalize wd (x + y) = v at *
      generalize opnd x y = O at *
      go_wp2_with (go_at_call 144; refine (hc _).mono ?_; rintro e w' ⟨rfl, hb⟩)
      have k := congrFun hr' w'
      exact k.mpr (hb0.trans (hb.mono hb0.size))
    · have c := T.c17
      have hc := o_and x y
      have hb0 := T.b
      have hn := eq_nil
      have hr' : r (.returned (.tuple #[i64 (wd (bits .and .i64 x y)), .bool true])) = fun w' => Below w.heap.size w w' := by rw [hr]; funext w'; exact propext ⟨fun h => h.2, fun h => ⟨rfl, h⟩⟩
      clear T hr
      generalize wd (bits .and .i64 x y) = v at *
      generalize opnd x y = O at *
      go_wp2_with (go_at_call 146; refine (hc _).mono ?_; rintro e w' ⟨rfl, hb⟩)
      have k := congrFun hr' w'
      exact k.mpr (hb0.trans (hb.mono hb0.size))
    · have c := T.c18
      have hc := o_or x y
      have hb0 := T.b
      have hn := eq_nil
      have hr' : r (.returned (.tuple #[i64 (wd (bits .or .i64 x y)), .bool true])) = fun w' => Below w.heap.size w w' := by rw [hr]; funext w'; exact propext ⟨fun h => h.2, fun h => ⟨rfl, h⟩⟩
      clear T hr
      generalize wd (bits .or .i64 x y) = v at *
      generalize opnd x y = O at *
      go_wp2_with (go_at_call 147; refine (hc _).mono ?_; rintro e w' ⟨rfl, hb⟩)
      have k := congrFun hr' w'
      exact k.mpr (hb0.trans (hb.mono hb0.size))
    · have c := T.c19
      have hc := o_xor x y
      have hb0 := T.b
      have hn := eq_nil
      have hr' : r (.returned (.tuple #[i64 (wd (bits .xor .i64 x y)), .bool true])) = fun w' => Below w.heap.size w w' := by rw [hr]; funext w'; exact propext ⟨fun h => h.2, fun h => ⟨rfl, h⟩⟩
      clear T hr
      generalize wd (bits .xor .i64 x y) = v at *
      generalize opnd x y = O at *
      go_wp2_with (go_at_call 148; refine (hc _).mono ?_; rintro e w' ⟨rfl, hb⟩)
      have k := congrFun hr' w'
      exact k.mpr (hb0.trans (hb.mono hb0.size))
    · have c := T.c20
      have hc := o_sll x y
      have hb0 := T.b
      have hn := eq_nil
      have hr' : r (.returned (.tuple #[i64 (lf x y), .bool true])) = fun w' => Below w.heap.size w w' := by rw [hr]; funext w'; exact propext ⟨fun h => h.2, fun h => ⟨rfl, h⟩⟩
      clear T hr
      generalize lf x y = v at *
      generalize opnd x y = O at *
      go_wp2_with (go_at_call 149; refine (hc _).mono ?_; rintro e w' ⟨rfl, hb⟩)
      have k := congrFun hr' w'
      exact k.mpr (hb0.trans (hb.mono hb0.size))
    · have c := T.c21
      have hc := o_srl x y
      have hb0 := T.b
      have hn := eq_nil
      have hr' : r (.returned (.tuple #[i64 (rt x y), .bool true])) = fun w' => Below w.heap.size w w' := by rw [hr]; funext w'; exact propext ⟨fun h => h.2, fun h => ⟨rfl, h⟩⟩
      clear T hr
      generalize rt x y = v at *
      generalize opnd x y = O at *
      go_wp2_with (go_at_call 150; refine (hc _).mono ?_; rintro e w' ⟨rfl, hb⟩)
      have k := congrFun hr' w'
      exact k.mpr (hb0.trans (hb.mono hb0.size))
    · have c := T.c22
      have hc := o_sra x y
      have hb0 := T.b
      have hn := eq_nil
      have hr' : r (.returned (.tuple #[i64 (ar x y), .bool true])) = fun w' => Below w.heap.size w w' := by rw [hr]; funext w'; exact propext ⟨fun h => h.2, fun h => ⟨rfl, h⟩⟩
      clear T hr
      generalize ar x y = v at *
      generalize opnd x y = O at *
      go_wp2_with (go_at_call 151; refine (hc _).mono ?_; rintro e w' ⟨rfl, hb⟩)
      have k := congrFun hr' w'
      exact k.mpr (hb0.trans (hb.mono hb0.size))
    · have c := T.c23
      have hc := o_lui x y
      have hb0 := T.b
      have hn := eq_nil
      have hr' : r (.returned (.tuple #[i64 (lf y 16), .bool true])) = fun w' => Below w.heap.size w w' := by rw [hr]; funext w'; exact propext ⟨fun h => h.2, fun h => ⟨rfl, h⟩⟩
      clear T hr
      generalize lf y 16 = v at *
      generalize opnd x y = O at *
      go_wp2_with (go_at_call 157; refine (hc _).mono ?_; rintro e w' ⟨rfl, hb⟩)
      have k := congrFun hr' w'
      exact k.mpr (hb0.trans (hb.mono hb0.size))
    · have c := T.c24
      have hc := o_slt x y
      have hb0 := T.b
      have hn := eq_nil
      have hr' : r (.returned (.tuple #[i64 ((if sg x < sg y then (1 : Int) else 0)), .bool true])) = fun w' => Below w.heap.size w w' := by rw [hr]; funext w'; exact propext ⟨fun h => h.2, fun h => ⟨rfl, h⟩⟩
      clear T hr
      generalize (if sg x < sg y then (1 : Int) else 0) = v at *
      generalize opnd x y = O at *
      go_wp2_with (go_at_call 153; refine (hc _).mono ?_; rintro e w' ⟨rfl, hb⟩)
      have k := congrFun hr' w'
      exact k.mpr (hb0.trans (hb.mono hb0.size))
    · have hb0 := T.b
      have hv : aluV op x y = 0 := by unfold aluV; (repeat' rw [if_neg (by omega)])
      have hk : aluK op = false := by unfold aluK; simp; omega
      rw [hv, hk] at hr
      have hr' : r (.returned (.tuple #[i64 0, .bool false])) = fun w' => Below w.heap.size w w' := by rw [hr]; funext w'; exact propext ⟨fun h => h.2, fun h => ⟨rfl, h⟩⟩
      clear T hr hv hk
      go_wp2_with fail
      exact (congrFun hr' wc).mpr hb0
    · have hb0 := T.b
      have hv : aluV op x y = 0 := by unfold aluV; (repeat' rw [if_neg (by omega)])
      have hk : aluK op = false := by unfold aluK; simp; omega
      rw [hv, hk] at hr
      have hr' : r (.returned (.tuple #[i64 0, .bool false])) = fun w' => Below w.heap.size w w' := by rw [hr]; funext w'; exact propext ⟨fun h => h.2, fun h => ⟨rfl, h⟩⟩
      clear T hr hv hk
      go_wp2_with fail
      exact (congrFun hr' wc).mpr hb0
set_option maxRecDepth 100000 in
theorem tak_48 (x y : Int) : Tells 116 #[i64 48, i64 x, i64 y] (.tuple #[.bool (decide (wd x = wd y)), .bool true]) := by
  intro w
  have hc := o_beq x y
  have hn := eq_nil
  generalize decide (wd x = wd y) = r at *
  go_enter Tryz.func116, Tryz.ntmps116
  go_wp2_with (go_at_call 138; refine (hc _).mono ?_; rintro e w' ⟨rfl, hb⟩)
  go_ret2
  exact ⟨rfl, below_2 _ _ hb⟩
set_option maxRecDepth 100000 in
theorem tak_49 (x y : Int) : Tells 116 #[i64 49, i64 x, i64 y] (.tuple #[.bool ((!decide (wd x = wd y))), .bool true]) := by
  intro w
  have hc := o_bne x y
  have hn := eq_nil
  generalize (!decide (wd x = wd y)) = r at *
  go_enter Tryz.func116, Tryz.ntmps116
  go_wp2_with (go_at_call 139; refine (hc _).mono ?_; rintro e w' ⟨rfl, hb⟩)
  go_ret2
  exact ⟨rfl, below_2 _ _ hb⟩
set_option maxRecDepth 100000 in
theorem tak_50 (x y : Int) : Tells 116 #[i64 50, i64 x, i64 y] (.tuple #[.bool (decide (sg x < sg y)), .bool true]) := by
  intro w
  have hc := o_blt x y
  have hn := eq_nil
  generalize decide (sg x < sg y) = r at *
  go_enter Tryz.func116, Tryz.ntmps116
  go_wp2_with (go_at_call 140; refine (hc _).mono ?_; rintro e w' ⟨rfl, hb⟩)
  go_ret2
  exact ⟨rfl, below_2 _ _ hb⟩
set_option maxRecDepth 100000 in
theorem tak_51 (x y : Int) : Tells 116 #[i64 51, i64 x, i64 y] (.tuple #[.bool ((!decide (sg x < sg y))), .bool true]) := by
  intro w
  have hc := o_bge x y
  have hn := eq_nil
  generalize (!decide (sg x < sg y)) = r at *
  go_enter Tryz.func116, Tryz.ntmps116
  go_wp2_with (go_at_call 141; refine (hc _).mono ?_; rintro e w' ⟨rfl, hb⟩)
  go_ret2
  exact ⟨rfl, below_2 _ _ hb⟩
set_option maxRecDepth 100000 in
theorem tak_52 (x y : Int) : Tells 116 #[i64 52, i64 x, i64 y] (.tuple #[.bool (decide (wd x < wd y)), .bool true]) := by
  intro w
  have hc := o_bltu x y
  have hn := eq_nil
  generalize decide (wd x < wd y) = r at *
  go_enter Tryz.func116, Tryz.ntmps116
  go_wp2_with (go_at_call 142; refine (hc _).mono ?_; rintro e w' ⟨rfl, hb⟩)
  go_ret2
  exact ⟨rfl, below_2 _ _ hb⟩
set_option maxRecDepth 100000 in
theorem tak_53 (x y : Int) : Tells 116 #[i64 53, i64 x, i64 y] (.tuple #[.bool ((!decide (wd x < wd y))), .bool true]) := by
  intro w
  have hc := o_bgeu x y
  have hn := eq_nil
  generalize (!decide (wd x < wd y)) = r at *
  go_enter Tryz.func116, Tryz.ntmps116
  go_wp2_with (go_at_call 143; refine (hc _).mono ?_; rintro e w' ⟨rfl, hb⟩)
  go_ret2
  exact ⟨rfl, below_2 _ _ hb⟩
end Go.Proofs.YtfcmodllbhpniaaGreatDoor
