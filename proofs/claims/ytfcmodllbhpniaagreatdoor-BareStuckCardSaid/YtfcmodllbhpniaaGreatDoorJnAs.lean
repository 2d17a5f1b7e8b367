/-
  errors.As at a trap, at a variable of that type (after the guide's ToyasAs). | errors.As at a trap: the walk.
-/
import Derived.Test.YtfcmodllbhpniaaGreatDoorJnUa
import Derived.Stop.Asserts
import Derived.LaidEql
set_option linter.unusedVariables false
set_option maxRecDepth 100000
namespace Go.Proofs.YtfcmodllbhpniaaGreatDoor.Ser
open Go.Proofs.YtfcmodllbhpniaaGreatDoor
open Go.ChangeShapes Go.WideShapes Go.ChangeAt Go.RowKit Go.Extern.Stop Go.Stop Go.Extern
abbrev trapV (c t : Int) : Value := .agg #[i64 c, i64 t]
abbrev hnd (t : TypeId) : Value := .agg #[.pointer (some ⟨1, t, none⟩)]
theorem as_valueOfP (t : Addr) (w : World) : (ReflectliteValue.unpack (.iface 120 (.pointer (some t)))).run Tryz.prog w
    = .ok (.agg #[.pointer (some ⟨1, 120, none⟩), .pointer (some ⟨w.heap.size, 0, none⟩), .int .u64 150]) (w.alloc (.cells #[.pointer (some t)] 120)) := by kernel_rfl
theorem as_typeP (a : Addr) (w : World) : (ReflectliteValue.methodAny (ReflectliteValue.valueError "reflectlite.Value.Type" 0) (fun t _ _ _ => ReflectliteType.toType t) #[.agg #[.pointer (some ⟨1, 120, none⟩), .pointer (some a), .int .u64 150]]).run Tryz.prog w
    = .ok (.iface 174 (hnd 120)) w := by kernel_rfl
theorem as_methodKind (h : Value) (w : World) : (Go.method 360 174 (.agg #[h]) "Kind").run Tryz.prog w = .ok (193, h) w := by kernel_rfl
theorem as_kindP (w : World) : ((ReflectliteType.abiMethod fun t => (fun a : Nat => Value.int IntKind.u8 (a : Int)) <$> Rtype.kind t) #[.pointer (some ⟨1, 120, none⟩)]).run Tryz.prog w = .ok (.int .u8 22) w := by kernel_rfl
theorem as_kindT (w : World) : ((ReflectliteType.abiMethod fun t => (fun a : Nat => Value.int IntKind.u8 (a : Int)) <$> Rtype.kind t) #[.pointer (some ⟨1, 103, none⟩)]).run Tryz.prog w = .ok (.int .u8 25) w := by kernel_rfl
theorem as_rlm (z : Sem Value) (f : TypeId → Addr → Nat → Nat → Sem Value) (v : Value) :
    ReflectliteValue.method z f #[v] = (do match ← ReflectliteValue.parts v with | none => z | some (t, a, fl) => f t a fl (fl % 32)) := rfl
theorem as_partsP (a : Addr) (w : World) : (ReflectliteValue.parts (.agg #[.pointer (some ⟨1, 120, none⟩), .pointer (some a), .int .u64 150])).run Tryz.prog w = .ok (some (120, a, 150)) w := by kernel_rfl
theorem as_isNilP (a p : Addr) (W : World) (ha : W.cell? a = some (.pointer (some p))) :
    (ReflectliteValue.method (ReflectliteValue.valueError "reflectlite.Value.IsNil" 0) ReflectliteValue.isNil #[.agg #[.pointer (some ⟨1, 120, none⟩), .pointer (some a), .int .u64 150]]).run Tryz.prog W = .ok (.bool false) W := by
  rw [as_rlm]
  simp only [Sem.run_bind, as_partsP, Result.andThen]
  simp [ReflectliteValue.isNil, loadVar, isAgg, underlying, Tryz.underlying120, ha, Result.andThen]
theorem as_methodElem (h : Value) (w : World) : (Go.method 360 174 (.agg #[h]) "Elem").run Tryz.prog w = .ok (211, .agg #[h]) w := by kernel_rfl
theorem as_methodImplements (h : Value) (w : World) : (Go.method 360 174 (.agg #[h]) "Implements").run Tryz.prog w = .ok (212, .agg #[h]) w := by kernel_rfl
theorem as_methodAssignableTo (h : Value) (w : World) : (Go.method 360 174 (.agg #[h]) "AssignableTo").run Tryz.prog w = .ok (209, .agg #[h]) w := by kernel_rfl
theorem as_elemP (w : World) : (ReflectliteType.method ReflectliteType.elem #[hnd 120]).run Tryz.prog w = .ok (.iface 174 (hnd 103)) w := by kernel_rfl
theorem as_implementsT (w : World) : (ReflectliteType.relation "Implements" ReflectliteType.implements_ #[hnd 103, .iface 174 (hnd 97)]).run Tryz.prog w = .ok (.bool true) w := by kernel_rfl
theorem as_typeOfT (v : Value) (w : World) : (ReflectliteType.typeOf #[.iface 103 v]).run Tryz.prog w = .ok (.iface 174 (hnd 103)) w := by kernel_rfl
theorem as_assignableT (w : World) : (ReflectliteType.relation "AssignableTo" ReflectliteType.assignableTo #[hnd 103, .iface 174 (hnd 103)]).run Tryz.prog w = .ok (.bool true) w := by kernel_rfl
theorem as_valueOfT (c t : Int) (w : World) : (ReflectliteValue.unpack (.iface 103 (trapV c t))).run Tryz.prog w
    = .ok (.agg #[.pointer (some ⟨1, 103, none⟩), .pointer (some ⟨w.heap.size, 0, none⟩), .int .u64 153]) (w.alloc (.cells #[i64 c, i64 t] 103)) := by kernel_rfl
theorem as_elemOfP (w : World) : (Rtype.elem? 120).run Tryz.prog w = .ok (some 103) w := by kernel_rfl
theorem as_mkT (p : Addr) (w : World) : (ReflectliteValue.mk 103 p ReflectliteValue.flagAddr).run Tryz.prog w = .ok (.agg #[.pointer (some ⟨1, 103, none⟩), .pointer (some p), .int .u64 409]) w := by kernel_rfl
theorem as_elemV (a p : Addr) (W : World) (ha : W.cell? a = some (.pointer (some p))) :
    (ReflectliteValue.method (ReflectliteValue.valueError "reflectlite.Value.Elem" 0) ReflectliteValue.elem #[.agg #[.pointer (some ⟨1, 120, none⟩), .pointer (some a), .int .u64 150]]).run Tryz.prog W
      = .ok (.agg #[.pointer (some ⟨1, 103, none⟩), .pointer (some p), .int .u64 409]) W := by
  rw [as_rlm]
  simp only [Sem.run_bind, as_partsP, Result.andThen]
  simp [ReflectliteValue.elem, loadVar, isAgg, underlying, Tryz.underlying120, ha, Result.andThen, as_elemOfP, as_mkT]
theorem as_rls (v x : Value) : ReflectliteValue.set #[v, x] = (do
    let (some (dst, a, fl), some (src, b, _)) := (← ReflectliteValue.parts v, ← ReflectliteValue.parts x)
      | unsupported (.noEntry "extern/(internal/reflectlite.Value).Set.zeroValue")
    if fl / ReflectliteValue.flagAddr % 2 == 0 then unsupported (.noEntry "extern/(internal/reflectlite.Value).Set.unaddressable")
    let val ← loadVar src b
    if ← Rtype.directlyAssignable dst src then storeVar dst a val
    else if ← Rtype.implements dst src then
      if (← Rtype.kind src) == 20 then
        match val with
        | .nilIface => unsupported (.noEntry "extern/reflectlite: a nil value of one interface type handed on as a value of another")
        | _ => storeVar dst a val
      else storeVar dst a (.iface src val)
    else panicString ("reflectlite.Set: value of type " ++ (← Rtype.spelt src) ++ " is not assignable to type " ++ (← Rtype.spelt dst))
    pure (.tuple #[])) := rfl
theorem as_partsA (a : Addr) (w : World) : (ReflectliteValue.parts (.agg #[.pointer (some ⟨1, 103, none⟩), .pointer (some a), .int .u64 409])).run Tryz.prog w = .ok (some (103, a, 409)) w := by kernel_rfl
theorem as_partsT (a : Addr) (w : World) : (ReflectliteValue.parts (.agg #[.pointer (some ⟨1, 103, none⟩), .pointer (some a), .int .u64 153])).run Tryz.prog w = .ok (some (103, a, 153)) w := by kernel_rfl
theorem as_direct (w : World) : (Rtype.directlyAssignable 103 103).run Tryz.prog w = .ok true w := by kernel_rfl
theorem as_size (w : World) : (sizeOf 103).run Tryz.prog w = .ok 2 w := by kernel_rfl
end Go.Proofs.YtfcmodllbhpniaaGreatDoor.Ser
set_option maxRecDepth 100000
namespace Go.Proofs.YtfcmodllbhpniaaGreatDoor.Ser
open Go.Proofs.YtfcmodllbhpniaaGreatDoor
open Go.ChangeShapes Go.WideShapes Go.ChangeAt Go.RowKit Go.Extern.Stop Go.Stop Go.Extern
/-- A trap's variable in block b. -/
def TrapAt (w : World) (b : Nat) (c t : Int) : Prop := w.heap[b]? = some (.cells #[i64 c, i64 t] 103 (0, 0))
theorem trap_cells {w : World} {b : Nat} {c t : Int} (h : TrapAt w b c t) : w.cell? ⟨b, 0, none⟩ = some (i64 c) ∧ w.cell? ⟨b, 1, none⟩ = some (i64 t) ∧ w.frozen? ⟨b, 0, none⟩ = false ∧ w.frozen? ⟨b, 1, none⟩ = false := by
  unfold TrapAt at h
  refine ⟨by rw [cell_of_row _ _ 0 _ _ _ h]; rfl, by rw [cell_of_row _ _ 1 _ _ _ h]; rfl, by simp [World.frozen?, h], by simp [World.frozen?, h]⟩
/-- The variable that is set. -/
abbrev setTrap (w : World) (b : Nat) (c t : Int) : World := (w.setCell ⟨b, 0, none⟩ (i64 c)).setCell ⟨b, 1, none⟩ (i64 t)
theorem trap_set {w : World} {b : Nat} {c t c' t' : Int} (h : TrapAt w b c t) : TrapAt (setTrap w b c' t') b c' t' := by
  unfold TrapAt at *
  have h1 := setCell_row h 0 (i64 c')
  have h2 := setCell_row h1 1 (i64 t')
  exact h2
theorem as_set {W : World} {b s : Nat} {c0 t0 c t : Int} (hb : TrapAt W b c0 t0) (hs : TrapAt W s c t) :
    (ReflectliteValue.set #[.agg #[.pointer (some ⟨1, 103, none⟩), .pointer (some ⟨b, 0, none⟩), .int .u64 409], .agg #[.pointer (some ⟨1, 103, none⟩), .pointer (some ⟨s, 0, none⟩), .int .u64 153]]).run Tryz.prog W
      = .ok (.tuple #[]) (setTrap W b c t) := by
  obtain ⟨b0, b1, b2, b3⟩ := trap_cells hb
  obtain ⟨s0, s1, -, -⟩ := trap_cells hs
  rw [as_rls]
  simp only [Sem.run_bind, as_partsA, as_partsT, Result.andThen]
  have hne : ¬ (1 : Nat) = 0 := by omega
  have f2 : (W.setCell ⟨b, 0, none⟩ (i64 c)).frozen? ⟨b, 1, none⟩ = false := by rw [World.frozen?_setCell]; exact b3
  have e2 : (W.setCell ⟨b, 0, none⟩ (i64 c)).cell? ⟨b, 1, none⟩ = some (i64 t0) := by
    have h1 := setCell_row hb 0 (i64 c)
    rw [cell_of_row _ _ 1 _ _ _ h1]; rfl
  have hl : (loadCells ⟨s, 0, none⟩ 2).run Tryz.prog W = .ok #[i64 c, i64 t] W := by
    have := run_loadCells_list (P := Tryz.prog) W ⟨s, 0, none⟩ [i64 c, i64 t] (fun j u hu => by
      rw [Addr.add_lit, Nat.zero_add]
      match j, hu with
      | 0, hu => rw [s0]; exact hu
      | 1, hu => rw [s1]; exact hu)
    simpa using this
  simp [ReflectliteValue.flagAddr, loadVar, isAgg, underlying, Tryz.underlying103, hl, Result.andThen, as_direct, storeVar, Value.cells, storeCells, Addr.add]
  rw [run_store Tryz.prog W ⟨b, 0, none⟩ _ _ (by rfl)]
  simp only [b0, b2]
  simp only [Bool.false_eq_true, if_false]
  rw [run_store Tryz.prog _ ⟨b, 1, none⟩ _ _ (by rfl)]
  simp [f2, e2]
/-- errors.as at a trap. -/
theorem as_says {w : World} {b a1 a2 : Nat} (c t : Int) {c0 t0 : Int} (hb : TrapAt w b c0 t0) (ha : w.cell? ⟨a1, a2, none⟩ = some (.pointer (some ⟨b, 0, none⟩))) :
    Calls Tryz.prog 108 #[.iface 103 (trapV c t), .iface 120 (.pointer (some ⟨b, 0, none⟩)), .agg #[.pointer (some ⟨1, 120, none⟩), .pointer (some ⟨a1, a2, none⟩), .int .u64 150], .iface 174 (hnd 103)] w
      fun e w' => e = .returned (.bool true) ∧ TrapAt w' b c t ∧ But (fun i => i = b) w w' := by
  have hlb : b < w.heap.size := (Array.getElem?_eq_some_iff.1 hb).1
  have hla : a1 < w.heap.size := World.block_lt_of_cell? w _ ha
  have h142 := @run_callFunc_extern Tryz.prog 105 _ (fun args => ReflectliteValue.unpack (args.getD 0 (.tuple #[]))) Tryz.func105 (by kernel_rfl) (by kernel_rfl) (by kernel_rfl) (by kernel_rfl)
  have h173 := @run_callFunc_extern Tryz.prog 132 _ ReflectliteType.typeOf Tryz.func132 (by kernel_rfl) (by kernel_rfl) (by kernel_rfl) (by kernel_rfl)
  have h252 := @run_callFunc_extern Tryz.prog 209 _ (ReflectliteType.relation "AssignableTo" ReflectliteType.assignableTo) Tryz.func209 (by kernel_rfl) (by kernel_rfl) (by kernel_rfl) (by kernel_rfl)
  have h174 := @run_callFunc_extern Tryz.prog 133 _ (ReflectliteValue.method (ReflectliteValue.valueError "reflectlite.Value.Elem" 0) ReflectliteValue.elem) Tryz.func133 (by kernel_rfl) (by kernel_rfl) (by kernel_rfl) (by kernel_rfl)
  have h175 := @run_callFunc_extern Tryz.prog 134 _ ReflectliteValue.set Tryz.func134 (by kernel_rfl) (by kernel_rfl) (by kernel_rfl) (by kernel_rfl)
  have tO := as_typeOfT (trapV c t)
  have mA := as_methodAssignableTo
  have aT := as_assignableT
  have vT := as_valueOfT c t
  have hz1 : (w.alloc (.cells #[.pointer (some ⟨1, 120, none⟩), .pointer (some ⟨a1, a2, none⟩), .int .u64 150] 135)).heap.size = w.heap.size + 1 := by simp
  obtain ⟨wB, hwB⟩ : ∃ wB, wB = w.alloc (.cells #[.pointer (some ⟨1, 120, none⟩), .pointer (some ⟨a1, a2, none⟩), .int .u64 150] 135) := ⟨_, rfl⟩
  have el := as_elemV ⟨a1, a2, none⟩ ⟨b, 0, none⟩ wB (by rw [hwB, World.cell?_alloc_lt _ _ ⟨a1, a2, none⟩ hla]; exact ha)
  have hbB : TrapAt (wB.alloc (.cells #[i64 c, i64 t] 103)) b c0 t0 := by
    unfold TrapAt at *
    rw [Below.heap_alloc _ _ _ (by rw [hwB, hz1]; omega), hwB, Below.heap_alloc _ _ _ hlb]; exact hb
  have hsB : TrapAt (wB.alloc (.cells #[i64 c, i64 t] 103)) wB.heap.size c t := heap_alloc_new _ _
  have st := as_set hbB hsB
  have fin : TrapAt (setTrap (wB.alloc (.cells #[i64 c, i64 t] 103)) b c t) b c t ∧ But (fun i => i = b) w (setTrap (wB.alloc (.cells #[i64 c, i64 t] 103)) b c t) := by
    refine ⟨trap_set hbB, ?_⟩
    rw [hwB]
    exact ((((But.refl (fun i => i = b) w).alloc _).alloc _).setCell ⟨b, 0, none⟩ rfl _).setCell ⟨b, 1, none⟩ rfl _
  rw [hwB] at el st fin
  rw [hz1] at st
  clear hbB hsB hwB hb
  go_enter Tryz.func108, Tryz.ntmps108
  go_wp2
  refine wp_loop_rounds 1 ?_
  rw [rounds_succ]
  go_wp2
  go_ret
  exact ⟨rfl, fin⟩
/-- errors.As at a trap. -/
theorem As_says {w : World} {b : Nat} (c t : Int) {c0 t0 : Int} (hb : TrapAt w b c0 t0) (hg : w.cell? ⟨0, 0, none⟩ = some (.iface 174 (hnd 97))) :
    Calls Tryz.prog 75 #[.iface 103 (trapV c t), .iface 120 (.pointer (some ⟨b, 0, none⟩))] w
      fun e w' => e = .returned (.bool true) ∧ TrapAt w' b c t ∧ But (fun i => i = b) w w' := by
  have hlb : b < w.heap.size := (Array.getElem?_eq_some_iff.1 hb).1
  have hl0 : 0 < w.heap.size := World.block_lt_of_cell? w _ hg
  have h142 := @run_callFunc_extern Tryz.prog 105 _ (fun args => ReflectliteValue.unpack (args.getD 0 (.tuple #[]))) Tryz.func105 (by kernel_rfl) (by kernel_rfl) (by kernel_rfl) (by kernel_rfl)
  have h143 := @run_callFunc_extern Tryz.prog 106 _ (ReflectliteValue.methodAny (ReflectliteValue.valueError "reflectlite.Value.Type" 0) (fun t _ _ _ => ReflectliteType.toType t)) Tryz.func106 (by kernel_rfl) (by kernel_rfl) (by kernel_rfl) (by kernel_rfl)
  have h144 := @run_callFunc_extern Tryz.prog 107 _ (ReflectliteValue.method (ReflectliteValue.valueError "reflectlite.Value.IsNil" 0) ReflectliteValue.isNil) Tryz.func107 (by kernel_rfl) (by kernel_rfl) (by kernel_rfl) (by kernel_rfl)
  have h234 := @run_callFunc_extern Tryz.prog 193 _ (ReflectliteType.abiMethod fun t => do pure (.int .u8 (← Rtype.kind t))) Tryz.func193 (by kernel_rfl) (by kernel_rfl) (by kernel_rfl) (by kernel_rfl)
  have h254 := @run_callFunc_extern Tryz.prog 211 _ (ReflectliteType.method ReflectliteType.elem) Tryz.func211 (by kernel_rfl) (by kernel_rfl) (by kernel_rfl) (by kernel_rfl)
  have h255 := @run_callFunc_extern Tryz.prog 212 _ (ReflectliteType.relation "Implements" ReflectliteType.implements_) Tryz.func212 (by kernel_rfl) (by kernel_rfl) (by kernel_rfl) (by kernel_rfl)
  have f6 := as_valueOfP
  have f7 := as_typeP
  have mK := as_methodKind
  have mE := as_methodElem
  have mI := as_methodImplements
  have kP := as_kindP
  have kT := as_kindT
  have eP := as_elemP
  have iT := as_implementsT
  have hz1 : (w.alloc (.cells #[.pointer (some ⟨b, 0, none⟩)] 120)).heap.size = w.heap.size + 1 := by simp
  obtain ⟨w2, hw2⟩ : ∃ w2, w2 = (w.alloc (.cells #[.pointer (some ⟨b, 0, none⟩)] 120)).alloc (.cells #[.pointer (some ⟨1, 120, none⟩), .pointer (some ⟨w.heap.size, 0, none⟩), .int .u64 150] 135) := ⟨_, rfl⟩
  have c2 : w2.cell? ⟨w.heap.size, 0, none⟩ = some (.pointer (some ⟨b, 0, none⟩)) := by
    rw [hw2, World.cell?_alloc_lt _ _ ⟨w.heap.size, 0, none⟩ (by rw [hz1]; show w.heap.size < w.heap.size + 1; omega), cell_of_row _ _ 0 _ _ _ (heap_alloc_new _ _)]; rfl
  have hb2 : TrapAt w2 b c0 t0 := by
    unfold TrapAt at *
    rw [hw2, Below.heap_alloc _ _ _ (by rw [hz1]; omega), Below.heap_alloc _ _ _ hlb]; exact hb
  have hg2 : w2.cell? ⟨0, 0, none⟩ = some (.iface 174 (hnd 97)) := by
    rw [hw2, World.cell?_alloc_lt _ _ ⟨0, 0, none⟩ (by rw [hz1]; show 0 < w.heap.size + 1; omega), World.cell?_alloc_lt _ _ ⟨0, 0, none⟩ hl0]; exact hg
  have n8 := as_isNilP ⟨w.heap.size, 0, none⟩ ⟨b, 0, none⟩ w2 c2
  have hA := as_says (a1 := w.heap.size) (a2 := 0) c t hb2 c2
  have hb0 : But (fun i => i = b) w w2 := by rw [hw2]; exact ((But.refl (fun i => i = b) w).alloc _).alloc _
  rw [hw2] at hA hg2 n8 hb0
  clear hb2 c2 hw2
  go_enter Tryz.func75, Tryz.ntmps75
  go_wp2_with (go_at_call 108; refine hA.mono ?_; rintro e w3 ⟨rfl, k1, k2⟩)
  go_ret
  exact ⟨rfl, k1, hb0.trans k2⟩
end Go.Proofs.YtfcmodllbhpniaaGreatDoor.Ser
