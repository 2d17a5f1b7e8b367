/-
  Contracts of package walk's small calls. | The way through both tables: find. | Contracts of package walk's own two: Walk and Map.
-/
import Derived.Test.YtfcmodllbhpniaaGreatDoorJnPhys
import Derived.Test.YtfcmodllbhpniaaGreatDoorJnNum
import Derived.WalkMore
import Derived.ScopeJumps
import Derived.LoopN
import Derived.Deep.Cut
import Derived.Deep.RegionHeld3
set_option linter.unusedVariables false
set_option maxRecDepth 100000
namespace Go.Proofs.YtfcmodllbhpniaaGreatDoor
open Go.ChangeShapes Go.WideShapes Go.ChangeAt Go.RowKit
theorem bt_31_31 (a : Int) : bt a 31 31 = a / 2147483648 % 2 := by
  unfold bt wd; rw [if_neg (by decide)]; show a % 4294967296 / 2147483648 % 2 = _; omega
theorem bt_31_12 (a : Int) : bt a 31 12 = wd a / 4096 := by
  unfold bt; rw [if_neg (by decide)]; show wd a / 4096 % 1048576 = _; unfold wd; omega
theorem bt_19_0 (a : Int) : bt a 19 0 = a % 1048576 := by
  unfold bt wd; rw [if_neg (by decide)]; show a % 4294967296 / 1 % 1048576 = _; omega
theorem bt_19_10 (a : Int) : bt a 19 10 = a / 1024 % 1024 := by
  unfold bt wd; rw [if_neg (by decide)]; show a % 4294967296 / 1024 % 1024 = _; omega
theorem bt_9_0 (a : Int) : bt a 9 0 = a % 1024 := by
  unfold bt wd; rw [if_neg (by decide)]; show a % 4294967296 / 1 % 1024 = _; omega
theorem bt_11_0 (a : Int) : bt a 11 0 = a % 4096 := by
  unfold bt wd; rw [if_neg (by decide)]; show a % 4294967296 / 1 % 4096 = _; omega
theorem tables_says (a : Int) : Says 158 #[i64 a] (.bool (a / 2147483648 % 2 == 1)) := by
  intro w
  go_enter Tryz.func158, Tryz.ntmps158
  go_wp2_with (go_at_call 161; refine (bits_says _ _ _ _).mono ?_; rintro e w' ⟨rfl, rfl⟩; rw [bt_31_31])
  go_ret
  exact ⟨rfl, rfl⟩
theorem frame_says (a : Int) : Says 163 #[i64 a] (i64 (wd a / 4096)) := by
  intro w
  go_enter Tryz.func163, Tryz.ntmps163
  go_wp2_with (go_at_call 161; refine (bits_says _ _ _ _).mono ?_; rintro e w' ⟨rfl, rfl⟩; rw [bt_31_12])
  go_ret
  exact ⟨rfl, rfl⟩
theorem grown_two (w : World) (o p : Obj) : Below w.heap.size w ((w.alloc o).alloc p) :=
  ((Below.refl _ _).alloc (Nat.le_refl _) o).alloc (by show w.heap.size ≤ (w.heap.push o).size; simp) p
theorem asks_says (kind : Int) (w : World) : Calls Tryz.prog 159 #[i64 kind] w fun e w' => e = .returned (.tuple #[i64 (kb kind), i64 (5 + kk kind)]) ∧ Below w.heap.size w w' := by
  obtain ⟨k, hk⟩ : ∃ k, k = kind % 4 := ⟨_, rfl⟩
  have h3 : bits .and .i64 kind 3 = k := by rw [and3, hk]
  have hc : k = 0 ∨ k = 1 ∨ k = 2 ∨ k = 3 := by omega
  rcases hc with rfl | rfl | rfl | rfl
  all_goals
    unfold kb kk
    rw [← hk]
    clear hk
    go_enter Tryz.func159, Tryz.ntmps159
    go_wp2
    go_region
    go_wp2
    go_ret2
    exact ⟨rfl, (grown_two _ _ _).drew⟩
/-- What a page's entry must be like. -/
def sn (kind : Int) (user : Bool) : Int := 1 + kb kind + if user = true ∨ kk kind = 0 then 16 else 0
def wn (kind : Int) (user : Bool) : Int := 1 + kb kind + if user = true then 16 else 0
theorem gate_small : ∀ (k : Fin 3) (u : Bool) (r : Fin 32), (bits .and .i64 (r.val : Int) (sn (k.val : Int) u) = wn (k.val : Int) u) ↔ ¬ bad2 (r.val : Int) (k.val : Int) u := by decide +kernel
theorem kk_kk (kind : Int) : kk (kk kind) = kk kind := by
  rcases kk_bd kind with h | h | h <;> rw [h] <;> decide
theorem sn_range (kind : Int) (user : Bool) : 0 ≤ sn kind user ∧ sn kind user ≤ 31 := by
  unfold sn kb; split <;> split <;> (try split) <;> omega
theorem gate2_iff (e kind : Int) (user : Bool) : bits .and .i64 e (sn kind user) = wn kind user ↔ ¬ bad2 e kind user := by
  have eb : kb (kk kind) = kb kind := by unfold kb; rw [kk_kk]
  have es : sn kind user = sn (kk kind) user := by unfold sn; rw [eb, kk_kk]
  have ew : wn kind user = wn (kk kind) user := by unfold wn; rw [eb]
  have hr := sn_range kind user
  have h0 : e % 2 = e % 32 % 2 := by omega
  have h1 : e / 16 % 2 = e % 32 / 16 % 2 := by omega
  have h2 : e / kb kind % 2 = e % 32 / kb kind % 2 := by unfold kb; split <;> (try split) <;> omega
  have e2 : bad2 e kind user ↔ bad2 (e % 32) (kk kind) user := by
    unfold bad2; rw [h0, h1, h2, eb, kk_kk]
  rw [and_low5 _ _ hr.1 hr.2, es, ew, e2]
  have hk := kk_bd kind
  obtain ⟨k, hkk⟩ : ∃ k : Fin 3, kk kind = (k.val : Int) := by
    rcases hk with h | h | h
    · exact ⟨0, h⟩
    · exact ⟨1, h⟩
    · exact ⟨2, h⟩
  rw [hkk]
  exact low_cases5 e (fun t => (bits .and .i64 t (sn (k.val : Int) user) = wn (k.val : Int) user) ↔ ¬ bad2 t (k.val : Int) user) (fun r => gate_small k user r)
theorem page_says (kind : Int) (user : Bool) (w : World) : Calls Tryz.prog 162 #[i64 (kb kind), .bool user] w fun e w' => e = .returned (.agg #[i64 (sn kind user), i64 (wn kind user)]) ∧ Below w.heap.size w w' := by
  have hk := kk_bd kind
  have o8 : bits .or .i64 1 8 = 9 := by decide +kernel
  have o2 : bits .or .i64 1 2 = 3 := by decide +kernel
  have o4 : bits .or .i64 1 4 = 5 := by decide +kernel
  have p8 : bits .or .i64 9 16 = 25 := by decide +kernel
  have p2 : bits .or .i64 3 16 = 19 := by decide +kernel
  have p4 : bits .or .i64 5 16 = 21 := by decide +kernel
  rcases hk with h | h | h <;> cases user <;> simp only [sn, wn, kb, h]
  all_goals
    go_enter Tryz.func162, Tryz.ntmps162
    go_wp2
    refine bodyPost_ret (v := .agg #[i64 _, i64 _]) (by simp [results, Tryz.results162, go_sem]) rfl ⟨rfl, grown_two _ _ _⟩
end Go.Proofs.YtfcmodllbhpniaaGreatDoor
set_option maxRecDepth 100000
namespace Go.Proofs.YtfcmodllbhpniaaGreatDoor
open Go.ChangeShapes Go.WideShapes Go.ChangeAt Go.RowKit
theorem load_yes {w : World} {h g : Nat} {bs : List Int} (hm : Mem 87 w h g bs) (a p : Int) (hr : rd bs a = some p) :
    Calls Tryz.prog 85 #[.pointer (some ⟨h, 0, none⟩), i64 a, i64 4] w fun e w' => e = .returned (.tuple #[i64 p, .bool true]) ∧ w = w' := by
  unfold rd at hr
  split at hr
  · rename_i hk
    have hl := hm.le
    have ha := hk.2.2
    unfold fitm at ha
    refine (load_says hm a 4 (by omega)).mono ?_
    rintro e w' ⟨rfl, rfl⟩
    rw [Option.some.inj hr, decide_eq_true hk]; exact ⟨rfl, rfl⟩
  · cases hr
theorem load_none {w : World} {h g : Nat} {bs : List Int} (hm : Mem 87 w h g bs) (a : Int) (ha : -9223372036854775808 ≤ a ∧ a ≤ 9223372036854775807) (hr : rd bs a = none) :
    Calls Tryz.prog 85 #[.pointer (some ⟨h, 0, none⟩), i64 a, i64 4] w fun e w' => e = .returned (.tuple #[i64 0, .bool false]) ∧ w = w' := by
  unfold rd at hr
  split at hr
  · cases hr
  · rename_i hk
    refine (load_says hm a 4 ha).mono ?_
    rintro e w' ⟨rfl, rfl⟩
    have e0 : ldv bs a 4 = 0 := by unfold ldv; rw [if_neg hk]
    rw [e0, decide_eq_false hk]; exact ⟨rfl, rfl⟩
theorem kept1 (w : World) (s t : Int) (ty : TypeId) : (w.alloc (.cells #[.int .i64 s, .int .i64 t] ty)).drew.cell? ⟨w.heap.size, 0, none⟩ = some (.int .i64 s) ∧ (w.alloc (.cells #[.int .i64 s, .int .i64 t] ty)).drew.cell? ⟨w.heap.size, 1, none⟩ = some (.int .i64 t) := by
  have h : (w.alloc (.cells #[.int .i64 s, .int .i64 t] ty)).drew.heap[w.heap.size]? = some (.cells #[.int .i64 s, .int .i64 t] ty (0, 0)) := heap_alloc_new _ _
  exact ⟨by rw [cell_of_row _ _ _ _ _ _ h]; rfl, by rw [cell_of_row _ _ _ _ _ _ h]; rfl⟩
theorem kept2 (w : World) (s t : Int) (ty : TypeId) (o : Obj) : ((w.alloc (.cells #[.int .i64 s, .int .i64 t] ty)).alloc o).drew.cell? ⟨w.heap.size, 0, none⟩ = some (.int .i64 s) ∧ ((w.alloc (.cells #[.int .i64 s, .int .i64 t] ty)).alloc o).drew.cell? ⟨w.heap.size, 1, none⟩ = some (.int .i64 t) := by
  have h : ((w.alloc (.cells #[.int .i64 s, .int .i64 t] ty)).alloc o).drew.heap[w.heap.size]? = some (.cells #[.int .i64 s, .int .i64 t] ty (0, 0)) := heap_alloc2_old _ _ _
  exact ⟨by rw [cell_of_row _ _ _ _ _ _ h]; rfl, by rw [cell_of_row _ _ _ _ _ _ h]; rfl⟩
/-- The call through the interface (FUEL: as the walk's goal shows it: the program's number of types). -/
theorem method_load (a : Addr) (w : World) : (method 360 63 (.pointer (some a)) "Load").run Tryz.prog w = .ok (85, .pointer (some a)) w := by kernel_rfl
theorem nil_ahead (a : Addr) (w : World) : (nilAhead 360 63 (.pointer (some a)) "Load").run Tryz.prog w = .ok (some false) w := by kernel_rfl
/-- What find answers: of the first table's frame, the two indexes. -/
def findV (bs : List Int) (T I J seen want fault : Int) : Int × Int :=
  match rd bs (T * 4096 + 4 * I) with
  | none => (0, 4)
  | some p =>
    if bits .and .i64 p 31 = 1 then
      match rd bs (p / 4096 * 4096 + 4 * J) with
      | none => (0, 4)
      | some e => if bits .and .i64 e seen = want then (e, 0) else (0, fault)
    else (0, fault)
theorem grown3 (w : World) (o p q : Obj) : Below w.heap.size w ((((w.alloc o).alloc p).drew).alloc q) :=
  ((grown_two w o p).drew).alloc (by show w.heap.size ≤ ((w.heap.push o).push p).size; simp; omega) q
theorem grown4 (w : World) (o p q r : Obj) : Below w.heap.size w (((((w.alloc o).alloc p).drew).alloc q).alloc r) :=
  (grown3 w o p q).alloc (by show w.heap.size ≤ (((w.heap.push o).push p).push q).size; simp; omega) r
/-- The frame at a jump: a cause is told. -/
def Jump (r : Ending → World → Prop) (a' : Act) (w' : World) : Prop :=
  ∃ c : Int, r (.returned (.tuple #[i64 0, i64 c])) w' ∧ ∃ (u0 u1 u2 u3 u4 u5 u6 u7 u8 u9 u10 u12 u13 u14 u15 u16 u17 u18 u19 u20 u21 u22 u23 u24 u25 u26 u27 u28 u29 u30 u31 u32 u33 u34 u35 u36 u37 u38 u39 u40 u41 u42 u43 u44 u45 u46 u47 u48 u49 u50 u51 u52 u53 u54 u55 u56 u57 u58 u59 u60 u61 u62 : Value), a' = { tmps := #[u0, u1, u2, u3, u4, u5, u6, u7, u8, u9, u10, .int .i64 c, u12, u13, u14, u15, u16, u17, u18, u19, u20, u21, u22, u23, u24, u25, u26, u27, u28, u29, u30, u31, u32, u33, u34, u35, u36, u37, u38, u39, u40, u41, u42, u43, u44, u45, u46, u47, u48, u49, u50, u51, u52, u53, u54, u55, u56, u57, u58, u59, u60, u61, u62], defers := [] }
def Found (w : World) (v : Int × Int) (e : Ending) (w' : World) : Prop := e = .returned (.tuple #[i64 v.1, i64 v.2]) ∧ Below w.heap.size w w'
set_option maxRecDepth 100000 in
set_option maxHeartbeats 2000000 in
theorem find_says {w : World} {h g : Nat} {bs : List Int} (hm : Mem 87 w h g bs) (ptbr vpn seen want fault : Int) :
    Calls Tryz.prog 160 #[.iface 63 (.pointer (some ⟨h, 0, none⟩)), i64 ptbr, i64 vpn, .agg #[i64 seen, i64 want], i64 fault] w (Found w (findV bs (ptbr % 1048576) (vpn / 1024 % 1024) (vpn % 1024) seen want fault)) := by
  obtain ⟨T, hT⟩ : ∃ T, T = ptbr % 1048576 := ⟨_, rfl⟩
  obtain ⟨I, hI⟩ : ∃ I, I = vpn / 1024 % 1024 := ⟨_, rfl⟩
  obtain ⟨J, hJ⟩ : ∃ J, J = vpn % 1024 := ⟨_, rfl⟩
  rw [← hT, ← hI, ← hJ]
  obtain ⟨r, hr⟩ : ∃ r, r = Found w (findV bs T I J seen want fault) := ⟨_, rfl⟩
  rw [← hr]
  have hout : ∀ v w', v = findV bs T I J seen want fault → Below w.heap.size w w' → r (.returned (.tuple #[i64 v.1, i64 v.2])) w' := by
    intro v w' h1 h2; rw [hr, h1]; exact ⟨rfl, h2⟩
  clear hr
  have bT : 0 ≤ T ∧ T ≤ 1048575 := by omega
  have bI : 0 ≤ I ∧ I ≤ 1023 := by omega
  have bJ : 0 ≤ J ∧ J ≤ 1023 := by omega
  have i0 : ∀ u, (Instr.index 216 (.agg #[.int .i64 I, .int .i64 31, .int .i64 1, .int .i64 J, .int .i64 seen, .int .i64 want]) (.int .i64 0)).run Tryz.prog u = .ok (.agg #[.int .i64 I, .int .i64 31, .int .i64 1]) u := fun _ => by kernel_rfl
  have i1 : ∀ u, (Instr.index 216 (.agg #[.int .i64 I, .int .i64 31, .int .i64 1, .int .i64 J, .int .i64 seen, .int .i64 want]) (.int .i64 1)).run Tryz.prog u = .ok (.agg #[.int .i64 J, .int .i64 seen, .int .i64 want]) u := fun _ => by kernel_rfl
  have hml := method_load
  have hnl := nil_ahead
  have HT := Lib.hid hT; have HI := Lib.hid hI; have HJ := Lib.hid hJ; clear hT hI hJ
  go_enter Tryz.func160, Tryz.ntmps160
  go_wp2
  refine wp_scope_jumps 0 (Jump r) (fun _ _ => 0) rfl ?_ ?_
  rotate_left
  · rintro a' w' ⟨c, hc, u0, u1, u2, u3, u4, u5, u6, u7, u8, u9, u10, u12, u13, u14, u15, u16, u17, u18, u19, u20, u21, u22, u23, u24, u25, u26, u27, u28, u29, u30, u31, u32, u33, u34, u35, u36, u37, u38, u39, u40, u41, u42, u43, u44, u45, u46, u47, u48, u49, u50, u51, u52, u53, u54, u55, u56, u57, u58, u59, u60, u61, u62, rfl⟩
    go_wp2
    exact hc
  · go_upto_region 1 with fail
    go_cut [12] from 18 (fun s12 wc => s12 = .pointer (some ⟨w.heap.size + 1, 0, none⟩) ∧ wc = ((w.alloc (.cells #[.int .i64 seen, .int .i64 want] 204)).alloc (.cells #[.int .i64 I, .int .i64 31, .int .i64 1, .int .i64 J, .int .i64 seen, .int .i64 want] 216)).drew)
    case first =>
      refine wp_region_held_drew (S := (fun u => u.cell? ⟨w.heap.size, 0, none⟩ = some (.int .i64 seen) ∧ u.cell? ⟨w.heap.size, 1, none⟩ = some (.int .i64 want))) (by kernel_rfl) ?_ (fun hH0 => ?_)
      · ((try dsimp only); first | exact kept1 _ _ _ _ | exact kept2 _ _ _ _ _)
      refine wpAnyH_take (i := 0) (oi := { dst := some 18, op := Go.Op.move (Go.Operand.tmp 2), type := 3, pos := "walk.go:47", after := #[], guard := none }) (v := ?_) rfl (by kernel_rfl) (by kernel_rfl) (by kernel_rfl) (fun _ _ _ h => h) (Or.inl ⟨by rfl, ?_⟩) (by assumption) ?_
      rotate_left
      · ((intro w hSw; (try dsimp only at hSw); go_simp) <;> (with_reducible rfl))
      try simp only [Act.put, List.setIfInBounds_toArray, List.set_cons_zero, List.set_cons_succ]
      refine wpAnyH_take (i := 2) (oi := { dst := some 20, op := Go.Op.build 204 #[(0, Go.Operand.const (Go.Value.int Go.IntKind.i64 31)), (1, Go.Operand.const (Go.Value.int Go.IntKind.i64 1))], type := 204, pos := "walk.go:47", after := #[], guard := none }) (v := ?_) rfl (by kernel_rfl) (by kernel_rfl) (by kernel_rfl) (fun _ _ _ h => h) (Or.inl ⟨by rfl, ?_⟩) (by assumption) ?_
      rotate_left
      · ((intro w hSw; (try dsimp only at hSw); go_simp) <;> (with_reducible rfl))
      try simp only [Act.put, List.setIfInBounds_toArray, List.set_cons_zero, List.set_cons_succ]
      refine wpAnyH_take (i := 4) (oi := { dst := some 22, op := Go.Op.move (Go.Operand.tmp 2), type := 3, pos := "walk.go:47", after := #[], guard := none }) (v := ?_) rfl (by kernel_rfl) (by kernel_rfl) (by kernel_rfl) (fun _ _ _ h => h) (Or.inl ⟨by rfl, ?_⟩) (by assumption) ?_
      rotate_left
      · ((intro w hSw; (try dsimp only at hSw); go_simp) <;> (with_reducible rfl))
      try simp only [Act.put, List.setIfInBounds_toArray, List.set_cons_zero, List.set_cons_succ]
      refine wpAnyH_take (i := 6) (oi := { dst := some 24, op := Go.Op.load 204 (Go.Operand.tmp 8), type := 204, pos := "walk.go:47", after := #[], guard := none }) (v := ?_) rfl (by kernel_rfl) (by kernel_rfl) (by kernel_rfl) (fun _ _ _ h => h) (Or.inl ⟨by rfl, ?_⟩) (by assumption) ?_
      rotate_left
      · ((intro w hSw; (try dsimp only at hSw); go_simp) <;> (with_reducible rfl))
      try simp only [Act.put, List.setIfInBounds_toArray, List.set_cons_zero, List.set_cons_succ]
      refine wpAnyH_ready (rs := [1, 9]) (by kernel_rfl) (by simp) ?_
      refine AllReadyH.cons (o := { dst := some 19, op := Go.Op.call { callee := Go.Callee.value (Go.Operand.func 161), args := #[Go.Operand.tmp 18, Go.Operand.const (Go.Value.int Go.IntKind.i64 19), Go.Operand.const (Go.Value.int Go.IntKind.i64 10)], argTypes := #[3, 3, 3] }, type := 3, pos := "walk.go:51", after := #[{ on := 0, ground := Go.Ground.data }], guard := none }) rfl (fun K hK => ?_) ?_
      · go_simp
        (go_at_call 161; refine (bits_says _ _ _ _).mono ?_; rintro e t' ⟨rfl, rfl⟩; first | rw [bt_19_10, ← HI.out] | rw [bt_9_0, ← HJ.out])
        refine hK.out _ _ ?_ (fun hH1 => ?_)
        · ((try dsimp only); first | exact kept1 _ _ _ _ | exact kept2 _ _ _ _ _)
        clear hK K hH0
        try simp only [Act.put, List.setIfInBounds_toArray, List.set_cons_zero, List.set_cons_succ]
        refine wpAnyH_take (i := 3) (oi := { dst := some 21, op := Go.Op.build 215 #[(0, Go.Operand.tmp 19), (1, Go.Operand.tmp 20)], type := 215, pos := "walk.go:47", after := #[{ on := 1, ground := Go.Ground.data }, { on := 2, ground := Go.Ground.data }], guard := none }) (v := ?_) rfl (by kernel_rfl) (by kernel_rfl) (by kernel_rfl) (fun _ _ _ h => h) (Or.inl ⟨by rfl, ?_⟩) (by assumption) ?_
        rotate_left
        · ((intro w hSw; (try dsimp only at hSw); go_simp) <;> (with_reducible rfl))
        try simp only [Act.put, List.setIfInBounds_toArray, List.set_cons_zero, List.set_cons_succ]
        refine wpAnyH_ready (rs := [5, 9]) (by kernel_rfl) (by simp) ?_
        refine AllReadyH.cons (o := { dst := some 23, op := Go.Op.call { callee := Go.Callee.value (Go.Operand.func 161), args := #[Go.Operand.tmp 22, Go.Operand.const (Go.Value.int Go.IntKind.i64 9), Go.Operand.const (Go.Value.int Go.IntKind.i64 0)], argTypes := #[3, 3, 3] }, type := 3, pos := "walk.go:52", after := #[{ on := 4, ground := Go.Ground.data }, { on := 1, ground := Go.Ground.chain }], guard := none }) rfl (fun K hK => ?_) ?_
        · go_simp
          (go_at_call 161; refine (bits_says _ _ _ _).mono ?_; rintro e t' ⟨rfl, rfl⟩; first | rw [bt_19_10, ← HI.out] | rw [bt_9_0, ← HJ.out])
          refine hK.out _ _ ?_ (fun hH2 => ?_)
          · ((try dsimp only); first | exact kept1 _ _ _ _ | exact kept2 _ _ _ _ _)
          clear hK K hH1
          try simp only [Act.put, List.setIfInBounds_toArray, List.set_cons_zero, List.set_cons_succ]
          refine wpAnyH_take (i := 7) (oi := { dst := some 25, op := Go.Op.build 215 #[(0, Go.Operand.tmp 23), (1, Go.Operand.tmp 24)], type := 215, pos := "walk.go:47", after := #[{ on := 5, ground := Go.Ground.data }, { on := 6, ground := Go.Ground.data }], guard := none }) (v := ?_) rfl (by kernel_rfl) (by kernel_rfl) (by kernel_rfl) (fun _ _ _ h => h) (Or.inl ⟨by rfl, ?_⟩) (by assumption) ?_
          rotate_left
          · ((intro w hSw; (try dsimp only at hSw); go_simp) <;> (with_reducible rfl))
          try simp only [Act.put, List.setIfInBounds_toArray, List.set_cons_zero, List.set_cons_succ]
          refine wpAnyH_take (i := 8) (oi := { dst := some 26, op := Go.Op.build 216 #[(0, Go.Operand.tmp 21), (1, Go.Operand.tmp 25)], type := 216, pos := "walk.go:47", after := #[{ on := 3, ground := Go.Ground.data }, { on := 7, ground := Go.Ground.data }], guard := none }) (v := ?_) rfl (by kernel_rfl) (by kernel_rfl) (by kernel_rfl) (fun _ _ _ h => h) (Or.inl ⟨by rfl, ?_⟩) (by assumption) ?_
          rotate_left
          · ((intro w hSw; (try dsimp only at hSw); go_simp) <;> (with_reducible rfl))
          try simp only [Act.put, List.setIfInBounds_toArray, List.set_cons_zero, List.set_cons_succ]
          refine wpAnyH_ready (rs := [9]) (by kernel_rfl) (by simp) ?_
          refine AllReadyH.cons (o := { dst := some 12, op := Go.Op.alloc 216, type := 0, pos := "walk.go:47", after := #[], guard := none }) rfl (fun K hK => ?_) AllReadyH.nil
          go_simp
          refine hK.out _ _ ?_ (fun hH3 => ?_)
          · ((try dsimp only); first | exact kept1 _ _ _ _ | exact kept2 _ _ _ _ _)
          clear hK K hH2
          try simp only [Act.put, List.setIfInBounds_toArray, List.set_cons_zero, List.set_cons_succ]
          refine wpAnyH_ready (rs := [10]) (by kernel_rfl) (by simp) ?_
          refine AllReadyH.cons (o := { dst := none, op := Go.Op.store 216 (Go.Operand.tmp 12) (Go.Operand.tmp 26), type := 0, pos := "walk.go:47", after := #[{ on := 9, ground := Go.Ground.data }, { on := 8, ground := Go.Ground.data }, { on := 5, ground := Go.Ground.chain }, { on := 0, ground := Go.Ground.phase }, { on := 1, ground := Go.Ground.phase }, { on := 2, ground := Go.Ground.phase }, { on := 3, ground := Go.Ground.phase }, { on := 4, ground := Go.Ground.phase }, { on := 5, ground := Go.Ground.phase }, { on := 6, ground := Go.Ground.phase }, { on := 7, ground := Go.Ground.phase }, { on := 8, ground := Go.Ground.phase }, { on := 9, ground := Go.Ground.phase }], guard := none }) rfl (fun K hK => ?_) AllReadyH.nil
          go_simp
          refine hK.out _ _ ?_ (fun hH4 => ?_)
          · ((try dsimp only); first | exact kept1 _ _ _ _ | exact kept2 _ _ _ _ _)
          clear hK K hH3
          try simp only [Act.put, List.setIfInBounds_toArray, List.set_cons_zero, List.set_cons_succ]
          refine wpAnyH_done (by kernel_rfl) ?_ _
          go_wp2_with fail; go_meet; case rel => exact ⟨rfl, rfl⟩
        refine AllReadyH.cons (o := { dst := some 12, op := Go.Op.alloc 216, type := 0, pos := "walk.go:47", after := #[], guard := none }) rfl (fun K hK => ?_) ?_
        · go_simp
          refine hK.out _ _ ?_ (fun hH2 => ?_)
          · ((try dsimp only); first | exact kept1 _ _ _ _ | exact kept2 _ _ _ _ _)
          clear hK K hH1
          try simp only [Act.put, List.setIfInBounds_toArray, List.set_cons_zero, List.set_cons_succ]
          refine wpAnyH_ready (rs := [5]) (by kernel_rfl) (by simp) ?_
          refine AllReadyH.cons (o := { dst := some 23, op := Go.Op.call { callee := Go.Callee.value (Go.Operand.func 161), args := #[Go.Operand.tmp 22, Go.Operand.const (Go.Value.int Go.IntKind.i64 9), Go.Operand.const (Go.Value.int Go.IntKind.i64 0)], argTypes := #[3, 3, 3] }, type := 3, pos := "walk.go:52", after := #[{ on := 4, ground := Go.Ground.data }, { on := 1, ground := Go.Ground.chain }], guard := none }) rfl (fun K hK => ?_) AllReadyH.nil
          go_simp
          (go_at_call 161; refine (bits_says _ _ _ _).mono ?_; rintro e t' ⟨rfl, rfl⟩; first | rw [bt_19_10, ← HI.out] | rw [bt_9_0, ← HJ.out])
          refine hK.out _ _ ?_ (fun hH3 => ?_)
          · ((try dsimp only); first | exact kept1 _ _ _ _ | exact kept2 _ _ _ _ _)
          clear hK K hH2
          try simp only [Act.put, List.setIfInBounds_toArray, List.set_cons_zero, List.set_cons_succ]
          refine wpAnyH_take (i := 7) (oi := { dst := some 25, op := Go.Op.build 215 #[(0, Go.Operand.tmp 23), (1, Go.Operand.tmp 24)], type := 215, pos := "walk.go:47", after := #[{ on := 5, ground := Go.Ground.data }, { on := 6, ground := Go.Ground.data }], guard := none }) (v := ?_) rfl (by kernel_rfl) (by kernel_rfl) (by kernel_rfl) (fun _ _ _ h => h) (Or.inl ⟨by rfl, ?_⟩) (by assumption) ?_
          rotate_left
          · ((intro w hSw; (try dsimp only at hSw); go_simp) <;> (with_reducible rfl))
          try simp only [Act.put, List.setIfInBounds_toArray, List.set_cons_zero, List.set_cons_succ]
          refine wpAnyH_take (i := 8) (oi := { dst := some 26, op := Go.Op.build 216 #[(0, Go.Operand.tmp 21), (1, Go.Operand.tmp 25)], type := 216, pos := "walk.go:47", after := #[{ on := 3, ground := Go.Ground.data }, { on := 7, ground := Go.Ground.data }], guard := none }) (v := ?_) rfl (by kernel_rfl) (by kernel_rfl) (by kernel_rfl) (fun _ _ _ h => h) (Or.inl ⟨by rfl, ?_⟩) (by assumption) ?_
          rotate_left
          · ((intro w hSw; (try dsimp only at hSw); go_simp) <;> (with_reducible rfl))
          try simp only [Act.put, List.setIfInBounds_toArray, List.set_cons_zero, List.set_cons_succ]
          refine wpAnyH_ready (rs := [10]) (by kernel_rfl) (by simp) ?_
          refine AllReadyH.cons (o := { dst := none, op := Go.Op.store 216 (Go.Operand.tmp 12) (Go.Operand.tmp 26), type := 0, pos := "walk.go:47", after := #[{ on := 9, ground := Go.Ground.data }, { on := 8, ground := Go.Ground.data }, { on := 5, ground := Go.Ground.chain }, { on := 0, ground := Go.Ground.phase }, { on := 1, ground := Go.Ground.phase }, { on := 2, ground := Go.Ground.phase }, { on := 3, ground := Go.Ground.phase }, { on := 4, ground := Go.Ground.phase }, { on := 5, ground := Go.Ground.phase }, { on := 6, ground := Go.Ground.phase }, { on := 7, ground := Go.Ground.phase }, { on := 8, ground := Go.Ground.phase }, { on := 9, ground := Go.Ground.phase }], guard := none }) rfl (fun K hK => ?_) AllReadyH.nil
          go_simp
          refine hK.out _ _ ?_ (fun hH4 => ?_)
          · ((try dsimp only); first | exact kept1 _ _ _ _ | exact kept2 _ _ _ _ _)
          clear hK K hH3
          try simp only [Act.put, List.setIfInBounds_toArray, List.set_cons_zero, List.set_cons_succ]
          refine wpAnyH_done (by kernel_rfl) ?_ _
          go_wp2_with fail; go_meet; case rel => exact ⟨rfl, rfl⟩
        exact AllReadyH.nil
      refine AllReadyH.cons (o := { dst := some 12, op := Go.Op.alloc 216, type := 0, pos := "walk.go:47", after := #[], guard := none }) rfl (fun K hK => ?_) ?_
      · go_simp
        refine hK.out _ _ ?_ (fun hH1 => ?_)
        · ((try dsimp only); first | exact kept1 _ _ _ _ | exact kept2 _ _ _ _ _)
        clear hK K hH0
        try simp only [Act.put, List.setIfInBounds_toArray, List.set_cons_zero, List.set_cons_succ]
        refine wpAnyH_ready (rs := [1]) (by kernel_rfl) (by simp) ?_
        refine AllReadyH.cons (o := { dst := some 19, op := Go.Op.call { callee := Go.Callee.value (Go.Operand.func 161), args := #[Go.Operand.tmp 18, Go.Operand.const (Go.Value.int Go.IntKind.i64 19), Go.Operand.const (Go.Value.int Go.IntKind.i64 10)], argTypes := #[3, 3, 3] }, type := 3, pos := "walk.go:51", after := #[{ on := 0, ground := Go.Ground.data }], guard := none }) rfl (fun K hK => ?_) AllReadyH.nil
        go_simp
        (go_at_call 161; refine (bits_says _ _ _ _).mono ?_; rintro e t' ⟨rfl, rfl⟩; first | rw [bt_19_10, ← HI.out] | rw [bt_9_0, ← HJ.out])
        refine hK.out _ _ ?_ (fun hH2 => ?_)
        · ((try dsimp only); first | exact kept1 _ _ _ _ | exact kept2 _ _ _ _ _)
        clear hK K hH1
        try simp only [Act.put, List.setIfInBounds_toArray, List.set_cons_zero, List.set_cons_succ]
        refine wpAnyH_take (i := 3) (oi := { dst := some 21, op := Go.Op.build 215 #[(0, Go.Operand.tmp 19), (1, Go.Operand.tmp 20)], type := 215, pos := "walk.go:47", after := #[{ on := 1, ground := Go.Ground.data }, { on := 2, ground := Go.Ground.data }], guard := none }) (v := ?_) rfl (by kernel_rfl) (by kernel_rfl) (by kernel_rfl) (fun _ _ _ h => h) (Or.inl ⟨by rfl, ?_⟩) (by assumption) ?_
        rotate_left
        · ((intro w hSw; (try dsimp only at hSw); go_simp) <;> (with_reducible rfl))
        try simp only [Act.put, List.setIfInBounds_toArray, List.set_cons_zero, List.set_cons_succ]
        refine wpAnyH_ready (rs := [5]) (by kernel_rfl) (by simp) ?_
        refine AllReadyH.cons (o := { dst := some 23, op := Go.Op.call { callee := Go.Callee.value (Go.Operand.func 161), args := #[Go.Operand.tmp 22, Go.Operand.const (Go.Value.int Go.IntKind.i64 9), Go.Operand.const (Go.Value.int Go.IntKind.i64 0)], argTypes := #[3, 3, 3] }, type := 3, pos := "walk.go:52", after := #[{ on := 4, ground := Go.Ground.data }, { on := 1, ground := Go.Ground.chain }], guard := none }) rfl (fun K hK => ?_) AllReadyH.nil
        go_simp
        (go_at_call 161; refine (bits_says _ _ _ _).mono ?_; rintro e t' ⟨rfl, rfl⟩; first | rw [bt_19_10, ← HI.out] | rw [bt_9_0, ← HJ.out])
        refine hK.out _ _ ?_ (fun hH3 => ?_)
        · ((try dsimp only); first | exact kept1 _ _ _ _ | exact kept2 _ _ _ _ _)
        clear hK K hH2
        try simp only [Act.put, List.setIfInBounds_toArray, List.set_cons_zero, List.set_cons_succ]
        refine wpAnyH_take (i := 7) (oi := { dst := some 25, op := Go.Op.build 215 #[(0, Go.Operand.tmp 23), (1, Go.Operand.tmp 24)], type := 215, pos := "walk.go:47", after := #[{ on := 5, ground := Go.Ground.data }, { on := 6, ground := Go.Ground.data }], guard := none }) (v := ?_) rfl (by kernel_rfl) (by kernel_rfl) (by kernel_rfl) (fun _ _ _ h => h) (Or.inl ⟨by rfl, ?_⟩) (by assumption) ?_
        rotate_left
        · ((intro w hSw; (try dsimp only at hSw); go_simp) <;> (with_reducible rfl))
        try simp only [Act.put, List.setIfInBounds_toArray, List.set_cons_zero, List.set_cons_succ]
        refine wpAnyH_take (i := 8) (oi := { dst := some 26, op := Go.Op.build 216 #[(0, Go.Operand.tmp 21), (1, Go.Operand.tmp 25)], type := 216, pos := "walk.go:47", after := #[{ on := 3, ground := Go.Ground.data }, { on := 7, ground := Go.Ground.data }], guard := none }) (v := ?_) rfl (by kernel_rfl) (by kernel_rfl) (by kernel_rfl) (fun _ _ _ h => h) (Or.inl ⟨by rfl, ?_⟩) (by assumption) ?_
        rotate_left
        · ((intro w hSw; (try dsimp only at hSw); go_simp) <;> (with_reducible rfl))
        try simp only [Act.put, List.setIfInBounds_toArray, List.set_cons_zero, List.set_cons_succ]
        refine wpAnyH_ready (rs := [10]) (by kernel_rfl) (by simp) ?_
        refine AllReadyH.cons (o := { dst := none, op := Go.Op.store 216 (Go.Operand.tmp 12) (Go.Operand.tmp 26), type := 0, pos := "walk.go:47", after := #[{ on := 9, ground := Go.Ground.data }, { on := 8, ground := Go.Ground.data }, { on := 5, ground := Go.Ground.chain }, { on := 0, ground := Go.Ground.phase }, { on := 1, ground := Go.Ground.phase }, { on := 2, ground := Go.Ground.phase }, { on := 3, ground := Go.Ground.phase }, { on := 4, ground := Go.Ground.phase }, { on := 5, ground := Go.Ground.phase }, { on := 6, ground := Go.Ground.phase }, { on := 7, ground := Go.Ground.phase }, { on := 8, ground := Go.Ground.phase }, { on := 9, ground := Go.Ground.phase }], guard := none }) rfl (fun K hK => ?_) AllReadyH.nil
        go_simp
        refine hK.out _ _ ?_ (fun hH4 => ?_)
        · ((try dsimp only); first | exact kept1 _ _ _ _ | exact kept2 _ _ _ _ _)
        clear hK K hH3
        try simp only [Act.put, List.setIfInBounds_toArray, List.set_cons_zero, List.set_cons_succ]
        refine wpAnyH_done (by kernel_rfl) ?_ _
        go_wp2_with fail; go_meet; case rel => exact ⟨rfl, rfl⟩
      exact AllReadyH.nil
    case rest =>
      obtain ⟨rfl, rfl⟩ := hcut
      go_wp2_with (go_at_call 161; refine (bits_says _ _ _ _).mono ?_; rintro e t' ⟨rfl, rfl⟩; rw [bt_19_0, ← HT.out])
      have hm2 := fun o => (((hm.alloc (.cells #[.int .i64 seen, .int .i64 want] 204)).alloc (.cells #[.int .i64 I, .int .i64 31, .int .i64 1, .int .i64 J, .int .i64 seen, .int .i64 want] 216)).grow (Below.refl _ _).drew).alloc o
      refine wp_loop_rounds 3 ?_
      rw [rounds_succ]
      have hm3 := fun o o2 => (hm2 o).alloc o2
      cases h1 : rd bs (T * 4096 + 4 * I) with
      | none =>
        go_wp2_with (go_at_call 85; refine (load_none (hm2 _) _ (by omega) h1).mono ?_; rintro e t' ⟨rfl, rfl⟩)
        go_step3
        exact ⟨rfl, 4, hout (0, 4) _ (by unfold findV; rw [h1]) (grown3 _ _ _ _), _, _, _, _, _, _, _, _, _, _, _, _, _, _, _, _, _, _, _, _, _, _, _, _, _, _, _, _, _, _, _, _, _, _, _, _, _, _, _, _, _, _, _, _, _, _, _, _, _, _, _, _, _, _, _, _, _, _, _, _, _, _, rfl⟩
      | some p =>
        have bp := rd_bd hm.byt h1
        have ep : wd p = p := wd_eq _ bp.1 bp.2
        obtain ⟨F, hF⟩ : ∃ F, F = p / 4096 := ⟨_, rfl⟩
        have bF : 0 ≤ F ∧ F ≤ 1048575 := by omega
        by_cases hg : bits .and .i64 p 31 = 1
        · have HF := Lib.hid hF; have EP := Lib.hid ep; have H1 := Lib.hid h1; clear hF ep h1 bp
          go_wp2_with (first
            | (go_at_call 85; refine (load_yes (hm2 _) _ _ H1.out).mono ?_; rintro e t' ⟨rfl, rfl⟩)
            | (go_at_call 27; refine (of_says _ _).mono ?_; rintro e t' ⟨rfl, rfl⟩; rw [EP.out])
            | (go_at_call 163; refine (frame_says _ _).mono ?_; rintro e t' ⟨rfl, rfl⟩; rw [EP.out, ← HF.out]))
          rw [rounds_succ]
          cases h2 : rd bs (F * 4096 + 4 * J) with
          | none =>
            go_wp2_with (go_at_call 85; refine (load_none (hm3 _ _) _ (by omega) h2).mono ?_; rintro e t' ⟨rfl, rfl⟩)
            go_step3
            exact ⟨rfl, 4, hout (0, 4) _ (by unfold findV; rw [H1.out]; dsimp only; rw [if_pos hg, ← HF.out, h2]) (grown4 _ _ _ _ _), _, _, _, _, _, _, _, _, _, _, _, _, _, _, _, _, _, _, _, _, _, _, _, _, _, _, _, _, _, _, _, _, _, _, _, _, _, _, _, _, _, _, _, _, _, _, _, _, _, _, _, _, _, _, _, _, _, _, _, _, _, _, rfl⟩
          | some x =>
            have bx := rd_bd hm.byt h2
            have ex : wd x = x := wd_eq _ bx.1 bx.2
            have H2 := Lib.hid h2; have EX := Lib.hid ex; clear h2 ex bx
            by_cases hg2 : bits .and .i64 x seen = want
            · go_wp2_with (first
                | (go_at_call 85; refine (load_yes (hm3 _ _) _ _ H2.out).mono ?_; rintro e t' ⟨rfl, rfl⟩)
                | (go_at_call 27; refine (of_says _ _).mono ?_; rintro e t' ⟨rfl, rfl⟩; rw [EX.out])
                | (go_at_call 163; refine (frame_says _ _).mono ?_; rintro e t' ⟨rfl, rfl⟩; rw [EX.out]))
              rw [rounds_succ]
              go_wp2
              exact hout (x, 0) _ (by unfold findV; rw [H1.out]; dsimp only; rw [if_pos hg, ← HF.out, H2.out]; dsimp only; rw [if_pos hg2]) (grown4 _ _ _ _ _)
            · have b2 : (bits .and .i64 x seen != want) = true := by simpa using hg2
              go_wp2_with (first
                | (go_at_call 85; refine (load_yes (hm3 _ _) _ _ H2.out).mono ?_; rintro e t' ⟨rfl, rfl⟩)
                | (go_at_call 27; refine (of_says _ _).mono ?_; rintro e t' ⟨rfl, rfl⟩; rw [EX.out]))
              go_step3
              exact ⟨rfl, fault, hout (0, fault) _ (by unfold findV; rw [H1.out]; dsimp only; rw [if_pos hg, ← HF.out, H2.out]; dsimp only; rw [if_neg hg2]) (grown4 _ _ _ _ _), _, _, _, _, _, _, _, _, _, _, _, _, _, _, _, _, _, _, _, _, _, _, _, _, _, _, _, _, _, _, _, _, _, _, _, _, _, _, _, _, _, _, _, _, _, _, _, _, _, _, _, _, _, _, _, _, _, _, _, _, _, _, rfl⟩
        · have HF := Lib.hid hF; have EP := Lib.hid ep; have H1 := Lib.hid h1; clear hF ep h1 bp
          have b1 : (bits .and .i64 p 31 != 1) = true := by simpa using hg
          go_wp2_with (first
            | (go_at_call 85; refine (load_yes (hm2 _) _ _ H1.out).mono ?_; rintro e t' ⟨rfl, rfl⟩)
            | (go_at_call 27; refine (of_says _ _).mono ?_; rintro e t' ⟨rfl, rfl⟩; rw [EP.out]))
          go_step3
          exact ⟨rfl, fault, hout (0, fault) _ (by unfold findV; rw [H1.out]; dsimp only; rw [if_neg hg]) (grown3 _ _ _ _), _, _, _, _, _, _, _, _, _, _, _, _, _, _, _, _, _, _, _, _, _, _, _, _, _, _, _, _, _, _, _, _, _, _, _, _, _, _, _, _, _, _, _, _, _, _, _, _, _, _, _, _, _, _, _, _, _, _, _, _, _, _, rfl⟩
end Go.Proofs.YtfcmodllbhpniaaGreatDoor
set_option maxRecDepth 100000
namespace Go.Proofs.YtfcmodllbhpniaaGreatDoor
open Go.ChangeShapes Go.WideShapes Go.ChangeAt Go.RowKit
theorem walkV_find (bs : List Int) (t va kind : Int) (user : Bool) (ht : ¬ t / 2147483648 % 2 = 0) {x c : Int}
    (h : findV bs (t % 1048576) (wd va / 4096 / 1024 % 1024) (wd va / 4096 % 1024) (sn kind user) (wn kind user) (5 + kk kind) = (x, c)) :
    walkV bs t va kind user = if c = 0 then (x / 4096 * 4096 + va % 4096, 0) else (0, c) := by
  have hk := kk_bd kind
  have e1 : at1 t (wd va) = t % 1048576 * 4096 + 4 * (wd va / 4096 / 1024 % 1024) := by
    have h0 := wd_lo va; have h1 := wd_hi va; unfold at1; omega
  have ev : wd va % 4096 = va % 4096 := by unfold wd; omega
  unfold walkV; unfold findV at h
  rw [if_neg ht, e1]
  cases h1 : rd bs (t % 1048576 * 4096 + 4 * (wd va / 4096 / 1024 % 1024)) with
  | none => rw [h1] at h; obtain ⟨rfl, rfl⟩ := Prod.mk.inj h; rw [if_neg (by decide)]
  | some p =>
    rw [h1] at h
    dsimp only at h ⊢
    by_cases hb : bad1 p
    · rw [if_neg ((bad1_iff' p).1 hb)] at h
      obtain ⟨rfl, rfl⟩ := Prod.mk.inj h
      rw [if_pos hb, if_neg (by omega)]
    · rw [if_pos (by have := mt (bad1_iff' p).2 hb; exact Classical.not_not.1 this)] at h
      rw [if_neg hb]
      have e2 : at2 p (wd va) = p / 4096 * 4096 + 4 * (wd va / 4096 % 1024) := rfl
      rw [e2]
      cases h2 : rd bs (p / 4096 * 4096 + 4 * (wd va / 4096 % 1024)) with
      | none => rw [h2] at h; obtain ⟨rfl, rfl⟩ := Prod.mk.inj h; rw [if_neg (by decide)]
      | some e =>
        rw [h2] at h
        dsimp only at h ⊢
        by_cases hg : bad2 e kind user
        · rw [if_neg (by rw [gate2_iff]; exact fun h => h hg)] at h
          obtain ⟨rfl, rfl⟩ := Prod.mk.inj h
          rw [if_pos hg, if_neg (by omega)]
        · rw [if_pos ((gate2_iff _ _ _).2 hg)] at h
          obtain ⟨rfl, rfl⟩ := Prod.mk.inj h
          rw [if_neg hg, if_pos rfl, ev]
theorem mapV_find (bs : List Int) (t vpn : Int) (ht : ¬ t / 2147483648 % 2 = 0) {x c : Int}
    (h : findV bs (t % 1048576) (vpn / 1024 % 1024) (vpn % 1024) 1 1 6 = (x, c)) :
    mapV bs t vpn = if c = 0 then some x else none := by
  have e1 : at1 t (vpn % 1048576 * 4096) = t % 1048576 * 4096 + 4 * (vpn / 1024 % 1024) := by unfold at1; omega
  unfold mapV; unfold findV at h
  rw [if_neg ht, e1]
  cases h1 : rd bs (t % 1048576 * 4096 + 4 * (vpn / 1024 % 1024)) with
  | none => rw [h1] at h; obtain ⟨rfl, rfl⟩ := Prod.mk.inj h; rw [if_neg (by decide)]
  | some p =>
    rw [h1] at h
    dsimp only at h ⊢
    by_cases hb : bad1 p
    · rw [if_neg ((bad1_iff' p).1 hb)] at h
      obtain ⟨rfl, rfl⟩ := Prod.mk.inj h
      rw [if_pos hb, if_neg (by decide)]
    · rw [if_pos (by have := mt (bad1_iff' p).2 hb; exact Classical.not_not.1 this)] at h
      rw [if_neg hb]
      have e2 : at2 p (vpn % 1048576 * 4096) = p / 4096 * 4096 + 4 * (vpn % 1024) := by unfold at2; omega
      rw [e2]
      cases h2 : rd bs (p / 4096 * 4096 + 4 * (vpn % 1024)) with
      | none => rw [h2] at h; obtain ⟨rfl, rfl⟩ := Prod.mk.inj h; rw [if_neg (by decide)]
      | some e =>
        rw [h2] at h
        dsimp only at h ⊢
        rw [and1] at h
        by_cases hg : e % 2 = 0
        · rw [if_neg (by omega)] at h
          obtain ⟨rfl, rfl⟩ := Prod.mk.inj h
          rw [if_pos hg, if_neg (by decide)]
        · rw [if_pos (by omega)] at h
          obtain ⟨rfl, rfl⟩ := Prod.mk.inj h
          rw [if_neg hg, if_pos rfl]
theorem findV_bd {bs : List Int} (hb : Byt bs) (T I J seen want fault : Int) : 0 ≤ (findV bs T I J seen want fault).1 ∧ (findV bs T I J seen want fault).1 ≤ 4294967295 := by
  unfold findV
  split
  · exact ⟨Int.le_refl _, (by decide : (0 : Int) ≤ 4294967295)⟩
  · split
    · split
      · exact ⟨Int.le_refl _, (by decide : (0 : Int) ≤ 4294967295)⟩
      · rename_i e he
        split
        · exact rd_bd hb he
        · exact ⟨Int.le_refl _, (by decide : (0 : Int) ≤ 4294967295)⟩
    · exact ⟨Int.le_refl _, (by decide : (0 : Int) ≤ 4294967295)⟩
theorem findV_no {bs : List Int} {T I J seen want fault x c : Int} (h : findV bs T I J seen want fault = (x, c)) (hc : ¬ c = 0) : x = 0 := by
  unfold findV at h
  split at h
  · exact (Prod.mk.inj h).1.symm
  · split at h
    · split at h
      · exact (Prod.mk.inj h).1.symm
      · split at h
        · exact absurd (Prod.mk.inj h).2.symm hc
        · exact (Prod.mk.inj h).1.symm
    · exact (Prod.mk.inj h).1.symm
/-- Walk. -/
theorem walk_says {w : World} {h g : Nat} {bs : List Int} (hm : Mem 87 w h g bs) (ptbr va kind : Int) (user : Bool) :
    Calls Tryz.prog 119 #[.iface 63 (.pointer (some ⟨h, 0, none⟩)), i64 ptbr, i64 va, i64 kind, .bool user] w (Found w (walkV bs ptbr va kind user)) := by
  obtain ⟨r, hr⟩ : ∃ r, r = Found w (walkV bs ptbr va kind user) := ⟨_, rfl⟩
  rw [← hr]
  have hout : ∀ v w', v = walkV bs ptbr va kind user → Below w.heap.size w w' → r (.returned (.tuple #[i64 v.1, i64 v.2])) w' := by
    intro v w' h1 h2; rw [hr, h1]; exact ⟨rfl, h2⟩
  clear hr
  by_cases ht : ptbr / 2147483648 % 2 = 0
  · have hv : (wd va, (0 : Int)) = walkV bs ptbr va kind user := by unfold walkV; rw [if_pos ht]
    have hb : (ptbr / 2147483648 % 2 == 1) = false := by rw [ht]; rfl
    have HV := Lib.hid hv; clear hv ht
    go_enter Tryz.func119, Tryz.ntmps119
    go_wp2_with (first
      | (go_at_call 158; refine (tables_says _ _).mono ?_; rintro e t' ⟨rfl, rfl⟩; rw [hb])
      | (go_at_call 27; refine (of_says _ _).mono ?_; rintro e t' ⟨rfl, rfl⟩))
    exact hout _ _ HV.out (Below.refl _ _)
  · have hb : (ptbr / 2147483648 % 2 == 1) = true := by rw [show ptbr / 2147483648 % 2 = 1 by omega]; rfl
    obtain ⟨x, c, hf⟩ : ∃ x c, findV bs (ptbr % 1048576) (wd va / 4096 / 1024 % 1024) (wd va / 4096 % 1024) (sn kind user) (wn kind user) (5 + kk kind) = (x, c) := ⟨_, _, rfl⟩
    have hv := walkV_find bs ptbr va kind user ht hf
    have bx := findV_bd hm.byt (ptbr % 1048576) (wd va / 4096 / 1024 % 1024) (wd va / 4096 % 1024) (sn kind user) (wn kind user) (5 + kk kind)
    rw [hf] at bx
    dsimp only at bx
    have ex : wd x = x := wd_eq _ bx.1 bx.2
    have HV := Lib.hid hv; have HF := Lib.hid hf; have EX := Lib.hid ex; clear hv hf ex ht
    by_cases hc : c = 0
    · subst hc
      go_enter Tryz.func119, Tryz.ntmps119
      go_wp2_with (first
        | (go_at_call 158; refine (tables_says _ _).mono ?_; rintro e t' ⟨rfl, rfl⟩; rw [hb])
        | (go_at_call 159; refine (asks_says _ _).mono ?_; rintro e w1 ⟨rfl, hb1⟩)
        | (go_at_call 161; refine (bits_says _ _ _ _).mono ?_; rintro e t' ⟨rfl, rfl⟩; first | rw [bt_31_12] | rw [bt_11_0])
        | (go_at_call 162; refine (page_says _ _ _).mono ?_; rintro e w2 ⟨rfl, hb2⟩)
        | (go_at_call 160; refine (find_says ((hm.grow hb1).grow hb2) _ _ _ _ _).mono ?_; rintro e w3 ⟨rfl, hb3⟩; rw [HF.out])
        | (go_at_call 163; refine (frame_says _ _).mono ?_; rintro e t' ⟨rfl, rfl⟩; rw [EX.out]))
      exact hout _ _ (HV.out.trans (if_pos trivial)).symm ((hb1.trans (hb2.mono hb1.size)).trans (hb3.mono (Nat.le_trans hb1.size hb2.size)))
    · have bc : (c != 0) = true := by simpa using hc
      go_enter Tryz.func119, Tryz.ntmps119
      go_wp2_with (first
        | (go_at_call 158; refine (tables_says _ _).mono ?_; rintro e t' ⟨rfl, rfl⟩; rw [hb])
        | (go_at_call 159; refine (asks_says _ _).mono ?_; rintro e w1 ⟨rfl, hb1⟩)
        | (go_at_call 161; refine (bits_says _ _ _ _).mono ?_; rintro e t' ⟨rfl, rfl⟩; first | rw [bt_31_12] | rw [bt_11_0])
        | (go_at_call 162; refine (page_says _ _ _).mono ?_; rintro e w2 ⟨rfl, hb2⟩)
        | (go_at_call 160; refine (find_says ((hm.grow hb1).grow hb2) _ _ _ _ _).mono ?_; rintro e w3 ⟨rfl, hb3⟩; rw [HF.out]))
      exact hout _ _ (HV.out.trans (if_neg hc)).symm ((hb1.trans (hb2.mono hb1.size)).trans (hb3.mono (Nat.le_trans hb1.size hb2.size)))
/-- Map. -/
def Mapped (w : World) (o : Option Int) (e : Ending) (w' : World) : Prop := e = .returned (.tuple #[i64 (o.getD 0), .bool o.isSome]) ∧ Below w.heap.size w w'
end Go.Proofs.YtfcmodllbhpniaaGreatDoor
