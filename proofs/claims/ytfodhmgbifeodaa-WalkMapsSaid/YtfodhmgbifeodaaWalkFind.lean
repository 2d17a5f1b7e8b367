/-
  The way through both tables: find.
-/
import Derived.Test.YtfodhmgbifeodaaWalk
import Derived.Test.YtfodhmgbifeodaaPhysAlive
namespace Go.Proofs.Ytfodhmgbifeodaa
open Go.ChangeShapes Go.WideShapes Go.ChangeAt Go.RowKit
theorem load_yes {w : World} {h g : Nat} {bs : List Int} (hm : Mem 61 w h g bs) (a p : Int) (hr : rd bs a = some p) :
    Calls Try.prog 45 #[.pointer (some ⟨h, 0, none⟩), i64 a, i64 4] w fun e w' => e = .returned (.tuple #[i64 p, .bool true]) ∧ w = w' := by
  unfold rd at hr
  split at hr
  · rename_i hk
    have hl := hm.le
    have ha := hk.2.2
    unfold fitm at ha
    refine (load_says hm a 4 (by omega)).mono ?_
    rintro e w' ⟨rfl, rfl⟩
    rw [Option.some.inj hr, decide_eq_true hk]; exact ⟨rfl, rfl⟩
  · cases hr
theorem load_none {w : World} {h g : Nat} {bs : List Int} (hm : Mem 61 w h g bs) (a : Int) (ha : -9223372036854775808 ≤ a ∧ a ≤ 9223372036854775807) (hr : rd bs a = none) :
    Calls Try.prog 45 #[.pointer (some ⟨h, 0, none⟩), i64 a, i64 4] w fun e w' => e = .returned (.tuple #[i64 0, .bool false]) ∧ w = w' := by
  unfold rd at hr
  split at hr
  · cases hr
  · rename_i hk
    refine (load_says hm a 4 ha).mono ?_
    rintro e w' ⟨rfl, rfl⟩
    have e0 : ldv bs a 4 = 0 := by unfold ldv; rw [if_neg hk]
    rw [e0, decide_eq_false hk]; exact ⟨rfl, rfl⟩
theorem kept1 (w : World) (s t : Int) (ty : TypeId) : (w.alloc (.cells #[.int .i64 s, .int .i64 t] ty)).drew.cell? ⟨w.heap.size, 0, none⟩ = some (.int .i64 s) ∧ (w.alloc (.cells #[.int .i64 s, .int .i64 t] ty)).drew.cell? ⟨w.heap.size, 1, none⟩ = some (.int .i64 t) := by
  have h : (w.alloc (.cells #[.int .i64 s, .int .i64 t] ty)).drew.heap[w.heap.size]? = some (.cells #[.int .i64 s, .int .i64 t] ty (0, 0)) := heap_alloc_new _ _
  exact ⟨by rw [cell_of_row _ _ _ _ _ _ h]; rfl, by rw [cell_of_row _ _ _ _ _ _ h]; rfl⟩
theorem kept2 (w : World) (s t : Int) (ty : TypeId) (o : Obj) : ((w.alloc (.cells #[.int .i64 s, .int .i64 t] ty)).alloc o).drew.cell? ⟨w.heap.size, 0, none⟩ = some (.int .i64 s) ∧ ((w.alloc (.cells #[.int .i64 s, .int .i64 t] ty)).alloc o).drew.cell? ⟨w.heap.size, 1, none⟩ = some (.int .i64 t) := by
  have h : ((w.alloc (.cells #[.int .i64 s, .int .i64 t] ty)).alloc o).drew.heap[w.heap.size]? = some (.cells #[.int .i64 s, .int .i64 t] ty (0, 0)) := heap_alloc2_old _ _ _
  exact ⟨by rw [cell_of_row _ _ _ _ _ _ h]; rfl, by rw [cell_of_row _ _ _ _ _ _ h]; rfl⟩
/-- The call through the interface (FUEL: as the walk's goal shows it: the program's number of types). -/
theorem method_load (a : Addr) (w : World) : (method 185 24 (.pointer (some a)) "Load").run Try.prog w = .ok (45, .pointer (some a)) w := by kernel_rfl
theorem nil_ahead (a : Addr) (w : World) : (nilAhead 185 24 (.pointer (some a)) "Load").run Try.prog w = .ok (some false) w := by kernel_rfl
/-- What find answers: of the first table's frame, the two indexes. -/
def findV (bs : List Int) (T I J seen want fault : Int) : Int × Int :=
  match rd bs (T * 4096 + 4 * I) with
  | none => (0, 4)
  | some p =>
    if bits .and .i64 p 31 = 1 then
      match rd bs (p / 4096 * 4096 + 4 * J) with
      | none => (0, 4)
      | some e => if bits .and .i64 e seen = want then (e, 0) else (0, fault)
    else (0, fault)
theorem grown3 (w : World) (o p q : Obj) : Below w.heap.size w ((((w.alloc o).alloc p).drew).alloc q) :=
  ((grown_two w o p).drew).alloc (by show w.heap.size ≤ ((w.heap.push o).push p).size; simp; omega) q
theorem grown4 (w : World) (o p q r : Obj) : Below w.heap.size w (((((w.alloc o).alloc p).drew).alloc q).alloc r) :=
  (grown3 w o p q).alloc (by show w.heap.size ≤ (((w.heap.push o).push p).push q).size; simp; omega) r
/-- The frame at a jump: a cause is told. -/
def Jump (r : Ending → World → Prop) (a' : Act) (w' : World) : Prop :=
  ∃ c : Int, r (.returned (.tuple #[i64 0, i64 c])) w' ∧ ∃ (u0 u1 u2 u3 u4 u5 u6 u7 u8 u9 u10 u12 u13 u14 u15 u16 u17 u18 u19 u20 u21 u22 u23 u24 u25 u26 u27 u28 u29 u30 u31 u32 u33 u34 u35 u36 u37 u38 u39 u40 u41 u42 u43 u44 u45 u46 u47 u48 u49 u50 u51 u52 u53 u54 u55 u56 u57 u58 u59 u60 u61 u62 : Value), a' = { tmps := #[u0, u1, u2, u3, u4, u5, u6, u7, u8, u9, u10, .int .i64 c, u12, u13, u14, u15, u16, u17, u18, u19, u20, u21, u22, u23, u24, u25, u26, u27, u28, u29, u30, u31, u32, u33, u34, u35, u36, u37, u38, u39, u40, u41, u42, u43, u44, u45, u46, u47, u48, u49, u50, u51, u52, u53, u54, u55, u56, u57, u58, u59, u60, u61, u62], defers := [] }
def Found (w : World) (v : Int × Int) (e : Ending) (w' : World) : Prop := e = .returned (.tuple #[i64 v.1, i64 v.2]) ∧ Below w.heap.size w w'
set_option maxRecDepth 100000 in
set_option maxHeartbeats 2000000 in
theorem find_says {w : World} {h g : Nat} {bs : List Int} (hm : Mem 61 w h g bs) (ptbr vpn seen want fault : Int) :
    Calls Try.prog 21 #[.iface 24 (.pointer (some ⟨h, 0, none⟩)), i64 ptbr, i64 vpn, .agg #[i64 seen, i64 want], i64 fault] w (Found w (findV bs (ptbr % 1048576) (vpn / 1024 % 1024) (vpn % 1024) seen want fault)) := by
  obtain ⟨T, hT⟩ : ∃ T, T = ptbr % 1048576 := ⟨_, rfl⟩
  obtain ⟨I, hI⟩ : ∃ I, I = vpn / 1024 % 1024 := ⟨_, rfl⟩
  obtain ⟨J, hJ⟩ : ∃ J, J = vpn % 1024 := ⟨_, rfl⟩
  rw [← hT, ← hI, ← hJ]
  obtain ⟨r, hr⟩ : ∃ r, r = Found w (findV bs T I J seen want fault) := ⟨_, rfl⟩
  rw [← hr]
  have hout : ∀ v w', v = findV bs T I J seen want fault → Below w.heap.size w w' → r (.returned (.tuple #[i64 v.1, i64 v.2])) w' := by
    intro v w' h1 h2; rw [hr, h1]; exact ⟨rfl, h2⟩
  clear hr
  have bT : 0 ≤ T ∧ T ≤ 1048575 := by omega
  have bI : 0 ≤ I ∧ I ≤ 1023 := by omega
  have bJ : 0 ≤ J ∧ J ≤ 1023 := by omega
  have i0 : ∀ u, (Instr.index 65 (.agg #[.int .i64 I, .int .i64 31, .int .i64 1, .int .i64 J, .int .i64 seen, .int .i64 want]) (.int .i64 0)).run Try.prog u = .ok (.agg #[.int .i64 I, .int .i64 31, .int .i64 1]) u := fun _ => by kernel_rfl
  have i1 : ∀ u, (Instr.index 65 (.agg #[.int .i64 I, .int .i64 31, .int .i64 1, .int .i64 J, .int .i64 seen, .int .i64 want]) (.int .i64 1)).run Try.prog u = .ok (.agg #[.int .i64 J, .int .i64 seen, .int .i64 want]) u := fun _ => by kernel_rfl
  have hml := method_load
  have hnl := nil_ahead
  have HT := Lib.hid hT; have HI := Lib.hid hI; have HJ := Lib.hid hJ; clear hT hI hJ
  go_enter Try.func21, Try.ntmps21
  go_wp2
  refine wp_scope_jumps 0 (Jump r) (fun _ _ => 0) rfl ?_ ?_
  rotate_left
  · rintro a' w' ⟨c, hc, u0, u1, u2, u3, u4, u5, u6, u7, u8, u9, u10, u12, u13, u14, u15, u16, u17, u18, u19, u20, u21, u22, u23, u24, u25, u26, u27, u28, u29, u30, u31, u32, u33, u34, u35, u36, u37, u38, u39, u40, u41, u42, u43, u44, u45, u46, u47, u48, u49, u50, u51, u52, u53, u54, u55, u56, u57, u58, u59, u60, u61, u62, rfl⟩
    go_wp2
    exact hc
  · go_upto_region 1 with fail
    go_cut [12] from 18 (fun s12 wc => s12 = .pointer (some ⟨w.heap.size + 1, 0, none⟩) ∧ wc = ((w.alloc (.cells #[.int .i64 seen, .int .i64 want] 52)).alloc (.cells #[.int .i64 I, .int .i64 31, .int .i64 1, .int .i64 J, .int .i64 seen, .int .i64 want] 65)).drew)
    case first =>
      refine wp_region_held_drew (S := (fun u => u.cell? ⟨w.heap.size, 0, none⟩ = some (.int .i64 seen) ∧ u.cell? ⟨w.heap.size, 1, none⟩ = some (.int .i64 want))) (by kernel_rfl) ?_ (fun hH0 => ?_)
      · ((try dsimp only); first | exact kept1 _ _ _ _ | exact kept2 _ _ _ _ _)
      refine wpAnyH_take (i := 0) (oi := { dst := some 18, op := Go.Op.move (Go.Operand.tmp 2), type := 3, pos := "walk.go:47", after := #[], guard := none }) (v := ?_) rfl (by kernel_rfl) (by kernel_rfl) (by kernel_rfl) (fun _ _ _ h => h) (Or.inl ⟨by rfl, ?_⟩) (by assumption) ?_
      rotate_left
      · ((intro w hSw; (try dsimp only at hSw); go_simp) <;> (with_reducible rfl))
      try simp only [Act.put, List.setIfInBounds_toArray, List.set_cons_zero, List.set_cons_succ]
      refine wpAnyH_take (i := 2) (oi := { dst := some 20, op := Go.Op.build 52 #[(0, Go.Operand.const (Go.Value.int Go.IntKind.i64 31)), (1, Go.Operand.const (Go.Value.int Go.IntKind.i64 1))], type := 52, pos := "walk.go:47", after := #[], guard := none }) (v := ?_) rfl (by kernel_rfl) (by kernel_rfl) (by kernel_rfl) (fun _ _ _ h => h) (Or.inl ⟨by rfl, ?_⟩) (by assumption) ?_
      rotate_left
      · ((intro w hSw; (try dsimp only at hSw); go_simp) <;> (with_reducible rfl))
      try simp only [Act.put, List.setIfInBounds_toArray, List.set_cons_zero, List.set_cons_succ]
      refine wpAnyH_take (i := 4) (oi := { dst := some 22, op := Go.Op.move (Go.Operand.tmp 2), type := 3, pos := "walk.go:47", after := #[], guard := none }) (v := ?_) rfl (by kernel_rfl) (by kernel_rfl) (by kernel_rfl) (fun _ _ _ h => h) (Or.inl ⟨by rfl, ?_⟩) (by assumption) ?_
      rotate_left
      · ((intro w hSw; (try dsimp only at hSw); go_simp) <;> (with_reducible rfl))
      try simp only [Act.put, List.setIfInBounds_toArray, List.set_cons_zero, List.set_cons_succ]
      refine wpAnyH_take (i := 6) (oi := { dst := some 24, op := Go.Op.load 52 (Go.Operand.tmp 8), type := 52, pos := "walk.go:47", after := #[], guard := none }) (v := ?_) rfl (by kernel_rfl) (by kernel_rfl) (by kernel_rfl) (fun _ _ _ h => h) (Or.inl ⟨by rfl, ?_⟩) (by assumption) ?_
      rotate_left
      · ((intro w hSw; (try dsimp only at hSw); go_simp) <;> (with_reducible rfl))
      try simp only [Act.put, List.setIfInBounds_toArray, List.set_cons_zero, List.set_cons_succ]
      refine wpAnyH_ready (rs := [1, 9]) (by kernel_rfl) (by simp) ?_
      refine AllReadyH.cons (o := { dst := some 19, op := Go.Op.call { callee := Go.Callee.value (Go.Operand.func 25), args := #[Go.Operand.tmp 18, Go.Operand.const (Go.Value.int Go.IntKind.i64 19), Go.Operand.const (Go.Value.int Go.IntKind.i64 10)], argTypes := #[3, 3, 3] }, type := 3, pos := "walk.go:51", after := #[{ on := 0, ground := Go.Ground.data }], guard := none }) rfl (fun K hK => ?_) ?_
      · go_simp
        (go_at_call 25; refine (bits_says _ _ _ _).mono ?_; rintro e t' ⟨rfl, rfl⟩; first | rw [bt_19_10, ← HI.out] | rw [bt_9_0, ← HJ.out])
        refine hK.out _ _ ?_ (fun hH1 => ?_)
        · ((try dsimp only); first | exact kept1 _ _ _ _ | exact kept2 _ _ _ _ _)
        clear hK K hH0
        try simp only [Act.put, List.setIfInBounds_toArray, List.set_cons_zero, List.set_cons_succ]
        refine wpAnyH_take (i := 3) (oi := { dst := some 21, op := Go.Op.build 64 #[(0, Go.Operand.tmp 19), (1, Go.Operand.tmp 20)], type := 64, pos := "walk.go:47", after := #[{ on := 1, ground := Go.Ground.data }, { on := 2, ground := Go.Ground.data }], guard := none }) (v := ?_) rfl (by kernel_rfl) (by kernel_rfl) (by kernel_rfl) (fun _ _ _ h => h) (Or.inl ⟨by rfl, ?_⟩) (by assumption) ?_
        rotate_left
        · ((intro w hSw; (try dsimp only at hSw); go_simp) <;> (with_reducible rfl))
        try simp only [Act.put, List.setIfInBounds_toArray, List.set_cons_zero, List.set_cons_succ]
        refine wpAnyH_ready (rs := [5, 9]) (by kernel_rfl) (by simp) ?_
        refine AllReadyH.cons (o := { dst := some 23, op := Go.Op.call { callee := Go.Callee.value (Go.Operand.func 25), args := #[Go.Operand.tmp 22, Go.Operand.const (Go.Value.int Go.IntKind.i64 9), Go.Operand.const (Go.Value.int Go.IntKind.i64 0)], argTypes := #[3, 3, 3] }, type := 3, pos := "walk.go:52", after := #[{ on := 4, ground := Go.Ground.data }, { on := 1, ground := Go.Ground.chain }], guard := none }) rfl (fun K hK => ?_) ?_
        · go_simp
          (go_at_call 25; refine (bits_says _ _ _ _).mono ?_; rintro e t' ⟨rfl, rfl⟩; first | rw [bt_19_10, ← HI.out] | rw [bt_9_0, ← HJ.out])
          refine hK.out _ _ ?_ (fun hH2 => ?_)
          · ((try dsimp only); first | exact kept1 _ _ _ _ | exact kept2 _ _ _ _ _)
          clear hK K hH1
          try simp only [Act.put, List.setIfInBounds_toArray, List.set_cons_zero, List.set_cons_succ]
          refine wpAnyH_take (i := 7) (oi := { dst := some 25, op := Go.Op.build 64 #[(0, Go.Operand.tmp 23), (1, Go.Operand.tmp 24)], type := 64, pos := "walk.go:47", after := #[{ on := 5, ground := Go.Ground.data }, { on := 6, ground := Go.Ground.data }], guard := none }) (v := ?_) rfl (by kernel_rfl) (by kernel_rfl) (by kernel_rfl) (fun _ _ _ h => h) (Or.inl ⟨by rfl, ?_⟩) (by assumption) ?_
          rotate_left
          · ((intro w hSw; (try dsimp only at hSw); go_simp) <;> (with_reducible rfl))
          try simp only [Act.put, List.setIfInBounds_toArray, List.set_cons_zero, List.set_cons_succ]
          refine wpAnyH_take (i := 8) (oi := { dst := some 26, op := Go.Op.build 65 #[(0, Go.Operand.tmp 21), (1, Go.Operand.tmp 25)], type := 65, pos := "walk.go:47", after := #[{ on := 3, ground := Go.Ground.data }, { on := 7, ground := Go.Ground.data }], guard := none }) (v := ?_) rfl (by kernel_rfl) (by kernel_rfl) (by kernel_rfl) (fun _ _ _ h => h) (Or.inl ⟨by rfl, ?_⟩) (by assumption) ?_
          rotate_left
          · ((intro w hSw; (try dsimp only at hSw); go_simp) <;> (with_reducible rfl))
          try simp only [Act.put, List.setIfInBounds_toArray, List.set_cons_zero, List.set_cons_succ]
          refine wpAnyH_ready (rs := [9]) (by kernel_rfl) (by simp) ?_
          refine AllReadyH.cons (o := { dst := some 12, op := Go.Op.alloc 65, type := 0, pos := "walk.go:47", after := #[], guard := none }) rfl (fun K hK => ?_) AllReadyH.nil
          go_simp
          refine hK.out _ _ ?_ (fun hH3 => ?_)
          · ((try dsimp only); first | exact kept1 _ _ _ _ | exact kept2 _ _ _ _ _)
          clear hK K hH2
          try simp only [Act.put, List.setIfInBounds_toArray, List.set_cons_zero, List.set_cons_succ]
          refine wpAnyH_ready (rs := [10]) (by kernel_rfl) (by simp) ?_
          refine AllReadyH.cons (o := { dst := none, op := Go.Op.store 65 (Go.Operand.tmp 12) (Go.Operand.tmp 26), type := 0, pos := "walk.go:47", after := #[{ on := 9, ground := Go.Ground.data }, { on := 8, ground := Go.Ground.data }, { on := 5, ground := Go.Ground.chain }, { on := 0, ground := Go.Ground.phase }, { on := 1, ground := Go.Ground.phase }, { on := 2, ground := Go.Ground.phase }, { on := 3, ground := Go.Ground.phase }, { on := 4, ground := Go.Ground.phase }, { on := 5, ground := Go.Ground.phase }, { on := 6, ground := Go.Ground.phase }, { on := 7, ground := Go.Ground.phase }, { on := 8, ground := Go.Ground.phase }, { on := 9, ground := Go.Ground.phase }], guard := none }) rfl (fun K hK => ?_) AllReadyH.nil
          go_simp
          refine hK.out _ _ ?_ (fun hH4 => ?_)
          · ((try dsimp only); first | exact kept1 _ _ _ _ | exact kept2 _ _ _ _ _)
          clear hK K hH3
          try simp only [Act.put, List.setIfInBounds_toArray, List.set_cons_zero, List.set_cons_succ]
          refine wpAnyH_done (by kernel_rfl) ?_ _
          go_wp2_with fail; go_meet; case rel => exact ⟨rfl, rfl⟩
        refine AllReadyH.cons (o := { dst := some 12, op := Go.Op.alloc 65, type := 0, pos := "walk.go:47", after := #[], guard := none }) rfl (fun K hK => ?_) ?_
        · go_simp
          refine hK.out _ _ ?_ (fun hH2 => ?_)
          · ((try dsimp only); first | exact kept1 _ _ _ _ | exact kept2 _ _ _ _ _)
          clear hK K hH1
          try simp only [Act.put, List.setIfInBounds_toArray, List.set_cons_zero, List.set_cons_succ]
          refine wpAnyH_ready (rs := [5]) (by kernel_rfl) (by simp) ?_
          refine AllReadyH.cons (o := { dst := some 23, op := Go.Op.call { callee := Go.Callee.value (Go.Operand.func 25), args := #[Go.Operand.tmp 22, Go.Operand.const (Go.Value.int Go.IntKind.i64 9), Go.Operand.const (Go.Value.int Go.IntKind.i64 0)], argTypes := #[3, 3, 3] }, type := 3, pos := "walk.go:52", after := #[{ on := 4, ground := Go.Ground.data }, { on := 1, ground := Go.Ground.chain }], guard := none }) rfl (fun K hK => ?_) AllReadyH.nil
          go_simp
          (go_at_call 25; refine (bits_says _ _ _ _).mono ?_; rintro e t' ⟨rfl, rfl⟩; first | rw [bt_19_10, ← HI.out] | rw [bt_9_0, ← HJ.out])
          refine hK.out _ _ ?_ (fun hH3 => ?_)
          · ((try dsimp only); first | exact kept1 _ _ _ _ | exact kept2 _ _ _ _ _)
          clear hK K hH2
          try simp only [Act.put, List.setIfInBounds_toArray, List.set_cons_zero, List.set_cons_succ]
          refine wpAnyH_take (i := 7) (oi := { dst := some 25, op := Go.Op.build 64 #[(0, Go.Operand.tmp 23), (1, Go.Operand.tmp 24)], type := 64, pos := "walk.go:47", after := #[{ on := 5, ground := Go.Ground.data }, { on := 6, ground := Go.Ground.data }], guard := none }) (v := ?_) rfl (by kernel_rfl) (by kernel_rfl) (by kernel_rfl) (fun _ _ _ h => h) (Or.inl ⟨by rfl, ?_⟩) (by assumption) ?_
          rotate_left
          · ((intro w hSw; (try dsimp only at hSw); go_simp) <;> (with_reducible rfl))
          try simp only [Act.put, List.setIfInBounds_toArray, List.set_cons_zero, List.set_cons_succ]
          refine wpAnyH_take (i := 8) (oi := { dst := some 26, op := Go.Op.build 65 #[(0, Go.Operand.tmp 21), (1, Go.Operand.tmp 25)], type := 65, pos := "walk.go:47", after := #[{ on := 3, ground := Go.Ground.data }, { on := 7, ground := Go.Ground.data }], guard := none }) (v := ?_) rfl (by kernel_rfl) (by kernel_rfl) (by kernel_rfl) (fun _ _ _ h => h) (Or.inl ⟨by rfl, ?_⟩) (by assumption) ?_
          rotate_left
          · ((intro w hSw; (try dsimp only at hSw); go_simp) <;> (with_reducible rfl))
          try simp only [Act.put, List.setIfInBounds_toArray, List.set_cons_zero, List.set_cons_succ]
          refine wpAnyH_ready (rs := [10]) (by kernel_rfl) (by simp) ?_
          refine AllReadyH.cons (o := { dst := none, op := Go.Op.store 65 (Go.Operand.tmp 12) (Go.Operand.tmp 26), type := 0, pos := "walk.go:47", after := #[{ on := 9, ground := Go.Ground.data }, { on := 8, ground := Go.Ground.data }, { on := 5, ground := Go.Ground.chain }, { on := 0, ground := Go.Ground.phase }, { on := 1, ground := Go.Ground.phase }, { on := 2, ground := Go.Ground.phase }, { on := 3, ground := Go.Ground.phase }, { on := 4, ground := Go.Ground.phase }, { on := 5, ground := Go.Ground.phase }, { on := 6, ground := Go.Ground.phase }, { on := 7, ground := Go.Ground.phase }, { on := 8, ground := Go.Ground.phase }, { on := 9, ground := Go.Ground.phase }], guard := none }) rfl (fun K hK => ?_) AllReadyH.nil
          go_simp
          refine hK.out _ _ ?_ (fun hH4 => ?_)
          · ((try dsimp only); first | exact kept1 _ _ _ _ | exact kept2 _ _ _ _ _)
          clear hK K hH3
          try simp only [Act.put, List.setIfInBounds_toArray, List.set_cons_zero, List.set_cons_succ]
          refine wpAnyH_done (by kernel_rfl) ?_ _
          go_wp2_with fail; go_meet; case rel => exact ⟨rfl, rfl⟩
        exact AllReadyH.nil
      refine AllReadyH.cons (o := { dst := some 12, op := Go.Op.alloc 65, type := 0, pos := "walk.go:47", after := #[], guard := none }) rfl (fun K hK => ?_) ?_
      · go_simp
        refine hK.out _ _ ?_ (fun hH1 => ?_)
        · ((try dsimp only); first | exact kept1 _ _ _ _ | exact kept2 _ _ _ _ _)
        clear hK K hH0
        try simp only [Act.put, List.setIfInBounds_toArray, List.set_cons_zero, List.set_cons_succ]
        refine wpAnyH_ready (rs := [1]) (by kernel_rfl) (by simp) ?_
        refine AllReadyH.cons (o := { dst := some 19, op := Go.Op.call { callee := Go.Callee.value (Go.Operand.func 25), args := #[Go.Operand.tmp 18, Go.Operand.const (Go.Value.int Go.IntKind.i64 19), Go.Operand.const (Go.Value.int Go.IntKind.i64 10)], argTypes := #[3, 3, 3] }, type := 3, pos := "walk.go:51", after := #[{ on := 0, ground := Go.Ground.data }], guard := none }) rfl (fun K hK => ?_) AllReadyH.nil
        go_simp
        (go_at_call 25; refine (bits_says _ _ _ _).mono ?_; rintro e t' ⟨rfl, rfl⟩; first | rw [bt_19_10, ← HI.out] | rw [bt_9_0, ← HJ.out])
        refine hK.out _ _ ?_ (fun hH2 => ?_)
        · ((try dsimp only); first | exact kept1 _ _ _ _ | exact kept2 _ _ _ _ _)
        clear hK K hH1
        try simp only [Act.put, List.setIfInBounds_toArray, List.set_cons_zero, List.set_cons_succ]
        refine wpAnyH_take (i := 3) (oi := { dst := some 21, op := Go.Op.build 64 #[(0, Go.Operand.tmp 19), (1, Go.Operand.tmp 20)], type := 64, pos := "walk.go:47", after := #[{ on := 1, ground := Go.Ground.data }, { on := 2, ground := Go.Ground.data }], guard := none }) (v := ?_) rfl (by kernel_rfl) (by kernel_rfl) (by kernel_rfl) (fun _ _ _ h => h) (Or.inl ⟨by rfl, ?_⟩) (by assumption) ?_
        rotate_left
        · ((intro w hSw; (try dsimp only at hSw); go_simp) <;> (with_reducible rfl))
        try simp only [Act.put, List.setIfInBounds_toArray, List.set_cons_zero, List.set_cons_succ]
        refine wpAnyH_ready (rs := [5]) (by kernel_rfl) (by simp) ?_
        refine AllReadyH.cons (o := { dst := some 23, op := Go.Op.call { callee := Go.Callee.value (Go.Operand.func 25), args := #[Go.Operand.tmp 22, Go.Operand.const (Go.Value.int Go.IntKind.i64 9), Go.Operand.const (Go.Value.int Go.IntKind.i64 0)], argTypes := #[3, 3, 3] }, type := 3, pos := "walk.go:52", after := #[{ on := 4, ground := Go.Ground.data }, { on := 1, ground := Go.Ground.chain }], guard := none }) rfl (fun K hK => ?_) AllReadyH.nil
        go_simp
        (go_at_call 25; refine (bits_says _ _ _ _).mono ?_; rintro e t' ⟨rfl, rfl⟩; first | rw [bt_19_10, ← HI.out] | rw [bt_9_0, ← HJ.out])
        refine hK.out _ _ ?_ (fun hH3 => ?_)
        · ((try dsimp only); first | exact kept1 _ _ _ _ | exact kept2 _ _ _ _ _)
        clear hK K hH2
        try simp only [Act.put, List.setIfInBounds_toArray, List.set_cons_zero, List.set_cons_succ]
        refine wpAnyH_take (i := 7) (oi := { dst := some 25, op := Go.Op.build 64 #[(0, Go.Operand.tmp 23), (1, Go.Operand.tmp 24)], type := 64, pos := "walk.go:47", after := #[{ on := 5, ground := Go.Ground.data }, { on := 6, ground := Go.Ground.data }], guard := none }) (v := ?_) rfl (by kernel_rfl) (by kernel_rfl) (by kernel_rfl) (fun _ _ _ h => h) (Or.inl ⟨by rfl, ?_⟩) (by assumption) ?_
        rotate_left
        · ((intro w hSw; (try dsimp only at hSw); go_simp) <;> (with_reducible rfl))
        try simp only [Act.put, List.setIfInBounds_toArray, List.set_cons_zero, List.set_cons_succ]
        refine wpAnyH_take (i := 8) (oi := { dst := some 26, op := Go.Op.build 65 #[(0, Go.Operand.tmp 21), (1, Go.Operand.tmp 25)], type := 65, pos := "walk.go:47", after := #[{ on := 3, ground := Go.Ground.data }, { on := 7, ground := Go.Ground.data }], guard := none }) (v := ?_) rfl (by kernel_rfl) (by kernel_rfl) (by kernel_rfl) (fun _ _ _ h => h) (Or.inl ⟨by rfl, ?_⟩) (by assumption) ?_
        rotate_left
        · ((intro w hSw; (try dsimp only at hSw); go_simp) <;> (with_reducible rfl))
        try simp only [Act.put, List.setIfInBounds_toArray, List.set_cons_zero, List.set_cons_succ]
        refine wpAnyH_ready (rs := [10]) (by kernel_rfl) (by simp) ?_
        refine AllReadyH.cons (o := { dst := none, op := Go.Op.store 65 (Go.Operand.tmp 12) (Go.Operand.tmp 26), type := 0, pos := "walk.go:47", after := #[{ on := 9, ground := Go.Ground.data }, { on := 8, ground := Go.Ground.data }, { on := 5, ground := Go.Ground.chain }, { on := 0, ground := Go.Ground.phase }, { on := 1, ground := Go.Ground.phase }, { on := 2, ground := Go.Ground.phase }, { on := 3, ground := Go.Ground.phase }, { on := 4, ground := Go.Ground.phase }, { on := 5, ground := Go.Ground.phase }, { on := 6, ground := Go.Ground.phase }, { on := 7, ground := Go.Ground.phase }, { on := 8, ground := Go.Ground.phase }, { on := 9, ground := Go.Ground.phase }], guard := none }) rfl (fun K hK => ?_) AllReadyH.nil
        go_simp
        refine hK.out _ _ ?_ (fun hH4 => ?_)
        · ((try dsimp only); first | exact kept1 _ _ _ _ | exact kept2 _ _ _ _ _)
        clear hK K hH3
        try simp only [Act.put, List.setIfInBounds_toArray, List.set_cons_zero, List.set_cons_succ]
        refine wpAnyH_done (by kernel_rfl) ?_ _
        go_wp2_with fail; go_meet; case rel => exact ⟨rfl, rfl⟩
      exact AllReadyH.nil
    case rest =>
      obtain ⟨rfl, rfl⟩ := hcut
      go_wp2_with (go_at_call 25; refine (bits_says _ _ _ _).mono ?_; rintro e t' ⟨rfl, rfl⟩; rw [bt_19_0, ← HT.out])
      have hm2 := fun o => (((hm.alloc (.cells #[.int .i64 seen, .int .i64 want] 52)).alloc (.cells #[.int .i64 I, .int .i64 31, .int .i64 1, .int .i64 J, .int .i64 seen, .int .i64 want] 65)).grow (Below.refl _ _).drew).alloc o
      refine wp_loop_rounds 3 ?_
      rw [rounds_succ]
      have hm3 := fun o o2 => (hm2 o).alloc o2
      cases h1 : rd bs (T * 4096 + 4 * I) with
      | none =>
        go_wp2_with (go_at_call 45; refine (load_none (hm2 _) _ (by omega) h1).mono ?_; rintro e t' ⟨rfl, rfl⟩)
        go_step3
        exact ⟨rfl, 4, hout (0, 4) _ (by unfold findV; rw [h1]) (grown3 _ _ _ _), _, _, _, _, _, _, _, _, _, _, _, _, _, _, _, _, _, _, _, _, _, _, _, _, _, _, _, _, _, _, _, _, _, _, _, _, _, _, _, _, _, _, _, _, _, _, _, _, _, _, _, _, _, _, _, _, _, _, _, _, _, _, rfl⟩
      | some p =>
        have bp := rd_bd hm.byt h1
        have ep : wd p = p := wd_eq _ bp.1 bp.2
        obtain ⟨F, hF⟩ : ∃ F, F = p / 4096 := ⟨_, rfl⟩
        have bF : 0 ≤ F ∧ F ≤ 1048575 := by omega
        by_cases hg : bits .and .i64 p 31 = 1
        · have HF := Lib.hid hF; have EP := Lib.hid ep; have H1 := Lib.hid h1; clear hF ep h1 bp
          go_wp2_with (first
            | (go_at_call 45; refine (load_yes (hm2 _) _ _ H1.out).mono ?_; rintro e t' ⟨rfl, rfl⟩)
            | (go_at_call 23; refine (of_says _ _).mono ?_; rintro e t' ⟨rfl, rfl⟩; rw [EP.out])
            | (go_at_call 27; refine (frame_says _ _).mono ?_; rintro e t' ⟨rfl, rfl⟩; rw [EP.out, ← HF.out]))
          rw [rounds_succ]
          cases h2 : rd bs (F * 4096 + 4 * J) with
          | none =>
            go_wp2_with (go_at_call 45; refine (load_none (hm3 _ _) _ (by omega) h2).mono ?_; rintro e t' ⟨rfl, rfl⟩)
            go_step3
            exact ⟨rfl, 4, hout (0, 4) _ (by unfold findV; rw [H1.out]; dsimp only; rw [if_pos hg, ← HF.out, h2]) (grown4 _ _ _ _ _), _, _, _, _, _, _, _, _, _, _, _, _, _, _, _, _, _, _, _, _, _, _, _, _, _, _, _, _, _, _, _, _, _, _, _, _, _, _, _, _, _, _, _, _, _, _, _, _, _, _, _, _, _, _, _, _, _, _, _, _, _, _, rfl⟩
          | some x =>
            have bx := rd_bd hm.byt h2
            have ex : wd x = x := wd_eq _ bx.1 bx.2
            have H2 := Lib.hid h2; have EX := Lib.hid ex; clear h2 ex bx
            by_cases hg2 : bits .and .i64 x seen = want
            · go_wp2_with (first
                | (go_at_call 45; refine (load_yes (hm3 _ _) _ _ H2.out).mono ?_; rintro e t' ⟨rfl, rfl⟩)
                | (go_at_call 23; refine (of_says _ _).mono ?_; rintro e t' ⟨rfl, rfl⟩; rw [EX.out])
                | (go_at_call 27; refine (frame_says _ _).mono ?_; rintro e t' ⟨rfl, rfl⟩; rw [EX.out]))
              rw [rounds_succ]
              go_wp2
              exact hout (x, 0) _ (by unfold findV; rw [H1.out]; dsimp only; rw [if_pos hg, ← HF.out, H2.out]; dsimp only; rw [if_pos hg2]) (grown4 _ _ _ _ _)
            · have b2 : (bits .and .i64 x seen != want) = true := by simpa using hg2
              go_wp2_with (first
                | (go_at_call 45; refine (load_yes (hm3 _ _) _ _ H2.out).mono ?_; rintro e t' ⟨rfl, rfl⟩)
                | (go_at_call 23; refine (of_says _ _).mono ?_; rintro e t' ⟨rfl, rfl⟩; rw [EX.out]))
              go_step3
              exact ⟨rfl, fault, hout (0, fault) _ (by unfold findV; rw [H1.out]; dsimp only; rw [if_pos hg, ← HF.out, H2.out]; dsimp only; rw [if_neg hg2]) (grown4 _ _ _ _ _), _, _, _, _, _, _, _, _, _, _, _, _, _, _, _, _, _, _, _, _, _, _, _, _, _, _, _, _, _, _, _, _, _, _, _, _, _, _, _, _, _, _, _, _, _, _, _, _, _, _, _, _, _, _, _, _, _, _, _, _, _, _, rfl⟩
        · have HF := Lib.hid hF; have EP := Lib.hid ep; have H1 := Lib.hid h1; clear hF ep h1 bp
          have b1 : (bits .and .i64 p 31 != 1) = true := by simpa using hg
          go_wp2_with (first
            | (go_at_call 45; refine (load_yes (hm2 _) _ _ H1.out).mono ?_; rintro e t' ⟨rfl, rfl⟩)
            | (go_at_call 23; refine (of_says _ _).mono ?_; rintro e t' ⟨rfl, rfl⟩; rw [EP.out]))
          go_step3
          exact ⟨rfl, fault, hout (0, fault) _ (by unfold findV; rw [H1.out]; dsimp only; rw [if_neg hg]) (grown3 _ _ _ _), _, _, _, _, _, _, _, _, _, _, _, _, _, _, _, _, _, _, _, _, _, _, _, _, _, _, _, _, _, _, _, _, _, _, _, _, _, _, _, _, _, _, _, _, _, _, _, _, _, _, _, _, _, _, _, _, _, _, _, _, _, _, rfl⟩
end Go.Proofs.Ytfodhmgbifeodaa
