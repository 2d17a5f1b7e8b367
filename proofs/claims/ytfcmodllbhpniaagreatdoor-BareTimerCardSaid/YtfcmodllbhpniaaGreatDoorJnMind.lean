/-
  Plain: the whole machine as lists of numbers; what a step makes of it. No program in sight. | Plain: what stays true of a machine through every step. No program in sight.
-/
import Derived.Test.YtfcmodllbhpniaaGreatDoorJnIsaNum
import Derived.Test.YtfcmodllbhpniaaGreatDoorJnNum
import Derived.Test.YtfcmodllbhpniaaGreatDoorJnWords
set_option linter.unusedVariables false
set_option maxRecDepth 100000
namespace Go.Proofs.YtfcmodllbhpniaaGreatDoor
/-- A machine: registers, place, control registers, memory, bytes that wait, bytes that were written. -/
structure Ma where
  R : List Int
  pc : Int
  C : List Int
  M : List Int
  rx : List Int
  tx : List Int
  halt : Bool
  stuck : Bool
namespace Ma
def c (m : Ma) (i : Nat) : Int := m.C.getD i 0
def r (m : Ma) (i : Int) : Int := m.R.getD i.toNat 0
def us (m : Ma) : Bool := decide (m.c 0 / 4 % 2 = 0)
def pend (m : Ma) (q : Int) : Int := pnd (m.c 7) (m.c 8) m.rx.length q
def set (m : Ma) (a v : Int) : Ma := if a = 0 then m else { m with R := m.R.set a.toNat v }
def go (m : Ma) (p : Int) : Ma := { m with pc := p }
def setC (m : Ma) (i : Nat) (v : Int) : Ma := { m with C := m.C.set i v }
def trap (m : Ma) (cause tval : Int) : Ma :=
  if cause < 2147483648 ∧ m.us = false ∧ m.pc = m.c 1 then { m with stuck := true }
  else { m with C := (((m.C.set 2 m.pc).set 3 cause).set 4 tval).set 0 (en (m.c 0)), pc := m.c 1 }
/-- Where an access goes, or why it does not. -/
def find (m : Ma) (va size kind : Int) : Int × Int := if va % size ≠ 0 then (0, 3) else walkV m.M (m.c 6) va kind m.us
end Ma
/-- What only a supervisor may do. -/
def prv (op : Int) : Bool := decide (op = 65 ∨ op = 66 ∨ op = 68 ∨ op = 69)
/-- A trap, or something else. -/
inductive Did (α : Type) where
  | no (cause tval : Int)
  | yes (x : α)
def acS (op : Int) : Int := if op = 32 ∨ op = 40 then 4 else if op = 33 ∨ op = 34 ∨ op = 41 then 2 else if op = 35 ∨ op = 36 ∨ op = 42 then 1 else 0
def acK (op : Int) : Int := if 32 ≤ op ∧ op ≤ 36 then 1 else if 40 ≤ op ∧ op ≤ 42 then 2 else 0
def lod (op v : Int) : Int := if op = 33 then ex v 16 else if op = 35 then ex v 8 else if op = 32 ∨ op = 34 ∨ op = 36 then v else 0
namespace Ma
/-- The word at Pc, if it is an instruction that may be done. -/
def fetch (m : Ma) : Did Int :=
  if (m.find m.pc 4 0).2 ≠ 0 then .no (m.find m.pc 4 0).2 m.pc
  else if ¬ okc m.M.length (m.find m.pc 4 0).1 4 then .no 4 m.pc
  else if ¬ decOk (ldv m.M (m.find m.pc 4 0).1 4) then .no 1 (ldv m.M (m.find m.pc 4 0).1 4)
  else if m.us = true ∧ prv (gO (ldv m.M (m.find m.pc 4 0).1 4)) = true then .no 2 (ldv m.M (m.find m.pc 4 0).1 4)
  else .yes (ldv m.M (m.find m.pc 4 0).1 4)
/-- A load or a store that goes to addr. -/
def reach (m : Ma) (op a va addr : Int) : Did Ma :=
  if 4026531840 ≤ addr then
    if acS op = 4 ∧ uok (addr - 4026531840) = true then
      (if acK op = 2 then .yes { m with tx := ust m.tx (addr - 4026531840) (m.r a) }
       else .yes (({ m with rx := ulr m.rx (addr - 4026531840) } : Ma).set a (lod op (ulv m.rx (addr - 4026531840)))))
    else .no 4 va
  else if okc m.M.length addr (acS op) then
    (if acK op = 2 then .yes { m with M := stv m.M addr (acS op) (m.r a) } else .yes (m.set a (lod op (ldv m.M addr (acS op)))))
  else .no 4 va
def acc (m : Ma) (op a b imm : Int) : Did Ma :=
  if (m.find (wd (m.r b + imm)) (acS op) (acK op)).2 ≠ 0 then .no (m.find (wd (m.r b + imm)) (acS op) (acK op)).2 (wd (m.r b + imm))
  else m.reach op a (wd (m.r b + imm)) (m.find (wd (m.r b + imm)) (acS op) (acK op)).1
/-- What an instruction says; ask: what a hypercall answers. -/
def exec (m : Ma) (ask op a b c' imm : Int) : Did Ma :=
  if op = 56 then .yes ((m.go (wd (m.pc + 4 * imm))).set a (wd (m.pc + 4)))
  else if op = 57 then .yes ((m.go (wd (m.r b + imm))).set a (wd (m.pc + 4)))
  else if op = 64 then (if m.us = true then .no 8 0 else if m.r 1 = 0 then .yes { m with halt := true } else .yes ((m.set 1 ask).go (wd (m.pc + 4))))
  else if op = 65 then .yes ((m.setC 0 (le (m.c 0))).go (m.c 2))
  else if op = 66 then .yes (if bits .and .i64 (m.c 9) (m.c 10) = 0 then m else m.go (wd (m.pc + 4)))
  else if op = 68 then .yes ((m.set a (m.c imm.toNat)).go (wd (m.pc + 4)))
  else if op = 69 then .yes ((m.setC imm.toNat (wr (Go.Proofs.YtfcmodllbhpniaaGreatDoor.mk imm) (m.c imm.toNat) (m.r a))).go (wd (m.pc + 4)))
  else if op = 70 then .no 9 0
  else if acK op ≠ 0 then (match m.acc op a b imm with | .no x y => .no x y | .yes m' => .yes (m'.go (wd (m.pc + 4))))
  else if takK op = true then .yes (m.go (if takV op (m.r a) (m.r b) = true then wd (m.pc + 4 * imm) else wd (m.pc + 4)))
  else .yes ((m.set a (aluV op (m.r b) (m.r c' + imm))).go (wd (m.pc + 4)))
/-- The instruction at Pc. -/
def one (m : Ma) (ask : Int) : Did Ma :=
  match m.fetch with
  | .no x y => .no x y
  | .yes v => m.exec ask (gO v) (gA v) (gB v) (gC v) (gM v)
/-- A step's work: an interrupt, an instruction, a trap. -/
def act (m : Ma) (ask : Int) : Ma :=
  if tkb (m.c 0) (bits .and .i64 (m.c 9) (m.c 10)) = true then m.trap (tkn (m.c 0) (bits .and .i64 (m.c 9) (m.c 10))) 0
  else match m.one ask with
    | .no x y => m.trap x y
    | .yes m' => m'
def tick (m : Ma) : Ma := m.setC 7 (wd (m.c 7 + 1))
def dead (m : Ma) : Bool := m.halt || m.stuck
def step (m : Ma) (q ask : Int) : Ma := if m.dead = true then m else ((m.setC 9 (m.pend q)).act ask).tick
/-- n steps at most (no ports): how many, and what is then. -/
def run : Nat → Ma → Nat × Ma
  | 0, m => (0, m)
  | n + 1, m => if m.dead = true then (0, m) else (((m.step 0 4294967295).run n).1 + 1, ((m.step 0 4294967295).run n).2)
end Ma
/-- A new one: bytes of memory, its beginning. -/
def Ma.new (L : Nat) (bs : List Int) (entry : Int) : Ma :=
  ⟨List.replicate 16 0, wd entry, 4 :: List.replicate 10 0, (bs ++ List.replicate (L - bs.length) 0).take L, [], [], false, false⟩
/-- Words all. -/
def Wds (xs : List Int) : Prop := ∀ x ∈ xs, 0 ≤ x ∧ x ≤ 4294967295
theorem Wds.getD {xs : List Int} (h : Wds xs) (i : Nat) : 0 ≤ xs.getD i 0 ∧ xs.getD i 0 ≤ 4294967295 := by
  by_cases hi : i < xs.length
  · have := h xs[i] (List.getElem_mem hi); simpa [List.getD, hi] using this
  · simp [List.getD, List.getElem?_eq_none (Nat.le_of_not_lt hi)]
theorem Wds.set {xs : List Int} (h : Wds xs) (i : Nat) {v : Int} (hv : 0 ≤ v ∧ v ≤ 4294967295) : Wds (xs.set i v) := by
  intro x hx
  rcases List.mem_or_eq_of_mem_set hx with hx | rfl
  · exact h x hx
  · exact hv
theorem Wds.rep (n : Nat) : Wds (List.replicate n 0) := by
  intro x hx; rw [List.mem_replicate] at hx; omega
/-- What every machine is. -/
structure Ma.Fine (m : Ma) : Prop where
  rl : m.R.length = 16
  rw : Wds m.R
  r0 : m.R.getD 0 0 = 0
  pc : 0 ≤ m.pc ∧ m.pc ≤ 4294967295
  cl : m.C.length = 11
  cw : Wds m.C
  by' : Byt m.M
  m4 : m.M.length % 4 = 0
  ml : m.M.length ≤ 1048576
  br : Byts m.rx
  bl : m.rx.length ≤ 16
  bt' : Byts m.tx
theorem wdb (x : Int) : 0 ≤ wd x ∧ wd x ≤ 4294967295 := by unfold wd; omega
namespace Ma.Fine
variable {m : Ma} (F : m.Fine)
include F
theorem cb (i : Nat) : 0 ≤ m.c i ∧ m.c i ≤ 4294967295 := F.cw.getD i
theorem rb (i : Int) : 0 ≤ m.r i ∧ m.r i ≤ 4294967295 := F.rw.getD _
theorem go {p : Int} (h : 0 ≤ p ∧ p ≤ 4294967295) : (m.go p).Fine := { F with pc := h }
theorem setC (i : Nat) {v : Int} (h : 0 ≤ v ∧ v ≤ 4294967295) : (m.setC i v).Fine := { F with cl := by simp [Ma.setC, F.cl], cw := F.cw.set i h }
theorem set (a : Int) {v : Int} (h : 0 ≤ v ∧ v ≤ 4294967295) (ha : 0 ≤ a) : (m.set a v).Fine := by
  unfold Ma.set
  split
  · exact F
  · refine { F with rl := by simp [F.rl], rw := F.rw.set _ h, r0 := ?_ }
    have h1 := F.r0
    have : a.toNat ≠ 0 := by omega
    simp only [List.getD_eq_getElem?_getD] at h1 ⊢
    rw [List.getElem?_set_ne this]; exact h1
theorem stuck (b : Bool) : ({ m with stuck := b } : Ma).Fine := { F with }
theorem halt (b : Bool) : ({ m with halt := b } : Ma).Fine := { F with }
end Ma.Fine
end Go.Proofs.YtfcmodllbhpniaaGreatDoor
set_option maxRecDepth 100000
namespace Go.Proofs.YtfcmodllbhpniaaGreatDoor
open Go.RowKit
abbrev Wd (x : Int) : Prop := 0 ≤ x ∧ x ≤ 4294967295
theorem Wd.ite {p : Prop} [Decidable p] {a b : Int} (h1 : p → Wd a) (h2 : ¬ p → Wd b) : Wd (if p then a else b) := by split; exact h1 ‹_›; exact h2 ‹_›
theorem wd0 : Wd 0 := by decide
theorem wd1 : Wd 1 := by decide
theorem dv_w (x y : Int) : Wd (dv x y) := by
  unfold dv
  have h1 := wd_lo x; have h2 := wd_hi x; have h3 := wd_lo y
  split
  · omega
  · exact ⟨Int.ediv_nonneg h1 h3, Int.le_trans (Int.ediv_le_self _ h1) h2⟩
theorem rm_w (x y : Int) : Wd (rm x y) := by
  unfold rm
  have h1 := wd_lo x; have h2 := wd_hi x; have h3 := wd_lo y; have h4 := wd_hi y
  split
  · omega
  · rename_i h
    have := Int.emod_nonneg (wd x) h
    have := Int.emod_lt_of_pos (wd x) (by omega : 0 < wd y)
    omega
theorem aluV_w (op x y : Int) : Wd (aluV op x y) := by
  have h1 := dv_w x y; have h2 := rm_w x y
  unfold aluV
  generalize dv x y = d at *; generalize rm x y = r at *
  repeat' (refine Wd.ite (fun _ => ?_) (fun _ => ?_))
  all_goals first
    | exact h1
    | exact h2
    | exact wdb _
    | exact dv_w _ _
    | exact rm_w _ _
    | exact ⟨rt_lo _ _, rt_hi _ _⟩
    | (unfold lf; exact wdb _)
    | (unfold ar; exact wdb _)
    | exact wd0
    | exact wd1
theorem lev_w {bs : List Int} (h : Byt bs) (hl : bs.length ≤ 4) : Wd (lev bs) := by
  have h1 := lev_bd bs h
  have h3 : (256 : Int) ^ bs.length ≤ 256 ^ 4 := by rw [← p256, ← p256]; exact pow_le' (by omega)
  have h4 : (256 : Int) ^ 4 = 4294967296 := by decide
  omega
theorem ldv_w {bs : List Int} (h : Byt bs) (a s : Int) : Wd (ldv bs a s) := by
  unfold ldv; split
  · rename_i hk
    have := hk.1
    exact lev_w (byt_take (byt_drop h _) _) (by rw [List.length_take]; omega)
  · omega
theorem ex_w (v : Int) (n : Int) (h : 1 ≤ n) (h' : n ≤ 32) : Wd (ex v n) := by rw [ex_in v n h h']; exact wdb _
theorem lod_w (op : Int) {v : Int} (h : Wd v) : Wd (lod op v) := by
  unfold lod
  exact .ite (fun _ => ex_w _ _ (by omega) (by omega)) fun _ => .ite (fun _ => ex_w _ _ (by omega) (by omega)) fun _ => .ite (fun _ => h) fun _ => wd0
theorem ulv_w {rx : List Int} (h : Byts rx) (hl : rx.length ≤ 16) (off : Int) : Wd (ulv rx off) := by
  unfold ulv
  split
  · cases rx with
    | nil => show Wd 4294967295; decide
    | cons a l => have := h a (List.mem_cons_self ..); show 0 ≤ a ∧ a ≤ _; omega
  · split
    · show 0 ≤ _ ∧ _ ≤ _; omega
    · exact wd0
theorem walkV_w {bs : List Int} (h : Byt bs) (t va kind : Int) (u : Bool) : Wd (walkV bs t va kind u).1 ∧ 0 ≤ (walkV bs t va kind u).2 ∧ (walkV bs t va kind u).2 ≤ 7 := by
  have hk := kk_bd kind
  unfold walkV
  split
  · exact ⟨wdb _, by simp⟩
  · split
    · exact ⟨wd0, by simp⟩
    · split
      · exact ⟨wd0, by simp; omega⟩
      · split
        · exact ⟨wd0, by simp⟩
        · rename_i e he
          have := rd_bd h he
          have h2 := wdb va
          split
          · exact ⟨wd0, by simp; omega⟩
          · exact ⟨by show 0 ≤ _ ∧ _ ≤ _; omega, by simp⟩
theorem find_w {m : Ma} (F : m.Fine) (va size kind : Int) : Wd (m.find va size kind).1 ∧ 0 ≤ (m.find va size kind).2 ∧ (m.find va size kind).2 ≤ 7 := by
  unfold Ma.find
  split
  · exact ⟨wd0, by simp⟩
  · exact walkV_w F.by' _ _ _ _
/-- What may come of a step. -/
def Good : Did Ma → Prop
  | .no x y => Wd x ∧ Wd y
  | .yes m => m.Fine
namespace Ma.Fine
variable {m : Ma} (F : m.Fine)
include F
theorem mem (M : List Int) (h1 : Byt M) (h2 : M.length = m.M.length) : ({ m with M := M } : Ma).Fine := { F with by' := h1, m4 := by show M.length % 4 = 0; rw [h2]; exact F.m4, ml := by show M.length ≤ _; rw [h2]; exact F.ml }
theorem rxs (rx : List Int) (h1 : Byts rx) (h2 : rx.length ≤ 16) : ({ m with rx := rx } : Ma).Fine := { F with br := h1, bl := h2 }
theorem txs (tx : List Int) (h1 : Byts tx) : ({ m with tx := tx } : Ma).Fine := { F with bt' := h1 }
theorem trap {cause tval : Int} (h1 : Wd cause) (h2 : Wd tval) : (m.trap cause tval).Fine := by
  unfold Ma.trap
  split
  · exact F.stuck true
  · have := en_bd (m.c 0)
    refine { F with pc := F.cb 1, cl := by simp [F.cl], cw := (((F.cw.set 2 F.pc).set 3 h1).set 4 h2).set 0 (by omega) }
omit F in
theorem good_ite {p : Prop} [Decidable p] {a b : Did Ma} (h1 : p → Good a) (h2 : ¬ p → Good b) : Good (if p then a else b) := by split; exact h1 ‹_›; exact h2 ‹_›
theorem reach {op a va addr : Int} (ha : 0 ≤ a) (hv : Wd va) : Good (m.reach op a va addr) := by
  unfold Ma.reach
  exact good_ite (fun _ => good_ite (fun _ => good_ite (fun _ => F.txs _ (ust_byts F.bt' _ _))
      (fun _ => (F.rxs _ (ulr_byts F.br _) (Nat.le_trans (ulr_length _ _) F.bl)).set _ (lod_w _ (ulv_w F.br F.bl _)) ha)) (fun _ => ⟨by decide, hv⟩))
    (fun _ => good_ite (fun _ => good_ite (fun _ => F.mem _ (stv_byt F.by' _ _ _) (stv_length _ _ _ _)) (fun _ => F.set _ (lod_w _ (ldv_w F.by' _ _)) ha)) (fun _ => ⟨by decide, hv⟩))
theorem acc {op a b imm : Int} (ha : 0 ≤ a) : Good (m.acc op a b imm) := by
  have h1 := find_w F (wd (m.r b + imm)) (acS op) (acK op)
  unfold Ma.acc
  exact good_ite (fun _ => ⟨⟨h1.2.1, by omega⟩, wdb _⟩) (fun _ => F.reach ha (wdb _))
theorem exec {ask op a b c' imm : Int} (hk : Wd ask) (ha : 0 ≤ a) : Good (m.exec ask op a b c' imm) := by
  have hA := F.acc (op := op) (b := b) (imm := imm) ha
  have hl := le_bd (m.c 0)
  unfold Ma.exec
  refine good_ite (fun _ => (F.go (wdb _)).set _ (wdb _) ha) fun _ => good_ite (fun _ => (F.go (wdb _)).set _ (wdb _) ha) fun _ =>
    good_ite (fun _ => good_ite (fun _ => ⟨by decide, by decide⟩) fun _ => good_ite (fun _ => F.halt _) fun _ => (F.set _ hk (by omega)).go (wdb _)) fun _ =>
    good_ite (fun _ => (F.setC _ (by omega)).go (F.cb 2)) fun _ => good_ite (fun _ => ?_) fun _ =>
    good_ite (fun _ => (F.set _ (F.cb _) ha).go (wdb _)) fun _ => good_ite (fun _ => (F.setC _ ⟨wr_lo _ _ _, wr_hi _ _ _⟩).go (wdb _)) fun _ =>
    good_ite (fun _ => ⟨by decide, by decide⟩) fun _ => good_ite (fun _ => ?_) fun _ => good_ite (fun _ => F.go (Wd.ite (fun _ => wdb _) fun _ => wdb _)) fun _ =>
    (F.set _ (aluV_w _ _ _) ha).go (wdb _)
  · show Ma.Fine (if _ then _ else _)
    split
    · exact F
    · exact F.go (wdb _)
  · generalize m.acc op a b imm = d at hA
    cases d with
    | no x y => exact hA
    | yes m' => exact Ma.Fine.go hA (wdb _)
theorem fetch (x y : Int) (h : m.fetch = .no x y) : Wd x ∧ Wd y := by
  have h1 := find_w F m.pc 4 0
  have h2 := ldv_w F.by' (m.find m.pc 4 0).1 4
  have h3 := F.pc
  unfold Ma.fetch at h
  (repeat' split at h) <;> first | (injection h with e1 e2; subst e1; subst e2; exact ⟨by omega, by omega⟩) | cases h
omit F in
theorem gA_lo (v : Int) : 0 ≤ gA v := by
  unfold gA
  split
  · unfold dA; split
    · omega
    · omega
  · omega
theorem act {ask : Int} (hk : Wd ask) : (m.act ask).Fine := by
  unfold Ma.act
  split
  · rename_i h
    refine F.trap ?_ (by omega)
    unfold tkn
    split
    · omega
    · unfold pkn; repeat' split
      all_goals omega
  · unfold Ma.one
    cases hf : m.fetch with
    | no x y => have := F.fetch x y hf; exact F.trap this.1 this.2
    | yes v =>
      have hE : Good (m.exec ask (gO v) (gA v) (gB v) (gC v) (gM v)) := F.exec hk (gA_lo v)
      show (match m.exec ask (gO v) (gA v) (gB v) (gC v) (gM v) with | .no x y => m.trap x y | .yes m' => m').Fine
      generalize m.exec ask (gO v) (gA v) (gB v) (gC v) (gM v) = d at hE
      cases d with
      | no x y => exact F.trap hE.1 hE.2
      | yes m' => exact hE
omit F in
theorem pend_w (q : Int) : Wd (m.pend q) := by
  unfold Ma.pend pnd; (repeat' split) <;> omega
theorem tick : m.tick.Fine := F.setC _ (wdb _)
theorem step (q : Int) {ask : Int} (hk : Wd ask) : (m.step q ask).Fine := by
  unfold Ma.step
  split
  · exact F
  · exact ((F.setC _ (pend_w q)).act hk).tick
omit F in
theorem run_ : ∀ (n : Nat) (m : Ma), m.Fine → (m.run n).2.Fine
  | 0, _, h => h
  | n + 1, m, h => by
    unfold Ma.run
    split
    · exact h
    · exact run_ n _ (h.step _ (by omega))
end Ma.Fine
theorem new_fine (L : Nat) (h4 : L % 4 = 0) (hl : L ≤ 1048576) (bs : List Int) (hb : Byt bs) (e : Int) : (Ma.new L bs e).Fine where
  rl := by simp [Ma.new]
  rw := Wds.rep 16
  r0 := rfl
  pc := wdb e
  cl := rfl
  cw := by
    intro x hx
    have : x = 4 ∨ x = 0 := by
      rcases List.mem_cons.1 hx with h | h
      · exact .inl h
      · exact .inr (List.mem_replicate.1 h).2
    omega
  by' := by
    show Byt _
    refine byt_take ?_ _
    intro x hx
    rcases List.mem_append.1 hx with h | h
    · exact hb x h
    · rw [List.mem_replicate] at h; omega
  m4 := by simp [Ma.new]; omega
  ml := by simp [Ma.new]; omega
  br := by intro b hb; cases hb
  bl := by simp [Ma.new]
  bt' := by intro b hb; cases hb
/-- What is written out grows by one at most. -/
theorem tx_set (m : Ma) (a v : Int) : (m.set a v).tx = m.tx := by unfold Ma.set; split <;> rfl
theorem tx_trap (m : Ma) (x y : Int) : (m.trap x y).tx = m.tx := by unfold Ma.trap; split <;> rfl
theorem ust_len (tx : List Int) (o v : Int) : (ust tx o v).length ≤ tx.length + 1 := by unfold ust; split <;> simp
/-- No more than one byte is written out, and the memory stays as great. -/
def Near (m : Ma) : Did Ma → Prop
  | .no _ _ => True
  | .yes m' => m'.tx.length ≤ m.tx.length + 1 ∧ m'.M.length = m.M.length
theorem near_ite {m : Ma} {p : Prop} [Decidable p] {a b : Did Ma} (h1 : p → Near m a) (h2 : ¬ p → Near m b) : Near m (if p then a else b) := by split; exact h1 ‹_›; exact h2 ‹_›
theorem near_set {m m' : Ma} (a v : Int) (h : m'.tx.length ≤ m.tx.length + 1 ∧ m'.M.length = m.M.length) : Near m (.yes (m'.set a v)) := by
  show (m'.set a v).tx.length ≤ _ ∧ (m'.set a v).M.length = _
  unfold Ma.set; split <;> exact h
theorem tx_reach (m : Ma) (op a va addr : Int) : Near m (m.reach op a va addr) := by
  unfold Ma.reach
  exact near_ite (fun _ => near_ite (fun _ => near_ite (fun _ => ⟨ust_len _ _ _, rfl⟩) fun _ => near_set _ _ ⟨Nat.le_succ _, rfl⟩) fun _ => trivial)
    fun _ => near_ite (fun _ => near_ite (fun _ => ⟨Nat.le_succ _, stv_length _ _ _ _⟩) fun _ => near_set _ _ ⟨Nat.le_succ _, rfl⟩) fun _ => trivial
theorem tx_acc (m : Ma) (op a b imm : Int) : Near m (m.acc op a b imm) := by
  unfold Ma.acc
  exact near_ite (fun _ => trivial) fun _ => tx_reach _ _ _ _ _
theorem tx_exec (m : Ma) (ask op a b c' imm : Int) : Near m (m.exec ask op a b c' imm) := by
  have hA := tx_acc m op a b imm
  unfold Ma.exec
  refine near_ite (fun _ => near_set _ _ ⟨Nat.le_succ _, rfl⟩) fun _ => near_ite (fun _ => near_set _ _ ⟨Nat.le_succ _, rfl⟩) fun _ =>
    near_ite (fun _ => near_ite (fun _ => trivial) fun _ => near_ite (fun _ => ⟨Nat.le_succ _, rfl⟩) fun _ => near_set 1 ask ⟨Nat.le_succ _, rfl⟩) fun _ =>
    near_ite (fun _ => ⟨Nat.le_succ _, rfl⟩) fun _ => near_ite (fun _ => ?_) fun _ => near_ite (fun _ => near_set a (m.c imm.toNat) ⟨Nat.le_succ _, rfl⟩) fun _ =>
    near_ite (fun _ => ⟨Nat.le_succ _, rfl⟩) fun _ => near_ite (fun _ => trivial) fun _ => near_ite (fun _ => ?_) fun _ => near_ite (fun _ => ⟨Nat.le_succ _, rfl⟩) fun _ =>
    near_set a (aluV op (m.r b) (m.r c' + imm)) ⟨Nat.le_succ _, rfl⟩
  · show (if _ then _ else _ : Ma).tx.length ≤ _ ∧ (if _ then _ else _ : Ma).M.length = _
    split <;> exact ⟨Nat.le_succ _, rfl⟩
  · generalize m.acc op a b imm = d at hA
    cases d with
    | no x y => trivial
    | yes m' => exact hA
theorem tx_act (m : Ma) (ask : Int) : (m.act ask).tx.length ≤ m.tx.length + 1 ∧ (m.act ask).M.length = m.M.length := by
  have ht : ∀ x y, (m.trap x y).tx.length ≤ m.tx.length + 1 ∧ (m.trap x y).M.length = m.M.length := fun x y => by
    unfold Ma.trap; split <;> exact ⟨Nat.le_succ _, rfl⟩
  unfold Ma.act
  split
  · exact ht _ _
  · unfold Ma.one
    cases hf : m.fetch with
    | no x y => exact ht _ _
    | yes v =>
      show (match m.exec ask (gO v) (gA v) (gB v) (gC v) (gM v) with | .no x y => m.trap x y | .yes m' => m').tx.length ≤ _ ∧ (match m.exec ask (gO v) (gA v) (gB v) (gC v) (gM v) with | .no x y => m.trap x y | .yes m' => m').M.length = _
      have hE := tx_exec m ask (gO v) (gA v) (gB v) (gC v) (gM v)
      generalize m.exec ask (gO v) (gA v) (gB v) (gC v) (gM v) = d at hE
      cases d with
      | no x y => exact ht _ _
      | yes m' => exact hE
theorem tx_step (m : Ma) (q ask : Int) : (m.step q ask).tx.length ≤ m.tx.length + 1 ∧ (m.step q ask).M.length = m.M.length := by
  unfold Ma.step
  split
  · exact ⟨Nat.le_succ _, rfl⟩
  · exact tx_act _ _
theorem tx_run : ∀ (n : Nat) (m : Ma), (m.run n).2.tx.length ≤ m.tx.length + n ∧ (m.run n).2.M.length = m.M.length
  | 0, m => ⟨Nat.le_refl _, rfl⟩
  | n + 1, m => by
    unfold Ma.run
    split
    · exact ⟨by simp, rfl⟩
    · have h1 := tx_step m 0 4294967295
      have h2 := tx_run n (m.step 0 4294967295)
      exact ⟨by simp only; omega, h2.2.trans h1.2⟩
end Go.Proofs.YtfcmodllbhpniaaGreatDoor
