
/-
  Two Tlbs side by side, a row of calls of the call's own, the call at hand (law TlbPlays).
-/
import Derived.Test.YtkcjhhppfolajaaTlbAt
namespace Go.Proofs.Ytkcjhhppfolajaa
open Go.ChangeShapes Go.WideShapes Go.ChangeAt Go.RowKit
theorem info_act : (Try.prog.info? 27).map (fun i => (i.zero, i.size, i.bytes)) = some (some (.agg #[.int .i64 0, .int .i64 0, .int .i64 0, .int .i64 0]), 4, 32) := by kernel_rfl
/-- A call: its way, and (tag, vpn), entry. -/
abbrev A4 := Int × Ent
def ac (a : A4) : List Value := [i64 a.1, i64 a.2.1.1, i64 a.2.1.2, i64 a.2.2]
def rc : List A4 → List Value
  | [] => []
  | a :: r => i64 a.1 :: i64 a.2.1.1 :: i64 a.2.1.2 :: i64 a.2.2 :: rc r
theorem rc_length : ∀ R, (rc R).length = R.length * 4
  | [] => rfl
  | a :: r => by simp only [rc, List.length_cons, rc_length r]; omega
theorem rc_append : ∀ (a b : List A4), rc (a ++ b) = rc a ++ rc b
  | [], _ => rfl
  | k :: r, b => by simp only [rc, List.cons_append, rc_append r b]
theorem rc_get : ∀ (R : List A4) (i : Nat) (h : i < R.length), (rc R)[i * 4]? = some (i64 R[i].1) ∧ (rc R)[i * 4 + 1]? = some (i64 R[i].2.1.1) ∧ (rc R)[i * 4 + 2]? = some (i64 R[i].2.1.2) ∧ (rc R)[i * 4 + 3]? = some (i64 R[i].2.2)
  | [], i, h => absurd h (Nat.not_lt_zero _)
  | k :: r, 0, _ => ⟨rfl, rfl, rfl, rfl⟩
  | k :: r, i + 1, h => by
    have := rc_get r i (by simpa using h)
    rw [show (i + 1) * 4 = i * 4 + 1 + 1 + 1 + 1 by omega]
    simpa [rc] using this
theorem rc_one (R : List A4) : ∀ u ∈ rc R, u.oneCell' = true := by
  induction R with
  | nil => intro u hu; cases hu
  | cons k r ih =>
    intro u hu
    simp only [rc, List.mem_cons] at hu
    rcases hu with rfl | rfl | rfl | rfl | hu
    · rfl
    · rfl
    · rfl
    · rfl
    · exact ih u hu
theorem rc_drop : ∀ (R : List A4) (k : Nat), (rc R).drop (k * 4) = rc (R.drop k)
  | R, 0 => by simp
  | [], k + 1 => by simp [rc]
  | a :: r, k + 1 => by
    rw [show (k + 1) * 4 = k * 4 + 1 + 1 + 1 + 1 by omega]
    simpa [rc] using rc_drop r k
theorem rc_take : ∀ (R : List A4) (k : Nat), (rc R).take (k * 4) = rc (R.take k)
  | R, 0 => by simp [rc]
  | [], k + 1 => by simp [rc]
  | a :: r, k + 1 => by
    rw [show (k + 1) * 4 = k * 4 + 1 + 1 + 1 + 1 by omega]
    simpa [rc] using rc_take r k
theorem own_mono {w : World} {B B' : Nat} {e s : Nat} {v : Value} {n : Nat} {xs : List Value} (h : w.ownsRow B e s v n xs) (hB : B' ≤ B) : w.ownsRow B' e s v n xs := by
  obtain ⟨h0, h1 | ⟨g, cap, cur, e1, h2, h3⟩⟩ := h
  · exact ⟨h0, .inl h1⟩
  · exact ⟨h0, .inr ⟨g, cap, cur, e1, Nat.le_trans hB h2, h3⟩⟩
theorem own_kept {w w' : World} {B : Nat} {e s : Nat} {v : Value} {n : Nat} {xs : List Value} (h : w.ownsRow B e s v n xs) (hb : ∀ g, v.ownBlock = some g → w'.heap[g]? = w.heap[g]?) : w'.ownsRow B e s v n xs := by
  obtain ⟨h0, h1 | ⟨g, cap, cur, rfl, h2, h3, h4⟩⟩ := h
  · exact ⟨h0, .inl h1⟩
  · exact ⟨h0, .inr ⟨g, cap, cur, rfl, h2, (hb g rfl).trans h3, h4⟩⟩
/-- What a row looks like. -/
theorem own_form {w : World} {B : Nat} {e s : Nat} {v : Value} {n : Nat} {xs : List Value} (h : w.ownsRow B e s v n xs) : ∃ p c, v = .slice p n c ∧ (p = none → n = 0 ∧ c = 0) ∧ n ≤ c ∧ c ≤ maxLen := by
  obtain ⟨h0, ⟨rfl, rfl⟩ | ⟨g, cap, cur, rfl, h2, h3, h4, h5, -⟩⟩ := h
  · exact ⟨_, _, rfl, fun _ => ⟨rfl, rfl⟩, Nat.le_refl _, by unfold maxLen; omega⟩
  · exact ⟨_, _, rfl, (fun h => by cases h), h4, h5⟩
theorem own_cells {w : World} {B : Nat} {v : Value} {R : List A4} (h : w.ownsRow B 27 4 v R.length (rc R)) (hR : 0 < R.length) :
    ∃ g cap, v = .slice (some ⟨g, 0, none⟩) R.length cap ∧ B ≤ g ∧ R.length ≤ cap ∧ cap ≤ maxLen ∧ (∀ j u, (rc R)[j]? = some u → w.cell? ⟨g, j, none⟩ = some u) ∧ (∀ j, w.frozen? ⟨g, j, none⟩ = false) := by
  obtain ⟨h0, ⟨rfl, h1⟩ | ⟨g, cap, cur, rfl, h2, h3, h4, h5, h6, h7⟩⟩ := h
  · omega
  · refine ⟨g, cap, rfl, h2, h4, h5, fun j u hu => ?_, fun j => by simp [World.frozen?, h3]⟩
    rw [cell_of_row w g _ _ _ _ h3]
    have hj : j < (rc R).length := (List.getElem?_eq_some_iff.1 hu).1
    rw [rc_length] at hj
    rw [← h7, List.getElem?_take_of_lt hj, Array.getElem?_toList] at hu
    exact hu
/-- The entry of one call is written over. -/
theorem own_set {w : World} {B g cap : Nat} {R : List A4} (h : w.ownsRow B 27 4 (.slice (some ⟨g, 0, none⟩) R.length cap) R.length (rc R)) (k : Nat) (hk : k < R.length) (e : Int) :
    (w.setCell ⟨g, k * 4 + 3, none⟩ (i64 e)).ownsRow B 27 4 (.slice (some ⟨g, 0, none⟩) R.length cap) (R.set k (R[k].1, R[k].2.1, e)).length (rc (R.set k (R[k].1, R[k].2.1, e))) := by
  obtain ⟨h0, ⟨h1, -⟩ | ⟨g', cap', cur, e1, h2, h3, h4, h5, h6, h7⟩⟩ := h
  · cases h1
  · injection e1 with e1 e2 e3
    injection e1 with e1
    injection e1 with e1
    subst e1; subst e3
    rw [List.length_set]
    refine ⟨by rw [rc_length, List.length_set], .inr ⟨g, cap, _, rfl, h2, setCell_row h3 _ _, h4, h5, by simpa using h6, ?_⟩⟩
    have e4 : rc (R.set k (R[k].1, R[k].2.1, e)) = (rc R).set (k * 4 + 3) (i64 e) := by
      clear h0 h7 h6 h4 e2
      induction R generalizing k with
      | nil => simp at hk
      | cons a r ih =>
        cases k with
        | zero => rfl
        | succ k =>
          rw [show (k + 1) * 4 + 3 = k * 4 + 3 + 1 + 1 + 1 + 1 by omega]
          have := ih k (by simpa using hk)
          simp only [List.set_cons_succ, List.getElem_cons_succ, rc]
          rw [this]
    rw [e4, ← h7, Array.toList_setIfInBounds, List.take_set]
def Six (ht mt gt ho mo go : Nat) : Prop := ht ≠ ho ∧ ht ≠ mo ∧ ht ≠ go ∧ mt ≠ ho ∧ mt ≠ mo ∧ mt ≠ go ∧ gt ≠ ho ∧ gt ≠ mo ∧ gt ≠ go
def Off (g ht mt gt ho mo go : Nat) : Prop := g ≠ ht ∧ g ≠ mt ∧ g ≠ gt ∧ g ≠ ho ∧ g ≠ mo ∧ g ≠ go
section
variable {g ht mt gt ho mo go gt' go' N : Nat}
theorem Off.turnT (h : Off g ht mt gt ho mo go) (hg : g < N) (e : gt' = gt ∨ N ≤ gt') : Off g ht mt gt' ho mo go := by
  obtain ⟨a, b, c, d, f, i⟩ := h
  refine ⟨a, b, ?_, d, f, i⟩
  rcases e with rfl | e
  · exact c
  · omega
theorem Off.turnO (h : Off g ht mt gt ho mo go) (hg : g < N) (e : go' = go ∨ N ≤ go') : Off g ht mt gt ho mo go' := by
  obtain ⟨a, b, c, d, f, i⟩ := h
  refine ⟨a, b, c, d, f, ?_⟩
  rcases e with rfl | e
  · exact i
  · omega
theorem Six.turnT (h : Six ht mt gt ho mo go) (h1 : ho < N) (h2 : mo < N) (h3 : go < N) (e : gt' = gt ∨ N ≤ gt') : Six ht mt gt' ho mo go := by
  obtain ⟨a, b, c, d, f, i, j, k, l⟩ := h
  rcases e with rfl | e
  · exact ⟨a, b, c, d, f, i, j, k, l⟩
  · exact ⟨a, b, c, d, f, i, by omega, by omega, by omega⟩
theorem Six.turnO (h : Six ht mt gt ho mo go) (h1 : ht < N) (h2 : mt < N) (h3 : gt < N) (e : go' = go ∨ N ≤ go') : Six ht mt gt ho mo go' := by
  obtain ⟨a, b, c, d, f, i, j, k, l⟩ := h
  rcases e with rfl | e
  · exact ⟨a, b, c, d, f, i, j, k, l⟩
  · exact ⟨a, b, by omega, d, f, by omega, j, k, by omega⟩
theorem Six.noT (h : Six ht mt gt ho mo go) : ¬ (ho = ht ∨ ho = mt ∨ ho = gt) ∧ ¬ (mo = ht ∨ mo = mt ∨ mo = gt) ∧ ¬ (go = ht ∨ go = mt ∨ go = gt) := by
  obtain ⟨a, b, c, d, f, i, j, k, l⟩ := h
  exact ⟨fun h => by rcases h with h | h | h; exact a h.symm; exact d h.symm; exact j h.symm, fun h => by rcases h with h | h | h; exact b h.symm; exact f h.symm; exact k h.symm, fun h => by rcases h with h | h | h; exact c h.symm; exact i h.symm; exact l h.symm⟩
theorem Six.noO (h : Six ht mt gt ho mo go) : ¬ (ht = ho ∨ ht = mo ∨ ht = go) ∧ ¬ (mt = ho ∨ mt = mo ∨ mt = go) ∧ ¬ (gt = ho ∨ gt = mo ∨ gt = go) := by
  obtain ⟨a, b, c, d, f, i, j, k, l⟩ := h
  exact ⟨fun h => by rcases h with h | h | h; exact a h; exact b h; exact c h, fun h => by rcases h with h | h | h; exact d h; exact f h; exact i h, fun h => by rcases h with h | h | h; exact j h; exact k h; exact l h⟩
theorem Off.noT (h : Off g ht mt gt ho mo go) : ¬ (g = ht ∨ g = mt ∨ g = gt) := by
  obtain ⟨a, b, c, d, f, i⟩ := h
  exact fun h => by rcases h with h | h | h; exact a h; exact b h; exact c h
theorem Off.noO (h : Off g ht mt gt ho mo go) : ¬ (g = ho ∨ g = mo ∨ g = go) := by
  obtain ⟨a, b, c, d, f, i⟩ := h
  exact fun h => by rcases h with h | h | h; exact d h; exact f h; exact i h
end
/-- The Tlb t holds l; the other, o, whatever; the row v holds R; q: the call at hand, in a block of its own. -/
structure St (W w : World) (ht mt ho mo n : Nat) (q : Option (Nat × A4)) (l : List Ent) (v : Value) (R : List A4) : Prop where
  tl : ∃ gt go lo, Tl w ht mt gt n l ∧ Tl w ho mo go n lo ∧ Six ht mt gt ho mo go ∧ W.heap.size ≤ gt ∧ W.heap.size ≤ go ∧ (∀ g, v.ownBlock = some g → Off g ht mt gt ho mo go) ∧ (∀ b a, q = some (b, a) → Off b ht mt gt ho mo go)
  lo4 : W.heap.size ≤ ht ∧ W.heap.size ≤ mt ∧ W.heap.size ≤ ho ∧ W.heap.size ≤ mo
  row : w.ownsRow W.heap.size 27 4 v R.length (rc R)
  bx : ∀ b a, q = some (b, a) → W.heap.size ≤ b ∧ w.heap[b]? = some (.cells (ac a).toArray 27 (0, 0)) ∧ v.ownBlock ≠ some b
  b : Below W.heap.size W w
section
variable {W w w' : World} {ht mt ho mo n : Nat} {q : Option (Nat × A4)} {l l' : List Ent} {v : Value} {R : List A4}
theorem St.len (s : St W w ht mt ho mo n q l v R) : l.length ≤ n ∧ 1 ≤ n ∧ n ≤ 256 := by obtain ⟨gt, go, lo, t, -⟩ := s.tl; exact ⟨t.le, t.n1, t.n2⟩
theorem St.uq (s : St W w ht mt ho mo n q l v R) : Uniq l := by obtain ⟨gt, go, lo, t, -⟩ := s.tl; exact t.uq
theorem St.ki (s : St W w ht mt ho mo n q l v R) : ∀ x ∈ l, KeyIn x.1 := by obtain ⟨gt, go, lo, t, -⟩ := s.tl; exact t.ki
theorem St.still (s : St W w ht mt ho mo n q l v R) (b : Below w.heap.size w w') : St W w' ht mt ho mo n q l v R := by
  obtain ⟨⟨gt, go, lo, t, o, h⟩, h4, hr, hb, h5⟩ := s
  refine ⟨⟨gt, go, lo, t.grow b, o.grow b, h⟩, h4, own_kept hr fun g hg => b.block g (hr.lt g hg).2, fun b' a hq => ?_, h5.trans (b.mono h5.size)⟩
  obtain ⟨x1, x2, x3⟩ := hb b' a hq
  exact ⟨x1, (b.block b' (Array.getElem?_eq_some_iff.1 x2).1).trans x2, x3⟩
theorem St.unbox (s : St W w ht mt ho mo n q l v R) : St W w ht mt ho mo n none l v R := by
  obtain ⟨⟨gt, go, lo, t, o, h1, h2, h3, h4, h5⟩, h6, hr, hb, h7⟩ := s
  exact ⟨⟨gt, go, lo, t, o, h1, h2, h3, h4, (fun _ _ h => by cases h)⟩, h6, hr, (fun _ _ h => by cases h), h7⟩
theorem St.box (s : St W w ht mt ho mo n none l v R) (a : A4) : St W (w.alloc (.cells (ac a).toArray 27)) ht mt ho mo n (some (w.heap.size, a)) l v R := by
  have s' := s.still ((Below.refl w.heap.size w).alloc (Nat.le_refl _) (.cells (ac a).toArray 27))
  have hs := s.b.size
  obtain ⟨gt, go, lo, t, o, h⟩ := s.tl
  obtain ⟨gt', go', lo', t', o', h1, h2, h3, h4, h5⟩ := s'.tl
  have l1 := t.lt; have l2 := o.lt; have l3 := t.lg; have l4 := o.lg
  obtain ⟨gt, go, lo, t, o, h1, h2, h3, h4, h5⟩ := s.tl
  have l1 := t.lt; have l2 := o.lt; have l3 := t.lg; have l4 := o.lg
  have bb := (Below.refl w.heap.size w).alloc (Nat.le_refl _) (.cells (ac a).toArray 27)
  refine ⟨⟨gt, go, lo, t.grow bb, o.grow bb, h1, h2, h3, h4, fun b a' hq => ?_⟩, s.lo4, s'.row, fun b a' hq => ?_, s'.b⟩
  · injection hq with hq; injection hq with hq1 hq2; subst hq1; unfold Off; omega
  · injection hq with hq; injection hq with hq1 hq2; subst hq1; subst hq2
    exact ⟨hs, heap_alloc_new _ _, fun e => by have := (s.row.lt _ e).2; omega⟩
theorem St.callT {f : Nat} {args : Array Value} {e : Ending} (s : St W w ht mt ho mo n q l v R) (hc : ∀ g, Tl w ht mt g n l → Calls Try.prog f args w fun x w' => x = e ∧ Did ht mt g n l' w w') :
    Calls Try.prog f args w fun x w' => x = e ∧ St W w' ht mt ho mo n q l' v R := by
  obtain ⟨gt, go, lo, t, o, h1, h2, h3, h4, h5⟩ := s.tl
  refine (hc gt t).mono ?_
  rintro x w' ⟨rfl, gt', t', e', b'⟩
  obtain ⟨a1, a2, a3, a4⟩ := s.lo4
  obtain ⟨n1, n2, n3⟩ := h1.noT
  have l2 := o.lt; have l4 := o.lg; have hs := s.b.size
  have hgt : W.heap.size ≤ gt' := by omega
  have hrow : ∀ g, v.ownBlock = some g → g < w.heap.size := fun g hg => (s.row.lt g hg).2
  have hbox : ∀ b a, q = some (b, a) → b < w.heap.size := fun b a hq => (Array.getElem?_eq_some_iff.1 (s.bx b a hq).2.1).1
  have hlo : ∀ i, (i = ht ∨ i = mt ∨ i = gt) → W.heap.size ≤ i := fun i hi => by rcases hi with rfl | rfl | rfl <;> assumption
  exact ⟨rfl, ⟨gt', go, lo, t', o.kept b' n1 n2 n3, h1.turnT l2.1 l2.2 l4 e', hgt, h3, fun g hg => (h4 g hg).turnT (hrow g hg) e', fun b a hq => (h5 b a hq).turnT (hbox b a hq) e'⟩, s.lo4, own_kept s.row fun g hg => b'.block g (hrow g hg) (h4 g hg).noT,
    fun b a hq => ⟨(s.bx b a hq).1, (b'.block b (hbox b a hq) (h5 b a hq).noT).trans (s.bx b a hq).2.1, (s.bx b a hq).2.2⟩, s.b.trans (b'.below hs hlo)⟩
/-- o is called. -/
theorem St.callO {f : Nat} {args : Array Value} {e : Ending} (s : St W w ht mt ho mo n q l v R) (hc : ∀ g lo, Tl w ho mo g n lo → Calls Try.prog f args w fun x w' => x = e ∧ ∃ lo', Did ho mo g n lo' w w') :
    Calls Try.prog f args w fun x w' => x = e ∧ St W w' ht mt ho mo n q l v R := by
  obtain ⟨gt, go, lo, t, o, h1, h2, h3, h4, h5⟩ := s.tl
  refine (hc go lo o).mono ?_
  rintro x w' ⟨rfl, lo', go', o', e', b'⟩
  obtain ⟨a1, a2, a3, a4⟩ := s.lo4
  obtain ⟨n1, n2, n3⟩ := h1.noO
  have l2 := t.lt; have l4 := t.lg; have hs := s.b.size
  have hgt : W.heap.size ≤ go' := by omega
  have hrow : ∀ g, v.ownBlock = some g → g < w.heap.size := fun g hg => (s.row.lt g hg).2
  have hbox : ∀ b a, q = some (b, a) → b < w.heap.size := fun b a hq => (Array.getElem?_eq_some_iff.1 (s.bx b a hq).2.1).1
  have hlo : ∀ i, (i = ho ∨ i = mo ∨ i = go) → W.heap.size ≤ i := fun i hi => by rcases hi with rfl | rfl | rfl <;> assumption
  exact ⟨rfl, ⟨gt, go', lo', t.kept b' n1 n2 n3, o', h1.turnO l2.1 l2.2 l4 e', h2, hgt, fun g hg => (h4 g hg).turnO (hrow g hg) e', fun b a hq => (h5 b a hq).turnO (hbox b a hq) e'⟩, s.lo4, own_kept s.row fun g hg => b'.block g (hrow g hg) (h4 g hg).noO,
    fun b a hq => ⟨(s.bx b a hq).1, (b'.block b (hbox b a hq) (h5 b a hq).noO).trans (s.bx b a hq).2.1, (s.bx b a hq).2.2⟩, s.b.trans (b'.below hs hlo)⟩
/-- t is only read. -/
theorem St.readT {f : Nat} {args : Array Value} {Q : Ending → World → Prop} (s : St W w ht mt ho mo n q l v R) (hc : ∀ g, Tl w ht mt g n l → Calls Try.prog f args w Q) : Calls Try.prog f args w Q := by
  obtain ⟨gt, go, lo, t, -⟩ := s.tl
  exact hc gt t
/-- The row is another one, laid since. -/
theorem St.swap {v' : Value} {R' : List A4} (s : St W w ht mt ho mo n q l v R) (b : Below w.heap.size w w') (hr : w'.ownsRow w.heap.size 27 4 v' R'.length (rc R')) : St W w' ht mt ho mo n q l v' R' := by
  have s' := s.still b
  have hs := s.b.size
  obtain ⟨gt, go, lo, t, o, h1, h2, h3, h4, h5⟩ := s.tl
  have l1 := t.lt; have l2 := o.lt; have l3 := t.lg; have l4 := o.lg
  refine ⟨⟨gt, go, lo, t.grow b, o.grow b, h1, h2, h3, fun g hg => ?_, h5⟩, s.lo4, own_mono hr hs, fun b' a hq => ?_, s'.b⟩
  · have := (hr.lt g hg).1; unfold Off; omega
  · obtain ⟨x1, x2, x3⟩ := s'.bx b' a hq
    obtain ⟨y1, y2, y3⟩ := s.bx b' a hq
    have hl := (Array.getElem?_eq_some_iff.1 y2).1
    exact ⟨x1, x2, fun e => by have := (hr.lt _ e).1; omega⟩
/-- A call is appended to the row. -/
theorem St.app {X : World} {a : A4} {g' cap' : Nat} (s : St W w ht mt ho mo n q l v R) (bX : Below w.heap.size w X)
    (hown : w'.ownsRow W.heap.size 27 4 (.slice (some ⟨g', 0, none⟩) (R.length + 1) cap') (R.length + 1) (rc R ++ rc [a])) (hg : X.grownBy w' v.ownBlock) (hat : v.ownBlock = some g' ∨ g' = X.heap.size) :
    St W w' ht mt ho mo n q l (.slice (some ⟨g', 0, none⟩) (R.length + 1) cap') (R ++ [a]) := by
  have s' := s.still bX
  obtain ⟨gt, go, lo, t, o, h1, h2, h3, h4, h5⟩ := s'.tl
  have l1 := t.lt; have l2 := o.lt; have l3 := t.lg; have l4 := o.lg
  have b' : But (fun i => v.ownBlock = some i) X w' := (But.refl (fun i => v.ownBlock = some i) X).grown hg (fun k hk => hk)
  have nh : ∀ i, (i = ht ∨ i = mt ∨ i = gt ∨ i = ho ∨ i = mo ∨ i = go) → ¬ v.ownBlock = some i := by
    intro i hi hv
    obtain ⟨o1, o2, o3, o4, o5, o6⟩ := h4 i hv
    rcases hi with h | h | h | h | h | h <;> contradiction
  refine ⟨⟨gt, go, lo, t.kept b' (nh _ (.inl rfl)) (nh _ (.inr (.inl rfl))) (nh _ (.inr (.inr (.inl rfl)))), o.kept b' (nh _ (.inr (.inr (.inr (.inl rfl))))) (nh _ (.inr (.inr (.inr (.inr (.inl rfl)))))) (nh _ (.inr (.inr (.inr (.inr (.inr rfl)))))), h1, h2, h3, fun g hgg => ?_, h5⟩, s.lo4, ?_, fun b a hq => ?_, s'.b.trans (b'.below s'.b.size fun i hi => (s'.row.lt i hi).1)⟩
  · have : g' = g := by simpa [Value.ownBlock] using hgg
    subst this
    rcases hat with hat | hat
    · exact h4 _ hat
    · unfold Off; omega
  · rw [List.length_append, rc_append]; exact hown
  · obtain ⟨x1, x2, x3⟩ := s'.bx b a hq
    have hl := (Array.getElem?_eq_some_iff.1 x2).1
    refine ⟨x1, (b'.block b hl x3).trans x2, fun e => ?_⟩
    have : g' = b := by simpa [Value.ownBlock] using e
    subst this
    rcases hat with hat | hat
    · exact x3 hat
    · omega
/-- The entry of one call of the row is written over. -/
theorem St.set {g cap : Nat} (s : St W w ht mt ho mo n q l (.slice (some ⟨g, 0, none⟩) R.length cap) R) (k : Nat) (hk : k < R.length) (e : Int) :
    St W (w.setCell ⟨g, k * 4 + 3, none⟩ (i64 e)) ht mt ho mo n q l (.slice (some ⟨g, 0, none⟩) R.length cap) (R.set k (R[k].1, R[k].2.1, e)) := by
  obtain ⟨gt, go, lo, t, o, h1, h2, h3, h4, h5⟩ := s.tl
  have b' : But (fun i => i = g) w (w.setCell ⟨g, k * 4 + 3, none⟩ (i64 e)) := (But.refl (fun i => i = g) w).setCell _ rfl _
  have hoff := h4 g rfl
  have hB := (s.row.lt g rfl).1
  obtain ⟨o1, o2, o3, o4, o5, o6⟩ := hoff
  refine ⟨⟨gt, go, lo, t.kept b' o1.symm o2.symm o3.symm, o.kept b' o4.symm o5.symm o6.symm, h1, h2, h3, h4, h5⟩, s.lo4, own_set s.row k hk e, fun b a hq => ?_, s.b.trans (b'.below s.b.size fun i hi => by omega)⟩
  obtain ⟨x1, x2, x3⟩ := s.bx b a hq
  have hl := (Array.getElem?_eq_some_iff.1 x2).1
  exact ⟨x1, (b'.block b hl (fun e => x3 (by rw [e]; rfl))).trans x2, x3⟩
end
end Go.Proofs.Ytkcjhhppfolajaa
