
/-
  slices.DeleteFunc with the function of Flush; Flush.
-/
import Derived.Test.YtkcjhhppfolajaaTlbFl
import Derived.Deep.RegionWith
namespace Go.Proofs.Ytkcjhhppfolajaa
open Go.ChangeShapes Go.WideShapes Go.ChangeAt Go.RowKit
/-- What the sweep leaves. -/
def Swept (m g cap : Nat) (l : List Ent) (tag : Int) (w : World) (e : Ending) (w' : World) : Prop :=
  e = .returned (.slice (some ⟨g, 0, none⟩) (tflush l tag).length cap) ∧ Keys w' g cap ((tflush l tag).map (·.1)) ∧ MapF w' m (tlook (tflush l tag)) (tflush l tag).length ∧ But (fun i => i = m ∨ i = g) w w'
set_option maxRecDepth 100000 in
set_option maxHeartbeats 4000000 in
theorem sweep_says {w : World} {h m bt bx g cap : Nat} {tag : Int} {l : List Ent} (c : Clo w h m bt bx tag) (hK : Keys w g cap (l.map (·.1))) (hm : MapF w m (tlook l) l.length) (hu : Uniq l) (hki : ∀ x ∈ l, KeyIn x.1)
    (hmg : m ≠ g) (d : bt ≠ m ∧ bt ≠ g ∧ bx ≠ m ∧ bx ≠ g ∧ h ≠ m ∧ h ≠ g) :
    Calls Try.prog 14 #[.slice (some ⟨g, 0, none⟩) l.length cap, .func (.func 15) #[] (cap2 bt bx)] w (Swept m g cap l tag w) := by
  obtain ⟨r, hr⟩ : ∃ r, r = Swept m g cap l tag w := ⟨_, rfl⟩
  rw [← hr]
  have hout1 : Hid (∀ w', (∀ y ∈ l, ¬ y.1.1 = tag) → MapF w' m (tlook l) l.length → But (fun i => i = m) w w' → r (.returned (.slice (some ⟨g, 0, none⟩) l.length cap)) w') := by
    intro w' hno h1 h2
    have e := flush_none hno
    rw [hr]; unfold Swept; rw [e]
    exact ⟨rfl, hK.kept (h2.block g hK.lt (fun h => hmg h.symm)), h1, h2.mono fun i h => .inl h⟩
  have hout2 : Hid (∀ wr, Swp w wr m g cap l tag l.length → r (.returned (.slice (some ⟨g, 0, none⟩) (tflush l tag).length cap)) (wr.setCells g ((tflush l tag).length * 2) (kc (List.replicate (l.length - (tflush l tag).length) (0, 0))))) := by
    intro wr s
    obtain ⟨-, s1, s2, s3⟩ := s.done hmg
    rw [hr]; exact ⟨rfl, s1, s2, s3⟩
  have hmx := hK.le
  have hcm : cap ≤ 9223372036854775807 := hK.capl
  rw [List.length_map] at hmx
  have HI := hidF (index_says c hK hm hu hki)
  have eg : ∀ args w, (callFunc 15 args).run Try.prog w = .ok (.enter 15 args) w := fun _ _ => by kernel_rfl
  have HS : Hid (∀ j (hj : j < l.length) w', (∀ i (hi : i < l.length), i < j → ¬ l[i].1.1 = tag) → l[j].1.1 = tag → MapF w' m (tlook (l.take j ++ l.drop (j + 1))) (l.take j ++ l.drop (j + 1)).length → But (fun i => i = m) w w' → (tflush (l.take (j + 1)) tag).length = j ∧ Swp w w' m g cap l tag (j + 1)) :=
    fun j hj w' h1 h2 h3 h4 => Swp.start hK hj h1 h2 hmg h3 h4
  have HK := hidF hK; have HM := hidF hm; have HU := hidF hu; have HQ := hidF hki; have HC := hidF c
  clear hr hK hm hu hki c
  go_enter Try.func14, Try.ntmps14
  go_wp2_with (go_at_call 17; refine HI.out.mono ?_; rintro e w' (⟨hno, rfl, h1, h2⟩ | ⟨j0, hj0, hno, ht0, rfl, h1, h2⟩))
  · exact hout1.out w' hno h1 h2
  · obtain ⟨hi0, s0⟩ := HS.out j0 hj0 w' hno ht0 h1 h2
    clear hno ht0 h1 h2
    go_loopw [5, 6, 7] (fun s5 s6 _ wr => ∃ j : Nat, j ≤ l.length ∧ s5 = .int .i64 (tflush (l.take j) tag).length ∧ s6 = .int .i64 j ∧ Swp w wr m g cap l tag j) (fun _ s6 _ _ => l.length - (intOf s6).toNat)
    case atStart => exact ⟨j0 + 1, hj0, by rw [hi0], by go_num, s0⟩
    case round =>
      clear s0 hi0
      obtain ⟨j, hj, rfl, rfl, s⟩ := hrel
      by_cases hjl : j < l.length
      · obtain ⟨x, hx⟩ : ∃ x, x = l[j] := ⟨_, rfl⟩
        obtain ⟨ys, k1, k2, k3, k4⟩ := s.kk
        have slt := s.lt
        have hcx : wr.cell? ⟨g, j * 2, none⟩ = some (i64 x.1.1) ∧ wr.cell? ⟨g, j * 2 + 1, none⟩ = some (i64 x.1.2) := by
          have h := k1.cell j (by omega)
          have e : ys[j] = x.1 := by
            have e1 : (ys.drop j)[0]? = ((l.drop j).map (·.1))[0]? := by rw [k4]
            rw [List.getElem?_drop, List.getElem?_map, List.getElem?_drop, Nat.add_zero, List.getElem?_eq_getElem (by omega), List.getElem?_eq_getElem (by omega)] at e1
            rw [hx]; simpa using e1
          rw [e] at h; exact h
        obtain ⟨c0, c1⟩ := hcx
        have W1 : But (fun _ => False) wr (wr.alloc (.cells #[i64 x.1.1, i64 x.1.2] 42)) := (But.refl _ wr).alloc _
        have hsp := split_at (l.drop j) 0 (by rw [List.length_drop]; omega)
        have hd : l.drop j = x :: l.drop (j + 1) := by rw [hx]; simp
        have hmr := s.mp.kept (W1.block m s.mp.lt id)
        have hur : Uniq (tflush (l.take j) tag ++ l.drop j) := by
          have h1 : (tflush (l.take j) tag ++ l.drop j).Sublist l := by
            conv => rhs; rw [← List.take_append_drop j l]
            exact List.Sublist.append_right (List.filter_sublist) _
          have h2 := HU.out
          unfold Uniq at h2 ⊢
          exact h2.sublist (h1.map _)
        rw [hd] at hmr hur
        have hkx := HQ.out x (by rw [hx]; exact List.getElem_mem hjl)
        have cr : Clo (wr.alloc (.cells #[i64 x.1.1, i64 x.1.2] 42)) h m bt bx tag := HC.out.kept (s.b.trans (W1.mono fun _ h => h.elim)) (by omega) (by omega) (by omega)
        by_cases ht : x.1.1 = tag
        · have hc := hidF (clo_yes cr hmr hur hkx ht)
          have hn : Hid (∀ w', MapF w' m (tlook (tflush (l.take j) tag ++ l.drop (j + 1))) (tflush (l.take j) tag ++ l.drop (j + 1)).length → But (fun i => i = m) (wr.alloc (.cells #[i64 x.1.1, i64 x.1.2] 42)) w' → (tflush (l.take (j + 1)) tag).length = (tflush (l.take j) tag).length ∧ Swp w w' m g cap l tag (j + 1)) := by
            intro w' h1 h2
            refine ⟨?_, s.gone hjl (by rw [← hx]; exact ht) hmg h1 ((W1.mono fun _ h => h.elim).trans h2)⟩
            rw [flush_snoc l tag j hjl, if_pos (by rw [← hx]; exact ht)]
          clear hsp hd hmr hur hkx cr W1 k1 k3 k4 hx s ht k2
          go_wp2_with (go_at_fn 15; refine hc.out.mono ?_; rintro e w' ⟨rfl, hm2, b2⟩)
          obtain ⟨e2, s2⟩ := hn.out w' hm2 b2
          replace s2 := hidF s2
          replace e2 := hidF e2
          clear hn hm2 b2
          go_roundw
          case rel =>
            refine ⟨_, _, _, _, _, _, _, _, _, _, _, _, _, _, _, _, _, _, _, _, _, _, _, ⟨j + 1, hjl, ?_, ?_, s2.out⟩, rfl⟩
            · rw [e2.out]
            · go_num
          case measure => simp [intOf]; omega
        · have hc := hidF (clo_no cr x.1 ht)
          have kI := k1.cell (tflush (l.take j) tag).length (by omega)
          have hn : Hid (∀ w', But (fun _ => False) (wr.alloc (.cells #[i64 x.1.1, i64 x.1.2] 42)) w' → (tflush (l.take (j + 1)) tag).length = (tflush (l.take j) tag).length + 1 ∧ Swp w ((w'.setCell ⟨g, (tflush (l.take j) tag).length * 2, none⟩ (i64 x.1.1)).setCell ⟨g, (tflush (l.take j) tag).length * 2 + 1, none⟩ (i64 x.1.2)) m g cap l tag (j + 1) ∧
              w'.cell? ⟨wr.heap.size, 0, none⟩ = some (i64 x.1.1) ∧ w'.cell? ⟨wr.heap.size, 1, none⟩ = some (i64 x.1.2) ∧ (∃ u v, w'.cell? ⟨g, (tflush (l.take j) tag).length * 2, none⟩ = some u ∧ w'.cell? ⟨g, (tflush (l.take j) tag).length * 2 + 1, none⟩ = some v) ∧ w'.frozen? ⟨g, (tflush (l.take j) tag).length * 2, none⟩ = false ∧ w'.frozen? ⟨g, (tflush (l.take j) tag).length * 2 + 1, none⟩ = false) := by
            intro w' h2
            have hb := W1.trans h2
            have kw := k1.kept (hb.block g k1.lt id)
            have hbx := (h2.block wr.heap.size (by simp) id).trans (heap_alloc_new wr (.cells #[i64 x.1.1, i64 x.1.2] 42))
            refine ⟨?_, s.stays hjl (by rw [← hx]; exact ht) hmg hb hx, by rw [cell_of_row _ _ 0 _ _ _ hbx]; rfl, by rw [cell_of_row _ _ 1 _ _ _ hbx]; rfl, ⟨_, _, hb.cell kI.1 id, hb.cell kI.2 id⟩, kw.frozen _, kw.frozen _⟩
            rw [flush_snoc l tag j hjl, if_neg (by rw [← hx]; exact ht)]; simp
          have lti : (tflush (l.take j) tag).length < l.length := by omega
          clear hsp hd hmr hur hkx cr W1 k1 k3 k4 hx s ht k2 kI
          generalize (tflush (l.take j) tag).length = i at *
          go_wp2_with (go_at_fn 15; refine hc.out.mono ?_; rintro e w' ⟨rfl, b2⟩; obtain ⟨hl2, s2, f1, f2, ⟨u1, u2, f3, f4⟩, f5, f6⟩ := hn.out w' b2; replace s2 := hidF s2; replace hl2 := hidF hl2)
          clear hn b2
          go_roundw
          case rel =>
            refine ⟨_, _, _, _, _, _, _, _, _, _, _, _, _, _, _, _, _, _, _, _, _, _, _, ⟨j + 1, hjl, ?_, ?_, s2.out⟩, rfl⟩
            · rw [hl2.out]; go_num
            · go_num
          case measure => simp [intOf]; omega
      · have hkn : j = l.length := by omega
        subst hkn
        have ho := hout2.out wr s
        obtain ⟨hcl, -⟩ := s.done hmg
        have lti := s.lt
        rw [List.take_length] at lti ⊢
        clear s
        generalize (tflush l tag).length = i at *
        go_wp2
        exact ho
theorem sweep_nil {w : World} {bt bx : Nat} :
    Calls Try.prog 14 #[.slice none 0 0, .func (.func 15) #[] (cap2 bt bx)] w fun e w' => e = .returned (.slice none 0 0) ∧ w = w' := by
  have h : Calls Try.prog 17 #[.slice none 0 0, .func (.func 15) #[] (cap2 bt bx)] w fun e w' => e = .returned (i64 (-1)) ∧ w = w' := by
    go_enter Try.func17, Try.ntmps17
    go_wp2_with fail
    go_loopw [5, 8] (fun _ i wr => i = .int .i64 0 ∧ w = wr) (fun _ _ _ => 0)
    case atStart => exact ⟨rfl, rfl⟩
    case round =>
      obtain ⟨rfl, rfl⟩ := hrel
      go_wp2
      go_ret
      exact ⟨rfl, rfl⟩
  go_enter Try.func14, Try.ntmps14
  go_wp2_with (go_at_call 17; refine h.mono ?_; rintro e w' ⟨rfl, rfl⟩)
  go_ret
  exact ⟨rfl, rfl⟩
theorem Tl.swept {w W w2 : World} {h m g n : Nat} {l : List Ent} {cap : Nat} {tag : Int} (ht : Tl w h m g n l) (hh : w.heap[h]? = some (.cells #[i64 n, .map (some m), .slice (some ⟨g, 0, none⟩) l.length cap] 40 (0, 0))) (d1 : h ≠ g) (d2 : m ≠ g) (b0 : But (fun _ => False) w W)
    (k2 : Keys w2 g cap ((tflush l tag).map (·.1))) (m2 : MapF w2 m (tlook (tflush l tag)) (tflush l tag).length) (b2 : But (fun i => i = m ∨ i = g) W w2) :
    w2.cell? ⟨h, 2, none⟩ = some (.slice (some ⟨g, 0, none⟩) l.length cap) ∧ w2.frozen? ⟨h, 2, none⟩ = false ∧ Did h m g n (tflush l tag) w (w2.setCell ⟨h, 2, none⟩ (.slice (some ⟨g, 0, none⟩) (tflush l tag).length cap)) := by
  have hm := ht.hm
  have b3 : But (fun i => i = m ∨ i = g) w w2 := (b0.mono fun _ h => h.elim).trans b2
  obtain ⟨lh, lm⟩ := ht.lt
  have hh2 := (b3.block h lh (by omega)).trans hh
  refine ⟨by rw [cell_of_row w2 h 2 _ _ _ hh2]; rfl, by simp [World.frozen?, hh2], g, ⟨⟨_, setCell_row hh2 2 _, .inr ⟨cap, by rw [List.length_map], k2.kept (Below.heap_setCell _ _ _ _ (fun e => d1 e.symm)), d1, d2⟩⟩, m2.kept (Below.heap_setCell _ _ _ _ (fun e => hm e.symm)), uniq_flush ht.uq _, ?_, ht.n1, ht.n2, Nat.le_trans (flush_length _ _) ht.le, hm, ?_⟩, .inl rfl, (b3.mono fun i hi => .inr hi).setCell _ (.inl rfl) _⟩
  · intro x hx
    exact ht.ki x (List.mem_filter.1 hx).1
  · have := k2.lt; simpa [World.setCell] using this
set_option maxRecDepth 100000 in
set_option maxHeartbeats 4000000 in
theorem flush_live {w : World} {h m g n : Nat} {l : List Ent} (ht : Tl w h m g n l) {cap : Nat} (hh : w.heap[h]? = some (.cells #[i64 n, .map (some m), .slice (some ⟨g, 0, none⟩) l.length cap] 40 (0, 0))) (hK : Keys w g cap (l.map (·.1))) (d1 : h ≠ g) (d2 : m ≠ g) (tag : Int) :
    Calls Try.prog 11 #[.pointer (some ⟨h, 0, none⟩), i64 tag] w fun e w' => e = .returned (.tuple #[]) ∧ Did h m g n (tflush l tag) w w' := by
  obtain ⟨r, hr⟩ : ∃ r : Ending → World → Prop, r = fun e w' => e = .returned (.tuple #[]) ∧ Did h m g n (tflush l tag) w w' := ⟨_, rfl⟩
  rw [← hr]
  have hmf : ∀ (fn : Fn) (first cap : Array Value) (w : World), (Instr.makeFunc fn first cap).run Try.prog w = .ok (.func fn first cap) w := fun _ _ _ _ => rfl
  have hm := ht.hm
  obtain ⟨lh, lm⟩ := ht.lt
  have lg := ht.lg
  have b0 : But (fun _ => False) w ((w.alloc (.cells #[.pointer (some ⟨h, 0, none⟩)] 24)).alloc (.cells #[.int .i64 tag] 3)).drew := (((But.refl _ w).alloc _).alloc _).drew
  have c2 : w.cell? ⟨h, 2, none⟩ = some (.slice (some ⟨g, 0, none⟩) l.length cap) := by rw [cell_of_row w h 2 _ _ _ hh]; rfl
  have c1 : w.cell? ⟨h, 1, none⟩ = some (.map (some m)) := by rw [cell_of_row w h 1 _ _ _ hh]; rfl
  have hbx : ((w.alloc (.cells #[.pointer (some ⟨h, 0, none⟩)] 24)).alloc (.cells #[.int .i64 tag] 3)).drew.heap[w.heap.size]? = some (.cells #[.pointer (some ⟨h, 0, none⟩)] 24 (0, 0)) := (Below.heap_alloc _ _ _ (by simp)).trans (heap_alloc_new w _)
  have hbt : ((w.alloc (.cells #[.pointer (some ⟨h, 0, none⟩)] 24)).alloc (.cells #[.int .i64 tag] 3)).drew.heap[w.heap.size + 1]? = some (.cells #[i64 tag] 3 (0, 0)) := by
    have := heap_alloc_new (w.alloc (.cells #[.pointer (some ⟨h, 0, none⟩)] 24)) (.cells #[.int .i64 tag] 3)
    rw [show (w.alloc (.cells #[.pointer (some ⟨h, 0, none⟩)] 24)).heap.size = w.heap.size + 1 by simp] at this
    exact this
  have hc : Clo ((w.alloc (.cells #[.pointer (some ⟨h, 0, none⟩)] 24)).alloc (.cells #[.int .i64 tag] 3)).drew h m (w.heap.size + 1) w.heap.size tag := ⟨by rw [cell_of_row _ _ 0 _ _ _ hbt]; rfl, by rw [cell_of_row _ _ 0 _ _ _ hbx]; rfl, b0.cell c1 id⟩
  have HS := hidF (sweep_says hc (hK.kept (b0.block g lg id)) (ht.mp.kept (b0.block m lm id)) ht.uq ht.ki d2 (by omega))
  have ho : Hid (∀ w2, Keys w2 g cap ((tflush l tag).map (·.1)) → MapF w2 m (tlook (tflush l tag)) (tflush l tag).length → But (fun i => i = m ∨ i = g) ((w.alloc (.cells #[.pointer (some ⟨h, 0, none⟩)] 24)).alloc (.cells #[.int .i64 tag] 3)).drew w2 → w2.cell? ⟨w.heap.size, 0, none⟩ = some (.pointer (some ⟨h, 0, none⟩)) ∧ w2.cell? ⟨h, 2, none⟩ = some (.slice (some ⟨g, 0, none⟩) l.length cap) ∧ w2.frozen? ⟨h, 2, none⟩ = false ∧ r (.returned (.tuple #[])) (w2.setCell ⟨h, 2, none⟩ (.slice (some ⟨g, 0, none⟩) (tflush l tag).length cap))) := by
    intro w2 h1 h2 h3
    obtain ⟨a1, a2, a3⟩ := ht.swept hh d1 d2 b0 h1 h2 h3
    rw [hr]; exact ⟨h3.cell hc.cx (by show ¬ (w.heap.size = m ∨ w.heap.size = g); omega), a1, a2, rfl, a3⟩
  have x2 := (((But.refl (fun _ => False) w).alloc (.cells #[.pointer (some ⟨h, 0, none⟩)] 24)).alloc (.cells #[.int .i64 tag] 3)).cell c2 id
  clear hr hc hbt hbx c1 b0 ht hh hK
  go_enter Try.func11, Try.ntmps11
  go_wp2_with fail
  go_region_with (go_at_call 14; refine HS.out.mono ?_; rintro e w2 ⟨rfl, k2, m2, b2⟩; obtain ⟨f0, f1, f2, f3⟩ := ho.out w2 k2 m2 b2)
  all_goals
    go_wp2_with fail
    go_end0
    exact f3
set_option maxRecDepth 100000 in
set_option maxHeartbeats 4000000 in
theorem flush_nil {w : World} {h m g n : Nat} (ht : Tl w h m g n []) (hh : w.heap[h]? = some (.cells #[i64 n, .map (some m), .slice none 0 0] 40 (0, 0))) (tag : Int) :
    Calls Try.prog 11 #[.pointer (some ⟨h, 0, none⟩), i64 tag] w fun e w' => e = .returned (.tuple #[]) ∧ Did h m g n [] w w' := by
  obtain ⟨r, hr⟩ : ∃ r : Ending → World → Prop, r = fun e w' => e = .returned (.tuple #[]) ∧ Did h m g n [] w w' := ⟨_, rfl⟩
  rw [← hr]
  have hmf : ∀ (fn : Fn) (first cap : Array Value) (w : World), (Instr.makeFunc fn first cap).run Try.prog w = .ok (.func fn first cap) w := fun _ _ _ _ => rfl
  have hm := ht.hm
  obtain ⟨lh, lm⟩ := ht.lt
  have b0 : But (fun _ => False) w ((w.alloc (.cells #[.pointer (some ⟨h, 0, none⟩)] 24)).alloc (.cells #[.int .i64 tag] 3)).drew := (((But.refl _ w).alloc _).alloc _).drew
  have c2 : w.cell? ⟨h, 2, none⟩ = some (.slice none 0 0) := by rw [cell_of_row w h 2 _ _ _ hh]; rfl
  have x2 := (((But.refl (fun _ => False) w).alloc (.cells #[.pointer (some ⟨h, 0, none⟩)] 24)).alloc (.cells #[.int .i64 tag] 3)).cell c2 id
  have hw2 : ((w.alloc (.cells #[.pointer (some ⟨h, 0, none⟩)] 24)).alloc (.cells #[.int .i64 tag] 3)).drew.heap[h]? = some (.cells #[i64 n, .map (some m), .slice none 0 0] 40 (0, 0)) := (b0.block h lh id).trans hh
  have x3 : ((w.alloc (.cells #[.pointer (some ⟨h, 0, none⟩)] 24)).alloc (.cells #[.int .i64 tag] 3)).frozen? ⟨h, 2, none⟩ = false := by
    have : ((w.alloc (.cells #[.pointer (some ⟨h, 0, none⟩)] 24)).alloc (.cells #[.int .i64 tag] 3)).heap[h]? = some (.cells #[i64 n, .map (some m), .slice none 0 0] 40 (0, 0)) := hw2
    simp [World.frozen?, this]
  have x4 : w.frozen? ⟨h, 2, none⟩ = false := by simp [World.frozen?, hh]
  have b2 : But (fun _ => False) (w.setCell ⟨h, 2, none⟩ (.slice none 0 0)) (((w.setCell ⟨h, 2, none⟩ (.slice none 0 0)).alloc (.cells #[.pointer (some ⟨h, 0, none⟩)] 24)).alloc (.cells #[.int .i64 tag] 3)).drew := (((But.refl _ _).alloc _).alloc _).drew
  have hb := (((But.refl (fun i => i = h ∨ i = m ∨ i = g) w).setCell ⟨h, 2, none⟩ (.inl rfl) (.slice none 0 0))).trans (b2.mono fun _ h => h.elim)
  have hz : (w.setCell ⟨h, 2, none⟩ (.slice none 0 0)).heap.size = w.heap.size := by simp [World.setCell]
  have ho : r (.returned (.tuple #[])) (((w.setCell ⟨h, 2, none⟩ (.slice none 0 0)).alloc (.cells #[.pointer (some ⟨h, 0, none⟩)] 24)).alloc (.cells #[.int .i64 tag] 3)).drew := by
    rw [hr]
    exact ⟨rfl, g, ⟨⟨_, (b2.block h (by omega) id).trans (setCell_row hh 2 _), .inl ⟨rfl, rfl⟩⟩, ht.mp.kept ((b2.block m (by omega) id).trans (Below.heap_setCell _ _ _ _ (fun e => hm e.symm))), ht.uq, ht.ki, ht.n1, ht.n2, ht.le, hm, Nat.lt_of_lt_of_le ht.lg hb.size⟩, .inl rfl, hb⟩
  have HS := fun W bt bx => hidF (sweep_nil (w := W) (bt := bt) (bx := bx))
  clear hr b0 ht hh hw2 hb b2 hz
  go_enter Try.func11, Try.ntmps11
  go_wp2_with fail
  go_region_with (go_at_call 14; refine (HS _ _ _).out.mono ?_; rintro e w2 ⟨rfl, rfl⟩)
  all_goals
    go_wp2_with fail
    go_end0
    exact ho
theorem flush_says {w : World} {h m g n : Nat} {l : List Ent} (ht : Tl w h m g n l) (tag : Int) : Calls Try.prog 11 #[.pointer (some ⟨h, 0, none⟩), i64 tag] w fun e w' => e = .returned (.tuple #[]) ∧ Did h m g n (tflush l tag) w w' := by
  obtain ⟨v, h1, ⟨rfl, h2⟩ | ⟨cap, rfl, h2, d1, d2⟩⟩ := ht.hd
  · rw [List.map_eq_nil_iff] at h2
    subst h2
    exact flush_nil ht h1 tag
  · rw [List.length_map] at h1
    exact flush_live ht h1 h2 d1 d2 tag
end Go.Proofs.Ytkcjhhppfolajaa
