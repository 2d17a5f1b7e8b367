
/-
  Package lexer: number.
-/
import Derived.Test.YtgikcciakbnehaaDoorLexNu
import Derived.Test.YtgikcciakbnehaaDoorLexNm
set_option maxRecDepth 100000
namespace Go.Proofs.YtgikcciakbnehaaDoor.Lex
open Go.Proofs.YtgikcciakbnehaaDoor Go.Proofs.YtgikcciakbnehaaDoor.Ser
open Go.ChangeShapes Go.WideShapes Go.ChangeAt Go.RowKit
/-- The two blocks lie, and nothing else has turned. -/
structure Start (w wx : World) (l c : Int) : Prop where
  x : Box2 w wx l c
  b : But (fun _ => False) w wx
theorem start_a (w : World) (l c : Int) (n : Nat) : Start w (((w.alloc (.cells #[i64 0, i64 0, i64 0] 45)).drewN n).alloc (.cells #[i64 l, i64 c] 40)) l c := by
  have h1 := (MapKept.heap_alloc w (.cells #[i64 0, i64 0, i64 0] 45)).1
  have h2 := (MapKept.heap_alloc ((w.alloc (.cells #[i64 0, i64 0, i64 0] 45)).drewN n) (.cells #[i64 l, i64 c] 40)).1
  rw [World.heap_drewN, World.size_alloc] at h2
  refine ⟨⟨?_, h2⟩, (((But.refl _ w).alloc _).trans (but_drewn _ _ n)).alloc _⟩
  rw [Below.heap_alloc _ _ _ (by simp)]
  exact h1
theorem start_b (w : World) (l c : Int) (n : Nat) : Start w (((((w.alloc (.cells #[i64 0, i64 0, i64 0] 45)).alloc (.cells #[i64 0, i64 0] 40)).drewN n).setCell ⟨w.heap.size + 1, 0, none⟩ (i64 l)).setCell ⟨w.heap.size + 1, 1, none⟩ (i64 c)) l c := by
  have h1 := (MapKept.heap_alloc w (.cells #[i64 0, i64 0, i64 0] 45)).1
  have h2 := (MapKept.heap_alloc (w.alloc (.cells #[i64 0, i64 0, i64 0] 45)) (.cells #[i64 0, i64 0] 40)).1
  rw [World.size_alloc] at h2
  have h3 : (((w.alloc (.cells #[i64 0, i64 0, i64 0] 45)).alloc (.cells #[i64 0, i64 0] 40)).drewN n).heap[w.heap.size]? = some (.cells #[i64 0, i64 0, i64 0] 45 (0, 0)) := by
    rw [World.heap_drewN, Below.heap_alloc _ _ _ (by simp)]; exact h1
  have h4 := setCell_row (setCell_row (w := ((w.alloc (.cells #[i64 0, i64 0, i64 0] 45)).alloc (.cells #[i64 0, i64 0] 40)).drewN n) h2 0 (i64 l)) 1 (i64 c)
  refine ⟨⟨?_, h4⟩, ?_⟩
  · rw [Below.heap_setCell _ _ _ _ (by show w.heap.size ≠ w.heap.size + 1; omega), Below.heap_setCell _ _ _ _ (by show w.heap.size ≠ w.heap.size + 1; omega)]
    exact h3
  · have b1 : But (fun _ => False) w ((w.alloc (.cells #[i64 0, i64 0, i64 0] 45)).alloc (.cells #[i64 0, i64 0] 40)) := ((But.refl _ w).alloc _).alloc _
    refine ((b1.trans (but_drewn _ _ n)).then (T := fun _ => False) (S' := fun i => i = w.heap.size + 1) (But.setCell (But.setCell (But.refl (fun i => i = w.heap.size + 1) _) ⟨w.heap.size + 1, 0, none⟩ rfl _) ⟨w.heap.size + 1, 1, none⟩ rfl _) (fun _ h => h) (fun i hi h => by omega))
theorem cap_snoc (b : Int) (xs : List Int) (r : Int) : cap b (xs ++ [r]) = min (cap b xs * b + hexv r) 4294967296 := by unfold cap; rw [List.foldl_append]; rfl
theorem isd_bd {b r : Int} (h : isd b r = true) : 0 ≤ hexv r ∧ hexv r < b := by unfold isd at h; simpa using h
theorem cap_bd {b : Int} (hb : 0 ≤ b) : ∀ xs : List Int, (∀ r ∈ xs, 0 ≤ hexv r) → 0 ≤ cap b xs ∧ cap b xs ≤ 4294967296 := by
  intro xs
  unfold cap
  suffices ∀ (xs : List Int) (v : Int), 0 ≤ v → v ≤ 4294967296 → (∀ r ∈ xs, 0 ≤ hexv r) → 0 ≤ xs.foldl (fun v r => min (v * b + hexv r) 4294967296) v ∧ xs.foldl (fun v r => min (v * b + hexv r) 4294967296) v ≤ 4294967296 from this xs 0 (by decide) (by decide)
  intro xs
  induction xs with
  | nil => intro v h0 h1 _; exact ⟨h0, h1⟩
  | cons a xs ih =>
    intro v h0 h1 hx
    have ha := hx a (by simp)
    have hv := Int.mul_nonneg h0 hb
    exact ih _ (by show 0 ≤ min (v * b + hexv a) 4294967296; omega) (by show min (v * b + hexv a) 4294967296 ≤ 4294967296; omega) (fun r hr => hx r (by simp [hr]))
/-- The digits of a place. -/
theorem dig_at {L : List Int} {p n : Nat} {b : Int} (h : n < (digs b (L.drop p)).length) : isd b (hd (L.drop (p + n))) = true := by
  have := tw_at (isd b) (L.drop p) n h
  rwa [List.drop_drop] at this
theorem dig_end {L : List Int} {p : Nat} {b : Int} (hG : Good L) (hp : p < L.length) : isd b (hd (L.drop (p + (digs b (L.drop p)).length))) = false ∧ p + (digs b (L.drop p)).length < L.length := by
  have h1 : isd b (-1) = false := by unfold isd; rw [show hexv (-1) = -1 by decide]; rfl
  have h2 : isd b (-2) = false := by unfold isd; rw [show hexv (-2) = -1 by decide]; rfl
  refine ⟨?_, ?_⟩
  · have := tw_end (isd b) h1 (L.drop p)
    rwa [List.drop_drop] at this
  · have := (hG.drop p hp).tw (isd b) h1 h2
    unfold digs
    rw [List.length_drop] at this
    omega
theorem take_snoc (xs : List Int) {n : Nat} (h : n < xs.length) : xs.take (n + 1) = xs.take n ++ [xs[n]] := by
  rw [List.take_add_one, List.getElem?_eq_getElem h]; rfl
theorem dig_get {L : List Int} {p n : Nat} {b : Int} (h : n < (digs b (L.drop p)).length) : (digs b (L.drop p))[n] = hd (L.drop (p + n)) := by
  have e : (digs b (L.drop p)) <+: (L.drop p) := List.takeWhile_prefix _
  have hl : n < (L.drop p).length := Nat.lt_of_lt_of_le h e.length_le
  have h1 : (digs b (L.drop p))[n] = (L.drop p)[n] := e.getElem h
  have h2 := hd_get (L := L.drop p) hl
  rw [List.getElem?_eq_getElem hl, List.drop_drop] at h2
  rw [h1]
  exact Option.some.inj h2
theorem dig_cap {L : List Int} {p n : Nat} {b : Int} (h : n < (digs b (L.drop p)).length) : cap b ((digs b (L.drop p)).take (n + 1)) = min (cap b ((digs b (L.drop p)).take n) * b + hexv (hd (L.drop (p + n)))) 4294967296 := by
  rw [take_snoc _ h, cap_snoc, dig_get h]
theorem dig_nn {L : List Int} {p n : Nat} {b : Int} : ∀ r ∈ (digs b (L.drop p)).take n, 0 ≤ hexv r := by
  intro r hr
  have h1 := List.mem_of_mem_take hr
  unfold digs at h1
  have : isd b r = true := by
    have := List.all_takeWhile (l := L.drop p) (p := isd b)
    exact List.all_eq_true.1 this r h1
  exact (isd_bd this).1
theorem hexv_pos {x : Int} (h : 0 ≤ hexv x) : 0 ≤ x := by
  unfold hexv dig at h
  split at h
  · rename_i h1; simp at h1; omega
  · split at h
    · omega
    · split at h <;> omega
theorem base_two (M : List Int) : base M = 10 ∨ base M = 16 := by unfold base; split <;> simp
theorem pre_at {L : List Int} {k : Nat} (hG : Good L) (hk : k < L.length) (hb : base (L.drop k) = 16) : pre (L.drop k) = 2 ∧ 0 ≤ hd (L.drop k) ∧ 0 ≤ hd (L.drop (k + 1)) ∧ k + 2 < L.length := by
  have h := hb
  unfold base at h
  rw [List.drop_drop, List.drop_drop] at h
  have h3 : hd (L.drop k) = 48 ∧ hd (L.drop (k + 1)) = 120 := by
    by_cases hc : hd (L.drop k) = 48 ∧ hd (L.drop (k + 1)) = 120 ∧ 0 ≤ hexv (hd (L.drop (k + 2)))
    · exact ⟨hc.1, hc.2.1⟩
    · rw [if_neg hc] at h; cases h
  have m1 := hG.more k hk (by omega)
  exact ⟨by unfold pre; rw [if_pos hb], by omega, by omega, hG.more (k + 1) m1 (by omega)⟩
section
variable {w : World} {B h g q k : Nat} {L : List Int} {l c : Int} {v : Value} {T : List Tok}
set_option maxRecDepth 100000 in
set_option maxHeartbeats 4000000 in
theorem number_says (R : Rd w B h g q L k l c v T) (hT : T.length ≤ 1000000) (hB : B ≤ w.heap.size) : Calls Tryd.prog 30 #[.pointer (some ⟨h, 0, none⟩)] w fun e w' => e = .returned (fV (numO (L.drop k) l c)) ∧ Did w w' B h g q L k l c v T (numO (L.drop k) l c) := by
  obtain ⟨r, hr⟩ : ∃ r : Ending → World → Prop, r = fun e w' => e = .returned (fV (numO (L.drop k) l c)) ∧ Did w w' B h g q L k l c v T (numO (L.drop k) l c) := ⟨_, rfl⟩
  rw [← hr]
  have c2 := cell1 R.c2 (.cells #[i64 0, i64 0, i64 0] 45)
  have c3 := cell1 R.c3 (.cells #[i64 0, i64 0, i64 0] 45)
  have d2 := cell2 R.c2 (.cells #[i64 0, i64 0, i64 0] 45) (.cells #[i64 0, i64 0] 40)
  have d3 := cell2 R.c3 (.cells #[i64 0, i64 0, i64 0] 45) (.cells #[i64 0, i64 0] 40)
  have g2 : ∀ m, (((w.alloc (.cells #[i64 0, i64 0, i64 0] 45)).drewN m).alloc (.cells #[i64 0, i64 0] 40)).cell? ⟨h, 2, none⟩ = some (i64 l) := fun m => cell1 (w := (w.alloc (.cells #[i64 0, i64 0, i64 0] 45)).drewN m) c2 _
  have g3 : ∀ m, (((w.alloc (.cells #[i64 0, i64 0, i64 0] 45)).drewN m).alloc (.cells #[i64 0, i64 0] 40)).cell? ⟨h, 3, none⟩ = some (i64 c) := fun m => cell1 (w := (w.alloc (.cells #[i64 0, i64 0, i64 0] 45)).drewN m) c3 _
  have HR := Lib.hid R
  have HZ := Lib.hid R.lt
  have HT := Lib.hid hT
  have HB := Lib.hid hB
  have HG := Lib.hid (⟨R.good, R.kl⟩ : Good L ∧ k < L.length)
  have hbt := base_two (L.drop k)
  have HP := Lib.hid (fun hb => pre_at (k := k) R.good R.kl hb)
  have HP0 := Lib.hid (show base (L.drop k) = 10 → pre (L.drop k) = 0 by intro e; unfold pre; rw [e]; rfl)
  have hfin : fV (numO (L.drop k) l c) = fV (numO (L.drop k) l c) := rfl
  have hlen : numLen (L.drop k) = pre (L.drop k) + (digs (base (L.drop k)) (L.drop (k + pre (L.drop k)))).length := by unfold numLen; rw [List.drop_drop]
  have hval : numVal (L.drop k) = cap (base (L.drop k)) (digs (base (L.drop k)) (L.drop (k + pre (L.drop k)))) := by unfold numVal; rw [List.drop_drop]
  have hnum : numO (L.drop k) l c = if letter (hd (L.drop (k + numLen (L.drop k)))) then errO 3 l (c + numLen (L.drop k)) else if 4294967295 < numVal (L.drop k) then errO 6 l c else okO (numLen (L.drop k)) [⟨2, txt [], numVal (L.drop k), l, c⟩] := by
    unfold numO; rw [List.drop_drop]
  have hk0 : (0 : Int) ≤ (k : Int) := Int.natCast_nonneg k
  clear hT hB hfin
  obtain ⟨bs, hbs⟩ : ∃ bs, base (L.drop k) = bs := ⟨_, rfl⟩
  obtain ⟨p, hp⟩ : ∃ p, pre (L.drop k) = p := ⟨_, rfl⟩
  rw [hbs, hp] at hlen hval HP HP0
  rw [hbs] at hbt
  go_enter Tryd.func30, Tryd.ntmps30
  go_upto_region 1 with fail
  go_cut [3, 4] from 5 (fun s3 s4 wx => s3 = .pointer (some ⟨w.heap.size + 1, 0, none⟩) ∧ s4 = i64 bs ∧ Start w wx l c)
  case first =>
    clear HZ HT HB HG hbt HP HP0 hlen hval hnum R
    go_region_with (go_at_call 39; refine (base_says (HR.out.later (by first | exact ((But.refl _ w).alloc _) | exact ((But.refl _ w).alloc _).drew | exact ((But.refl _ w).alloc _).alloc _ | exact (((But.refl _ w).alloc _).alloc _).drew))).mono ?_; rintro e t' ⟨rfl, n, rfl⟩; rw [hbs])
    all_goals
      go_wp2_with fail
      go_meet
      case rel => exact ⟨rfl, rfl, by first | exact start_a w l c _ | exact start_b w l c _⟩
  case rest =>
    obtain ⟨rfl, rfl, hS⟩ := hcut
    clear c2 c3 d2 d3 g2 g3
    have HR1 := Lib.hid (R.later hS.b)
    have HS := Lib.hid hS
    clear hS
    have hkp : k + p < L.length := by
      rcases hbt with rfl | rfl
      · rw [HP0.out rfl]; exact HG.out.2
      · have := HP.out rfl; omega
    go_upto_if 15 with fail
    go_cut [] from 5 (fun wx => Rd wx B h g q L (k + p) l (c + p) v T ∧ But (fun i => i = h) w wx ∧ Box2 w wx l c)
    case first =>
      clear HT HB hlen hval hnum
      rcases hbt with rfl | rfl
      · have hp0 := HP0.out rfl
        go_wp2_with fail
        go_meet
        case rel => exact ⟨HR1.out.cast (by omega) (by rw [hp0]; simp), HS.out.b.mono (fun _ h => h.elim), HS.out.x⟩
      · obtain ⟨hp2, h0, h1, -⟩ := HP.out rfl
        have H0 := Lib.hid h0
        have H1 := Lib.hid h1
        clear h0 h1
        go_wp2_with (first
          | (go_at_call 24; refine (next_says K1.out H1.out).mono ?_; rintro e w6 ⟨rfl, R2, b2⟩; have K2 := Lib.hid R2; have B2 := Lib.hid b2; clear R2 b2)
          | (go_at_call 24; refine (next_says HR1.out H0.out).mono ?_; rintro e w5 ⟨rfl, R1, b1⟩; have K1 := Lib.hid R1; have B1 := Lib.hid b1; clear R1 b1))
        go_meet
        case rel =>
          have bb : But (fun i => i = h) _ _ := B1.out.trans B2.out
          exact ⟨K2.out.cast (by omega) (by rw [hp2]; simp; omega), (HS.out.b.mono (fun _ h => h.elim)).trans bb, HS.out.x.kept bb (by intro i hi; subst hi; have := HZ.out.1; omega)⟩
    case rest =>
      obtain ⟨R2, b2, x2⟩ := hcut
      clear HR1 HS HP HP0
      have HX := Lib.hid x2
      have Hb0 := Lib.hid b2
      have HR2 := Lib.hid R2
      clear R2 b2 x2
      have DA := Lib.hid (fun n hn => @dig_at L (k + p) n bs hn)
      have DE := Lib.hid (dig_end (b := bs) HG.out.1 hkp)
      have DC := Lib.hid (fun n hn => @dig_cap L (k + p) n bs hn)
      have DB := Lib.hid (fun n => cap_bd (b := bs) (by omega) _ (@dig_nn L (k + p) n bs))
      obtain ⟨ds, hds⟩ : ∃ ds, digs bs (L.drop (k + p)) = ds := ⟨_, rfl⟩
      rw [hds] at hlen hval DA DE
      have hds' := Lib.hid hds
      have DC' : Hid (∀ n, n < ds.length → cap bs (ds.take (n + 1)) = min (cap bs (ds.take n) * bs + hexv (hd (L.drop (k + p + n)))) 4294967296) := Lib.hid (by intro n hn; have := DC.out n (by rw [hds]; exact hn); rw [hds] at this; exact this)
      have DB' : Hid (∀ n, 0 ≤ cap bs (ds.take n) ∧ cap bs (ds.take n) ≤ 4294967296) := Lib.hid (by intro n; have := DB.out n; rw [hds] at this; exact this)
      clear DC DB hds hds'
      obtain ⟨N, hN⟩ : ∃ N, ds.length = N := ⟨_, rfl⟩
      rw [hN] at hlen DA DE DC'
      have hall : ds.take N = ds := by rw [← hN, List.take_length]
      rw [hlen, hval] at hnum
      have h3 : letter (hd (L.drop (k + (p + N)))) = true → ∀ w', But (fun i => i = h ∨ w.heap.size ≤ i) w w' → r (.returned (.agg #[i64 l, i64 (c + p + N), i64 3])) w' := by
        intro hx w' b
        rw [hr, hnum, if_pos hx]
        exact ⟨by simp [fV, errO, Int.add_assoc], (b.mono fun i hi => hi.elim (fun e => .inl (.inl e)) .inr), fun e => by simp [errO] at e⟩
      have h6 : letter (hd (L.drop (k + (p + N)))) = false → 4294967295 < cap bs ds → ∀ w', But (fun i => i = h ∨ w.heap.size ≤ i) w w' → r (.returned (.agg #[i64 l, i64 c, i64 6])) w' := by
        intro hx hc w' b
        rw [hr, hnum, if_neg (by simp [hx]), if_pos hc]
        exact ⟨rfl, (b.mono fun i hi => hi.elim (fun e => .inl (.inl e)) .inr), fun e => by simp [errO] at e⟩
      have hg : letter (hd (L.drop (k + (p + N)))) = false → ¬ 4294967295 < cap bs ds → ∀ v' w', Rd w' B h g q L (k + p + N) l (c + p + N) v' (T ++ [⟨2, txt [], cap bs ds, l, c⟩]) → But (fun i => (i = h ∨ v.ownBlock = some i) ∨ w.heap.size ≤ i) w w' → r (.returned (.agg #[i64 0, i64 0, i64 0])) w' := by
        intro hx hc v' w' R' b
        rw [hr, hnum, if_neg (by simp [hx]), if_neg hc]
        refine ⟨rfl, b, fun _ => ⟨v', ?_⟩⟩
        have e1 : k + (okO (p + N) [⟨2, txt [], cap bs ds, l, c⟩]).k = k + p + N := by show k + (p + N) = _; omega
        have e2 : (okO (p + N) [⟨2, txt [], cap bs ds, l, c⟩]).col c = c + p + N := by show c + ((p + N : Nat) : Int) = _; omega
        rw [e1, e2]
        exact R'
      rw [← Nat.add_assoc] at h3 h6 hg
      have H3 := Lib.hid h3
      have H6 := Lib.hid h6
      have H7 := Lib.hid hg
      have HA := Lib.hid hall
      clear h3 h6 hg hall hr hnum hlen hval hN R
      rcases hbt with rfl | rfl
      · skip
        go_wp2_with fail
        go_loopw [5] (fun vv wr => ∃ n : Nat, n ≤ N ∧ vv = i64 (cap 10 (ds.take n)) ∧ Rd wr B h g q L (k + p + n) l (c + p + n) v T ∧ But (fun i => i = h) w wr ∧ Box2 w wr l c) (fun _ wr => Lex.left h L.length wr)
        case atStart => exact ⟨0, Nat.zero_le _, rfl, by simpa using HR2.out, Hb0.out, HX.out⟩
        case round =>
          clear HR2 HX Hb0
          obtain ⟨n, hn, rfl, R, b, bx⟩ := hrel
          have HR := Lib.hid R
          have HL := Lib.hid R.left
          have Hb := Lib.hid b
          have HX := Lib.hid bx
          obtain ⟨x, hx⟩ : ∃ x, hd (L.drop (k + p + n)) = x := ⟨_, rfl⟩
          have hbd := R.hd_bd
          rw [hx] at hbd
          have HD := Lib.hid (fun w => digit_says 10 x (.inl rfl) hbd w)
          clear R b bx hbd
          by_cases hnN : n < N
          · have y := DA.out n hnN
            rw [hx] at y
            have HE := Lib.hid (show digA 10 x = .returned (.tuple #[i64 (hexv x), .bool true]) by unfold digA; rw [if_pos y])
            obtain ⟨d0, d1⟩ := isd_bd y
            have hC := DC'.out n hnN
            rw [hx] at hC
            have H0 := Lib.hid (show 0 ≤ hd (L.drop (k + p + n)) by rw [hx]; unfold isd at y; have := hexv_pos d0; omega)
            obtain ⟨v0, v1⟩ := DB'.out n
            obtain ⟨V, hV⟩ : ∃ V, cap 10 (ds.take n) = V := ⟨_, rfl⟩
            rw [hV] at v0 v1 hC ⊢
            obtain ⟨d, hd'⟩ : ∃ d, hexv x = d := ⟨_, rfl⟩
            rw [hd'] at HE d0 d1 hC
            have HC := Lib.hid hC
            clear y hV hd' hC
            by_cases hle : V * 10 + d ≤ 4294967296
            · have HC2 := Lib.hid (show cap 10 (ds.take (n + 1)) = V * 10 + d by rw [HC.out]; omega)
              go_wp2_with (first
                | (go_at_call 24; refine (next_says (HR.out.later (by first | exact But.refl _ _ | exact (But.refl _ _).drew | exact (But.refl _ _).drew.drew | exact (But.refl _ _).drew.drew.drew)) H0.out).mono ?_; rintro e w6 ⟨rfl, R2, b2⟩; have K2 := Lib.hid R2; have B2 := Lib.hid b2; clear R2 b2)
                | (go_at_call 11; refine (now_says (HR.out.later (by first | exact But.refl _ _ | exact (But.refl _ _).drew | exact (But.refl _ _).drew.drew | exact (But.refl _ _).drew.drew.drew))).mono ?_; rintro e w1 ⟨rfl, rfl⟩; rw [hx])
                | (go_at_call 40; refine (HD.out _).mono ?_; rintro e t' ⟨rfl, rfl⟩; rw [HE.out]))
              go_roundw
              case rel => exact ⟨n + 1, hnN, by rw [HC2.out], K2.out.cast rfl (by omega), Hb.out.drew.trans B2.out, HX.out.kept ((But.refl _ _).drew.trans B2.out) (by intro i hi; subst hi; have := HZ.out.1; omega)⟩
              case measure => rw [HL.out, K2.out.left]; have := HR.out.kl; omega
            · have HC2 := Lib.hid (show cap 10 (ds.take (n + 1)) = 4294967296 by rw [HC.out]; omega)
              go_wp2_with (first
                | (go_at_call 24; refine (next_says (HR.out.later (by first | exact But.refl _ _ | exact (But.refl _ _).drew | exact (But.refl _ _).drew.drew | exact (But.refl _ _).drew.drew.drew)) H0.out).mono ?_; rintro e w6 ⟨rfl, R2, b2⟩; have K2 := Lib.hid R2; have B2 := Lib.hid b2; clear R2 b2)
                | (go_at_call 11; refine (now_says (HR.out.later (by first | exact But.refl _ _ | exact (But.refl _ _).drew | exact (But.refl _ _).drew.drew | exact (But.refl _ _).drew.drew.drew))).mono ?_; rintro e w1 ⟨rfl, rfl⟩; rw [hx])
                | (go_at_call 40; refine (HD.out _).mono ?_; rintro e t' ⟨rfl, rfl⟩; rw [HE.out]))
              go_roundw
              case rel => exact ⟨n + 1, hnN, by rw [HC2.out], K2.out.cast rfl (by omega), Hb.out.drew.trans B2.out, HX.out.kept ((But.refl _ _).drew.trans B2.out) (by intro i hi; subst hi; have := HZ.out.1; omega)⟩
              case measure => rw [HL.out, K2.out.left]; have := HR.out.kl; omega
          · obtain rfl : n = N := by omega
            have y := DE.out.1
            rw [hx] at y
            have HE := Lib.hid (show digA 10 x = .returned (.tuple #[i64 0, .bool false]) by unfold digA; rw [if_neg (by simp [y])])
            have hV := DB'.out n
            rw [HA.out] at hV ⊢
            obtain ⟨V, hVV⟩ : ∃ V, cap 10 ds = V := ⟨_, rfl⟩
            rw [hVV] at hV H6 H7 ⊢
            rw [hx] at H3 H6 H7
            obtain ⟨v0, v1⟩ := hV
            obtain ⟨z0, z1, z2, f0, f1, f2⟩ := HX.out.fin
            have p0 := HX.out.p0; have p1 := HX.out.p1
            have c2 := HR.out.c2
            have c3 := HR.out.c3
            obtain ⟨lt, hlt⟩ : ∃ lt, letter x = lt := ⟨_, rfl⟩
            rw [hlt] at H3 H6 H7
            cases lt with
            | true =>
              have HF := Lib.hid (H3.out rfl)
              clear H3 H6 H7
              go_wp2_with (first
                | (go_at_call 11; refine (now_says (HR.out.later (by first | exact But.refl _ _ | exact (But.refl _ _).drew | exact (But.refl _ _).drew.drew | exact (But.refl _ _).drew.drew.drew))).mono ?_; rintro e w1 ⟨rfl, rfl⟩; rw [hx])
                | (go_at_call 40; refine (HD.out _).mono ?_; rintro e t' ⟨rfl, rfl⟩; rw [HE.out])
                | (go_at_call 27; refine (isLetter_says _ _).mono ?_; rintro e t' ⟨rfl, rfl⟩; rw [hlt]))
              exact bodyPost_ret (v := .agg #[i64 l, i64 (c + p + n), i64 3]) (by simp [results, Tryd.results30, go_sem, z0, z1, z2]) rfl (HF.out _ (But.setCell (But.setCell (But.setCell (Hb.out.drew.drew.mono fun i hi => Or.inl hi) ⟨w.heap.size, 0, none⟩ (.inr (Nat.le_refl _)) _) ⟨w.heap.size, 1, none⟩ (.inr (Nat.le_refl _)) _) ⟨w.heap.size, 2, none⟩ (.inr (Nat.le_refl _)) _))
            | false =>
              by_cases hv : 4294967295 < V
              · have HF := Lib.hid (H6.out rfl hv)
                clear H3 H6 H7
                go_wp2_with (first
                | (go_at_call 11; refine (now_says (HR.out.later (by first | exact But.refl _ _ | exact (But.refl _ _).drew | exact (But.refl _ _).drew.drew | exact (But.refl _ _).drew.drew.drew))).mono ?_; rintro e w1 ⟨rfl, rfl⟩; rw [hx])
                | (go_at_call 40; refine (HD.out _).mono ?_; rintro e t' ⟨rfl, rfl⟩; rw [HE.out])
                | (go_at_call 27; refine (isLetter_says _ _).mono ?_; rintro e t' ⟨rfl, rfl⟩; rw [hlt]))
                exact bodyPost_ret (v := .agg #[i64 l, i64 c, i64 6]) (by simp [results, Tryd.results30, go_sem, z0, z1, z2]) rfl (HF.out _ (But.setCell (But.setCell (But.setCell (Hb.out.drew.drew.mono fun i hi => Or.inl hi) ⟨w.heap.size, 0, none⟩ (.inr (Nat.le_refl _)) _) ⟨w.heap.size, 1, none⟩ (.inr (Nat.le_refl _)) _) ⟨w.heap.size, 2, none⟩ (.inr (Nat.le_refl _)) _))
              · have HF := Lib.hid (H7.out rfl (by omega))
                have hadd := add_fin (w3 := wr.drew) (HR.out.later (But.refl _ wr).drew) (HX.out.kept (S := fun _ => False) (But.refl _ wr).drew (fun _ h => h.elim)) HZ.out Hb.out.drew (Nat.le_trans HB.out Hb.out.size) HT.out 2 V ⟨#[]⟩
                have HA := Lib.hid (hadd.mono fun e w4 => And.imp_right fun ⟨v', z, k1⟩ => (⟨z, (k1 _ (zset w4 w.heap.size (i64 0) (i64 0) (i64 0))).elim fun R b => HF.out v' _ R b⟩ : Fin6 w w4 ∧ r (.returned (.agg #[i64 0, i64 0, i64 0])) (((w4.setCell ⟨w.heap.size, 0, none⟩ (i64 0)).setCell ⟨w.heap.size, 1, none⟩ (i64 0)).setCell ⟨w.heap.size, 2, none⟩ (i64 0))))
                clear H3 H6 H7 hadd HF z0 z1 z2 f0 f1 f2
                go_wp2_with (first
                  | (go_at_call 13; refine HA.out.mono ?_; rintro e w4 ⟨rfl, ⟨z0, z1, z2, f0, f1, f2⟩, K⟩; have K := Lib.hid K)
                  | (first
                | (go_at_call 11; refine (now_says (HR.out.later (by first | exact But.refl _ _ | exact (But.refl _ _).drew | exact (But.refl _ _).drew.drew | exact (But.refl _ _).drew.drew.drew))).mono ?_; rintro e w1 ⟨rfl, rfl⟩; rw [hx])
                | (go_at_call 40; refine (HD.out _).mono ?_; rintro e t' ⟨rfl, rfl⟩; rw [HE.out])
                | (go_at_call 27; refine (isLetter_says _ _).mono ?_; rintro e t' ⟨rfl, rfl⟩; rw [hlt])))
                exact bodyPost_ret (v := .agg #[i64 0, i64 0, i64 0]) (by simp [results, Tryd.results30, go_sem, z0, z1, z2]) rfl K.out
      · skip
        go_wp2_with fail
        go_loopw [5] (fun vv wr => ∃ n : Nat, n ≤ N ∧ vv = i64 (cap 16 (ds.take n)) ∧ Rd wr B h g q L (k + p + n) l (c + p + n) v T ∧ But (fun i => i = h) w wr ∧ Box2 w wr l c) (fun _ wr => Lex.left h L.length wr)
        case atStart => exact ⟨0, Nat.zero_le _, rfl, by simpa using HR2.out, Hb0.out, HX.out⟩
        case round =>
          clear HR2 HX Hb0
          obtain ⟨n, hn, rfl, R, b, bx⟩ := hrel
          have HR := Lib.hid R
          have HL := Lib.hid R.left
          have Hb := Lib.hid b
          have HX := Lib.hid bx
          obtain ⟨x, hx⟩ : ∃ x, hd (L.drop (k + p + n)) = x := ⟨_, rfl⟩
          have hbd := R.hd_bd
          rw [hx] at hbd
          have HD := Lib.hid (fun w => digit_says 16 x (.inr rfl) hbd w)
          clear R b bx hbd
          by_cases hnN : n < N
          · have y := DA.out n hnN
            rw [hx] at y
            have HE := Lib.hid (show digA 16 x = .returned (.tuple #[i64 (hexv x), .bool true]) by unfold digA; rw [if_pos y])
            obtain ⟨d0, d1⟩ := isd_bd y
            have hC := DC'.out n hnN
            rw [hx] at hC
            have H0 := Lib.hid (show 0 ≤ hd (L.drop (k + p + n)) by rw [hx]; unfold isd at y; have := hexv_pos d0; omega)
            obtain ⟨v0, v1⟩ := DB'.out n
            obtain ⟨V, hV⟩ : ∃ V, cap 16 (ds.take n) = V := ⟨_, rfl⟩
            rw [hV] at v0 v1 hC ⊢
            obtain ⟨d, hd'⟩ : ∃ d, hexv x = d := ⟨_, rfl⟩
            rw [hd'] at HE d0 d1 hC
            have HC := Lib.hid hC
            clear y hV hd' hC
            by_cases hle : V * 16 + d ≤ 4294967296
            · have HC2 := Lib.hid (show cap 16 (ds.take (n + 1)) = V * 16 + d by rw [HC.out]; omega)
              go_wp2_with (first
                | (go_at_call 24; refine (next_says (HR.out.later (by first | exact But.refl _ _ | exact (But.refl _ _).drew | exact (But.refl _ _).drew.drew | exact (But.refl _ _).drew.drew.drew)) H0.out).mono ?_; rintro e w6 ⟨rfl, R2, b2⟩; have K2 := Lib.hid R2; have B2 := Lib.hid b2; clear R2 b2)
                | (go_at_call 11; refine (now_says (HR.out.later (by first | exact But.refl _ _ | exact (But.refl _ _).drew | exact (But.refl _ _).drew.drew | exact (But.refl _ _).drew.drew.drew))).mono ?_; rintro e w1 ⟨rfl, rfl⟩; rw [hx])
                | (go_at_call 40; refine (HD.out _).mono ?_; rintro e t' ⟨rfl, rfl⟩; rw [HE.out]))
              go_roundw
              case rel => exact ⟨n + 1, hnN, by rw [HC2.out], K2.out.cast rfl (by omega), Hb.out.drew.trans B2.out, HX.out.kept ((But.refl _ _).drew.trans B2.out) (by intro i hi; subst hi; have := HZ.out.1; omega)⟩
              case measure => rw [HL.out, K2.out.left]; have := HR.out.kl; omega
            · have HC2 := Lib.hid (show cap 16 (ds.take (n + 1)) = 4294967296 by rw [HC.out]; omega)
              go_wp2_with (first
                | (go_at_call 24; refine (next_says (HR.out.later (by first | exact But.refl _ _ | exact (But.refl _ _).drew | exact (But.refl _ _).drew.drew | exact (But.refl _ _).drew.drew.drew)) H0.out).mono ?_; rintro e w6 ⟨rfl, R2, b2⟩; have K2 := Lib.hid R2; have B2 := Lib.hid b2; clear R2 b2)
                | (go_at_call 11; refine (now_says (HR.out.later (by first | exact But.refl _ _ | exact (But.refl _ _).drew | exact (But.refl _ _).drew.drew | exact (But.refl _ _).drew.drew.drew))).mono ?_; rintro e w1 ⟨rfl, rfl⟩; rw [hx])
                | (go_at_call 40; refine (HD.out _).mono ?_; rintro e t' ⟨rfl, rfl⟩; rw [HE.out]))
              go_roundw
              case rel => exact ⟨n + 1, hnN, by rw [HC2.out], K2.out.cast rfl (by omega), Hb.out.drew.trans B2.out, HX.out.kept ((But.refl _ _).drew.trans B2.out) (by intro i hi; subst hi; have := HZ.out.1; omega)⟩
              case measure => rw [HL.out, K2.out.left]; have := HR.out.kl; omega
          · obtain rfl : n = N := by omega
            have y := DE.out.1
            rw [hx] at y
            have HE := Lib.hid (show digA 16 x = .returned (.tuple #[i64 0, .bool false]) by unfold digA; rw [if_neg (by simp [y])])
            have hV := DB'.out n
            rw [HA.out] at hV ⊢
            obtain ⟨V, hVV⟩ : ∃ V, cap 16 ds = V := ⟨_, rfl⟩
            rw [hVV] at hV H6 H7 ⊢
            rw [hx] at H3 H6 H7
            obtain ⟨v0, v1⟩ := hV
            obtain ⟨z0, z1, z2, f0, f1, f2⟩ := HX.out.fin
            have p0 := HX.out.p0; have p1 := HX.out.p1
            have c2 := HR.out.c2
            have c3 := HR.out.c3
            obtain ⟨lt, hlt⟩ : ∃ lt, letter x = lt := ⟨_, rfl⟩
            rw [hlt] at H3 H6 H7
            cases lt with
            | true =>
              have HF := Lib.hid (H3.out rfl)
              clear H3 H6 H7
              go_wp2_with (first
                | (go_at_call 11; refine (now_says (HR.out.later (by first | exact But.refl _ _ | exact (But.refl _ _).drew | exact (But.refl _ _).drew.drew | exact (But.refl _ _).drew.drew.drew))).mono ?_; rintro e w1 ⟨rfl, rfl⟩; rw [hx])
                | (go_at_call 40; refine (HD.out _).mono ?_; rintro e t' ⟨rfl, rfl⟩; rw [HE.out])
                | (go_at_call 27; refine (isLetter_says _ _).mono ?_; rintro e t' ⟨rfl, rfl⟩; rw [hlt]))
              exact bodyPost_ret (v := .agg #[i64 l, i64 (c + p + n), i64 3]) (by simp [results, Tryd.results30, go_sem, z0, z1, z2]) rfl (HF.out _ (But.setCell (But.setCell (But.setCell (Hb.out.drew.drew.mono fun i hi => Or.inl hi) ⟨w.heap.size, 0, none⟩ (.inr (Nat.le_refl _)) _) ⟨w.heap.size, 1, none⟩ (.inr (Nat.le_refl _)) _) ⟨w.heap.size, 2, none⟩ (.inr (Nat.le_refl _)) _))
            | false =>
              by_cases hv : 4294967295 < V
              · have HF := Lib.hid (H6.out rfl hv)
                clear H3 H6 H7
                go_wp2_with (first
                | (go_at_call 11; refine (now_says (HR.out.later (by first | exact But.refl _ _ | exact (But.refl _ _).drew | exact (But.refl _ _).drew.drew | exact (But.refl _ _).drew.drew.drew))).mono ?_; rintro e w1 ⟨rfl, rfl⟩; rw [hx])
                | (go_at_call 40; refine (HD.out _).mono ?_; rintro e t' ⟨rfl, rfl⟩; rw [HE.out])
                | (go_at_call 27; refine (isLetter_says _ _).mono ?_; rintro e t' ⟨rfl, rfl⟩; rw [hlt]))
                exact bodyPost_ret (v := .agg #[i64 l, i64 c, i64 6]) (by simp [results, Tryd.results30, go_sem, z0, z1, z2]) rfl (HF.out _ (But.setCell (But.setCell (But.setCell (Hb.out.drew.drew.mono fun i hi => Or.inl hi) ⟨w.heap.size, 0, none⟩ (.inr (Nat.le_refl _)) _) ⟨w.heap.size, 1, none⟩ (.inr (Nat.le_refl _)) _) ⟨w.heap.size, 2, none⟩ (.inr (Nat.le_refl _)) _))
              · have HF := Lib.hid (H7.out rfl (by omega))
                have hadd := add_fin (w3 := wr.drew) (HR.out.later (But.refl _ wr).drew) (HX.out.kept (S := fun _ => False) (But.refl _ wr).drew (fun _ h => h.elim)) HZ.out Hb.out.drew (Nat.le_trans HB.out Hb.out.size) HT.out 2 V ⟨#[]⟩
                have HA := Lib.hid (hadd.mono fun e w4 => And.imp_right fun ⟨v', z, k1⟩ => (⟨z, (k1 _ (zset w4 w.heap.size (i64 0) (i64 0) (i64 0))).elim fun R b => HF.out v' _ R b⟩ : Fin6 w w4 ∧ r (.returned (.agg #[i64 0, i64 0, i64 0])) (((w4.setCell ⟨w.heap.size, 0, none⟩ (i64 0)).setCell ⟨w.heap.size, 1, none⟩ (i64 0)).setCell ⟨w.heap.size, 2, none⟩ (i64 0))))
                clear H3 H6 H7 hadd HF z0 z1 z2 f0 f1 f2
                go_wp2_with (first
                  | (go_at_call 13; refine HA.out.mono ?_; rintro e w4 ⟨rfl, ⟨z0, z1, z2, f0, f1, f2⟩, K⟩; have K := Lib.hid K)
                  | (first
                | (go_at_call 11; refine (now_says (HR.out.later (by first | exact But.refl _ _ | exact (But.refl _ _).drew | exact (But.refl _ _).drew.drew | exact (But.refl _ _).drew.drew.drew))).mono ?_; rintro e w1 ⟨rfl, rfl⟩; rw [hx])
                | (go_at_call 40; refine (HD.out _).mono ?_; rintro e t' ⟨rfl, rfl⟩; rw [HE.out])
                | (go_at_call 27; refine (isLetter_says _ _).mono ?_; rintro e t' ⟨rfl, rfl⟩; rw [hlt])))
                exact bodyPost_ret (v := .agg #[i64 0, i64 0, i64 0]) (by simp [results, Tryd.results30, go_sem, z0, z1, z2]) rfl K.out
end
end Go.Proofs.YtgikcciakbnehaaDoor.Lex
