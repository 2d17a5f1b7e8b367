
/-
  Contracts of package walk's own two: Walk and Map.
-/
import Derived.Test.YtfodhmgbifeodaaWalkFind
namespace Go.Proofs.Ytfodhmgbifeodaa
open Go.ChangeShapes Go.WideShapes Go.ChangeAt Go.RowKit
theorem walkV_find (bs : List Int) (t va kind : Int) (user : Bool) (ht : ¬ t / 2147483648 % 2 = 0) {x c : Int}
    (h : findV bs (t % 1048576) (wd va / 4096 / 1024 % 1024) (wd va / 4096 % 1024) (sn kind user) (wn kind user) (5 + kk kind) = (x, c)) :
    walkV bs t va kind user = if c = 0 then (x / 4096 * 4096 + va % 4096, 0) else (0, c) := by
  have hk := kk_bd kind
  have e1 : at1 t (wd va) = t % 1048576 * 4096 + 4 * (wd va / 4096 / 1024 % 1024) := by
    have h0 := wd_lo va; have h1 := wd_hi va; unfold at1; omega
  have ev : wd va % 4096 = va % 4096 := by unfold wd; omega
  unfold walkV; unfold findV at h
  rw [if_neg ht, e1]
  cases h1 : rd bs (t % 1048576 * 4096 + 4 * (wd va / 4096 / 1024 % 1024)) with
  | none => rw [h1] at h; obtain ⟨rfl, rfl⟩ := Prod.mk.inj h; rw [if_neg (by decide)]
  | some p =>
    rw [h1] at h
    dsimp only at h ⊢
    by_cases hb : bad1 p
    · rw [if_neg ((bad1_iff' p).1 hb)] at h
      obtain ⟨rfl, rfl⟩ := Prod.mk.inj h
      rw [if_pos hb, if_neg (by omega)]
    · rw [if_pos (by have := mt (bad1_iff' p).2 hb; exact Classical.not_not.1 this)] at h
      rw [if_neg hb]
      have e2 : at2 p (wd va) = p / 4096 * 4096 + 4 * (wd va / 4096 % 1024) := rfl
      rw [e2]
      cases h2 : rd bs (p / 4096 * 4096 + 4 * (wd va / 4096 % 1024)) with
      | none => rw [h2] at h; obtain ⟨rfl, rfl⟩ := Prod.mk.inj h; rw [if_neg (by decide)]
      | some e =>
        rw [h2] at h
        dsimp only at h ⊢
        by_cases hg : bad2 e kind user
        · rw [if_neg (by rw [gate2_iff]; exact fun h => h hg)] at h
          obtain ⟨rfl, rfl⟩ := Prod.mk.inj h
          rw [if_pos hg, if_neg (by omega)]
        · rw [if_pos ((gate2_iff _ _ _).2 hg)] at h
          obtain ⟨rfl, rfl⟩ := Prod.mk.inj h
          rw [if_neg hg, if_pos rfl, ev]
theorem mapV_find (bs : List Int) (t vpn : Int) (ht : ¬ t / 2147483648 % 2 = 0) {x c : Int}
    (h : findV bs (t % 1048576) (vpn / 1024 % 1024) (vpn % 1024) 1 1 6 = (x, c)) :
    mapV bs t vpn = if c = 0 then some x else none := by
  have e1 : at1 t (vpn % 1048576 * 4096) = t % 1048576 * 4096 + 4 * (vpn / 1024 % 1024) := by unfold at1; omega
  unfold mapV; unfold findV at h
  rw [if_neg ht, e1]
  cases h1 : rd bs (t % 1048576 * 4096 + 4 * (vpn / 1024 % 1024)) with
  | none => rw [h1] at h; obtain ⟨rfl, rfl⟩ := Prod.mk.inj h; rw [if_neg (by decide)]
  | some p =>
    rw [h1] at h
    dsimp only at h ⊢
    by_cases hb : bad1 p
    · rw [if_neg ((bad1_iff' p).1 hb)] at h
      obtain ⟨rfl, rfl⟩ := Prod.mk.inj h
      rw [if_pos hb, if_neg (by decide)]
    · rw [if_pos (by have := mt (bad1_iff' p).2 hb; exact Classical.not_not.1 this)] at h
      rw [if_neg hb]
      have e2 : at2 p (vpn % 1048576 * 4096) = p / 4096 * 4096 + 4 * (vpn % 1024) := by unfold at2; omega
      rw [e2]
      cases h2 : rd bs (p / 4096 * 4096 + 4 * (vpn % 1024)) with
      | none => rw [h2] at h; obtain ⟨rfl, rfl⟩ := Prod.mk.inj h; rw [if_neg (by decide)]
      | some e =>
        rw [h2] at h
        dsimp only at h ⊢
        rw [and1] at h
        by_cases hg : e % 2 = 0
        · rw [if_neg (by omega)] at h
          obtain ⟨rfl, rfl⟩ := Prod.mk.inj h
          rw [if_pos hg, if_neg (by decide)]
        · rw [if_pos (by omega)] at h
          obtain ⟨rfl, rfl⟩ := Prod.mk.inj h
          rw [if_neg hg, if_pos rfl]
theorem findV_bd {bs : List Int} (hb : Byt bs) (T I J seen want fault : Int) : 0 ≤ (findV bs T I J seen want fault).1 ∧ (findV bs T I J seen want fault).1 ≤ 4294967295 := by
  unfold findV
  split
  · exact ⟨Int.le_refl _, (by decide : (0 : Int) ≤ 4294967295)⟩
  · split
    · split
      · exact ⟨Int.le_refl _, (by decide : (0 : Int) ≤ 4294967295)⟩
      · rename_i e he
        split
        · exact rd_bd hb he
        · exact ⟨Int.le_refl _, (by decide : (0 : Int) ≤ 4294967295)⟩
    · exact ⟨Int.le_refl _, (by decide : (0 : Int) ≤ 4294967295)⟩
theorem findV_no {bs : List Int} {T I J seen want fault x c : Int} (h : findV bs T I J seen want fault = (x, c)) (hc : ¬ c = 0) : x = 0 := by
  unfold findV at h
  split at h
  · exact (Prod.mk.inj h).1.symm
  · split at h
    · split at h
      · exact (Prod.mk.inj h).1.symm
      · split at h
        · exact absurd (Prod.mk.inj h).2.symm hc
        · exact (Prod.mk.inj h).1.symm
    · exact (Prod.mk.inj h).1.symm
/-- Walk. -/
theorem walk_says {w : World} {h g : Nat} {bs : List Int} (hm : Mem 61 w h g bs) (ptbr va kind : Int) (user : Bool) :
    Calls Try.prog 15 #[.iface 24 (.pointer (some ⟨h, 0, none⟩)), i64 ptbr, i64 va, i64 kind, .bool user] w (Found w (walkV bs ptbr va kind user)) := by
  obtain ⟨r, hr⟩ : ∃ r, r = Found w (walkV bs ptbr va kind user) := ⟨_, rfl⟩
  rw [← hr]
  have hout : ∀ v w', v = walkV bs ptbr va kind user → Below w.heap.size w w' → r (.returned (.tuple #[i64 v.1, i64 v.2])) w' := by
    intro v w' h1 h2; rw [hr, h1]; exact ⟨rfl, h2⟩
  clear hr
  by_cases ht : ptbr / 2147483648 % 2 = 0
  · have hv : (wd va, (0 : Int)) = walkV bs ptbr va kind user := by unfold walkV; rw [if_pos ht]
    have hb : (ptbr / 2147483648 % 2 == 1) = false := by rw [ht]; rfl
    have HV := Lib.hid hv; clear hv ht
    go_enter Try.func15, Try.ntmps15
    go_wp2_with (first
      | (go_at_call 20; refine (tables_says _ _).mono ?_; rintro e t' ⟨rfl, rfl⟩; rw [hb])
      | (go_at_call 23; refine (of_says _ _).mono ?_; rintro e t' ⟨rfl, rfl⟩))
    exact hout _ _ HV.out (Below.refl _ _)
  · have hb : (ptbr / 2147483648 % 2 == 1) = true := by rw [show ptbr / 2147483648 % 2 = 1 by omega]; rfl
    obtain ⟨x, c, hf⟩ : ∃ x c, findV bs (ptbr % 1048576) (wd va / 4096 / 1024 % 1024) (wd va / 4096 % 1024) (sn kind user) (wn kind user) (5 + kk kind) = (x, c) := ⟨_, _, rfl⟩
    have hv := walkV_find bs ptbr va kind user ht hf
    have bx := findV_bd hm.byt (ptbr % 1048576) (wd va / 4096 / 1024 % 1024) (wd va / 4096 % 1024) (sn kind user) (wn kind user) (5 + kk kind)
    rw [hf] at bx
    dsimp only at bx
    have ex : wd x = x := wd_eq _ bx.1 bx.2
    have HV := Lib.hid hv; have HF := Lib.hid hf; have EX := Lib.hid ex; clear hv hf ex ht
    by_cases hc : c = 0
    · subst hc
      go_enter Try.func15, Try.ntmps15
      go_wp2_with (first
        | (go_at_call 20; refine (tables_says _ _).mono ?_; rintro e t' ⟨rfl, rfl⟩; rw [hb])
        | (go_at_call 24; refine (asks_says _ _).mono ?_; rintro e w1 ⟨rfl, hb1⟩)
        | (go_at_call 25; refine (bits_says _ _ _ _).mono ?_; rintro e t' ⟨rfl, rfl⟩; first | rw [bt_31_12] | rw [bt_11_0])
        | (go_at_call 26; refine (page_says _ _ _).mono ?_; rintro e w2 ⟨rfl, hb2⟩)
        | (go_at_call 21; refine (find_says ((hm.grow hb1).grow hb2) _ _ _ _ _).mono ?_; rintro e w3 ⟨rfl, hb3⟩; rw [HF.out])
        | (go_at_call 27; refine (frame_says _ _).mono ?_; rintro e t' ⟨rfl, rfl⟩; rw [EX.out]))
      exact hout _ _ (HV.out.trans (if_pos trivial)).symm ((hb1.trans (hb2.mono hb1.size)).trans (hb3.mono (Nat.le_trans hb1.size hb2.size)))
    · have bc : (c != 0) = true := by simpa using hc
      go_enter Try.func15, Try.ntmps15
      go_wp2_with (first
        | (go_at_call 20; refine (tables_says _ _).mono ?_; rintro e t' ⟨rfl, rfl⟩; rw [hb])
        | (go_at_call 24; refine (asks_says _ _).mono ?_; rintro e w1 ⟨rfl, hb1⟩)
        | (go_at_call 25; refine (bits_says _ _ _ _).mono ?_; rintro e t' ⟨rfl, rfl⟩; first | rw [bt_31_12] | rw [bt_11_0])
        | (go_at_call 26; refine (page_says _ _ _).mono ?_; rintro e w2 ⟨rfl, hb2⟩)
        | (go_at_call 21; refine (find_says ((hm.grow hb1).grow hb2) _ _ _ _ _).mono ?_; rintro e w3 ⟨rfl, hb3⟩; rw [HF.out]))
      exact hout _ _ (HV.out.trans (if_neg hc)).symm ((hb1.trans (hb2.mono hb1.size)).trans (hb3.mono (Nat.le_trans hb1.size hb2.size)))
/-- Map. -/
def Mapped (w : World) (o : Option Int) (e : Ending) (w' : World) : Prop := e = .returned (.tuple #[i64 (o.getD 0), .bool o.isSome]) ∧ Below w.heap.size w w'
theorem map_says {w : World} {h g : Nat} {bs : List Int} (hm : Mem 61 w h g bs) (ptbr vpn : Int) :
    Calls Try.prog 12 #[.iface 24 (.pointer (some ⟨h, 0, none⟩)), i64 ptbr, i64 vpn] w (Mapped w (mapV bs ptbr vpn)) := by
  obtain ⟨r, hr⟩ : ∃ r, r = Mapped w (mapV bs ptbr vpn) := ⟨_, rfl⟩
  rw [← hr]
  have hout : ∀ o w', o = mapV bs ptbr vpn → Below w.heap.size w w' → r (.returned (.tuple #[i64 (o.getD 0), .bool o.isSome])) w' := by
    intro v w' h1 h2; rw [hr, h1]; exact ⟨rfl, h2⟩
  clear hr
  by_cases ht : ptbr / 2147483648 % 2 = 0
  · have hv : none = mapV bs ptbr vpn := by unfold mapV; rw [if_pos ht]
    have hb : (ptbr / 2147483648 % 2 == 1) = false := by rw [ht]; rfl
    have HV := Lib.hid hv; clear hv ht
    go_enter Try.func12, Try.ntmps12
    go_wp2_with (go_at_call 20; refine (tables_says _ _).mono ?_; rintro e t' ⟨rfl, rfl⟩; rw [hb])
    exact hout none _ HV.out (Below.refl _ _)
  · have hb : (ptbr / 2147483648 % 2 == 1) = true := by rw [show ptbr / 2147483648 % 2 = 1 by omega]; rfl
    obtain ⟨x, c, hf⟩ : ∃ x c, findV bs (ptbr % 1048576) (vpn / 1024 % 1024) (vpn % 1024) 1 1 6 = (x, c) := ⟨_, _, rfl⟩
    have hv := mapV_find bs ptbr vpn ht hf
    have hx := fun hc => findV_no hf hc
    have HV := Lib.hid hv; have HF := Lib.hid hf; have HX := Lib.hid hx; clear hv hf ht hx
    by_cases hc : c = 0
    · subst hc
      go_enter Try.func12, Try.ntmps12
      go_wp2_with (first
        | (go_at_call 20; refine (tables_says _ _).mono ?_; rintro e t' ⟨rfl, rfl⟩; rw [hb])
        | (go_at_call 21; refine (find_says hm _ _ _ _ _).mono ?_; rintro e w3 ⟨rfl, hb3⟩; rw [HF.out]))
      exact hout (some x) _ (HV.out.trans (if_pos trivial)).symm hb3
    · have bc : (c == 0) = false := by simpa using hc
      obtain rfl := HX.out hc
      go_enter Try.func12, Try.ntmps12
      go_wp2_with (first
        | (go_at_call 20; refine (tables_says _ _).mono ?_; rintro e t' ⟨rfl, rfl⟩; rw [hb])
        | (go_at_call 21; refine (find_says hm _ _ _ _ _).mono ?_; rintro e w3 ⟨rfl, hb3⟩; rw [HF.out]))
      exact hout none _ (HV.out.trans (if_neg hc)).symm hb3
end Go.Proofs.Ytfodhmgbifeodaa
