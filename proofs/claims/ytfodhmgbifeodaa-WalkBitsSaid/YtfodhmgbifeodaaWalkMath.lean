
/-
  Plain: how addresses are translated over a memory's bytes (no program in sight), and what the laws of chapter 5 ask of it.
-/
import Derived.Test.YtfodhmgbifeodaaPhysMath
namespace Go.Proofs.Ytfodhmgbifeodaa
open Go.RowKit
/-- The word at a, if it is there. -/
def rd (bs : List Int) (a : Int) : Option Int := if okc bs.length a 4 then some (ldv bs a 4) else none
/-- Of a kind of access: its number, its fault, its bit. -/
def kk (kind : Int) : Int := if kind % 4 = 3 then 1 else kind % 4
def kb (kind : Int) : Int := if kk kind = 0 then 8 else if kk kind = 1 then 2 else 4
def bad1 (p : Int) : Prop := p % 2 = 0 ∨ ¬ p / 2 % 16 = 0
instance (p : Int) : Decidable (bad1 p) := by unfold bad1; infer_instance
def bad2 (e kind : Int) (user : Bool) : Prop := e % 2 = 0 ∨ e / kb kind % 2 = 0 ∨ (user = true ∧ e / 16 % 2 = 0) ∨ (kk kind = 0 ∧ ¬ e / 16 % 2 = 0 ∧ user = false)
instance (e kind : Int) (user : Bool) : Decidable (bad2 e kind user) := by unfold bad2; infer_instance
def at1 (ptbr v : Int) : Int := ptbr % 1048576 * 4096 + 4 * (v / 4194304)
def at2 (p v : Int) : Int := p / 4096 * 4096 + 4 * (v / 4096 % 1024)
def walkV (bs : List Int) (ptbr va kind : Int) (user : Bool) : Int × Int :=
  if ptbr / 2147483648 % 2 = 0 then (wd va, 0) else
  match rd bs (at1 ptbr (wd va)) with
  | none => (0, 4)
  | some p =>
    if bad1 p then (0, 5 + kk kind) else
    match rd bs (at2 p (wd va)) with
    | none => (0, 4)
    | some e => if bad2 e kind user then (0, 5 + kk kind) else (e / 4096 * 4096 + wd va % 4096, 0)
def mapV (bs : List Int) (ptbr vpn : Int) : Option Int :=
  if ptbr / 2147483648 % 2 = 0 then none else
  match rd bs (at1 ptbr (vpn % 1048576 * 4096)) with
  | none => none
  | some p =>
    if bad1 p then none else
    match rd bs (at2 p (vpn % 1048576 * 4096)) with
    | none => none
    | some e => if e % 2 = 0 then none else some e
theorem kk_bd (kind : Int) : kk kind = 0 ∨ kk kind = 1 ∨ kk kind = 2 := by unfold kk; split <;> omega
/-! ### Words of a memory -/
theorem ldv_bd (bs : List Int) (h : Byt bs) (a : Int) : 0 ≤ ldv bs a 4 ∧ ldv bs a 4 ≤ 4294967295 := by
  unfold ldv; split
  · rename_i hk
    have h1 := lev_bd _ (byt_take (byt_drop h a.toNat) (Int.toNat 4))
    have h2 : ((bs.drop a.toNat).take (Int.toNat 4)).length ≤ 4 := by rw [List.length_take]; exact Nat.min_le_left _ _
    have h3 : (256 : Int) ^ ((bs.drop a.toNat).take (Int.toNat 4)).length ≤ 256 ^ 4 := by
      rw [← p256, ← p256]; exact pow_le' (by omega)
    have h4 : (256 : Int) ^ 4 = 4294967296 := by decide
    omega
  · omega
theorem rd_bd {bs : List Int} (h : Byt bs) {a p : Int} (hr : rd bs a = some p) : 0 ≤ p ∧ p ≤ 4294967295 := by
  unfold rd at hr; split at hr
  · obtain rfl := Option.some.inj hr; exact ldv_bd bs h a
  · cases hr
theorem ldv_bytes (bs : List Int) (o : Nat) (h : o + 4 ≤ bs.length) (h2 : o % 4 = 0) : okc bs.length o 4 ∧ ldv bs o 4 = bs.getD o 0 + 256 * (bs.getD (o + 1) 0 + 256 * (bs.getD (o + 2) 0 + 256 * bs.getD (o + 3) 0)) := by
  have hk : okc bs.length (o : Int) 4 := ⟨by omega, by omega, by unfold fitm; omega⟩
  refine ⟨hk, ?_⟩
  unfold ldv; rw [if_pos hk]
  have e := le_down ((bs.drop o).take 4) 0 (by simp; omega)
  have e1 := le_down ((bs.drop o).take 4) 1 (by simp; omega)
  have e2 := le_down ((bs.drop o).take 4) 2 (by simp; omega)
  have e3 := le_down ((bs.drop o).take 4) 3 (by simp; omega)
  rw [List.drop_of_length_le (i := 3 + 1) (by simp; omega), getD_drop_take _ _ _ _ (by omega)] at e3
  rw [e3, getD_drop_take _ _ _ _ (by omega)] at e2
  rw [e2, getD_drop_take _ _ _ _ (by omega)] at e1
  rw [List.drop_zero, e1, getD_drop_take _ _ _ _ (by omega)] at e
  simpa [lev] using e
theorem okc_four {L : Nat} {a : Int} (h : okc L a 4) : ∃ o : Nat, a = o ∧ o + 4 ≤ L ∧ o % 4 = 0 := by
  obtain ⟨-, h1, h2, h3, h4⟩ := h
  obtain ⟨o, rfl⟩ := Int.eq_ofNat_of_zero_le h2
  exact ⟨o, rfl, by omega, by omega⟩
theorem stv_four (bs : List Int) (o : Nat) (v : Int) (hk : okc bs.length o 4) (i : Nat) : (stv bs o 4 v).getD i 0 = if o ≤ i ∧ i < o + 4 then v / 256 ^ (i - o) % 256 else bs.getD i 0 := by
  unfold stv; rw [if_pos hk]
  exact stN_getD bs o v i 4 (by have := hk.2.2.2.2; omega)
/-- A word that is stored is read again. -/
theorem rd_same (bs : List Int) (a v : Int) : rd (stv bs a 4 v) a = if okc bs.length a 4 then some (wd v) else none := by
  unfold rd; rw [stv_length]
  split
  · rename_i hk
    obtain ⟨o, rfl, h1, h2⟩ := okc_four hk
    have hg := stv_four bs o v hk
    rw [(ldv_bytes (stv bs o 4 v) o (by rw [stv_length]; exact h1) h2).2, hg, hg, hg, hg, if_pos (by omega), if_pos (by omega), if_pos (by omega), if_pos (by omega)]
    rw [Nat.sub_self, Nat.add_sub_cancel_left, Nat.add_sub_cancel_left, Nat.add_sub_cancel_left]
    unfold wd; simp only [Int.pow_succ, Int.pow_zero]
    congr 1; omega
  · rfl
/-- Another word stays. -/
theorem rd_other (bs : List Int) (a b v : Int) (hab : a ≠ b) : rd (stv bs a 4 v) b = rd bs b := by
  unfold rd; rw [stv_length]
  split
  · rename_i hb
    obtain ⟨j, rfl, h1, h2⟩ := okc_four hb
    by_cases hk : okc bs.length a 4
    · obtain ⟨o, rfl, h3, h4⟩ := okc_four hk
      have hg := stv_four bs o v hk
      have hne : o ≠ j := fun e => hab (by rw [e])
      rw [(ldv_bytes (stv bs o 4 v) j (by rw [stv_length]; exact h1) h2).2, (ldv_bytes bs j h1 h2).2, hg, hg, hg, hg, if_neg (by omega), if_neg (by omega), if_neg (by omega), if_neg (by omega)]
    · have e : stv bs a 4 v = bs := by unfold stv; rw [if_neg hk]
      rw [e]
  · rfl
/-- A new memory. -/
theorem rd_zero (n : Nat) (a : Int) : rd (List.replicate n 0) a = if okc n a 4 then some 0 else none := by
  unfold rd; rw [List.length_replicate]
  split
  · rename_i hk
    obtain ⟨o, rfl, h1, h2⟩ := okc_four hk
    have hz : ∀ i, (List.replicate n (0 : Int)).getD i 0 = 0 := fun i => by
      rw [List.getD_eq_getElem?_getD, List.getElem?_replicate]; split <;> rfl
    rw [(ldv_bytes (List.replicate n 0) o (by rw [List.length_replicate]; exact h1) h2).2, hz, hz, hz, hz]; rfl
  · rfl
/-! ### What the laws ask -/
theorem wd_part (n a : Int) (h0 : 0 ≤ n) (h1 : n ≤ 1048575) (a0 : 0 ≤ a) (a1 : a ≤ 4095) : wd (n * 4096 + a) = n * 4096 + a ∧ (n * 4096 + a) / 4194304 = n * 4096 / 4194304 ∧ (n * 4096 + a) / 4096 % 1024 = n * 4096 / 4096 % 1024 ∧ (n * 4096 + a) % 4096 = a := by
  refine ⟨wd_eq _ (by omega) (by omega), by omega, by omega, by omega⟩
theorem at1_part (t n a : Int) (h0 : 0 ≤ n) (h1 : n ≤ 1048575) (a0 : 0 ≤ a) (a1 : a ≤ 4095) : at1 t (wd (n * 4096 + a)) = at1 t (n * 4096) := by
  obtain ⟨e, e1, -, -⟩ := wd_part n a h0 h1 a0 a1
  unfold at1; rw [e, e1]
theorem at2_part (t n a : Int) (h0 : 0 ≤ n) (h1 : n ≤ 1048575) (a0 : 0 ≤ a) (a1 : a ≤ 4095) : at2 t (wd (n * 4096 + a)) = at2 t (n * 4096) := by
  obtain ⟨e, -, e2, -⟩ := wd_part n a h0 h1 a0 a1
  unfold at2; rw [e, e2]
/-- WalkUser. -/
theorem walk_user (bs : List Int) (t va kind : Int) : ¬ (walkV bs t va kind true).2 = 0 ∨ kind % 4 = 0 ∨ (walkV bs t va kind false).2 = 0 ∧ (walkV bs t va kind true).1 = (walkV bs t va kind false).1 := by
  unfold walkV
  by_cases h : t / 2147483648 % 2 = 0
  · rw [if_pos h, if_pos h]; exact .inr (.inr ⟨rfl, rfl⟩)
  · rw [if_neg h, if_neg h]
    have hk := kk_bd kind
    cases h1 : rd bs (at1 t (wd va)) with
    | none => exact .inl (by simp)
    | some p =>
      dsimp only
      by_cases hb : bad1 p
      · rw [if_pos hb]; exact .inl (by simp only []; omega)
      · rw [if_neg hb, if_neg hb]
        cases h2 : rd bs (at2 p (wd va)) with
        | none => exact .inl (by simp)
        | some e =>
          dsimp only
          by_cases hu : bad2 e kind true
          · rw [if_pos hu]; exact .inl (by simp only []; omega)
          · by_cases h0 : kind % 4 = 0
            · exact .inr (.inl h0)
            · have hs : ¬ bad2 e kind false := by
                unfold bad2 at hu ⊢
                intro hx
                rcases hx with hx | hx | ⟨hx, -⟩ | ⟨hx, -, -⟩
                · exact hu (.inl hx)
                · exact hu (.inr (.inl hx))
                · cases hx
                · unfold kk at hx; split at hx <;> omega
              rw [if_neg hu, if_neg hs]; exact .inr (.inr ⟨rfl, rfl⟩)
/-- WalkOffs: what is told of a page's addresses. -/
theorem walk_offs (bs : List Int) (t n a b kind : Int) (user : Bool) (h0 : 0 ≤ n) (h1 : n ≤ 1048575) (a0 : 0 ≤ a) (a1 : a ≤ 4095) (b0 : 0 ≤ b) (b1 : b ≤ 4095) :
    (walkV bs t (n * 4096 + a) kind user).2 = (walkV bs t (n * 4096 + b) kind user).2 ∧
    ((¬ (walkV bs t (n * 4096 + a) kind user).2 = 0 ∧ (walkV bs t (n * 4096 + a) kind user).1 = 0 ∧ (walkV bs t (n * 4096 + b) kind user).1 = 0) ∨
     ((walkV bs t (n * 4096 + a) kind user).2 = 0 ∧ ∃ f, (walkV bs t (n * 4096 + a) kind user).1 = f * 4096 + a ∧ (walkV bs t (n * 4096 + b) kind user).1 = f * 4096 + b)) := by
  unfold walkV
  rw [at1_part t n a h0 h1 a0 a1, at1_part t n b h0 h1 b0 b1, (wd_part n a h0 h1 a0 a1).1, (wd_part n b h0 h1 b0 b1).1]
  have hk := kk_bd kind
  by_cases h : t / 2147483648 % 2 = 0
  · rw [if_pos h, if_pos h]; exact ⟨rfl, .inr ⟨rfl, n, rfl, rfl⟩⟩
  · rw [if_neg h, if_neg h]
    cases r1 : rd bs (at1 t (n * 4096)) with
    | none => exact ⟨rfl, .inl ⟨by simp, rfl, rfl⟩⟩
    | some p =>
      dsimp only
      by_cases hb : bad1 p
      · rw [if_pos hb, if_pos hb]; exact ⟨rfl, .inl ⟨by simp only []; omega, rfl, rfl⟩⟩
      · rw [if_neg hb, if_neg hb]
        have e1 := at2_part p n a h0 h1 a0 a1
        have e2 := at2_part p n b h0 h1 b0 b1
        rw [(wd_part n a h0 h1 a0 a1).1] at e1
        rw [(wd_part n b h0 h1 b0 b1).1] at e2
        rw [e1, e2, (wd_part n a h0 h1 a0 a1).2.2.2, (wd_part n b h0 h1 b0 b1).2.2.2]
        cases r2 : rd bs (at2 p (n * 4096)) with
        | none => exact ⟨rfl, .inl ⟨by simp, rfl, rfl⟩⟩
        | some e =>
          dsimp only
          by_cases hu : bad2 e kind user
          · rw [if_pos hu, if_pos hu]; exact ⟨rfl, .inl ⟨by simp only []; omega, rfl, rfl⟩⟩
          · rw [if_neg hu, if_neg hu]; exact ⟨rfl, .inr ⟨rfl, e / 4096, rfl, rfl⟩⟩
/-- WalkEntry: where Map tells none, none is reached; where it tells an entry, it is reached by its rights. -/
theorem walk_entry (bs : List Int) (t n kind : Int) (ht : ¬ t / 2147483648 % 2 = 0) (h0 : 0 ≤ n) (h1 : n ≤ 1048575) :
    match mapV bs t n with
    | none => ¬ (walkV bs t (n * 4096) kind false).2 = 0
    | some e => e % 2 = 1 ∧ (((walkV bs t (n * 4096) kind false).2 = 0) ↔ (¬ e / kb kind % 2 = 0 ∧ (¬ kk kind = 0 ∨ e / 16 % 2 = 0))) ∧ ((walkV bs t (n * 4096) kind false).2 = 0 → (walkV bs t (n * 4096) kind false).1 = e / 4096 * 4096) := by
  have en : n % 1048576 = n := by omega
  have ew := (wd_part n 0 h0 h1 (by omega) (by omega)).1
  rw [Int.add_zero] at ew
  have em : n * 4096 % 4096 = 0 := by omega
  have hk := kk_bd kind
  unfold walkV mapV
  rw [if_neg ht, if_neg ht, en, ew, em]
  cases r1 : rd bs (at1 t (n * 4096)) with
  | none => simp
  | some p =>
    dsimp only
    by_cases hb : bad1 p
    · rw [if_pos hb, if_pos hb]; dsimp only; omega
    · rw [if_neg hb, if_neg hb]
      cases r2 : rd bs (at2 p (n * 4096)) with
      | none => simp
      | some e =>
        dsimp only
        by_cases he : e % 2 = 0
        · rw [if_pos he]; dsimp only
          rw [if_pos (by unfold bad2; exact .inl he)]; dsimp only; omega
        · rw [if_neg he]; dsimp only
          refine ⟨by omega, ?_, ?_⟩
          · by_cases hu : bad2 e kind false
            · rw [if_pos hu]; dsimp only
              refine ⟨fun h => by omega, fun h => ?_⟩
              unfold bad2 at hu
              rcases hu with h5 | h5 | ⟨h5, -⟩ | ⟨h5, h6, -⟩
              · exact absurd h5 he
              · exact absurd h5 h.1
              · cases h5
              · rcases h.2 with h7 | h7
                · exact absurd h5 h7
                · exact absurd h7 h6
            · rw [if_neg hu]; dsimp only
              refine ⟨fun _ => ⟨fun h5 => hu (.inr (.inl h5)), ?_⟩, fun _ => rfl⟩
              by_cases h5 : kk kind = 0
              · by_cases h6 : e / 16 % 2 = 0
                · exact .inr h6
                · exact absurd (.inr (.inr (.inr ⟨h5, h6, rfl⟩))) hu
              · exact .inl h5
          · by_cases hu : bad2 e kind false
            · rw [if_pos hu]; dsimp only; intro h; omega
            · rw [if_neg hu]; dsimp only; intro _; omega
/-- What Both leaves: words put into a memory. -/
def poke : List Int → List (Int × Int) → List Int
  | bs, [] => bs
  | bs, (a, v) :: r => poke (if a < 0 ∨ 1048576 < a then bs else stv bs (4 * a) 4 v) r
theorem poke_length : ∀ (l : List (Int × Int)) (bs : List Int), (poke bs l).length = bs.length
  | [], _ => rfl
  | (a, v) :: r, bs => by
    rw [poke, poke_length r]; split
    · rfl
    · exact stv_length ..
theorem poke_snoc : ∀ (l : List (Int × Int)) (bs : List Int) (a v : Int), poke bs (l ++ [(a, v)]) = if a < 0 ∨ 1048576 < a then poke bs l else stv (poke bs l) (4 * a) 4 v
  | [], bs, a, v => rfl
  | (b, u) :: r, bs, a, v => by rw [List.cons_append, poke, poke_snoc r]; rfl
theorem okc_word (L : Nat) (a : Int) (h0 : 0 ≤ a) (h4 : a % 4 = 0) : okc L a 4 ↔ a + 4 ≤ L := by
  unfold okc fitm
  exact ⟨fun h => h.2.2.2.2, fun h => ⟨.inr (.inr rfl), h4, h0, by omega, h⟩⟩
/-- WalkBits. -/
theorem walk_bits (bits frame va kind : Int) (user : Bool) (hb0 : 0 ≤ bits) (hb1 : bits ≤ 31) (hf0 : 0 ≤ frame) (hf1 : frame ≤ 1048575) (hv : wd va = va) :
    walkV (poke (List.replicate 12288 0) [(1024 + va / 4194304, 8193), (2048 + va / 4096 % 1024, frame * 4096 + bits)]) 2147483649 va kind user =
      if bad2 (frame * 4096 + bits) kind user then (0, 5 + kk kind) else (frame * 4096 + va % 4096, 0) := by
  have v0 := wd_lo va
  have v1 := wd_hi va
  rw [hv] at v0 v1
  have q1 : 0 ≤ va / 4194304 ∧ va / 4194304 ≤ 1023 := by omega
  have q2 : 0 ≤ va / 4096 % 1024 ∧ va / 4096 % 1024 ≤ 1023 := by omega
  have ep : poke (List.replicate 12288 0) [(1024 + va / 4194304, 8193), (2048 + va / 4096 % 1024, frame * 4096 + bits)] =
      stv (stv (List.replicate 12288 0) (4 * (1024 + va / 4194304)) 4 8193) (4 * (2048 + va / 4096 % 1024)) 4 (frame * 4096 + bits) := by
    rw [poke, if_neg (by omega), poke, if_neg (by omega), poke]
  have r1 : rd (poke (List.replicate 12288 0) [(1024 + va / 4194304, 8193), (2048 + va / 4096 % 1024, frame * 4096 + bits)]) (at1 2147483649 va) = some 8193 := by
    have e : at1 2147483649 va = 4 * (1024 + va / 4194304) := by unfold at1; omega
    rw [ep, e, rd_other _ _ _ _ (by omega), rd_same, List.length_replicate, if_pos ((okc_word _ _ (by omega) (by omega)).2 (by omega))]
    rfl
  have r2 : rd (poke (List.replicate 12288 0) [(1024 + va / 4194304, 8193), (2048 + va / 4096 % 1024, frame * 4096 + bits)]) (at2 8193 va) = some (frame * 4096 + bits) := by
    have e : at2 8193 va = 4 * (2048 + va / 4096 % 1024) := by unfold at2; omega
    rw [ep, e, rd_same, stv_length, List.length_replicate, if_pos ((okc_word _ _ (by omega) (by omega)).2 (by omega)), wd_eq _ (by omega) (by omega)]
  unfold walkV
  rw [if_neg (by decide), hv, r1]
  dsimp only
  rw [if_neg (by unfold bad1; decide), r2]
  dsimp only
  split
  · rfl
  · congr 1; omega
/-- WalkFar. -/
theorem walk_far (pages root next vpn kind : Int) (p0 : 2 ≤ pages) (p1 : pages ≤ 32) (r0 : 0 ≤ root) (r1 : root ≤ 64) (n0 : 0 ≤ next) (n1 : next ≤ 64) (v0 : 0 ≤ vpn) (v1 : vpn ≤ 1023) (hne : ¬ next = root) (L : Nat) (hL : (L : Int) = pages * 4096) :
    (walkV (poke (List.replicate L 0) [(root * 1024, next * 4096 + 1)]) (2147483648 + root) (vpn * 4096) kind false).2 = (if pages ≤ root ∨ pages ≤ next then 4 else 5 + kk kind) ∧
    mapV (poke (List.replicate L 0) [(root * 1024, next * 4096 + 1)]) (2147483648 + root) vpn = none := by
  have ep : poke (List.replicate L 0) [(root * 1024, next * 4096 + 1)] = stv (List.replicate L 0) (4 * (root * 1024)) 4 (next * 4096 + 1) := by
    rw [poke, if_neg (by omega), poke]
  obtain ⟨bs, hbs⟩ : ∃ bs, bs = poke (List.replicate L 0) [(root * 1024, next * 4096 + 1)] := ⟨_, rfl⟩
  rw [← hbs]
  have hk := kk_bd kind
  have ht : ¬ (2147483648 + root) / 2147483648 % 2 = 0 := by omega
  have ew : wd (vpn * 4096) = vpn * 4096 := wd_eq _ (by omega) (by omega)
  have en : vpn % 1048576 = vpn := by omega
  have a1 : at1 (2147483648 + root) (vpn * 4096) = 4 * (root * 1024) := by unfold at1; omega
  have w1 : rd bs (4 * (root * 1024)) = if pages ≤ root then none else some (next * 4096 + 1) := by
    rw [hbs, ep, rd_same, List.length_replicate]
    by_cases h : pages ≤ root
    · rw [if_neg (by rw [okc_word _ _ (by omega) (by omega)]; omega), if_pos h]
    · rw [if_pos ((okc_word _ _ (by omega) (by omega)).2 (by omega)), if_neg h, wd_eq _ (by omega) (by omega)]
  have a2 : at2 (next * 4096 + 1) (vpn * 4096) = next * 4096 + 4 * vpn := by unfold at2; omega
  have w2 : rd bs (next * 4096 + 4 * vpn) = if pages ≤ next then none else some 0 := by
    rw [hbs, ep, rd_other _ _ _ _ (by omega), rd_zero]
    by_cases h : pages ≤ next
    · rw [if_neg (by rw [okc_word _ _ (by omega) (by omega)]; omega), if_pos h]
    · rw [if_pos ((okc_word _ _ (by omega) (by omega)).2 (by omega)), if_neg h]
  unfold walkV mapV
  rw [if_neg ht, if_neg ht, ew, en, a1, w1]
  by_cases h : pages ≤ root
  · rw [if_pos h, if_pos (.inl h)]; exact ⟨rfl, rfl⟩
  · rw [if_neg h]
    dsimp only
    have hb : ¬ bad1 (next * 4096 + 1) := by unfold bad1; omega
    rw [if_neg hb, if_neg hb, a2, w2]
    by_cases h2 : pages ≤ next
    · rw [if_pos h2, if_pos (.inr h2)]; exact ⟨rfl, rfl⟩
    · rw [if_neg h2, if_neg (by omega)]
      dsimp only
      rw [if_pos (by unfold bad2; exact .inl rfl)]
      exact ⟨rfl, rfl⟩
/-- WalkTwo: the memory with its three words. -/
def two (a b frame : Int) : List Int := poke (List.replicate 12288 0) [(1024, 8193), (2048 + a, frame * 4096 + 7), (2048 + b, frame * 4096 + 3)]
theorem two_walk (x : Int) (bs : List Int) (off kind : Int) (x0 : 0 ≤ x) (x1 : x ≤ 1023) (o0 : 0 ≤ off) (o1 : off ≤ 4095) (h1 : rd bs 4096 = some 8193) {e : Int} (h2 : rd bs (4 * (2048 + x)) = some e) :
    walkV bs 2147483649 (x * 4096 + off) kind false = if bad2 e kind false then (0, 5 + kk kind) else (e / 4096 * 4096 + off, 0) := by
  have ew : wd (x * 4096 + off) = x * 4096 + off := wd_eq _ (by omega) (by omega)
  have a1 : at1 2147483649 (x * 4096 + off) = 4096 := by unfold at1; omega
  have a2 : at2 8193 (x * 4096 + off) = 4 * (2048 + x) := by unfold at2; omega
  unfold walkV
  rw [if_neg (by decide), ew, a1, h1]
  dsimp only
  rw [if_neg (by unfold bad1; decide), a2, h2]
  dsimp only
  split
  · rfl
  · congr 1; omega
theorem two_words (a b frame : Int) (a0 : 0 ≤ a) (a1 : a ≤ 1023) (b0 : 0 ≤ b) (b1 : b ≤ 1023) (hab : ¬ a = b) (f0 : 0 ≤ frame) (f1 : frame ≤ 1048575) :
    (two a b frame).length = 12288 ∧ rd (two a b frame) 4096 = some 8193 ∧ rd (two a b frame) (4 * (2048 + a)) = some (frame * 4096 + 7) ∧ rd (two a b frame) (4 * (2048 + b)) = some (frame * 4096 + 3) := by
  have e : two a b frame = stv (stv (stv (List.replicate 12288 0) (4 * 1024) 4 8193) (4 * (2048 + a)) 4 (frame * 4096 + 7)) (4 * (2048 + b)) 4 (frame * 4096 + 3) := by
    unfold two
    rw [poke, if_neg (by omega), poke, if_neg (by omega), poke, if_neg (by omega), poke]
  refine ⟨by unfold two; rw [poke_length, List.length_replicate], ?_, ?_, ?_⟩
  · rw [e, rd_other _ _ _ _ (by omega), rd_other _ _ _ _ (by omega), show (4096 : Int) = 4 * 1024 from rfl, rd_same, List.length_replicate, if_pos ((okc_word _ _ (by omega) (by omega)).2 (by omega))]; rfl
  · rw [e, rd_other _ _ _ _ (by omega), rd_same, stv_length, List.length_replicate, if_pos ((okc_word _ _ (by omega) (by omega)).2 (by omega)), wd_eq _ (by omega) (by omega)]
  · rw [e, rd_same, stv_length, stv_length, List.length_replicate, if_pos ((okc_word _ _ (by omega) (by omega)).2 (by omega)), wd_eq _ (by omega) (by omega)]
theorem walk_two (a b frame off : Int) (a0 : 0 ≤ a) (a1 : a ≤ 1023) (b0 : 0 ≤ b) (b1 : b ≤ 1023) (hab : ¬ a = b) (f0 : 0 ≤ frame) (f1 : frame ≤ 1048575) (o0 : 0 ≤ off) (o1 : off ≤ 4095) :
    walkV (two a b frame) 2147483649 (a * 4096 + off) 2 false = (frame * 4096 + off, 0) ∧ walkV (two a b frame) 2147483649 (b * 4096 + off) 1 false = (frame * 4096 + off, 0) ∧
    walkV (two a b frame) 2147483649 (b * 4096 + off) 2 false = (0, 7) ∧ walkV (stv (two a b frame) (4 * (2048 + a)) 4 0) 2147483649 (a * 4096 + off) 2 false = (0, 7) := by
  obtain ⟨hl, h1, h2, h3⟩ := two_words a b frame a0 a1 b0 b1 hab f0 f1
  have k2 : kk 2 = 2 := by decide
  have k1 : kk 1 = 1 := by decide
  have q2 : kb 2 = 4 := by decide
  have q1 : kb 1 = 2 := by decide
  refine ⟨?_, ?_, ?_, ?_⟩
  · rw [two_walk a _ off 2 a0 a1 o0 o1 h1 h2, if_neg (by unfold bad2; rw [q2, k2]; intro h; rcases h with h | h | ⟨h, -⟩ | ⟨h, -⟩ <;> first | omega | cases h)]
    congr 1; omega
  · rw [two_walk b _ off 1 b0 b1 o0 o1 h1 h3, if_neg (by unfold bad2; rw [q1, k1]; intro h; rcases h with h | h | ⟨h, -⟩ | ⟨h, -⟩ <;> first | omega | cases h)]
    congr 1; omega
  · rw [two_walk b _ off 2 b0 b1 o0 o1 h1 h3, if_pos (by unfold bad2; rw [q2]; exact .inr (.inl (by omega))), k2]; rfl
  · have w1 : rd (stv (two a b frame) (4 * (2048 + a)) 4 0) 4096 = some 8193 := by rw [rd_other _ _ _ _ (by omega)]; exact h1
    have w2 : rd (stv (two a b frame) (4 * (2048 + a)) 4 0) (4 * (2048 + a)) = some 0 := by
      rw [rd_same, hl, if_pos ((okc_word _ _ (by omega) (by omega)).2 (by omega))]; rfl
    rw [two_walk a _ off 2 a0 a1 o0 o1 w1 w2, if_pos (by unfold bad2; exact .inl rfl), k2]; rfl
end Go.Proofs.Ytfodhmgbifeodaa
