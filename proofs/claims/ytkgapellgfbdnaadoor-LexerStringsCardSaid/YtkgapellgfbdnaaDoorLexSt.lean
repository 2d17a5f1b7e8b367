
/-
  A row of ints that comes in; the string that the law writes of it.
-/
import Derived.Test.YtkgapellgfbdnaaDoorLexCt
import Derived.Laws.Concat
import Derived.Carry
import Derived.OpenShut
import Derived.Deep.Slices
set_option maxRecDepth 100000
namespace Go.Proofs.YtkgapellgfbdnaaDoor.Lex
open Go.Proofs.YtkgapellgfbdnaaDoor Go.Proofs.YtkgapellgfbdnaaDoor.Ser
open Go.ChangeShapes Go.WideShapes Go.ChangeAt Go.RowKit
/-- A row of ints that came in. -/
structure Ints (W : World) (lp : Option Addr) (len : Nat) (f : Nat → Int) : Prop where
  at_ : 0 < len → ∃ b off, lp = some ⟨b, off, none⟩ ∧ b < W.heap.size ∧ ∀ i, i < len → W.cell? ⟨b, off + i, none⟩ = some (.int .i64 (f i))
theorem Ints.cell {W w : World} {lp : Option Addr} {len : Nat} {f : Nat → Int} (h : Ints W lp len f) (hb : Below W.heap.size W w) (i : Nat) (hi : i < len) : ∃ b off, lp = some ⟨b, off, none⟩ ∧ w.cell? ⟨b, off + i, none⟩ = some (.int .i64 (f i)) := by
  obtain ⟨b, off, rfl, hlt, hc⟩ := h.at_ (by omega)
  exact ⟨b, off, rfl, (World.cell?_of_block (hb.block b hlt)).trans (hc i hi)⟩
theorem laidOut : laidOutB Tryd.prog = true := by kernel_rfl
theorem cellsI : Tryd.prog.cellsOf 3 = 1 := by kernel_rfl
section
variable {H : Type} {enc : TypeId × Value → H} {W : World}
/-- A row of ints, opened. -/
theorem open_ints {v : Value} {d : DataW H} {p : List MemPlace} {base : Nat} (hv : Value.okWide Tryd.prog W .any base 40 v) (h : DataW.Trod enc Tryd.prog W 0 (fun _ => true) true 40 v d p) :
    ∃ (lp : Option Addr) (len cap : Nat) (f : Nat → Int), v = .slice lp len cap ∧ len ≤ 9223372036854775807 ∧ Ints W lp len f := by
  obtain ⟨a0, len0, cap0, rfl⟩ := okWide_slice Tryd.underlying40 hv
  obtain ⟨fuel, hf⟩ := h
  rcases DataW.trod_slice Tryd.underlying40 hf with ⟨hcs, -⟩ | ⟨a, len, cap, elems, rest, n, -, hcs, -, hb, hl, hm, hlen, hel, -, -⟩
  · simp [Value.cells] at hcs
    obtain ⟨rfl, rfl, rfl⟩ := hcs
    exact ⟨none, 0, 0, fun _ => 0, rfl, by omega, ⟨fun h => by omega⟩⟩
  · simp [Value.cells] at hcs
    obtain ⟨rfl, rfl, rfl⟩ := hcs
    rw [cellsI] at hel
    have each : ∀ i, i < len0 → ∃ x : Int, (∀ k, k < 1 → W.cell? ((a.add (i * 1)).add k) = [Value.int .i64 x][k]?) := by
      intro i hi
      have h1 := hel i hi
      rw [List.getElem?_eq_getElem (by rw [hlen]; exact hi)] at h1
      obtain ⟨cs', h2, h3⟩ := Option.bind_eq_some_iff.1 h1
      obtain ⟨x, e, -, -⟩ := DataW.trod_int Tryd.underlying3 h3
      subst e
      obtain ⟨-, -, h4⟩ := World.cells?_some h2
      exact ⟨x, h4⟩
    obtain ⟨f, hf⟩ := Go.Deep.choose_lt each
    refine ⟨some a, len0, cap0, f, rfl, by unfold maxLen at hm; omega, ⟨fun hp => ?_⟩⟩
    obtain ⟨b, off, spot⟩ := a
    have h00 := hf 0 hp 0 (by omega)
    have hspot : spot = none := by simpa [Addr.add] using World.cell?_spot h00
    subst hspot
    refine ⟨b, off, rfl, by simpa [Addr.add] using World.block_lt_of_cell? W _ h00, fun i hi => ?_⟩
    have h5 := hf i hi 0 (by omega)
    simp only [Addr.add_lit, Nat.mul_one, Nat.add_zero] at h5
    exact h5
end
/-- The first k runes; the text so far; the source so far. -/
def Lk (f : Nat → Int) (k : Nat) : List Int := (List.range k).map f
theorem Lk_succ (f : Nat → Int) (k : Nat) : Lk f (k + 1) = Lk f k ++ [f k] := by unfold Lk; rw [List.range_succ, List.map_append]; rfl
theorem Lk_len (f : Nat → Int) (k : Nat) : (Lk f k).length = k := by unfold Lk; rw [List.length_map, List.length_range]
def srcR (L : List Int) : List Int := 34 :: L.flatMap esc
theorem enc_le (r : Int) : (Lib.encodeRune r).length ≤ 4 := by
  unfold Lib.encodeRune Lib.encodeRuneZ
  rw [List.length_map]
  split; simp
  split; simp
  split; simp
  split <;> simp
theorem txt_size_le : ∀ L : List Int, (txt L).size ≤ 4 * L.length
  | [] => Nat.le_refl _
  | r :: L => by
    have e : txt (r :: L) = txt [r] ++ txt L := txt_append [r] L
    have h1 : (txt [r]).size ≤ 4 := by
      show ([r].flatMap Lib.encodeRune).toArray.size ≤ 4
      rw [List.size_toArray, List.flatMap_cons, List.flatMap_nil, List.append_nil]
      exact enc_le r
    have := txt_size_le L
    rw [e, ByteArray.size_append, List.length_cons]; omega
theorem esc_le (L : List Int) : (L.flatMap esc).length ≤ 2 * L.length := by
  induction L with
  | nil => exact Nat.le_refl _
  | cons r L ih =>
    rw [List.flatMap_cons, List.length_append, List.length_cons]
    have : (esc r).length ≤ 2 := by unfold esc; split; simp; split <;> simp
    omega
theorem srcR_snoc (L : List Int) (r : Int) : srcR (L ++ [r]) = srcR L ++ esc r := by unfold srcR; simp
theorem strR_src (L : List Int) : strR L = srcR L ++ [34, 32, 120] := rfl
theorem no_back {r : Int} (h : rune r) (hr : r ≠ 92) : ∀ b ∈ Lib.encodeRune r, b ≠ 92 := by
  unfold rune at h
  obtain ⟨h0, h1, h2⟩ := h
  intro b hb e
  subst e
  obtain ⟨x, hx, e⟩ := List.mem_map.1 hb
  have e := congrArg UInt8.toNat e
  by_cases c1 : r ≤ 127
  · rw [Lib.encodeRuneZ_one h0 c1] at hx
    simp at hx
    subst hx
    rw [byte_of _ h0 (by omega)] at e
    have : (92 : UInt8).toNat = 92 := rfl
    omega
  · have hx2 : 128 ≤ x ∧ x ≤ 255 := by
      by_cases c2 : r ≤ 2047
      · rw [Lib.encodeRuneZ_two (by omega) c2] at hx
        simp at hx; omega
      · by_cases c3 : r ≤ 65535
        · rw [Lib.encodeRuneZ_three (by omega)] at hx
          simp at hx; omega
        · rw [Lib.encodeRuneZ_four (by omega) h1] at hx
          simp at hx; omega
    rw [byte_of _ (by omega) (by omega)] at e
    have : (92 : UInt8).toNat = 92 := rfl
    omega
theorem ct_one {r : Int} (h : rune r) (t : List UInt8) : ct ((esc r).flatMap Lib.encodeRune ++ t) + 1 = ct t + (esc r).length := by
  unfold esc
  by_cases h1 : r = 10
  · subst h1
    have e : ([92, 110] : List Int).flatMap Lib.encodeRune = [92, 110] := by decide
    rw [if_pos rfl, e]
    show ct (92 :: 110 :: t) + 1 = _
    rw [ct_esc]; rfl
  · rw [if_neg h1]
    by_cases h2 : r = 34 ∨ r = 92
    · rw [if_pos h2]
      rcases h2 with rfl | rfl
      · have e : ([92, 34] : List Int).flatMap Lib.encodeRune = [92, 34] := by decide
        rw [e]
        show ct (92 :: 34 :: t) + 1 = _
        rw [ct_esc]; rfl
      · have e : ([92, 92] : List Int).flatMap Lib.encodeRune = [92, 92] := by decide
        rw [e]
        show ct (92 :: 92 :: t) + 1 = _
        rw [ct_esc]; rfl
    · rw [if_neg h2, List.flatMap_cons, List.flatMap_nil, List.append_nil, ct_skip _ _ (no_back h (by omega))]
      rfl
theorem ct_all : ∀ (L : List Int) (t : List UInt8), (∀ r ∈ L, rune r) → ct ((L.flatMap esc).flatMap Lib.encodeRune ++ t) + L.length = ct t + (L.flatMap esc).length
  | [], t, _ => rfl
  | r :: L, t, h => by
    have h1 := ct_one (h r (by simp)) ((L.flatMap esc).flatMap Lib.encodeRune ++ t)
    have h2 := ct_all L t (fun x hx => h x (by simp [hx]))
    rw [List.flatMap_cons, List.flatMap_append, List.append_assoc, List.length_cons, List.length_append]
    omega
theorem ct_src (L : List Int) (h : ∀ r ∈ L, rune r) : ct (txt (srcR L)).data.toList + L.length = (L.flatMap esc).length := by
  have e : (txt (srcR L)).data.toList = 34 :: ((L.flatMap esc).flatMap Lib.encodeRune ++ []) := by
    show (srcR L).flatMap Lib.encodeRune = _
    unfold srcR
    rw [List.flatMap_cons, List.append_nil]
    rfl
  rw [e, ct_other _ (by decide)]
  have := ct_all L [] h
  rw [ct_nil] at this
  omega
end Go.Proofs.YtkgapellgfbdnaaDoor.Lex
