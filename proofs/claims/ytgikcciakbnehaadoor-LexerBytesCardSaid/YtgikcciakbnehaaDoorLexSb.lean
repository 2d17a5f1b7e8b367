
/-
  A row of tokens of the call's own that is wiped; a row of bytes that came in.
-/
import Derived.Test.YtgikcciakbnehaaDoorLexSa
import Derived.Laws.Concat
import Derived.Carry
import Derived.OpenShut
import Derived.Deep.Slices
set_option maxRecDepth 100000
namespace Go.Proofs.YtgikcciakbnehaaDoor.Lex
open Go.Proofs.YtgikcciakbnehaaDoor Go.Proofs.YtgikcciakbnehaaDoor.Ser
open Go.ChangeShapes Go.WideShapes Go.ChangeAt Go.RowKit
set_option linter.unusedVariables false
structure Zr (w5 w : World) (g n : Nat) : Prop where
  row : ∃ cur, w.heap[g]? = some (.cells cur 28 (0, 0)) ∧ n * 5 ≤ cur.size
  b : But (fun i => i = g) w5 w
section
variable {w5 w : World} {g n : Nat}
theorem Zr.set (Z : Zr w5 w g n) (o : Nat) (v : Value) : Zr w5 (w.setCell ⟨g, o, none⟩ v) g n := by
  obtain ⟨cur, h1, h2⟩ := Z.row
  exact ⟨⟨_, setCell_row h1 o v, by simpa using h2⟩, Z.b.setCell ⟨g, o, none⟩ rfl v⟩
theorem Zr.cell (Z : Zr w5 w g n) {i : Nat} (hi : i < n) (j : Nat) (hj : j < 5) : ∃ c, w.cell? ⟨g, i * 5 + j, none⟩ = some c := by
  obtain ⟨cur, h1, h2⟩ := Z.row
  refine ⟨cur[i * 5 + j]'(by omega), ?_⟩
  rw [cell_of_row w g (i * 5 + j) _ _ _ h1]
  exact Array.getElem?_eq_getElem _
theorem Zr.fr (Z : Zr w5 w g n) (o : Nat) : w.frozen? ⟨g, o, none⟩ = false := by
  obtain ⟨cur, h1, h2⟩ := Z.row
  simp [World.frozen?, h1]
end
theorem zr_new {w : World} {B : Nat} {p : Option Addr} {n q : Nat} {T : List Tok} (h : OwnT w B (.slice p n q) T) : n = 0 ∨ ∃ g, p = some ⟨g, 0, none⟩ ∧ B ≤ g ∧ Zr w w g n := by
  obtain ⟨h0, ⟨h1, h2⟩ | ⟨g, cap, cur, e, h2, h3, h4, h5, h6, h7⟩⟩ := h
  · injection h1 with _ e2 _
    exact .inl e2
  · injection e with e1 e2 e3
    refine .inr ⟨g, e1, h2, ⟨cur, h3, ?_⟩, But.refl _ _⟩
    have : T.length * 5 ≤ cap * 5 := Nat.mul_le_mul_right 5 h4
    omega
/-- A row of bytes that came in. -/
structure BytsIn (W : World) (lp : Option Addr) (len : Nat) (xs : List Int) : Prop where
  hlen : xs.length = len
  at_ : 0 < len → ∃ b off, lp = some ⟨b, off, none⟩ ∧ b < W.heap.size ∧ ∀ i, i < len → W.cell? ⟨b, off + i, none⟩ = some (.int .u8 (xs.getD i 0))
theorem BytsIn.src {W w : World} {lp : Option Addr} {len : Nat} {xs : List Int} (h : BytsIn W lp len xs) (hb : Below W.heap.size W w) : Src w lp xs := by
  intro hp
  obtain ⟨b, off, rfl, hlt, hc⟩ := h.at_ (by rw [← h.hlen]; exact hp)
  refine ⟨_, rfl, fun j u hu => ?_⟩
  have hj : j < xs.length := by have := (List.getElem?_eq_some_iff.1 hu).1; simpa using this
  rw [Addr.add_lit, World.cell?_of_block (hb.block b hlt), hc j (by rw [← h.hlen]; exact hj), ← hu]
  simp [List.getElem?_eq_getElem hj]
theorem laidOut : laidOutB Tryd.prog = true := by kernel_rfl
theorem cells8 : Tryd.prog.cellsOf 5 = 1 := by kernel_rfl
theorem open_bytes {H : Type} {enc : TypeId × Value → H} {W : World} {v : Value} {d : DataW H} {p : List MemPlace} {base : Nat} (hv : Value.okWide Tryd.prog W .any base 34 v) (h : DataW.Trod enc Tryd.prog W 0 (fun _ => true) true 34 v d p) :
    ∃ (lp : Option Addr) (len cap : Nat) (xs : List Int), v = .slice lp len cap ∧ len ≤ 9223372036854775807 ∧ BytsIn W lp len xs := by
  obtain ⟨a0, len0, cap0, rfl⟩ := okWide_slice Tryd.underlying34 hv
  obtain ⟨fuel, hf⟩ := h
  rcases DataW.trod_slice Tryd.underlying34 hf with ⟨hcs, -⟩ | ⟨a, len, cap, elems, rest, n, -, hcs, -, hb, hl, hm, hlen, hel, -, -⟩
  · simp [Value.cells] at hcs
    obtain ⟨rfl, rfl, rfl⟩ := hcs
    exact ⟨none, 0, 0, [], rfl, by omega, ⟨rfl, fun h => by omega⟩⟩
  · simp [Value.cells] at hcs
    obtain ⟨rfl, rfl, rfl⟩ := hcs
    rw [cells8] at hel
    have each : ∀ i, i < len0 → ∃ x : Int, (∀ k, k < 1 → W.cell? ((a.add (i * 1)).add k) = [Value.int .u8 x][k]?) := by
      intro i hi
      have h1 := hel i hi
      rw [List.getElem?_eq_getElem (by rw [hlen]; exact hi)] at h1
      obtain ⟨cs', h2, h3⟩ := Option.bind_eq_some_iff.1 h1
      obtain ⟨x, e, -, -⟩ := DataW.trod_int Tryd.underlying5 h3
      subst e
      obtain ⟨-, -, h4⟩ := World.cells?_some h2
      exact ⟨x, h4⟩
    obtain ⟨f, hf⟩ := Go.Deep.choose_lt each
    refine ⟨some a, len0, cap0, (List.range len0).map f, rfl, by unfold maxLen at hm; omega, ⟨by simp, fun hp => ?_⟩⟩
    obtain ⟨b, off, spot⟩ := a
    have h00 := hf 0 hp 0 (by omega)
    have hspot : spot = none := by simpa [Addr.add] using World.cell?_spot h00
    subst hspot
    refine ⟨b, off, rfl, by simpa [Addr.add] using World.block_lt_of_cell? W _ h00, fun i hi => ?_⟩
    have h5 := hf i hi 0 (by omega)
    simp only [Addr.add_lit, Nat.mul_one, Nat.add_zero] at h5
    rw [h5]
    simp [hi]
/-- There are no more tokens than runes. -/
theorem goO_len : ∀ (f : Nat) (R : List Int) (l c : Int) (ts : List Tok), (goO f R l c ts).1.length ≤ ts.length + R.length + 1
  | 0, R, l, c, ts => by simp [goO]
  | f + 1, R, l, c, ts => by
    by_cases h1 : hd R = -1
    · rw [goO_end h1, List.length_append]; show ts.length + 1 ≤ _; omega
    · by_cases he : (stepO R l c).e = 0
      · rw [goO_next h1 he]
        have hR : R ≠ [] := by rintro rfl; exact h1 rfl
        have h2 := step_k (l := l) (c := c) hR he
        have h3 := List.length_pos_iff.2 hR
        have h4 := goO_len f (R.drop (stepO R l c).k) ((stepO R l c).line l) ((stepO R l c).col c) (ts ++ (stepO R l c).ts)
        rw [List.length_append, List.length_drop] at h4
        omega
      · rw [goO_err h1 he]; simp
theorem lex_len (s : ByteArray) : (lexS s).1.length ≤ 100000 := by
  unfold lexS
  split
  · simp
  · have h1 := goO_len (rs s.data.toList).length (rs s.data.toList) 1 1 []
    have h2 := rs_len s.data.toList
    have h3 : s.data.toList.length = s.size := Array.length_toList
    simp at h1
    omega
end Go.Proofs.YtgikcciakbnehaaDoor.Lex
