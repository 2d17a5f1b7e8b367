/-
  Package bare: Reset of a machine that has a state. | Package bare: a new machine's bones.
-/
import Derived.Test.YtfcmodllbhpniaaGreatDoorJnVwx
set_option linter.unusedVariables false
set_option maxRecDepth 100000
namespace Go.Proofs.YtfcmodllbhpniaaGreatDoor.Ser
open Go.Proofs.YtfcmodllbhpniaaGreatDoor
open Go.ChangeShapes Go.WideShapes Go.ChangeAt Go.RowKit
theorem Step.mono {F3 F : Nat → Prop} {P : Thing} {w w' : World} (h : Step F3 P w w') (hF : ∀ i, F3 i → F i) : Step F P w w' := by
  obtain ⟨F', p, n, b⟩ := h
  exact ⟨F', p, fun i hi => (n i hi).imp (hF i) id, b.mono fun i hi => hF i hi⟩
section
variable {w : World} {F : Nat → Prop} {L : Lay} {m : Ma} {ov : Value} {gr cr gc cc : Nat}
theorem bm_bones (S : Sees w F L m ov gr cr gc cc) : ∃ Z F3, Z.length = 6 ∧ (Group (bones L Z m.M m.rx m.tx)).is w F3 ∧ ∀ i, F3 i → F i := by
  obtain ⟨Fs, hG⟩ := S.grp
  have hl6 : (parts L (.slice (some ⟨gr, 0, none⟩) 16 cr) (.slice (some ⟨gc, 0, none⟩) 11 cc) ov m).length = 6 := rfl
  let G : Nat → Nat → Prop := fun k i => (k = 0 ∧ Fs 0 i) ∨ (k = 1 ∧ Fs 1 i) ∨ (k = 2 ∧ Fs 4 i)
  refine ⟨ZL (.slice (some ⟨gr, 0, none⟩) 16 cr) (.slice (some ⟨gc, 0, none⟩) 11 cc) ov m, fun i => ∃ k, k < 3 ∧ G k i, rfl, ⟨G, ⟨?_, ?_, fun i => Iff.rfl⟩⟩, ?_⟩
  · intro k P hP
    match k, hP with
    | 0, hP =>
      obtain rfl := Option.some.inj hP
      have e : G 0 = Fs 0 := by funext i; apply propext; simp [G]
      rw [e]; exact hG.p 0 _ rfl
    | 1, hP =>
      obtain rfl := Option.some.inj hP
      have e : G 1 = Fs 1 := by funext i; apply propext; simp [G]
      rw [e]; exact hG.p 1 _ rfl
    | 2, hP =>
      obtain rfl := Option.some.inj hP
      have e : G 2 = Fs 4 := by funext i; apply propext; simp [G]
      rw [e]; exact hG.p 4 _ rfl
    | k + 3, hP => simp at hP
  · intro k k' i _ _ h1 h2
    have d01 := hG.d 0 1 i (by rw [hl6]; decide) (by rw [hl6]; decide)
    have d04 := hG.d 0 4 i (by rw [hl6]; decide) (by rw [hl6]; decide)
    have d14 := hG.d 1 4 i (by rw [hl6]; decide) (by rw [hl6]; decide)
    rcases h1 with ⟨rfl, h1⟩ | ⟨rfl, h1⟩ | ⟨rfl, h1⟩ <;> rcases h2 with ⟨rfl, h2⟩ | ⟨rfl, h2⟩ | ⟨rfl, h2⟩ <;>
      first
        | rfl
        | exact absurd (d01 h1 h2) (by decide)
        | exact absurd (d01 h2 h1) (by decide)
        | exact absurd (d04 h1 h2) (by decide)
        | exact absurd (d04 h2 h1) (by decide)
        | exact absurd (d14 h1 h2) (by decide)
        | exact absurd (d14 h2 h1) (by decide)
  · rintro i ⟨k, -, (⟨-, h⟩ | ⟨-, h⟩ | ⟨-, h⟩)⟩
    · exact (hG.f i).2 ⟨0, by rw [hl6]; decide, h⟩
    · exact (hG.f i).2 ⟨1, by rw [hl6]; decide, h⟩
    · exact (hG.f i).2 ⟨4, by rw [hl6]; decide, h⟩
theorem anew_fine {n : Nat} {tx : List Int} (h4 : n % 4 = 0) (hn : n ≤ 1048576) (hl : L.bs.length ≤ n) (hb : Byt L.bs) (he : Wd L.en) (ht : Byts tx) : (Ma.anew L n tx).Fine where
  rl := rfl
  rw := Wds.rep 16
  r0 := rfl
  pc := he
  cl := rfl
  cw := by
    intro x hx
    rcases List.mem_cons.1 hx with rfl | hx
    · omega
    · exact Wds.rep 10 x hx
  by' := allB_byt hb
  m4 := by show (allB L n).length % 4 = 0; rw [allB_length hl]; exact h4
  ml := by show (allB L n).length ≤ _; rw [allB_length hl]; exact hn
  br := fun x hx => by cases hx
  bl := by show ([] : List Int).length ≤ 16; simp
  bt' := ht
theorem bm_reset_again (S : Sees w F L m ov gr cr gc cc) (hb : Byt L.bs) (hl : L.bs.length ≤ m.M.length) (he : Wd L.en) :
    Calls Tryz.prog 16 #[.pointer (some ⟨L.h, 0, none⟩)] w fun e w' => e = .returned (.tuple #[]) ∧ Step F (Bm L (Ma.anew L m.M.length m.tx)) w w' := by
  obtain ⟨Z, F3, hZ, hG, hF⟩ := bm_bones S
  exact (bm_reset hG hZ hb rfl S.fine.ml hl (anew_fine S.fine.m4 S.fine.ml hl hb he S.fine.bt')).mono fun e w' h => ⟨h.1, h.2.mono hF⟩
end
end Go.Proofs.YtfcmodllbhpniaaGreatDoor.Ser
set_option maxRecDepth 100000
namespace Go.Proofs.YtfcmodllbhpniaaGreatDoor.Ser
open Go.Proofs.YtfcmodllbhpniaaGreatDoor
open Go.ChangeShapes Go.WideShapes Go.ChangeAt Go.RowKit
/-- The cells of a new machine. -/
abbrev mz (bv : Value) (en : Int) (hm : Nat) : Array Value := #[bv, i64 en, .nilIface, .pointer (some ⟨hm, 0, none⟩),
  .int .u8 0, .int .u8 0, .int .u8 0, .int .u8 0, .int .u8 0, .int .u8 0, .int .u8 0, .int .u8 0, .int .u8 0, .int .u8 0, .int .u8 0, .int .u8 0, .int .u8 0, .int .u8 0, .int .u8 0, .int .u8 0, .int .i64 0, .int .i64 0, .slice none 0 0,
  .slice none 0 0, .int .i64 0, .slice none 0 0, .bool false, .bool false, .slice none 0 0]
abbrev Z0 : List Value := [.slice none 0 0, i64 0, .slice none 0 0, .bool false, .bool false, .slice none 0 0]
theorem mz_uc (bv : Value) (en : Int) (hm : Nat) : mz bv en hm = uc [bv, i64 en, .nilIface, .pointer (some ⟨hm, 0, none⟩)] Z0 (List.replicate 16 0) 0 0 (.slice none 0 0) := rfl
theorem new_bones {w : World} {h hm g n B0 : Nat} {bv : Value} {xs : List Int} {en : Int} (hd : w.heap[h]? = some (.cells (mz bv en hm) 69 (0, 0))) (M : Mem 87 w hm g (List.replicate n 0)) (o : OwnK 5 .u8 w B0 bv xs)
    (n1 : h ≠ hm) (n2 : h ≠ g) (l1 : h < B0) (l2 : hm < B0) (l3 : g < B0) : (Group (bones ⟨h, hm, g, bv, xs, en⟩ Z0 (List.replicate n 0) [] [])).is w (fun i => i = h ∨ i = hm ∨ i = g ∨ bv.ownBlock = some i) := by
  have hU : (Ua h [bv, i64 en, .nilIface, .pointer (some ⟨hm, 0, none⟩)] Z0 [] []).is w (fun i => i = h ∨ (Value.slice none 0 0).ownBlock = some i) :=
    ⟨List.replicate 16 0, 0, .slice none 0 0, ⟨by rw [mz_uc] at hd; exact hd, rfl, by simp, by omega, fun j hj => by simp at hj, by simp, fun b hb => by simp at hb, fun b hb => by simp at hb, own_nil _ _, by simp [Value.ownBlock]⟩, rfl⟩
  let G : Nat → Nat → Prop := fun k i => (k = 0 ∧ i = h) ∨ (k = 1 ∧ (i = hm ∨ i = g)) ∨ (k = 2 ∧ bv.ownBlock = some i)
  have e : (fun i => i = h ∨ i = hm ∨ i = g ∨ bv.ownBlock = some i) = fun i => ∃ k, k < 3 ∧ G k i := by
    funext i; apply propext
    constructor
    · rintro (h | h | h | h)
      · exact ⟨0, by omega, .inl ⟨rfl, h⟩⟩
      · exact ⟨1, by omega, .inr (.inl ⟨rfl, .inl h⟩)⟩
      · exact ⟨1, by omega, .inr (.inl ⟨rfl, .inr h⟩)⟩
      · exact ⟨2, by omega, .inr (.inr ⟨rfl, h⟩)⟩
    · rintro ⟨k, -, ⟨-, h⟩ | ⟨-, h | h⟩ | ⟨-, h⟩⟩
      · exact .inl h
      · exact .inr (.inl h)
      · exact .inr (.inr (.inl h))
      · exact .inr (.inr (.inr h))
  rw [e]
  refine ⟨G, ⟨?_, ?_, fun i => Iff.rfl⟩⟩
  · intro k P hP
    match k, hP with
    | 0, hP =>
      obtain rfl := Option.some.inj hP
      have e : G 0 = fun i => i = h ∨ (Value.slice none 0 0).ownBlock = some i := by funext i; apply propext; simp [G, Value.ownBlock]
      rw [e]; exact hU
    | 1, hP =>
      obtain rfl := Option.some.inj hP
      have e : G 1 = fun i => i = hm ∨ i = g := by funext i; apply propext; simp [G]
      rw [e]; exact ⟨M, rfl⟩
    | 2, hP =>
      obtain rfl := Option.some.inj hP
      have e : G 2 = fun i => bv.ownBlock = some i := by funext i; apply propext; simp [G]
      rw [e]; exact ownK_zero (ownK_mono o (Nat.zero_le _))
    | k + 3, hP => simp at hP
  · intro k k' i _ _ h1 h2
    have q := fun hi => (o.lt i hi).1
    rcases h1 with ⟨rfl, h1⟩ | ⟨rfl, h1⟩ | ⟨rfl, h1⟩ <;> rcases h2 with ⟨rfl, h2⟩ | ⟨rfl, h2⟩ | ⟨rfl, h2⟩ <;>
      first
        | rfl
        | (exfalso; omega)
        | (exfalso; have a1 := q h1; omega)
        | (exfalso; have a1 := q h2; omega)
end Go.Proofs.YtfcmodllbhpniaaGreatDoor.Ser
