
/-
  Plain: what Decode tells (no program in sight).
-/
import Derived.Test.YtpjonhcbhgalpaaDoorIsaMath2
namespace Go.Proofs.YtpjonhcbhgalpaaDoor
open Go.RowKit
/-- What a word has in its fields, by its operation's form (x: a word). -/
def dO (x : Int) : Int := x / 16777216
def dF (x : Int) : Int := opF (dO x)
def dA (x : Int) : Int := if fR (dF x) ≤ 0 then 0 else x / 1048576 % 16
def dB (x : Int) : Int := if fR (dF x) ≤ 1 then 0 else x / 65536 % 16
def dC (x : Int) : Int := if fR (dF x) ≤ 2 then 0 else x / 4096 % 16
def dM (x : Int) : Int := if fL (dF x) < 0 then sg (ex x (fB (dF x))) else bt x (fB (dF x) - 1) 0
/-- Is there an instruction? -/
def decOk (x : Int) : Prop := encE (dO x) (dA x) (dB x) (dC x) (dM x) = 0 ∧ encW (dO x) (dA x) (dB x) (dC x) (dM x) = x
instance (x : Int) : Decidable (decOk x) := by unfold decOk; infer_instance
def decE (x : Int) : Int := if decOk x then 0 else 5
def gO (x : Int) : Int := if decOk x then dO x else 0
def gA (x : Int) : Int := if decOk x then dA x else 0
def gB (x : Int) : Int := if decOk x then dB x else 0
def gC (x : Int) : Int := if decOk x then dC x else 0
def gM (x : Int) : Int := if decOk x then dM x else 0
theorem dec_no (x : Int) (h : ¬ decOk x) : decE x = 5 ∧ gO x = 0 ∧ gA x = 0 ∧ gB x = 0 ∧ gC x = 0 ∧ gM x = 0 := by
  unfold decE gO gA gB gC gM; simp [h]
theorem dec_yes (x : Int) (h : decOk x) : decE x = 0 ∧ gO x = dO x ∧ gA x = dA x ∧ gB x = dB x ∧ gC x = dC x ∧ gM x = dM x := by
  unfold decE gO gA gB gC gM; simp [h]
theorem dec_none (x : Int) (h : dF x = 0) : ¬ decOk x := by
  intro hd
  have := enc_none (dO x) (dA x) (dB x) (dC x) (dM x) h
  have := hd.1
  omega
theorem decode_law (x : Int) : (decE x = 0 ∧ encE (gO x) (gA x) (gB x) (gC x) (gM x) = 0 ∧ encW (gO x) (gA x) (gB x) (gC x) (gM x) = x) ∨ decE x = 5 := by
  by_cases h : decOk x
  · obtain ⟨e0, e1, e2, e3, e4, e5⟩ := dec_yes x h
    rw [e1, e2, e3, e4, e5]
    exact .inl ⟨e0, h.1, h.2⟩
  · exact .inr (dec_no x h).1
theorem sgx (x n : Int) (h : 1 ≤ n) (h' : n ≤ 32) : sg (ex x n) = ext x n.toNat := by
  rw [ex_in x n h h', sg_wd]
  unfold ext
  have hp := pow_pos' (n.toNat - 1)
  have e : (2 : Int) ^ n.toNat = 2 * 2 ^ (n.toNat - 1) := by
    obtain ⟨m, hm⟩ : ∃ m, n.toNat = m + 1 := ⟨n.toNat - 1, by omega⟩
    rw [hm, Nat.add_sub_cancel, Int.pow_succ, Int.mul_comm]
  have hle : (2 : Int) ^ (n.toNat - 1) ≤ 2147483648 := pow_le' (b := 31) (by omega)
  have h1 := Int.emod_nonneg (x + 2 ^ (n.toNat - 1)) (Int.ne_of_gt (pow_pos' n.toNat))
  have h2 := Int.emod_lt_of_pos (x + 2 ^ (n.toNat - 1)) (pow_pos' n.toNat)
  exact sg_in _ (by omega) (by omega)
theorem sg_ex16 (x : Int) : sg (ex x 16) = (x + 32768) % 65536 - 32768 := by rw [sgx x 16 (by decide) (by decide)]; rfl
theorem sg_ex20 (x : Int) : sg (ex x 20) = (x + 524288) % 1048576 - 524288 := by rw [sgx x 20 (by decide) (by decide)]; rfl
theorem bt_16 (x : Int) (h0 : 0 ≤ x) (h1 : x ≤ 4294967295) : bt x 15 0 = x % 65536 := by
  unfold bt
  rw [if_neg (by omega), wd_eq x h0 h1]
  show x / 1 % 65536 = x % 65536
  omega
theorem bt_m1 (x : Int) : bt x (-1) 0 = 0 := by unfold bt; rw [if_pos (by omega)]
/-- THE OTHER WAY ROUND: the fields of an instruction's word are the instruction's. -/
theorem fields_of (op a b c m : Int) (h : encE op a b c m = 0) : dO (encW op a b c m) = op ∧ dA (encW op a b c m) = a ∧ dB (encW op a b c m) = b ∧ dC (encW op a b c m) = c ∧ dM (encW op a b c m) = m ∧ 0 ≤ encW op a b c m ∧ encW op a b c m ≤ 4294967295 := by
  have hn : opF op ≠ 0 := by
    intro hf; have := (enc_none op a b c m hf).1; omega
  have hq : ¬ badQ (fR (opF op)) a b c := by
    intro hf; have := (enc_bad op a b c m hn hf).1; omega
  have hm : ¬ (m < fL (opF op) ∨ fH (opF op) < m) := by
    intro hf; have := (enc_range op a b c m hn hq hf).1; omega
  have hw := (enc_ok op a b c m hn hq hm).2
  have ho := op_of_form op hn
  have hg := good_regs hq
  have hb := opF_bd op
  obtain ⟨⟨a0, a1⟩, ⟨b0, b1⟩, ⟨c0, c1⟩, ha, hbb, hcc⟩ := hg
  rw [hw]
  have key : ∀ y : Int, y = m % 2 ^ (fB (opF op)).toNat → fits b c y → (∀ x : Int, x = op * 16777216 + a * 1048576 + b * 65536 + c * 4096 + y → x / 16777216 = op → x / 1048576 % 16 = a → (1 ≤ fR (opF op) ∨ a = 0) → (2 ≤ fR (opF op) → x / 65536 % 16 = b) → (3 ≤ fR (opF op) → x / 4096 % 16 = c) → (if fL (opF op) < 0 then sg (ex x (fB (opF op))) else bt x (fB (opF op) - 1) 0) = m → dO x = op ∧ dA x = a ∧ dB x = b ∧ dC x = c ∧ dM x = m) := by
    intro y _ _ x hx h1 h2 h2' h3 h4 h5
    have hO : dO x = op := h1
    have hFF : dF x = opF op := by unfold dF; rw [hO]
    refine ⟨hO, ?_, ?_, ?_, ?_⟩
    · unfold dA; rw [hFF]; split
      · exact (ha ‹_›).symm
      · exact h2
    · unfold dB; rw [hFF]; split
      · exact (hbb ‹_›).symm
      · exact h3 (by omega)
    · unfold dC; rw [hFF]; split
      · exact (hcc ‹_›).symm
      · exact h4 (by omega)
    · unfold dM; rw [hFF]; exact h5
  have fin : ∀ f, opF op = f → (∀ y : Int, y = m % 2 ^ (fB f).toNat → fits b c y ∧ (fR f ≤ 2 → c = 0) ∧ (fR f ≤ 1 → b = 0) ∧ ∀ x : Int, x = op * 16777216 + a * 1048576 + b * 65536 + c * 4096 + y → (2 ≤ fR f → y < 65536) ∧ (3 ≤ fR f → y = 0) ∧ 0 ≤ y ∧ y < 1048576 ∧ (if fL f < 0 then sg (ex x (fB f)) else bt x (fB f - 1) 0) = m) →
      dO (op * 16777216 + a * 1048576 + b * 65536 + c * 4096 + m % 2 ^ (fB (opF op)).toNat) = op ∧ dA (op * 16777216 + a * 1048576 + b * 65536 + c * 4096 + m % 2 ^ (fB (opF op)).toNat) = a ∧ dB (op * 16777216 + a * 1048576 + b * 65536 + c * 4096 + m % 2 ^ (fB (opF op)).toNat) = b ∧ dC (op * 16777216 + a * 1048576 + b * 65536 + c * 4096 + m % 2 ^ (fB (opF op)).toNat) = c ∧ dM (op * 16777216 + a * 1048576 + b * 65536 + c * 4096 + m % 2 ^ (fB (opF op)).toNat) = m ∧ 0 ≤ op * 16777216 + a * 1048576 + b * 65536 + c * 4096 + m % 2 ^ (fB (opF op)).toNat ∧ op * 16777216 + a * 1048576 + b * 65536 + c * 4096 + m % 2 ^ (fB (opF op)).toNat ≤ 4294967295 := by
    intro f hf H
    subst hf
    obtain ⟨hfit, hc2, hb2, H2⟩ := H _ rfl
    obtain ⟨y2, y3, y0, y1, hmm⟩ := H2 _ rfl
    generalize hy : m % 2 ^ (fB (opF op)).toNat = y at *
    have K := key y rfl hfit _ rfl
    obtain ⟨k1, k2, k3, k4, k5⟩ := K (by unfold fits at hfit; omega) (by unfold fits at hfit; omega) (by by_cases h : 1 ≤ fR (opF op); exact .inl h; exact .inr (ha (by omega))) (fun h => by have := y2 h; unfold fits at hfit; omega) (fun h => by have := y3 h; omega) hmm
    exact ⟨k1, k2, k3, k4, k5, by omega, by omega⟩
  rcases f_cases (opF op) hb.1 hb.2 with f | f | f | f | f | f | f | f | f
  · exact absurd f hn
  · refine fin 1 f fun y hy => ?_
    rw [f] at hm
    have hm' : ¬ (m < 0 ∨ 0 < m) := hm
    have hy' : y = m % 1 := hy
    have hy0 : y = 0 := by omega
    refine ⟨⟨by omega, .inl (by omega)⟩, fun h => absurd h (by decide), fun h => absurd h (by decide), fun x hx => ⟨fun _ => by omega, fun _ => by omega, by omega, by omega, ?_⟩⟩
    show bt x (-1) 0 = m
    rw [bt_m1]; omega
  · refine fin 2 f fun y hy => ?_
    rw [f] at hm hcc
    have hm' : ¬ (m < -32768 ∨ 32767 < m) := hm
    have hy' : y = m % 65536 := hy
    have hc0 : c = 0 := hcc (by decide)
    refine ⟨⟨by omega, .inr (.inl ⟨hc0, by omega⟩)⟩, fun _ => hc0, fun h => absurd h (by decide), fun x hx => ⟨fun _ => by omega, fun h => absurd h (by decide), by omega, by omega, ?_⟩⟩
    show sg (ex x 16) = m
    rw [sg_ex16]; omega
  · refine fin 3 f fun y hy => ?_
    rw [f] at hm hcc
    have hm' : ¬ (m < 0 ∨ 65535 < m) := hm
    have hy' : y = m % 65536 := hy
    have hc0 : c = 0 := hcc (by decide)
    refine ⟨⟨by omega, .inr (.inl ⟨hc0, by omega⟩)⟩, fun _ => hc0, fun h => absurd h (by decide), fun x hx => ⟨fun _ => by omega, fun h => absurd h (by decide), by omega, by omega, ?_⟩⟩
    show bt x 15 0 = m
    rw [bt_16 x (by omega) (by omega)]; omega
  · refine fin 4 f fun y hy => ?_
    rw [f] at hm hcc
    have hm' : ¬ (m < 0 ∨ 31 < m) := hm
    have hy' : y = m % 65536 := hy
    have hc0 : c = 0 := hcc (by decide)
    refine ⟨⟨by omega, .inr (.inl ⟨hc0, by omega⟩)⟩, fun _ => hc0, fun h => absurd h (by decide), fun x hx => ⟨fun _ => by omega, fun h => absurd h (by decide), by omega, by omega, ?_⟩⟩
    show bt x 15 0 = m
    rw [bt_16 x (by omega) (by omega)]; omega
  · refine fin 5 f fun y hy => ?_
    rw [f] at hm hcc hbb
    have hm' : ¬ (m < 0 ∨ 65535 < m) := hm
    have hy' : y = m % 65536 := hy
    have hc0 : c = 0 := hcc (by decide)
    have hb0 : b = 0 := hbb (by decide)
    refine ⟨⟨by omega, .inr (.inl ⟨hc0, by omega⟩)⟩, fun _ => hc0, fun _ => hb0, fun x hx => ⟨fun h => absurd h (by decide), fun h => absurd h (by decide), by omega, by omega, ?_⟩⟩
    show bt x 15 0 = m
    rw [bt_16 x (by omega) (by omega)]; omega
  · refine fin 6 f fun y hy => ?_
    rw [f] at hm hcc hbb
    have hm' : ¬ (m < -524288 ∨ 524287 < m) := hm
    have hy' : y = m % 1048576 := hy
    have hc0 : c = 0 := hcc (by decide)
    have hb0 : b = 0 := hbb (by decide)
    refine ⟨⟨by omega, .inr (.inr ⟨hb0, hc0, by omega⟩)⟩, fun _ => hc0, fun _ => hb0, fun x hx => ⟨fun h => absurd h (by decide), fun h => absurd h (by decide), by omega, by omega, ?_⟩⟩
    show sg (ex x 20) = m
    rw [sg_ex20]; omega
  · refine fin 7 f fun y hy => ?_
    rw [f] at hm hcc hbb
    have hm' : ¬ (m < 0 ∨ 10 < m) := hm
    have hy' : y = m % 65536 := hy
    have hc0 : c = 0 := hcc (by decide)
    have hb0 : b = 0 := hbb (by decide)
    refine ⟨⟨by omega, .inr (.inl ⟨hc0, by omega⟩)⟩, fun _ => hc0, fun _ => hb0, fun x hx => ⟨fun h => absurd h (by decide), fun h => absurd h (by decide), by omega, by omega, ?_⟩⟩
    show bt x 15 0 = m
    rw [bt_16 x (by omega) (by omega)]; omega
  · refine fin 8 f fun y hy => ?_
    rw [f] at hm hcc hbb
    have hm' : ¬ (m < 0 ∨ 0 < m) := hm
    have hy' : y = m % 1 := hy
    have hy0 : y = 0 := by omega
    have hc0 : c = 0 := hcc (by decide)
    have hb0 : b = 0 := hbb (by decide)
    refine ⟨⟨by omega, .inl (by omega)⟩, fun _ => hc0, fun _ => hb0, fun x hx => ⟨fun h => absurd h (by decide), fun h => absurd h (by decide), by omega, by omega, ?_⟩⟩
    show bt x (-1) 0 = m
    rw [bt_m1]; omega
/-- Decode of an instruction's word is the instruction. -/
theorem decode_encode (op a b c m : Int) (h : encE op a b c m = 0) : decE (encW op a b c m) = 0 ∧ gO (encW op a b c m) = op ∧ gA (encW op a b c m) = a ∧ gB (encW op a b c m) = b ∧ gC (encW op a b c m) = c ∧ gM (encW op a b c m) = m := by
  obtain ⟨h1, h2, h3, h4, h5, _, _⟩ := fields_of op a b c m h
  have hd : decOk (encW op a b c m) := by
    unfold decOk; rw [h1, h2, h3, h4, h5]; exact ⟨h, rfl⟩
  obtain ⟨e0, e1, e2, e3, e4, e5⟩ := dec_yes _ hd
  exact ⟨e0, e1.trans h1, e2.trans h2, e3.trans h3, e4.trans h4, e5.trans h5⟩
end Go.Proofs.YtpjonhcbhgalpaaDoor
