/-
  Plain: the machine of law BareTimer: eight instructions that lay the timer, then a jump to itself. No program in sight.
-/
import Derived.Test.YtfcmodllbhpniaaGreatDoorJnBareS1
import Derived.Test.YtfcmodllbhpniaaGreatDoorJnCode
set_option linter.unusedVariables false
set_option maxRecDepth 100000
namespace Go.Proofs.YtfcmodllbhpniaaGreatDoor
open Go.RowKit
set_option linter.unusedVariables false
/-- The machine: register 1, place, status, where traps go, the trapped place, the cause, time, when, what waits, what is let through. -/
abbrev tm (M : List Int) (r pc st tv ep ca t cm ip ie : Int) : Ma := ⟨[0, r, 0, 0, 0, 0, 0, 0, 0, 0, 0, 0, 0, 0, 0, 0], pc, [st, tv, ep, ca, 0, 0, 0, t, cm, ip, ie], M, [], [], false, false⟩
theorem run2 {m : Ma} (h : m.dead = false) (n : Nat) : (m.run (n + 1)).2 = ((m.step 0 4294967295).run n).2 := by
  show (if m.dead = true then ((0, m) : Nat × Ma) else _).2 = _
  rw [if_neg (by rw [h]; decide)]
theorem pnd_tm (t cm : Int) : pnd t cm 0 0 = if wd cm ≠ 0 ∧ wd cm ≤ wd t then 1 else 0 := by
  unfold pnd
  rw [if_neg (show ¬ (0 : Int) < 0 by decide)]
  omega
theorem or_imm (c : Nat) (h : c ≤ 300) : bits .or .i64 303038464 c = 303038464 + c ∧ wd (bits .or .i64 0 c) = c := by
  have h2 : ∀ c : Nat, c < 301 → bits .or .i64 303038464 (c : Int) = 303038464 + c ∧ wd (bits .or .i64 0 c) = c := by decide +kernel
  exact h2 c (by omega)
theorem dec_ori (c : Nat) (h : c ≤ 300) : decOk (303038464 + c) ∧ gO (303038464 + c) = 18 ∧ gA (303038464 + c) = 1 ∧ gB (303038464 + c) = 0 ∧ gC (303038464 + c) = 0 ∧ gM (303038464 + c) = c := by
  have h2 : ∀ c : Nat, c < 301 → decOk (303038464 + (c : Int)) ∧ gO (303038464 + (c : Int)) = 18 ∧ gA (303038464 + (c : Int)) = 1 ∧ gB (303038464 + (c : Int)) = 0 ∧ gC (303038464 + (c : Int)) = 0 ∧ gM (303038464 + (c : Int)) = c := by decide +kernel
  exact h2 c (by omega)
theorem dec_csrw (n : Nat) (h : n ≤ 10) : decOk (1158676480 + n) ∧ gO (1158676480 + n) = 69 ∧ gA (1158676480 + n) = 1 ∧ gB (1158676480 + n) = 0 ∧ gC (1158676480 + n) = 0 ∧ gM (1158676480 + n) = n := by
  have h2 : ∀ c : Nat, c < 11 → decOk (1158676480 + (c : Int)) ∧ gO (1158676480 + (c : Int)) = 69 ∧ gA (1158676480 + (c : Int)) = 1 ∧ gB (1158676480 + (c : Int)) = 0 ∧ gC (1158676480 + (c : Int)) = 0 ∧ gM (1158676480 + (c : Int)) = c := by decide +kernel
  exact h2 n (by omega)
theorem dec_j : decOk 939524096 ∧ gO 939524096 = 56 ∧ gA 939524096 = 0 ∧ gB 939524096 = 0 ∧ gC 939524096 = 0 ∧ gM 939524096 = 0 := by decide +kernel
theorem wr_cmp (c : Nat) (h : c ≤ 300) : wr (Go.Proofs.YtfcmodllbhpniaaGreatDoor.mk 8) 0 c = c := by
  have h2 : ∀ c : Nat, c < 301 → wr (Go.Proofs.YtfcmodllbhpniaaGreatDoor.mk 8) 0 (c : Nat) = c := by decide +kernel
  exact h2 c (by omega)
theorem wr_ien (c : Nat) (h : c ≤ 7) : wr (Go.Proofs.YtfcmodllbhpniaaGreatDoor.mk 10) 0 c = c := by
  have h2 : ∀ c : Nat, c < 8 → wr (Go.Proofs.YtfcmodllbhpniaaGreatDoor.mk 10) 0 (c : Nat) = c := by decide +kernel
  exact h2 c (by omega)
theorem wr_tvec : wr (Go.Proofs.YtfcmodllbhpniaaGreatDoor.mk 1) 0 64 = 64 := by decide +kernel
theorem wr_st (c : Nat) (h : c ≤ 1) : wr (Go.Proofs.YtfcmodllbhpniaaGreatDoor.mk 0) 4 c = 4 + c := by
  have h2 : ∀ c : Nat, c < 2 → wr (Go.Proofs.YtfcmodllbhpniaaGreatDoor.mk 0) 4 (c : Nat) = 4 + c := by decide +kernel
  exact h2 c (by omega)
section
variable {M : List Int} {r pc st tv ep ca t cm ip ie v : Int}
theorem tm_fetch (hM : M.length = 4096) (h0 : 0 ≤ pc) (h1 : pc ≤ 4092) (h4 : pc % 4 = 0) (hv : ldv M pc 4 = v) (hd : decOk v) (hs : st / 4 % 2 = 1) : (tm M r pc st tv ep ca t cm ip ie).fetch = .yes v := by
  have hu : (tm M r pc st tv ep ca t cm ip ie).us = false := by show decide (st / 4 % 2 = 0) = false; rw [hs]; rfl
  have hf : (tm M r pc st tv ep ca t cm ip ie).find pc 4 0 = (pc, 0) := by
    unfold Ma.find
    rw [if_neg (by omega)]
    unfold walkV
    rw [if_pos (by show (0 : Int) / 2147483648 % 2 = 0; decide), wd_eq _ h0 (by omega)]
  unfold Ma.fetch
  show (if ((tm M r pc st tv ep ca t cm ip ie).find pc 4 0).2 ≠ 0 then _ else _) = _
  rw [hf, if_neg (fun h => h rfl)]
  show (if ¬ okc M.length pc 4 then _ else _) = _
  rw [if_neg (by rw [hM]; exact fun h => h ⟨.inr (.inr rfl), h4, h0, by omega, by omega⟩)]
  show (if ¬ decOk (ldv M pc 4) then Did.no 1 (ldv M pc 4) else _) = _
  rw [hv, if_neg (fun h => h hd), hu, if_neg (by simp)]
theorem tm_step (hM : M.length = 4096) (h0 : 0 ≤ pc) (h1 : pc ≤ 4092) (h4 : pc % 4 = 0) (hv : ldv M pc 4 = v) (hd : decOk v) (hs : st / 4 % 2 = 1) (hn : tkb st (bits .and .i64 (pnd t cm 0 0) ie) = false) :
    (tm M r pc st tv ep ca t cm ip ie).step 0 4294967295 = (match (tm M r pc st tv ep ca t cm (pnd t cm 0 0) ie).exec 4294967295 (gO v) (gA v) (gB v) (gC v) (gM v) with | .no x y => (tm M r pc st tv ep ca t cm (pnd t cm 0 0) ie).trap x y | .yes m' => m').tick := by
  unfold Ma.step
  rw [if_neg (by show ¬ (false || false) = true; decide)]
  show ((tm M r pc st tv ep ca t cm (pnd t cm 0 0) ie).act 4294967295).tick = _
  unfold Ma.act
  show (if tkb st (bits .and .i64 (pnd t cm 0 0) ie) = true then _ else (match (tm M r pc st tv ep ca t cm (pnd t cm 0 0) ie).one 4294967295 with | .no x y => (tm M r pc st tv ep ca t cm (pnd t cm 0 0) ie).trap x y | .yes m' => m' : Ma)).tick = _
  rw [hn, if_neg (by decide)]
  unfold Ma.one
  rw [tm_fetch hM h0 h1 h4 hv hd hs]
theorem tm_ori (hM : M.length = 4096) (h0 : 0 ≤ pc) (h1 : pc ≤ 4088) (h4 : pc % 4 = 0) (c : Nat) (hc : c ≤ 300) (hv : ldv M pc 4 = 303038464 + c) (hs : st / 4 % 2 = 1) (hn : tkb st (bits .and .i64 (pnd t cm 0 0) ie) = false) (t0 : 0 ≤ t) (t1 : t ≤ 1000) :
    (tm M r pc st tv ep ca t cm ip ie).step 0 4294967295 = tm M c (pc + 4) st tv ep ca (t + 1) cm (pnd t cm 0 0) ie := by
  obtain ⟨d0, d1, d2, d3, d4, d5⟩ := dec_ori c hc
  rw [tm_step hM h0 (by omega) h4 hv d0 hs hn, d1, d2, d3, d4, d5]
  have e1 : wd (pc + 4) = pc + 4 := wd_eq _ (by omega) (by omega)
  have e2 : wd (t + 1) = t + 1 := wd_eq _ (by omega) (by omega)
  have e3 : aluV 18 0 (0 + c) = c := by rw [Int.zero_add]; exact (or_imm c hc).2
  show (tm M (aluV 18 0 (0 + c)) (wd (pc + 4)) st tv ep ca (wd (t + 1)) cm (pnd t cm 0 0) ie) = _
  rw [e1, e2, e3]
theorem tm_csrw (hM : M.length = 4096) (h0 : 0 ≤ pc) (h1 : pc ≤ 4088) (h4 : pc % 4 = 0) (n : Nat) (hc : n ≤ 10) (hv : ldv M pc 4 = 1158676480 + n) (hs : st / 4 % 2 = 1) (hn : tkb st (bits .and .i64 (pnd t cm 0 0) ie) = false) :
    (tm M r pc st tv ep ca t cm ip ie).step 0 4294967295 = ((((tm M r pc st tv ep ca t cm (pnd t cm 0 0) ie).setC n (wr (Go.Proofs.YtfcmodllbhpniaaGreatDoor.mk n) ((tm M r pc st tv ep ca t cm (pnd t cm 0 0) ie).c n) r)).go (wd (pc + 4)))).tick := by
  obtain ⟨d0, d1, d2, d3, d4, d5⟩ := dec_csrw n hc
  rw [tm_step hM h0 (by omega) h4 hv d0 hs hn, d1, d2, d3, d4, d5]
  rfl
theorem tm_j (hM : M.length = 4096) (h0 : 0 ≤ pc) (h1 : pc ≤ 4088) (h4 : pc % 4 = 0) (hv : ldv M pc 4 = 939524096) (hs : st / 4 % 2 = 1) (hn : tkb st (bits .and .i64 (pnd t cm 0 0) ie) = false) (t0 : 0 ≤ t) (t1 : t ≤ 1000) :
    (tm M r pc st tv ep ca t cm ip ie).step 0 4294967295 = tm M r pc st tv ep ca (t + 1) cm (pnd t cm 0 0) ie := by
  obtain ⟨d0, d1, d2, d3, d4, d5⟩ := dec_j
  rw [tm_step hM h0 (by omega) h4 hv d0 hs hn, d1, d2, d3, d4, d5]
  have e1 : wd (pc + 4 * 0) = pc := wd_eq _ (by omega) (by omega) |>.trans (by omega)
  have e2 : wd (t + 1) = t + 1 := wd_eq _ (by omega) (by omega)
  show (tm M r (wd (pc + 4 * 0)) st tv ep ca (wd (t + 1)) cm (pnd t cm 0 0) ie) = _
  rw [e1, e2]
theorem tm_loop (hM : M.length = 4096) (hv : ldv M 32 4 = 939524096) (hs : st / 4 % 2 = 1) : ∀ (k : Nat) (t ip : Int), 0 ≤ t → t + k ≤ 1000 → (∀ j, t ≤ j → j < t + k → tkb st (bits .and .i64 (pnd j cm 0 0) ie) = false) →
    ∃ ip', ((tm M r 32 st tv ep ca t cm ip ie).run k).2 = tm M r 32 st tv ep ca (t + k) cm ip' ie
  | 0, t, ip, _, _, _ => ⟨ip, by simp [Ma.run]⟩
  | k + 1, t, ip, h0, h1, hn => by
    obtain ⟨ip', h⟩ := tm_loop hM hv hs k (t + 1) (pnd t cm 0 0) (by omega) (by omega) (fun j a b => hn j (by omega) (by omega))
    refine ⟨ip', ?_⟩
    rw [run2 rfl, tm_j hM (by decide) (by decide) (by decide) hv hs (hn t (by omega) (by omega)) h0 (by omega), h]
    have : t + 1 + (k : Int) = t + ((k + 1 : Nat) : Int) := by omega
    rw [this]
theorem tm_take (ht : tkb 5 (bits .and .i64 (pnd t cm 0 0) ie) = true) (hk : tkn 5 (bits .and .i64 (pnd t cm 0 0) ie) = 2147483648) (t0 : 0 ≤ t) (t1 : t ≤ 1000) :
    (tm M r pc 5 tv ep ca t cm ip ie).step 0 4294967295 = tm M r tv 14 tv pc 2147483648 (t + 1) cm (pnd t cm 0 0) ie := by
  unfold Ma.step
  rw [if_neg (by show ¬ (false || false) = true; decide)]
  show ((tm M r pc 5 tv ep ca t cm (pnd t cm 0 0) ie).act 4294967295).tick = _
  unfold Ma.act
  show (if tkb 5 (bits .and .i64 (pnd t cm 0 0) ie) = true then (tm M r pc 5 tv ep ca t cm (pnd t cm 0 0) ie).trap (tkn 5 (bits .and .i64 (pnd t cm 0 0) ie)) 0 else _).tick = _
  rw [if_pos ht, hk]
  unfold Ma.trap
  rw [if_neg (fun h => absurd h.1 (by decide))]
  have e2 : wd (t + 1) = t + 1 := wd_eq _ (by omega) (by omega)
  show (tm M r tv (en 5) tv pc 2147483648 (wd (t + 1)) cm (pnd t cm 0 0) ie) = _
  rw [e2]
  rfl
end
/-- The words of the law's program. -/
def tmW (c i o : Nat) : List Int := [303038464 + (c : Int), 1158676488, 303038464 + (i : Int), 1158676490, 303038528, 1158676481, 303038464 + (o : Int), 1158676480, 939524096, 939524096, 939524096, 939524096, 939524096, 939524096, 939524096, 939524096, 939524096]
theorem tmW_len (c i o : Nat) : (tmW c i o).length = 17 := rfl
/-- The memory of a machine of one page that begins with words. -/
abbrev memL (xs : List Int) : List Int := (Ser.codeB xs).take 4096 ++ List.replicate (4096 - ((Ser.codeB xs).take 4096).length) 0
theorem memL_len (xs : List Int) (h : xs.length ≤ 1024) : (memL xs).length = 4096 := by
  have := Ser.codeB_len xs
  simp only [memL, List.length_append, List.length_take, List.length_replicate]; omega
theorem memL_word (xs : List Int) (h : xs.length ≤ 1024) (k : Nat) (hk : k < xs.length) : ldv (memL xs) (4 * (k : Int)) 4 = wd (xs.getD k 0) := by
  have hl := Ser.codeB_len xs
  have e1 : (Ser.codeB xs).take 4096 = Ser.codeB (xs.take k) ++ (Img.four (wd (xs.getD k 0)) ++ Ser.codeB (xs.drop (k + 1))) := by
    rw [List.take_of_length_le (by omega)]
    have : xs = xs.take (k + 1) ++ xs.drop (k + 1) := (List.take_append_drop _ _).symm
    conv => lhs; rw [this]
    rw [show Ser.codeB (xs.take (k + 1) ++ xs.drop (k + 1)) = Ser.codeB (xs.take (k + 1)) ++ Ser.codeB (xs.drop (k + 1)) from by unfold Ser.codeB; exact List.flatMap_append, Ser.codeB_succ xs k hk, List.append_assoc]
  have e2 : (Ser.codeB (xs.take k)).length = 4 * k := by rw [Ser.codeB_len, List.length_take]; omega
  have hd : ((memL xs).drop (4 * k)).take 4 = Img.four (wd (xs.getD k 0)) := by
    unfold memL
    rw [e1, List.append_assoc, ← e2, List.drop_left]
    rfl
  unfold ldv
  rw [if_pos ⟨.inr (.inr rfl), by omega, by omega, by omega, by rw [memL_len xs h]; omega⟩]
  rw [show (4 * (k : Int)).toNat = 4 * k by omega, show (4 : Int).toNat = 4 from rfl, hd, Img.lev_four _ (wd_lo _) (wd_hi _)]
theorem and_ie (i : Nat) (h : i ≤ 7) : bits .and .i64 0 i = 0 ∧ bits .and .i64 1 i = (i : Int) % 2 := by
  have h2 : ∀ i : Nat, i < 8 → bits .and .i64 0 (i : Int) = 0 ∧ bits .and .i64 1 (i : Int) = (i : Int) % 2 := by decide +kernel
  exact h2 i (by omega)
section
variable {c i o : Nat}
theorem tm_word (j : Nat) (x : Int) (hj : j < 17) (h : (tmW c i o).getD j 0 = x) (h0 : 0 ≤ x) (h1 : x ≤ 4294967295) : ldv (memL (tmW c i o)) (4 * (j : Int)) 4 = x := by
  rw [memL_word _ (by rw [tmW_len]; decide) j (by rw [tmW_len]; exact hj), h, wd_eq _ h0 h1]
theorem tm_eight (hc : c ≤ 300) (hi : i ≤ 7) (ho : o ≤ 1) : ∃ ip, ∀ k : Nat, ((tm (memL (tmW c i o)) 0 0 4 0 0 0 0 0 0 0).run (k + 8)).2 = ((tm (memL (tmW c i o)) o 32 (4 + o) 64 0 0 8 c ip i).run k).2 := by
  have hM : (memL (tmW c i o)).length = 4096 := memL_len _ (by rw [tmW_len]; decide)
  have s : ∀ b, tkb 4 b = false := fun b => by unfold tkb; rw [if_pos (.inl ⟨by decide, by decide⟩)]
  have w0 : ldv (memL (tmW c i o)) 0 4 = 303038464 + (c : Int) := tm_word 0 _ (by decide) rfl (by omega) (by omega)
  have w1 : ldv (memL (tmW c i o)) 4 4 = 1158676480 + ((8 : Nat) : Int) := tm_word 1 _ (by decide) rfl (by omega) (by omega)
  have w2 : ldv (memL (tmW c i o)) 8 4 = 303038464 + (i : Int) := tm_word 2 _ (by decide) rfl (by omega) (by omega)
  have w3 : ldv (memL (tmW c i o)) 12 4 = 1158676480 + ((10 : Nat) : Int) := tm_word 3 _ (by decide) rfl (by omega) (by omega)
  have w4 : ldv (memL (tmW c i o)) 16 4 = 303038464 + ((64 : Nat) : Int) := tm_word 4 _ (by decide) rfl (by omega) (by omega)
  have w5 : ldv (memL (tmW c i o)) 20 4 = 1158676480 + ((1 : Nat) : Int) := tm_word 5 _ (by decide) rfl (by omega) (by omega)
  have w6 : ldv (memL (tmW c i o)) 24 4 = 303038464 + (o : Int) := tm_word 6 _ (by decide) rfl (by omega) (by omega)
  have w7 : ldv (memL (tmW c i o)) 28 4 = 1158676480 + ((0 : Nat) : Int) := tm_word 7 _ (by decide) rfl (by omega) (by omega)
  generalize memL (tmW c i o) = M at *
  have h1 : ∀ p, (tm M 0 0 4 0 0 0 0 0 p 0).step 0 4294967295 = tm M c 4 4 0 0 0 1 0 (pnd 0 0 0 0) 0 := fun p => tm_ori hM (by decide) (by decide) (by decide) c hc w0 (by decide) (s _) (by decide) (by decide)
  have h2 : ∀ p, (tm M c 4 4 0 0 0 1 0 p 0).step 0 4294967295 = tm M c 8 4 0 0 0 2 c (pnd 1 0 0 0) 0 := fun p => (tm_csrw hM (by decide) (by decide) (by decide) 8 (by decide) w1 (by decide) (s _)).trans (by
    show tm M c (wd (4 + 4)) 4 0 0 0 (wd (1 + 1)) (wr (Go.Proofs.YtfcmodllbhpniaaGreatDoor.mk 8) 0 c) (pnd 1 0 0 0) 0 = _
    rw [wr_cmp c hc]; rfl)
  have h3 : ∀ p, (tm M c 8 4 0 0 0 2 c p 0).step 0 4294967295 = tm M i 12 4 0 0 0 3 c (pnd 2 c 0 0) 0 := fun p => tm_ori hM (by decide) (by decide) (by decide) i (by omega) w2 (by decide) (s _) (by decide) (by decide)
  have h4 : ∀ p, (tm M i 12 4 0 0 0 3 c p 0).step 0 4294967295 = tm M i 16 4 0 0 0 4 c (pnd 3 c 0 0) i := fun p => (tm_csrw hM (by decide) (by decide) (by decide) 10 (by decide) w3 (by decide) (s _)).trans (by
    show tm M i (wd (12 + 4)) 4 0 0 0 (wd (3 + 1)) c (pnd 3 c 0 0) (wr (Go.Proofs.YtfcmodllbhpniaaGreatDoor.mk 10) 0 i) = _
    rw [wr_ien i hi]; rfl)
  have h5 : ∀ p, (tm M i 16 4 0 0 0 4 c p i).step 0 4294967295 = tm M 64 20 4 0 0 0 5 c (pnd 4 c 0 0) i := fun p => tm_ori hM (by decide) (by decide) (by decide) 64 (by omega) w4 (by decide) (s _) (by decide) (by decide)
  have h6 : ∀ p, (tm M 64 20 4 0 0 0 5 c p i).step 0 4294967295 = tm M 64 24 4 64 0 0 6 c (pnd 5 c 0 0) i := fun p => (tm_csrw hM (by decide) (by decide) (by decide) 1 (by decide) w5 (by decide) (s _)).trans (by
    show tm M 64 (wd (20 + 4)) 4 (wr (Go.Proofs.YtfcmodllbhpniaaGreatDoor.mk 1) 0 64) 0 0 (wd (5 + 1)) c (pnd 5 c 0 0) i = _
    rw [wr_tvec]; rfl)
  have h7 : ∀ p, (tm M 64 24 4 64 0 0 6 c p i).step 0 4294967295 = tm M o 28 4 64 0 0 7 c (pnd 6 c 0 0) i := fun p => tm_ori hM (by decide) (by decide) (by decide) o (by omega) w6 (by decide) (s _) (by decide) (by decide)
  have h8 : ∀ p, (tm M o 28 4 64 0 0 7 c p i).step 0 4294967295 = tm M o 32 (4 + o) 64 0 0 8 c (pnd 7 c 0 0) i := fun p => (tm_csrw hM (by decide) (by decide) (by decide) 0 (by decide) w7 (by decide) (s _)).trans (by
    show tm M o (wd (28 + 4)) (wr (Go.Proofs.YtfcmodllbhpniaaGreatDoor.mk 0) 4 o) 64 0 0 (wd (7 + 1)) c (pnd 7 c 0 0) i = _
    rw [wr_st o ho]; rfl)
  refine ⟨pnd 7 c 0 0, fun k => ?_⟩
  rw [run2 rfl (k + 7), h1, run2 rfl (k + 6), h2, run2 rfl (k + 5), h3, run2 rfl (k + 4), h4, run2 rfl (k + 3), h5, run2 rfl (k + 2), h6, run2 rfl (k + 1), h7, run2 rfl k, h8]
/-- When the law looks. -/
abbrev want (c : Nat) : Nat := if c < 8 then 8 else c
theorem tm_want (hc : c ≤ 300) (hi : i ≤ 7) (ho : o ≤ 1) : ∃ ip, ((tm (memL (tmW c i o)) 0 0 4 0 0 0 0 0 0 0).run (want c)).2 = tm (memL (tmW c i o)) o 32 (4 + o) 64 0 0 (want c : Nat) c ip i := by
  obtain ⟨ip, h⟩ := tm_eight hc hi ho
  have hM : (memL (tmW c i o)).length = 4096 := memL_len _ (by rw [tmW_len]; decide)
  obtain ⟨ip', h'⟩ := tm_loop (M := memL (tmW c i o)) (r := o) (st := 4 + o) (tv := 64) (ep := 0) (ca := 0) (cm := c) (ie := i) hM (tm_word 8 _ (by decide) rfl (by decide) (by decide)) (by omega) (want c - 8) 8 ip (by decide) (by unfold want; split <;> omega) (fun j h1 h2 => by
    have hz : pnd j c 0 0 = 0 := by
      rw [pnd_tm, wd_eq (c : Int) (by omega) (by omega), wd_eq j (by omega) (by unfold want at h2; split at h2 <;> omega), if_neg]
      unfold want at h2; split at h2 <;> omega
    rw [hz, (and_ie i hi).1]
    unfold tkb
    rw [if_pos (.inr (by decide))])
  have e : want c = want c - 8 + 8 := by unfold want; split <;> omega
  refine ⟨ip', ?_⟩
  conv => lhs; rw [e]
  rw [h, h']
  have : (8 : Int) + ((want c - 8 : Nat) : Int) = (want c : Nat) := by unfold want; split <;> omega
  rw [this]
theorem tm_stays (hc : c ≤ 300) (hi : i ≤ 7) (ho : o ≤ 1) (hq : c = 0 ∨ i % 2 = 0 ∨ o = 0) (ip : Int) : ∃ ip', ((tm (memL (tmW c i o)) o 32 (4 + o) 64 0 0 (want c : Nat) c ip i).run 1).2 = tm (memL (tmW c i o)) o 32 (4 + o) 64 0 0 ((want c : Nat) + 1) c ip' i := by
  have hM : (memL (tmW c i o)).length = 4096 := memL_len _ (by rw [tmW_len]; decide)
  have hw : want c ≤ 300 := by unfold want; split <;> omega
  refine tm_loop hM (tm_word 8 _ (by decide) rfl (by decide) (by decide)) (by omega) 1 (want c : Nat) ip (by omega) (by omega) (fun j h1 h2 => ?_)
  obtain rfl : j = (want c : Nat) := by omega
  unfold tkb
  rw [if_pos]
  rcases hq with rfl | hq | rfl
  · right
    rw [pnd_tm, if_neg (fun h => h.1 (by decide)), (and_ie i hi).1]; decide
  · right
    have hz : bits .and .i64 (pnd (want c : Nat) c 0 0) i = 0 := by
      rw [pnd_tm]
      split
      · rw [(and_ie i hi).2]; omega
      · exact (and_ie i hi).1
    rw [hz]; decide
  · left; exact ⟨by decide, by decide⟩
theorem tm_comes (hc : c ≤ 300) (hi : i ≤ 7) (h0 : c ≠ 0) (h1 : i % 2 ≠ 0) (ip : Int) : ∃ ip', ((tm (memL (tmW c i 1)) (1 : Nat) 32 (4 + (1 : Nat)) 64 0 0 (want c : Nat) c ip i).run 1).2 = tm (memL (tmW c i 1)) (1 : Nat) 64 14 64 32 2147483648 ((want c : Nat) + 1) c ip' i := by
  have hw : want c ≤ 300 ∧ c ≤ want c := by unfold want; split <;> omega
  have hz : bits .and .i64 (pnd (want c : Nat) c 0 0) i = 1 := by
    rw [pnd_tm, wd_eq (c : Int) (by omega) (by omega), wd_eq ((want c : Nat) : Int) (by omega) (by omega), if_pos (by omega), (and_ie i hi).2]; omega
  refine ⟨pnd (want c : Nat) c 0 0, ?_⟩
  rw [run2 rfl 0]
  exact (congrArg (fun m => (Ma.run 0 m).2) (tm_take (by rw [hz]; decide) (by rw [hz]; decide) (by omega) (by omega)))
end
end Go.Proofs.YtfcmodllbhpniaaGreatDoor
