/-
  Package config: the reader's config, where sixteen bytes are there .
-/
import Derived.Test.YtogbhgbnminpdaaDoorJnRdJkl
set_option linter.unusedVariables false
set_option maxRecDepth 100000
set_option linter.unusedVariables false
namespace Go.Proofs.YtogbhgbnminpdaaDoor.Pck
open Go.Proofs.YtogbhgbnminpdaaDoor Go.Proofs.YtogbhgbnminpdaaDoor.Ser Go.Proofs.YtogbhgbnminpdaaDoor.Img Go.Proofs.YtogbhgbnminpdaaDoor.Cfg
open Go.ChangeShapes Go.WideShapes Go.ChangeAt Go.RowKit
set_option linter.unusedVariables false
theorem cg_new {w : World} {h : Nat} (hh : w.heap.size = h) (a b d : Int) : Cg h (w.alloc (.cells #[i64 a, i64 b, i64 d, .slice none 0 0, .slice none 0 0, .slice none 0 0] 26)) h ⟨a, b, d, [], [], []⟩ (.slice none 0 0) (.slice none 0 0) (.slice none 0 0) := by
  subst hh
  exact cg_of (w0 := w) ⟨(Below.refl _ _).alloc (Nat.le_refl _) _, Nat.le_refl _, heap_alloc_new _ _, ownS_nil _ _ _ _, ownS_nil _ _ _ _, ownS_nil _ _ _ _, ⟨(fun e => by cases e), (fun e => by cases e), (fun e => by cases e)⟩, fun g => ⟨(fun e => by cases e), (fun e => by cases e)⟩⟩
theorem part_or {B : Nat} {w0 w : World} {g : Nat} {R : List Int} (r : Rd B w0 w g R) (hb : Byt R) :
    Calls Tryd.prog 50 #[.pointer (some ⟨g, 0, none⟩)] w fun e w' => (∃ a R', rdP R = some (a, R') ∧ e = .returned (.agg #[.string a.name, i64 a.pages, i64 a.act]) ∧ Rd B w0 w' g R') ∨ (rdP R = none ∧ e = giveUp ∧ Oth g w0 w') := by
  refine (part_says r hb).mono fun e w' h => ?_
  cases hp : rdP R with
  | none => rw [hp] at h; exact .inr ⟨rfl, h⟩
  | some aR => obtain ⟨a, R'⟩ := aR; rw [hp] at h; exact .inl ⟨a, R', rfl, h⟩
theorem num_or {B : Nat} {w0 u : World} {g : Nat} {R : List Int} (hb : Byt R) (i : Nat) (hi : i ≤ R.length) (r : Rd B w0 u g (R.drop i)) :
    Calls Tryd.prog 48 #[.pointer (some ⟨g, 0, none⟩)] u fun e w' => (i + 4 ≤ R.length ∧ e = .returned (i64 (lv (R.drop i))) ∧ Rd B w0 w' g (R.drop (i + 4)) ∧ Oth g u w') ∨ (R.length < i + 4 ∧ e = giveUp ∧ Oth g u w') := by
  by_cases h : i + 4 ≤ R.length
  · exact (num_at hb i h r).mono fun e w' a => .inl ⟨h, a.1, a.2.1, a.2.2⟩
  · exact (number_no r (by rw [List.length_drop]; omega)).mono fun e w' a => .inr ⟨by omega, a.1, a.2 ▸ Oth.refl _ _⟩
/-- The reader gives up. -/
theorem gone {w0 w w' : World} {g : Nat} {b : List Int} (o : Oth g w0 w') (h : rdC b = none) : ReadBy w0 w g b giveUp w' := ⟨o, by rw [h]⟩
set_option maxHeartbeats 4000000 in
theorem config_long {B : Nat} {w0 w : World} {g : Nat} {b : List Int} (r : Rd B w0 w g b) (hb : Byt b) (hs : 16 ≤ b.length) :
    Calls Tryd.prog 31 #[.pointer (some ⟨g, 0, none⟩)] w (ReadBy w0 w g b) := by
  obtain ⟨q, hq⟩ : ∃ q, q = ReadBy w0 w g b := ⟨_, rfl⟩
  rw [← hq]
  have HQ := Lib.hid hq
  have HN := Lib.hid (fun (i : Nat) (u : World) (hi : i + 4 ≤ b.length) (r : Rd B w0 u g (b.drop i)) => num_at hb i hi r)
  have HB := Lib.hid hb
  obtain ⟨h, hh⟩ : ∃ h, w.heap.size = h := ⟨_, rfl⟩
  have HWW := Lib.hid (by rw [← hh]; exact r.b.size : w0.heap.size ≤ h)
  have hgh : g < h := by rw [← hh]; exact r.lt
  obtain ⟨w1, hw1⟩ : ∃ w1, w1 = w.alloc (.cells #[.int .i64 0, .int .i64 0, .int .i64 0, .slice none 0 0, .slice none 0 0, .slice none 0 0] 26) := ⟨_, rfl⟩
  have hR1 : Hid (Rd B w0 w1 g b) := Lib.hid (by rw [hw1]; exact r.kept ((Below.refl _ _).alloc (Nat.le_refl _) _))
  have K1 := Lib.hid (by rw [hw1, ← hh]; exact heap_alloc_new _ _ : w1.heap[h]? = some (.cells #[.int .i64 0, .int .i64 0, .int .i64 0, .slice none 0 0, .slice none 0 0, .slice none 0 0] 26))
  clear r hq hb
  go_enter Tryd.func31, Tryd.ntmps31
  go_wp2_with fail
  rw [← hw1]
  go_at_call 47
  refine (take_ok hR1.out.re 4 (by omega)).mono ?_
  rintro e w2 ⟨p, c, rfl, -, hr⟩
  have hR2 := Lib.hid (hr.from hR1.out.b)
  have K2 := Lib.hid ((hr.b.block h (Array.getElem?_eq_some_iff.1 K1.out).1 (by omega)).trans K1.out)
  clear hr hw1 hR1 K1
  go_wp2_with fail
  go_at_call 48
  refine (HN.out 4 w2 (by omega) hR2.out).mono ?_
  rintro e w3 ⟨rfl, hr, ho⟩
  have hR3 := Lib.hid hr
  have K3 := Lib.hid ((ho.block h (Array.getElem?_eq_some_iff.1 K2.out).1 (by omega)).trans K2.out)
  clear hr ho hR2 K2
  obtain ⟨n4, e4⟩ : ∃ n, lv (b.drop 4) = n := ⟨_, rfl⟩
  rw [e4]
  go_wp2_with fail
  go_at_call 48
  refine (HN.out 8 w3 (by omega) hR3.out).mono ?_
  rintro e w4 ⟨rfl, hr, ho⟩
  have hR4 := Lib.hid hr
  have K4 := Lib.hid ((ho.block h (Array.getElem?_eq_some_iff.1 K3.out).1 (by omega)).trans K3.out)
  clear hr ho hR3 K3
  obtain ⟨n8, e8⟩ : ∃ n, lv (b.drop 8) = n := ⟨_, rfl⟩
  rw [e8]
  go_wp2_with fail
  go_at_call 48
  refine (HN.out 12 w4 (by omega) hR4.out).mono ?_
  rintro e w5 ⟨rfl, hr, ho⟩
  have hR5 := Lib.hid hr
  have K5 := Lib.hid ((ho.block h (Array.getElem?_eq_some_iff.1 K4.out).1 (by omega)).trans K4.out)
  clear hr ho hR4 K4 HN
  obtain ⟨n12, e12⟩ : ∃ n, lv (b.drop 12) = n := ⟨_, rfl⟩
  rw [e12]
  obtain ⟨h2, hh2⟩ : ∃ h2, w5.heap.size = h2 := ⟨_, rfl⟩
  go_upto_region 3 with fail
  have hgh2 : g < h2 := by rw [← hh2]; exact hR5.out.lt
  have hhh2 : h < h2 := by rw [← hh2]; exact (Array.getElem?_eq_some_iff.1 K5.out).1
  obtain ⟨w6, hw6⟩ : ∃ w6, w6 = w5.alloc (.cells #[.int .i64 n4, .int .i64 n8, .int .i64 n12, .slice none 0 0, .slice none 0 0, .slice none 0 0] 26) := ⟨_, rfl⟩
  have C6 := Lib.hid (by rw [hw6]; exact cg_new hh2 n4 n8 n12 : Cg h2 w6 h2 ⟨n4, n8, n12, [], [], []⟩ (.slice none 0 0) (.slice none 0 0) (.slice none 0 0))
  have bw6 : Below h2 w5 w6 := by rw [hw6, ← hh2]; exact (Below.refl _ _).alloc (Nat.le_refl _) _
  have hR6 : Rd B w0 w6 g (b.drop 16) := hR5.out.kept (by rw [hh2]; exact bw6)
  have K6 := Lib.hid ((bw6.block h hhh2).trans K5.out)
  rw [← hw6]
  have HW0 := Lib.hid (by rw [← hh2]; exact hR5.out.b.size : w0.heap.size ≤ h2)
  clear hw6 bw6 hR5 K5
  have hw0h : w0.heap.size ≤ h2 := by have := HW0.out; omega
  go_cut [14, 15] from 16 (fun n i wx => ∃ m : Nat, n = .int .i64 m ∧ i = .int .i64 0 ∧ m ≤ 8 ∧ row rdP 8 (b.drop 16) = many rdP m (b.drop 20) ∧ Rd B w0 wx g (b.drop 20) ∧ Cg h2 wx h2 ⟨n4, n8, n12, [], [], []⟩ (.slice none 0 0) (.slice none 0 0) (.slice none 0 0) ∧ wx.heap[h]? = some (.cells #[.int .i64 0, .int .i64 0, .int .i64 0, .slice none 0 0, .slice none 0 0, .slice none 0 0] 26))
  case first =>
    go_wp2_with fail
    go_at_call 49
    refine (count_says hR6.re (byt_drop HB.out 16) 8).mono ?_
    rintro e w7 (⟨hl1, hm1, rfl, hr⟩ | ⟨hno, rfl, ho⟩)
    rotate_left
    · exact ⟨rfl, by rw [HQ.out]; exact gone (hR6.b.trans ho) (rdC_none1 (row_no _ _ _ hno))⟩
    have C7 := Lib.hid (C6.out.oth hr.b hgh2)
    have K7 := Lib.hid ((hr.b.block h (Array.getElem?_eq_some_iff.1 K6.out).1 (by omega)).trans K6.out)
    have hR7 := Lib.hid (hr.from hR6.b)
    have hrow := Lib.hid (row_many rdP 8 _ hl1 hm1)
    have hv := lv_i (byt_drop HB.out 16)
    obtain ⟨m, hm⟩ := Int.eq_ofNat_of_zero_le hv.1
    rw [hm]
    clear hr C6 K6
    go_wp2_with fail
    go_meet
    case rel => exact ⟨m, rfl, rfl, by omega, by rw [hrow.out, hm, Int.toNat_natCast, List.drop_drop], by have := hR7.out; rw [List.drop_drop] at this; exact this, C7.out, K7.out⟩
  case rest =>
    obtain ⟨m, rfl, rfl, hm8, hrow, r7, C7, K7⟩ := hcut
    refine ‹∀ (a : Act) (w : World), Code.wp _ _ _ a w → _› _ _ ?_
    go_cut [] from 4 (fun wx => ∃ l R1 v1, row rdP 8 (b.drop 16) = some (l, R1) ∧ Rd B w0 wx g R1 ∧ Byt R1 ∧ Cg h2 wx h2 ⟨n4, n8, n12, l, [], []⟩ v1 (.slice none 0 0) (.slice none 0 0) ∧ wx.heap[h]? = some (.cells #[.int .i64 0, .int .i64 0, .int .i64 0, .slice none 0 0, .slice none 0 0, .slice none 0 0] 26))
    case first =>
      go_wp2_with fail
      go_loopw [15] (fun i wr => ∃ k : Nat, k ≤ m ∧ i = .int .i64 k ∧ ∃ l R1 v1, many rdP k (b.drop 20) = some (l, R1) ∧ Rd B w0 wr g R1 ∧ Cg h2 wr h2 ⟨n4, n8, n12, l, [], []⟩ v1 (.slice none 0 0) (.slice none 0 0) ∧ wr.heap[h]? = some (.cells #[.int .i64 0, .int .i64 0, .int .i64 0, .slice none 0 0, .slice none 0 0, .slice none 0 0] 26)) (fun i _ => m - (intOf i).toNat)
      case atStart => exact ⟨0, Nat.zero_le _, rfl, [], _, _, rfl, r7, C7, K7⟩
      case round =>
        obtain ⟨k, hk, rfl, l, R1, v1, hmany, r1, C1, K1⟩ := hrel
        have q1 := many_all (Q := fun _ => True) (fun R a R' hb h => ⟨trivial, (rdP_all R a R' hb h).2⟩) k _ _ _ (byt_drop HB.out 20) hmany
        by_cases hkm : k < m
        · have hkI : (k : Int) < (m : Int) := by omega
          have hkb : k < 8 := by omega
          have hbR := q1.2.1
          have hlk := q1.2.2
          obtain ⟨p1, c1, e1, -, -, -⟩ := ownS_form C1.own1
          obtain ⟨n1, hn1⟩ : ∃ n1, (l.map ptC).length = n1 := ⟨_, rfl⟩
          have hl1 : n1 = l.length := by rw [← hn1, List.length_map]
          have e1' : v1 = .slice p1 n1 c1 := by rw [← hn1]; exact e1
          subst e1'
          clear e1
          have hRd := Lib.hid (r1.kept (Below.refl _ _).drew : Rd B w0 wr.drew g R1)
          have hCd := Lib.hid (C1.oth (oth_below (Below.refl _ _).drew) hgh2 : Cg h2 wr.drew h2 ⟨n4, n8, n12, l, [], []⟩ (.slice p1 n1 c1) (.slice none 0 0) (.slice none 0 0))
          have z3 := C1.at 3 _ rfl
          have z3d := hCd.out.at 3 _ rfl
          have hKd : wr.drew.heap[h]? = some (.cells #[.int .i64 0, .int .i64 0, .int .i64 0, .slice none 0 0, .slice none 0 0, .slice none 0 0] 26) := K1
          replace hKd := Lib.hid hKd
          have HG := Lib.hid (fun (u : World) (ho : Oth g wr.drew u) (hn : rdP R1 = none) => (by rw [HQ.out]; exact gone (hRd.out.b.trans ho) (rdC_none1 ((hrow.trans (many_not hmany hn hkm)))) : q giveUp u))
          have HD := Lib.hid (fun (a : _) (R' : List Int) (ha : rdP R1 = some (a, R')) => many_yes hmany ha)
          have hsb := Lib.hid r1
          clear r1 C1 K1 r7 C7 K7 hmany hrow q1
          have SZ := Lib.hid (by omega : (l.map ptC).length + 1 ≤ 1000000)
          clear hl1 hlk hn1
          have HP := Lib.hid (part_or hRd.out.re hbR)
          have HZ := Lib.hid (fun (a : Pt) (R' : List Int) (w2 : World) (hr : Rd B wr.drew w2 g R') => (⟨(hCd.out.oth hr.b hgh2).at 3 _ rfl, ((hCd.out.oth hr.b hgh2).oth (oth_below (below_alloc w2 (.cells #[.string a.name, .int .i64 a.pages, .int .i64 a.act] 47))) hgh2).at 3 _ rfl, (hCd.out.oth hr.b hgh2).oth (oth_below (below_alloc w2 (.cells #[.string a.name, .int .i64 a.pages, .int .i64 a.act] 47))) hgh2, src_new w2 3 [Value.string a.name, .int .i64 a.pages, .int .i64 a.act] _, ((hr.from hRd.out.b).kept (below_alloc _ _)), ((below_alloc w2 (.cells #[.string a.name, .int .i64 a.pages, .int .i64 a.act] 47)).block h (Nat.lt_of_lt_of_le (Array.getElem?_eq_some_iff.1 hKd.out).1 hr.b.size)).trans ((hr.b.block h (Array.getElem?_eq_some_iff.1 hKd.out).1 (by omega)).trans hKd.out)⟩ :
            w2.cell? ⟨h2, 3, none⟩ = some (.slice p1 n1 c1) ∧ (w2.alloc (.cells #[.string a.name, .int .i64 a.pages, .int .i64 a.act] 47)).cell? ⟨h2, 3, none⟩ = some (.slice p1 n1 c1) ∧ (Cg h2 (w2.alloc (.cells #[.string a.name, .int .i64 a.pages, .int .i64 a.act] 47)) h2 ⟨n4, n8, n12, l, [], []⟩ (.slice p1 n1 c1) (.slice none 0 0) (.slice none 0 0)) ∧ SrcS 3 (w2.alloc (.cells #[.string a.name, .int .i64 a.pages, .int .i64 a.act] 47)) (some ⟨w2.heap.size, 0, none⟩) [[Value.string a.name, .int .i64 a.pages, .int .i64 a.act]] ∧ Rd B w0 (w2.alloc (.cells #[.string a.name, .int .i64 a.pages, .int .i64 a.act] 47)) g R' ∧ (w2.alloc (.cells #[.string a.name, .int .i64 a.pages, .int .i64 a.act] 47)).heap[h]? = some (.cells #[.int .i64 0, .int .i64 0, .int .i64 0, .slice none 0 0, .slice none 0 0, .slice none 0 0] 26)))
          have HA := Lib.hid (fun (a : Pt) (R' : List Int) (u : World) (CN : Cg h2 u h2 ⟨n4, n8, n12, l, [], []⟩ (.slice p1 n1 c1) (.slice none 0 0) (.slice none 0 0)) (RN : Rd B w0 u g R') (KN : u.heap[h]? = some (.cells #[.int .i64 0, .int .i64 0, .int .i64 0, .slice none 0 0, .slice none 0 0, .slice none 0 0] 26)) v' w4 (o4 : OwnS 47 3 w4 h2 v' (l.map ptC ++ [[Value.string a.name, .int .i64 a.pages, .int .i64 a.act]])) (b4 : Below h2 u w4) (g4 : u.grownBy w4 (Value.slice p1 n1 c1).ownBlock) (hv : v'.ownBlock = (Value.slice p1 n1 c1).ownBlock ∨ v'.ownBlock = some u.heap.size) =>
            (⟨(by rw [World.cell?_of_block (g4.block h2 CN.2.lt (fun e => CN.2.ne.1 e.symm))]; exact CN.at 3 _ rfl), (by have hq := (g4.block h2 CN.2.lt (fun e => CN.2.ne.1 e.symm)).trans CN.2.hd; simp [World.frozen?, hq]), CN.app1 (l := l ++ [a]) (by rw [List.map_append]; exact o4) g4 hv, RN.past (below_setC b4 h2 3 (Nat.le_refl _) v') hgh2 hw0h, ((below_setC b4 h2 3 (Nat.le_refl _) v').block h hhh2).trans KN⟩ :
              w4.cell? ⟨h2, 3, none⟩ = some (.slice p1 n1 c1) ∧ w4.frozen? ⟨h2, 3, none⟩ = false ∧ (Cg h2 (w4.setCell ⟨h2, 3, none⟩ v') h2 ⟨n4, n8, n12, (l ++ [a]), [], []⟩ v' (.slice none 0 0) (.slice none 0 0)) ∧ Rd B w0 (w4.setCell ⟨h2, 3, none⟩ v') g R' ∧ (w4.setCell ⟨h2, 3, none⟩ v').heap[h]? = some (.cells #[.int .i64 0, .int .i64 0, .int .i64 0, .slice none 0 0, .slice none 0 0, .slice none 0 0] 26)))
          clear hCd hKd hRd hsb hbR
          go_wp2_with fail
          go_region_law (first | (rw [if_pos (by simp [Region.wanted])]; go_simp; go_at_call 50; (with_reducible refine HP.out.mono ?_); rintro e wn (⟨a, R', ha, rfl, hr⟩ | ⟨hno, rfl, ho⟩); rotate_left; exact (And.intro rfl (HG.out _ ho hno)); have hD := Lib.hid (HD.out a R' ha); have hz := HZ.out a R' wn hr; clear hr; obtain ⟨z3w, z3n, CN', SN', RN', KN'⟩ := hz; have CN := Lib.hid CN'; have SN := Lib.hid SN'; have RN := Lib.hid RN'; have KN := Lib.hid KN'; clear CN' SN' RN' KN') | (refine step_appS kdP rfl _ _ rfl CN.out.size (v1 := .slice p1 n1 c1) (R1 := l.map ptC) rfl CN.out.own1 (p := some ⟨wn.heap.size, 0, none⟩) (m := 1) (c := 1) [[Value.string a.name, .int .i64 a.pages, .int .i64 a.act]] (even_pt [a]) rfl rfl (fun e => by cases e) SN.out SZ.out ?_; intro v' w4 o4 b4 g4 hv; obtain ⟨k1, k2, C4, R4, K4⟩ := HA.out a R' _ CN.out RN.out KN.out v' w4 o4 b4 g4 hv; obtain ⟨p5, c5, e5, -, -, -⟩ := ownS_form o4; obtain ⟨n5, hn5⟩ : ∃ n5, (l.map ptC ++ [[Value.string a.name, .int .i64 a.pages, .int .i64 a.act]]).length = n5 := ⟨_, rfl⟩; rw [hn5] at e5; clear hn5 o4 b4 g4 hv; subst e5; have HC := Lib.hid C4; have HR := Lib.hid R4; have HK := Lib.hid K4; clear C4 R4 K4))
          all_goals
            go_wp2
            go_roundw
            case rel => exact ⟨k + 1, hkm, by go_num, _, _, _, hD.out, HR.out, HC.out, HK.out⟩
            case measure => simp [intOf]; omega
        · have hjm : k = m := by omega
          subst hjm
          have HE := Lib.hid (⟨l, R1, v1, hrow.trans hmany, r1, q1.2.1, C1, K1⟩ : ∃ l R1 v1, row rdP 8 (b.drop 16) = some (l, R1) ∧ Rd B w0 wr g R1 ∧ Byt R1 ∧ Cg h2 wr h2 ⟨n4, n8, n12, l, [], []⟩ v1 (.slice none 0 0) (.slice none 0 0) ∧ wr.heap[h]? = some (.cells #[.int .i64 0, .int .i64 0, .int .i64 0, .slice none 0 0, .slice none 0 0, .slice none 0 0] 26))
          clear q1 hmany r1 C1 K1 hrow
          go_wp2
          go_meet
          case rel => exact HE.out
    case rest =>
      obtain ⟨lp, Rp, vp, hrow1, r1, b1, C6, K6⟩ := hcut
      replace C6 := Lib.hid C6
      replace K6 := Lib.hid K6
      replace b1 := Lib.hid b1
      refine ‹∀ (a : Act) (w : World), Code.wp _ _ _ a w → _› _ _ ?_
      go_upto_region 7 with fail
      go_cut [26, 27] from 28 (fun n i wx => ∃ m : Nat, n = .int .i64 m ∧ i = .int .i64 0 ∧ m ≤ 16 ∧ row rdCh 16 Rp = many rdCh m (Rp.drop 4) ∧ Rd B w0 wx g (Rp.drop 4) ∧ Cg h2 wx h2 ⟨n4, n8, n12, lp, [], []⟩ vp (.slice none 0 0) (.slice none 0 0) ∧ wx.heap[h]? = some (.cells #[.int .i64 0, .int .i64 0, .int .i64 0, .slice none 0 0, .slice none 0 0, .slice none 0 0] 26))
      case first =>
        go_wp2_with fail
        go_at_call 49
        refine (count_says r1.re (b1.out) 16).mono ?_
        rintro e w7 (⟨hl1, hm1, rfl, hr⟩ | ⟨hno, rfl, ho⟩)
        rotate_left
        · exact ⟨rfl, by rw [HQ.out]; exact gone (r1.b.trans ho) (rdC_none2 hrow1 (row_no _ _ _ hno))⟩
        have C7 := Lib.hid (C6.out.oth hr.b hgh2)
        have K7 := Lib.hid ((hr.b.block h (Array.getElem?_eq_some_iff.1 K6.out).1 (by omega)).trans K6.out)
        have hR7 := Lib.hid (hr.from r1.b)
        have hrow := Lib.hid (row_many rdCh 16 _ hl1 hm1)
        have hv := lv_i (b1.out)
        obtain ⟨m, hm⟩ := Int.eq_ofNat_of_zero_le hv.1
        rw [hm]
        clear hr C6 K6
        go_wp2_with fail
        go_meet
        case rel => exact ⟨m, rfl, rfl, by omega, by rw [hrow.out, hm, Int.toNat_natCast], by have := hR7.out; exact this, C7.out, K7.out⟩
      case rest =>
        obtain ⟨m, rfl, rfl, hm8, hrow, r7, C7, K7⟩ := hcut
        refine ‹∀ (a : Act) (w : World), Code.wp _ _ _ a w → _› _ _ ?_
        go_cut [] from 4 (fun wx => ∃ l R1 v1, row rdCh 16 Rp = some (l, R1) ∧ Rd B w0 wx g R1 ∧ Byt R1 ∧ Cg h2 wx h2 ⟨n4, n8, n12, lp, l, []⟩ vp v1 (.slice none 0 0) ∧ wx.heap[h]? = some (.cells #[.int .i64 0, .int .i64 0, .int .i64 0, .slice none 0 0, .slice none 0 0, .slice none 0 0] 26))
        case first =>
          go_wp2_with fail
          go_loopw [27] (fun i wr => ∃ k : Nat, k ≤ m ∧ i = .int .i64 k ∧ ∃ l R1 v1, many rdCh k (Rp.drop 4) = some (l, R1) ∧ Rd B w0 wr g R1 ∧ Cg h2 wr h2 ⟨n4, n8, n12, lp, l, []⟩ vp v1 (.slice none 0 0) ∧ wr.heap[h]? = some (.cells #[.int .i64 0, .int .i64 0, .int .i64 0, .slice none 0 0, .slice none 0 0, .slice none 0 0] 26)) (fun i _ => m - (intOf i).toNat)
          case atStart => exact ⟨0, Nat.zero_le _, rfl, [], _, _, rfl, r7, C7, K7⟩
          case round =>
            obtain ⟨k, hk, rfl, l, R1, v1, hmany, r1, C1, K1⟩ := hrel
            have q1 := many_all (Q := fun _ => True) (fun R a R' hb h => ⟨trivial, (rdCh_all R a R' hb h).2⟩) k _ _ _ (byt_drop b1.out 4) hmany
            by_cases hkm : k < m
            · have hkI : (k : Int) < (m : Int) := by omega
              have hkb : k < 16 := by omega
              have hbR := q1.2.1
              have hlk := q1.2.2
              obtain ⟨p1, c1, e1, -, -, -⟩ := ownS_form C1.own2
              obtain ⟨n1, hn1⟩ : ∃ n1, (l.map chC).length = n1 := ⟨_, rfl⟩
              have hl1 : n1 = l.length := by rw [← hn1, List.length_map]
              have e1' : v1 = .slice p1 n1 c1 := by rw [← hn1]; exact e1
              subst e1'
              clear e1
              have hRd := Lib.hid (r1.kept (Below.refl _ _).drew : Rd B w0 wr.drew g R1)
              have hCd := Lib.hid (C1.oth (oth_below (Below.refl _ _).drew) hgh2 : Cg h2 wr.drew h2 ⟨n4, n8, n12, lp, l, []⟩ vp (.slice p1 n1 c1) (.slice none 0 0))
              have z3 := C1.at 4 _ rfl
              have z3d := hCd.out.at 4 _ rfl
              have hKd : wr.drew.heap[h]? = some (.cells #[.int .i64 0, .int .i64 0, .int .i64 0, .slice none 0 0, .slice none 0 0, .slice none 0 0] 26) := K1
              replace hKd := Lib.hid hKd
              have HG := Lib.hid (fun (u : World) (ho : Oth g wr.drew u) (hn : rdCh R1 = none) => (by rw [HQ.out]; exact gone (hRd.out.b.trans ho) (rdC_none2 hrow1 ((hrow.trans (many_not hmany hn hkm)))) : q giveUp u))
              have HD := Lib.hid (fun (a : _) (R' : List Int) (ha : rdCh R1 = some (a, R')) => many_yes hmany ha)
              have hsb := Lib.hid r1
              clear r1 C1 K1 r7 C7 K7 hmany hrow q1
              have SZ := Lib.hid (by omega : (l.map chC).length + 1 ≤ 1000000)
              clear hl1 hlk hn1
              obtain ⟨a1, ha1⟩ : ∃ a, lv R1 = a := ⟨_, rfl⟩
              obtain ⟨a2, ha2⟩ : ∃ a, lv (R1.drop 4) = a := ⟨_, rfl⟩
              obtain ⟨a3, ha3⟩ : ∃ a, lv (R1.drop 8) = a := ⟨_, rfl⟩
              obtain ⟨a4, ha4⟩ : ∃ a, lv (R1.drop 12) = a := ⟨_, rfl⟩
              obtain ⟨a5, ha5⟩ : ∃ a, lv (R1.drop 16) = a := ⟨_, rfl⟩
              have hD := Lib.hid (fun (hl : 20 ≤ R1.length) => HD.out (⟨a1, a2, a3, a4, a5⟩ : Ch) (R1.drop 20) (by unfold rdCh; rw [if_neg (by omega), ha1, ha2, ha3, ha4, ha5]))
              have HG2 := Lib.hid (fun (u : World) (ho : Oth g wr.drew u) (hl : R1.length < 20) => HG.out u ho (by unfold rdCh; rw [if_pos hl]))
              have HN1 := Lib.hid (fun (u : World) (hi : 0 ≤ R1.length) (r : Rd B wr.drew u g (R1.drop 0)) => (by have := num_or hbR 0 hi r; rw [show lv (R1.drop 0) = a1 from ha1] at this; exact this : Calls Tryd.prog 48 #[.pointer (some ⟨g, 0, none⟩)] u fun e w' => (4 ≤ R1.length ∧ e = .returned (i64 a1) ∧ Rd B wr.drew w' g (R1.drop 4) ∧ Oth g u w') ∨ (R1.length < 4 ∧ e = giveUp ∧ Oth g u w')))
              have HN2 := Lib.hid (fun (u : World) (hi : 4 ≤ R1.length) (r : Rd B wr.drew u g (R1.drop 4)) => (by have := num_or hbR 4 hi r; rw [ha2] at this; exact this : Calls Tryd.prog 48 #[.pointer (some ⟨g, 0, none⟩)] u fun e w' => (8 ≤ R1.length ∧ e = .returned (i64 a2) ∧ Rd B wr.drew w' g (R1.drop 8) ∧ Oth g u w') ∨ (R1.length < 8 ∧ e = giveUp ∧ Oth g u w')))
              have HN3 := Lib.hid (fun (u : World) (hi : 8 ≤ R1.length) (r : Rd B wr.drew u g (R1.drop 8)) => (by have := num_or hbR 8 hi r; rw [ha3] at this; exact this : Calls Tryd.prog 48 #[.pointer (some ⟨g, 0, none⟩)] u fun e w' => (12 ≤ R1.length ∧ e = .returned (i64 a3) ∧ Rd B wr.drew w' g (R1.drop 12) ∧ Oth g u w') ∨ (R1.length < 12 ∧ e = giveUp ∧ Oth g u w')))
              have HN4 := Lib.hid (fun (u : World) (hi : 12 ≤ R1.length) (r : Rd B wr.drew u g (R1.drop 12)) => (by have := num_or hbR 12 hi r; rw [ha4] at this; exact this : Calls Tryd.prog 48 #[.pointer (some ⟨g, 0, none⟩)] u fun e w' => (16 ≤ R1.length ∧ e = .returned (i64 a4) ∧ Rd B wr.drew w' g (R1.drop 16) ∧ Oth g u w') ∨ (R1.length < 16 ∧ e = giveUp ∧ Oth g u w')))
              have HN5 := Lib.hid (fun (u : World) (hi : 16 ≤ R1.length) (r : Rd B wr.drew u g (R1.drop 16)) => (by have := num_or hbR 16 hi r; rw [ha5] at this; exact this : Calls Tryd.prog 48 #[.pointer (some ⟨g, 0, none⟩)] u fun e w' => (20 ≤ R1.length ∧ e = .returned (i64 a5) ∧ Rd B wr.drew w' g (R1.drop 20) ∧ Oth g u w') ∨ (R1.length < 20 ∧ e = giveUp ∧ Oth g u w')))
              have hR0 := Lib.hid (show Rd B wr.drew wr.drew g (R1.drop 0) from hRd.out.re)
              have HZ := Lib.hid (fun (w2 : World) (hr : Rd B wr.drew w2 g (R1.drop 20)) => (⟨(hCd.out.oth hr.b hgh2).at 4 _ rfl, ((hCd.out.oth hr.b hgh2).oth (oth_below (below_alloc w2 (.cells #[.int .i64 a1, .int .i64 a2, .int .i64 a3, .int .i64 a4, .int .i64 a5] 49))) hgh2).at 4 _ rfl, (hCd.out.oth hr.b hgh2).oth (oth_below (below_alloc w2 (.cells #[.int .i64 a1, .int .i64 a2, .int .i64 a3, .int .i64 a4, .int .i64 a5] 49))) hgh2, src_new w2 5 [Value.int .i64 a1, .int .i64 a2, .int .i64 a3, .int .i64 a4, .int .i64 a5] _, ((hr.from hRd.out.b).kept (below_alloc _ _)), ((below_alloc w2 (.cells #[.int .i64 a1, .int .i64 a2, .int .i64 a3, .int .i64 a4, .int .i64 a5] 49)).block h (Nat.lt_of_lt_of_le (Array.getElem?_eq_some_iff.1 hKd.out).1 hr.b.size)).trans ((hr.b.block h (Array.getElem?_eq_some_iff.1 hKd.out).1 (by omega)).trans hKd.out)⟩ :
                w2.cell? ⟨h2, 4, none⟩ = some (.slice p1 n1 c1) ∧ (w2.alloc (.cells #[.int .i64 a1, .int .i64 a2, .int .i64 a3, .int .i64 a4, .int .i64 a5] 49)).cell? ⟨h2, 4, none⟩ = some (.slice p1 n1 c1) ∧ (Cg h2 (w2.alloc (.cells #[.int .i64 a1, .int .i64 a2, .int .i64 a3, .int .i64 a4, .int .i64 a5] 49)) h2 ⟨n4, n8, n12, lp, l, []⟩ vp (.slice p1 n1 c1) (.slice none 0 0)) ∧ SrcS 5 (w2.alloc (.cells #[.int .i64 a1, .int .i64 a2, .int .i64 a3, .int .i64 a4, .int .i64 a5] 49)) (some ⟨w2.heap.size, 0, none⟩) [[Value.int .i64 a1, .int .i64 a2, .int .i64 a3, .int .i64 a4, .int .i64 a5]] ∧ Rd B w0 (w2.alloc (.cells #[.int .i64 a1, .int .i64 a2, .int .i64 a3, .int .i64 a4, .int .i64 a5] 49)) g (R1.drop 20) ∧ (w2.alloc (.cells #[.int .i64 a1, .int .i64 a2, .int .i64 a3, .int .i64 a4, .int .i64 a5] 49)).heap[h]? = some (.cells #[.int .i64 0, .int .i64 0, .int .i64 0, .slice none 0 0, .slice none 0 0, .slice none 0 0] 26)))
              have HA := Lib.hid (fun (u : World) (CN : Cg h2 u h2 ⟨n4, n8, n12, lp, l, []⟩ vp (.slice p1 n1 c1) (.slice none 0 0)) (RN : Rd B w0 u g (R1.drop 20)) (KN : u.heap[h]? = some (.cells #[.int .i64 0, .int .i64 0, .int .i64 0, .slice none 0 0, .slice none 0 0, .slice none 0 0] 26)) v' w4 (o4 : OwnS 49 5 w4 h2 v' (l.map chC ++ [[Value.int .i64 a1, .int .i64 a2, .int .i64 a3, .int .i64 a4, .int .i64 a5]])) (b4 : Below h2 u w4) (g4 : u.grownBy w4 (Value.slice p1 n1 c1).ownBlock) (hv : v'.ownBlock = (Value.slice p1 n1 c1).ownBlock ∨ v'.ownBlock = some u.heap.size) =>
                (⟨(by rw [World.cell?_of_block (g4.block h2 CN.2.lt (fun e => CN.2.ne.2.1 e.symm))]; exact CN.at 4 _ rfl), (by have hq := (g4.block h2 CN.2.lt (fun e => CN.2.ne.2.1 e.symm)).trans CN.2.hd; simp [World.frozen?, hq]), CN.app2 (l := l ++ [(⟨a1, a2, a3, a4, a5⟩ : Ch)]) (by rw [List.map_append]; exact o4) g4 hv, RN.past (below_setC b4 h2 4 (Nat.le_refl _) v') hgh2 hw0h, ((below_setC b4 h2 4 (Nat.le_refl _) v').block h hhh2).trans KN⟩ :
                  w4.cell? ⟨h2, 4, none⟩ = some (.slice p1 n1 c1) ∧ w4.frozen? ⟨h2, 4, none⟩ = false ∧ (Cg h2 (w4.setCell ⟨h2, 4, none⟩ v') h2 ⟨n4, n8, n12, lp, (l ++ [(⟨a1, a2, a3, a4, a5⟩ : Ch)]), []⟩ vp v' (.slice none 0 0)) ∧ Rd B w0 (w4.setCell ⟨h2, 4, none⟩ v') g (R1.drop 20) ∧ (w4.setCell ⟨h2, 4, none⟩ v').heap[h]? = some (.cells #[.int .i64 0, .int .i64 0, .int .i64 0, .slice none 0 0, .slice none 0 0, .slice none 0 0] 26)))
              have HY := Lib.hid (fun (u : World) (ho : Oth g wr.drew u) => (hCd.out.oth ho hgh2).at 4 _ rfl)
              clear HG HD hCd hKd hRd hsb hbR ha1 ha2 ha3 ha4 ha5
              go_wp2_with fail
              go_region_law (first | (refine step_appS kdC rfl _ _ rfl CN.out.size (v1 := .slice p1 n1 c1) (R1 := l.map chC) rfl CN.out.own2 (p := some ⟨wn.heap.size, 0, none⟩) (m := 1) (c := 1) [[Value.int .i64 a1, .int .i64 a2, .int .i64 a3, .int .i64 a4, .int .i64 a5]] (even_ch [(⟨a1, a2, a3, a4, a5⟩ : Ch)]) rfl rfl (fun e => by cases e) SN.out SZ.out ?_; intro v' w4 o4 b4 g4 hv; obtain ⟨k1, k2, C4, R4, K4⟩ := HA.out _ CN.out RN.out KN.out v' w4 o4 b4 g4 hv; obtain ⟨p5, c5, e5, -, -, -⟩ := ownS_form o4; obtain ⟨n5, hn5⟩ : ∃ n5, (l.map chC ++ [[Value.int .i64 a1, .int .i64 a2, .int .i64 a3, .int .i64 a4, .int .i64 a5]]).length = n5 := ⟨_, rfl⟩; rw [hn5] at e5; clear hn5 o4 b4 g4 hv; subst e5; have HC := Lib.hid C4; have HR := Lib.hid R4; have HK := Lib.hid K4; clear C4 R4 K4) | (rw [if_pos (by simp [Region.wanted])]; go_simp; go_at_call 48; (with_reducible refine (HN5.out _ hl4 hR4.out).mono ?_); rintro e wn (⟨hl5, rfl, hr, ho⟩ | ⟨hno, rfl, ho⟩); rotate_left; exact (And.intro rfl (HG2.out _ (hR4.out.b.trans ho) (by omega))); clear ho; have hz := HZ.out wn hr; clear hr; obtain ⟨z3w, z3n, CN', SN', RN', KN'⟩ := hz; have CN := Lib.hid CN'; have SN := Lib.hid SN'; have RN := Lib.hid RN'; have KN := Lib.hid KN'; clear CN' SN' RN' KN') | (rw [if_pos (by simp [Region.wanted])]; go_simp; go_at_call 48; (with_reducible refine (HN4.out _ hl3 hR3.out).mono ?_); rintro e w4_ (⟨hl4, rfl, hr, ho⟩ | ⟨hno, rfl, ho⟩); rotate_left; exact (And.intro rfl (HG2.out _ (hR3.out.b.trans ho) (by omega))); have hR4 := Lib.hid hr; clear hr ho; have z3_4 := HY.out _ hR4.out.b) | (rw [if_pos (by simp [Region.wanted])]; go_simp; go_at_call 48; (with_reducible refine (HN3.out _ hl2 hR2.out).mono ?_); rintro e w3_ (⟨hl3, rfl, hr, ho⟩ | ⟨hno, rfl, ho⟩); rotate_left; exact (And.intro rfl (HG2.out _ (hR2.out.b.trans ho) (by omega))); have hR3 := Lib.hid hr; clear hr ho; have z3_3 := HY.out _ hR3.out.b) | (rw [if_pos (by simp [Region.wanted])]; go_simp; go_at_call 48; (with_reducible refine (HN2.out _ hl1 hR1.out).mono ?_); rintro e w2_ (⟨hl2, rfl, hr, ho⟩ | ⟨hno, rfl, ho⟩); rotate_left; exact (And.intro rfl (HG2.out _ (hR1.out.b.trans ho) (by omega))); have hR2 := Lib.hid hr; clear hr ho; have z3_2 := HY.out _ hR2.out.b) | (rw [if_pos (by simp [Region.wanted])]; go_simp; go_at_call 48; (with_reducible refine (HN1.out _ (Nat.zero_le _) hR0.out).mono ?_); rintro e w1_ (⟨hl1, rfl, hr, ho⟩ | ⟨hno, rfl, ho⟩); rotate_left; exact (And.intro rfl (HG2.out _ (hR0.out.b.trans ho) (by omega))); have hR1 := Lib.hid hr; clear hr ho; have z3_1 := HY.out _ hR1.out.b))
              all_goals
                go_wp2
                go_roundw
                case rel => exact ⟨k + 1, hkm, by go_num, _, _, _, hD.out (by omega), HR.out, HC.out, HK.out⟩
                case measure => simp [intOf]; omega
            · have hjm : k = m := by omega
              subst hjm
              have HE := Lib.hid (⟨l, R1, v1, hrow.trans hmany, r1, q1.2.1, C1, K1⟩ : ∃ l R1 v1, row rdCh 16 Rp = some (l, R1) ∧ Rd B w0 wr g R1 ∧ Byt R1 ∧ Cg h2 wr h2 ⟨n4, n8, n12, lp, l, []⟩ vp v1 (.slice none 0 0) ∧ wr.heap[h]? = some (.cells #[.int .i64 0, .int .i64 0, .int .i64 0, .slice none 0 0, .slice none 0 0, .slice none 0 0] 26))
              clear q1 hmany r1 C1 K1 hrow
              go_wp2
              go_meet
              case rel => exact HE.out
        case rest =>
          obtain ⟨lc, Rc, vc, hrow2, r1, b1, C6, K6⟩ := hcut
          replace C6 := Lib.hid C6
          replace K6 := Lib.hid K6
          replace b1 := Lib.hid b1
          refine ‹∀ (a : Act) (w : World), Code.wp _ _ _ a w → _› _ _ ?_
          go_upto_region 11 with fail
          go_cut [47, 48] from 49 (fun n i wx => ∃ m : Nat, n = .int .i64 m ∧ i = .int .i64 0 ∧ m ≤ 32 ∧ row rdWn 32 Rc = many rdWn m (Rc.drop 4) ∧ Rd B w0 wx g (Rc.drop 4) ∧ Cg h2 wx h2 ⟨n4, n8, n12, lp, lc, []⟩ vp vc (.slice none 0 0) ∧ wx.heap[h]? = some (.cells #[.int .i64 0, .int .i64 0, .int .i64 0, .slice none 0 0, .slice none 0 0, .slice none 0 0] 26))
          case first =>
            go_wp2_with fail
            go_at_call 49
            refine (count_says r1.re (b1.out) 32).mono ?_
            rintro e w7 (⟨hl1, hm1, rfl, hr⟩ | ⟨hno, rfl, ho⟩)
            rotate_left
            · exact ⟨rfl, by rw [HQ.out]; exact gone (r1.b.trans ho) (rdC_none3 hrow1 hrow2 (row_no _ _ _ hno))⟩
            have C7 := Lib.hid (C6.out.oth hr.b hgh2)
            have K7 := Lib.hid ((hr.b.block h (Array.getElem?_eq_some_iff.1 K6.out).1 (by omega)).trans K6.out)
            have hR7 := Lib.hid (hr.from r1.b)
            have hrow := Lib.hid (row_many rdWn 32 _ hl1 hm1)
            have hv := lv_i (b1.out)
            obtain ⟨m, hm⟩ := Int.eq_ofNat_of_zero_le hv.1
            rw [hm]
            clear hr C6 K6
            go_wp2_with fail
            go_meet
            case rel => exact ⟨m, rfl, rfl, by omega, by rw [hrow.out, hm, Int.toNat_natCast], by have := hR7.out; exact this, C7.out, K7.out⟩
          case rest =>
            obtain ⟨m, rfl, rfl, hm8, hrow, r7, C7, K7⟩ := hcut
            refine ‹∀ (a : Act) (w : World), Code.wp _ _ _ a w → _› _ _ ?_
            go_cut [] from 4 (fun wx => ∃ l R1 v1, row rdWn 32 Rc = some (l, R1) ∧ Rd B w0 wx g R1 ∧ Byt R1 ∧ Cg h2 wx h2 ⟨n4, n8, n12, lp, lc, l⟩ vp vc v1 ∧ wx.heap[h]? = some (.cells #[.int .i64 0, .int .i64 0, .int .i64 0, .slice none 0 0, .slice none 0 0, .slice none 0 0] 26))
            case first =>
              go_wp2_with fail
              go_loopw [48] (fun i wr => ∃ k : Nat, k ≤ m ∧ i = .int .i64 k ∧ ∃ l R1 v1, many rdWn k (Rc.drop 4) = some (l, R1) ∧ Rd B w0 wr g R1 ∧ Cg h2 wr h2 ⟨n4, n8, n12, lp, lc, l⟩ vp vc v1 ∧ wr.heap[h]? = some (.cells #[.int .i64 0, .int .i64 0, .int .i64 0, .slice none 0 0, .slice none 0 0, .slice none 0 0] 26)) (fun i _ => m - (intOf i).toNat)
              case atStart => exact ⟨0, Nat.zero_le _, rfl, [], _, _, rfl, r7, C7, K7⟩
              case round =>
                obtain ⟨k, hk, rfl, l, R1, v1, hmany, r1, C1, K1⟩ := hrel
                have q1 := many_all (Q := fun _ => True) (fun R a R' hb h => ⟨trivial, (rdWn_all R a R' hb h).2⟩) k _ _ _ (byt_drop b1.out 4) hmany
                by_cases hkm : k < m
                · have hkI : (k : Int) < (m : Int) := by omega
                  have hkb : k < 32 := by omega
                  have hbR := q1.2.1
                  have hlk := q1.2.2
                  obtain ⟨p1, c1, e1, -, -, -⟩ := ownS_form C1.own3
                  obtain ⟨n1, hn1⟩ : ∃ n1, (l.map wnC).length = n1 := ⟨_, rfl⟩
                  have hl1 : n1 = l.length := by rw [← hn1, List.length_map]
                  have e1' : v1 = .slice p1 n1 c1 := by rw [← hn1]; exact e1
                  subst e1'
                  clear e1
                  have hRd := Lib.hid (r1.kept (Below.refl _ _).drew : Rd B w0 wr.drew g R1)
                  have hCd := Lib.hid (C1.oth (oth_below (Below.refl _ _).drew) hgh2 : Cg h2 wr.drew h2 ⟨n4, n8, n12, lp, lc, l⟩ vp vc (.slice p1 n1 c1))
                  have z3 := C1.at 5 _ rfl
                  have z3d := hCd.out.at 5 _ rfl
                  have hKd : wr.drew.heap[h]? = some (.cells #[.int .i64 0, .int .i64 0, .int .i64 0, .slice none 0 0, .slice none 0 0, .slice none 0 0] 26) := K1
                  replace hKd := Lib.hid hKd
                  have HG := Lib.hid (fun (u : World) (ho : Oth g wr.drew u) (hn : rdWn R1 = none) => (by rw [HQ.out]; exact gone (hRd.out.b.trans ho) (rdC_none3 hrow1 hrow2 ((hrow.trans (many_not hmany hn hkm)))) : q giveUp u))
                  have HD := Lib.hid (fun (a : _) (R' : List Int) (ha : rdWn R1 = some (a, R')) => many_yes hmany ha)
                  have hsb := Lib.hid r1
                  clear r1 C1 K1 r7 C7 K7 hmany hrow q1
                  have SZ := Lib.hid (by omega : (l.map wnC).length + 1 ≤ 1000000)
                  clear hl1 hlk hn1
                  obtain ⟨a1, ha1⟩ : ∃ a, lv R1 = a := ⟨_, rfl⟩
                  obtain ⟨a2, ha2⟩ : ∃ a, lv (R1.drop 4) = a := ⟨_, rfl⟩
                  obtain ⟨a3, ha3⟩ : ∃ a, lv (R1.drop 8) = a := ⟨_, rfl⟩
                  have hD := Lib.hid (fun (hl : 12 ≤ R1.length) => HD.out (⟨a1, a2, a3⟩ : Wn) (R1.drop 12) (by unfold rdWn; rw [if_neg (by omega), ha1, ha2, ha3]))
                  have HG2 := Lib.hid (fun (u : World) (ho : Oth g wr.drew u) (hl : R1.length < 12) => HG.out u ho (by unfold rdWn; rw [if_pos hl]))
                  have HN1 := Lib.hid (fun (u : World) (hi : 0 ≤ R1.length) (r : Rd B wr.drew u g (R1.drop 0)) => (by have := num_or hbR 0 hi r; rw [show lv (R1.drop 0) = a1 from ha1] at this; exact this : Calls Tryd.prog 48 #[.pointer (some ⟨g, 0, none⟩)] u fun e w' => (4 ≤ R1.length ∧ e = .returned (i64 a1) ∧ Rd B wr.drew w' g (R1.drop 4) ∧ Oth g u w') ∨ (R1.length < 4 ∧ e = giveUp ∧ Oth g u w')))
                  have HN2 := Lib.hid (fun (u : World) (hi : 4 ≤ R1.length) (r : Rd B wr.drew u g (R1.drop 4)) => (by have := num_or hbR 4 hi r; rw [ha2] at this; exact this : Calls Tryd.prog 48 #[.pointer (some ⟨g, 0, none⟩)] u fun e w' => (8 ≤ R1.length ∧ e = .returned (i64 a2) ∧ Rd B wr.drew w' g (R1.drop 8) ∧ Oth g u w') ∨ (R1.length < 8 ∧ e = giveUp ∧ Oth g u w')))
                  have HN3 := Lib.hid (fun (u : World) (hi : 8 ≤ R1.length) (r : Rd B wr.drew u g (R1.drop 8)) => (by have := num_or hbR 8 hi r; rw [ha3] at this; exact this : Calls Tryd.prog 48 #[.pointer (some ⟨g, 0, none⟩)] u fun e w' => (12 ≤ R1.length ∧ e = .returned (i64 a3) ∧ Rd B wr.drew w' g (R1.drop 12) ∧ Oth g u w') ∨ (R1.length < 12 ∧ e = giveUp ∧ Oth g u w')))
                  have hR0 := Lib.hid (show Rd B wr.drew wr.drew g (R1.drop 0) from hRd.out.re)
                  have HZ := Lib.hid (fun (w2 : World) (hr : Rd B wr.drew w2 g (R1.drop 12)) => (⟨(hCd.out.oth hr.b hgh2).at 5 _ rfl, ((hCd.out.oth hr.b hgh2).oth (oth_below (below_alloc w2 (.cells #[.int .i64 a1, .int .i64 a2, .int .i64 a3] 51))) hgh2).at 5 _ rfl, (hCd.out.oth hr.b hgh2).oth (oth_below (below_alloc w2 (.cells #[.int .i64 a1, .int .i64 a2, .int .i64 a3] 51))) hgh2, src_new w2 3 [Value.int .i64 a1, .int .i64 a2, .int .i64 a3] _, ((hr.from hRd.out.b).kept (below_alloc _ _)), ((below_alloc w2 (.cells #[.int .i64 a1, .int .i64 a2, .int .i64 a3] 51)).block h (Nat.lt_of_lt_of_le (Array.getElem?_eq_some_iff.1 hKd.out).1 hr.b.size)).trans ((hr.b.block h (Array.getElem?_eq_some_iff.1 hKd.out).1 (by omega)).trans hKd.out)⟩ :
                    w2.cell? ⟨h2, 5, none⟩ = some (.slice p1 n1 c1) ∧ (w2.alloc (.cells #[.int .i64 a1, .int .i64 a2, .int .i64 a3] 51)).cell? ⟨h2, 5, none⟩ = some (.slice p1 n1 c1) ∧ (Cg h2 (w2.alloc (.cells #[.int .i64 a1, .int .i64 a2, .int .i64 a3] 51)) h2 ⟨n4, n8, n12, lp, lc, l⟩ vp vc (.slice p1 n1 c1)) ∧ SrcS 3 (w2.alloc (.cells #[.int .i64 a1, .int .i64 a2, .int .i64 a3] 51)) (some ⟨w2.heap.size, 0, none⟩) [[Value.int .i64 a1, .int .i64 a2, .int .i64 a3]] ∧ Rd B w0 (w2.alloc (.cells #[.int .i64 a1, .int .i64 a2, .int .i64 a3] 51)) g (R1.drop 12) ∧ (w2.alloc (.cells #[.int .i64 a1, .int .i64 a2, .int .i64 a3] 51)).heap[h]? = some (.cells #[.int .i64 0, .int .i64 0, .int .i64 0, .slice none 0 0, .slice none 0 0, .slice none 0 0] 26)))
                  have HA := Lib.hid (fun (u : World) (CN : Cg h2 u h2 ⟨n4, n8, n12, lp, lc, l⟩ vp vc (.slice p1 n1 c1)) (RN : Rd B w0 u g (R1.drop 12)) (KN : u.heap[h]? = some (.cells #[.int .i64 0, .int .i64 0, .int .i64 0, .slice none 0 0, .slice none 0 0, .slice none 0 0] 26)) v' w4 (o4 : OwnS 51 3 w4 h2 v' (l.map wnC ++ [[Value.int .i64 a1, .int .i64 a2, .int .i64 a3]])) (b4 : Below h2 u w4) (g4 : u.grownBy w4 (Value.slice p1 n1 c1).ownBlock) (hv : v'.ownBlock = (Value.slice p1 n1 c1).ownBlock ∨ v'.ownBlock = some u.heap.size) =>
                    (⟨(by rw [World.cell?_of_block (g4.block h2 CN.2.lt (fun e => CN.2.ne.2.2 e.symm))]; exact CN.at 5 _ rfl), (by have hq := (g4.block h2 CN.2.lt (fun e => CN.2.ne.2.2 e.symm)).trans CN.2.hd; simp [World.frozen?, hq]), CN.app3 (l := l ++ [(⟨a1, a2, a3⟩ : Wn)]) (by rw [List.map_append]; exact o4) g4 hv, RN.past (below_setC b4 h2 5 (Nat.le_refl _) v') hgh2 hw0h, ((below_setC b4 h2 5 (Nat.le_refl _) v').block h hhh2).trans KN⟩ :
                      w4.cell? ⟨h2, 5, none⟩ = some (.slice p1 n1 c1) ∧ w4.frozen? ⟨h2, 5, none⟩ = false ∧ (Cg h2 (w4.setCell ⟨h2, 5, none⟩ v') h2 ⟨n4, n8, n12, lp, lc, (l ++ [(⟨a1, a2, a3⟩ : Wn)])⟩ vp vc v') ∧ Rd B w0 (w4.setCell ⟨h2, 5, none⟩ v') g (R1.drop 12) ∧ (w4.setCell ⟨h2, 5, none⟩ v').heap[h]? = some (.cells #[.int .i64 0, .int .i64 0, .int .i64 0, .slice none 0 0, .slice none 0 0, .slice none 0 0] 26)))
                  have HY := Lib.hid (fun (u : World) (ho : Oth g wr.drew u) => (hCd.out.oth ho hgh2).at 5 _ rfl)
                  clear HG HD hCd hKd hRd hsb hbR ha1 ha2 ha3
                  go_wp2_with fail
                  go_region_law (first | (refine step_appS kdW rfl _ _ rfl CN.out.size (v1 := .slice p1 n1 c1) (R1 := l.map wnC) rfl CN.out.own3 (p := some ⟨wn.heap.size, 0, none⟩) (m := 1) (c := 1) [[Value.int .i64 a1, .int .i64 a2, .int .i64 a3]] (even_wn [(⟨a1, a2, a3⟩ : Wn)]) rfl rfl (fun e => by cases e) SN.out SZ.out ?_; intro v' w4 o4 b4 g4 hv; obtain ⟨k1, k2, C4, R4, K4⟩ := HA.out _ CN.out RN.out KN.out v' w4 o4 b4 g4 hv; obtain ⟨p5, c5, e5, -, -, -⟩ := ownS_form o4; obtain ⟨n5, hn5⟩ : ∃ n5, (l.map wnC ++ [[Value.int .i64 a1, .int .i64 a2, .int .i64 a3]]).length = n5 := ⟨_, rfl⟩; rw [hn5] at e5; clear hn5 o4 b4 g4 hv; subst e5; have HC := Lib.hid C4; have HR := Lib.hid R4; have HK := Lib.hid K4; clear C4 R4 K4) | (rw [if_pos (by simp [Region.wanted])]; go_simp; go_at_call 48; (with_reducible refine (HN3.out _ hl2 hR2.out).mono ?_); rintro e wn (⟨hl3, rfl, hr, ho⟩ | ⟨hno, rfl, ho⟩); rotate_left; exact (And.intro rfl (HG2.out _ (hR2.out.b.trans ho) (by omega))); clear ho; have hz := HZ.out wn hr; clear hr; obtain ⟨z3w, z3n, CN', SN', RN', KN'⟩ := hz; have CN := Lib.hid CN'; have SN := Lib.hid SN'; have RN := Lib.hid RN'; have KN := Lib.hid KN'; clear CN' SN' RN' KN') | (rw [if_pos (by simp [Region.wanted])]; go_simp; go_at_call 48; (with_reducible refine (HN2.out _ hl1 hR1.out).mono ?_); rintro e w2_ (⟨hl2, rfl, hr, ho⟩ | ⟨hno, rfl, ho⟩); rotate_left; exact (And.intro rfl (HG2.out _ (hR1.out.b.trans ho) (by omega))); have hR2 := Lib.hid hr; clear hr ho; have z3_2 := HY.out _ hR2.out.b) | (rw [if_pos (by simp [Region.wanted])]; go_simp; go_at_call 48; (with_reducible refine (HN1.out _ (Nat.zero_le _) hR0.out).mono ?_); rintro e w1_ (⟨hl1, rfl, hr, ho⟩ | ⟨hno, rfl, ho⟩); rotate_left; exact (And.intro rfl (HG2.out _ (hR0.out.b.trans ho) (by omega))); have hR1 := Lib.hid hr; clear hr ho; have z3_1 := HY.out _ hR1.out.b))
                  all_goals
                    go_wp2
                    go_roundw
                    case rel => exact ⟨k + 1, hkm, by go_num, _, _, _, hD.out (by omega), HR.out, HC.out, HK.out⟩
                    case measure => simp [intOf]; omega
                · have hjm : k = m := by omega
                  subst hjm
                  have HE := Lib.hid (⟨l, R1, v1, hrow.trans hmany, r1, q1.2.1, C1, K1⟩ : ∃ l R1 v1, row rdWn 32 Rc = some (l, R1) ∧ Rd B w0 wr g R1 ∧ Byt R1 ∧ Cg h2 wr h2 ⟨n4, n8, n12, lp, lc, l⟩ vp vc v1 ∧ wr.heap[h]? = some (.cells #[.int .i64 0, .int .i64 0, .int .i64 0, .slice none 0 0, .slice none 0 0, .slice none 0 0] 26))
                  clear q1 hmany r1 C1 K1 hrow
                  go_wp2
                  go_meet
                  case rel => exact HE.out
            case rest =>
              obtain ⟨lw, Rw, vw, hrow3, r1, b1, C6, K6⟩ := hcut
              refine ‹∀ (a : Act) (w : World), Code.wp _ _ _ a w → _› _ _ ?_
              rename World => wz
              obtain ⟨p1, c1, p2, c2, p3, c3, e1, e2, e3, -, L1, L2, L3⟩ := C6.lies
              have hC := rdC_some (b := b) (by omega) hrow1 hrow2 hrow3
              rw [e4, e8, e12] at hC
              have z0 := C6.at 0 _ rfl
              have z1 := C6.at 1 _ rfl
              have z2 := C6.at 2 _ rfl
              have z3 := C6.at 3 _ rfl
              have z4 := C6.at 4 _ rfl
              have z5 := C6.at 5 _ rfl
              have Kx : ∀ (k : Nat) (v : Value), [i64 0, i64 0, i64 0, Value.slice none 0 0, .slice none 0 0, .slice none 0 0][k]? = some v → wz.cell? ⟨h, k, none⟩ = some v := fun k v hv => by
                rw [cell_of_row _ _ k _ _ _ K6, ← Array.getElem?_toList]; exact hv
              have y0 := Kx 0 _ rfl
              have y1 := Kx 1 _ rfl
              have y2 := Kx 2 _ rfl
              have y3 := Kx 3 _ rfl
              have y4 := Kx 4 _ rfl
              have y5 := Kx 5 _ rfl
              have F0 : ∀ k, wz.frozen? ⟨h, k, none⟩ = false := fun k => by simp [World.frozen?, K6]
              have f0 := F0 0
              have f1 := F0 1
              have f2 := F0 2
              have f3 := F0 3
              have f4 := F0 4
              have f5 := F0 5
              simp only at e1 e2 e3 L1 L2 L3 hC z0 z1 z2 z3 z4 z5
              obtain ⟨m1, hm1⟩ : ∃ m1, lp.length = m1 := ⟨_, rfl⟩
              obtain ⟨m2, hm2⟩ : ∃ m2, lc.length = m2 := ⟨_, rfl⟩
              obtain ⟨m3, hm3⟩ : ∃ m3, lw.length = m3 := ⟨_, rfl⟩
              rw [hm1] at e1 L1
              rw [hm2] at e2 L2
              rw [hm3] at e3 L3
              subst e1 e2 e3
              clear L1 L2 L3
              replace hC := Lib.hid hC
              replace r1 := Lib.hid r1
              clear hm1 hm2 hm3
              replace K6 := Lib.hid K6
              replace C6 := Lib.hid C6
              clear Kx F0 hrow1 hrow2 hrow3 b1 C7 K7 r7 hrow
              go_wp2
              obtain ⟨wf, hwf⟩ : ∃ wf, wf = ((((((wz.setCell ⟨h, 0, none⟩ (i64 n4)).setCell ⟨h, 1, none⟩ (i64 n8)).setCell ⟨h, 2, none⟩ (i64 n12)).setCell ⟨h, 3, none⟩ (.slice p1 m1 c1)).setCell ⟨h, 4, none⟩ (.slice p2 m2 c2)).setCell ⟨h, 5, none⟩ (.slice p3 m3 c3)) := ⟨_, rfl⟩
              rw [← hwf]
              have hrow : wf.heap[h]? = some (.cells #[i64 n4, i64 n8, i64 n12, .slice p1 m1 c1, .slice p2 m2 c2, .slice p3 m3 c3] 26) := by
                rw [hwf]
                exact Cfg.setCell_row (Cfg.setCell_row (Cfg.setCell_row (Cfg.setCell_row (Cfg.setCell_row (Cfg.setCell_row K6.out 0 _) 1 _) 2 _) 3 _) 4 _) 5 _
              have hbl : Below h wz wf := by
                rw [hwf]
                exact below_setC (below_setC (below_setC (below_setC (below_setC (below_setC (Below.refl h wz) h 0 (Nat.le_refl _) _) h 1 (Nat.le_refl _) _) h 2 (Nat.le_refl _) _) h 3 (Nat.le_refl _) _) h 4 (Nat.le_refl _) _) h 5 (Nat.le_refl _) _
              have hoh : ∀ k, k ≠ h → wf.heap[k]? = wz.heap[k]? := fun k hk => by
                rw [hwf]
                exact (Below.heap_setCell _ _ _ _ (by show k ≠ h; exact hk)).trans ((Below.heap_setCell _ _ _ _ (by show k ≠ h; exact hk)).trans ((Below.heap_setCell _ _ _ _ (by show k ≠ h; exact hk)).trans ((Below.heap_setCell _ _ _ _ (by show k ≠ h; exact hk)).trans ((Below.heap_setCell _ _ _ _ (by show k ≠ h; exact hk)).trans ((Below.heap_setCell _ _ _ _ (by show k ≠ h; exact hk)).trans (rfl))))))
              have hsz : wf.heap.size = wz.heap.size := by rw [hwf]; simp [World.setCell]
              have Zx : ∀ (k : Nat) (v : Value), [i64 n4, i64 n8, i64 n12, Value.slice p1 m1 c1, .slice p2 m2 c2, .slice p3 m3 c3][k]? = some v → wf.cell? ⟨h, k, none⟩ = some v := fun k v hv => by
                rw [cell_of_row _ _ k _ _ _ hrow, ← Array.getElem?_toList]; exact hv
              have x0 := Zx 0 _ rfl
              have x1 := Zx 1 _ rfl
              have x2 := Zx 2 _ rfl
              have x3 := Zx 3 _ rfl
              have x4 := Zx 4 _ rfl
              have x5 := Zx 5 _ rfl
              refine bodyPost_ret (v := .agg #[i64 n4, i64 n8, i64 n12, .slice p1 m1 c1, .slice p2 m2 c2, .slice p3 m3 c3]) (by simp [results, Tryd.results31, go_sem, x0, x1, x2, x3, x4, x5]) rfl ?_
              rw [HQ.out]
              refine ⟨⟨hbl.os.trans r1.out.b.os, hbl.tape.trans r1.out.b.tape, hbl.output.trans r1.out.b.output, Nat.le_trans r1.out.b.size hbl.size, fun k hk hkg => (hoh k (by have := HWW.out; omega)).trans (r1.out.b.block k hk hkg)⟩, ?_⟩
              rw [hC.out]
              have CF := C6.out.oth (⟨hbl.os, hbl.tape, hbl.output, hbl.size, fun k hk hkh => hoh k hkh⟩ : Oth h wz wf) hhh2
              obtain ⟨q1, d1, q2, d2, q3, d3, E1, E2, E3, ⟨mm, -, -⟩, M1, M2, M3⟩ := CF.lies
              exact ⟨_, rfl, q1, d1, q2, d2, q3, d3, by rw [E1, E2, E3], M1, M2, M3, by unfold maxLen at mm; omega, fun a ha => by
                have hlo : w.heap.size ≤ h2 := by have := hh; omega
                have o1 := CF.own1
                have o2 := CF.own2
                have o3 := CF.own3
                rw [E1] at o1
                rw [E2] at o2
                rw [E3] at o3
                rcases ha with ha | ha | ha
                · exact Nat.le_trans hlo (ownS_lo o1 a ha)
                · exact Nat.le_trans hlo (ownS_lo o2 a ha)
                · exact Nat.le_trans hlo (ownS_lo o3 a ha)⟩
end Go.Proofs.YtogbhgbnminpdaaDoor.Pck
