/-
  The reference's Check: the partitions.
-/
import Derived.Test.YtogbhgbnminpdaaDoorJnCfgRs
import Derived.Deep.QuietTactic
import Derived.BigQuiet
set_option linter.unusedVariables false
set_option maxRecDepth 100000
set_option linter.unusedVariables false
namespace Go.Proofs.YtogbhgbnminpdaaDoor.Cfg
open Go.Proofs.YtogbhgbnminpdaaDoor
open Go.ChangeShapes Go.WideShapes Go.ChangeAt Go.RowKit
set_option maxHeartbeats 16000000 in
theorem rphA {p : Ending → World → Prop} {w w1 : World} {h : Nat} {pg mj sw : Int} {p1 : Option Addr} {n1 c1 : Nat} {p2 : Option Addr} {n2 c2 : Nat} {p3 : Option Addr} {n3 c3 : Nat} {l : List Pt} {l2 : List Ch} {l3 : List Wn} (F : Ph p w w1 h pg mj sw p1 n1 c1 p2 n2 c2 p3 n3 c3 l l2 l3) (hlo : 1 ≤ l.length ∧ l.length ≤ 8) (wx : World) (bx : Below (h + 1) w1 wx) (u2 u3 u4 u5 u6 u7 u8 u9 u10 u11 u12 u13 u14 u15 u16 u17 u18 u19 u20 u21 u22 u23 u24 u25 u26 u27 u28 u29 u30 u31 u32 u33 u34 u35 u36 u37 u38 u39 u40 u41 u42 u43 u44 u45 u46 u47 u48 u49 u50 u51 u52 u53 u54 u55 u56 u57 u58 u59 u60 u61 u62 u63 u64 u65 u66 u67 u68 u69 u70 u71 u72 u73 u74 u75 u76 u77 u78 u79 u80 u81 u82 u83 u84 u85 u86 u87 u88 u89 u90 u91 u92 u93 u94 u95 u96 u97 u98 u99 u100 u101 u102 u103 u104 u105 u106 u107 u108 u109 u110 u111 u112 u113 u114 u115 u116 u117 u118 u119 u120 u121 u122 u123 u124 u125 u126 u127 u128 u129 u130 u131 u132 u133 u134 u135 u136 u137 u138 u139 u140 u141 u142 u143 u144 u145 u146 u147 u148 u149 u150 u151 u152 u153 u154 u155 u156 u157 u158 u159 u160 u161 u162 u163 u164 u165 u166 u167 u168 u169 u170 u171 u172 u173 u174 u175 u176 u177 u178 u179 u180 u181 u182 u183 u184 u185 u186 u187 u188 u189 u190 u191 u192 u193 u194 u195 u196 u197 u198 u199 u200 u201 u202 u203 u204 u205 u206 u207 u208 u209 u210 u211 u212 u213 u214 u215 u216 u217 u218 u219 u220 u221 u222 u223 u224 u225 u226 u227 u228 u229 u230 u231 u232 u233 u234 u235 u236 u237 u238 u239 u240 u241 u242 u243 u244 u245 u246 u247 u248 u249 u250 u251 u252 u253 u254 u255 u256 u257 u258 u259 u260 u261 u262 u263 u264 u265 u266 u267 u268 u269 u270 u271 u272 u273 u274 u275 u276 u277 u278 u279 u280 u281 u282 u283 u284 u285 u286 u287 u288 u289 u290 u291 u292 u293 : Value) :
    Code.wp Tryd.prog (tailC 3 rchkC) (bodyPost Tryd.prog Tryd.f12 p) ⟨#[.agg #[i64 pg, i64 mj, i64 sw, .slice p1 n1 c1, .slice p2 n2 c2, .slice p3 n3 c3], .pointer (some ⟨h, 0, none⟩), u2, u3, u4, u5, u6, u7, u8, u9, u10, u11, u12, u13, u14, u15, u16, u17, u18, u19, u20, u21, u22, u23, u24, u25, u26, u27, u28, u29, u30, u31, u32, u33, u34, u35, u36, u37, u38, u39, u40, u41, u42, u43, u44, u45, u46, u47, u48, u49, u50, u51, u52, u53, u54, u55, u56, u57, u58, u59, u60, u61, u62, u63, u64, u65, u66, u67, u68, u69, u70, u71, u72, u73, u74, u75, u76, u77, u78, u79, u80, u81, u82, u83, u84, u85, u86, u87, u88, u89, u90, u91, u92, u93, u94, u95, u96, u97, u98, u99, u100, u101, u102, u103, u104, u105, u106, u107, u108, u109, u110, u111, u112, u113, u114, u115, u116, u117, u118, u119, u120, u121, u122, u123, u124, u125, u126, u127, u128, u129, u130, u131, u132, u133, u134, u135, u136, u137, u138, u139, u140, u141, u142, u143, u144, u145, u146, u147, u148, u149, u150, u151, u152, u153, u154, u155, u156, u157, u158, u159, u160, u161, u162, u163, u164, u165, u166, u167, u168, u169, u170, u171, u172, u173, u174, u175, u176, u177, u178, u179, u180, u181, u182, u183, u184, u185, u186, u187, u188, u189, u190, u191, u192, u193, u194, u195, u196, u197, u198, u199, u200, u201, u202, u203, u204, u205, u206, u207, u208, u209, u210, u211, u212, u213, u214, u215, u216, u217, u218, u219, u220, u221, u222, u223, u224, u225, u226, u227, u228, u229, u230, u231, u232, u233, u234, u235, u236, u237, u238, u239, u240, u241, u242, u243, u244, u245, u246, u247, u248, u249, u250, u251, u252, u253, u254, u255, u256, u257, u258, u259, u260, u261, u262, u263, u264, u265, u266, u267, u268, u269, u270, u271, u272, u273, u274, u275, u276, u277, u278, u279, u280, u281, u282, u283, u284, u285, u286, u287, u288, u289, u290, u291, u292, u293], []⟩ wx := by
  simp only [rchkC, Tryd.f12, Option.getD_some, tailC]
  have hlm := F.e1
  have hlen1 := F.n.1
  have hsz := F.s1
  have hZ := Lib.hid (fun (wr : World) (b : Below (h + 1) w1 wr) (k : Nat) (v : Value) hv => (World.cell?_of_block (b.block h (Nat.lt_succ_self _))).trans (F.z k v hv))
  have HK := Lib.hid (fun (wr : World) (b : Below (h + 1) w1 wr) => F.k1.kept b (Nat.le_succ _))
  have ho2 := Lib.hid (fun (g2 : ¬ partsOk l) w' (b : Below (h + 1) w1 w') => F.o2 g2 w' (F.b1.trans (b.mono (Nat.le_succ _))))
  have hS := Lib.hid (fun (g2 : partsOk l) => rphS F g2)
  clear F
  refine wp_seq_k fun Kr hKr => ?_
  go_cut [] from 300 (fun wx => Below (h + 1) w1 wx ∧ partsOk l)
  case rest =>
    obtain ⟨bc, g2⟩ := hcut
    refine hKr _ _ ?_
    exact hS.out g2 _ bc _ _ _ _ _ _ _ _ _ _ _ _ _ _ _ _ _ _ _ _ _ _ _ _ _ _ _ _ _ _ _ _ _ _ _ _ _ _ _ _ _ _ _ _ _ _ _ _ _ _ _ _ _ _ _ _ _ _ _ _ _ _ _ _ _ _ _ _ _ _ _ _ _ _ _ _ _ _ _ _ _ _ _ _ _ _ _ _ _ _ _ _ _ _ _ _ _ _ _ _ _ _ _ _ _ _ _ _ _ _ _ _ _ _ _ _ _ _ _ _ _ _ _ _ _ _ _ _ _ _ _ _ _ _ _ _ _ _ _ _ _ _ _ _ _ _ _ _ _ _ _ _ _ _ _ _ _ _ _ _ _ _ _ _ _ _ _ _ _ _ _ _ _ _ _ _ _ _ _ _ _ _ _ _ _ _ _ _ _ _ _ _ _ _ _ _ _ _ _ _ _ _ _ _ _ _ _ _ _ _ _ _ _ _ _ _ _ _ _ _ _ _ _ _ _ _ _ _ _ _ _ _ _ _ _ _ _ _ _ _ _ _ _ _ _ _ _ _ _ _ _ _ _ _ _ _ _ _ _ _ _ _ _ _ _ _ _ _ _ _ _ _ _ _ _ _ _ _ _ _ _ _ _ _ _ _ _ _ _ _ _ _
  case first =>
    clear hS
    go_wp2
    go_loopw [3, 4, 5] (fun i _ _ wr => Below (h + 1) w1 wr ∧ ∃ j : Nat, j ≤ n1 ∧ i = .int .i64 j ∧ ∀ (k : Nat) (p : Pt), k < j → l[k]? = some p → okP l k p) (fun i _ _ _ => n1 - (intOf i).toNat)
    case atStart => exact ⟨bx, 0, Nat.zero_le _, rfl, fun k p hk => absurd hk (Nat.not_lt_zero _)⟩
    case round =>
      obtain ⟨b2, j, hj, rfl, hk⟩ := hrel
      have z3 := hZ.out wr b2 3 _ rfl
      by_cases hjl : j < n1
      · have hjI : (j : Int) < (n1 : Int) := by omega
        have hj8 : j < 8 := by omega
        obtain ⟨x, hx⟩ : ∃ x, l[j]? = some x := ⟨_, List.getElem?_eq_getElem (by omega)⟩
        obtain ⟨b, off, rfl, hbl, y0, y1, y2⟩ := (HK.out wr b2).cell3 j x hx rfl
        have hnext := Lib.hid (fun hy : okP l j x => (fun k q hkj hq => by
          by_cases e : k = j
          · subst e; rw [hx] at hq; cases hq; exact hy
          · exact hk k q (by omega) hq : ∀ (k : Nat) (q : Pt), k < j + 1 → l[k]? = some q → okP l k q))
        have hno := Lib.hid (fun (hy : ¬ okP l j x) => ho2.out (fun hm => hy (hm.2 j x hx)))
        have hxs := (hsz j x hx).1
        have hX := Lib.hid hx
        obtain ⟨nm, hnm⟩ : ∃ nm, x.name = nm := ⟨_, rfl⟩
        obtain ⟨ac, hac⟩ : ∃ ac, x.act = ac := ⟨_, rfl⟩
        rw [hnm] at y0 hxs
        rw [hac] at y2
        have hB := Lib.hid b2
        clear hk hx hsz ho2 y1 b2
        by_cases hN : okN nm
        · have hni := Lib.hid (rname_says nm true (by simp [hN]) wr hxs)
          by_cases q : ac < 0
          · have hn := Lib.hid (hno.out (fun hy => by have := hy.2.1; rw [hac] at this; omega) wr hB.out)
            clear hno hnext hZ HK
            go_wp2_with (go_at_call 28; (with_reducible refine hni.out.mono ?_); rintro e w' ⟨rfl, rfl⟩)
            exact hn.out
          by_cases q : ac > 1
          · have hn := Lib.hid (hno.out (fun hy => by have := hy.2.1; rw [hac] at this; omega) wr hB.out)
            clear hno hnext hZ HK
            go_wp2_with (go_at_call 28; (with_reducible refine hni.out.mono ?_); rintro e w' ⟨rfl, rfl⟩)
            exact hn.out
          have hnn := Lib.hid (fun hall => hnext.out ⟨by rw [hnm]; exact hN, by rw [hac]; omega, hall⟩)
          clear hnext hN
          go_upto_region 12 with (go_at_call 28; (with_reducible refine hni.out.mono ?_); rintro e w' ⟨rfl, rfl⟩)
          clear hni y0 y2 z3 hac q
          go_loopw [5] (fun k wr => Below (h + 1) w1 wr ∧ ∃ i : Nat, i ≤ j ∧ k = .int .i64 i ∧ ∀ (i' : Nat) (q : Pt), i' < i → l[i']? = some q → q.name ≠ x.name) (fun k _ => j - (intOf k).toNat)
          case atStart => exact ⟨hB.out, 0, Nat.zero_le _, rfl, fun i' q hi => absurd hi (Nat.not_lt_zero _)⟩
          case round =>
            obtain ⟨b4, i, hi, rfl, hq⟩ := hrel
            have z3 := hZ.out _ b4 3 _ rfl
            by_cases hil : i < j
            · have hiI : (i : Int) < (j : Int) := by omega
              obtain ⟨y, hy⟩ : ∃ y, l[i]? = some y := ⟨_, List.getElem?_eq_getElem (by omega)⟩
              obtain ⟨b', off', e, -, t0, -, -⟩ := (HK.out _ b4).cell3 i y hy rfl
              injection e with e; injection e with e1 e2; subst e1 e2
              obtain ⟨b', off', e, -, y0, -, -⟩ := (HK.out _ b4).cell3 j x hX.out rfl
              injection e with e; injection e with e1 e2; subst e1 e2
              have hne := name_eq y.name x.name
              have hiy := Lib.hid hy
              have hnx := Lib.hid (fun (g : ¬ y.name = x.name) => (fun i' q hi' hq' => by
                by_cases e : i' = i
                · subst e; rw [hiy.out] at hq'; cases hq'; exact g
                · exact hq i' q (by omega) hq' : ∀ (i' : Nat) (q : Pt), i' < i + 1 → l[i']? = some q → q.name ≠ x.name))
              have hnf := Lib.hid (fun (g : y.name = x.name) w' b => hno.out (fun hz => hz.2.2 i y hil hiy.out g) w' b)
              have hB4 := Lib.hid b4
              have hB4d := Lib.hid (fun n => b4.trans (⟨rfl, rfl, rfl, Nat.le_refl _, fun _ _ => rfl⟩ : Below (h + 1) wr (wr.drewN n)))
              clear hno hnn hq hX hy hZ HK b4 hB
              rw [hnm] at y0 hne
              obtain ⟨nn, hnn⟩ : ∃ nn, y.name = nn := ⟨_, rfl⟩
              rw [hnn] at t0 hne
              by_cases g : y.name = x.name
              · have hn := Lib.hid (hnf.out g)
                rw [hnn, hnm] at g
                rw [decide_eq_true g] at hne
                clear hnf hnx g hnm hnn hiy
                go_wp2
                go_quiet (fail)
                go_wp2
                exact hn.out _ (hB4d.out _)
              · have hn := Lib.hid (hnx.out g)
                rw [hnn, hnm] at g
                rw [decide_eq_false g] at hne
                clear hnf hnx g hnm hnn hiy
                go_wp2
                go_quiet (fail)
                go_wp2
                go_roundw
                case rel => exact ⟨hB4d.out _, i + 1, hil, by go_num, hn.out⟩
                case measure => simp [intOf]; omega
            · have hij : i = j := by omega
              subst hij
              have hn := Lib.hid (hnn.out (fun j' q h1 h2 => hq j' q h1 h2))
              have hB4 := Lib.hid b4
              clear hno hnn hq hX hZ HK b4 hB
              go_wp2
              go_roundw
              case rel => exact ⟨hB4.out, i + 1, hjl, by go_num, hn.out⟩
              case measure => simp [intOf]; omega
        · have hni := Lib.hid (rname_says nm false (by simp [hN]) wr hxs)
          have hn := Lib.hid (hno.out (fun hy => hN (by have := hy.1; rw [hnm] at this; exact this)) wr hB.out)
          clear hno hnext hZ HK
          go_wp2_with (go_at_call 28; (with_reducible refine hni.out.mono ?_); rintro e w' ⟨rfl, rfl⟩)
          exact hn.out
      · have hjm : j = n1 := by omega
        subst hjm
        have hn := Lib.hid (fun g => ho2.out g wr b2)
        by_cases hall : partsOk l
        · clear hk hsz ho2 hZ HK hn
          go_wp2
          go_meet
          case rel => exact ⟨b2, hall⟩
        · exact absurd ⟨hlo, fun k q hq => hk k q (by have := (List.getElem?_eq_some_iff.1 hq).1; omega) hq⟩ hall
end Go.Proofs.YtogbhgbnminpdaaDoor.Cfg
