/-
  The reference's Check: the memory.
-/
import Derived.Test.YtogbhgbnminpdaaDoorJnCfgRc
set_option linter.unusedVariables false
set_option maxRecDepth 100000
set_option linter.unusedVariables false
namespace Go.Proofs.YtogbhgbnminpdaaDoor.Cfg
open Go.Proofs.YtogbhgbnminpdaaDoor
open Go.ChangeShapes Go.WideShapes Go.ChangeAt Go.RowKit
set_option maxHeartbeats 16000000 in
theorem rphS {p : Ending → World → Prop} {w w1 : World} {h : Nat} {pg mj sw : Int} {p1 : Option Addr} {n1 c1 : Nat} {p2 : Option Addr} {n2 c2 : Nat} {p3 : Option Addr} {n3 c3 : Nat} {l : List Pt} {l2 : List Ch} {l3 : List Wn} (F : Ph p w w1 h pg mj sw p1 n1 c1 p2 n2 c2 p3 n3 c3 l l2 l3) (g2 : partsOk l) (wx : World) (bx : Below (h + 1) w1 wx) (u2 u3 u4 u5 u6 u7 u8 u9 u10 u11 u12 u13 u14 u15 u16 u17 u18 u19 u20 u21 u22 u23 u24 u25 u26 u27 u28 u29 u30 u31 u32 u33 u34 u35 u36 u37 u38 u39 u40 u41 u42 u43 u44 u45 u46 u47 u48 u49 u50 u51 u52 u53 u54 u55 u56 u57 u58 u59 u60 u61 u62 u63 u64 u65 u66 u67 u68 u69 u70 u71 u72 u73 u74 u75 u76 u77 u78 u79 u80 u81 u82 u83 u84 u85 u86 u87 u88 u89 u90 u91 u92 u93 u94 u95 u96 u97 u98 u99 u100 u101 u102 u103 u104 u105 u106 u107 u108 u109 u110 u111 u112 u113 u114 u115 u116 u117 u118 u119 u120 u121 u122 u123 u124 u125 u126 u127 u128 u129 u130 u131 u132 u133 u134 u135 u136 u137 u138 u139 u140 u141 u142 u143 u144 u145 u146 u147 u148 u149 u150 u151 u152 u153 u154 u155 u156 u157 u158 u159 u160 u161 u162 u163 u164 u165 u166 u167 u168 u169 u170 u171 u172 u173 u174 u175 u176 u177 u178 u179 u180 u181 u182 u183 u184 u185 u186 u187 u188 u189 u190 u191 u192 u193 u194 u195 u196 u197 u198 u199 u200 u201 u202 u203 u204 u205 u206 u207 u208 u209 u210 u211 u212 u213 u214 u215 u216 u217 u218 u219 u220 u221 u222 u223 u224 u225 u226 u227 u228 u229 u230 u231 u232 u233 u234 u235 u236 u237 u238 u239 u240 u241 u242 u243 u244 u245 u246 u247 u248 u249 u250 u251 u252 u253 u254 u255 u256 u257 u258 u259 u260 u261 u262 u263 u264 u265 u266 u267 u268 u269 u270 u271 u272 u273 u274 u275 u276 u277 u278 u279 u280 u281 u282 u283 u284 u285 u286 u287 u288 u289 u290 u291 u292 u293 : Value) :
    Code.wp Tryd.prog (tailC 4 rchkC) (bodyPost Tryd.prog Tryd.f12 p) ⟨#[.agg #[i64 pg, i64 mj, i64 sw, .slice p1 n1 c1, .slice p2 n2 c2, .slice p3 n3 c3], .pointer (some ⟨h, 0, none⟩), u2, u3, u4, u5, u6, u7, u8, u9, u10, u11, u12, u13, u14, u15, u16, u17, u18, u19, u20, u21, u22, u23, u24, u25, u26, u27, u28, u29, u30, u31, u32, u33, u34, u35, u36, u37, u38, u39, u40, u41, u42, u43, u44, u45, u46, u47, u48, u49, u50, u51, u52, u53, u54, u55, u56, u57, u58, u59, u60, u61, u62, u63, u64, u65, u66, u67, u68, u69, u70, u71, u72, u73, u74, u75, u76, u77, u78, u79, u80, u81, u82, u83, u84, u85, u86, u87, u88, u89, u90, u91, u92, u93, u94, u95, u96, u97, u98, u99, u100, u101, u102, u103, u104, u105, u106, u107, u108, u109, u110, u111, u112, u113, u114, u115, u116, u117, u118, u119, u120, u121, u122, u123, u124, u125, u126, u127, u128, u129, u130, u131, u132, u133, u134, u135, u136, u137, u138, u139, u140, u141, u142, u143, u144, u145, u146, u147, u148, u149, u150, u151, u152, u153, u154, u155, u156, u157, u158, u159, u160, u161, u162, u163, u164, u165, u166, u167, u168, u169, u170, u171, u172, u173, u174, u175, u176, u177, u178, u179, u180, u181, u182, u183, u184, u185, u186, u187, u188, u189, u190, u191, u192, u193, u194, u195, u196, u197, u198, u199, u200, u201, u202, u203, u204, u205, u206, u207, u208, u209, u210, u211, u212, u213, u214, u215, u216, u217, u218, u219, u220, u221, u222, u223, u224, u225, u226, u227, u228, u229, u230, u231, u232, u233, u234, u235, u236, u237, u238, u239, u240, u241, u242, u243, u244, u245, u246, u247, u248, u249, u250, u251, u252, u253, u254, u255, u256, u257, u258, u259, u260, u261, u262, u263, u264, u265, u266, u267, u268, u269, u270, u271, u272, u273, u274, u275, u276, u277, u278, u279, u280, u281, u282, u283, u284, u285, u286, u287, u288, u289, u290, u291, u292, u293], []⟩ wx := by
  simp only [rchkC, Tryd.f12, Option.getD_some, tailC]
  have hlm := F.e1
  have hlen1 := F.n.1
  have hg := F.g
  have h8 := g2.1.2
  have hZ := Lib.hid (fun (wr : World) (b : Below (h + 1) w1 wr) (k : Nat) (v : Value) hv => (World.cell?_of_block (b.block h (Nat.lt_succ_self _))).trans (F.z k v hv))
  have HK := Lib.hid (fun (wr : World) (b : Below (h + 1) w1 wr) => F.k1.kept b (Nat.le_succ _))
  have ho3 := Lib.hid (fun (g3 : ¬ memOk pg l) w' (b : Below (h + 1) w1 w') => F.o3 g2 g3 w' (F.b1.trans (b.mono (Nat.le_succ _))))
  have hC := Lib.hid (fun (g3 : memOk pg l) => rphC F g2 g3)
  clear F g2
  go_upto_region 17 with fail
  go_cut [6, 7] from 300 (fun e s wx => e = .int .i64 0 ∧ s = .int .i64 0 ∧ Below (h + 1) w1 wx)
  case first => go_wp2; go_meet; case rel => exact ⟨rfl, rfl, bx⟩
  case rest =>
    obtain ⟨rfl, rfl, bc⟩ := hcut
    refine ‹∀ (a : Act) (w : World), Code.wp _ _ _ a w → _› _ _ ?_
    go_cut [6] from 300 (fun s wx => Below (h + 1) w1 wx ∧ s = .int .i64 (sumTo l n1) ∧ ∀ (k : Nat) (p : Pt), l[k]? = some p → 1 ≤ p.pages ∧ p.pages ≤ 64)
    case rest =>
      obtain ⟨bc, rfl, hall⟩ := hcut
      refine ‹∀ (a : Act) (w : World), Code.wp _ _ _ a w → _› _ _ ?_
      have z0 := hZ.out _ bc 0 _ rfl
      have hsum := sumTo_le l n1 (fun k p _ => hall k p) (by omega)
      have e1 : IntKind.i64.wrap (pg - 4) = pg - 4 := by rw [IntKind.wrap_i64]; omega
      have hms : sumTo l l.length = sumTo l n1 := by rw [hlm]
      obtain ⟨sm, hsm⟩ : ∃ sm, sumTo l n1 = sm := ⟨_, rfl⟩
      rw [hsm] at hms ⊢
      by_cases q : sm > pg - 4
      · have hn := Lib.hid (ho3.out (fun hm => by have := hm.2; rw [hms] at this; omega) _ bc)
        clear ho3 hC hZ HK hall hsum hms hsm
        go_wp2
        exact hn.out
      · have hn := Lib.hid (hC.out ⟨hall, by rw [hms]; omega⟩ _ bc)
        clear ho3 hC hZ HK hall hsum hms hsm
        go_upto_if 118 with fail
        go_cut [] from 300 (fun wy => wy = wc)
        case first => go_wp2; go_meet; case rel => rfl
        case rest =>
          obtain rfl := hcut
          refine ‹∀ (a : Act) (w : World), Code.wp _ _ _ a w → _› _ _ ?_
          exact hn.out _ _ _ _ _ _ _ _ _ _ _ _ _ _ _ _ _ _ _ _ _ _ _ _ _ _ _ _ _ _ _ _ _ _ _ _ _ _ _ _ _ _ _ _ _ _ _ _ _ _ _ _ _ _ _ _ _ _ _ _ _ _ _ _ _ _ _ _ _ _ _ _ _ _ _ _ _ _ _ _ _ _ _ _ _ _ _ _ _ _ _ _ _ _ _ _ _ _ _ _ _ _ _ _ _ _ _ _ _ _ _ _ _ _ _ _ _ _ _ _ _ _ _ _ _ _ _ _ _ _ _ _ _ _ _ _ _ _ _ _ _ _ _ _ _ _ _ _ _ _ _ _ _ _ _ _ _ _ _ _ _ _ _ _ _ _ _ _ _ _ _ _ _ _ _ _ _ _ _ _ _ _ _ _ _ _ _ _ _ _ _ _ _ _ _ _ _ _ _ _ _ _ _ _ _ _ _ _ _ _ _ _ _ _ _ _ _ _ _ _ _ _ _ _ _ _ _ _ _ _ _ _ _ _ _ _ _ _ _ _ _ _ _ _ _ _ _ _ _ _ _ _ _ _ _ _ _ _ _ _ _ _ _ _ _ _ _ _ _ _ _ _ _ _ _ _ _ _ _ _ _ _ _ _ _ _ _ _ _ _ _ _
    case first =>
      clear hC
      go_wp2
      go_loopw [6, 7] (fun s i wr => Below (h + 1) w1 wr ∧ ∃ j : Nat, j ≤ n1 ∧ i = .int .i64 j ∧ s = .int .i64 (sumTo l j) ∧ ∀ (k : Nat) (p : Pt), k < j → l[k]? = some p → 1 ≤ p.pages ∧ p.pages ≤ 64) (fun _ i _ => n1 - (intOf i).toNat)
      case atStart => exact ⟨bc, 0, Nat.zero_le _, rfl, rfl, fun k p hk => absurd hk (Nat.not_lt_zero _)⟩
      case round =>
        obtain ⟨b2, j, hj, rfl, rfl, hk⟩ := hrel
        have z3 := hZ.out wr b2 3 _ rfl
        by_cases hjl : j < n1
        · have hjI : (j : Int) < (n1 : Int) := by omega
          have hjb : j < 8 := by omega
          obtain ⟨x, hx⟩ : ∃ x, l[j]? = some x := ⟨_, List.getElem?_eq_getElem (by omega)⟩
          obtain ⟨b, off, rfl, hbl, y0, y1, y2⟩ := (HK.out wr b2).cell3 j x hx rfl
          have hsum := sumTo_le l j hk (by omega)
          have hnext := Lib.hid (fun hy : 1 ≤ x.pages ∧ x.pages ≤ 64 => (⟨sumTo_succ l j x hx, fun k q hkj hq => by
            by_cases e : k = j
            · subst e; rw [hx] at hq; cases hq; exact hy
            · exact hk k q (by omega) hq⟩ : sumTo l (j + 1) = sumTo l j + x.pages ∧ ∀ (k : Nat) (q : Pt), k < j + 1 → l[k]? = some q → 1 ≤ q.pages ∧ q.pages ≤ 64))
          have hno := Lib.hid (fun (hy : ¬ (1 ≤ x.pages ∧ x.pages ≤ 64)) => ho3.out (fun hm => hy (hm.1 j x hx)))
          have hls := hsum.1
          have hlt := hsum.2
          have hj8 : sumTo l j ≤ 512 := by omega
          obtain ⟨sm, hsm⟩ : ∃ sm, sumTo l j = sm := ⟨_, rfl⟩
          obtain ⟨xp, hxp⟩ : ∃ xp, x.pages = xp := ⟨_, rfl⟩
          rw [hsm] at hls hj8 hnext ⊢
          rw [hxp] at y1 hnext hno
          clear hsum hlt hx hk ho3 hsm hxp y0 y2 hZ HK
          by_cases q : xp < 1
          · have hn := Lib.hid (hno.out (fun hy => by omega) wr b2)
            clear hno hnext
            go_wp2
            exact hn.out
          by_cases q : xp > 64
          · have hn := Lib.hid (hno.out (fun hy => by omega) wr b2)
            clear hno hnext
            go_wp2
            exact hn.out
          have hn := Lib.hid (hnext.out (by omega))
          have e1 : IntKind.i64.wrap (sm + xp) = sm + xp := by rw [IntKind.wrap_i64]; omega
          clear hno hnext
          go_wp2
          go_roundw
          case rel => exact ⟨b2, j + 1, hjl, by go_num, by rw [hn.out.1], hn.out.2⟩
          case measure => simp [intOf]; omega
        · have hjm : j = n1 := by omega
          subst hjm
          have hall : ∀ (k : Nat) (p : Pt), l[k]? = some p → 1 ≤ p.pages ∧ p.pages ≤ 64 := fun k q hq => hk k q (by have := (List.getElem?_eq_some_iff.1 hq).1; omega) hq
          clear hk ho3 hZ HK
          go_wp2
          go_meet
          case rel => exact ⟨b2, rfl, hall⟩
end Go.Proofs.YtogbhgbnminpdaaDoor.Cfg
