/-
  The reference's Check: the channels.
-/
import Derived.Test.YtogbhgbnminpdaaDoorJnCfgRw
import Derived.Test.YtogbhgbnminpdaaDoorJnCfgRo
set_option linter.unusedVariables false
set_option maxRecDepth 100000
set_option linter.unusedVariables false
namespace Go.Proofs.YtogbhgbnminpdaaDoor.Cfg
open Go.Proofs.YtogbhgbnminpdaaDoor
open Go.ChangeShapes Go.WideShapes Go.ChangeAt Go.RowKit
set_option maxHeartbeats 16000000 in
theorem rphC {p : Ending → World → Prop} {w w1 : World} {h : Nat} {pg mj sw : Int} {p1 : Option Addr} {n1 c1 : Nat} {p2 : Option Addr} {n2 c2 : Nat} {p3 : Option Addr} {n3 c3 : Nat} {l : List Pt} {l2 : List Ch} {l3 : List Wn} (F : Ph p w w1 h pg mj sw p1 n1 c1 p2 n2 c2 p3 n3 c3 l l2 l3) (g2 : partsOk l) (g3 : memOk pg l) (wx : World) (bx : Below (h + 1) w1 wx) (u2 u3 u4 u5 u6 u7 u8 u9 u10 u11 u12 u13 u14 u15 u16 u17 u18 u19 u20 u21 u22 u23 u24 u25 u26 u27 u28 u29 u30 u31 u32 u33 u34 u35 u36 u37 u38 u39 u40 u41 u42 u43 u44 u45 u46 u47 u48 u49 u50 u51 u52 u53 u54 u55 u56 u57 u58 u59 u60 u61 u62 u63 u64 u65 u66 u67 u68 u69 u70 u71 u72 u73 u74 u75 u76 u77 u78 u79 u80 u81 u82 u83 u84 u85 u86 u87 u88 u89 u90 u91 u92 u93 u94 u95 u96 u97 u98 u99 u100 u101 u102 u103 u104 u105 u106 u107 u108 u109 u110 u111 u112 u113 u114 u115 u116 u117 u118 u119 u120 u121 u122 u123 u124 u125 u126 u127 u128 u129 u130 u131 u132 u133 u134 u135 u136 u137 u138 u139 u140 u141 u142 u143 u144 u145 u146 u147 u148 u149 u150 u151 u152 u153 u154 u155 u156 u157 u158 u159 u160 u161 u162 u163 u164 u165 u166 u167 u168 u169 u170 u171 u172 u173 u174 u175 u176 u177 u178 u179 u180 u181 u182 u183 u184 u185 u186 u187 u188 u189 u190 u191 u192 u193 u194 u195 u196 u197 u198 u199 u200 u201 u202 u203 u204 u205 u206 u207 u208 u209 u210 u211 u212 u213 u214 u215 u216 u217 u218 u219 u220 u221 u222 u223 u224 u225 u226 u227 u228 u229 u230 u231 u232 u233 u234 u235 u236 u237 u238 u239 u240 u241 u242 u243 u244 u245 u246 u247 u248 u249 u250 u251 u252 u253 u254 u255 u256 u257 u258 u259 u260 u261 u262 u263 u264 u265 u266 u267 u268 u269 u270 u271 u272 u273 u274 u275 u276 u277 u278 u279 u280 u281 u282 u283 u284 u285 u286 u287 u288 u289 u290 u291 u292 u293 : Value) :
    Code.wp Tryd.prog (tailC 7 rchkC) (bodyPost Tryd.prog Tryd.f12 p) ⟨#[.agg #[i64 pg, i64 mj, i64 sw, .slice p1 n1 c1, .slice p2 n2 c2, .slice p3 n3 c3], .pointer (some ⟨h, 0, none⟩), u2, u3, u4, u5, u6, u7, u8, u9, u10, u11, u12, u13, u14, u15, u16, u17, u18, u19, u20, u21, u22, u23, u24, u25, u26, u27, u28, u29, u30, u31, u32, u33, u34, u35, u36, u37, u38, u39, u40, u41, u42, u43, u44, u45, u46, u47, u48, u49, u50, u51, u52, u53, u54, u55, u56, u57, u58, u59, u60, u61, u62, u63, u64, u65, u66, u67, u68, u69, u70, u71, u72, u73, u74, u75, u76, u77, u78, u79, u80, u81, u82, u83, u84, u85, u86, u87, u88, u89, u90, u91, u92, u93, u94, u95, u96, u97, u98, u99, u100, u101, u102, u103, u104, u105, u106, u107, u108, u109, u110, u111, u112, u113, u114, u115, u116, u117, u118, u119, u120, u121, u122, u123, u124, u125, u126, u127, u128, u129, u130, u131, u132, u133, u134, u135, u136, u137, u138, u139, u140, u141, u142, u143, u144, u145, u146, u147, u148, u149, u150, u151, u152, u153, u154, u155, u156, u157, u158, u159, u160, u161, u162, u163, u164, u165, u166, u167, u168, u169, u170, u171, u172, u173, u174, u175, u176, u177, u178, u179, u180, u181, u182, u183, u184, u185, u186, u187, u188, u189, u190, u191, u192, u193, u194, u195, u196, u197, u198, u199, u200, u201, u202, u203, u204, u205, u206, u207, u208, u209, u210, u211, u212, u213, u214, u215, u216, u217, u218, u219, u220, u221, u222, u223, u224, u225, u226, u227, u228, u229, u230, u231, u232, u233, u234, u235, u236, u237, u238, u239, u240, u241, u242, u243, u244, u245, u246, u247, u248, u249, u250, u251, u252, u253, u254, u255, u256, u257, u258, u259, u260, u261, u262, u263, u264, u265, u266, u267, u268, u269, u270, u271, u272, u273, u274, u275, u276, u277, u278, u279, u280, u281, u282, u283, u284, u285, u286, u287, u288, u289, u290, u291, u292, u293], []⟩ wx := by
  simp only [rchkC, Tryd.f12, Option.getD_some, tailC]
  have hlm := F.e2
  have hlen := F.n.2.1
  have hlen1 := F.n.1
  have hZ := Lib.hid (fun (wr : World) (b : Below (h + 1) w1 wr) (k : Nat) (v : Value) hv => (World.cell?_of_block (b.block h (Nat.lt_succ_self _))).trans (F.z k v hv))
  have HK := Lib.hid (fun (wr : World) (b : Below (h + 1) w1 wr) => F.k2.kept b (Nat.le_succ _))
  have ho4 := Lib.hid (fun (g4 : ¬ chansOk n1 l2) w' (b : Below (h + 1) w1 w') => F.o4 g2 g3 g4 w' (F.b1.trans (b.mono (Nat.le_succ _))))
  have hW := Lib.hid (fun (g4 : chansOk n1 l2) => rphW F g2 g3 g4)
  clear F g2 g3
  have z4 := hZ.out wx bx 4 _ rfl
  by_cases q : (n2 : Int) > 16
  · have hn := Lib.hid (ho4.out (fun hp => by have := hp.1; omega) wx bx)
    clear ho4 hZ HK hW
    go_wp2
    exact hn.out
  go_upto_region 27 with fail
  clear z4
  go_cut [8] from 300 (fun s wx => s = .int .i64 0 ∧ Below (h + 1) w1 wx)
  case first => go_wp2; go_meet; case rel => exact ⟨rfl, bx⟩
  case rest =>
    obtain ⟨rfl, bc⟩ := hcut
    refine ‹∀ (a : Act) (w : World), Code.wp _ _ _ a w → _› _ _ ?_
    go_cut [] from 300 (fun wx => Below (h + 1) w1 wx ∧ chansOk n1 l2)
    case rest =>
      obtain ⟨bc, g4⟩ := hcut
      refine ‹∀ (a : Act) (w : World), Code.wp _ _ _ a w → _› _ _ ?_
      exact hW.out g4 _ bc _ _ _ _ _ _ _ _ _ _ _ _ _ _ _ _ _ _ _ _ _ _ _ _ _ _ _ _ _ _ _ _ _ _ _ _ _ _ _ _ _ _ _ _ _ _ _ _ _ _ _ _ _ _ _ _ _ _ _ _ _ _ _ _ _ _ _ _ _ _ _ _ _ _ _ _ _ _ _ _ _ _ _ _ _ _ _ _ _ _ _ _ _ _ _ _ _ _ _ _ _ _ _ _ _ _ _ _ _ _ _ _ _ _ _ _ _ _ _ _ _ _ _ _ _ _ _ _ _ _ _ _ _ _ _ _ _ _ _ _ _ _ _ _ _ _ _ _ _ _ _ _ _ _ _ _ _ _ _ _ _ _ _ _ _ _ _ _ _ _ _ _ _ _ _ _ _ _ _ _ _ _ _ _ _ _ _ _ _ _ _ _ _ _ _ _ _ _ _ _ _ _ _ _ _ _ _ _ _ _ _ _ _ _ _ _ _ _ _ _ _ _ _ _ _ _ _ _ _ _ _ _ _ _ _ _ _ _ _ _ _ _ _ _ _ _ _ _ _ _ _ _ _ _ _ _ _ _ _ _ _ _ _ _ _ _ _ _ _ _ _ _ _ _ _ _ _ _ _ _ _ _ _ _ _ _ _ _ _ _ _ _
    case first =>
      clear hW
      go_wp2
      go_loopw [8, 9] (fun i _ wr => Below (h + 1) w1 wr ∧ ∃ j : Nat, j ≤ n2 ∧ i = .int .i64 j ∧ ∀ (k : Nat) (x : Ch), k < j → l2[k]? = some x → okC n1 x) (fun i _ _ => n2 - (intOf i).toNat)
      case atStart => exact ⟨bc, 0, Nat.zero_le _, rfl, fun k p hk => absurd hk (Nat.not_lt_zero _)⟩
      case round =>
        obtain ⟨b2, j, hj, rfl, hk⟩ := hrel
        have z3 := hZ.out wr b2 3 _ rfl
        have z4 := hZ.out wr b2 4 _ rfl
        by_cases hjl : j < n2
        · have hjI : (j : Int) < (n2 : Int) := by omega
          have hjb : j < 16 := by omega
          obtain ⟨x, hx⟩ : ∃ x, l2[j]? = some x := ⟨_, List.getElem?_eq_getElem (by omega)⟩
          obtain ⟨b, off, rfl, hbl, y0, y1, y2, y3, y4⟩ := (HK.out wr b2).cell5 j x hx rfl
          have hnext := Lib.hid (fun hy : okC n1 x => (fun k q hkj hq => by
            by_cases e : k = j
            · subst e; rw [hx] at hq; cases hq; exact hy
            · exact hk k q (by omega) hq : ∀ (k : Nat) (q : Ch), k < j + 1 → l2[k]? = some q → okC n1 q))
          have hno := Lib.hid (fun (hy : ¬ okC n1 x) => ho4.out (fun hm => hy (hm.2 j x hx)))
          obtain ⟨kd, fr, to, sz, dp⟩ := x
          simp only at y0 y1 y2 y3 y4
          clear hx hk ho4
          go_upto_region 30 with fail
          go_cut [9] from 300 (fun s wx => s = .pointer (some ⟨wr.heap.size, 0, none⟩) ∧ wx = wr.alloc (.cells #[i64 kd, i64 fr, i64 to, i64 sz, i64 dp] 49))
          case first => go_wp2; go_meet; case rel => exact ⟨rfl, rfl⟩
          case rest =>
            obtain ⟨rfl, hw2⟩ := hcut
            obtain ⟨w2, hw2'⟩ : ∃ w2, w2 = wc := ⟨_, rfl⟩
            have hw3 : w2 = wr.alloc (.cells #[i64 kd, i64 fr, i64 to, i64 sz, i64 dp] 49) := hw2'.trans hw2
            have b3 := Lib.hid (by rw [hw3]; exact b2.alloc (Nat.succ_le_of_lt (World.block_lt_of_cell? wr _ z3)) _ : Below (h + 1) w1 w2)
            obtain ⟨g, hg⟩ : ∃ g, wr.heap.size = g := ⟨_, rfl⟩
            have v0 : w2.cell? ⟨g, 0, none⟩ = some (i64 kd) := by rw [hw3, ← hg]; rw [cell_of_row _ _ 0 _ _ _ (heap_alloc_new _ _)]; rfl
            have v1 : w2.cell? ⟨g, 1, none⟩ = some (i64 fr) := by rw [hw3, ← hg]; rw [cell_of_row _ _ 1 _ _ _ (heap_alloc_new _ _)]; rfl
            have v2 : w2.cell? ⟨g, 2, none⟩ = some (i64 to) := by rw [hw3, ← hg]; rw [cell_of_row _ _ 2 _ _ _ (heap_alloc_new _ _)]; rfl
            have v3 : w2.cell? ⟨g, 3, none⟩ = some (i64 sz) := by rw [hw3, ← hg]; rw [cell_of_row _ _ 3 _ _ _ (heap_alloc_new _ _)]; rfl
            have v4 : w2.cell? ⟨g, 4, none⟩ = some (i64 dp) := by rw [hw3, ← hg]; rw [cell_of_row _ _ 4 _ _ _ (heap_alloc_new _ _)]; rfl
            have z3 := hZ.out w2 b3.out 3 _ rfl
            rw [hg, ← hw2']
            clear hw2 hw2' hw3 y0 y1 y2 y3 y4 z4 b2 hZ HK
            refine ‹∀ (a : Act) (w : World), Code.wp _ _ _ a w → _› _ _ ?_
            refine r31 z3 v0 v1 v2 v3 v4 hlen1 _ _ _ _ _ _ _ _ _ _ _ _ _ _ _ _ _ _ _ _ _ _ _ _ _ _ _ _ _ _ _ _ _ _ _ _ _ _ _ _ _ _ _ _ _ _ _ _ _ _ _ _ _ _ _ _ _ _ _ _ _ _ _ _ _ _ _ _ _ _ _ _ _ _ _ _ _ _ _ _ _ _ _ _ _ _ _ _ _ _ _ _ _ _ _ _ _ _ _ _ _ _ _ _ _ _ _ _ _ _ _ _ _ _ _ _ _ _ _ _ _ _ _ _ _ _ _ _ _ _ _ _ _ _ _ _ _ _ _ _ _ _ _ _ _ _ _ _ _ _ _ _ _ _ _ _ _ _ _ _ _ _ _ _ _ _ _ _ _ _ _ _ _ _ _ _ _ _ _ _ _ _ _ _ _ _ _ _ _ _ _ _ _ _ _ _ _ _ _ _ _ _ _ _ _ _ _ _ _ _ _ _ _ _ _ _ _ _ _ _ _ _ _ _ _ _ _ _ _ _ _ _ _ _ _ _ _ _ _ _ _ _ _ _ _ _ _ _ _ _ _ _ _ _ _ _ _ _ _ _ _ _ _ _ _ _ _ _ _ _ _ _ _ _ _ _ _ _ _ _ _ _ _ _ _ _ _ _ _ _ _ _ _ (fun hok _ _ _ _ _ _ _ _ _ _ _ _ _ _ _ _ _ _ _ _ _ _ _ _ _ _ _ _ _ _ _ _ _ _ _ _ _ _ _ _ _ _ _ _ _ _ _ _ _ _ _ _ _ _ _ _ _ _ _ _ _ _ _ _ _ _ _ _ _ _ _ => ?_) (fun hbad _ _ _ _ _ _ _ _ _ _ _ _ _ _ _ _ _ _ _ _ _ _ _ _ _ _ _ _ _ _ _ _ _ _ _ _ _ _ _ _ _ _ _ _ _ _ _ _ _ _ _ _ _ _ _ _ _ _ _ _ _ _ _ _ _ _ _ _ _ _ _ => ?_)
            · have hn := Lib.hid (hnext.out hok)
              clear hno hnext hok
              go_wp2
              go_roundw
              case rel => exact ⟨b3.out, j + 1, hjl, by go_num, hn.out⟩
              case measure => simp [intOf]; omega
            · have hn := Lib.hid (hno.out hbad w2 b3.out)
              exact bodyPost_ret (v := i64 13) (by simp [results, go_sem]) rfl hn.out
        · have hjm : j = n2 := by omega
          subst hjm
          have hall : chansOk n1 l2 := ⟨by omega, fun k q hq => hk k q (by have := (List.getElem?_eq_some_iff.1 hq).1; omega) hq⟩
          clear hk ho4 hZ HK
          go_wp2
          go_meet
          case rel => exact ⟨b2, hall⟩
end Go.Proofs.YtogbhgbnminpdaaDoor.Cfg
