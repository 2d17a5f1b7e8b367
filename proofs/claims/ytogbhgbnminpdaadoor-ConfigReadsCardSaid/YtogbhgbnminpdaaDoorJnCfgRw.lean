/-
  The reference's Check: the windows.
-/
import Derived.Test.YtogbhgbnminpdaaDoorJnCfgRp
set_option linter.unusedVariables false
set_option maxRecDepth 100000
set_option linter.unusedVariables false
namespace Go.Proofs.YtogbhgbnminpdaaDoor.Cfg
open Go.Proofs.YtogbhgbnminpdaaDoor
open Go.ChangeShapes Go.WideShapes Go.ChangeAt Go.RowKit
set_option maxHeartbeats 16000000 in
theorem rphW {p : Ending → World → Prop} {w w1 : World} {h : Nat} {pg mj sw : Int} {p1 : Option Addr} {n1 c1 : Nat} {p2 : Option Addr} {n2 c2 : Nat} {p3 : Option Addr} {n3 c3 : Nat} {l : List Pt} {l2 : List Ch} {l3 : List Wn} (F : Ph p w w1 h pg mj sw p1 n1 c1 p2 n2 c2 p3 n3 c3 l l2 l3) (g2 : partsOk l) (g3 : memOk pg l) (g4 : chansOk n1 l2) (wx : World) (bx : Below (h + 1) w1 wx) (u2 u3 u4 u5 u6 u7 u8 u9 u10 u11 u12 u13 u14 u15 u16 u17 u18 u19 u20 u21 u22 u23 u24 u25 u26 u27 u28 u29 u30 u31 u32 u33 u34 u35 u36 u37 u38 u39 u40 u41 u42 u43 u44 u45 u46 u47 u48 u49 u50 u51 u52 u53 u54 u55 u56 u57 u58 u59 u60 u61 u62 u63 u64 u65 u66 u67 u68 u69 u70 u71 u72 u73 u74 u75 u76 u77 u78 u79 u80 u81 u82 u83 u84 u85 u86 u87 u88 u89 u90 u91 u92 u93 u94 u95 u96 u97 u98 u99 u100 u101 u102 u103 u104 u105 u106 u107 u108 u109 u110 u111 u112 u113 u114 u115 u116 u117 u118 u119 u120 u121 u122 u123 u124 u125 u126 u127 u128 u129 u130 u131 u132 u133 u134 u135 u136 u137 u138 u139 u140 u141 u142 u143 u144 u145 u146 u147 u148 u149 u150 u151 u152 u153 u154 u155 u156 u157 u158 u159 u160 u161 u162 u163 u164 u165 u166 u167 u168 u169 u170 u171 u172 u173 u174 u175 u176 u177 u178 u179 u180 u181 u182 u183 u184 u185 u186 u187 u188 u189 u190 u191 u192 u193 u194 u195 u196 u197 u198 u199 u200 u201 u202 u203 u204 u205 u206 u207 u208 u209 u210 u211 u212 u213 u214 u215 u216 u217 u218 u219 u220 u221 u222 u223 u224 u225 u226 u227 u228 u229 u230 u231 u232 u233 u234 u235 u236 u237 u238 u239 u240 u241 u242 u243 u244 u245 u246 u247 u248 u249 u250 u251 u252 u253 u254 u255 u256 u257 u258 u259 u260 u261 u262 u263 u264 u265 u266 u267 u268 u269 u270 u271 u272 u273 u274 u275 u276 u277 u278 u279 u280 u281 u282 u283 u284 u285 u286 u287 u288 u289 u290 u291 u292 u293 : Value) :
    Code.wp Tryd.prog (tailC 9 rchkC) (bodyPost Tryd.prog Tryd.f12 p) ⟨#[.agg #[i64 pg, i64 mj, i64 sw, .slice p1 n1 c1, .slice p2 n2 c2, .slice p3 n3 c3], .pointer (some ⟨h, 0, none⟩), u2, u3, u4, u5, u6, u7, u8, u9, u10, u11, u12, u13, u14, u15, u16, u17, u18, u19, u20, u21, u22, u23, u24, u25, u26, u27, u28, u29, u30, u31, u32, u33, u34, u35, u36, u37, u38, u39, u40, u41, u42, u43, u44, u45, u46, u47, u48, u49, u50, u51, u52, u53, u54, u55, u56, u57, u58, u59, u60, u61, u62, u63, u64, u65, u66, u67, u68, u69, u70, u71, u72, u73, u74, u75, u76, u77, u78, u79, u80, u81, u82, u83, u84, u85, u86, u87, u88, u89, u90, u91, u92, u93, u94, u95, u96, u97, u98, u99, u100, u101, u102, u103, u104, u105, u106, u107, u108, u109, u110, u111, u112, u113, u114, u115, u116, u117, u118, u119, u120, u121, u122, u123, u124, u125, u126, u127, u128, u129, u130, u131, u132, u133, u134, u135, u136, u137, u138, u139, u140, u141, u142, u143, u144, u145, u146, u147, u148, u149, u150, u151, u152, u153, u154, u155, u156, u157, u158, u159, u160, u161, u162, u163, u164, u165, u166, u167, u168, u169, u170, u171, u172, u173, u174, u175, u176, u177, u178, u179, u180, u181, u182, u183, u184, u185, u186, u187, u188, u189, u190, u191, u192, u193, u194, u195, u196, u197, u198, u199, u200, u201, u202, u203, u204, u205, u206, u207, u208, u209, u210, u211, u212, u213, u214, u215, u216, u217, u218, u219, u220, u221, u222, u223, u224, u225, u226, u227, u228, u229, u230, u231, u232, u233, u234, u235, u236, u237, u238, u239, u240, u241, u242, u243, u244, u245, u246, u247, u248, u249, u250, u251, u252, u253, u254, u255, u256, u257, u258, u259, u260, u261, u262, u263, u264, u265, u266, u267, u268, u269, u270, u271, u272, u273, u274, u275, u276, u277, u278, u279, u280, u281, u282, u283, u284, u285, u286, u287, u288, u289, u290, u291, u292, u293], []⟩ wx := by
  simp only [rchkC, Tryd.f12, Option.getD_some, tailC]
  have hsz := F.s3
  have hlm := F.e3
  have hlen := F.n.2.2
  have hlen1 := F.n.1
  have HF := Lib.hid F
  have hZ := Lib.hid (fun (wr : World) (b : Below (h + 1) w1 wr) (k : Nat) (v : Value) hv => (World.cell?_of_block (b.block h (Nat.lt_succ_self _))).trans (F.z k v hv))
  have HK := Lib.hid (fun (wr : World) (b : Below (h + 1) w1 wr) => F.k3.kept b (Nat.le_succ _))
  have ho5 := Lib.hid (fun (g5 : ¬ planOk' mj sw n1 l3) w' (b : Below (h + 1) w1 w') => F.o5 g2 g3 g4 g5 w' (F.b1.trans (b.mono (Nat.le_succ _))))
  have ho6 := Lib.hid (fun (g5 : planOk' mj sw n1 l3) w' (b : Below (h + 1) w1 w') => F.o6 g2 g3 g4 g5 w' (F.b1.trans (b.mono (Nat.le_succ _))))
  clear F g2 g3 g4
  have z1 := hZ.out wx bx 1 _ rfl
  have z2 := hZ.out wx bx 2 _ rfl
  have z5 := hZ.out wx bx 5 _ rfl
  by_cases q : mj < 1
  · have hn := Lib.hid (ho5.out (fun hp => by have := hp.1; omega) wx bx)
    clear ho5 ho6 hZ HK
    go_wp2
    exact hn.out
  by_cases q : mj > 100000
  · have hn := Lib.hid (ho5.out (fun hp => by have := hp.1; omega) wx bx)
    clear ho5 ho6 hZ HK
    go_wp2
    exact hn.out
  by_cases q : sw < 0
  · have hn := Lib.hid (ho5.out (fun hp => by have := hp.2.1; omega) wx bx)
    clear ho5 ho6 hZ HK
    go_wp2
    exact hn.out
  by_cases q : sw > 1000
  · have hn := Lib.hid (ho5.out (fun hp => by have := hp.2.1; omega) wx bx)
    clear ho5 ho6 hZ HK
    go_wp2
    exact hn.out
  by_cases q : (n3 : Int) < 1
  · have hn := Lib.hid (ho5.out (fun hp => by have := hp.2.2.1; omega) wx bx)
    clear ho5 ho6 hZ HK
    go_wp2
    exact hn.out
  by_cases q : (n3 : Int) > 32
  · have hn := Lib.hid (ho5.out (fun hp => by have := hp.2.2.1; omega) wx bx)
    clear ho5 ho6 hZ HK
    go_wp2
    exact hn.out
  have g1 : 1 ≤ mj ∧ mj ≤ 100000 := by omega
  have g2 : 0 ≤ sw ∧ sw ≤ 1000 := by omega
  have g3 : 1 ≤ n3 ∧ n3 ≤ 32 := by omega
  go_upto_region 36 with fail
  clear z1 z2 z5
  go_cut [10, 11] from 13 (fun e s wx => e = .int .i64 0 ∧ s = .int .i64 0 ∧ Below (h + 1) w1 wx)
  case first => go_wp2; go_meet; case rel => exact ⟨rfl, rfl, bx⟩
  case rest =>
    obtain ⟨rfl, rfl, bc⟩ := hcut
    refine ‹∀ (a : Act) (w : World), Code.wp _ _ _ a w → _› _ _ ?_
    go_wp2
    go_loopw [10, 11, 12] (fun s i _ wr => Below (h + 1) w1 wr ∧ ∃ j : Nat, j ≤ n3 ∧ i = .int .i64 j ∧ s = .int .i64 (endTo l3 j) ∧ ∀ (k : Nat) (x : Wn), k < j → l3[k]? = some x → okW mj sw n1 (endTo l3 k) x) (fun _ i _ _ => n3 - (intOf i).toNat)
    case atStart => exact ⟨bc, 0, Nat.zero_le _, rfl, rfl, fun k p hk => absurd hk (Nat.not_lt_zero _)⟩
    case round =>
      obtain ⟨b2, j, hj, rfl, rfl, hk⟩ := hrel
      have z1 := hZ.out wr b2 1 _ rfl
      have z2 := hZ.out wr b2 2 _ rfl
      have z3 := hZ.out wr b2 3 _ rfl
      have z5 := hZ.out wr b2 5 _ rfl
      by_cases hjl : j < n3
      · have hjI : (j : Int) < (n3 : Int) := by omega
        have hjb : j < 32 := by omega
        obtain ⟨x, hx⟩ : ∃ x, l3[j]? = some x := ⟨_, List.getElem?_eq_getElem (by omega)⟩
        obtain ⟨b, off, rfl, hbl, y0, y1, y2⟩ := (HK.out wr b2).cell3 j x hx rfl
        have hend := endTo_le l3 j g2.1 g1.2 hk (by omega) (by omega)
        have hnext := Lib.hid (fun hy : okW mj sw n1 (endTo l3 j) x => (⟨endTo_succ l3 j x hx, fun k q hkj hq => by
          by_cases e : k = j
          · subst e; rw [hx] at hq; cases hq; exact hy
          · exact hk k q (by omega) hq⟩ : endTo l3 (j + 1) = x.start + x.len ∧ ∀ (k : Nat) (q : Wn), k < j + 1 → l3[k]? = some q → okW mj sw n1 (endTo l3 k) q))
        have hno := Lib.hid (fun (hy : ¬ okW mj sw n1 (endTo l3 j) x) => ho5.out (fun hm => hy (hm.2.2.2 j x hx)))
        obtain ⟨⟨hs1, hs2⟩, hs3, hs4⟩ := hsz j x hx
        obtain ⟨en, hen⟩ : ∃ en, endTo l3 j = en := ⟨_, rfl⟩
        obtain ⟨st, ln, pt⟩ := x
        simp only at hnext hno y0 y1 y2 hs1 hs2 hs3 hs4
        rw [hen] at hend hnext hno ⊢
        obtain ⟨he1, he2⟩ := hend
        clear hx hk hen hsz ho5 ho6 HF
        go_upto_region 40 with fail
        obtain ⟨w2, hw2⟩ : ∃ w2, w2 = wr.alloc (.cells #[i64 st, i64 ln, i64 pt] 51) := ⟨_, rfl⟩
        have b3 := Lib.hid (by rw [hw2]; exact b2.alloc (by have := b2.size; have := (Array.getElem?_eq_some_iff.1 (show wr.heap[h]? = _ from by have := z1; exact (World.block_lt_of_cell? wr _ z1 |> fun h0 => Array.getElem?_eq_getElem h0))).1; omega) _ : Below (h + 1) w1 w2)
        obtain ⟨g, hg⟩ : ∃ g, wr.heap.size = g := ⟨_, rfl⟩
        have v0 : w2.cell? ⟨g, 0, none⟩ = some (i64 st) := by rw [hw2, ← hg]; rw [cell_of_row _ _ 0 _ _ _ (heap_alloc_new _ _)]; rfl
        have v1 : w2.cell? ⟨g, 1, none⟩ = some (i64 ln) := by rw [hw2, ← hg]; rw [cell_of_row _ _ 1 _ _ _ (heap_alloc_new _ _)]; rfl
        have v2 : w2.cell? ⟨g, 2, none⟩ = some (i64 pt) := by rw [hw2, ← hg]; rw [cell_of_row _ _ 2 _ _ _ (heap_alloc_new _ _)]; rfl
        have z1 := hZ.out w2 b3.out 1 _ rfl
        have z2 := hZ.out w2 b3.out 2 _ rfl
        have z3 := hZ.out w2 b3.out 3 _ rfl
        rw [hg, ← hw2]
        clear hw2 y0 y1 y2 z5 b2 hZ HK
        by_cases q : st < en
        · have hn := Lib.hid (hno.out (fun hy => absurd hy.1 (by show ¬ en ≤ st; omega)) w2 b3.out)
          clear hno hnext
          go_wp2
          exact hn.out
        by_cases q : st > mj
        · have hn := Lib.hid (hno.out (fun hy => by have h1 := hy.2.1; have h2 := hy.2.2.1; have h3 : sw < ln := h1; have h4 : ln ≤ mj - st := h2; omega) w2 b3.out)
          clear hno hnext
          go_wp2
          exact hn.out
        by_cases q : ln ≤ sw
        · have hn := Lib.hid (hno.out (fun hy => absurd hy.2.1 (by show ¬ sw < ln; omega)) w2 b3.out)
          clear hno hnext
          go_wp2
          exact hn.out
        have e1 : IntKind.i64.wrap (mj - st) = mj - st := by rw [IntKind.wrap_i64]; omega
        by_cases q : ln > mj - st
        · have hn := Lib.hid (hno.out (fun hy => absurd hy.2.2.1 (by show ¬ ln ≤ mj - st; omega)) w2 b3.out)
          clear hno hnext
          go_wp2
          exact hn.out
        by_cases q : pt < 0
        · have hn := Lib.hid (hno.out (fun hy => by have := hy.2.2.2.1; simp only at this; omega) w2 b3.out)
          clear hno hnext
          go_wp2
          exact hn.out
        by_cases q : pt ≥ (n1 : Int)
        · have hn := Lib.hid (hno.out (fun hy => by have := hy.2.2.2.2; simp only at this; omega) w2 b3.out)
          clear hno hnext
          go_wp2
          exact hn.out
        have hn := Lib.hid (hnext.out ⟨by show en ≤ st; omega, by show sw < ln; omega, by show ln ≤ mj - st; omega, by show 0 ≤ pt; omega, by show pt < (n1 : Int); omega⟩)
        have e2 : IntKind.i64.wrap (st + ln) = st + ln := by rw [IntKind.wrap_i64]; omega
        clear hno hnext
        go_wp2
        go_roundw
        case rel => exact ⟨b3.out, j + 1, hjl, by go_num, by rw [hn.out.1], hn.out.2⟩
        case measure => simp [intOf]; omega
      · have hjm : j = n3 := by omega
        subst hjm
        have hr := Lib.hid (ho6.out ⟨g1, g2, by omega, fun k q hq => hk k q (by have := (List.getElem?_eq_some_iff.1 hq).1; omega) hq⟩ wr b2)
        clear hk hsz ho5 ho6 HF hZ HK
        go_wp2
        exact hr.out
end Go.Proofs.YtogbhgbnminpdaaDoor.Cfg
