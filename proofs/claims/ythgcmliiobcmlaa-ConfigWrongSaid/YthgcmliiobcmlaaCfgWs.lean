
/-
  ConfigWrong: the switch.
-/
import Derived.Test.YthgcmliiobcmlaaCfgV
set_option maxRecDepth 100000
set_option linter.unusedVariables false
namespace Go.Proofs.Ythgcmliiobcmlaa.Cfg
open Go.Proofs.Ythgcmliiobcmlaa
open Go.ChangeShapes Go.WideShapes Go.ChangeAt Go.RowKit
/-- What the law has at hand where it asks Check. -/
def Hand (w : World) (hb : Nat) (ok e : Value) (wx : World) : Prop := ∃ (b : Bool) (k : Int) (c : Cf) (v1 v2 v3 : Value), ok = .bool b ∧ e = .int .i64 k ∧ Cb w wx hb c v1 v2 v3 ∧ Wf c ∧ chk c = if b = true then 0 else k
/-- What is left of a row of statements; a part of one. -/
def tailW : Nat → Code → Code
  | 0, c => c
  | n + 1, .seq _ b => tailW n b
  | _ + 1, c => c
def subW : List Nat → Code → Code
  | [], c => c
  | 0 :: r, .seq a _ => subW r a
  | _ :: r, .seq _ b => subW r b
  | _ :: r, .block _ c => subW r c
  | _ :: r, .loop c => subW r c
  | _, c => c
/-- The switch. -/
noncomputable abbrev swC : Code := subW [0, 1] (tailW 9 ((Try.f3.body).getD .skip))
set_option maxHeartbeats 8000000 in
theorem sw_0 {w wi : World} {hb : Nat} {p4 : Option Addr} {c4 g2 g5 : Nat} {a1 : Int} (r1 : -9223372036854775808 ≤ a1 ∧ a1 ≤ 9223372036854775807) (C : Cb w wi hb (cW 20 10 0 2 1 1 1 8 2 4 5 1) (.slice p4 2 c4) (.slice (some ⟨g2, 0, none⟩) 1 1) (.slice (some ⟨g5, 0, none⟩) 2 2)) (Q : Exit → Act → World → Prop) (u2 u3 u4 u5 u7 u8 u9 u10 u11 u12 u13 u14 u15 u16 u17 u18 u19 u20 u21 u22 u23 u24 u26 u27 u28 u29 u30 u31 u32 u33 u34 u35 u36 u37 u38 u39 u40 u41 u42 u43 u44 u45 u46 u47 u48 u49 u50 u51 u52 u53 u54 u55 u56 u57 u58 u59 u60 u61 u62 u63 u64 u65 u66 u67 u68 u69 u70 u71 u72 u73 u74 u75 u76 u77 u78 u79 u80 u81 u82 u83 u84 u85 u86 u87 u88 u89 u90 u91 u92 u93 u94 u95 u96 u97 u98 u99 u100 u101 u102 u103 u104 u105 u106 u107 u108 u109 u110 u111 u112 u113 u114 u115 u116 u117 u118 u119 u120 u121 u122 u123 u124 u125 u126 u127 u128 u129 u130 u131 u132 u133 u134 u135 u136 u137 u138 u139 u140 u141 u142 u143 u144 u145 u146 u147 u148 u149 u150 u151 u152 u153 u154 u155 u156 u157 u158 u159 u160 u161 u162 u163 u164 u165 u166 u167 u168 u169 u170 u171 u172 u173 u174 : Value)
    (hQ : ∀ (ok e : Value) (wx : World), Hand w hb ok e wx → ∀ (x26 x27 x28 x29 x30 x31 x32 x33 x34 x35 x36 x37 x38 x39 x40 x41 x42 x43 x44 x45 x46 x47 x48 x49 x50 x51 x52 x53 x54 x55 x56 x57 x58 x59 x60 x61 x62 x63 x64 x65 x66 x67 x68 x69 x70 x71 x72 x73 x74 x75 x76 x77 x78 x79 x80 x81 x82 x83 x84 x85 x86 x87 x88 x89 x90 x91 x92 x93 x94 x95 x96 x97 x98 x99 x100 x101 x102 x103 x104 x105 x106 x107 x108 x109 x110 x111 x112 x113 x114 x115 x116 x117 x118 x119 x120 x121 x122 x123 x124 x125 x126 x127 x128 x129 x130 x131 x132 x133 x134 x135 x136 x137 x138 x139 x140 x141 x142 x143 x144 x145 x146 x147 x148 x149 x150 x151 x152 x153 x154 x155 x156 x157 x158 x159 x160 x161 x162 x163 x164 x165 : Value), Q .normal ⟨#[.int .i64 0, .int .i64 a1, u2, u3, u4, u5, .pointer (some ⟨hb, 0, none⟩), ok, e, u9, u10, u11, u12, u13, u14, u15, u16, u17, u18, u19, u20, u21, u22, u23, u24, .int .i64 0, x26, x27, x28, x29, x30, x31, x32, x33, x34, x35, x36, x37, x38, x39, x40, x41, x42, x43, x44, x45, x46, x47, x48, x49, x50, x51, x52, x53, x54, x55, x56, x57, x58, x59, x60, x61, x62, x63, x64, x65, x66, x67, x68, x69, x70, x71, x72, x73, x74, x75, x76, x77, x78, x79, x80, x81, x82, x83, x84, x85, x86, x87, x88, x89, x90, x91, x92, x93, x94, x95, x96, x97, x98, x99, x100, x101, x102, x103, x104, x105, x106, x107, x108, x109, x110, x111, x112, x113, x114, x115, x116, x117, x118, x119, x120, x121, x122, x123, x124, x125, x126, x127, x128, x129, x130, x131, x132, x133, x134, x135, x136, x137, x138, x139, x140, x141, x142, x143, x144, x145, x146, x147, x148, x149, x150, x151, x152, x153, x154, x155, x156, x157, x158, x159, x160, x161, x162, x163, x164, x165, u166, u167, u168, u169, u170, u171, u172, u173, u174], []⟩ wx) :
    Code.wp Try.prog swC Q ⟨#[.int .i64 0, .int .i64 a1, u2, u3, u4, u5, .pointer (some ⟨hb, 0, none⟩), u7, u8, u9, u10, u11, u12, u13, u14, u15, u16, u17, u18, u19, u20, u21, u22, u23, u24, .int .i64 0, u26, u27, u28, u29, u30, u31, u32, u33, u34, u35, u36, u37, u38, u39, u40, u41, u42, u43, u44, u45, u46, u47, u48, u49, u50, u51, u52, u53, u54, u55, u56, u57, u58, u59, u60, u61, u62, u63, u64, u65, u66, u67, u68, u69, u70, u71, u72, u73, u74, u75, u76, u77, u78, u79, u80, u81, u82, u83, u84, u85, u86, u87, u88, u89, u90, u91, u92, u93, u94, u95, u96, u97, u98, u99, u100, u101, u102, u103, u104, u105, u106, u107, u108, u109, u110, u111, u112, u113, u114, u115, u116, u117, u118, u119, u120, u121, u122, u123, u124, u125, u126, u127, u128, u129, u130, u131, u132, u133, u134, u135, u136, u137, u138, u139, u140, u141, u142, u143, u144, u145, u146, u147, u148, u149, u150, u151, u152, u153, u154, u155, u156, u157, u158, u159, u160, u161, u162, u163, u164, u165, u166, u167, u168, u169, u170, u171, u172, u173, u174], []⟩ wi := by
  simp only [swC, Try.f3, Option.getD_some, tailW, subW]
  replace hQ := Lib.hid hQ
  replace C := Lib.hid C
  have z := C.out.at 0 _ rfl
  have fz := C.out.fr 0
  have CC := Lib.hid (C.out.num (cW a1 10 0 2 1 1 1 8 2 4 5 1) 0 (.int .i64 a1) rfl rfl rfl rfl)
  clear C
  by_cases c1 : 7 ≤ a1
  · by_cases c2 : a1 ≤ 256
    · skip
      have hd := Lib.hid (hQ.out _ _ _ ⟨true, 11, cW a1 10 0 2 1 1 1 8 2 4 5 1, _, _, _, rfl, rfl, CC.out, cW_wf (by omega) (by omega) (by omega) (by omega) (by omega) (by omega), by rw [cW_chk]; first | ((repeat (first | rw [if_neg (by omega)] | rw [if_pos (by omega)])); all_goals rfl) | (by_cases hx : 5 ≤ a1 <;> ((repeat (first | rw [if_neg (by omega)] | rw [if_pos (by omega)])); all_goals rfl))⟩)
      clear CC hQ
      go_wp2
      exact hd.out _ _ _ _ _ _ _ _ _ _ _ _ _ _ _ _ _ _ _ _ _ _ _ _ _ _ _ _ _ _ _ _ _ _ _ _ _ _ _ _ _ _ _ _ _ _ _ _ _ _ _ _ _ _ _ _ _ _ _ _ _ _ _ _ _ _ _ _ _ _ _ _ _ _ _ _ _ _ _ _ _ _ _ _ _ _ _ _ _ _ _ _ _ _ _ _ _ _ _ _ _ _ _ _ _ _ _ _ _ _ _ _ _ _ _ _ _ _ _ _ _ _ _ _ _ _ _ _ _ _ _ _ _ _ _ _ _ _ _ _
    · skip
      have hd := Lib.hid (hQ.out _ _ _ ⟨false, 11, cW a1 10 0 2 1 1 1 8 2 4 5 1, _, _, _, rfl, rfl, CC.out, cW_wf (by omega) (by omega) (by omega) (by omega) (by omega) (by omega), by rw [cW_chk]; first | ((repeat (first | rw [if_neg (by omega)] | rw [if_pos (by omega)])); all_goals rfl) | (by_cases hx : 5 ≤ a1 <;> ((repeat (first | rw [if_neg (by omega)] | rw [if_pos (by omega)])); all_goals rfl))⟩)
      clear CC hQ
      go_wp2
      exact hd.out _ _ _ _ _ _ _ _ _ _ _ _ _ _ _ _ _ _ _ _ _ _ _ _ _ _ _ _ _ _ _ _ _ _ _ _ _ _ _ _ _ _ _ _ _ _ _ _ _ _ _ _ _ _ _ _ _ _ _ _ _ _ _ _ _ _ _ _ _ _ _ _ _ _ _ _ _ _ _ _ _ _ _ _ _ _ _ _ _ _ _ _ _ _ _ _ _ _ _ _ _ _ _ _ _ _ _ _ _ _ _ _ _ _ _ _ _ _ _ _ _ _ _ _ _ _ _ _ _ _ _ _ _ _ _ _ _ _ _ _
  · skip
    have hd := Lib.hid (hQ.out _ _ _ ⟨false, 11, cW a1 10 0 2 1 1 1 8 2 4 5 1, _, _, _, rfl, rfl, CC.out, cW_wf (by omega) (by omega) (by omega) (by omega) (by omega) (by omega), by rw [cW_chk]; first | ((repeat (first | rw [if_neg (by omega)] | rw [if_pos (by omega)])); all_goals rfl) | (by_cases hx : 5 ≤ a1 <;> ((repeat (first | rw [if_neg (by omega)] | rw [if_pos (by omega)])); all_goals rfl))⟩)
    clear CC hQ
    go_wp2
    exact hd.out _ _ _ _ _ _ _ _ _ _ _ _ _ _ _ _ _ _ _ _ _ _ _ _ _ _ _ _ _ _ _ _ _ _ _ _ _ _ _ _ _ _ _ _ _ _ _ _ _ _ _ _ _ _ _ _ _ _ _ _ _ _ _ _ _ _ _ _ _ _ _ _ _ _ _ _ _ _ _ _ _ _ _ _ _ _ _ _ _ _ _ _ _ _ _ _ _ _ _ _ _ _ _ _ _ _ _ _ _ _ _ _ _ _ _ _ _ _ _ _ _ _ _ _ _ _ _ _ _ _ _ _ _ _ _ _ _ _ _ _
set_option maxHeartbeats 8000000 in
theorem sw_1 {w wi : World} {hb : Nat} {p4 : Option Addr} {c4 g2 g5 : Nat} {a1 : Int} (r1 : -9223372036854775808 ≤ a1 ∧ a1 ≤ 9223372036854775807) (C : Cb w wi hb (cW 20 10 0 2 1 1 1 8 2 4 5 1) (.slice p4 2 c4) (.slice (some ⟨g2, 0, none⟩) 1 1) (.slice (some ⟨g5, 0, none⟩) 2 2)) (Q : Exit → Act → World → Prop) (u2 u3 u4 u5 u7 u8 u9 u10 u11 u12 u13 u14 u15 u16 u17 u18 u19 u20 u21 u22 u23 u24 u26 u27 u28 u29 u30 u31 u32 u33 u34 u35 u36 u37 u38 u39 u40 u41 u42 u43 u44 u45 u46 u47 u48 u49 u50 u51 u52 u53 u54 u55 u56 u57 u58 u59 u60 u61 u62 u63 u64 u65 u66 u67 u68 u69 u70 u71 u72 u73 u74 u75 u76 u77 u78 u79 u80 u81 u82 u83 u84 u85 u86 u87 u88 u89 u90 u91 u92 u93 u94 u95 u96 u97 u98 u99 u100 u101 u102 u103 u104 u105 u106 u107 u108 u109 u110 u111 u112 u113 u114 u115 u116 u117 u118 u119 u120 u121 u122 u123 u124 u125 u126 u127 u128 u129 u130 u131 u132 u133 u134 u135 u136 u137 u138 u139 u140 u141 u142 u143 u144 u145 u146 u147 u148 u149 u150 u151 u152 u153 u154 u155 u156 u157 u158 u159 u160 u161 u162 u163 u164 u165 u166 u167 u168 u169 u170 u171 u172 u173 u174 : Value)
    (hQ : ∀ (ok e : Value) (wx : World), Hand w hb ok e wx → ∀ (x26 x27 x28 x29 x30 x31 x32 x33 x34 x35 x36 x37 x38 x39 x40 x41 x42 x43 x44 x45 x46 x47 x48 x49 x50 x51 x52 x53 x54 x55 x56 x57 x58 x59 x60 x61 x62 x63 x64 x65 x66 x67 x68 x69 x70 x71 x72 x73 x74 x75 x76 x77 x78 x79 x80 x81 x82 x83 x84 x85 x86 x87 x88 x89 x90 x91 x92 x93 x94 x95 x96 x97 x98 x99 x100 x101 x102 x103 x104 x105 x106 x107 x108 x109 x110 x111 x112 x113 x114 x115 x116 x117 x118 x119 x120 x121 x122 x123 x124 x125 x126 x127 x128 x129 x130 x131 x132 x133 x134 x135 x136 x137 x138 x139 x140 x141 x142 x143 x144 x145 x146 x147 x148 x149 x150 x151 x152 x153 x154 x155 x156 x157 x158 x159 x160 x161 x162 x163 x164 x165 : Value), Q .normal ⟨#[.int .i64 1, .int .i64 a1, u2, u3, u4, u5, .pointer (some ⟨hb, 0, none⟩), ok, e, u9, u10, u11, u12, u13, u14, u15, u16, u17, u18, u19, u20, u21, u22, u23, u24, .int .i64 1, x26, x27, x28, x29, x30, x31, x32, x33, x34, x35, x36, x37, x38, x39, x40, x41, x42, x43, x44, x45, x46, x47, x48, x49, x50, x51, x52, x53, x54, x55, x56, x57, x58, x59, x60, x61, x62, x63, x64, x65, x66, x67, x68, x69, x70, x71, x72, x73, x74, x75, x76, x77, x78, x79, x80, x81, x82, x83, x84, x85, x86, x87, x88, x89, x90, x91, x92, x93, x94, x95, x96, x97, x98, x99, x100, x101, x102, x103, x104, x105, x106, x107, x108, x109, x110, x111, x112, x113, x114, x115, x116, x117, x118, x119, x120, x121, x122, x123, x124, x125, x126, x127, x128, x129, x130, x131, x132, x133, x134, x135, x136, x137, x138, x139, x140, x141, x142, x143, x144, x145, x146, x147, x148, x149, x150, x151, x152, x153, x154, x155, x156, x157, x158, x159, x160, x161, x162, x163, x164, x165, u166, u167, u168, u169, u170, u171, u172, u173, u174], []⟩ wx) :
    Code.wp Try.prog swC Q ⟨#[.int .i64 1, .int .i64 a1, u2, u3, u4, u5, .pointer (some ⟨hb, 0, none⟩), u7, u8, u9, u10, u11, u12, u13, u14, u15, u16, u17, u18, u19, u20, u21, u22, u23, u24, .int .i64 1, u26, u27, u28, u29, u30, u31, u32, u33, u34, u35, u36, u37, u38, u39, u40, u41, u42, u43, u44, u45, u46, u47, u48, u49, u50, u51, u52, u53, u54, u55, u56, u57, u58, u59, u60, u61, u62, u63, u64, u65, u66, u67, u68, u69, u70, u71, u72, u73, u74, u75, u76, u77, u78, u79, u80, u81, u82, u83, u84, u85, u86, u87, u88, u89, u90, u91, u92, u93, u94, u95, u96, u97, u98, u99, u100, u101, u102, u103, u104, u105, u106, u107, u108, u109, u110, u111, u112, u113, u114, u115, u116, u117, u118, u119, u120, u121, u122, u123, u124, u125, u126, u127, u128, u129, u130, u131, u132, u133, u134, u135, u136, u137, u138, u139, u140, u141, u142, u143, u144, u145, u146, u147, u148, u149, u150, u151, u152, u153, u154, u155, u156, u157, u158, u159, u160, u161, u162, u163, u164, u165, u166, u167, u168, u169, u170, u171, u172, u173, u174], []⟩ wi := by
  simp only [swC, Try.f3, Option.getD_some, tailW, subW]
  replace hQ := Lib.hid hQ
  replace C := Lib.hid C
  have z := C.out.at 3 _ rfl
  obtain ⟨gg, q, e, fz, zz, hput⟩ := C.out.put1 (i := 1) (k := 2) (x := ⟨⟨#[98]⟩, 2, 1⟩) rfl (by omega)
  injection e with e1 e2 e3
  clear e2
  subst e1 e3
  have zz := zz _ rfl
  have CC := Lib.hid (hput (.int .i64 a1) ⟨⟨#[98]⟩, 2, a1⟩ rfl : Cb w _ hb (cW 20 10 0 2 a1 1 1 8 2 4 5 1) _ _ _)
  clear hput
  simp only [Nat.one_mul, Nat.reduceAdd] at fz zz CC
  clear C
  by_cases c1 : a1 = 0
  · have d1 : (a1 == 0) = true := by simpa using c1
    have hd := Lib.hid (hQ.out _ _ _ ⟨true, 10, cW 20 10 0 2 a1 1 1 8 2 4 5 1, _, _, _, rfl, rfl, CC.out, cW_wf (by omega) (by omega) (by omega) (by omega) (by omega) (by omega), by rw [cW_chk]; first | ((repeat (first | rw [if_neg (by omega)] | rw [if_pos (by omega)])); all_goals rfl) | (by_cases hx : 5 ≤ a1 <;> ((repeat (first | rw [if_neg (by omega)] | rw [if_pos (by omega)])); all_goals rfl))⟩)
    clear CC hQ c1
    go_wp2
    exact hd.out _ _ _ _ _ _ _ _ _ _ _ _ _ _ _ _ _ _ _ _ _ _ _ _ _ _ _ _ _ _ _ _ _ _ _ _ _ _ _ _ _ _ _ _ _ _ _ _ _ _ _ _ _ _ _ _ _ _ _ _ _ _ _ _ _ _ _ _ _ _ _ _ _ _ _ _ _ _ _ _ _ _ _ _ _ _ _ _ _ _ _ _ _ _ _ _ _ _ _ _ _ _ _ _ _ _ _ _ _ _ _ _ _ _ _ _ _ _ _ _ _ _ _ _ _ _ _ _ _ _ _ _ _ _ _ _ _ _ _ _
  · have d1 : (a1 == 0) = false := by simpa using c1
    by_cases c2 : a1 = 1
    · have d2 : (a1 == 1) = true := by simpa using c2
      have hd := Lib.hid (hQ.out _ _ _ ⟨true, 10, cW 20 10 0 2 a1 1 1 8 2 4 5 1, _, _, _, rfl, rfl, CC.out, cW_wf (by omega) (by omega) (by omega) (by omega) (by omega) (by omega), by rw [cW_chk]; first | ((repeat (first | rw [if_neg (by omega)] | rw [if_pos (by omega)])); all_goals rfl) | (by_cases hx : 5 ≤ a1 <;> ((repeat (first | rw [if_neg (by omega)] | rw [if_pos (by omega)])); all_goals rfl))⟩)
      clear CC hQ c1 c2
      go_wp2
      exact hd.out _ _ _ _ _ _ _ _ _ _ _ _ _ _ _ _ _ _ _ _ _ _ _ _ _ _ _ _ _ _ _ _ _ _ _ _ _ _ _ _ _ _ _ _ _ _ _ _ _ _ _ _ _ _ _ _ _ _ _ _ _ _ _ _ _ _ _ _ _ _ _ _ _ _ _ _ _ _ _ _ _ _ _ _ _ _ _ _ _ _ _ _ _ _ _ _ _ _ _ _ _ _ _ _ _ _ _ _ _ _ _ _ _ _ _ _ _ _ _ _ _ _ _ _ _ _ _ _ _ _ _ _ _ _ _ _ _ _ _ _
    · have d2 : (a1 == 1) = false := by simpa using c2
      have hd := Lib.hid (hQ.out _ _ _ ⟨false, 10, cW 20 10 0 2 a1 1 1 8 2 4 5 1, _, _, _, rfl, rfl, CC.out, cW_wf (by omega) (by omega) (by omega) (by omega) (by omega) (by omega), by rw [cW_chk]; first | ((repeat (first | rw [if_neg (by omega)] | rw [if_pos (by omega)])); all_goals rfl) | (by_cases hx : 5 ≤ a1 <;> ((repeat (first | rw [if_neg (by omega)] | rw [if_pos (by omega)])); all_goals rfl))⟩)
      clear CC hQ c1 c2
      go_wp2
      exact hd.out _ _ _ _ _ _ _ _ _ _ _ _ _ _ _ _ _ _ _ _ _ _ _ _ _ _ _ _ _ _ _ _ _ _ _ _ _ _ _ _ _ _ _ _ _ _ _ _ _ _ _ _ _ _ _ _ _ _ _ _ _ _ _ _ _ _ _ _ _ _ _ _ _ _ _ _ _ _ _ _ _ _ _ _ _ _ _ _ _ _ _ _ _ _ _ _ _ _ _ _ _ _ _ _ _ _ _ _ _ _ _ _ _ _ _ _ _ _ _ _ _ _ _ _ _ _ _ _ _ _ _ _ _ _ _ _ _ _ _ _
set_option maxHeartbeats 8000000 in
theorem sw_2 {w wi : World} {hb : Nat} {p4 : Option Addr} {c4 g2 g5 : Nat} {a1 : Int} (r1 : -9223372036854775808 ≤ a1 ∧ a1 ≤ 9223372036854775807) (C : Cb w wi hb (cW 20 10 0 2 1 1 1 8 2 4 5 1) (.slice p4 2 c4) (.slice (some ⟨g2, 0, none⟩) 1 1) (.slice (some ⟨g5, 0, none⟩) 2 2)) (Q : Exit → Act → World → Prop) (u2 u3 u4 u5 u7 u8 u9 u10 u11 u12 u13 u14 u15 u16 u17 u18 u19 u20 u21 u22 u23 u24 u26 u27 u28 u29 u30 u31 u32 u33 u34 u35 u36 u37 u38 u39 u40 u41 u42 u43 u44 u45 u46 u47 u48 u49 u50 u51 u52 u53 u54 u55 u56 u57 u58 u59 u60 u61 u62 u63 u64 u65 u66 u67 u68 u69 u70 u71 u72 u73 u74 u75 u76 u77 u78 u79 u80 u81 u82 u83 u84 u85 u86 u87 u88 u89 u90 u91 u92 u93 u94 u95 u96 u97 u98 u99 u100 u101 u102 u103 u104 u105 u106 u107 u108 u109 u110 u111 u112 u113 u114 u115 u116 u117 u118 u119 u120 u121 u122 u123 u124 u125 u126 u127 u128 u129 u130 u131 u132 u133 u134 u135 u136 u137 u138 u139 u140 u141 u142 u143 u144 u145 u146 u147 u148 u149 u150 u151 u152 u153 u154 u155 u156 u157 u158 u159 u160 u161 u162 u163 u164 u165 u166 u167 u168 u169 u170 u171 u172 u173 u174 : Value)
    (hQ : ∀ (ok e : Value) (wx : World), Hand w hb ok e wx → ∀ (x26 x27 x28 x29 x30 x31 x32 x33 x34 x35 x36 x37 x38 x39 x40 x41 x42 x43 x44 x45 x46 x47 x48 x49 x50 x51 x52 x53 x54 x55 x56 x57 x58 x59 x60 x61 x62 x63 x64 x65 x66 x67 x68 x69 x70 x71 x72 x73 x74 x75 x76 x77 x78 x79 x80 x81 x82 x83 x84 x85 x86 x87 x88 x89 x90 x91 x92 x93 x94 x95 x96 x97 x98 x99 x100 x101 x102 x103 x104 x105 x106 x107 x108 x109 x110 x111 x112 x113 x114 x115 x116 x117 x118 x119 x120 x121 x122 x123 x124 x125 x126 x127 x128 x129 x130 x131 x132 x133 x134 x135 x136 x137 x138 x139 x140 x141 x142 x143 x144 x145 x146 x147 x148 x149 x150 x151 x152 x153 x154 x155 x156 x157 x158 x159 x160 x161 x162 x163 x164 x165 : Value), Q .normal ⟨#[.int .i64 2, .int .i64 a1, u2, u3, u4, u5, .pointer (some ⟨hb, 0, none⟩), ok, e, u9, u10, u11, u12, u13, u14, u15, u16, u17, u18, u19, u20, u21, u22, u23, u24, .int .i64 2, x26, x27, x28, x29, x30, x31, x32, x33, x34, x35, x36, x37, x38, x39, x40, x41, x42, x43, x44, x45, x46, x47, x48, x49, x50, x51, x52, x53, x54, x55, x56, x57, x58, x59, x60, x61, x62, x63, x64, x65, x66, x67, x68, x69, x70, x71, x72, x73, x74, x75, x76, x77, x78, x79, x80, x81, x82, x83, x84, x85, x86, x87, x88, x89, x90, x91, x92, x93, x94, x95, x96, x97, x98, x99, x100, x101, x102, x103, x104, x105, x106, x107, x108, x109, x110, x111, x112, x113, x114, x115, x116, x117, x118, x119, x120, x121, x122, x123, x124, x125, x126, x127, x128, x129, x130, x131, x132, x133, x134, x135, x136, x137, x138, x139, x140, x141, x142, x143, x144, x145, x146, x147, x148, x149, x150, x151, x152, x153, x154, x155, x156, x157, x158, x159, x160, x161, x162, x163, x164, x165, u166, u167, u168, u169, u170, u171, u172, u173, u174], []⟩ wx) :
    Code.wp Try.prog swC Q ⟨#[.int .i64 2, .int .i64 a1, u2, u3, u4, u5, .pointer (some ⟨hb, 0, none⟩), u7, u8, u9, u10, u11, u12, u13, u14, u15, u16, u17, u18, u19, u20, u21, u22, u23, u24, .int .i64 2, u26, u27, u28, u29, u30, u31, u32, u33, u34, u35, u36, u37, u38, u39, u40, u41, u42, u43, u44, u45, u46, u47, u48, u49, u50, u51, u52, u53, u54, u55, u56, u57, u58, u59, u60, u61, u62, u63, u64, u65, u66, u67, u68, u69, u70, u71, u72, u73, u74, u75, u76, u77, u78, u79, u80, u81, u82, u83, u84, u85, u86, u87, u88, u89, u90, u91, u92, u93, u94, u95, u96, u97, u98, u99, u100, u101, u102, u103, u104, u105, u106, u107, u108, u109, u110, u111, u112, u113, u114, u115, u116, u117, u118, u119, u120, u121, u122, u123, u124, u125, u126, u127, u128, u129, u130, u131, u132, u133, u134, u135, u136, u137, u138, u139, u140, u141, u142, u143, u144, u145, u146, u147, u148, u149, u150, u151, u152, u153, u154, u155, u156, u157, u158, u159, u160, u161, u162, u163, u164, u165, u166, u167, u168, u169, u170, u171, u172, u173, u174], []⟩ wi := by
  simp only [swC, Try.f3, Option.getD_some, tailW, subW]
  replace hQ := Lib.hid hQ
  replace C := Lib.hid C
  have z := C.out.at 3 _ rfl
  obtain ⟨gg, q, e, fz, zz, hput⟩ := C.out.put1 (i := 1) (k := 1) (x := ⟨⟨#[98]⟩, 2, 1⟩) rfl (by omega)
  injection e with e1 e2 e3
  clear e2
  subst e1 e3
  have zz := zz _ rfl
  have CC := Lib.hid (hput (.int .i64 a1) ⟨⟨#[98]⟩, a1, 1⟩ rfl : Cb w _ hb (cW 20 10 0 a1 1 1 1 8 2 4 5 1) _ _ _)
  clear hput
  simp only [Nat.one_mul, Nat.reduceAdd] at fz zz CC
  clear C
  by_cases c1 : 1 ≤ a1
  · by_cases c2 : a1 ≤ 15
    · skip
      have hd := Lib.hid (hQ.out _ _ _ ⟨true, 11, cW 20 10 0 a1 1 1 1 8 2 4 5 1, _, _, _, rfl, rfl, CC.out, cW_wf (by omega) (by omega) (by omega) (by omega) (by omega) (by omega), by rw [cW_chk]; first | ((repeat (first | rw [if_neg (by omega)] | rw [if_pos (by omega)])); all_goals rfl) | (by_cases hx : 5 ≤ a1 <;> ((repeat (first | rw [if_neg (by omega)] | rw [if_pos (by omega)])); all_goals rfl))⟩)
      clear CC hQ
      go_wp2
      exact hd.out _ _ _ _ _ _ _ _ _ _ _ _ _ _ _ _ _ _ _ _ _ _ _ _ _ _ _ _ _ _ _ _ _ _ _ _ _ _ _ _ _ _ _ _ _ _ _ _ _ _ _ _ _ _ _ _ _ _ _ _ _ _ _ _ _ _ _ _ _ _ _ _ _ _ _ _ _ _ _ _ _ _ _ _ _ _ _ _ _ _ _ _ _ _ _ _ _ _ _ _ _ _ _ _ _ _ _ _ _ _ _ _ _ _ _ _ _ _ _ _ _ _ _ _ _ _ _ _ _ _ _ _ _ _ _ _ _ _ _ _
    · skip
      have hd := Lib.hid (hQ.out _ _ _ ⟨false, 11, cW 20 10 0 a1 1 1 1 8 2 4 5 1, _, _, _, rfl, rfl, CC.out, cW_wf (by omega) (by omega) (by omega) (by omega) (by omega) (by omega), by rw [cW_chk]; first | ((repeat (first | rw [if_neg (by omega)] | rw [if_pos (by omega)])); all_goals rfl) | (by_cases hx : 5 ≤ a1 <;> ((repeat (first | rw [if_neg (by omega)] | rw [if_pos (by omega)])); all_goals rfl))⟩)
      clear CC hQ
      go_wp2
      exact hd.out _ _ _ _ _ _ _ _ _ _ _ _ _ _ _ _ _ _ _ _ _ _ _ _ _ _ _ _ _ _ _ _ _ _ _ _ _ _ _ _ _ _ _ _ _ _ _ _ _ _ _ _ _ _ _ _ _ _ _ _ _ _ _ _ _ _ _ _ _ _ _ _ _ _ _ _ _ _ _ _ _ _ _ _ _ _ _ _ _ _ _ _ _ _ _ _ _ _ _ _ _ _ _ _ _ _ _ _ _ _ _ _ _ _ _ _ _ _ _ _ _ _ _ _ _ _ _ _ _ _ _ _ _ _ _ _ _ _ _ _
  · skip
    have hd := Lib.hid (hQ.out _ _ _ ⟨false, 11, cW 20 10 0 a1 1 1 1 8 2 4 5 1, _, _, _, rfl, rfl, CC.out, cW_wf (by omega) (by omega) (by omega) (by omega) (by omega) (by omega), by rw [cW_chk]; first | ((repeat (first | rw [if_neg (by omega)] | rw [if_pos (by omega)])); all_goals rfl) | (by_cases hx : 5 ≤ a1 <;> ((repeat (first | rw [if_neg (by omega)] | rw [if_pos (by omega)])); all_goals rfl))⟩)
    clear CC hQ
    go_wp2
    exact hd.out _ _ _ _ _ _ _ _ _ _ _ _ _ _ _ _ _ _ _ _ _ _ _ _ _ _ _ _ _ _ _ _ _ _ _ _ _ _ _ _ _ _ _ _ _ _ _ _ _ _ _ _ _ _ _ _ _ _ _ _ _ _ _ _ _ _ _ _ _ _ _ _ _ _ _ _ _ _ _ _ _ _ _ _ _ _ _ _ _ _ _ _ _ _ _ _ _ _ _ _ _ _ _ _ _ _ _ _ _ _ _ _ _ _ _ _ _ _ _ _ _ _ _ _ _ _ _ _ _ _ _ _ _ _ _ _ _ _ _ _
set_option maxHeartbeats 8000000 in
theorem sw_3 {w wi : World} {hb : Nat} {p4 : Option Addr} {c4 g2 g5 : Nat} {a1 : Int} (r1 : -9223372036854775808 ≤ a1 ∧ a1 ≤ 9223372036854775807) (C : Cb w wi hb (cW 20 10 0 2 1 1 1 8 2 4 5 1) (.slice p4 2 c4) (.slice (some ⟨g2, 0, none⟩) 1 1) (.slice (some ⟨g5, 0, none⟩) 2 2)) (Q : Exit → Act → World → Prop) (u2 u3 u4 u5 u7 u8 u9 u10 u11 u12 u13 u14 u15 u16 u17 u18 u19 u20 u21 u22 u23 u24 u26 u27 u28 u29 u30 u31 u32 u33 u34 u35 u36 u37 u38 u39 u40 u41 u42 u43 u44 u45 u46 u47 u48 u49 u50 u51 u52 u53 u54 u55 u56 u57 u58 u59 u60 u61 u62 u63 u64 u65 u66 u67 u68 u69 u70 u71 u72 u73 u74 u75 u76 u77 u78 u79 u80 u81 u82 u83 u84 u85 u86 u87 u88 u89 u90 u91 u92 u93 u94 u95 u96 u97 u98 u99 u100 u101 u102 u103 u104 u105 u106 u107 u108 u109 u110 u111 u112 u113 u114 u115 u116 u117 u118 u119 u120 u121 u122 u123 u124 u125 u126 u127 u128 u129 u130 u131 u132 u133 u134 u135 u136 u137 u138 u139 u140 u141 u142 u143 u144 u145 u146 u147 u148 u149 u150 u151 u152 u153 u154 u155 u156 u157 u158 u159 u160 u161 u162 u163 u164 u165 u166 u167 u168 u169 u170 u171 u172 u173 u174 : Value)
    (hQ : ∀ (ok e : Value) (wx : World), Hand w hb ok e wx → ∀ (x26 x27 x28 x29 x30 x31 x32 x33 x34 x35 x36 x37 x38 x39 x40 x41 x42 x43 x44 x45 x46 x47 x48 x49 x50 x51 x52 x53 x54 x55 x56 x57 x58 x59 x60 x61 x62 x63 x64 x65 x66 x67 x68 x69 x70 x71 x72 x73 x74 x75 x76 x77 x78 x79 x80 x81 x82 x83 x84 x85 x86 x87 x88 x89 x90 x91 x92 x93 x94 x95 x96 x97 x98 x99 x100 x101 x102 x103 x104 x105 x106 x107 x108 x109 x110 x111 x112 x113 x114 x115 x116 x117 x118 x119 x120 x121 x122 x123 x124 x125 x126 x127 x128 x129 x130 x131 x132 x133 x134 x135 x136 x137 x138 x139 x140 x141 x142 x143 x144 x145 x146 x147 x148 x149 x150 x151 x152 x153 x154 x155 x156 x157 x158 x159 x160 x161 x162 x163 x164 x165 : Value), Q .normal ⟨#[.int .i64 3, .int .i64 a1, u2, u3, u4, u5, .pointer (some ⟨hb, 0, none⟩), ok, e, u9, u10, u11, u12, u13, u14, u15, u16, u17, u18, u19, u20, u21, u22, u23, u24, .int .i64 3, x26, x27, x28, x29, x30, x31, x32, x33, x34, x35, x36, x37, x38, x39, x40, x41, x42, x43, x44, x45, x46, x47, x48, x49, x50, x51, x52, x53, x54, x55, x56, x57, x58, x59, x60, x61, x62, x63, x64, x65, x66, x67, x68, x69, x70, x71, x72, x73, x74, x75, x76, x77, x78, x79, x80, x81, x82, x83, x84, x85, x86, x87, x88, x89, x90, x91, x92, x93, x94, x95, x96, x97, x98, x99, x100, x101, x102, x103, x104, x105, x106, x107, x108, x109, x110, x111, x112, x113, x114, x115, x116, x117, x118, x119, x120, x121, x122, x123, x124, x125, x126, x127, x128, x129, x130, x131, x132, x133, x134, x135, x136, x137, x138, x139, x140, x141, x142, x143, x144, x145, x146, x147, x148, x149, x150, x151, x152, x153, x154, x155, x156, x157, x158, x159, x160, x161, x162, x163, x164, x165, u166, u167, u168, u169, u170, u171, u172, u173, u174], []⟩ wx) :
    Code.wp Try.prog swC Q ⟨#[.int .i64 3, .int .i64 a1, u2, u3, u4, u5, .pointer (some ⟨hb, 0, none⟩), u7, u8, u9, u10, u11, u12, u13, u14, u15, u16, u17, u18, u19, u20, u21, u22, u23, u24, .int .i64 3, u26, u27, u28, u29, u30, u31, u32, u33, u34, u35, u36, u37, u38, u39, u40, u41, u42, u43, u44, u45, u46, u47, u48, u49, u50, u51, u52, u53, u54, u55, u56, u57, u58, u59, u60, u61, u62, u63, u64, u65, u66, u67, u68, u69, u70, u71, u72, u73, u74, u75, u76, u77, u78, u79, u80, u81, u82, u83, u84, u85, u86, u87, u88, u89, u90, u91, u92, u93, u94, u95, u96, u97, u98, u99, u100, u101, u102, u103, u104, u105, u106, u107, u108, u109, u110, u111, u112, u113, u114, u115, u116, u117, u118, u119, u120, u121, u122, u123, u124, u125, u126, u127, u128, u129, u130, u131, u132, u133, u134, u135, u136, u137, u138, u139, u140, u141, u142, u143, u144, u145, u146, u147, u148, u149, u150, u151, u152, u153, u154, u155, u156, u157, u158, u159, u160, u161, u162, u163, u164, u165, u166, u167, u168, u169, u170, u171, u172, u173, u174], []⟩ wi := by
  simp only [swC, Try.f3, Option.getD_some, tailW, subW]
  replace hQ := Lib.hid hQ
  replace C := Lib.hid C
  have z := C.out.at 4 _ rfl
  obtain ⟨gg, q, e, fz, zz, hput⟩ := C.out.put2 (i := 0) (k := 0) (x := ⟨1, 0, 1, 8, 2⟩) rfl (by omega)
  injection e with e1 e2 e3
  clear e2
  injection e1 with e1; injection e1 with e1; subst e1 e3
  have zz := zz _ rfl
  have CC := Lib.hid (hput (.int .i64 a1) ⟨a1, 0, 1, 8, 2⟩ rfl : Cb w _ hb (cW 20 10 0 2 1 a1 1 8 2 4 5 1) _ _ _)
  clear hput
  simp only [Nat.zero_mul, Nat.zero_add] at fz zz CC
  clear C
  by_cases c1 : a1 = 1
  · have d1 : (a1 == 1) = true := by simpa using c1
    have hd := Lib.hid (hQ.out _ _ _ ⟨true, 13, cW 20 10 0 2 1 a1 1 8 2 4 5 1, _, _, _, rfl, rfl, CC.out, cW_wf (by omega) (by omega) (by omega) (by omega) (by omega) (by omega), by rw [cW_chk]; first | ((repeat (first | rw [if_neg (by omega)] | rw [if_pos (by omega)])); all_goals rfl) | (by_cases hx : 5 ≤ a1 <;> ((repeat (first | rw [if_neg (by omega)] | rw [if_pos (by omega)])); all_goals rfl))⟩)
    clear CC hQ c1
    go_wp2
    exact hd.out _ _ _ _ _ _ _ _ _ _ _ _ _ _ _ _ _ _ _ _ _ _ _ _ _ _ _ _ _ _ _ _ _ _ _ _ _ _ _ _ _ _ _ _ _ _ _ _ _ _ _ _ _ _ _ _ _ _ _ _ _ _ _ _ _ _ _ _ _ _ _ _ _ _ _ _ _ _ _ _ _ _ _ _ _ _ _ _ _ _ _ _ _ _ _ _ _ _ _ _ _ _ _ _ _ _ _ _ _ _ _ _ _ _ _ _ _ _ _ _ _ _ _ _ _ _ _ _ _ _ _ _ _ _ _ _ _ _ _ _
  · have d1 : (a1 == 1) = false := by simpa using c1
    have hd := Lib.hid (hQ.out _ _ _ ⟨false, 13, cW 20 10 0 2 1 a1 1 8 2 4 5 1, _, _, _, rfl, rfl, CC.out, cW_wf (by omega) (by omega) (by omega) (by omega) (by omega) (by omega), by rw [cW_chk]; first | ((repeat (first | rw [if_neg (by omega)] | rw [if_pos (by omega)])); all_goals rfl) | (by_cases hx : 5 ≤ a1 <;> ((repeat (first | rw [if_neg (by omega)] | rw [if_pos (by omega)])); all_goals rfl))⟩)
    clear CC hQ c1
    go_wp2
    exact hd.out _ _ _ _ _ _ _ _ _ _ _ _ _ _ _ _ _ _ _ _ _ _ _ _ _ _ _ _ _ _ _ _ _ _ _ _ _ _ _ _ _ _ _ _ _ _ _ _ _ _ _ _ _ _ _ _ _ _ _ _ _ _ _ _ _ _ _ _ _ _ _ _ _ _ _ _ _ _ _ _ _ _ _ _ _ _ _ _ _ _ _ _ _ _ _ _ _ _ _ _ _ _ _ _ _ _ _ _ _ _ _ _ _ _ _ _ _ _ _ _ _ _ _ _ _ _ _ _ _ _ _ _ _ _ _ _ _ _ _ _
set_option maxHeartbeats 8000000 in
theorem sw_4 {w wi : World} {hb : Nat} {p4 : Option Addr} {c4 g2 g5 : Nat} {a1 : Int} (r1 : -9223372036854775808 ≤ a1 ∧ a1 ≤ 9223372036854775807) (C : Cb w wi hb (cW 20 10 0 2 1 1 1 8 2 4 5 1) (.slice p4 2 c4) (.slice (some ⟨g2, 0, none⟩) 1 1) (.slice (some ⟨g5, 0, none⟩) 2 2)) (Q : Exit → Act → World → Prop) (u2 u3 u4 u5 u7 u8 u9 u10 u11 u12 u13 u14 u15 u16 u17 u18 u19 u20 u21 u22 u23 u24 u26 u27 u28 u29 u30 u31 u32 u33 u34 u35 u36 u37 u38 u39 u40 u41 u42 u43 u44 u45 u46 u47 u48 u49 u50 u51 u52 u53 u54 u55 u56 u57 u58 u59 u60 u61 u62 u63 u64 u65 u66 u67 u68 u69 u70 u71 u72 u73 u74 u75 u76 u77 u78 u79 u80 u81 u82 u83 u84 u85 u86 u87 u88 u89 u90 u91 u92 u93 u94 u95 u96 u97 u98 u99 u100 u101 u102 u103 u104 u105 u106 u107 u108 u109 u110 u111 u112 u113 u114 u115 u116 u117 u118 u119 u120 u121 u122 u123 u124 u125 u126 u127 u128 u129 u130 u131 u132 u133 u134 u135 u136 u137 u138 u139 u140 u141 u142 u143 u144 u145 u146 u147 u148 u149 u150 u151 u152 u153 u154 u155 u156 u157 u158 u159 u160 u161 u162 u163 u164 u165 u166 u167 u168 u169 u170 u171 u172 u173 u174 : Value)
    (hQ : ∀ (ok e : Value) (wx : World), Hand w hb ok e wx → ∀ (x26 x27 x28 x29 x30 x31 x32 x33 x34 x35 x36 x37 x38 x39 x40 x41 x42 x43 x44 x45 x46 x47 x48 x49 x50 x51 x52 x53 x54 x55 x56 x57 x58 x59 x60 x61 x62 x63 x64 x65 x66 x67 x68 x69 x70 x71 x72 x73 x74 x75 x76 x77 x78 x79 x80 x81 x82 x83 x84 x85 x86 x87 x88 x89 x90 x91 x92 x93 x94 x95 x96 x97 x98 x99 x100 x101 x102 x103 x104 x105 x106 x107 x108 x109 x110 x111 x112 x113 x114 x115 x116 x117 x118 x119 x120 x121 x122 x123 x124 x125 x126 x127 x128 x129 x130 x131 x132 x133 x134 x135 x136 x137 x138 x139 x140 x141 x142 x143 x144 x145 x146 x147 x148 x149 x150 x151 x152 x153 x154 x155 x156 x157 x158 x159 x160 x161 x162 x163 x164 x165 : Value), Q .normal ⟨#[.int .i64 4, .int .i64 a1, u2, u3, u4, u5, .pointer (some ⟨hb, 0, none⟩), ok, e, u9, u10, u11, u12, u13, u14, u15, u16, u17, u18, u19, u20, u21, u22, u23, u24, .int .i64 4, x26, x27, x28, x29, x30, x31, x32, x33, x34, x35, x36, x37, x38, x39, x40, x41, x42, x43, x44, x45, x46, x47, x48, x49, x50, x51, x52, x53, x54, x55, x56, x57, x58, x59, x60, x61, x62, x63, x64, x65, x66, x67, x68, x69, x70, x71, x72, x73, x74, x75, x76, x77, x78, x79, x80, x81, x82, x83, x84, x85, x86, x87, x88, x89, x90, x91, x92, x93, x94, x95, x96, x97, x98, x99, x100, x101, x102, x103, x104, x105, x106, x107, x108, x109, x110, x111, x112, x113, x114, x115, x116, x117, x118, x119, x120, x121, x122, x123, x124, x125, x126, x127, x128, x129, x130, x131, x132, x133, x134, x135, x136, x137, x138, x139, x140, x141, x142, x143, x144, x145, x146, x147, x148, x149, x150, x151, x152, x153, x154, x155, x156, x157, x158, x159, x160, x161, x162, x163, x164, x165, u166, u167, u168, u169, u170, u171, u172, u173, u174], []⟩ wx) :
    Code.wp Try.prog swC Q ⟨#[.int .i64 4, .int .i64 a1, u2, u3, u4, u5, .pointer (some ⟨hb, 0, none⟩), u7, u8, u9, u10, u11, u12, u13, u14, u15, u16, u17, u18, u19, u20, u21, u22, u23, u24, .int .i64 4, u26, u27, u28, u29, u30, u31, u32, u33, u34, u35, u36, u37, u38, u39, u40, u41, u42, u43, u44, u45, u46, u47, u48, u49, u50, u51, u52, u53, u54, u55, u56, u57, u58, u59, u60, u61, u62, u63, u64, u65, u66, u67, u68, u69, u70, u71, u72, u73, u74, u75, u76, u77, u78, u79, u80, u81, u82, u83, u84, u85, u86, u87, u88, u89, u90, u91, u92, u93, u94, u95, u96, u97, u98, u99, u100, u101, u102, u103, u104, u105, u106, u107, u108, u109, u110, u111, u112, u113, u114, u115, u116, u117, u118, u119, u120, u121, u122, u123, u124, u125, u126, u127, u128, u129, u130, u131, u132, u133, u134, u135, u136, u137, u138, u139, u140, u141, u142, u143, u144, u145, u146, u147, u148, u149, u150, u151, u152, u153, u154, u155, u156, u157, u158, u159, u160, u161, u162, u163, u164, u165, u166, u167, u168, u169, u170, u171, u172, u173, u174], []⟩ wi := by
  simp only [swC, Try.f3, Option.getD_some, tailW, subW]
  replace hQ := Lib.hid hQ
  replace C := Lib.hid C
  have z := C.out.at 4 _ rfl
  obtain ⟨gg, q, e, fz, zz, hput⟩ := C.out.put2 (i := 0) (k := 2) (x := ⟨1, 0, 1, 8, 2⟩) rfl (by omega)
  injection e with e1 e2 e3
  clear e2
  injection e1 with e1; injection e1 with e1; subst e1 e3
  have zz := zz _ rfl
  have CC := Lib.hid (hput (.int .i64 a1) ⟨1, 0, a1, 8, 2⟩ rfl : Cb w _ hb (cW 20 10 0 2 1 1 a1 8 2 4 5 1) _ _ _)
  clear hput
  simp only [Nat.zero_mul, Nat.zero_add] at fz zz CC
  clear C
  by_cases c1 : a1 = 1
  · have d1 : (a1 == 1) = true := by simpa using c1
    have hd := Lib.hid (hQ.out _ _ _ ⟨true, 13, cW 20 10 0 2 1 1 a1 8 2 4 5 1, _, _, _, rfl, rfl, CC.out, cW_wf (by omega) (by omega) (by omega) (by omega) (by omega) (by omega), by rw [cW_chk]; first | ((repeat (first | rw [if_neg (by omega)] | rw [if_pos (by omega)])); all_goals rfl) | (by_cases hx : 5 ≤ a1 <;> ((repeat (first | rw [if_neg (by omega)] | rw [if_pos (by omega)])); all_goals rfl))⟩)
    clear CC hQ c1
    go_wp2
    exact hd.out _ _ _ _ _ _ _ _ _ _ _ _ _ _ _ _ _ _ _ _ _ _ _ _ _ _ _ _ _ _ _ _ _ _ _ _ _ _ _ _ _ _ _ _ _ _ _ _ _ _ _ _ _ _ _ _ _ _ _ _ _ _ _ _ _ _ _ _ _ _ _ _ _ _ _ _ _ _ _ _ _ _ _ _ _ _ _ _ _ _ _ _ _ _ _ _ _ _ _ _ _ _ _ _ _ _ _ _ _ _ _ _ _ _ _ _ _ _ _ _ _ _ _ _ _ _ _ _ _ _ _ _ _ _ _ _ _ _ _ _
  · have d1 : (a1 == 1) = false := by simpa using c1
    have hd := Lib.hid (hQ.out _ _ _ ⟨false, 13, cW 20 10 0 2 1 1 a1 8 2 4 5 1, _, _, _, rfl, rfl, CC.out, cW_wf (by omega) (by omega) (by omega) (by omega) (by omega) (by omega), by rw [cW_chk]; first | ((repeat (first | rw [if_neg (by omega)] | rw [if_pos (by omega)])); all_goals rfl) | (by_cases hx : 5 ≤ a1 <;> ((repeat (first | rw [if_neg (by omega)] | rw [if_pos (by omega)])); all_goals rfl))⟩)
    clear CC hQ c1
    go_wp2
    exact hd.out _ _ _ _ _ _ _ _ _ _ _ _ _ _ _ _ _ _ _ _ _ _ _ _ _ _ _ _ _ _ _ _ _ _ _ _ _ _ _ _ _ _ _ _ _ _ _ _ _ _ _ _ _ _ _ _ _ _ _ _ _ _ _ _ _ _ _ _ _ _ _ _ _ _ _ _ _ _ _ _ _ _ _ _ _ _ _ _ _ _ _ _ _ _ _ _ _ _ _ _ _ _ _ _ _ _ _ _ _ _ _ _ _ _ _ _ _ _ _ _ _ _ _ _ _ _ _ _ _ _ _ _ _ _ _ _ _ _ _ _
set_option maxHeartbeats 8000000 in
theorem sw_5 {w wi : World} {hb : Nat} {p4 : Option Addr} {c4 g2 g5 : Nat} {a1 : Int} (r1 : -9223372036854775808 ≤ a1 ∧ a1 ≤ 9223372036854775807) (C : Cb w wi hb (cW 20 10 0 2 1 1 1 8 2 4 5 1) (.slice p4 2 c4) (.slice (some ⟨g2, 0, none⟩) 1 1) (.slice (some ⟨g5, 0, none⟩) 2 2)) (Q : Exit → Act → World → Prop) (u2 u3 u4 u5 u7 u8 u9 u10 u11 u12 u13 u14 u15 u16 u17 u18 u19 u20 u21 u22 u23 u24 u26 u27 u28 u29 u30 u31 u32 u33 u34 u35 u36 u37 u38 u39 u40 u41 u42 u43 u44 u45 u46 u47 u48 u49 u50 u51 u52 u53 u54 u55 u56 u57 u58 u59 u60 u61 u62 u63 u64 u65 u66 u67 u68 u69 u70 u71 u72 u73 u74 u75 u76 u77 u78 u79 u80 u81 u82 u83 u84 u85 u86 u87 u88 u89 u90 u91 u92 u93 u94 u95 u96 u97 u98 u99 u100 u101 u102 u103 u104 u105 u106 u107 u108 u109 u110 u111 u112 u113 u114 u115 u116 u117 u118 u119 u120 u121 u122 u123 u124 u125 u126 u127 u128 u129 u130 u131 u132 u133 u134 u135 u136 u137 u138 u139 u140 u141 u142 u143 u144 u145 u146 u147 u148 u149 u150 u151 u152 u153 u154 u155 u156 u157 u158 u159 u160 u161 u162 u163 u164 u165 u166 u167 u168 u169 u170 u171 u172 u173 u174 : Value)
    (hQ : ∀ (ok e : Value) (wx : World), Hand w hb ok e wx → ∀ (x26 x27 x28 x29 x30 x31 x32 x33 x34 x35 x36 x37 x38 x39 x40 x41 x42 x43 x44 x45 x46 x47 x48 x49 x50 x51 x52 x53 x54 x55 x56 x57 x58 x59 x60 x61 x62 x63 x64 x65 x66 x67 x68 x69 x70 x71 x72 x73 x74 x75 x76 x77 x78 x79 x80 x81 x82 x83 x84 x85 x86 x87 x88 x89 x90 x91 x92 x93 x94 x95 x96 x97 x98 x99 x100 x101 x102 x103 x104 x105 x106 x107 x108 x109 x110 x111 x112 x113 x114 x115 x116 x117 x118 x119 x120 x121 x122 x123 x124 x125 x126 x127 x128 x129 x130 x131 x132 x133 x134 x135 x136 x137 x138 x139 x140 x141 x142 x143 x144 x145 x146 x147 x148 x149 x150 x151 x152 x153 x154 x155 x156 x157 x158 x159 x160 x161 x162 x163 x164 x165 : Value), Q .normal ⟨#[.int .i64 5, .int .i64 a1, u2, u3, u4, u5, .pointer (some ⟨hb, 0, none⟩), ok, e, u9, u10, u11, u12, u13, u14, u15, u16, u17, u18, u19, u20, u21, u22, u23, u24, .int .i64 5, x26, x27, x28, x29, x30, x31, x32, x33, x34, x35, x36, x37, x38, x39, x40, x41, x42, x43, x44, x45, x46, x47, x48, x49, x50, x51, x52, x53, x54, x55, x56, x57, x58, x59, x60, x61, x62, x63, x64, x65, x66, x67, x68, x69, x70, x71, x72, x73, x74, x75, x76, x77, x78, x79, x80, x81, x82, x83, x84, x85, x86, x87, x88, x89, x90, x91, x92, x93, x94, x95, x96, x97, x98, x99, x100, x101, x102, x103, x104, x105, x106, x107, x108, x109, x110, x111, x112, x113, x114, x115, x116, x117, x118, x119, x120, x121, x122, x123, x124, x125, x126, x127, x128, x129, x130, x131, x132, x133, x134, x135, x136, x137, x138, x139, x140, x141, x142, x143, x144, x145, x146, x147, x148, x149, x150, x151, x152, x153, x154, x155, x156, x157, x158, x159, x160, x161, x162, x163, x164, x165, u166, u167, u168, u169, u170, u171, u172, u173, u174], []⟩ wx) :
    Code.wp Try.prog swC Q ⟨#[.int .i64 5, .int .i64 a1, u2, u3, u4, u5, .pointer (some ⟨hb, 0, none⟩), u7, u8, u9, u10, u11, u12, u13, u14, u15, u16, u17, u18, u19, u20, u21, u22, u23, u24, .int .i64 5, u26, u27, u28, u29, u30, u31, u32, u33, u34, u35, u36, u37, u38, u39, u40, u41, u42, u43, u44, u45, u46, u47, u48, u49, u50, u51, u52, u53, u54, u55, u56, u57, u58, u59, u60, u61, u62, u63, u64, u65, u66, u67, u68, u69, u70, u71, u72, u73, u74, u75, u76, u77, u78, u79, u80, u81, u82, u83, u84, u85, u86, u87, u88, u89, u90, u91, u92, u93, u94, u95, u96, u97, u98, u99, u100, u101, u102, u103, u104, u105, u106, u107, u108, u109, u110, u111, u112, u113, u114, u115, u116, u117, u118, u119, u120, u121, u122, u123, u124, u125, u126, u127, u128, u129, u130, u131, u132, u133, u134, u135, u136, u137, u138, u139, u140, u141, u142, u143, u144, u145, u146, u147, u148, u149, u150, u151, u152, u153, u154, u155, u156, u157, u158, u159, u160, u161, u162, u163, u164, u165, u166, u167, u168, u169, u170, u171, u172, u173, u174], []⟩ wi := by
  simp only [swC, Try.f3, Option.getD_some, tailW, subW]
  replace hQ := Lib.hid hQ
  replace C := Lib.hid C
  have z := C.out.at 4 _ rfl
  obtain ⟨gg, q, e, fz, zz, hput⟩ := C.out.put2 (i := 0) (k := 3) (x := ⟨1, 0, 1, 8, 2⟩) rfl (by omega)
  injection e with e1 e2 e3
  clear e2
  injection e1 with e1; injection e1 with e1; subst e1 e3
  have zz := zz _ rfl
  have CC := Lib.hid (hput (.int .i64 a1) ⟨1, 0, 1, a1, 2⟩ rfl : Cb w _ hb (cW 20 10 0 2 1 1 1 a1 2 4 5 1) _ _ _)
  clear hput
  simp only [Nat.zero_mul, Nat.zero_add] at fz zz CC
  clear C
  by_cases c1 : 1 ≤ a1
  · by_cases c2 : a1 ≤ 64
    · skip
      have hd := Lib.hid (hQ.out _ _ _ ⟨true, 13, cW 20 10 0 2 1 1 1 a1 2 4 5 1, _, _, _, rfl, rfl, CC.out, cW_wf (by omega) (by omega) (by omega) (by omega) (by omega) (by omega), by rw [cW_chk]; first | ((repeat (first | rw [if_neg (by omega)] | rw [if_pos (by omega)])); all_goals rfl) | (by_cases hx : 5 ≤ a1 <;> ((repeat (first | rw [if_neg (by omega)] | rw [if_pos (by omega)])); all_goals rfl))⟩)
      clear CC hQ
      go_wp2
      exact hd.out _ _ _ _ _ _ _ _ _ _ _ _ _ _ _ _ _ _ _ _ _ _ _ _ _ _ _ _ _ _ _ _ _ _ _ _ _ _ _ _ _ _ _ _ _ _ _ _ _ _ _ _ _ _ _ _ _ _ _ _ _ _ _ _ _ _ _ _ _ _ _ _ _ _ _ _ _ _ _ _ _ _ _ _ _ _ _ _ _ _ _ _ _ _ _ _ _ _ _ _ _ _ _ _ _ _ _ _ _ _ _ _ _ _ _ _ _ _ _ _ _ _ _ _ _ _ _ _ _ _ _ _ _ _ _ _ _ _ _ _
    · skip
      have hd := Lib.hid (hQ.out _ _ _ ⟨false, 13, cW 20 10 0 2 1 1 1 a1 2 4 5 1, _, _, _, rfl, rfl, CC.out, cW_wf (by omega) (by omega) (by omega) (by omega) (by omega) (by omega), by rw [cW_chk]; first | ((repeat (first | rw [if_neg (by omega)] | rw [if_pos (by omega)])); all_goals rfl) | (by_cases hx : 5 ≤ a1 <;> ((repeat (first | rw [if_neg (by omega)] | rw [if_pos (by omega)])); all_goals rfl))⟩)
      clear CC hQ
      go_wp2
      exact hd.out _ _ _ _ _ _ _ _ _ _ _ _ _ _ _ _ _ _ _ _ _ _ _ _ _ _ _ _ _ _ _ _ _ _ _ _ _ _ _ _ _ _ _ _ _ _ _ _ _ _ _ _ _ _ _ _ _ _ _ _ _ _ _ _ _ _ _ _ _ _ _ _ _ _ _ _ _ _ _ _ _ _ _ _ _ _ _ _ _ _ _ _ _ _ _ _ _ _ _ _ _ _ _ _ _ _ _ _ _ _ _ _ _ _ _ _ _ _ _ _ _ _ _ _ _ _ _ _ _ _ _ _ _ _ _ _ _ _ _ _
  · skip
    have hd := Lib.hid (hQ.out _ _ _ ⟨false, 13, cW 20 10 0 2 1 1 1 a1 2 4 5 1, _, _, _, rfl, rfl, CC.out, cW_wf (by omega) (by omega) (by omega) (by omega) (by omega) (by omega), by rw [cW_chk]; first | ((repeat (first | rw [if_neg (by omega)] | rw [if_pos (by omega)])); all_goals rfl) | (by_cases hx : 5 ≤ a1 <;> ((repeat (first | rw [if_neg (by omega)] | rw [if_pos (by omega)])); all_goals rfl))⟩)
    clear CC hQ
    go_wp2
    exact hd.out _ _ _ _ _ _ _ _ _ _ _ _ _ _ _ _ _ _ _ _ _ _ _ _ _ _ _ _ _ _ _ _ _ _ _ _ _ _ _ _ _ _ _ _ _ _ _ _ _ _ _ _ _ _ _ _ _ _ _ _ _ _ _ _ _ _ _ _ _ _ _ _ _ _ _ _ _ _ _ _ _ _ _ _ _ _ _ _ _ _ _ _ _ _ _ _ _ _ _ _ _ _ _ _ _ _ _ _ _ _ _ _ _ _ _ _ _ _ _ _ _ _ _ _ _ _ _ _ _ _ _ _ _ _ _ _ _ _ _ _
set_option maxHeartbeats 8000000 in
theorem sw_6 {w wi : World} {hb : Nat} {p4 : Option Addr} {c4 g2 g5 : Nat} {a1 : Int} (r1 : -9223372036854775808 ≤ a1 ∧ a1 ≤ 9223372036854775807) (C : Cb w wi hb (cW 20 10 0 2 1 1 1 8 2 4 5 1) (.slice p4 2 c4) (.slice (some ⟨g2, 0, none⟩) 1 1) (.slice (some ⟨g5, 0, none⟩) 2 2)) (Q : Exit → Act → World → Prop) (u2 u3 u4 u5 u7 u8 u9 u10 u11 u12 u13 u14 u15 u16 u17 u18 u19 u20 u21 u22 u23 u24 u26 u27 u28 u29 u30 u31 u32 u33 u34 u35 u36 u37 u38 u39 u40 u41 u42 u43 u44 u45 u46 u47 u48 u49 u50 u51 u52 u53 u54 u55 u56 u57 u58 u59 u60 u61 u62 u63 u64 u65 u66 u67 u68 u69 u70 u71 u72 u73 u74 u75 u76 u77 u78 u79 u80 u81 u82 u83 u84 u85 u86 u87 u88 u89 u90 u91 u92 u93 u94 u95 u96 u97 u98 u99 u100 u101 u102 u103 u104 u105 u106 u107 u108 u109 u110 u111 u112 u113 u114 u115 u116 u117 u118 u119 u120 u121 u122 u123 u124 u125 u126 u127 u128 u129 u130 u131 u132 u133 u134 u135 u136 u137 u138 u139 u140 u141 u142 u143 u144 u145 u146 u147 u148 u149 u150 u151 u152 u153 u154 u155 u156 u157 u158 u159 u160 u161 u162 u163 u164 u165 u166 u167 u168 u169 u170 u171 u172 u173 u174 : Value)
    (hQ : ∀ (ok e : Value) (wx : World), Hand w hb ok e wx → ∀ (x26 x27 x28 x29 x30 x31 x32 x33 x34 x35 x36 x37 x38 x39 x40 x41 x42 x43 x44 x45 x46 x47 x48 x49 x50 x51 x52 x53 x54 x55 x56 x57 x58 x59 x60 x61 x62 x63 x64 x65 x66 x67 x68 x69 x70 x71 x72 x73 x74 x75 x76 x77 x78 x79 x80 x81 x82 x83 x84 x85 x86 x87 x88 x89 x90 x91 x92 x93 x94 x95 x96 x97 x98 x99 x100 x101 x102 x103 x104 x105 x106 x107 x108 x109 x110 x111 x112 x113 x114 x115 x116 x117 x118 x119 x120 x121 x122 x123 x124 x125 x126 x127 x128 x129 x130 x131 x132 x133 x134 x135 x136 x137 x138 x139 x140 x141 x142 x143 x144 x145 x146 x147 x148 x149 x150 x151 x152 x153 x154 x155 x156 x157 x158 x159 x160 x161 x162 x163 x164 x165 : Value), Q .normal ⟨#[.int .i64 6, .int .i64 a1, u2, u3, u4, u5, .pointer (some ⟨hb, 0, none⟩), ok, e, u9, u10, u11, u12, u13, u14, u15, u16, u17, u18, u19, u20, u21, u22, u23, u24, .int .i64 6, x26, x27, x28, x29, x30, x31, x32, x33, x34, x35, x36, x37, x38, x39, x40, x41, x42, x43, x44, x45, x46, x47, x48, x49, x50, x51, x52, x53, x54, x55, x56, x57, x58, x59, x60, x61, x62, x63, x64, x65, x66, x67, x68, x69, x70, x71, x72, x73, x74, x75, x76, x77, x78, x79, x80, x81, x82, x83, x84, x85, x86, x87, x88, x89, x90, x91, x92, x93, x94, x95, x96, x97, x98, x99, x100, x101, x102, x103, x104, x105, x106, x107, x108, x109, x110, x111, x112, x113, x114, x115, x116, x117, x118, x119, x120, x121, x122, x123, x124, x125, x126, x127, x128, x129, x130, x131, x132, x133, x134, x135, x136, x137, x138, x139, x140, x141, x142, x143, x144, x145, x146, x147, x148, x149, x150, x151, x152, x153, x154, x155, x156, x157, x158, x159, x160, x161, x162, x163, x164, x165, u166, u167, u168, u169, u170, u171, u172, u173, u174], []⟩ wx) :
    Code.wp Try.prog swC Q ⟨#[.int .i64 6, .int .i64 a1, u2, u3, u4, u5, .pointer (some ⟨hb, 0, none⟩), u7, u8, u9, u10, u11, u12, u13, u14, u15, u16, u17, u18, u19, u20, u21, u22, u23, u24, .int .i64 6, u26, u27, u28, u29, u30, u31, u32, u33, u34, u35, u36, u37, u38, u39, u40, u41, u42, u43, u44, u45, u46, u47, u48, u49, u50, u51, u52, u53, u54, u55, u56, u57, u58, u59, u60, u61, u62, u63, u64, u65, u66, u67, u68, u69, u70, u71, u72, u73, u74, u75, u76, u77, u78, u79, u80, u81, u82, u83, u84, u85, u86, u87, u88, u89, u90, u91, u92, u93, u94, u95, u96, u97, u98, u99, u100, u101, u102, u103, u104, u105, u106, u107, u108, u109, u110, u111, u112, u113, u114, u115, u116, u117, u118, u119, u120, u121, u122, u123, u124, u125, u126, u127, u128, u129, u130, u131, u132, u133, u134, u135, u136, u137, u138, u139, u140, u141, u142, u143, u144, u145, u146, u147, u148, u149, u150, u151, u152, u153, u154, u155, u156, u157, u158, u159, u160, u161, u162, u163, u164, u165, u166, u167, u168, u169, u170, u171, u172, u173, u174], []⟩ wi := by
  simp only [swC, Try.f3, Option.getD_some, tailW, subW]
  replace hQ := Lib.hid hQ
  replace C := Lib.hid C
  have z := C.out.at 4 _ rfl
  obtain ⟨gg, q, e, fz, zz, hput⟩ := C.out.put2 (i := 0) (k := 4) (x := ⟨1, 0, 1, 8, 2⟩) rfl (by omega)
  injection e with e1 e2 e3
  clear e2
  injection e1 with e1; injection e1 with e1; subst e1 e3
  have zz := zz _ rfl
  have CC := Lib.hid (hput (.int .i64 a1) ⟨1, 0, 1, 8, a1⟩ rfl : Cb w _ hb (cW 20 10 0 2 1 1 1 8 a1 4 5 1) _ _ _)
  clear hput
  simp only [Nat.zero_mul, Nat.zero_add] at fz zz CC
  clear C
  by_cases c1 : 1 ≤ a1
  · by_cases c2 : a1 ≤ 16
    · skip
      have hd := Lib.hid (hQ.out _ _ _ ⟨true, 13, cW 20 10 0 2 1 1 1 8 a1 4 5 1, _, _, _, rfl, rfl, CC.out, cW_wf (by omega) (by omega) (by omega) (by omega) (by omega) (by omega), by rw [cW_chk]; first | ((repeat (first | rw [if_neg (by omega)] | rw [if_pos (by omega)])); all_goals rfl) | (by_cases hx : 5 ≤ a1 <;> ((repeat (first | rw [if_neg (by omega)] | rw [if_pos (by omega)])); all_goals rfl))⟩)
      clear CC hQ
      go_wp2
      exact hd.out _ _ _ _ _ _ _ _ _ _ _ _ _ _ _ _ _ _ _ _ _ _ _ _ _ _ _ _ _ _ _ _ _ _ _ _ _ _ _ _ _ _ _ _ _ _ _ _ _ _ _ _ _ _ _ _ _ _ _ _ _ _ _ _ _ _ _ _ _ _ _ _ _ _ _ _ _ _ _ _ _ _ _ _ _ _ _ _ _ _ _ _ _ _ _ _ _ _ _ _ _ _ _ _ _ _ _ _ _ _ _ _ _ _ _ _ _ _ _ _ _ _ _ _ _ _ _ _ _ _ _ _ _ _ _ _ _ _ _ _
    · skip
      have hd := Lib.hid (hQ.out _ _ _ ⟨false, 13, cW 20 10 0 2 1 1 1 8 a1 4 5 1, _, _, _, rfl, rfl, CC.out, cW_wf (by omega) (by omega) (by omega) (by omega) (by omega) (by omega), by rw [cW_chk]; first | ((repeat (first | rw [if_neg (by omega)] | rw [if_pos (by omega)])); all_goals rfl) | (by_cases hx : 5 ≤ a1 <;> ((repeat (first | rw [if_neg (by omega)] | rw [if_pos (by omega)])); all_goals rfl))⟩)
      clear CC hQ
      go_wp2
      exact hd.out _ _ _ _ _ _ _ _ _ _ _ _ _ _ _ _ _ _ _ _ _ _ _ _ _ _ _ _ _ _ _ _ _ _ _ _ _ _ _ _ _ _ _ _ _ _ _ _ _ _ _ _ _ _ _ _ _ _ _ _ _ _ _ _ _ _ _ _ _ _ _ _ _ _ _ _ _ _ _ _ _ _ _ _ _ _ _ _ _ _ _ _ _ _ _ _ _ _ _ _ _ _ _ _ _ _ _ _ _ _ _ _ _ _ _ _ _ _ _ _ _ _ _ _ _ _ _ _ _ _ _ _ _ _ _ _ _ _ _ _
  · skip
    have hd := Lib.hid (hQ.out _ _ _ ⟨false, 13, cW 20 10 0 2 1 1 1 8 a1 4 5 1, _, _, _, rfl, rfl, CC.out, cW_wf (by omega) (by omega) (by omega) (by omega) (by omega) (by omega), by rw [cW_chk]; first | ((repeat (first | rw [if_neg (by omega)] | rw [if_pos (by omega)])); all_goals rfl) | (by_cases hx : 5 ≤ a1 <;> ((repeat (first | rw [if_neg (by omega)] | rw [if_pos (by omega)])); all_goals rfl))⟩)
    clear CC hQ
    go_wp2
    exact hd.out _ _ _ _ _ _ _ _ _ _ _ _ _ _ _ _ _ _ _ _ _ _ _ _ _ _ _ _ _ _ _ _ _ _ _ _ _ _ _ _ _ _ _ _ _ _ _ _ _ _ _ _ _ _ _ _ _ _ _ _ _ _ _ _ _ _ _ _ _ _ _ _ _ _ _ _ _ _ _ _ _ _ _ _ _ _ _ _ _ _ _ _ _ _ _ _ _ _ _ _ _ _ _ _ _ _ _ _ _ _ _ _ _ _ _ _ _ _ _ _ _ _ _ _ _ _ _ _ _ _ _ _ _ _ _ _ _ _ _ _
set_option maxHeartbeats 8000000 in
theorem sw_7 {w wi : World} {hb : Nat} {p4 : Option Addr} {c4 g2 g5 : Nat} {a1 : Int} (r1 : -9223372036854775808 ≤ a1 ∧ a1 ≤ 9223372036854775807) (C : Cb w wi hb (cW 20 10 0 2 1 1 1 8 2 4 5 1) (.slice p4 2 c4) (.slice (some ⟨g2, 0, none⟩) 1 1) (.slice (some ⟨g5, 0, none⟩) 2 2)) (Q : Exit → Act → World → Prop) (u2 u3 u4 u5 u7 u8 u9 u10 u11 u12 u13 u14 u15 u16 u17 u18 u19 u20 u21 u22 u23 u24 u26 u27 u28 u29 u30 u31 u32 u33 u34 u35 u36 u37 u38 u39 u40 u41 u42 u43 u44 u45 u46 u47 u48 u49 u50 u51 u52 u53 u54 u55 u56 u57 u58 u59 u60 u61 u62 u63 u64 u65 u66 u67 u68 u69 u70 u71 u72 u73 u74 u75 u76 u77 u78 u79 u80 u81 u82 u83 u84 u85 u86 u87 u88 u89 u90 u91 u92 u93 u94 u95 u96 u97 u98 u99 u100 u101 u102 u103 u104 u105 u106 u107 u108 u109 u110 u111 u112 u113 u114 u115 u116 u117 u118 u119 u120 u121 u122 u123 u124 u125 u126 u127 u128 u129 u130 u131 u132 u133 u134 u135 u136 u137 u138 u139 u140 u141 u142 u143 u144 u145 u146 u147 u148 u149 u150 u151 u152 u153 u154 u155 u156 u157 u158 u159 u160 u161 u162 u163 u164 u165 u166 u167 u168 u169 u170 u171 u172 u173 u174 : Value)
    (hQ : ∀ (ok e : Value) (wx : World), Hand w hb ok e wx → ∀ (x26 x27 x28 x29 x30 x31 x32 x33 x34 x35 x36 x37 x38 x39 x40 x41 x42 x43 x44 x45 x46 x47 x48 x49 x50 x51 x52 x53 x54 x55 x56 x57 x58 x59 x60 x61 x62 x63 x64 x65 x66 x67 x68 x69 x70 x71 x72 x73 x74 x75 x76 x77 x78 x79 x80 x81 x82 x83 x84 x85 x86 x87 x88 x89 x90 x91 x92 x93 x94 x95 x96 x97 x98 x99 x100 x101 x102 x103 x104 x105 x106 x107 x108 x109 x110 x111 x112 x113 x114 x115 x116 x117 x118 x119 x120 x121 x122 x123 x124 x125 x126 x127 x128 x129 x130 x131 x132 x133 x134 x135 x136 x137 x138 x139 x140 x141 x142 x143 x144 x145 x146 x147 x148 x149 x150 x151 x152 x153 x154 x155 x156 x157 x158 x159 x160 x161 x162 x163 x164 x165 : Value), Q .normal ⟨#[.int .i64 7, .int .i64 a1, u2, u3, u4, u5, .pointer (some ⟨hb, 0, none⟩), ok, e, u9, u10, u11, u12, u13, u14, u15, u16, u17, u18, u19, u20, u21, u22, u23, u24, .int .i64 7, x26, x27, x28, x29, x30, x31, x32, x33, x34, x35, x36, x37, x38, x39, x40, x41, x42, x43, x44, x45, x46, x47, x48, x49, x50, x51, x52, x53, x54, x55, x56, x57, x58, x59, x60, x61, x62, x63, x64, x65, x66, x67, x68, x69, x70, x71, x72, x73, x74, x75, x76, x77, x78, x79, x80, x81, x82, x83, x84, x85, x86, x87, x88, x89, x90, x91, x92, x93, x94, x95, x96, x97, x98, x99, x100, x101, x102, x103, x104, x105, x106, x107, x108, x109, x110, x111, x112, x113, x114, x115, x116, x117, x118, x119, x120, x121, x122, x123, x124, x125, x126, x127, x128, x129, x130, x131, x132, x133, x134, x135, x136, x137, x138, x139, x140, x141, x142, x143, x144, x145, x146, x147, x148, x149, x150, x151, x152, x153, x154, x155, x156, x157, x158, x159, x160, x161, x162, x163, x164, x165, u166, u167, u168, u169, u170, u171, u172, u173, u174], []⟩ wx) :
    Code.wp Try.prog swC Q ⟨#[.int .i64 7, .int .i64 a1, u2, u3, u4, u5, .pointer (some ⟨hb, 0, none⟩), u7, u8, u9, u10, u11, u12, u13, u14, u15, u16, u17, u18, u19, u20, u21, u22, u23, u24, .int .i64 7, u26, u27, u28, u29, u30, u31, u32, u33, u34, u35, u36, u37, u38, u39, u40, u41, u42, u43, u44, u45, u46, u47, u48, u49, u50, u51, u52, u53, u54, u55, u56, u57, u58, u59, u60, u61, u62, u63, u64, u65, u66, u67, u68, u69, u70, u71, u72, u73, u74, u75, u76, u77, u78, u79, u80, u81, u82, u83, u84, u85, u86, u87, u88, u89, u90, u91, u92, u93, u94, u95, u96, u97, u98, u99, u100, u101, u102, u103, u104, u105, u106, u107, u108, u109, u110, u111, u112, u113, u114, u115, u116, u117, u118, u119, u120, u121, u122, u123, u124, u125, u126, u127, u128, u129, u130, u131, u132, u133, u134, u135, u136, u137, u138, u139, u140, u141, u142, u143, u144, u145, u146, u147, u148, u149, u150, u151, u152, u153, u154, u155, u156, u157, u158, u159, u160, u161, u162, u163, u164, u165, u166, u167, u168, u169, u170, u171, u172, u173, u174], []⟩ wi := by
  simp only [swC, Try.f3, Option.getD_some, tailW, subW]
  replace hQ := Lib.hid hQ
  replace C := Lib.hid C
  have z := C.out.at 1 _ rfl
  have fz := C.out.fr 1
  have CC := Lib.hid (C.out.num (cW 20 a1 0 2 1 1 1 8 2 4 5 1) 1 (.int .i64 a1) rfl rfl rfl rfl)
  clear C
  by_cases c1 : 10 ≤ a1
  · by_cases c2 : a1 ≤ 100000
    · skip
      have hd := Lib.hid (hQ.out _ _ _ ⟨true, 12, cW 20 a1 0 2 1 1 1 8 2 4 5 1, _, _, _, rfl, rfl, CC.out, cW_wf (by omega) (by omega) (by omega) (by omega) (by omega) (by omega), by rw [cW_chk]; first | ((repeat (first | rw [if_neg (by omega)] | rw [if_pos (by omega)])); all_goals rfl) | (by_cases hx : 5 ≤ a1 <;> ((repeat (first | rw [if_neg (by omega)] | rw [if_pos (by omega)])); all_goals rfl))⟩)
      clear CC hQ
      go_wp2
      exact hd.out _ _ _ _ _ _ _ _ _ _ _ _ _ _ _ _ _ _ _ _ _ _ _ _ _ _ _ _ _ _ _ _ _ _ _ _ _ _ _ _ _ _ _ _ _ _ _ _ _ _ _ _ _ _ _ _ _ _ _ _ _ _ _ _ _ _ _ _ _ _ _ _ _ _ _ _ _ _ _ _ _ _ _ _ _ _ _ _ _ _ _ _ _ _ _ _ _ _ _ _ _ _ _ _ _ _ _ _ _ _ _ _ _ _ _ _ _ _ _ _ _ _ _ _ _ _ _ _ _ _ _ _ _ _ _ _ _ _ _ _
    · skip
      have hd := Lib.hid (hQ.out _ _ _ ⟨false, 12, cW 20 a1 0 2 1 1 1 8 2 4 5 1, _, _, _, rfl, rfl, CC.out, cW_wf (by omega) (by omega) (by omega) (by omega) (by omega) (by omega), by rw [cW_chk]; first | ((repeat (first | rw [if_neg (by omega)] | rw [if_pos (by omega)])); all_goals rfl) | (by_cases hx : 5 ≤ a1 <;> ((repeat (first | rw [if_neg (by omega)] | rw [if_pos (by omega)])); all_goals rfl))⟩)
      clear CC hQ
      go_wp2
      exact hd.out _ _ _ _ _ _ _ _ _ _ _ _ _ _ _ _ _ _ _ _ _ _ _ _ _ _ _ _ _ _ _ _ _ _ _ _ _ _ _ _ _ _ _ _ _ _ _ _ _ _ _ _ _ _ _ _ _ _ _ _ _ _ _ _ _ _ _ _ _ _ _ _ _ _ _ _ _ _ _ _ _ _ _ _ _ _ _ _ _ _ _ _ _ _ _ _ _ _ _ _ _ _ _ _ _ _ _ _ _ _ _ _ _ _ _ _ _ _ _ _ _ _ _ _ _ _ _ _ _ _ _ _ _ _ _ _ _ _ _ _
  · skip
    have hd := Lib.hid (hQ.out _ _ _ ⟨false, 12, cW 20 a1 0 2 1 1 1 8 2 4 5 1, _, _, _, rfl, rfl, CC.out, cW_wf (by omega) (by omega) (by omega) (by omega) (by omega) (by omega), by rw [cW_chk]; first | ((repeat (first | rw [if_neg (by omega)] | rw [if_pos (by omega)])); all_goals rfl) | (by_cases hx : 5 ≤ a1 <;> ((repeat (first | rw [if_neg (by omega)] | rw [if_pos (by omega)])); all_goals rfl))⟩)
    clear CC hQ
    go_wp2
    exact hd.out _ _ _ _ _ _ _ _ _ _ _ _ _ _ _ _ _ _ _ _ _ _ _ _ _ _ _ _ _ _ _ _ _ _ _ _ _ _ _ _ _ _ _ _ _ _ _ _ _ _ _ _ _ _ _ _ _ _ _ _ _ _ _ _ _ _ _ _ _ _ _ _ _ _ _ _ _ _ _ _ _ _ _ _ _ _ _ _ _ _ _ _ _ _ _ _ _ _ _ _ _ _ _ _ _ _ _ _ _ _ _ _ _ _ _ _ _ _ _ _ _ _ _ _ _ _ _ _ _ _ _ _ _ _ _ _ _ _ _ _
set_option maxHeartbeats 8000000 in
theorem sw_8 {w wi : World} {hb : Nat} {p4 : Option Addr} {c4 g2 g5 : Nat} {a1 : Int} (r1 : -9223372036854775808 ≤ a1 ∧ a1 ≤ 9223372036854775807) (C : Cb w wi hb (cW 20 10 0 2 1 1 1 8 2 4 5 1) (.slice p4 2 c4) (.slice (some ⟨g2, 0, none⟩) 1 1) (.slice (some ⟨g5, 0, none⟩) 2 2)) (Q : Exit → Act → World → Prop) (u2 u3 u4 u5 u7 u8 u9 u10 u11 u12 u13 u14 u15 u16 u17 u18 u19 u20 u21 u22 u23 u24 u26 u27 u28 u29 u30 u31 u32 u33 u34 u35 u36 u37 u38 u39 u40 u41 u42 u43 u44 u45 u46 u47 u48 u49 u50 u51 u52 u53 u54 u55 u56 u57 u58 u59 u60 u61 u62 u63 u64 u65 u66 u67 u68 u69 u70 u71 u72 u73 u74 u75 u76 u77 u78 u79 u80 u81 u82 u83 u84 u85 u86 u87 u88 u89 u90 u91 u92 u93 u94 u95 u96 u97 u98 u99 u100 u101 u102 u103 u104 u105 u106 u107 u108 u109 u110 u111 u112 u113 u114 u115 u116 u117 u118 u119 u120 u121 u122 u123 u124 u125 u126 u127 u128 u129 u130 u131 u132 u133 u134 u135 u136 u137 u138 u139 u140 u141 u142 u143 u144 u145 u146 u147 u148 u149 u150 u151 u152 u153 u154 u155 u156 u157 u158 u159 u160 u161 u162 u163 u164 u165 u166 u167 u168 u169 u170 u171 u172 u173 u174 : Value)
    (hQ : ∀ (ok e : Value) (wx : World), Hand w hb ok e wx → ∀ (x26 x27 x28 x29 x30 x31 x32 x33 x34 x35 x36 x37 x38 x39 x40 x41 x42 x43 x44 x45 x46 x47 x48 x49 x50 x51 x52 x53 x54 x55 x56 x57 x58 x59 x60 x61 x62 x63 x64 x65 x66 x67 x68 x69 x70 x71 x72 x73 x74 x75 x76 x77 x78 x79 x80 x81 x82 x83 x84 x85 x86 x87 x88 x89 x90 x91 x92 x93 x94 x95 x96 x97 x98 x99 x100 x101 x102 x103 x104 x105 x106 x107 x108 x109 x110 x111 x112 x113 x114 x115 x116 x117 x118 x119 x120 x121 x122 x123 x124 x125 x126 x127 x128 x129 x130 x131 x132 x133 x134 x135 x136 x137 x138 x139 x140 x141 x142 x143 x144 x145 x146 x147 x148 x149 x150 x151 x152 x153 x154 x155 x156 x157 x158 x159 x160 x161 x162 x163 x164 x165 : Value), Q .normal ⟨#[.int .i64 8, .int .i64 a1, u2, u3, u4, u5, .pointer (some ⟨hb, 0, none⟩), ok, e, u9, u10, u11, u12, u13, u14, u15, u16, u17, u18, u19, u20, u21, u22, u23, u24, .int .i64 8, x26, x27, x28, x29, x30, x31, x32, x33, x34, x35, x36, x37, x38, x39, x40, x41, x42, x43, x44, x45, x46, x47, x48, x49, x50, x51, x52, x53, x54, x55, x56, x57, x58, x59, x60, x61, x62, x63, x64, x65, x66, x67, x68, x69, x70, x71, x72, x73, x74, x75, x76, x77, x78, x79, x80, x81, x82, x83, x84, x85, x86, x87, x88, x89, x90, x91, x92, x93, x94, x95, x96, x97, x98, x99, x100, x101, x102, x103, x104, x105, x106, x107, x108, x109, x110, x111, x112, x113, x114, x115, x116, x117, x118, x119, x120, x121, x122, x123, x124, x125, x126, x127, x128, x129, x130, x131, x132, x133, x134, x135, x136, x137, x138, x139, x140, x141, x142, x143, x144, x145, x146, x147, x148, x149, x150, x151, x152, x153, x154, x155, x156, x157, x158, x159, x160, x161, x162, x163, x164, x165, u166, u167, u168, u169, u170, u171, u172, u173, u174], []⟩ wx) :
    Code.wp Try.prog swC Q ⟨#[.int .i64 8, .int .i64 a1, u2, u3, u4, u5, .pointer (some ⟨hb, 0, none⟩), u7, u8, u9, u10, u11, u12, u13, u14, u15, u16, u17, u18, u19, u20, u21, u22, u23, u24, .int .i64 8, u26, u27, u28, u29, u30, u31, u32, u33, u34, u35, u36, u37, u38, u39, u40, u41, u42, u43, u44, u45, u46, u47, u48, u49, u50, u51, u52, u53, u54, u55, u56, u57, u58, u59, u60, u61, u62, u63, u64, u65, u66, u67, u68, u69, u70, u71, u72, u73, u74, u75, u76, u77, u78, u79, u80, u81, u82, u83, u84, u85, u86, u87, u88, u89, u90, u91, u92, u93, u94, u95, u96, u97, u98, u99, u100, u101, u102, u103, u104, u105, u106, u107, u108, u109, u110, u111, u112, u113, u114, u115, u116, u117, u118, u119, u120, u121, u122, u123, u124, u125, u126, u127, u128, u129, u130, u131, u132, u133, u134, u135, u136, u137, u138, u139, u140, u141, u142, u143, u144, u145, u146, u147, u148, u149, u150, u151, u152, u153, u154, u155, u156, u157, u158, u159, u160, u161, u162, u163, u164, u165, u166, u167, u168, u169, u170, u171, u172, u173, u174], []⟩ wi := by
  simp only [swC, Try.f3, Option.getD_some, tailW, subW]
  replace hQ := Lib.hid hQ
  replace C := Lib.hid C
  have z := C.out.at 2 _ rfl
  have fz := C.out.fr 2
  have CC := Lib.hid (C.out.num (cW 20 10 a1 2 1 1 1 8 2 4 5 1) 2 (.int .i64 a1) rfl rfl rfl rfl)
  clear C
  by_cases c1 : 0 ≤ a1
  · by_cases c2 : a1 ≤ 3
    · skip
      have hd := Lib.hid (hQ.out _ _ _ ⟨true, 12, cW 20 10 a1 2 1 1 1 8 2 4 5 1, _, _, _, rfl, rfl, CC.out, cW_wf (by omega) (by omega) (by omega) (by omega) (by omega) (by omega), by rw [cW_chk]; first | ((repeat (first | rw [if_neg (by omega)] | rw [if_pos (by omega)])); all_goals rfl) | (by_cases hx : 5 ≤ a1 <;> ((repeat (first | rw [if_neg (by omega)] | rw [if_pos (by omega)])); all_goals rfl))⟩)
      clear CC hQ
      go_wp2
      exact hd.out _ _ _ _ _ _ _ _ _ _ _ _ _ _ _ _ _ _ _ _ _ _ _ _ _ _ _ _ _ _ _ _ _ _ _ _ _ _ _ _ _ _ _ _ _ _ _ _ _ _ _ _ _ _ _ _ _ _ _ _ _ _ _ _ _ _ _ _ _ _ _ _ _ _ _ _ _ _ _ _ _ _ _ _ _ _ _ _ _ _ _ _ _ _ _ _ _ _ _ _ _ _ _ _ _ _ _ _ _ _ _ _ _ _ _ _ _ _ _ _ _ _ _ _ _ _ _ _ _ _ _ _ _ _ _ _ _ _ _ _
    · skip
      have hd := Lib.hid (hQ.out _ _ _ ⟨false, 12, cW 20 10 a1 2 1 1 1 8 2 4 5 1, _, _, _, rfl, rfl, CC.out, cW_wf (by omega) (by omega) (by omega) (by omega) (by omega) (by omega), by rw [cW_chk]; first | ((repeat (first | rw [if_neg (by omega)] | rw [if_pos (by omega)])); all_goals rfl) | (by_cases hx : 5 ≤ a1 <;> ((repeat (first | rw [if_neg (by omega)] | rw [if_pos (by omega)])); all_goals rfl))⟩)
      clear CC hQ
      go_wp2
      exact hd.out _ _ _ _ _ _ _ _ _ _ _ _ _ _ _ _ _ _ _ _ _ _ _ _ _ _ _ _ _ _ _ _ _ _ _ _ _ _ _ _ _ _ _ _ _ _ _ _ _ _ _ _ _ _ _ _ _ _ _ _ _ _ _ _ _ _ _ _ _ _ _ _ _ _ _ _ _ _ _ _ _ _ _ _ _ _ _ _ _ _ _ _ _ _ _ _ _ _ _ _ _ _ _ _ _ _ _ _ _ _ _ _ _ _ _ _ _ _ _ _ _ _ _ _ _ _ _ _ _ _ _ _ _ _ _ _ _ _ _ _
  · skip
    have hd := Lib.hid (hQ.out _ _ _ ⟨false, 12, cW 20 10 a1 2 1 1 1 8 2 4 5 1, _, _, _, rfl, rfl, CC.out, cW_wf (by omega) (by omega) (by omega) (by omega) (by omega) (by omega), by rw [cW_chk]; first | ((repeat (first | rw [if_neg (by omega)] | rw [if_pos (by omega)])); all_goals rfl) | (by_cases hx : 5 ≤ a1 <;> ((repeat (first | rw [if_neg (by omega)] | rw [if_pos (by omega)])); all_goals rfl))⟩)
    clear CC hQ
    go_wp2
    exact hd.out _ _ _ _ _ _ _ _ _ _ _ _ _ _ _ _ _ _ _ _ _ _ _ _ _ _ _ _ _ _ _ _ _ _ _ _ _ _ _ _ _ _ _ _ _ _ _ _ _ _ _ _ _ _ _ _ _ _ _ _ _ _ _ _ _ _ _ _ _ _ _ _ _ _ _ _ _ _ _ _ _ _ _ _ _ _ _ _ _ _ _ _ _ _ _ _ _ _ _ _ _ _ _ _ _ _ _ _ _ _ _ _ _ _ _ _ _ _ _ _ _ _ _ _ _ _ _ _ _ _ _ _ _ _ _ _ _ _ _ _
set_option maxHeartbeats 8000000 in
theorem sw_9 {w wi : World} {hb : Nat} {p4 : Option Addr} {c4 g2 g5 : Nat} {a1 : Int} (r1 : -9223372036854775808 ≤ a1 ∧ a1 ≤ 9223372036854775807) (C : Cb w wi hb (cW 20 10 0 2 1 1 1 8 2 4 5 1) (.slice p4 2 c4) (.slice (some ⟨g2, 0, none⟩) 1 1) (.slice (some ⟨g5, 0, none⟩) 2 2)) (Q : Exit → Act → World → Prop) (u2 u3 u4 u5 u7 u8 u9 u10 u11 u12 u13 u14 u15 u16 u17 u18 u19 u20 u21 u22 u23 u24 u26 u27 u28 u29 u30 u31 u32 u33 u34 u35 u36 u37 u38 u39 u40 u41 u42 u43 u44 u45 u46 u47 u48 u49 u50 u51 u52 u53 u54 u55 u56 u57 u58 u59 u60 u61 u62 u63 u64 u65 u66 u67 u68 u69 u70 u71 u72 u73 u74 u75 u76 u77 u78 u79 u80 u81 u82 u83 u84 u85 u86 u87 u88 u89 u90 u91 u92 u93 u94 u95 u96 u97 u98 u99 u100 u101 u102 u103 u104 u105 u106 u107 u108 u109 u110 u111 u112 u113 u114 u115 u116 u117 u118 u119 u120 u121 u122 u123 u124 u125 u126 u127 u128 u129 u130 u131 u132 u133 u134 u135 u136 u137 u138 u139 u140 u141 u142 u143 u144 u145 u146 u147 u148 u149 u150 u151 u152 u153 u154 u155 u156 u157 u158 u159 u160 u161 u162 u163 u164 u165 u166 u167 u168 u169 u170 u171 u172 u173 u174 : Value)
    (hQ : ∀ (ok e : Value) (wx : World), Hand w hb ok e wx → ∀ (x26 x27 x28 x29 x30 x31 x32 x33 x34 x35 x36 x37 x38 x39 x40 x41 x42 x43 x44 x45 x46 x47 x48 x49 x50 x51 x52 x53 x54 x55 x56 x57 x58 x59 x60 x61 x62 x63 x64 x65 x66 x67 x68 x69 x70 x71 x72 x73 x74 x75 x76 x77 x78 x79 x80 x81 x82 x83 x84 x85 x86 x87 x88 x89 x90 x91 x92 x93 x94 x95 x96 x97 x98 x99 x100 x101 x102 x103 x104 x105 x106 x107 x108 x109 x110 x111 x112 x113 x114 x115 x116 x117 x118 x119 x120 x121 x122 x123 x124 x125 x126 x127 x128 x129 x130 x131 x132 x133 x134 x135 x136 x137 x138 x139 x140 x141 x142 x143 x144 x145 x146 x147 x148 x149 x150 x151 x152 x153 x154 x155 x156 x157 x158 x159 x160 x161 x162 x163 x164 x165 : Value), Q .normal ⟨#[.int .i64 9, .int .i64 a1, u2, u3, u4, u5, .pointer (some ⟨hb, 0, none⟩), ok, e, u9, u10, u11, u12, u13, u14, u15, u16, u17, u18, u19, u20, u21, u22, u23, u24, .int .i64 9, x26, x27, x28, x29, x30, x31, x32, x33, x34, x35, x36, x37, x38, x39, x40, x41, x42, x43, x44, x45, x46, x47, x48, x49, x50, x51, x52, x53, x54, x55, x56, x57, x58, x59, x60, x61, x62, x63, x64, x65, x66, x67, x68, x69, x70, x71, x72, x73, x74, x75, x76, x77, x78, x79, x80, x81, x82, x83, x84, x85, x86, x87, x88, x89, x90, x91, x92, x93, x94, x95, x96, x97, x98, x99, x100, x101, x102, x103, x104, x105, x106, x107, x108, x109, x110, x111, x112, x113, x114, x115, x116, x117, x118, x119, x120, x121, x122, x123, x124, x125, x126, x127, x128, x129, x130, x131, x132, x133, x134, x135, x136, x137, x138, x139, x140, x141, x142, x143, x144, x145, x146, x147, x148, x149, x150, x151, x152, x153, x154, x155, x156, x157, x158, x159, x160, x161, x162, x163, x164, x165, u166, u167, u168, u169, u170, u171, u172, u173, u174], []⟩ wx) :
    Code.wp Try.prog swC Q ⟨#[.int .i64 9, .int .i64 a1, u2, u3, u4, u5, .pointer (some ⟨hb, 0, none⟩), u7, u8, u9, u10, u11, u12, u13, u14, u15, u16, u17, u18, u19, u20, u21, u22, u23, u24, .int .i64 9, u26, u27, u28, u29, u30, u31, u32, u33, u34, u35, u36, u37, u38, u39, u40, u41, u42, u43, u44, u45, u46, u47, u48, u49, u50, u51, u52, u53, u54, u55, u56, u57, u58, u59, u60, u61, u62, u63, u64, u65, u66, u67, u68, u69, u70, u71, u72, u73, u74, u75, u76, u77, u78, u79, u80, u81, u82, u83, u84, u85, u86, u87, u88, u89, u90, u91, u92, u93, u94, u95, u96, u97, u98, u99, u100, u101, u102, u103, u104, u105, u106, u107, u108, u109, u110, u111, u112, u113, u114, u115, u116, u117, u118, u119, u120, u121, u122, u123, u124, u125, u126, u127, u128, u129, u130, u131, u132, u133, u134, u135, u136, u137, u138, u139, u140, u141, u142, u143, u144, u145, u146, u147, u148, u149, u150, u151, u152, u153, u154, u155, u156, u157, u158, u159, u160, u161, u162, u163, u164, u165, u166, u167, u168, u169, u170, u171, u172, u173, u174], []⟩ wi := by
  simp only [swC, Try.f3, Option.getD_some, tailW, subW]
  replace hQ := Lib.hid hQ
  replace C := Lib.hid C
  have z := C.out.at 5 _ rfl
  obtain ⟨gg, q, e, fz, zz, hput⟩ := C.out.put3 (i := 1) (k := 0) (x := ⟨5, 5, 1⟩) rfl (by omega)
  injection e with e1 e2 e3
  clear e2
  injection e1 with e1; injection e1 with e1; subst e1 e3
  have zz := zz _ rfl
  have CC := Lib.hid (hput (.int .i64 a1) ⟨a1, 5, 1⟩ rfl : Cb w _ hb (cW 20 10 0 2 1 1 1 8 2 4 a1 1) _ _ _)
  clear hput
  simp only [Nat.one_mul, Nat.reduceAdd] at fz zz CC
  clear C
  by_cases c1 : a1 = 4
  · have d1 : (a1 == 4) = true := by simpa using c1
    have hd := Lib.hid (hQ.out _ _ _ ⟨true, 12, cW 20 10 0 2 1 1 1 8 2 4 a1 1, _, _, _, rfl, rfl, CC.out, cW_wf (by omega) (by omega) (by omega) (by omega) (by omega) (by omega), by rw [cW_chk]; first | ((repeat (first | rw [if_neg (by omega)] | rw [if_pos (by omega)])); all_goals rfl) | (by_cases hx : 5 ≤ a1 <;> ((repeat (first | rw [if_neg (by omega)] | rw [if_pos (by omega)])); all_goals rfl))⟩)
    clear CC hQ c1
    go_wp2
    exact hd.out _ _ _ _ _ _ _ _ _ _ _ _ _ _ _ _ _ _ _ _ _ _ _ _ _ _ _ _ _ _ _ _ _ _ _ _ _ _ _ _ _ _ _ _ _ _ _ _ _ _ _ _ _ _ _ _ _ _ _ _ _ _ _ _ _ _ _ _ _ _ _ _ _ _ _ _ _ _ _ _ _ _ _ _ _ _ _ _ _ _ _ _ _ _ _ _ _ _ _ _ _ _ _ _ _ _ _ _ _ _ _ _ _ _ _ _ _ _ _ _ _ _ _ _ _ _ _ _ _ _ _ _ _ _ _ _ _ _ _ _
  · have d1 : (a1 == 4) = false := by simpa using c1
    by_cases c2 : a1 = 5
    · have d2 : (a1 == 5) = true := by simpa using c2
      have hd := Lib.hid (hQ.out _ _ _ ⟨true, 12, cW 20 10 0 2 1 1 1 8 2 4 a1 1, _, _, _, rfl, rfl, CC.out, cW_wf (by omega) (by omega) (by omega) (by omega) (by omega) (by omega), by rw [cW_chk]; first | ((repeat (first | rw [if_neg (by omega)] | rw [if_pos (by omega)])); all_goals rfl) | (by_cases hx : 5 ≤ a1 <;> ((repeat (first | rw [if_neg (by omega)] | rw [if_pos (by omega)])); all_goals rfl))⟩)
      clear CC hQ c1 c2
      go_wp2
      exact hd.out _ _ _ _ _ _ _ _ _ _ _ _ _ _ _ _ _ _ _ _ _ _ _ _ _ _ _ _ _ _ _ _ _ _ _ _ _ _ _ _ _ _ _ _ _ _ _ _ _ _ _ _ _ _ _ _ _ _ _ _ _ _ _ _ _ _ _ _ _ _ _ _ _ _ _ _ _ _ _ _ _ _ _ _ _ _ _ _ _ _ _ _ _ _ _ _ _ _ _ _ _ _ _ _ _ _ _ _ _ _ _ _ _ _ _ _ _ _ _ _ _ _ _ _ _ _ _ _ _ _ _ _ _ _ _ _ _ _ _ _
    · have d2 : (a1 == 5) = false := by simpa using c2
      have hd := Lib.hid (hQ.out _ _ _ ⟨false, 12, cW 20 10 0 2 1 1 1 8 2 4 a1 1, _, _, _, rfl, rfl, CC.out, cW_wf (by omega) (by omega) (by omega) (by omega) (by omega) (by omega), by rw [cW_chk]; first | ((repeat (first | rw [if_neg (by omega)] | rw [if_pos (by omega)])); all_goals rfl) | (by_cases hx : 5 ≤ a1 <;> ((repeat (first | rw [if_neg (by omega)] | rw [if_pos (by omega)])); all_goals rfl))⟩)
      clear CC hQ c1 c2
      go_wp2
      exact hd.out _ _ _ _ _ _ _ _ _ _ _ _ _ _ _ _ _ _ _ _ _ _ _ _ _ _ _ _ _ _ _ _ _ _ _ _ _ _ _ _ _ _ _ _ _ _ _ _ _ _ _ _ _ _ _ _ _ _ _ _ _ _ _ _ _ _ _ _ _ _ _ _ _ _ _ _ _ _ _ _ _ _ _ _ _ _ _ _ _ _ _ _ _ _ _ _ _ _ _ _ _ _ _ _ _ _ _ _ _ _ _ _ _ _ _ _ _ _ _ _ _ _ _ _ _ _ _ _ _ _ _ _ _ _ _ _ _ _ _ _
set_option maxHeartbeats 8000000 in
theorem sw_10 {w wi : World} {hb : Nat} {p4 : Option Addr} {c4 g2 g5 : Nat} {a1 : Int} (r1 : -9223372036854775808 ≤ a1 ∧ a1 ≤ 9223372036854775807) (C : Cb w wi hb (cW 20 10 0 2 1 1 1 8 2 4 5 1) (.slice p4 2 c4) (.slice (some ⟨g2, 0, none⟩) 1 1) (.slice (some ⟨g5, 0, none⟩) 2 2)) (Q : Exit → Act → World → Prop) (u2 u3 u4 u5 u7 u8 u9 u10 u11 u12 u13 u14 u15 u16 u17 u18 u19 u20 u21 u22 u23 u24 u26 u27 u28 u29 u30 u31 u32 u33 u34 u35 u36 u37 u38 u39 u40 u41 u42 u43 u44 u45 u46 u47 u48 u49 u50 u51 u52 u53 u54 u55 u56 u57 u58 u59 u60 u61 u62 u63 u64 u65 u66 u67 u68 u69 u70 u71 u72 u73 u74 u75 u76 u77 u78 u79 u80 u81 u82 u83 u84 u85 u86 u87 u88 u89 u90 u91 u92 u93 u94 u95 u96 u97 u98 u99 u100 u101 u102 u103 u104 u105 u106 u107 u108 u109 u110 u111 u112 u113 u114 u115 u116 u117 u118 u119 u120 u121 u122 u123 u124 u125 u126 u127 u128 u129 u130 u131 u132 u133 u134 u135 u136 u137 u138 u139 u140 u141 u142 u143 u144 u145 u146 u147 u148 u149 u150 u151 u152 u153 u154 u155 u156 u157 u158 u159 u160 u161 u162 u163 u164 u165 u166 u167 u168 u169 u170 u171 u172 u173 u174 : Value)
    (hQ : ∀ (ok e : Value) (wx : World), Hand w hb ok e wx → ∀ (x26 x27 x28 x29 x30 x31 x32 x33 x34 x35 x36 x37 x38 x39 x40 x41 x42 x43 x44 x45 x46 x47 x48 x49 x50 x51 x52 x53 x54 x55 x56 x57 x58 x59 x60 x61 x62 x63 x64 x65 x66 x67 x68 x69 x70 x71 x72 x73 x74 x75 x76 x77 x78 x79 x80 x81 x82 x83 x84 x85 x86 x87 x88 x89 x90 x91 x92 x93 x94 x95 x96 x97 x98 x99 x100 x101 x102 x103 x104 x105 x106 x107 x108 x109 x110 x111 x112 x113 x114 x115 x116 x117 x118 x119 x120 x121 x122 x123 x124 x125 x126 x127 x128 x129 x130 x131 x132 x133 x134 x135 x136 x137 x138 x139 x140 x141 x142 x143 x144 x145 x146 x147 x148 x149 x150 x151 x152 x153 x154 x155 x156 x157 x158 x159 x160 x161 x162 x163 x164 x165 : Value), Q .normal ⟨#[.int .i64 10, .int .i64 a1, u2, u3, u4, u5, .pointer (some ⟨hb, 0, none⟩), ok, e, u9, u10, u11, u12, u13, u14, u15, u16, u17, u18, u19, u20, u21, u22, u23, u24, .int .i64 10, x26, x27, x28, x29, x30, x31, x32, x33, x34, x35, x36, x37, x38, x39, x40, x41, x42, x43, x44, x45, x46, x47, x48, x49, x50, x51, x52, x53, x54, x55, x56, x57, x58, x59, x60, x61, x62, x63, x64, x65, x66, x67, x68, x69, x70, x71, x72, x73, x74, x75, x76, x77, x78, x79, x80, x81, x82, x83, x84, x85, x86, x87, x88, x89, x90, x91, x92, x93, x94, x95, x96, x97, x98, x99, x100, x101, x102, x103, x104, x105, x106, x107, x108, x109, x110, x111, x112, x113, x114, x115, x116, x117, x118, x119, x120, x121, x122, x123, x124, x125, x126, x127, x128, x129, x130, x131, x132, x133, x134, x135, x136, x137, x138, x139, x140, x141, x142, x143, x144, x145, x146, x147, x148, x149, x150, x151, x152, x153, x154, x155, x156, x157, x158, x159, x160, x161, x162, x163, x164, x165, u166, u167, u168, u169, u170, u171, u172, u173, u174], []⟩ wx) :
    Code.wp Try.prog swC Q ⟨#[.int .i64 10, .int .i64 a1, u2, u3, u4, u5, .pointer (some ⟨hb, 0, none⟩), u7, u8, u9, u10, u11, u12, u13, u14, u15, u16, u17, u18, u19, u20, u21, u22, u23, u24, .int .i64 10, u26, u27, u28, u29, u30, u31, u32, u33, u34, u35, u36, u37, u38, u39, u40, u41, u42, u43, u44, u45, u46, u47, u48, u49, u50, u51, u52, u53, u54, u55, u56, u57, u58, u59, u60, u61, u62, u63, u64, u65, u66, u67, u68, u69, u70, u71, u72, u73, u74, u75, u76, u77, u78, u79, u80, u81, u82, u83, u84, u85, u86, u87, u88, u89, u90, u91, u92, u93, u94, u95, u96, u97, u98, u99, u100, u101, u102, u103, u104, u105, u106, u107, u108, u109, u110, u111, u112, u113, u114, u115, u116, u117, u118, u119, u120, u121, u122, u123, u124, u125, u126, u127, u128, u129, u130, u131, u132, u133, u134, u135, u136, u137, u138, u139, u140, u141, u142, u143, u144, u145, u146, u147, u148, u149, u150, u151, u152, u153, u154, u155, u156, u157, u158, u159, u160, u161, u162, u163, u164, u165, u166, u167, u168, u169, u170, u171, u172, u173, u174], []⟩ wi := by
  simp only [swC, Try.f3, Option.getD_some, tailW, subW]
  replace hQ := Lib.hid hQ
  replace C := Lib.hid C
  have z := C.out.at 5 _ rfl
  obtain ⟨gg, q, e, fz, zz, hput⟩ := C.out.put3 (i := 0) (k := 1) (x := ⟨0, 4, 0⟩) rfl (by omega)
  injection e with e1 e2 e3
  clear e2
  injection e1 with e1; injection e1 with e1; subst e1 e3
  have zz := zz _ rfl
  have CC := Lib.hid (hput (.int .i64 a1) ⟨0, a1, 0⟩ rfl : Cb w _ hb (cW 20 10 0 2 1 1 1 8 2 a1 5 1) _ _ _)
  clear hput
  simp only [Nat.zero_mul, Nat.zero_add] at fz zz CC
  clear C
  by_cases c1 : 1 ≤ a1
  · by_cases c2 : a1 ≤ 5
    · skip
      have hd := Lib.hid (hQ.out _ _ _ ⟨true, 12, cW 20 10 0 2 1 1 1 8 2 a1 5 1, _, _, _, rfl, rfl, CC.out, cW_wf (by omega) (by omega) (by omega) (by omega) (by omega) (by omega), by rw [cW_chk]; first | ((repeat (first | rw [if_neg (by omega)] | rw [if_pos (by omega)])); all_goals rfl) | (by_cases hx : 5 ≤ a1 <;> ((repeat (first | rw [if_neg (by omega)] | rw [if_pos (by omega)])); all_goals rfl))⟩)
      clear CC hQ
      go_wp2
      exact hd.out _ _ _ _ _ _ _ _ _ _ _ _ _ _ _ _ _ _ _ _ _ _ _ _ _ _ _ _ _ _ _ _ _ _ _ _ _ _ _ _ _ _ _ _ _ _ _ _ _ _ _ _ _ _ _ _ _ _ _ _ _ _ _ _ _ _ _ _ _ _ _ _ _ _ _ _ _ _ _ _ _ _ _ _ _ _ _ _ _ _ _ _ _ _ _ _ _ _ _ _ _ _ _ _ _ _ _ _ _ _ _ _ _ _ _ _ _ _ _ _ _ _ _ _ _ _ _ _ _ _ _ _ _ _ _ _ _ _ _ _
    · skip
      have hd := Lib.hid (hQ.out _ _ _ ⟨false, 12, cW 20 10 0 2 1 1 1 8 2 a1 5 1, _, _, _, rfl, rfl, CC.out, cW_wf (by omega) (by omega) (by omega) (by omega) (by omega) (by omega), by rw [cW_chk]; first | ((repeat (first | rw [if_neg (by omega)] | rw [if_pos (by omega)])); all_goals rfl) | (by_cases hx : 5 ≤ a1 <;> ((repeat (first | rw [if_neg (by omega)] | rw [if_pos (by omega)])); all_goals rfl))⟩)
      clear CC hQ
      go_wp2
      exact hd.out _ _ _ _ _ _ _ _ _ _ _ _ _ _ _ _ _ _ _ _ _ _ _ _ _ _ _ _ _ _ _ _ _ _ _ _ _ _ _ _ _ _ _ _ _ _ _ _ _ _ _ _ _ _ _ _ _ _ _ _ _ _ _ _ _ _ _ _ _ _ _ _ _ _ _ _ _ _ _ _ _ _ _ _ _ _ _ _ _ _ _ _ _ _ _ _ _ _ _ _ _ _ _ _ _ _ _ _ _ _ _ _ _ _ _ _ _ _ _ _ _ _ _ _ _ _ _ _ _ _ _ _ _ _ _ _ _ _ _ _
  · skip
    have hd := Lib.hid (hQ.out _ _ _ ⟨false, 12, cW 20 10 0 2 1 1 1 8 2 a1 5 1, _, _, _, rfl, rfl, CC.out, cW_wf (by omega) (by omega) (by omega) (by omega) (by omega) (by omega), by rw [cW_chk]; first | ((repeat (first | rw [if_neg (by omega)] | rw [if_pos (by omega)])); all_goals rfl) | (by_cases hx : 5 ≤ a1 <;> ((repeat (first | rw [if_neg (by omega)] | rw [if_pos (by omega)])); all_goals rfl))⟩)
    clear CC hQ
    go_wp2
    exact hd.out _ _ _ _ _ _ _ _ _ _ _ _ _ _ _ _ _ _ _ _ _ _ _ _ _ _ _ _ _ _ _ _ _ _ _ _ _ _ _ _ _ _ _ _ _ _ _ _ _ _ _ _ _ _ _ _ _ _ _ _ _ _ _ _ _ _ _ _ _ _ _ _ _ _ _ _ _ _ _ _ _ _ _ _ _ _ _ _ _ _ _ _ _ _ _ _ _ _ _ _ _ _ _ _ _ _ _ _ _ _ _ _ _ _ _ _ _ _ _ _ _ _ _ _ _ _ _ _ _ _ _ _ _ _ _ _ _ _ _ _
set_option maxHeartbeats 8000000 in
theorem sw_11 {w wi : World} {hb : Nat} {p4 : Option Addr} {c4 g2 g5 : Nat} {a1 : Int} (r1 : -9223372036854775808 ≤ a1 ∧ a1 ≤ 9223372036854775807) (C : Cb w wi hb (cW 20 10 0 2 1 1 1 8 2 4 5 1) (.slice p4 2 c4) (.slice (some ⟨g2, 0, none⟩) 1 1) (.slice (some ⟨g5, 0, none⟩) 2 2)) (Q : Exit → Act → World → Prop) (u2 u3 u4 u5 u7 u8 u9 u10 u11 u12 u13 u14 u15 u16 u17 u18 u19 u20 u21 u22 u23 u24 u26 u27 u28 u29 u30 u31 u32 u33 u34 u35 u36 u37 u38 u39 u40 u41 u42 u43 u44 u45 u46 u47 u48 u49 u50 u51 u52 u53 u54 u55 u56 u57 u58 u59 u60 u61 u62 u63 u64 u65 u66 u67 u68 u69 u70 u71 u72 u73 u74 u75 u76 u77 u78 u79 u80 u81 u82 u83 u84 u85 u86 u87 u88 u89 u90 u91 u92 u93 u94 u95 u96 u97 u98 u99 u100 u101 u102 u103 u104 u105 u106 u107 u108 u109 u110 u111 u112 u113 u114 u115 u116 u117 u118 u119 u120 u121 u122 u123 u124 u125 u126 u127 u128 u129 u130 u131 u132 u133 u134 u135 u136 u137 u138 u139 u140 u141 u142 u143 u144 u145 u146 u147 u148 u149 u150 u151 u152 u153 u154 u155 u156 u157 u158 u159 u160 u161 u162 u163 u164 u165 u166 u167 u168 u169 u170 u171 u172 u173 u174 : Value)
    (hQ : ∀ (ok e : Value) (wx : World), Hand w hb ok e wx → ∀ (x26 x27 x28 x29 x30 x31 x32 x33 x34 x35 x36 x37 x38 x39 x40 x41 x42 x43 x44 x45 x46 x47 x48 x49 x50 x51 x52 x53 x54 x55 x56 x57 x58 x59 x60 x61 x62 x63 x64 x65 x66 x67 x68 x69 x70 x71 x72 x73 x74 x75 x76 x77 x78 x79 x80 x81 x82 x83 x84 x85 x86 x87 x88 x89 x90 x91 x92 x93 x94 x95 x96 x97 x98 x99 x100 x101 x102 x103 x104 x105 x106 x107 x108 x109 x110 x111 x112 x113 x114 x115 x116 x117 x118 x119 x120 x121 x122 x123 x124 x125 x126 x127 x128 x129 x130 x131 x132 x133 x134 x135 x136 x137 x138 x139 x140 x141 x142 x143 x144 x145 x146 x147 x148 x149 x150 x151 x152 x153 x154 x155 x156 x157 x158 x159 x160 x161 x162 x163 x164 x165 : Value), Q .normal ⟨#[.int .i64 11, .int .i64 a1, u2, u3, u4, u5, .pointer (some ⟨hb, 0, none⟩), ok, e, u9, u10, u11, u12, u13, u14, u15, u16, u17, u18, u19, u20, u21, u22, u23, u24, .int .i64 11, x26, x27, x28, x29, x30, x31, x32, x33, x34, x35, x36, x37, x38, x39, x40, x41, x42, x43, x44, x45, x46, x47, x48, x49, x50, x51, x52, x53, x54, x55, x56, x57, x58, x59, x60, x61, x62, x63, x64, x65, x66, x67, x68, x69, x70, x71, x72, x73, x74, x75, x76, x77, x78, x79, x80, x81, x82, x83, x84, x85, x86, x87, x88, x89, x90, x91, x92, x93, x94, x95, x96, x97, x98, x99, x100, x101, x102, x103, x104, x105, x106, x107, x108, x109, x110, x111, x112, x113, x114, x115, x116, x117, x118, x119, x120, x121, x122, x123, x124, x125, x126, x127, x128, x129, x130, x131, x132, x133, x134, x135, x136, x137, x138, x139, x140, x141, x142, x143, x144, x145, x146, x147, x148, x149, x150, x151, x152, x153, x154, x155, x156, x157, x158, x159, x160, x161, x162, x163, x164, x165, u166, u167, u168, u169, u170, u171, u172, u173, u174], []⟩ wx) :
    Code.wp Try.prog swC Q ⟨#[.int .i64 11, .int .i64 a1, u2, u3, u4, u5, .pointer (some ⟨hb, 0, none⟩), u7, u8, u9, u10, u11, u12, u13, u14, u15, u16, u17, u18, u19, u20, u21, u22, u23, u24, .int .i64 11, u26, u27, u28, u29, u30, u31, u32, u33, u34, u35, u36, u37, u38, u39, u40, u41, u42, u43, u44, u45, u46, u47, u48, u49, u50, u51, u52, u53, u54, u55, u56, u57, u58, u59, u60, u61, u62, u63, u64, u65, u66, u67, u68, u69, u70, u71, u72, u73, u74, u75, u76, u77, u78, u79, u80, u81, u82, u83, u84, u85, u86, u87, u88, u89, u90, u91, u92, u93, u94, u95, u96, u97, u98, u99, u100, u101, u102, u103, u104, u105, u106, u107, u108, u109, u110, u111, u112, u113, u114, u115, u116, u117, u118, u119, u120, u121, u122, u123, u124, u125, u126, u127, u128, u129, u130, u131, u132, u133, u134, u135, u136, u137, u138, u139, u140, u141, u142, u143, u144, u145, u146, u147, u148, u149, u150, u151, u152, u153, u154, u155, u156, u157, u158, u159, u160, u161, u162, u163, u164, u165, u166, u167, u168, u169, u170, u171, u172, u173, u174], []⟩ wi := by
  simp only [swC, Try.f3, Option.getD_some, tailW, subW]
  replace hQ := Lib.hid hQ
  replace C := Lib.hid C
  have z := C.out.at 5 _ rfl
  obtain ⟨gg, q, e, fz, zz, hput⟩ := C.out.put3 (i := 1) (k := 2) (x := ⟨5, 5, 1⟩) rfl (by omega)
  injection e with e1 e2 e3
  clear e2
  injection e1 with e1; injection e1 with e1; subst e1 e3
  have zz := zz _ rfl
  have CC := Lib.hid (hput (.int .i64 a1) ⟨5, 5, a1⟩ rfl : Cb w _ hb (cW 20 10 0 2 1 1 1 8 2 4 5 a1) _ _ _)
  clear hput
  simp only [Nat.one_mul, Nat.reduceAdd] at fz zz CC
  clear C
  by_cases c1 : a1 = 0
  · have d1 : (a1 == 0) = true := by simpa using c1
    have hd := Lib.hid (hQ.out _ _ _ ⟨true, 12, cW 20 10 0 2 1 1 1 8 2 4 5 a1, _, _, _, rfl, rfl, CC.out, cW_wf (by omega) (by omega) (by omega) (by omega) (by omega) (by omega), by rw [cW_chk]; first | ((repeat (first | rw [if_neg (by omega)] | rw [if_pos (by omega)])); all_goals rfl) | (by_cases hx : 5 ≤ a1 <;> ((repeat (first | rw [if_neg (by omega)] | rw [if_pos (by omega)])); all_goals rfl))⟩)
    clear CC hQ c1
    go_wp2
    exact hd.out _ _ _ _ _ _ _ _ _ _ _ _ _ _ _ _ _ _ _ _ _ _ _ _ _ _ _ _ _ _ _ _ _ _ _ _ _ _ _ _ _ _ _ _ _ _ _ _ _ _ _ _ _ _ _ _ _ _ _ _ _ _ _ _ _ _ _ _ _ _ _ _ _ _ _ _ _ _ _ _ _ _ _ _ _ _ _ _ _ _ _ _ _ _ _ _ _ _ _ _ _ _ _ _ _ _ _ _ _ _ _ _ _ _ _ _ _ _ _ _ _ _ _ _ _ _ _ _ _ _ _ _ _ _ _ _ _ _ _ _
  · have d1 : (a1 == 0) = false := by simpa using c1
    by_cases c2 : a1 = 1
    · have d2 : (a1 == 1) = true := by simpa using c2
      have hd := Lib.hid (hQ.out _ _ _ ⟨true, 12, cW 20 10 0 2 1 1 1 8 2 4 5 a1, _, _, _, rfl, rfl, CC.out, cW_wf (by omega) (by omega) (by omega) (by omega) (by omega) (by omega), by rw [cW_chk]; first | ((repeat (first | rw [if_neg (by omega)] | rw [if_pos (by omega)])); all_goals rfl) | (by_cases hx : 5 ≤ a1 <;> ((repeat (first | rw [if_neg (by omega)] | rw [if_pos (by omega)])); all_goals rfl))⟩)
      clear CC hQ c1 c2
      go_wp2
      exact hd.out _ _ _ _ _ _ _ _ _ _ _ _ _ _ _ _ _ _ _ _ _ _ _ _ _ _ _ _ _ _ _ _ _ _ _ _ _ _ _ _ _ _ _ _ _ _ _ _ _ _ _ _ _ _ _ _ _ _ _ _ _ _ _ _ _ _ _ _ _ _ _ _ _ _ _ _ _ _ _ _ _ _ _ _ _ _ _ _ _ _ _ _ _ _ _ _ _ _ _ _ _ _ _ _ _ _ _ _ _ _ _ _ _ _ _ _ _ _ _ _ _ _ _ _ _ _ _ _ _ _ _ _ _ _ _ _ _ _ _ _
    · have d2 : (a1 == 1) = false := by simpa using c2
      have hd := Lib.hid (hQ.out _ _ _ ⟨false, 12, cW 20 10 0 2 1 1 1 8 2 4 5 a1, _, _, _, rfl, rfl, CC.out, cW_wf (by omega) (by omega) (by omega) (by omega) (by omega) (by omega), by rw [cW_chk]; first | ((repeat (first | rw [if_neg (by omega)] | rw [if_pos (by omega)])); all_goals rfl) | (by_cases hx : 5 ≤ a1 <;> ((repeat (first | rw [if_neg (by omega)] | rw [if_pos (by omega)])); all_goals rfl))⟩)
      clear CC hQ c1 c2
      go_wp2
      exact hd.out _ _ _ _ _ _ _ _ _ _ _ _ _ _ _ _ _ _ _ _ _ _ _ _ _ _ _ _ _ _ _ _ _ _ _ _ _ _ _ _ _ _ _ _ _ _ _ _ _ _ _ _ _ _ _ _ _ _ _ _ _ _ _ _ _ _ _ _ _ _ _ _ _ _ _ _ _ _ _ _ _ _ _ _ _ _ _ _ _ _ _ _ _ _ _ _ _ _ _ _ _ _ _ _ _ _ _ _ _ _ _ _ _ _ _ _ _ _ _ _ _ _ _ _ _ _ _ _ _ _ _ _ _ _ _ _ _ _ _ _
end Go.Proofs.Ythgcmliiobcmlaa.Cfg
