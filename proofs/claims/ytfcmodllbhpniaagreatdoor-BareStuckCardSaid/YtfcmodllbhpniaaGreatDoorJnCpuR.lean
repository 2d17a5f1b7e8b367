/-
  Contracts of trunnionref1's Alu and Taken (laid by mkcpuref.py). | Taken at any operation; the load and the sum of the law's examples; alive.
-/
import Derived.Test.YtfcmodllbhpniaaGreatDoorJnCpuOp
import Derived.Test.YtfcmodllbhpniaaGreatDoorJnCpu
set_option linter.unusedVariables false
set_option maxRecDepth 100000
namespace Go.Proofs.YtfcmodllbhpniaaGreatDoor
open Go.ChangeShapes Go.WideShapes Go.ChangeAt Go.RowKit
set_option maxRecDepth 100000 in
theorem ralu_1 (x y : Int) : Says 65 #[i64 1, i64 x, i64 y] (.tuple #[i64 (wd (x + y)), .bool true]) := by
  intro w
  have hx := w_says x
  have hy := w_says y
  have hc := w_says (wd x + wd y)
  rw [add_wd] at hc
  generalize wd (x + y) = v at *
  have b1 := wd_lo x
  have b2 := wd_hi x
  have b3 := wd_lo y
  have b4 := wd_hi y
  generalize wd x = a at *
  generalize wd y = b at *
  go_enter Tryz.func65, Tryz.ntmps65
  go_wp2_with (first | (go_at_call 19; first | ((with_reducible refine (hx _).mono ?_); rintro e w' ⟨rfl, rfl⟩) | ((with_reducible refine (hy _).mono ?_); rintro e w' ⟨rfl, rfl⟩) | ((with_reducible refine (hc _).mono ?_); rintro e w' ⟨rfl, rfl⟩)))
  go_ret2
  exact ⟨rfl, rfl⟩
set_option maxRecDepth 100000 in
theorem ralu_2 (x y : Int) : Says 65 #[i64 2, i64 x, i64 y] (.tuple #[i64 (wd (x - y)), .bool true]) := by
  intro w
  have hx := w_says x
  have hy := w_says y
  have hc := w_says (wd x - wd y)
  rw [sub_wd] at hc
  generalize wd (x - y) = v at *
  have b1 := wd_lo x
  have b2 := wd_hi x
  have b3 := wd_lo y
  have b4 := wd_hi y
  generalize wd x = a at *
  generalize wd y = b at *
  go_enter Tryz.func65, Tryz.ntmps65
  go_wp2_with (first | (go_at_call 19; first | ((with_reducible refine (hx _).mono ?_); rintro e w' ⟨rfl, rfl⟩) | ((with_reducible refine (hy _).mono ?_); rintro e w' ⟨rfl, rfl⟩) | ((with_reducible refine (hc _).mono ?_); rintro e w' ⟨rfl, rfl⟩)))
  go_ret2
  exact ⟨rfl, rfl⟩
set_option maxRecDepth 100000 in
theorem ralu_3 (x y : Int) : Says 65 #[i64 3, i64 x, i64 y] (.tuple #[i64 (wd (bits .and .i64 x y)), .bool true]) := by
  intro w
  have hx := w_says x
  have hy := w_says y
  have he := and_wd x y
  generalize wd (bits .and .i64 x y) = v at *
  have b1 := wd_lo x
  have b2 := wd_hi x
  have b3 := wd_lo y
  have b4 := wd_hi y
  generalize wd x = a at *
  generalize wd y = b at *
  go_enter Tryz.func65, Tryz.ntmps65
  go_wp2_with (first | (go_at_call 19; first | ((with_reducible refine (hx _).mono ?_); rintro e w' ⟨rfl, rfl⟩) | ((with_reducible refine (hy _).mono ?_); rintro e w' ⟨rfl, rfl⟩)))
  go_ret2
  exact ⟨rfl, rfl⟩
set_option maxRecDepth 100000 in
theorem ralu_4 (x y : Int) : Says 65 #[i64 4, i64 x, i64 y] (.tuple #[i64 (wd (bits .or .i64 x y)), .bool true]) := by
  intro w
  have hx := w_says x
  have hy := w_says y
  have he := or_wd x y
  generalize wd (bits .or .i64 x y) = v at *
  have b1 := wd_lo x
  have b2 := wd_hi x
  have b3 := wd_lo y
  have b4 := wd_hi y
  generalize wd x = a at *
  generalize wd y = b at *
  go_enter Tryz.func65, Tryz.ntmps65
  go_wp2_with (first | (go_at_call 19; first | ((with_reducible refine (hx _).mono ?_); rintro e w' ⟨rfl, rfl⟩) | ((with_reducible refine (hy _).mono ?_); rintro e w' ⟨rfl, rfl⟩)))
  go_ret2
  exact ⟨rfl, rfl⟩
set_option maxRecDepth 100000 in
theorem ralu_5 (x y : Int) : Says 65 #[i64 5, i64 x, i64 y] (.tuple #[i64 (wd (bits .xor .i64 x y)), .bool true]) := by
  intro w
  have hx := w_says x
  have hy := w_says y
  have he := xor_wd x y
  generalize wd (bits .xor .i64 x y) = v at *
  have b1 := wd_lo x
  have b2 := wd_hi x
  have b3 := wd_lo y
  have b4 := wd_hi y
  generalize wd x = a at *
  generalize wd y = b at *
  go_enter Tryz.func65, Tryz.ntmps65
  go_wp2_with (first | (go_at_call 19; first | ((with_reducible refine (hx _).mono ?_); rintro e w' ⟨rfl, rfl⟩) | ((with_reducible refine (hy _).mono ?_); rintro e w' ⟨rfl, rfl⟩)))
  go_ret2
  exact ⟨rfl, rfl⟩
set_option maxRecDepth 100000 in
theorem ralu_6 (x y : Int) : Says 65 #[i64 6, i64 x, i64 y] (.tuple #[i64 (lf x y), .bool true]) := by
  intro w
  have hx := w_says x
  have hy := w_says y
  have hc := rleft_says (wd x) (wd y)
  rw [lf_wd] at hc
  have b1 := wd_lo x
  have b2 := wd_hi x
  have b3 := wd_lo y
  have b4 := wd_hi y
  generalize wd x = a at *
  generalize wd y = b at *
  go_enter Tryz.func65, Tryz.ntmps65
  go_wp2_with (first | (go_at_call 19; first | ((with_reducible refine (hx _).mono ?_); rintro e w' ⟨rfl, rfl⟩) | ((with_reducible refine (hy _).mono ?_); rintro e w' ⟨rfl, rfl⟩)) | (go_at_call 92; first | ((with_reducible refine (hc _).mono ?_); rintro e w' ⟨rfl, rfl⟩)))
  go_ret2
  exact ⟨rfl, rfl⟩
set_option maxRecDepth 100000 in
theorem ralu_7 (x y : Int) : Says 65 #[i64 7, i64 x, i64 y] (.tuple #[i64 (rt x y), .bool true]) := by
  intro w
  have hx := w_says x
  have hy := w_says y
  have hc := rright_says (wd x) (wd y)
  rw [rt_wd] at hc
  have b1 := wd_lo x
  have b2 := wd_hi x
  have b3 := wd_lo y
  have b4 := wd_hi y
  generalize wd x = a at *
  generalize wd y = b at *
  go_enter Tryz.func65, Tryz.ntmps65
  go_wp2_with (first | (go_at_call 19; first | ((with_reducible refine (hx _).mono ?_); rintro e w' ⟨rfl, rfl⟩) | ((with_reducible refine (hy _).mono ?_); rintro e w' ⟨rfl, rfl⟩)) | (go_at_call 93; first | ((with_reducible refine (hc _).mono ?_); rintro e w' ⟨rfl, rfl⟩)))
  go_ret2
  exact ⟨rfl, rfl⟩
set_option maxRecDepth 100000 in
theorem ralu_8 (x y : Int) : Says 65 #[i64 8, i64 x, i64 y] (.tuple #[i64 (ar x y), .bool true]) := by
  intro w
  have hx := w_says x
  have hy := w_says y
  have hc := rarith_says (wd x) (wd y)
  rw [ar_wd] at hc
  have b1 := wd_lo x
  have b2 := wd_hi x
  have b3 := wd_lo y
  have b4 := wd_hi y
  generalize wd x = a at *
  generalize wd y = b at *
  go_enter Tryz.func65, Tryz.ntmps65
  go_wp2_with (first | (go_at_call 19; first | ((with_reducible refine (hx _).mono ?_); rintro e w' ⟨rfl, rfl⟩) | ((with_reducible refine (hy _).mono ?_); rintro e w' ⟨rfl, rfl⟩)) | (go_at_call 94; first | ((with_reducible refine (hc _).mono ?_); rintro e w' ⟨rfl, rfl⟩)))
  go_ret2
  exact ⟨rfl, rfl⟩
set_option maxRecDepth 100000 in
theorem ralu_9 (x y : Int) : Says 65 #[i64 9, i64 x, i64 y] (.tuple #[i64 (wd (x * y)), .bool true]) := by
  intro w
  have hx := w_says x
  have hy := w_says y
  have hc := rmul_says (wd x) (wd y)
  rw [wd_mul] at hc
  generalize wd (x * y) = v at *
  have b1 := wd_lo x
  have b2 := wd_hi x
  have b3 := wd_lo y
  have b4 := wd_hi y
  generalize wd x = a at *
  generalize wd y = b at *
  go_enter Tryz.func65, Tryz.ntmps65
  go_wp2_with (first | (go_at_call 19; first | ((with_reducible refine (hx _).mono ?_); rintro e w' ⟨rfl, rfl⟩) | ((with_reducible refine (hy _).mono ?_); rintro e w' ⟨rfl, rfl⟩)) | (go_at_call 95; first | ((with_reducible refine (hc _).mono ?_); rintro e w' ⟨rfl, rfl⟩)))
  go_ret2
  exact ⟨rfl, rfl⟩
set_option maxRecDepth 100000 in
theorem ralu_12 (x y : Int) : Says 65 #[i64 12, i64 x, i64 y] (.tuple #[i64 (dv x y), .bool true]) := by
  intro w
  have hx := w_says x
  have hy := w_says y
  have hc := rdiv_says (wd x) (wd y)
  rw [dv_wd] at hc
  have b1 := wd_lo x
  have b2 := wd_hi x
  have b3 := wd_lo y
  have b4 := wd_hi y
  generalize wd x = a at *
  generalize wd y = b at *
  go_enter Tryz.func65, Tryz.ntmps65
  go_wp2_with (first | (go_at_call 19; first | ((with_reducible refine (hx _).mono ?_); rintro e w' ⟨rfl, rfl⟩) | ((with_reducible refine (hy _).mono ?_); rintro e w' ⟨rfl, rfl⟩)) | (go_at_call 96; first | ((with_reducible refine (hc _).mono ?_); rintro e w' ⟨rfl, rfl⟩)))
  go_ret2
  exact ⟨rfl, rfl⟩
set_option maxRecDepth 100000 in
theorem ralu_13 (x y : Int) : Says 65 #[i64 13, i64 x, i64 y] (.tuple #[i64 (rm x y), .bool true]) := by
  intro w
  have hx := w_says x
  have hy := w_says y
  have hc := rrem_says (wd x) (wd y)
  rw [rm_wd] at hc
  have b1 := wd_lo x
  have b2 := wd_hi x
  have b3 := wd_lo y
  have b4 := wd_hi y
  generalize wd x = a at *
  generalize wd y = b at *
  go_enter Tryz.func65, Tryz.ntmps65
  go_wp2_with (first | (go_at_call 19; first | ((with_reducible refine (hx _).mono ?_); rintro e w' ⟨rfl, rfl⟩) | ((with_reducible refine (hy _).mono ?_); rintro e w' ⟨rfl, rfl⟩)) | (go_at_call 97; first | ((with_reducible refine (hc _).mono ?_); rintro e w' ⟨rfl, rfl⟩)))
  go_ret2
  exact ⟨rfl, rfl⟩
set_option maxRecDepth 100000 in
theorem ralu_16 (x y : Int) : Says 65 #[i64 16, i64 x, i64 y] (.tuple #[i64 (wd (x + y)), .bool true]) := by
  intro w
  have hx := w_says x
  have hy := w_says y
  have hc := w_says (wd x + wd y)
  rw [add_wd] at hc
  generalize wd (x + y) = v at *
  have b1 := wd_lo x
  have b2 := wd_hi x
  have b3 := wd_lo y
  have b4 := wd_hi y
  generalize wd x = a at *
  generalize wd y = b at *
  go_enter Tryz.func65, Tryz.ntmps65
  go_wp2_with (first | (go_at_call 19; first | ((with_reducible refine (hx _).mono ?_); rintro e w' ⟨rfl, rfl⟩) | ((with_reducible refine (hy _).mono ?_); rintro e w' ⟨rfl, rfl⟩) | ((with_reducible refine (hc _).mono ?_); rintro e w' ⟨rfl, rfl⟩)))
  go_ret2
  exact ⟨rfl, rfl⟩
set_option maxRecDepth 100000 in
theorem ralu_17 (x y : Int) : Says 65 #[i64 17, i64 x, i64 y] (.tuple #[i64 (wd (bits .and .i64 x y)), .bool true]) := by
  intro w
  have hx := w_says x
  have hy := w_says y
  have he := and_wd x y
  generalize wd (bits .and .i64 x y) = v at *
  have b1 := wd_lo x
  have b2 := wd_hi x
  have b3 := wd_lo y
  have b4 := wd_hi y
  generalize wd x = a at *
  generalize wd y = b at *
  go_enter Tryz.func65, Tryz.ntmps65
  go_wp2_with (first | (go_at_call 19; first | ((with_reducible refine (hx _).mono ?_); rintro e w' ⟨rfl, rfl⟩) | ((with_reducible refine (hy _).mono ?_); rintro e w' ⟨rfl, rfl⟩)))
  go_ret2
  exact ⟨rfl, rfl⟩
set_option maxRecDepth 100000 in
theorem ralu_18 (x y : Int) : Says 65 #[i64 18, i64 x, i64 y] (.tuple #[i64 (wd (bits .or .i64 x y)), .bool true]) := by
  intro w
  have hx := w_says x
  have hy := w_says y
  have he := or_wd x y
  generalize wd (bits .or .i64 x y) = v at *
  have b1 := wd_lo x
  have b2 := wd_hi x
  have b3 := wd_lo y
  have b4 := wd_hi y
  generalize wd x = a at *
  generalize wd y = b at *
  go_enter Tryz.func65, Tryz.ntmps65
  go_wp2_with (first | (go_at_call 19; first | ((with_reducible refine (hx _).mono ?_); rintro e w' ⟨rfl, rfl⟩) | ((with_reducible refine (hy _).mono ?_); rintro e w' ⟨rfl, rfl⟩)))
  go_ret2
  exact ⟨rfl, rfl⟩
set_option maxRecDepth 100000 in
theorem ralu_19 (x y : Int) : Says 65 #[i64 19, i64 x, i64 y] (.tuple #[i64 (wd (bits .xor .i64 x y)), .bool true]) := by
  intro w
  have hx := w_says x
  have hy := w_says y
  have he := xor_wd x y
  generalize wd (bits .xor .i64 x y) = v at *
  have b1 := wd_lo x
  have b2 := wd_hi x
  have b3 := wd_lo y
  have b4 := wd_hi y
  generalize wd x = a at *
  generalize wd y = b at *
  go_enter Tryz.func65, Tryz.ntmps65
  go_wp2_with (first | (go_at_call 19; first | ((with_reducible refine (hx _).mono ?_); rintro e w' ⟨rfl, rfl⟩) | ((with_reducible refine (hy _).mono ?_); rintro e w' ⟨rfl, rfl⟩)))
  go_ret2
  exact ⟨rfl, rfl⟩
set_option maxRecDepth 100000 in
theorem ralu_20 (x y : Int) : Says 65 #[i64 20, i64 x, i64 y] (.tuple #[i64 (lf x y), .bool true]) := by
  intro w
  have hx := w_says x
  have hy := w_says y
  have hc := rleft_says (wd x) (wd y)
  rw [lf_wd] at hc
  have b1 := wd_lo x
  have b2 := wd_hi x
  have b3 := wd_lo y
  have b4 := wd_hi y
  generalize wd x = a at *
  generalize wd y = b at *
  go_enter Tryz.func65, Tryz.ntmps65
  go_wp2_with (first | (go_at_call 19; first | ((with_reducible refine (hx _).mono ?_); rintro e w' ⟨rfl, rfl⟩) | ((with_reducible refine (hy _).mono ?_); rintro e w' ⟨rfl, rfl⟩)) | (go_at_call 92; first | ((with_reducible refine (hc _).mono ?_); rintro e w' ⟨rfl, rfl⟩)))
  go_ret2
  exact ⟨rfl, rfl⟩
set_option maxRecDepth 100000 in
theorem ralu_21 (x y : Int) : Says 65 #[i64 21, i64 x, i64 y] (.tuple #[i64 (rt x y), .bool true]) := by
  intro w
  have hx := w_says x
  have hy := w_says y
  have hc := rright_says (wd x) (wd y)
  rw [rt_wd] at hc
  have b1 := wd_lo x
  have b2 := wd_hi x
  have b3 := wd_lo y
  have b4 := wd_hi y
  generalize wd x = a at *
  generalize wd y = b at *
  go_enter Tryz.func65, Tryz.ntmps65
  go_wp2_with (first | (go_at_call 19; first | ((with_reducible refine (hx _).mono ?_); rintro e w' ⟨rfl, rfl⟩) | ((with_reducible refine (hy _).mono ?_); rintro e w' ⟨rfl, rfl⟩)) | (go_at_call 93; first | ((with_reducible refine (hc _).mono ?_); rintro e w' ⟨rfl, rfl⟩)))
  go_ret2
  exact ⟨rfl, rfl⟩
set_option maxRecDepth 100000 in
theorem ralu_22 (x y : Int) : Says 65 #[i64 22, i64 x, i64 y] (.tuple #[i64 (ar x y), .bool true]) := by
  intro w
  have hx := w_says x
  have hy := w_says y
  have hc := rarith_says (wd x) (wd y)
  rw [ar_wd] at hc
  have b1 := wd_lo x
  have b2 := wd_hi x
  have b3 := wd_lo y
  have b4 := wd_hi y
  generalize wd x = a at *
  generalize wd y = b at *
  go_enter Tryz.func65, Tryz.ntmps65
  go_wp2_with (first | (go_at_call 19; first | ((with_reducible refine (hx _).mono ?_); rintro e w' ⟨rfl, rfl⟩) | ((with_reducible refine (hy _).mono ?_); rintro e w' ⟨rfl, rfl⟩)) | (go_at_call 94; first | ((with_reducible refine (hc _).mono ?_); rintro e w' ⟨rfl, rfl⟩)))
  go_ret2
  exact ⟨rfl, rfl⟩
set_option maxRecDepth 100000 in
theorem ralu_23 (x y : Int) : Says 65 #[i64 23, i64 x, i64 y] (.tuple #[i64 (lf y 16), .bool true]) := by
  intro w
  have hx := w_says x
  have hy := w_says y
  have hc := w_says (wd y * 65536)
  rw [lui_wd] at hc
  generalize lf y 16 = v at *
  have b1 := wd_lo x
  have b2 := wd_hi x
  have b3 := wd_lo y
  have b4 := wd_hi y
  generalize wd x = a at *
  generalize wd y = b at *
  go_enter Tryz.func65, Tryz.ntmps65
  go_wp2_with (first | (go_at_call 19; first | ((with_reducible refine (hx _).mono ?_); rintro e w' ⟨rfl, rfl⟩) | ((with_reducible refine (hy _).mono ?_); rintro e w' ⟨rfl, rfl⟩) | ((with_reducible refine (hc _).mono ?_); rintro e w' ⟨rfl, rfl⟩)))
  go_ret2
  exact ⟨rfl, rfl⟩
set_option maxRecDepth 100000 in
theorem ralu_10 (x y : Int) : Says 65 #[i64 10, i64 x, i64 y] (.tuple #[i64 (if sg x < sg y then 1 else 0), .bool true]) := by
  intro w
  have hx := w_says x
  have hy := w_says y
  have b1 := wd_lo x
  have b2 := wd_hi x
  have b3 := wd_lo y
  have b4 := wd_hi y
  have hc := rsigned_says (wd x)
  have hd := rsigned_says (wd y)
  rw [sg_wd] at hc hd
  have c1 := sg_lo x
  have c2 := sg_hi x
  have c3 := sg_lo y
  have c4 := sg_hi y
  generalize sg x = s at *
  generalize sg y = u at *
  generalize wd x = a at *
  generalize wd y = b at *
  by_cases hq : s < u
  all_goals
    go_enter Tryz.func65, Tryz.ntmps65
    go_wp2_with (first | (go_at_call 19; first | ((with_reducible refine (hx _).mono ?_); rintro e w' ⟨rfl, rfl⟩) | ((with_reducible refine (hy _).mono ?_); rintro e w' ⟨rfl, rfl⟩)) | (go_at_call 45; first | ((with_reducible refine (hc _).mono ?_); rintro e w' ⟨rfl, rfl⟩) | ((with_reducible refine (hd _).mono ?_); rintro e w' ⟨rfl, rfl⟩)))
    all_goals first
      | (go_ret2; exact ⟨by first | (simp; done) | simp [hq], rfl⟩)
      | (exfalso; omega)
set_option maxRecDepth 100000 in
theorem ralu_24 (x y : Int) : Says 65 #[i64 24, i64 x, i64 y] (.tuple #[i64 (if sg x < sg y then 1 else 0), .bool true]) := by
  intro w
  have hx := w_says x
  have hy := w_says y
  have b1 := wd_lo x
  have b2 := wd_hi x
  have b3 := wd_lo y
  have b4 := wd_hi y
  have hc := rsigned_says (wd x)
  have hd := rsigned_says (wd y)
  rw [sg_wd] at hc hd
  have c1 := sg_lo x
  have c2 := sg_hi x
  have c3 := sg_lo y
  have c4 := sg_hi y
  generalize sg x = s at *
  generalize sg y = u at *
  generalize wd x = a at *
  generalize wd y = b at *
  by_cases hq : s < u
  all_goals
    go_enter Tryz.func65, Tryz.ntmps65
    go_wp2_with (first | (go_at_call 19; first | ((with_reducible refine (hx _).mono ?_); rintro e w' ⟨rfl, rfl⟩) | ((with_reducible refine (hy _).mono ?_); rintro e w' ⟨rfl, rfl⟩)) | (go_at_call 45; first | ((with_reducible refine (hc _).mono ?_); rintro e w' ⟨rfl, rfl⟩) | ((with_reducible refine (hd _).mono ?_); rintro e w' ⟨rfl, rfl⟩)))
    all_goals first
      | (go_ret2; exact ⟨by first | (simp; done) | simp [hq], rfl⟩)
      | (exfalso; omega)
set_option maxRecDepth 100000 in
theorem ralu_11 (x y : Int) : Says 65 #[i64 11, i64 x, i64 y] (.tuple #[i64 (if wd x < wd y then 1 else 0), .bool true]) := by
  intro w
  have hx := w_says x
  have hy := w_says y
  have b1 := wd_lo x
  have b2 := wd_hi x
  have b3 := wd_lo y
  have b4 := wd_hi y
  generalize wd x = a at *
  generalize wd y = b at *
  by_cases hq : a < b
  all_goals
    go_enter Tryz.func65, Tryz.ntmps65
    go_wp2_with (first | (go_at_call 19; first | ((with_reducible refine (hx _).mono ?_); rintro e w' ⟨rfl, rfl⟩) | ((with_reducible refine (hy _).mono ?_); rintro e w' ⟨rfl, rfl⟩)))
    all_goals first
      | (go_ret2; exact ⟨by first | (simp; done) | simp [hq], rfl⟩)
      | (exfalso; omega)
set_option maxRecDepth 100000 in
theorem rtak_48 (x y : Int) : Says 67 #[i64 48, i64 x, i64 y] (.tuple #[.bool (decide (wd x = wd y)), .bool true]) := by
  intro w
  have hx := w_says x
  have hy := w_says y
  have b1 := wd_lo x
  have b2 := wd_hi x
  have b3 := wd_lo y
  have b4 := wd_hi y
  generalize wd x = a at *
  generalize wd y = b at *
  by_cases hq : a = b
  all_goals
    go_enter Tryz.func67, Tryz.ntmps67
    go_wp2_with (first | (go_at_call 19; first | ((with_reducible refine (hx _).mono ?_); rintro e w' ⟨rfl, rfl⟩) | ((with_reducible refine (hy _).mono ?_); rintro e w' ⟨rfl, rfl⟩)))
    all_goals first
      | (go_ret2; exact ⟨by first | (simp; done) | simp [hq], rfl⟩)
      | (exfalso; omega)
set_option maxRecDepth 100000 in
theorem rtak_49 (x y : Int) : Says 67 #[i64 49, i64 x, i64 y] (.tuple #[.bool (!decide (wd x = wd y)), .bool true]) := by
  intro w
  have hx := w_says x
  have hy := w_says y
  have b1 := wd_lo x
  have b2 := wd_hi x
  have b3 := wd_lo y
  have b4 := wd_hi y
  generalize wd x = a at *
  generalize wd y = b at *
  by_cases hq : a = b
  all_goals
    go_enter Tryz.func67, Tryz.ntmps67
    go_wp2_with (first | (go_at_call 19; first | ((with_reducible refine (hx _).mono ?_); rintro e w' ⟨rfl, rfl⟩) | ((with_reducible refine (hy _).mono ?_); rintro e w' ⟨rfl, rfl⟩)))
    all_goals first
      | (go_ret2; exact ⟨by first | (simp; done) | simp [hq], rfl⟩)
      | (exfalso; omega)
set_option maxRecDepth 100000 in
theorem rtak_50 (x y : Int) : Says 67 #[i64 50, i64 x, i64 y] (.tuple #[.bool (decide (sg x < sg y)), .bool true]) := by
  intro w
  have hx := w_says x
  have hy := w_says y
  have b1 := wd_lo x
  have b2 := wd_hi x
  have b3 := wd_lo y
  have b4 := wd_hi y
  have hc := rsigned_says (wd x)
  have hd := rsigned_says (wd y)
  rw [sg_wd] at hc hd
  have c1 := sg_lo x
  have c2 := sg_hi x
  have c3 := sg_lo y
  have c4 := sg_hi y
  generalize sg x = s at *
  generalize sg y = u at *
  generalize wd x = a at *
  generalize wd y = b at *
  by_cases hq : s < u
  all_goals
    go_enter Tryz.func67, Tryz.ntmps67
    go_wp2_with (first | (go_at_call 19; first | ((with_reducible refine (hx _).mono ?_); rintro e w' ⟨rfl, rfl⟩) | ((with_reducible refine (hy _).mono ?_); rintro e w' ⟨rfl, rfl⟩)) | (go_at_call 45; first | ((with_reducible refine (hc _).mono ?_); rintro e w' ⟨rfl, rfl⟩) | ((with_reducible refine (hd _).mono ?_); rintro e w' ⟨rfl, rfl⟩)))
    all_goals first
      | (go_ret2; exact ⟨by first | (simp; done) | simp [hq], rfl⟩)
      | (exfalso; omega)
set_option maxRecDepth 100000 in
theorem rtak_51 (x y : Int) : Says 67 #[i64 51, i64 x, i64 y] (.tuple #[.bool (!decide (sg x < sg y)), .bool true]) := by
  intro w
  have hx := w_says x
  have hy := w_says y
  have b1 := wd_lo x
  have b2 := wd_hi x
  have b3 := wd_lo y
  have b4 := wd_hi y
  have hc := rsigned_says (wd x)
  have hd := rsigned_says (wd y)
  rw [sg_wd] at hc hd
  have c1 := sg_lo x
  have c2 := sg_hi x
  have c3 := sg_lo y
  have c4 := sg_hi y
  generalize sg x = s at *
  generalize sg y = u at *
  generalize wd x = a at *
  generalize wd y = b at *
  by_cases hq : s < u
  all_goals
    go_enter Tryz.func67, Tryz.ntmps67
    go_wp2_with (first | (go_at_call 19; first | ((with_reducible refine (hx _).mono ?_); rintro e w' ⟨rfl, rfl⟩) | ((with_reducible refine (hy _).mono ?_); rintro e w' ⟨rfl, rfl⟩)) | (go_at_call 45; first | ((with_reducible refine (hc _).mono ?_); rintro e w' ⟨rfl, rfl⟩) | ((with_reducible refine (hd _).mono ?_); rintro e w' ⟨rfl, rfl⟩)))
    all_goals first
      | (go_ret2; exact ⟨by first | (simp; done) | simp [hq], rfl⟩)
      | (exfalso; omega)
set_option maxRecDepth 100000 in
theorem rtak_52 (x y : Int) : Says 67 #[i64 52, i64 x, i64 y] (.tuple #[.bool (decide (wd x < wd y)), .bool true]) := by
  intro w
  have hx := w_says x
  have hy := w_says y
  have b1 := wd_lo x
  have b2 := wd_hi x
  have b3 := wd_lo y
  have b4 := wd_hi y
  generalize wd x = a at *
  generalize wd y = b at *
  by_cases hq : a < b
  all_goals
    go_enter Tryz.func67, Tryz.ntmps67
    go_wp2_with (first | (go_at_call 19; first | ((with_reducible refine (hx _).mono ?_); rintro e w' ⟨rfl, rfl⟩) | ((with_reducible refine (hy _).mono ?_); rintro e w' ⟨rfl, rfl⟩)))
    all_goals first
      | (go_ret2; exact ⟨by first | (simp; done) | simp [hq], rfl⟩)
      | (exfalso; omega)
set_option maxRecDepth 100000 in
theorem rtak_53 (x y : Int) : Says 67 #[i64 53, i64 x, i64 y] (.tuple #[.bool (!decide (wd x < wd y)), .bool true]) := by
  intro w
  have hx := w_says x
  have hy := w_says y
  have b1 := wd_lo x
  have b2 := wd_hi x
  have b3 := wd_lo y
  have b4 := wd_hi y
  generalize wd x = a at *
  generalize wd y = b at *
  by_cases hq : a < b
  all_goals
    go_enter Tryz.func67, Tryz.ntmps67
    go_wp2_with (first | (go_at_call 19; first | ((with_reducible refine (hx _).mono ?_); rintro e w' ⟨rfl, rfl⟩) | ((with_reducible refine (hy _).mono ?_); rintro e w' ⟨rfl, rfl⟩)))
    all_goals first
      | (go_ret2; exact ⟨by first | (simp; done) | simp [hq], rfl⟩)
      | (exfalso; omega)
set_option maxRecDepth 100000 in
theorem ralu_no (op x y : Int) (n1 : op ≠ 1) (n2 : op ≠ 2) (n3 : op ≠ 3) (n4 : op ≠ 4) (n5 : op ≠ 5) (n6 : op ≠ 6) (n7 : op ≠ 7) (n8 : op ≠ 8) (n9 : op ≠ 9) (n10 : op ≠ 10) (n11 : op ≠ 11) (n12 : op ≠ 12) (n13 : op ≠ 13) (n16 : op ≠ 16) (n17 : op ≠ 17) (n18 : op ≠ 18) (n19 : op ≠ 19) (n20 : op ≠ 20) (n21 : op ≠ 21) (n22 : op ≠ 22) (n23 : op ≠ 23) (n24 : op ≠ 24) : Says 65 #[i64 op, i64 x, i64 y] (.tuple #[i64 0, .bool false]) := by
  intro w
  have hx := w_says x
  have hy := w_says y
  go_enter Tryz.func65, Tryz.ntmps65
  go_wp2_with (go_at_call 19; first | ((with_reducible refine (hx _).mono ?_); rintro e w' ⟨rfl, rfl⟩) | ((with_reducible refine (hy _).mono ?_); rintro e w' ⟨rfl, rfl⟩))
  go_ret2
  exact ⟨rfl, rfl⟩
theorem ralu_says (op x y : Int) : Says 65 #[i64 op, i64 x, i64 y] (.tuple #[i64 (aluV op x y), .bool (aluK op)]) := by
  by_cases n1 : op = 1
  · subst n1; exact ralu_1 x y
  by_cases n2 : op = 2
  · subst n2; exact ralu_2 x y
  by_cases n3 : op = 3
  · subst n3; exact ralu_3 x y
  by_cases n4 : op = 4
  · subst n4; exact ralu_4 x y
  by_cases n5 : op = 5
  · subst n5; exact ralu_5 x y
  by_cases n6 : op = 6
  · subst n6; exact ralu_6 x y
  by_cases n7 : op = 7
  · subst n7; exact ralu_7 x y
  by_cases n8 : op = 8
  · subst n8; exact ralu_8 x y
  by_cases n9 : op = 9
  · subst n9; exact ralu_9 x y
  by_cases n10 : op = 10
  · subst n10; exact ralu_10 x y
  by_cases n11 : op = 11
  · subst n11; exact ralu_11 x y
  by_cases n12 : op = 12
  · subst n12; exact ralu_12 x y
  by_cases n13 : op = 13
  · subst n13; exact ralu_13 x y
  by_cases n16 : op = 16
  · subst n16; exact ralu_16 x y
  by_cases n17 : op = 17
  · subst n17; exact ralu_17 x y
  by_cases n18 : op = 18
  · subst n18; exact ralu_18 x y
  by_cases n19 : op = 19
  · subst n19; exact ralu_19 x y
  by_cases n20 : op = 20
  · subst n20; exact ralu_20 x y
  by_cases n21 : op = 21
  · subst n21; exact ralu_21 x y
  by_cases n22 : op = 22
  · subst n22; exact ralu_22 x y
  by_cases n23 : op = 23
  · subst n23; exact ralu_23 x y
  by_cases n24 : op = 24
  · subst n24; exact ralu_24 x y
  have hv : aluV op x y = 0 := by unfold aluV; simp [n1, n2, n3, n4, n5, n6, n7, n8, n9, n10, n11, n12, n13, n16, n17, n18, n19, n20, n21, n22, n23, n24]
  have hk : aluK op = false := by unfold aluK; simp; omega
  rw [hv, hk]; exact ralu_no op x y n1 n2 n3 n4 n5 n6 n7 n8 n9 n10 n11 n12 n13 n16 n17 n18 n19 n20 n21 n22 n23 n24
set_option maxRecDepth 100000 in
theorem rtak_no (op x y : Int) (n48 : op ≠ 48) (n49 : op ≠ 49) (n50 : op ≠ 50) (n51 : op ≠ 51) (n52 : op ≠ 52) (n53 : op ≠ 53) : Says 67 #[i64 op, i64 x, i64 y] (.tuple #[.bool false, .bool false]) := by
  intro w
  have hx := w_says x
  have hy := w_says y
  go_enter Tryz.func67, Tryz.ntmps67
  go_wp2_with (go_at_call 19; first | ((with_reducible refine (hx _).mono ?_); rintro e w' ⟨rfl, rfl⟩) | ((with_reducible refine (hy _).mono ?_); rintro e w' ⟨rfl, rfl⟩))
  go_ret2
  exact ⟨rfl, rfl⟩
theorem rtak_says (op x y : Int) : Says 67 #[i64 op, i64 x, i64 y] (.tuple #[.bool (takV op x y), .bool (takK op)]) := by
  by_cases n48 : op = 48
  · subst n48; exact rtak_48 x y
  by_cases n49 : op = 49
  · subst n49; exact rtak_49 x y
  by_cases n50 : op = 50
  · subst n50; exact rtak_50 x y
  by_cases n51 : op = 51
  · subst n51; exact rtak_51 x y
  by_cases n52 : op = 52
  · subst n52; exact rtak_52 x y
  by_cases n53 : op = 53
  · subst n53; exact rtak_53 x y
  have hv : takV op x y = false := by unfold takV; simp [n48, n49, n50, n51, n52, n53]
  have hk : takK op = false := by unfold takK; simp; omega
  rw [hv, hk]; exact rtak_no op x y n48 n49 n50 n51 n52 n53
end Go.Proofs.YtfcmodllbhpniaaGreatDoor
set_option maxRecDepth 100000
namespace Go.Proofs.YtfcmodllbhpniaaGreatDoor
open Go.ChangeShapes Go.WideShapes Go.ChangeAt Go.RowKit
theorem rng_of {n : Int} (h : (Lit.int .i64 n).wf = true) : -9223372036854775808 ≤ n ∧ n ≤ 9223372036854775807 := by
  simp [Lit.wf, IntKind.min, IntKind.max, IntKind.signed, IntKind.bits] at h
  omega
set_option maxRecDepth 100000 in
theorem tak_no (op x y : Int) (ho : -9223372036854775808 ≤ op ∧ op ≤ 9223372036854775807) (hop : op < 48 ∨ 54 ≤ op) : Tells 116 #[i64 op, i64 x, i64 y] (.tuple #[.bool false, .bool false]) := by
  intro w
  rcases hop with hop | hop
  all_goals
    go_enter Tryz.func116, Tryz.ntmps116
    go_wp2_with fail
    go_ret2
    exact ⟨rfl, ((Below.refl _ w).alloc (Nat.le_refl _) _).alloc (by simp) _⟩
theorem tak_says (op x y : Int) (ho : -9223372036854775808 ≤ op ∧ op ≤ 9223372036854775807) : Tells 116 #[i64 op, i64 x, i64 y] (.tuple #[.bool (takV op x y), .bool (takK op)]) := by
  by_cases n48 : op = 48
  · subst n48; exact tak_48 x y
  by_cases n49 : op = 49
  · subst n49; exact tak_49 x y
  by_cases n50 : op = 50
  · subst n50; exact tak_50 x y
  by_cases n51 : op = 51
  · subst n51; exact tak_51 x y
  by_cases n52 : op = 52
  · subst n52; exact tak_52 x y
  by_cases n53 : op = 53
  · subst n53; exact tak_53 x y
  have hv : takV op x y = false := by unfold takV; simp [n48, n49, n50, n51, n52, n53]
  have hk : takK op = false := by unfold takK; simp; omega
  rw [hv, hk]; exact tak_no op x y ho (by omega)
abbrev accT : Array Value := #[i64 0, i64 0, .bool false, i64 0, i64 0, .bool false, i64 0, i64 0, .bool false, i64 0, i64 0, .bool false, i64 0, i64 0, .bool false, i64 0, i64 0, .bool false, i64 0, i64 0, .bool false, i64 0, i64 0, .bool false, i64 0, i64 0, .bool false, i64 0, i64 0, .bool false, i64 0, i64 0, .bool false, i64 0, i64 0, .bool false, i64 0, i64 0, .bool false, i64 0, i64 0, .bool false, i64 0, i64 0, .bool false, i64 0, i64 0, .bool false, i64 0, i64 0, .bool false, i64 0, i64 0, .bool false, i64 0, i64 0, .bool false, i64 0, i64 0, .bool false, i64 0, i64 0, .bool false, i64 0, i64 0, .bool false, i64 0, i64 0, .bool false, i64 0, i64 0, .bool false, i64 0, i64 0, .bool false, i64 0, i64 0, .bool false, i64 0, i64 0, .bool false, i64 0, i64 0, .bool false, i64 0, i64 0, .bool false, i64 0, i64 0, .bool false, i64 0, i64 0, .bool false, i64 0, i64 0, .bool false, i64 4, i64 1, .bool false, i64 2, i64 1, .bool true, i64 2, i64 1, .bool false, i64 1, i64 1, .bool true, i64 1, i64 1, .bool false, i64 0, i64 0, .bool false, i64 0, i64 0, .bool false, i64 0, i64 0, .bool false, i64 4, i64 2, .bool false, i64 2, i64 2, .bool false, i64 1, i64 2, .bool false]
set_option maxRecDepth 100000 in
theorem access_35 : Tells 136 #[i64 35] (.agg #[i64 1, i64 1, .bool true]) := by
  intro w
  obtain ⟨cs, hcs⟩ : ∃ cs : Array Value, cs = accT := ⟨_, rfl⟩
  have hix : ∀ w, (Instr.index 211 (.agg cs) (i64 35)).run Tryz.prog w = .ok (.agg #[i64 1, i64 1, .bool true]) w := by intro w; rw [hcs]; kernel_rfl
  have hcs' := Lib.hid hcs
  clear hcs
  go_enter Tryz.func136, Tryz.ntmps136
  go_wp2_with (refine wpList_buildTo rfl 211 _ rfl cs (by rw [hcs'.out]; kernel_rfl) ?_)
  exact bodyPost_ret (v := .agg #[i64 1, i64 1, .bool true]) (by simp [results, Tryz.results136, go_sem]) rfl ⟨rfl, (Below.refl _ w).alloc (Nat.le_refl _) _⟩
set_option maxRecDepth 100000 in
theorem loaded_35 : Tells 137 #[i64 35, i64 128] (i64 4294967168) := by
  intro w
  have he := extend_says 128 8
  rw [show ex 128 8 = 4294967168 from by decide +kernel] at he
  go_enter Tryz.func137, Tryz.ntmps137
  go_wp2_with (first
    | (go_at_call 136; refine (access_35 _).mono ?_; rintro e w1 ⟨rfl, hb⟩)
    | (go_at_call 165; refine (he _).mono ?_; rintro e w2 ⟨rfl, rfl⟩))
  go_ret
  exact ⟨rfl, hb.alloc hb.size _⟩
theorem alu_ex : Tells 117 #[i64 2, i64 1, i64 2] (.tuple #[i64 4294967295, .bool true]) := alu_says 2 1 2 (by omega)
end Go.Proofs.YtfcmodllbhpniaaGreatDoor
