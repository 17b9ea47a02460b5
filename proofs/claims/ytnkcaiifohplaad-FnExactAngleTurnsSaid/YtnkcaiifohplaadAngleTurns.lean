/- For every two 32-bit numbers, impl.AngleTurns answers as the model of the document does, and changes nothing that it is given. -/
import Derived.Test.YtnkcaiifohplaadRows
import Derived.WalkKit
import Derived.WalkLawsBesides
import Derived.ProofKit
import Derived.OpenShut
import Derived.ShutString
import Derived.ChangeOld
import Derived.Below
import Derived.IntWalk
import Derived.Lib.Hide
import Derived.Test.YtnkcaiifohplaadSame
import Derived.Test.YtnkcaiifohplaadFin
import Derived.Test.YtnkcaiifohplaadNan
import Derived.Test.YtnkcaiifohplaadSteep
import Derived.Test.YtnkcaiifohplaadAp
namespace Go.Proofs.Ytnkcaiifohplaad.lawAngleTurns
open Go.ChangeShapes Go.WideShapes Go.ChangeAt Go.RowKit
open Go.ChangeMaps (open_string shut_string)
set_option linter.unusedVariables false
theorem own : ownKnob Try.prog.godebug = none := by kernel_rfl
theorem laidOut : laidOutB Try.prog = true := by kernel_rfl
open Go.Proofs.Ytnkcaiifohplaad.Fl
theorem below_n (w : World) (n : Nat) : Below w.heap.size w (w.drewN n) := ⟨rfl, rfl, rfl, Nat.le_refl _, fun _ _ => rfl⟩
theorem fin_some {x : Nat} {v : Option Nat} (hx : Is .f32 x v) (h : finF v = true) : v = some x ∧ nanw .f32 x = false ∧ x % 2147483648 < 2139095040 := by
  rcases Is_cases hx.2 with g | g
  · obtain rfl : none = v := g.1.symm.trans hx.1
    cases h
  · obtain rfl : some x = v := g.1.symm.trans hx.1
    exact ⟨rfl, not_nan g, of_decide_eq_true h⟩

/-! ## One of both is not finite -/
set_option maxHeartbeats 400000 in
theorem implNan {y x : Nat} {v u : Option Nat} (w : World) (hy : Is .f32 y v) (hx : Is .f32 x u) (h : finF v = false ∨ finF u = false) :
    Calls Try.prog 16 #[.float .f32 y, .float .f32 x] w fun e w' => ∃ r, e = .returned (.float .f32 r) ∧ Is .f32 r none ∧ ∃ n, w' = w.drewN n := by
  cases hfy : finF v
  · clear h
    go_enter Try.func16, Try.ntmps16
    go_wp2_with (first | (go_at_call 31; refine (implIsFinite _ hy).mono ?_; rintro e w' ⟨rfl, n, rfl⟩; rw [hfy]) | (go_at_call 32; refine (mathNaN _).mono ?_; rintro e w' ⟨r, rfl, hr, rfl⟩) | (refine wpList_fconv rfl _ _ _ rfl _ _ _ rfl (by rw [Try.underlying25]; rfl) Try.underlying22 (by assumption) fits_none ?_; intro r2 n2 hr2))
    go_ret
    exact ⟨_, rfl, by assumption, _, rfl⟩
  · have hfu : finF u = false := by rcases h with h | h; (· rw [hfy] at h; cases h); exact h
    clear h
    go_enter Try.func16, Try.ntmps16
    go_wp2_with (first | ((with_reducible refine (implIsFinite _ hy).mono ?_); rintro e w' ⟨rfl, n, rfl⟩; rw [hfy]) | ((with_reducible refine (implIsFinite _ hx).mono ?_); rintro e w' ⟨rfl, n, rfl⟩; rw [hfu]) | (go_at_call 32; refine (mathNaN _).mono ?_; rintro e w' ⟨r, rfl, hr, rfl⟩) | (refine wpList_fconv rfl _ _ _ rfl _ _ _ rfl (by rw [Try.underlying25]; rfl) Try.underlying22 (by assumption) fits_none ?_; intro r2 n2 hr2))
    go_ret
    exact ⟨_, rfl, by assumption, _, rfl⟩
/-- What the model tests: is it not finite? -/
theorem sub_test {x : Nat} {v : Option Nat} (hx : Is .f32 x v) : fcmp .neq .f64 (fop .sub .f64 (fconv .f32 .f64 v) (fconv .f32 .f64 v)) (some 0) = !(finF v) := by
  rcases Is_cases hx.2 with g | g
  · obtain rfl : none = v := g.1.symm.trans hx.1
    rfl
  · obtain rfl : some x = v := g.1.symm.trans hx.1
    exact widen_sub (not_nan g)
set_option maxHeartbeats 400000 in
theorem wideNan {y x : Nat} {Y X : Option Nat} (w : World) (hy : Is .f64 y Y) (hx : Is .f64 x X) (h : fcmp .neq .f64 (fop .sub .f64 Y Y) (some 0) = true ∨ fcmp .neq .f64 (fop .sub .f64 X X) (some 0) = true) :
    Calls Try.prog 51 #[.float .f64 y, .float .f64 x] w fun e w' => ∃ r, e = .returned (.float .f64 r) ∧ Is .f64 r none ∧ ∃ n, w' = w.drewN n := by
  have h0 := is_zero64
  cases hfy : fcmp .neq .f64 (fop .sub .f64 Y Y) (some 0)
  · have hfu : fcmp .neq .f64 (fop .sub .f64 X X) (some 0) = true := by rcases h with h | h; (· rw [hfy] at h; cases h); exact h
    clear h
    go_enter Try.func51, Try.ntmps51
    go_wp2_with (first | (refine wpList_fop rfl .sub _ _ _ _ rfl .f64 y y rfl rfl rfl hy hy ?_; intro r n hr) | (refine wpList_fop rfl .sub _ _ _ _ rfl .f64 x x rfl rfl rfl hx hx ?_; intro r n hr) | (refine wpList_fcmp rfl .neq _ _ _ _ rfl .f64 _ 0 rfl rfl rfl (by assumption) h0 ?_; first | rw [hfy] | rw [hfu]) | (go_at_call 32; refine (mathNaN _).mono ?_; rintro e w' ⟨r, rfl, hr, rfl⟩))
    go_ret
    exact ⟨_, rfl, by assumption, _, rfl⟩
  · clear h
    go_enter Try.func51, Try.ntmps51
    go_wp2_with (first | (refine wpList_fop rfl .sub _ _ _ _ rfl .f64 y y rfl rfl rfl hy hy ?_; intro r n hr) | (refine wpList_fcmp rfl .neq _ _ _ _ rfl .f64 _ 0 rfl rfl rfl (by assumption) h0 ?_; rw [hfy]) | (go_at_call 32; refine (mathNaN _).mono ?_; rintro e w' ⟨r, rfl, hr, rfl⟩))
    go_ret
    exact ⟨_, rfl, by assumption, _, rfl⟩

/-! ## Both are zeros -/
set_option maxHeartbeats 400000 in
theorem implZero {y x : Nat} {v u : Option Nat} (w : World) (hy : Is .f32 y v) (hx : Is .f32 x u) (fy : finF v = true) (fx : finF u = true) (zy : fcmp .eql .f32 v (some 0) = true) (zx : fcmp .eql .f32 u (some 0) = true) :
    Calls Try.prog 16 #[.float .f32 y, .float .f32 x] w fun e w' => e = .returned (.float .f32 0) ∧ ∃ n, w' = w.drewN n := by
  have h0 : Is .f32 0 (some 0) := ⟨by decide, by decide⟩
  go_enter Try.func16, Try.ntmps16
  go_wp2_with (first | ((with_reducible refine (implIsFinite _ hy).mono ?_); rintro e w' ⟨rfl, n, rfl⟩; rw [fy]) | ((with_reducible refine (implIsFinite _ hx).mono ?_); rintro e w' ⟨rfl, n, rfl⟩; rw [fx]) | (refine wpList_fcmp rfl .eql _ _ _ _ rfl .f32 y 0 rfl rfl rfl hy h0 ?_; rw [zy]) | (refine wpList_fcmp rfl .eql _ _ _ _ rfl .f32 x 0 rfl rfl rfl hx h0 ?_; rw [zx]))
  go_ret
  exact ⟨rfl, _, rfl⟩
set_option maxHeartbeats 400000 in
theorem wideZero {y x : Nat} {Y X : Option Nat} (w : World) (hy : Is .f64 y Y) (hx : Is .f64 x X) (fy : fcmp .neq .f64 (fop .sub .f64 Y Y) (some 0) = false) (fx : fcmp .neq .f64 (fop .sub .f64 X X) (some 0) = false)
    (zy : fcmp .eql .f64 Y (some 0) = true) (zx : fcmp .eql .f64 X (some 0) = true) :
    Calls Try.prog 51 #[.float .f64 y, .float .f64 x] w fun e w' => e = .returned (.float .f64 0) ∧ ∃ n, w' = w.drewN n := by
  have h0 := is_zero64
  go_enter Try.func51, Try.ntmps51
  go_wp2_with (first | (refine wpList_fop rfl .sub _ _ _ _ rfl .f64 y y rfl rfl rfl hy hy ?_; intro r n hr) | (refine wpList_fop rfl .sub _ _ _ _ rfl .f64 x x rfl rfl rfl hx hx ?_; intro r n hr) | (refine wpList_fcmp rfl .eql _ _ _ _ rfl .f64 y 0 rfl rfl rfl hy h0 ?_; rw [zy]) | (refine wpList_fcmp rfl .eql _ _ _ _ rfl .f64 x 0 rfl rfl rfl hx h0 ?_; rw [zx]) | (refine wpList_fcmp rfl .neq _ _ _ _ rfl .f64 _ 0 rfl rfl rfl (by assumption) h0 ?_; first | rw [fy] | rw [fx]))
  go_ret
  exact ⟨rfl, _, rfl⟩

/-! ## All others -/
set_option maxHeartbeats 1000000 in
theorem implSome {y x : Nat} {v u : Option Nat} (over nx ny : Bool) (w : World) (hy : Is .f32 y v) (hx : Is .f32 x u) (fy : finF v = true) (fx : finF u = true) (hz : fcmp .eql .f32 v (some 0) = false ∨ fcmp .eql .f32 u (some 0) = false)
    (ho : fcmp .gtr .f64 (fabs (fconv .f32 .f64 v)) (fabs (fconv .f32 .f64 u)) = over) (hnx : fcmp .lss .f32 u (some 0) = nx) (hny : fcmp .lss .f32 v (some 0) = ny)
    (hf : Fits .f64 .f32 (angW over nx ny (fabs (fconv .f32 .f64 v)) (fabs (fconv .f32 .f64 u)))) :
    Calls Try.prog 16 #[.float .f32 y, .float .f32 x] w fun e w' => ∃ r, e = .returned (.float .f32 r) ∧ Is .f32 r (fconv .f64 .f32 (angW over nx ny (fabs (fconv .f32 .f64 v)) (fabs (fconv .f32 .f64 u)))) ∧ ∃ n, w' = w.drewN n := by
  have h0 : Is .f32 0 (some 0) := ⟨by decide, by decide⟩
  have hh := is_half
  cases zy : fcmp .eql .f32 v (some 0)
  · cases nx <;> cases ny
    all_goals
      go_enter Try.func16, Try.ntmps16
      go_wp2_with (first | ((with_reducible refine (implIsFinite _ hy).mono ?_); rintro e w' ⟨rfl, n, rfl⟩; rw [fy]) | ((with_reducible refine (implIsFinite _ hx).mono ?_); rintro e w' ⟨rfl, n, rfl⟩; rw [fx]) | (refine wpList_fcmp rfl .eql _ _ _ _ rfl .f32 y 0 rfl rfl rfl hy h0 ?_; rw [zy]) | (refine wpList_fconv rfl _ _ _ rfl .f32 .f64 y rfl (by rw [Try.underlying22]; rfl) Try.underlying25 hy (fits_widen_is hy) ?_; intro Y nY hY) | (refine wpList_fconv rfl _ _ _ rfl .f32 .f64 x rfl (by rw [Try.underlying22]; rfl) Try.underlying25 hx (fits_widen_is hx) ?_; intro X nX hX) | (go_at_call 33; refine (mathAbs _ (by assumption)).mono ?_; rintro e w' ⟨A, rfl, hA, rfl⟩) | (go_at_call 36; refine (steep over _ (by assumption) (by assumption) ho).mono ?_; rintro e w' ⟨S, rfl, hS, nS, rfl⟩) | (refine wpList_fcmp rfl .lss _ _ _ _ rfl .f32 y 0 rfl rfl rfl hy h0 ?_; rw [hny]) | (refine wpList_fcmp rfl .lss _ _ _ _ rfl .f32 x 0 rfl rfl rfl hx h0 ?_; rw [hnx]) | (refine wpList_fop rfl .sub _ _ _ _ rfl .f64 _ _ rfl rfl rfl hh (by assumption) ?_; intro r6 n6 hr6) | (refine wpList_fneg rfl _ _ rfl .f64 _ rfl (by assumption) ?_; intro r7 hr7) | (refine wpList_fconv rfl _ _ _ rfl .f64 .f32 _ rfl (by rw [Try.underlying25]; rfl) Try.underlying22 (by assumption) hf ?_; intro r8 n8 hr8))
      go_ret
      exact ⟨_, rfl, by assumption, _, rfl⟩
  · have zx : fcmp .eql .f32 u (some 0) = false := by rcases hz with h | h; (· rw [zy] at h; cases h); exact h
    clear hz
    cases nx <;> cases ny
    all_goals
      go_enter Try.func16, Try.ntmps16
      go_wp2_with (first | ((with_reducible refine (implIsFinite _ hy).mono ?_); rintro e w' ⟨rfl, n, rfl⟩; rw [fy]) | ((with_reducible refine (implIsFinite _ hx).mono ?_); rintro e w' ⟨rfl, n, rfl⟩; rw [fx]) | (refine wpList_fcmp rfl .eql _ _ _ _ rfl .f32 y 0 rfl rfl rfl hy h0 ?_; rw [zy]) | (refine wpList_fcmp rfl .eql _ _ _ _ rfl .f32 x 0 rfl rfl rfl hx h0 ?_; rw [zx]) | (refine wpList_fconv rfl _ _ _ rfl .f32 .f64 y rfl (by rw [Try.underlying22]; rfl) Try.underlying25 hy (fits_widen_is hy) ?_; intro Y nY hY) | (refine wpList_fconv rfl _ _ _ rfl .f32 .f64 x rfl (by rw [Try.underlying22]; rfl) Try.underlying25 hx (fits_widen_is hx) ?_; intro X nX hX) | (go_at_call 33; refine (mathAbs _ (by assumption)).mono ?_; rintro e w' ⟨A, rfl, hA, rfl⟩) | (go_at_call 36; refine (steep over _ (by assumption) (by assumption) ho).mono ?_; rintro e w' ⟨S, rfl, hS, nS, rfl⟩) | (refine wpList_fcmp rfl .lss _ _ _ _ rfl .f32 y 0 rfl rfl rfl hy h0 ?_; rw [hny]) | (refine wpList_fcmp rfl .lss _ _ _ _ rfl .f32 x 0 rfl rfl rfl hx h0 ?_; rw [hnx]) | (refine wpList_fop rfl .sub _ _ _ _ rfl .f64 _ _ rfl rfl rfl hh (by assumption) ?_; intro r6 n6 hr6) | (refine wpList_fneg rfl _ _ rfl .f64 _ rfl (by assumption) ?_; intro r7 hr7) | (refine wpList_fconv rfl _ _ _ rfl .f64 .f32 _ rfl (by rw [Try.underlying25]; rfl) Try.underlying22 (by assumption) hf ?_; intro r8 n8 hr8))
      go_ret
      exact ⟨_, rfl, by assumption, _, rfl⟩
set_option maxHeartbeats 400000 in
theorem narrow {x : Nat} {v : Option Nat} (w : World) (hx : Is .f64 x v) (hf : Fits .f64 .f32 v) :
    Calls Try.prog 48 #[.float .f64 x] w fun e w' => ∃ r, e = .returned (.float .f32 r) ∧ Is .f32 r (fconv .f64 .f32 v) ∧ ∃ n, w' = w.drewN n := by
  go_enter Try.func48, Try.ntmps48
  go_wp2_with (refine wpList_fconv rfl _ _ _ rfl _ _ _ rfl (by rw [Try.underlying25]; rfl) Try.underlying22 hx hf ?_; intro r n hr)
  go_ret
  exact ⟨_, rfl, by assumption, _, rfl⟩
set_option maxHeartbeats 2000000 in
theorem wideSomeF {y x : Nat} {Y X : Option Nat} (nx ny : Bool) (w : World) (hy : Is .f64 y Y) (hx : Is .f64 x X) (fy : fcmp .neq .f64 (fop .sub .f64 Y Y) (some 0) = false) (fx : fcmp .neq .f64 (fop .sub .f64 X X) (some 0) = false)
    (hz : fcmp .eql .f64 Y (some 0) = false ∨ fcmp .eql .f64 X (some 0) = false) (ho : fcmp .gtr .f64 (fabs Y) (fabs X) = false) (hnx : fcmp .lss .f64 X (some 0) = nx) (hny : fcmp .lss .f64 Y (some 0) = ny) :
    Calls Try.prog 51 #[.float .f64 y, .float .f64 x] w fun e w' => ∃ r, e = .returned (.float .f64 r) ∧ Is .f64 r (angW false nx ny (fabs Y) (fabs X)) ∧ ∃ n, w' = w.drewN n := by
  have h0 := is_zero64
  have h1 := is_one64
  have hc := is_circle
  have h8 := is_eight
  have hq := is_quarter
  have hh := is_half
  obtain ⟨T0, hT0⟩ : ∃ T0, T0 = fop .quo .f64 (fabs Y) (fabs X) := ⟨_, rfl⟩
  have HT := Lib.hid hT0
  clear hT0
  cases zx : fcmp .eql .f64 X (some 0)
  · clear hz
    have HT1 := Lib.hid HT.out.symm
    clear HT
    go_enter Try.func51, Try.ntmps51
    go_wp2_with (first | (refine wpList_fop rfl .sub _ _ _ _ rfl .f64 y y rfl rfl rfl hy hy ?_; intro r n hr) | (refine wpList_fop rfl .sub _ _ _ _ rfl .f64 x x rfl rfl rfl hx hx ?_; intro r n hr) | (refine wpList_fcmp rfl .eql _ _ _ _ rfl .f64 x 0 rfl rfl rfl hx h0 ?_; rw [zx]) | (refine wpList_fcmp rfl .neq _ _ _ _ rfl .f64 _ 0 rfl rfl rfl (by assumption) h0 ?_; first | rw [fy] | rw [fx]) | ((with_reducible refine (mathAbs _ hy).mono ?_); rintro e w' ⟨a, rfl, ha, rfl⟩) | ((with_reducible refine (mathAbs _ hx).mono ?_); rintro e w' ⟨b, rfl, hb, rfl⟩) | (refine wpList_fcmp rfl .gtr _ _ _ _ rfl .f64 _ _ rfl rfl rfl (by assumption) (by assumption) ?_; rw [ho]) | (refine wpList_fop rfl .quo _ _ _ _ rfl .f64 _ _ rfl rfl rfl (by assumption) (by assumption) ?_; intro r2 n2 hr2) | (refine wpList_fconv rfl _ _ _ rfl .f64 .f64 _ rfl (by rw [Try.underlying25]; rfl) Try.underlying25 (by assumption) (.inl rfl) ?_; intro r3 n3 hr3))
    go_loopw [8, 9] (fun t i wr => ∃ (k tb : Nat), k ≤ 3 ∧ i = .int .i64 k ∧ t = .float .f64 tb ∧ Is .f64 tb (tsteps T0 k) ∧ ∃ n, wr = w.drewN n) (fun _ i _ => 3 - (intOf i).toNat)
    case atStart => exact ⟨0, _, by omega, rfl, rfl, by show Is _ _ T0; rw [← HT1.out]; assumption, _, rfl⟩
    case round =>
      obtain ⟨k, tb, hk, rfl, rfl, ht, nk, rfl⟩ := hrel
      by_cases hlt : k < 3
      · go_wp2_with (first | (refine wpList_fconv rfl _ _ _ rfl .f64 .f64 _ rfl (by rw [Try.underlying25]; rfl) Try.underlying25 (by assumption) (.inl rfl) ?_; intro r7 n7 hr7) | (refine wpList_fop rfl .mul _ _ _ _ rfl .f64 tb tb rfl rfl rfl ht ht ?_; intro r3 n3 hr3) | (refine wpList_fop rfl .add _ _ _ _ rfl .f64 _ _ rfl rfl rfl h1 (by assumption) ?_; intro r4 n4 hr4) | (go_at_call 52; refine (mathSqrt _ (by assumption)).mono ?_; rintro e w' ⟨s, rfl, hs, m, rfl⟩) | (refine wpList_fop rfl .quo _ _ _ _ rfl .f64 tb _ rfl rfl rfl ht (by assumption) ?_; intro r5 n5 hr5))
        go_roundw
        case rel => exact ⟨k + 1, _, by omega, by go_num, rfl, by assumption, _, rfl⟩
        case measure => simp [intOf]; omega
      · obtain rfl : k = 3 := by omega
        have HF : Hid (steepF false (fabs Y) (fabs X) = angle0 (tsteps T0 3)) := by show _ = _; rw [← HT1.out]; rfl
        generalize tsteps T0 3 = T at ht HF
        go_wp2_with (first | (refine wpList_fconv rfl _ _ _ rfl .f64 .f64 _ rfl (by rw [Try.underlying25]; rfl) Try.underlying25 (by assumption) (.inl rfl) ?_; intro r7 n7 hr7) | (refine wpList_fop rfl .mul _ _ _ _ rfl .f64 tb tb rfl rfl rfl ht ht ?_; intro u n3 hu))
        go_loopw [11, 12] (fun p i wr => ∃ (j pb : Nat), j ≤ 8 ∧ i = .int .i64 (15 - 2 * (j : Int)) ∧ p = .float .f64 pb ∧ Is .f64 pb (pA (fop .mul .f64 T T) j) ∧ ∃ n, wr = w.drewN n) (fun _ i _ => (intOf i).toNat)
        case atStart => exact ⟨0, _, by omega, rfl, rfl, h0, _, rfl⟩
        case round =>
          obtain ⟨j, pb, hj, rfl, rfl, hp, nj, rfl⟩ := hrel
          by_cases hlt : j < 8
          · have hi := is_int (15 - 2 * (j : Int))
            go_wp2_with (first | (refine wpList_fconv rfl _ _ _ rfl .f64 .f64 _ rfl (by rw [Try.underlying25]; rfl) Try.underlying25 (by assumption) (.inl rfl) ?_; intro r7 n7 hr7) | (refine wpList_fop rfl .quo _ _ _ _ rfl .f64 _ _ rfl rfl rfl h1 hi ?_; intro r3 n3 hr3) | (refine wpList_fop rfl .mul _ _ _ _ rfl .f64 _ pb rfl rfl rfl (by assumption) hp ?_; intro r4 n4 hr4) | (refine wpList_fop rfl .sub _ _ _ _ rfl .f64 _ _ rfl rfl rfl (by assumption) (by assumption) ?_; intro r5 n5 hr5))
            go_roundw
            case rel => exact ⟨j + 1, _, by omega, by first | rfl | (congr 1; omega), rfl, by assumption, _, rfl⟩
            case measure => simp [intOf]; omega
          · obtain rfl : j = 8 := by omega
            go_wp2_with (first | (refine wpList_fconv rfl _ _ _ rfl .f64 .f64 _ rfl (by rw [Try.underlying25]; rfl) Try.underlying25 (by assumption) (.inl rfl) ?_; intro r7 n7 hr7) | (refine wpList_fop rfl .mul _ _ _ _ rfl .f64 tb pb rfl rfl rfl ht hp ?_; intro r3 n3 hr3) | (refine wpList_fop rfl .mul _ _ _ _ rfl .f64 _ _ rfl rfl rfl h8 (by assumption) ?_; intro r4 n4 hr4) | (refine wpList_fop rfl .quo _ _ _ _ rfl .f64 _ _ rfl rfl rfl (by assumption) hc ?_; intro r5 n5 hr5) | (refine wpList_fop rfl .sub _ _ _ _ rfl .f64 4598175219545276416 _ rfl rfl rfl hq (by assumption) ?_; intro r6 n6 hr6) | (refine wpList_fop rfl .sub _ _ _ _ rfl .f64 4602678819172646912 _ rfl rfl rfl hh (by assumption) ?_; intro r8 n8 hr8) | (refine wpList_fcmp rfl .lss _ _ _ _ rfl .f64 y 0 rfl rfl rfl hy h0 ?_; rw [hny]) | (refine wpList_fcmp rfl .lss _ _ _ _ rfl .f64 x 0 rfl rfl rfl hx h0 ?_; rw [hnx]) | (refine wpList_fneg rfl _ _ rfl .f64 _ rfl (by assumption) ?_; intro r9 hr9))
            all_goals
              go_ret
              refine ⟨_, rfl, ?_, _, rfl⟩
              unfold angW
              rw [HF.out]
              first | (rw [show nx = true by assumption, show ny = true by assumption]; assumption) | (rw [show nx = true by assumption, show ny = false by assumption]; assumption) | (rw [show nx = false by assumption, show ny = true by assumption]; assumption) | (rw [show nx = false by assumption, show ny = false by assumption]; assumption)
  · have zy : fcmp .eql .f64 Y (some 0) = false := by rcases hz with h | h; (· exact h); rw [zx] at h; cases h
    clear hz
    have HT1 := Lib.hid HT.out.symm
    clear HT
    go_enter Try.func51, Try.ntmps51
    go_wp2_with (first | (refine wpList_fop rfl .sub _ _ _ _ rfl .f64 y y rfl rfl rfl hy hy ?_; intro r n hr) | (refine wpList_fop rfl .sub _ _ _ _ rfl .f64 x x rfl rfl rfl hx hx ?_; intro r n hr) | (refine wpList_fcmp rfl .eql _ _ _ _ rfl .f64 y 0 rfl rfl rfl hy h0 ?_; rw [zy]) | (refine wpList_fcmp rfl .eql _ _ _ _ rfl .f64 x 0 rfl rfl rfl hx h0 ?_; rw [zx]) | (refine wpList_fcmp rfl .neq _ _ _ _ rfl .f64 _ 0 rfl rfl rfl (by assumption) h0 ?_; first | rw [fy] | rw [fx]) | ((with_reducible refine (mathAbs _ hy).mono ?_); rintro e w' ⟨a, rfl, ha, rfl⟩) | ((with_reducible refine (mathAbs _ hx).mono ?_); rintro e w' ⟨b, rfl, hb, rfl⟩) | (refine wpList_fcmp rfl .gtr _ _ _ _ rfl .f64 _ _ rfl rfl rfl (by assumption) (by assumption) ?_; rw [ho]) | (refine wpList_fop rfl .quo _ _ _ _ rfl .f64 _ _ rfl rfl rfl (by assumption) (by assumption) ?_; intro r2 n2 hr2) | (refine wpList_fconv rfl _ _ _ rfl .f64 .f64 _ rfl (by rw [Try.underlying25]; rfl) Try.underlying25 (by assumption) (.inl rfl) ?_; intro r3 n3 hr3))
    go_loopw [8, 9] (fun t i wr => ∃ (k tb : Nat), k ≤ 3 ∧ i = .int .i64 k ∧ t = .float .f64 tb ∧ Is .f64 tb (tsteps T0 k) ∧ ∃ n, wr = w.drewN n) (fun _ i _ => 3 - (intOf i).toNat)
    case atStart => exact ⟨0, _, by omega, rfl, rfl, by show Is _ _ T0; rw [← HT1.out]; assumption, _, rfl⟩
    case round =>
      obtain ⟨k, tb, hk, rfl, rfl, ht, nk, rfl⟩ := hrel
      by_cases hlt : k < 3
      · go_wp2_with (first | (refine wpList_fconv rfl _ _ _ rfl .f64 .f64 _ rfl (by rw [Try.underlying25]; rfl) Try.underlying25 (by assumption) (.inl rfl) ?_; intro r7 n7 hr7) | (refine wpList_fop rfl .mul _ _ _ _ rfl .f64 tb tb rfl rfl rfl ht ht ?_; intro r3 n3 hr3) | (refine wpList_fop rfl .add _ _ _ _ rfl .f64 _ _ rfl rfl rfl h1 (by assumption) ?_; intro r4 n4 hr4) | (go_at_call 52; refine (mathSqrt _ (by assumption)).mono ?_; rintro e w' ⟨s, rfl, hs, m, rfl⟩) | (refine wpList_fop rfl .quo _ _ _ _ rfl .f64 tb _ rfl rfl rfl ht (by assumption) ?_; intro r5 n5 hr5))
        go_roundw
        case rel => exact ⟨k + 1, _, by omega, by go_num, rfl, by assumption, _, rfl⟩
        case measure => simp [intOf]; omega
      · obtain rfl : k = 3 := by omega
        have HF : Hid (steepF false (fabs Y) (fabs X) = angle0 (tsteps T0 3)) := by show _ = _; rw [← HT1.out]; rfl
        generalize tsteps T0 3 = T at ht HF
        go_wp2_with (first | (refine wpList_fconv rfl _ _ _ rfl .f64 .f64 _ rfl (by rw [Try.underlying25]; rfl) Try.underlying25 (by assumption) (.inl rfl) ?_; intro r7 n7 hr7) | (refine wpList_fop rfl .mul _ _ _ _ rfl .f64 tb tb rfl rfl rfl ht ht ?_; intro u n3 hu))
        go_loopw [11, 12] (fun p i wr => ∃ (j pb : Nat), j ≤ 8 ∧ i = .int .i64 (15 - 2 * (j : Int)) ∧ p = .float .f64 pb ∧ Is .f64 pb (pA (fop .mul .f64 T T) j) ∧ ∃ n, wr = w.drewN n) (fun _ i _ => (intOf i).toNat)
        case atStart => exact ⟨0, _, by omega, rfl, rfl, h0, _, rfl⟩
        case round =>
          obtain ⟨j, pb, hj, rfl, rfl, hp, nj, rfl⟩ := hrel
          by_cases hlt : j < 8
          · have hi := is_int (15 - 2 * (j : Int))
            go_wp2_with (first | (refine wpList_fconv rfl _ _ _ rfl .f64 .f64 _ rfl (by rw [Try.underlying25]; rfl) Try.underlying25 (by assumption) (.inl rfl) ?_; intro r7 n7 hr7) | (refine wpList_fop rfl .quo _ _ _ _ rfl .f64 _ _ rfl rfl rfl h1 hi ?_; intro r3 n3 hr3) | (refine wpList_fop rfl .mul _ _ _ _ rfl .f64 _ pb rfl rfl rfl (by assumption) hp ?_; intro r4 n4 hr4) | (refine wpList_fop rfl .sub _ _ _ _ rfl .f64 _ _ rfl rfl rfl (by assumption) (by assumption) ?_; intro r5 n5 hr5))
            go_roundw
            case rel => exact ⟨j + 1, _, by omega, by first | rfl | (congr 1; omega), rfl, by assumption, _, rfl⟩
            case measure => simp [intOf]; omega
          · obtain rfl : j = 8 := by omega
            go_wp2_with (first | (refine wpList_fconv rfl _ _ _ rfl .f64 .f64 _ rfl (by rw [Try.underlying25]; rfl) Try.underlying25 (by assumption) (.inl rfl) ?_; intro r7 n7 hr7) | (refine wpList_fop rfl .mul _ _ _ _ rfl .f64 tb pb rfl rfl rfl ht hp ?_; intro r3 n3 hr3) | (refine wpList_fop rfl .mul _ _ _ _ rfl .f64 _ _ rfl rfl rfl h8 (by assumption) ?_; intro r4 n4 hr4) | (refine wpList_fop rfl .quo _ _ _ _ rfl .f64 _ _ rfl rfl rfl (by assumption) hc ?_; intro r5 n5 hr5) | (refine wpList_fop rfl .sub _ _ _ _ rfl .f64 4598175219545276416 _ rfl rfl rfl hq (by assumption) ?_; intro r6 n6 hr6) | (refine wpList_fop rfl .sub _ _ _ _ rfl .f64 4602678819172646912 _ rfl rfl rfl hh (by assumption) ?_; intro r8 n8 hr8) | (refine wpList_fcmp rfl .lss _ _ _ _ rfl .f64 y 0 rfl rfl rfl hy h0 ?_; rw [hny]) | (refine wpList_fcmp rfl .lss _ _ _ _ rfl .f64 x 0 rfl rfl rfl hx h0 ?_; rw [hnx]) | (refine wpList_fneg rfl _ _ rfl .f64 _ rfl (by assumption) ?_; intro r9 hr9))
            all_goals
              go_ret
              refine ⟨_, rfl, ?_, _, rfl⟩
              unfold angW
              rw [HF.out]
              first | (rw [show nx = true by assumption, show ny = true by assumption]; assumption) | (rw [show nx = true by assumption, show ny = false by assumption]; assumption) | (rw [show nx = false by assumption, show ny = true by assumption]; assumption) | (rw [show nx = false by assumption, show ny = false by assumption]; assumption)
set_option maxHeartbeats 2000000 in
theorem wideSomeT {y x : Nat} {Y X : Option Nat} (nx ny : Bool) (w : World) (hy : Is .f64 y Y) (hx : Is .f64 x X) (fy : fcmp .neq .f64 (fop .sub .f64 Y Y) (some 0) = false) (fx : fcmp .neq .f64 (fop .sub .f64 X X) (some 0) = false)
    (hz : fcmp .eql .f64 Y (some 0) = false ∨ fcmp .eql .f64 X (some 0) = false) (ho : fcmp .gtr .f64 (fabs Y) (fabs X) = true) (hnx : fcmp .lss .f64 X (some 0) = nx) (hny : fcmp .lss .f64 Y (some 0) = ny) :
    Calls Try.prog 51 #[.float .f64 y, .float .f64 x] w fun e w' => ∃ r, e = .returned (.float .f64 r) ∧ Is .f64 r (angW true nx ny (fabs Y) (fabs X)) ∧ ∃ n, w' = w.drewN n := by
  have h0 := is_zero64
  have h1 := is_one64
  have hc := is_circle
  have h8 := is_eight
  have hq := is_quarter
  have hh := is_half
  obtain ⟨T0, hT0⟩ : ∃ T0, T0 = fop .quo .f64 (fabs X) (fabs Y) := ⟨_, rfl⟩
  have HT := Lib.hid hT0
  clear hT0
  cases zx : fcmp .eql .f64 X (some 0)
  · clear hz
    have HT1 := Lib.hid HT.out.symm
    clear HT
    go_enter Try.func51, Try.ntmps51
    go_wp2_with (first | (refine wpList_fop rfl .sub _ _ _ _ rfl .f64 y y rfl rfl rfl hy hy ?_; intro r n hr) | (refine wpList_fop rfl .sub _ _ _ _ rfl .f64 x x rfl rfl rfl hx hx ?_; intro r n hr) | (refine wpList_fcmp rfl .eql _ _ _ _ rfl .f64 x 0 rfl rfl rfl hx h0 ?_; rw [zx]) | (refine wpList_fcmp rfl .neq _ _ _ _ rfl .f64 _ 0 rfl rfl rfl (by assumption) h0 ?_; first | rw [fy] | rw [fx]) | ((with_reducible refine (mathAbs _ hy).mono ?_); rintro e w' ⟨a, rfl, ha, rfl⟩) | ((with_reducible refine (mathAbs _ hx).mono ?_); rintro e w' ⟨b, rfl, hb, rfl⟩) | (refine wpList_fcmp rfl .gtr _ _ _ _ rfl .f64 _ _ rfl rfl rfl (by assumption) (by assumption) ?_; rw [ho]) | (refine wpList_fop rfl .quo _ _ _ _ rfl .f64 _ _ rfl rfl rfl (by assumption) (by assumption) ?_; intro r2 n2 hr2) | (refine wpList_fconv rfl _ _ _ rfl .f64 .f64 _ rfl (by rw [Try.underlying25]; rfl) Try.underlying25 (by assumption) (.inl rfl) ?_; intro r3 n3 hr3))
    go_loopw [8, 9] (fun t i wr => ∃ (k tb : Nat), k ≤ 3 ∧ i = .int .i64 k ∧ t = .float .f64 tb ∧ Is .f64 tb (tsteps T0 k) ∧ ∃ n, wr = w.drewN n) (fun _ i _ => 3 - (intOf i).toNat)
    case atStart => exact ⟨0, _, by omega, rfl, rfl, by show Is _ _ T0; rw [← HT1.out]; assumption, _, rfl⟩
    case round =>
      obtain ⟨k, tb, hk, rfl, rfl, ht, nk, rfl⟩ := hrel
      by_cases hlt : k < 3
      · go_wp2_with (first | (refine wpList_fconv rfl _ _ _ rfl .f64 .f64 _ rfl (by rw [Try.underlying25]; rfl) Try.underlying25 (by assumption) (.inl rfl) ?_; intro r7 n7 hr7) | (refine wpList_fop rfl .mul _ _ _ _ rfl .f64 tb tb rfl rfl rfl ht ht ?_; intro r3 n3 hr3) | (refine wpList_fop rfl .add _ _ _ _ rfl .f64 _ _ rfl rfl rfl h1 (by assumption) ?_; intro r4 n4 hr4) | (go_at_call 52; refine (mathSqrt _ (by assumption)).mono ?_; rintro e w' ⟨s, rfl, hs, m, rfl⟩) | (refine wpList_fop rfl .quo _ _ _ _ rfl .f64 tb _ rfl rfl rfl ht (by assumption) ?_; intro r5 n5 hr5))
        go_roundw
        case rel => exact ⟨k + 1, _, by omega, by go_num, rfl, by assumption, _, rfl⟩
        case measure => simp [intOf]; omega
      · obtain rfl : k = 3 := by omega
        have HF : Hid (steepF true (fabs Y) (fabs X) = fop .sub .f64 (some 4598175219545276416) (angle0 (tsteps T0 3))) := by show _ = _; rw [← HT1.out]; rfl
        generalize tsteps T0 3 = T at ht HF
        go_wp2_with (first | (refine wpList_fconv rfl _ _ _ rfl .f64 .f64 _ rfl (by rw [Try.underlying25]; rfl) Try.underlying25 (by assumption) (.inl rfl) ?_; intro r7 n7 hr7) | (refine wpList_fop rfl .mul _ _ _ _ rfl .f64 tb tb rfl rfl rfl ht ht ?_; intro u n3 hu))
        go_loopw [11, 12] (fun p i wr => ∃ (j pb : Nat), j ≤ 8 ∧ i = .int .i64 (15 - 2 * (j : Int)) ∧ p = .float .f64 pb ∧ Is .f64 pb (pA (fop .mul .f64 T T) j) ∧ ∃ n, wr = w.drewN n) (fun _ i _ => (intOf i).toNat)
        case atStart => exact ⟨0, _, by omega, rfl, rfl, h0, _, rfl⟩
        case round =>
          obtain ⟨j, pb, hj, rfl, rfl, hp, nj, rfl⟩ := hrel
          by_cases hlt : j < 8
          · have hi := is_int (15 - 2 * (j : Int))
            go_wp2_with (first | (refine wpList_fconv rfl _ _ _ rfl .f64 .f64 _ rfl (by rw [Try.underlying25]; rfl) Try.underlying25 (by assumption) (.inl rfl) ?_; intro r7 n7 hr7) | (refine wpList_fop rfl .quo _ _ _ _ rfl .f64 _ _ rfl rfl rfl h1 hi ?_; intro r3 n3 hr3) | (refine wpList_fop rfl .mul _ _ _ _ rfl .f64 _ pb rfl rfl rfl (by assumption) hp ?_; intro r4 n4 hr4) | (refine wpList_fop rfl .sub _ _ _ _ rfl .f64 _ _ rfl rfl rfl (by assumption) (by assumption) ?_; intro r5 n5 hr5))
            go_roundw
            case rel => exact ⟨j + 1, _, by omega, by first | rfl | (congr 1; omega), rfl, by assumption, _, rfl⟩
            case measure => simp [intOf]; omega
          · obtain rfl : j = 8 := by omega
            go_wp2_with (first | (refine wpList_fconv rfl _ _ _ rfl .f64 .f64 _ rfl (by rw [Try.underlying25]; rfl) Try.underlying25 (by assumption) (.inl rfl) ?_; intro r7 n7 hr7) | (refine wpList_fop rfl .mul _ _ _ _ rfl .f64 tb pb rfl rfl rfl ht hp ?_; intro r3 n3 hr3) | (refine wpList_fop rfl .mul _ _ _ _ rfl .f64 _ _ rfl rfl rfl h8 (by assumption) ?_; intro r4 n4 hr4) | (refine wpList_fop rfl .quo _ _ _ _ rfl .f64 _ _ rfl rfl rfl (by assumption) hc ?_; intro r5 n5 hr5) | (refine wpList_fop rfl .sub _ _ _ _ rfl .f64 4598175219545276416 _ rfl rfl rfl hq (by assumption) ?_; intro r6 n6 hr6) | (refine wpList_fop rfl .sub _ _ _ _ rfl .f64 4602678819172646912 _ rfl rfl rfl hh (by assumption) ?_; intro r8 n8 hr8) | (refine wpList_fcmp rfl .lss _ _ _ _ rfl .f64 y 0 rfl rfl rfl hy h0 ?_; rw [hny]) | (refine wpList_fcmp rfl .lss _ _ _ _ rfl .f64 x 0 rfl rfl rfl hx h0 ?_; rw [hnx]) | (refine wpList_fneg rfl _ _ rfl .f64 _ rfl (by assumption) ?_; intro r9 hr9))
            all_goals
              go_ret
              refine ⟨_, rfl, ?_, _, rfl⟩
              unfold angW
              rw [HF.out]
              first | (rw [show nx = true by assumption, show ny = true by assumption]; assumption) | (rw [show nx = true by assumption, show ny = false by assumption]; assumption) | (rw [show nx = false by assumption, show ny = true by assumption]; assumption) | (rw [show nx = false by assumption, show ny = false by assumption]; assumption)
  · have zy : fcmp .eql .f64 Y (some 0) = false := by rcases hz with h | h; (· exact h); rw [zx] at h; cases h
    clear hz
    have HT1 := Lib.hid HT.out.symm
    clear HT
    go_enter Try.func51, Try.ntmps51
    go_wp2_with (first | (refine wpList_fop rfl .sub _ _ _ _ rfl .f64 y y rfl rfl rfl hy hy ?_; intro r n hr) | (refine wpList_fop rfl .sub _ _ _ _ rfl .f64 x x rfl rfl rfl hx hx ?_; intro r n hr) | (refine wpList_fcmp rfl .eql _ _ _ _ rfl .f64 y 0 rfl rfl rfl hy h0 ?_; rw [zy]) | (refine wpList_fcmp rfl .eql _ _ _ _ rfl .f64 x 0 rfl rfl rfl hx h0 ?_; rw [zx]) | (refine wpList_fcmp rfl .neq _ _ _ _ rfl .f64 _ 0 rfl rfl rfl (by assumption) h0 ?_; first | rw [fy] | rw [fx]) | ((with_reducible refine (mathAbs _ hy).mono ?_); rintro e w' ⟨a, rfl, ha, rfl⟩) | ((with_reducible refine (mathAbs _ hx).mono ?_); rintro e w' ⟨b, rfl, hb, rfl⟩) | (refine wpList_fcmp rfl .gtr _ _ _ _ rfl .f64 _ _ rfl rfl rfl (by assumption) (by assumption) ?_; rw [ho]) | (refine wpList_fop rfl .quo _ _ _ _ rfl .f64 _ _ rfl rfl rfl (by assumption) (by assumption) ?_; intro r2 n2 hr2) | (refine wpList_fconv rfl _ _ _ rfl .f64 .f64 _ rfl (by rw [Try.underlying25]; rfl) Try.underlying25 (by assumption) (.inl rfl) ?_; intro r3 n3 hr3))
    go_loopw [8, 9] (fun t i wr => ∃ (k tb : Nat), k ≤ 3 ∧ i = .int .i64 k ∧ t = .float .f64 tb ∧ Is .f64 tb (tsteps T0 k) ∧ ∃ n, wr = w.drewN n) (fun _ i _ => 3 - (intOf i).toNat)
    case atStart => exact ⟨0, _, by omega, rfl, rfl, by show Is _ _ T0; rw [← HT1.out]; assumption, _, rfl⟩
    case round =>
      obtain ⟨k, tb, hk, rfl, rfl, ht, nk, rfl⟩ := hrel
      by_cases hlt : k < 3
      · go_wp2_with (first | (refine wpList_fconv rfl _ _ _ rfl .f64 .f64 _ rfl (by rw [Try.underlying25]; rfl) Try.underlying25 (by assumption) (.inl rfl) ?_; intro r7 n7 hr7) | (refine wpList_fop rfl .mul _ _ _ _ rfl .f64 tb tb rfl rfl rfl ht ht ?_; intro r3 n3 hr3) | (refine wpList_fop rfl .add _ _ _ _ rfl .f64 _ _ rfl rfl rfl h1 (by assumption) ?_; intro r4 n4 hr4) | (go_at_call 52; refine (mathSqrt _ (by assumption)).mono ?_; rintro e w' ⟨s, rfl, hs, m, rfl⟩) | (refine wpList_fop rfl .quo _ _ _ _ rfl .f64 tb _ rfl rfl rfl ht (by assumption) ?_; intro r5 n5 hr5))
        go_roundw
        case rel => exact ⟨k + 1, _, by omega, by go_num, rfl, by assumption, _, rfl⟩
        case measure => simp [intOf]; omega
      · obtain rfl : k = 3 := by omega
        have HF : Hid (steepF true (fabs Y) (fabs X) = fop .sub .f64 (some 4598175219545276416) (angle0 (tsteps T0 3))) := by show _ = _; rw [← HT1.out]; rfl
        generalize tsteps T0 3 = T at ht HF
        go_wp2_with (first | (refine wpList_fconv rfl _ _ _ rfl .f64 .f64 _ rfl (by rw [Try.underlying25]; rfl) Try.underlying25 (by assumption) (.inl rfl) ?_; intro r7 n7 hr7) | (refine wpList_fop rfl .mul _ _ _ _ rfl .f64 tb tb rfl rfl rfl ht ht ?_; intro u n3 hu))
        go_loopw [11, 12] (fun p i wr => ∃ (j pb : Nat), j ≤ 8 ∧ i = .int .i64 (15 - 2 * (j : Int)) ∧ p = .float .f64 pb ∧ Is .f64 pb (pA (fop .mul .f64 T T) j) ∧ ∃ n, wr = w.drewN n) (fun _ i _ => (intOf i).toNat)
        case atStart => exact ⟨0, _, by omega, rfl, rfl, h0, _, rfl⟩
        case round =>
          obtain ⟨j, pb, hj, rfl, rfl, hp, nj, rfl⟩ := hrel
          by_cases hlt : j < 8
          · have hi := is_int (15 - 2 * (j : Int))
            go_wp2_with (first | (refine wpList_fconv rfl _ _ _ rfl .f64 .f64 _ rfl (by rw [Try.underlying25]; rfl) Try.underlying25 (by assumption) (.inl rfl) ?_; intro r7 n7 hr7) | (refine wpList_fop rfl .quo _ _ _ _ rfl .f64 _ _ rfl rfl rfl h1 hi ?_; intro r3 n3 hr3) | (refine wpList_fop rfl .mul _ _ _ _ rfl .f64 _ pb rfl rfl rfl (by assumption) hp ?_; intro r4 n4 hr4) | (refine wpList_fop rfl .sub _ _ _ _ rfl .f64 _ _ rfl rfl rfl (by assumption) (by assumption) ?_; intro r5 n5 hr5))
            go_roundw
            case rel => exact ⟨j + 1, _, by omega, by first | rfl | (congr 1; omega), rfl, by assumption, _, rfl⟩
            case measure => simp [intOf]; omega
          · obtain rfl : j = 8 := by omega
            go_wp2_with (first | (refine wpList_fconv rfl _ _ _ rfl .f64 .f64 _ rfl (by rw [Try.underlying25]; rfl) Try.underlying25 (by assumption) (.inl rfl) ?_; intro r7 n7 hr7) | (refine wpList_fop rfl .mul _ _ _ _ rfl .f64 tb pb rfl rfl rfl ht hp ?_; intro r3 n3 hr3) | (refine wpList_fop rfl .mul _ _ _ _ rfl .f64 _ _ rfl rfl rfl h8 (by assumption) ?_; intro r4 n4 hr4) | (refine wpList_fop rfl .quo _ _ _ _ rfl .f64 _ _ rfl rfl rfl (by assumption) hc ?_; intro r5 n5 hr5) | (refine wpList_fop rfl .sub _ _ _ _ rfl .f64 4598175219545276416 _ rfl rfl rfl hq (by assumption) ?_; intro r6 n6 hr6) | (refine wpList_fop rfl .sub _ _ _ _ rfl .f64 4602678819172646912 _ rfl rfl rfl hh (by assumption) ?_; intro r8 n8 hr8) | (refine wpList_fcmp rfl .lss _ _ _ _ rfl .f64 y 0 rfl rfl rfl hy h0 ?_; rw [hny]) | (refine wpList_fcmp rfl .lss _ _ _ _ rfl .f64 x 0 rfl rfl rfl hx h0 ?_; rw [hnx]) | (refine wpList_fneg rfl _ _ rfl .f64 _ rfl (by assumption) ?_; intro r9 hr9))
            all_goals
              go_ret
              refine ⟨_, rfl, ?_, _, rfl⟩
              unfold angW
              rw [HF.out]
              first | (rw [show nx = true by assumption, show ny = true by assumption]; assumption) | (rw [show nx = true by assumption, show ny = false by assumption]; assumption) | (rw [show nx = false by assumption, show ny = true by assumption]; assumption) | (rw [show nx = false by assumption, show ny = false by assumption]; assumption)
set_option maxHeartbeats 400000 in
theorem specAngle {y x : Nat} {v u V : Option Nat} (w : World) (hy : Is .f32 y v) (hx : Is .f32 x u) (hV : Fits .f64 .f32 V)
    (h : ∀ (a b : Nat) (w : World), Is .f64 a (fconv .f32 .f64 v) → Is .f64 b (fconv .f32 .f64 u) → Calls Try.prog 51 #[.float .f64 a, .float .f64 b] w fun e w' => ∃ r, e = .returned (.float .f64 r) ∧ Is .f64 r V ∧ ∃ n, w' = w.drewN n) :
    Calls Try.prog 15 #[.float .f32 y, .float .f32 x] w fun e w' => ∃ r, e = .returned (.float .f32 r) ∧ Is .f32 r (fconv .f64 .f32 V) ∧ ∃ n, w' = w.drewN n := by
  have H := Lib.hid h
  clear h
  go_enter Try.func15, Try.ntmps15
  go_wp2_with (first | (go_at_call 35; go_in) | (refine wpList_fconv rfl _ _ _ rfl .f32 .f64 y rfl (by rw [Try.underlying22]; rfl) Try.underlying25 hy (fits_widen_is hy) ?_; intro Y nY hY) | (refine wpList_fconv rfl _ _ _ rfl .f32 .f64 x rfl (by rw [Try.underlying22]; rfl) Try.underlying25 hx (fits_widen_is hx) ?_; intro X nX hX) | (go_at_call 51; refine (H.out _ _ _ hY hX).mono ?_; rintro e w' ⟨r, rfl, hr, n, rfl⟩) | (go_at_call 48; refine (narrow _ (by assumption) hV).mono ?_; rintro e w' ⟨r2, rfl, hr2, n2, rfl⟩))
  go_ret
  exact ⟨_, rfl, by assumption, _, rfl⟩
/-- Both functions answer the same. -/
theorem both {y x : Nat} {v u : Option Nat} (hy : Is .f32 y v) (hx : Is .f32 x u) : ∃ V,
    (∀ w, Calls Try.prog 15 #[.float .f32 y, .float .f32 x] w fun e w' => ∃ r, e = .returned (.float .f32 r) ∧ Is .f32 r V ∧ ∃ n, w' = w.drewN n) ∧
    (∀ w, Calls Try.prog 16 #[.float .f32 y, .float .f32 x] w fun e w' => ∃ r, e = .returned (.float .f32 r) ∧ Is .f32 r V ∧ ∃ n, w' = w.drewN n) := by
  by_cases hfin : finF v = false ∨ finF u = false
  · refine ⟨fconv .f64 .f32 none, fun w => specAngle w hy hx fits_none fun a b w ha hb => wideNan w ha hb ?_, fun w => implNan w hy hx hfin⟩
    rw [sub_test hy, sub_test hx]
    rcases hfin with h | h
    · left; rw [h]; rfl
    · right; rw [h]; rfl
  · have fy : finF v = true := by cases h : finF v; (· exact absurd (.inl h) hfin); rfl
    have fx : finF u = true := by cases h : finF u; (· exact absurd (.inr h) hfin); rfl
    clear hfin
    have sy : fcmp .neq .f64 (fop .sub .f64 (fconv .f32 .f64 v) (fconv .f32 .f64 v)) (some 0) = false := by rw [sub_test hy, fy]; rfl
    have sx : fcmp .neq .f64 (fop .sub .f64 (fconv .f32 .f64 u) (fconv .f32 .f64 u)) (some 0) = false := by rw [sub_test hx, fx]; rfl
    obtain ⟨rfl, ny, fy'⟩ := fin_some hy fy
    obtain ⟨rfl, nx, fx'⟩ := fin_some hx fx
    have ey := widen_eql ny
    have ex := widen_eql nx
    by_cases hz : fcmp .eql .f32 (some y) (some 0) = true ∧ fcmp .eql .f32 (some x) (some 0) = true
    · refine ⟨fconv .f64 .f32 (some 0), fun w => specAngle w hy hx ((zero_fin 0).fits (by decide)) fun a b w ha hb => ?_, fun w => ?_⟩
      · exact (wideZero w ha hb sy sx (ey.trans hz.1) (ex.trans hz.2)).mono fun e w' ⟨he, hw⟩ => ⟨0, he, is_zero64, hw⟩
      · exact (implZero w hy hx fy fx hz.1 hz.2).mono fun e w' ⟨he, hw⟩ => ⟨0, he, ⟨by decide, by decide⟩, hw⟩
    · have hz' : fcmp .eql .f32 (some y) (some 0) = false ∨ fcmp .eql .f32 (some x) (some 0) = false := by
        cases h1 : fcmp .eql .f32 (some y) (some 0)
        · exact .inl rfl
        · cases h2 : fcmp .eql .f32 (some x) (some 0)
          · exact .inr rfl
          · exact absurd ⟨h1, h2⟩ hz
      have hzz : ¬ (y % 2147483648 = 0 ∧ x % 2147483648 = 0) := by
        intro ⟨h1, h2⟩
        apply hz
        rw [eql_zero ny, eql_zero nx]
        exact ⟨decide_eq_true h1, decide_eq_true h2⟩
      have hF := steep_fin nx ny fx' fy' hzz
      have hz2 : fcmp .eql .f64 (fconv .f32 .f64 (some y)) (some 0) = false ∨ fcmp .eql .f64 (fconv .f32 .f64 (some x)) (some 0) = false := by rw [ey, ex]; exact hz'
      have ly := widen_lss ny
      have lx := widen_lss nx
      cases ho : fcmp .gtr .f64 (fabs (fconv .f32 .f64 (some y))) (fabs (fconv .f32 .f64 (some x)))
      · rw [ho] at hF
        have hfit := angW_fits (nx := fcmp .lss .f32 (some x) (some 0)) (ny := fcmp .lss .f32 (some y) (some 0)) hF (fun c hc => steep_lt c hc)
        exact ⟨_, fun w => specAngle w hy hx hfit fun a b w ha hb => wideSomeF _ _ w ha hb sy sx hz2 ho lx ly, fun w => implSome false _ _ w hy hx fy fx hz' ho rfl rfl hfit⟩
      · rw [ho] at hF
        have hfit := angW_fits (nx := fcmp .lss .f32 (some x) (some 0)) (ny := fcmp .lss .f32 (some y) (some 0)) hF (fun c hc => steep_lt c hc)
        exact ⟨_, fun w => specAngle w hy hx hfit fun a b w ha hb => wideSomeT _ _ w ha hb sy sx hz2 ho lx ly, fun w => implSome true _ _ w hy hx fy fx hz' ho rfl rfl hfit⟩
set_option maxHeartbeats 400000 in
theorem walk (y : Nat) (wy : (Lit.float .f32 y).wf = true) (x : Nat) (wx : (Lit.float .f32 x).wf = true) (w : World) :
    Calls Try.prog 5 #[.float .f32 y, .float .f32 x] w fun e w' => e = .returned (.bool true) ∧ Below w.heap.size w w' := by
  have hy : Is .f32 y (cn .f32 y) := ⟨rfl, wf_lt wy⟩
  have hx : Is .f32 x (cn .f32 x) := ⟨rfl, wf_lt wx⟩
  obtain ⟨V, hs, hi⟩ := both hy hx
  have HS := Lib.hid hs
  have HI := Lib.hid hi
  clear hs hi
  go_enter Try.func5, Try.ntmps5
  go_wp2_with (first | (go_at_call 15; refine (HS.out _).mono ?_; rintro e w' ⟨r1, rfl, hr1, n1, rfl⟩) | (go_at_call 16; refine (HI.out _).mono ?_; rintro e w' ⟨r2, rfl, hr2, n2, rfl⟩) | (refine wpList_fconv rfl _ _ _ rfl _ _ _ rfl (by rw [Try.underlying22]; rfl) Try.underlying25 hr1 (fits_widen_is hr1) ?_; intro r m hr) | (refine wpList_fconv rfl _ _ _ rfl _ _ _ rfl (by rw [Try.underlying22]; rfl) Try.underlying25 hr2 (fits_widen_is hr2) ?_; intro r m hr) | (go_at_call 12; refine (sameFloat _ (by assumption) (by assumption)).mono ?_; rintro e w' ⟨rfl, m, rfl⟩))
  go_ret
  exact ⟨rfl, below_n _ _⟩

set_option maxRecDepth 100000 in
theorem lifted (os : Os) (started : os.Started) (H : Type) (enc : TypeId × Value → H) :
    ReturnsInHanded {} Try.checked os 5 .any (Rows.fnExactAngleTurnsSpec.pre6 enc Try.prog Try.f5 Rows.fnExactAngleTurnsRow.domain false) (Rows.fnExactAngleTurnsSpec.post enc Try.prog Try.f5 false true false false) := by
  refine returnsInHanded_of_change (C := Try.checked) own started (by kernel_rfl) Try.func5
    (ChangeSpec.witness6 (enc := enc) (C := Try.checked) false ⟨#[], #[.float .f32 0, .float .f32 0], []⟩ 8 (by kernel_rfl) (by kernel_rfl) (by kernel_rfl) (by kernel_rfl)) ?_
  intro W base args ds gs before hval0 hW hcnd hreach
  have hval : ∀ (j : Nat) t v, Try.f5.params[j]? = some t → args[j]? = some v → Value.okWide Try.prog W .any base t v := hval0
  have hW' := hW
  obtain ⟨p, q, hA0, hV, rfl, hfz, hnd⟩ := hW
  have hA : DataW.TrodAll enc Try.prog W 0 (fun _ => true) true Try.f5.params.toList args.toList ds p := hA0
  rw [Try.params5] at hA hval
  obtain ⟨v0, vs0, d0, ds0, p0, q0, hargs, rfl, rfl, h0, r0⟩ := trodAll_cons hA
  obtain ⟨v1, vs1, d1, ds1, p1, q1, rfl, rfl, rfl, h1, r1⟩ := trodAll_cons r0
  obtain ⟨rfl, rfl, rfl⟩ := trodAll_nil r1
  obtain rfl : args = #[v0, v1] := by cases args; simp_all
  obtain ⟨rfl, rfl⟩ := trodVars_none hV
  obtain ⟨a0, rfl, rfl, rfl, w0⟩ := open_float Try.underlying22 (hval 0 22 v0 rfl rfl) h0
  obtain ⟨a1, rfl, rfl, rfl, w1⟩ := open_float Try.underlying22 (hval 1 22 v1 rfl rfl) h1
  clear hA0 hval0
  refine (walk a0 w0 a1 w1 W).mono fun e W' ⟨he, bel⟩ => ?_
  subst he
  exact ⟨_, rfl, _, _, _, [], _, [], hW', trodAll_mk1 (shut_bool Try.underlying4 _), (trodAll_cons_mk (shut_float Try.underlying22 w0) (trodAll_cons_mk (shut_float Try.underlying22 w1) (trodAll_mk0))), rfl, bel.frame _, fun h => by cases h⟩

theorem over : Rows.fnExactAngleTurnsRow.holds Try.pinned (OpenSpec.ofChange Rows.fnExactAngleTurnsSpec) :=
  OpenClaim.holds_of_wide 5 Try.f5 rfl rfl rfl rfl rfl rfl rfl ⟨rfl, rfl, rfl, rfl, rfl⟩ rfl rfl rfl rfl rfl (by kernel_rfl) Try.func5 (by kernel_rfl)
    (of_decide_eq_true (by kernel_rfl)) (by unfold Func.isWrapper; rw [if_neg (of_decide_eq_false (by kernel_rfl))]; exact ⟨rfl, rfl⟩)
    (fun os started H enc _ => lifted os started H enc)

theorem proved : Rows.FnExactAngleTurnsSaid := over
end Go.Proofs.Ytnkcaiifohplaad.lawAngleTurns
