/- impl.IsSubnormal says whether a number is not zero and nearer to 0 than 2 to the power of -126. -/
import Derived.Test.YtnkcaiifohplaadAbs
namespace Go.Proofs.Ytnkcaiifohplaad.Fl
open Go Go.RowKit
def subF (v : Option Nat) : Bool := match v with | none => false | some b => decide (b % 2147483648 ≠ 0) && decide (b % 2147483648 < 8388608)
theorem is_zero32 : Is .f32 0 (some 0) := ⟨by decide, by decide⟩
theorem is_least : Is .f64 4039728865751334912 (some 4039728865751334912) := ⟨by decide, by decide⟩
theorem zero_eq {x : Nat} (h : Is .f32 x (some x)) : fcmp .neq .f32 (some x) (some 0) = decide (x % 2147483648 ≠ 0) := by
  rw [neq_not, eql_zero (not_nan h)]
  by_cases hz : x % sgn .f32 = 0
  · have hz' : x % 2147483648 = 0 := hz
    rw [decide_eq_true hz, decide_eq_false (by omega)]; rfl
  · have hz' : x % 2147483648 ≠ 0 := hz
    rw [decide_eq_false hz, decide_eq_true hz']; rfl
set_option maxHeartbeats 400000 in
theorem implIsSubnormal {x : Nat} {v : Option Nat} (w : World) (hx : Is .f32 x v) :
    Calls Try.prog 28 #[.float .f32 x] w fun e w' => e = .returned (.bool (subF v)) ∧ ∃ n, w' = w.drewN n := by
  have hm := is_least
  have hz := is_zero32
  rcases Is_cases hx.2 with h | h
  · obtain rfl : none = v := h.1.symm.trans hx.1
    have h1 : fcmp .neq .f32 none (some 0) = true := rfl
    have h2 : fcmp .lss .f64 (fabs (fconv .f32 .f64 none)) (some 4039728865751334912) = false := rfl
    go_enter Try.func28, Try.ntmps28
    go_wp2_with (first | (refine wpList_fcmp rfl _ _ _ _ _ rfl _ _ _ rfl rfl rfl hx hz ?_; rw [h1]) | (refine wpList_fconv rfl _ _ _ rfl _ _ _ rfl (by rw [Try.underlying22]; rfl) Try.underlying25 hx (fits_widen_is hx) ?_; intro r m hr) | (go_at_call 33; refine (mathAbs _ (by assumption)).mono ?_; rintro e w' ⟨y, rfl, hy, rfl⟩) | (refine wpList_fcmp rfl _ _ _ _ _ rfl _ _ _ rfl rfl rfl (by assumption) hm ?_; rw [h2]))
    go_ret
    exact ⟨rfl, _, rfl⟩
  · obtain rfl : some x = v := h.1.symm.trans hx.1
    have h1 := zero_eq h
    have h2 := lss_least x (not_nan h)
    by_cases hx0 : x % 2147483648 = 0
    · rw [decide_eq_false (by omega)] at h1
      have HS : Hid (subF (some x) = false) := by
        show (decide (x % 2147483648 ≠ 0) && _) = false
        rw [decide_eq_false (by omega)]; rfl
      clear hx0 h2
      go_enter Try.func28, Try.ntmps28
      go_wp2_with (refine wpList_fcmp rfl _ _ _ _ _ rfl _ _ _ rfl rfl rfl hx hz ?_; rw [h1])
      go_ret
      exact ⟨ret_bool HS.out.symm, 0, rfl⟩
    · rw [decide_eq_true (by omega)] at h1
      have HS : Hid (decide (x % 2147483648 < 8388608) = subF (some x)) := by
        show _ = (decide (x % 2147483648 ≠ 0) && decide (x % 2147483648 < 8388608))
        rw [decide_eq_true (p := x % 2147483648 ≠ 0) (by omega)]; rfl
      clear hx0
      generalize decide (x % 2147483648 < 8388608) = c at h2 HS
      go_enter Try.func28, Try.ntmps28
      go_wp2_with (first | (refine wpList_fcmp rfl _ _ _ _ _ rfl _ _ _ rfl rfl rfl hx hz ?_; rw [h1]) | (refine wpList_fconv rfl _ _ _ rfl _ _ _ rfl (by rw [Try.underlying22]; rfl) Try.underlying25 hx (fits_widen_is hx) ?_; intro r m hr) | (go_at_call 33; refine (mathAbs _ (by assumption)).mono ?_; rintro e w' ⟨y, rfl, hy, rfl⟩) | (refine wpList_fcmp rfl _ _ _ _ _ rfl _ _ _ rfl rfl rfl (by assumption) hm ?_; rw [h2]))
      go_ret
      exact ⟨ret_bool HS.out, _, rfl⟩
/-- The bits of the exponent are nought. -/
theorem expo_eq (x : Nat) : (((x / 8388608 % 256 * 8388608 : Nat) : Int) == 0) = decide (x % 2147483648 < 8388608) := by
  by_cases hs : x % 2147483648 < 8388608
  · rw [decide_eq_true hs, beq_iff_eq]; omega
  · rw [decide_eq_false hs, beq_eq_false_iff_ne]; omega
end Go.Proofs.Ytnkcaiifohplaad.Fl
