/- impl.IsFinite says whether a number is neither an infinity nor a not-a-number. -/
import Derived.Test.YtejchjjkehmgaaaAbs
namespace Go.Proofs.Ytejchjjkehmgaaa.Fl
open Go Go.RowKit
def finF (v : Option Nat) : Bool := match v with | none => false | some b => decide (b % 2147483648 < 2139095040)
theorem finF_eq {x : Nat} {v : Option Nat} (hx : Is .f32 x v) : fcmp .leq .f64 (fabs (fconv .f32 .f64 v)) (some 5183643170566569984) = finF v := by
  rcases Is_cases hx.2 with h | h
  · obtain rfl : none = v := h.1.symm.trans hx.1
    rfl
  · obtain rfl : some x = v := h.1.symm.trans hx.1
    exact leq_most x (not_nan h)
theorem is_most : Is .f64 5183643170566569984 (some 5183643170566569984) := ⟨by decide, by decide⟩
set_option maxHeartbeats 400000 in
theorem implIsFinite {x : Nat} {v : Option Nat} (w : World) (hx : Is .f32 x v) :
    Calls Try.prog 73 #[.float .f32 x] w fun e w' => e = .returned (.bool (finF v)) ∧ ∃ n, w' = w.drewN n := by
  have hm := is_most
  have hq := finF_eq hx
  go_enter Try.func73, Try.ntmps73
  go_wp2_with (first | (refine wpList_fconv rfl _ _ _ rfl _ _ _ rfl (by rw [Try.underlying23]; rfl) Try.underlying28 hx (fits_widen_is hx) ?_; intro r m hr) | (go_at_call 131; refine (mathAbs _ (by assumption)).mono ?_; rintro e w' ⟨y, rfl, hy, rfl⟩) | (refine wpList_fcmp rfl _ _ _ _ _ rfl _ _ _ rfl rfl rfl (by assumption) hm ?_; rw [hq]))
  go_ret
  exact ⟨rfl, _, rfl⟩
end Go.Proofs.Ytejchjjkehmgaaa.Fl
