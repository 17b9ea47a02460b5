/- Same numbers: both sides. -/
import Derived.Test.YtejchjjkehmgaaaRows
import Derived.WalkKit
import Derived.WalkLawsBesides
import Derived.ProofKit
import Derived.OpenShut
import Derived.ShutString
import Derived.ChangeOld
import Derived.Below
import Derived.IntWalk
import Derived.Lib.Hide
import Derived.Test.YtejchjjkehmgaaaBits
namespace Go.Proofs.Ytejchjjkehmgaaa.Fl
open Go.ChangeShapes Go.WideShapes Go.ChangeAt Go.RowKit
open Go.ChangeMaps (open_string shut_string)
set_option linter.unusedVariables false
set_option maxHeartbeats 400000 in
theorem implBits {x : Nat} {v : Option Nat} (w : World) (hx : Is .f32 x v) :
    Calls Try.prog 136 #[.float .f32 x] w fun e w' => e = .returned (.int .i64 (bitsF v)) ∧ w = w' := by
  have he := fun w => ext_f32bits x w
  rcases Is_cases hx.2 with h | h
  · obtain rfl : none = v := h.1.symm.trans hx.1
    have hc := neq_self_none .f32
    go_enter Try.func136, Try.ntmps136
    go_wp2_with (refine wpList_fcmp rfl _ _ _ _ _ rfl _ _ _ rfl rfl rfl hx hx ?_; rw [hc])
    go_ret
    exact ⟨rfl, rfl⟩
  · obtain rfl : some x = v := h.1.symm.trans hx.1
    have hc := neq_self h
    go_enter Try.func136, Try.ntmps136
    go_wp2_with (refine wpList_fcmp rfl _ _ _ _ _ rfl _ _ _ rfl rfl rfl hx hx ?_; rw [hc])
    go_ret
    exact ⟨ret_int (IntWalk.wrap64_in _ (by have : x < 4294967296 := hx.2; constructor <;> omega)), rfl⟩
set_option maxHeartbeats 400000 in
theorem implSameN {x y : Nat} {v u : Option Nat} (w : World) (hx : Is .f32 x v) (hy : Is .f32 y u) :
    Calls Try.prog 80 #[.float .f32 x, .float .f32 y] w fun e w' => e = .returned (.bool (bitsF v == bitsF u)) ∧ w = w' := by
  go_enter Try.func80, Try.ntmps80
  go_wp2_with (first | ((with_reducible refine (implBits _ hx).mono ?_); rintro e w' ⟨rfl, rfl⟩) | ((with_reducible refine (implBits _ hy).mono ?_); rintro e w' ⟨rfl, rfl⟩))
  go_ret
  exact ⟨rfl, rfl⟩
set_option maxHeartbeats 400000 in
theorem specSameN {x y : Nat} {v u : Option Nat} (w : World) (hx : Is .f32 x v) (hy : Is .f32 y u) :
    Calls Try.prog 135 #[.float .f32 x, .float .f32 y] w fun e w' => e = .returned (.bool (bitsF v == bitsF u)) ∧ w' = w := by
  go_enter Try.func135, Try.ntmps135
  go_wp2_with (first | ((with_reducible refine (l01Bits _ hx).mono ?_); rintro e w' ⟨rfl, rfl⟩) | ((with_reducible refine (l01Bits _ hy).mono ?_); rintro e w' ⟨rfl, rfl⟩))
  go_ret
  exact ⟨rfl, rfl⟩
theorem specSameQ {x y : Nat} {v u : Option Nat} {q : Bool} (w : World) (hx : Is .f32 x v) (hy : Is .f32 y u) (hq : (bitsF v == bitsF u) = q) :
    Calls Try.prog 135 #[.float .f32 x, .float .f32 y] w fun e w' => e = .returned (.bool q) ∧ w' = w := by
  rw [← hq]; exact specSameN w hx hy
end Go.Proofs.Ytejchjjkehmgaaa.Fl
