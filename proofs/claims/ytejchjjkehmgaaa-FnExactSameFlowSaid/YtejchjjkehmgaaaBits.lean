/- What the model's l01Bits answers: the bits of a number, one for all not-a-numbers. -/
import Derived.Test.YtejchjjkehmgaaaRows
import Derived.Test.YtejchjjkehmgaaaFl
import Derived.Test.YtejchjjkehmgaaaExt
import Derived.Lib.Hide
namespace Go.Proofs.Ytejchjjkehmgaaa.Fl
open Go Go.RowKit
set_option maxHeartbeats 400000 in
theorem l01Bits_none (x : Nat) (w : World) (hx : Is .f32 x none) :
    Calls Try.prog 168 #[.float .f32 x] w fun e w' => e = .returned (.int .i64 (bitsF none)) ∧ w = w' := by
  have hc := neq_self_none .f32
  go_enter Try.func168, Try.ntmps168
  go_wp2_with (refine wpList_fcmp rfl _ _ _ _ _ rfl _ _ _ rfl rfl rfl hx hx ?_; rw [hc])
  go_ret
  exact ⟨rfl, rfl⟩
set_option maxHeartbeats 400000 in
theorem l01Bits_some (x : Nat) (w : World) (hx : Is .f32 x (some x)) :
    Calls Try.prog 168 #[.float .f32 x] w fun e w' => e = .returned (.int .i64 (bitsF (some x))) ∧ w = w' := by
  have hc := neq_self hx
  have he := fun w => ext_f32bits x w
  go_enter Try.func168, Try.ntmps168
  go_wp2_with (refine wpList_fcmp rfl _ _ _ _ _ rfl _ _ _ rfl rfl rfl hx hx ?_; rw [hc])
  go_ret
  exact ⟨ret_int (IntWalk.wrap64_in _ (by have : x < 4294967296 := hx.2; constructor <;> omega)), rfl⟩
theorem l01Bits {x : Nat} {v : Option Nat} (w : World) (hx : Is .f32 x v) :
    Calls Try.prog 168 #[.float .f32 x] w fun e w' => e = .returned (.int .i64 (bitsF v)) ∧ w = w' := by
  rcases Is_cases hx.2 with h | h
  · obtain rfl : none = v := h.1.symm.trans hx.1
    exact l01Bits_none x w h
  · obtain rfl : some x = v := h.1.symm.trans hx.1
    exact l01Bits_some x w h
end Go.Proofs.Ytejchjjkehmgaaa.Fl
