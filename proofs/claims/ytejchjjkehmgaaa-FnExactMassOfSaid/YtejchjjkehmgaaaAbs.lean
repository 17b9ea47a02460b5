/- math.Abs gives the absolute value. -/
import Derived.Test.YtejchjjkehmgaaaExt
import Derived.Test.YtejchjjkehmgaaaFc
import Derived.Lib.Hide
namespace Go.Proofs.Ytejchjjkehmgaaa.Fl
open Go Go.RowKit
theorem ext_absback (x : Nat) (w : World) : (callFunc 162 #[.int .u64 ((x % 9223372036854775808 : Nat) : Int)]).run Try.prog w = .ok (.value (.float .f64 (x % 9223372036854775808))) w :=
  ext_f64from _ w
set_option maxHeartbeats 400000 in
theorem mathAbs {x : Nat} {v : Option Nat} (w : World) (hx : Is .f64 x v) :
    Calls Try.prog 131 #[.float .f64 x] w fun e w' => ∃ r, e = .returned (.float .f64 r) ∧ Is .f64 r (fabs v) ∧ w = w' := by
  have hl : x < 2 ^ 64 := hx.2
  have he := fun w => ext_f64bits x w
  have hb := fun w => ext_absback x w
  have HI := Lib.hid (Is_abs hx)
  have HL := Lib.hid hl
  clear hl
  generalize ex : x % 9223372036854775808 = y at hb HI
  have HE := Lib.hid ex
  clear ex
  go_enter Try.func131, Try.ntmps131
  go_wp2_with (refine wpList_ints rfl .andNot _ _ _ _ rfl .u64 (x : Int) 9223372036854775808 (y : Int) rfl rfl ?_ ?_; (rw [← HE.out]; exact run_abs _ _ x HL.out))
  go_ret
  exact ⟨_, rfl, HI.out, rfl⟩
end Go.Proofs.Ytejchjjkehmgaaa.Fl
