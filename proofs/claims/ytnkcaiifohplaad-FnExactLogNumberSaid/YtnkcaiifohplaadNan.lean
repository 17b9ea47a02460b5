/- math.NaN gives a not-a-number. -/
import Derived.Test.YtnkcaiifohplaadExt
import Derived.Lib.Hide
namespace Go.Proofs.Ytnkcaiifohplaad.Fl
open Go Go.RowKit
theorem nan_word : Is .f64 9221120237041090561 none := ⟨by decide, by decide⟩
set_option maxHeartbeats 400000 in
theorem mathNaN (w : World) :
    Calls Try.prog 32 #[] w fun e w' => ∃ r, e = .returned (.float .f64 r) ∧ Is .f64 r none ∧ w = w' := by
  have he : ∀ w, (callFunc 46 #[.int .u64 9221120237041090561]).run Try.prog w = .ok (.value (.float .f64 9221120237041090561)) w := fun w => ext_f64from 9221120237041090561 w
  go_enter Try.func32, Try.ntmps32
  go_wp2
  go_ret
  exact ⟨_, rfl, nan_word, rfl⟩
end Go.Proofs.Ytnkcaiifohplaad.Fl
