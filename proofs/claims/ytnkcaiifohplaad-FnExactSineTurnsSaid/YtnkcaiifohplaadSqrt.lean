/- math.Sqrt gives the square root. -/
import Derived.Test.YtnkcaiifohplaadRows
import Derived.Test.YtnkcaiifohplaadBe
import Derived.Lib.Hide
namespace Go.Proofs.Ytnkcaiifohplaad.Fl
open Go Go.RowKit
theorem ext_sqrt (x : Nat) (w : World) : ∃ r n, (callFunc 57 #[.float .f64 x]).run Try.prog w = .ok (.value (.float .f64 r)) (w.drewN n) ∧ Is .f64 r (fsqrt (cn .f64 x)) := by
  obtain ⟨r, n, h, hi⟩ := run_sqrt (P := Try.prog) w x
  refine ⟨r, n, ?_, hi⟩
  rw [run_callFunc_extern Try.func57 (by kernel_rfl) (by kernel_rfl) (by kernel_rfl) (e := Extern.MathSqrt.sqrt) (by kernel_rfl) #[.float .f64 x] w, h]
  rfl
set_option maxHeartbeats 400000 in
theorem mathSqrt {x : Nat} {v : Option Nat} (w : World) (hx : Is .f64 x v) :
    Calls Try.prog 52 #[.float .f64 x] w fun e w' => ∃ r, e = .returned (.float .f64 r) ∧ Is .f64 r (fsqrt v) ∧ ∃ n, w' = w.drewN n := by
  obtain ⟨r, n, he, hi⟩ := ext_sqrt x w
  rw [hx.1] at hi
  go_enter Try.func52, Try.ntmps52
  go_wp2
  go_ret
  exact ⟨_, rfl, hi, _, rfl⟩
end Go.Proofs.Ytnkcaiifohplaad.Fl
