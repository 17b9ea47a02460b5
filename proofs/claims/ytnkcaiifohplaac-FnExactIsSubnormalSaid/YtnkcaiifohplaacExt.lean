/- What math's functions without a body answer, in this program. -/
import Derived.Test.YtnkcaiifohplaacRows
import Derived.Test.YtnkcaiifohplaacFl
namespace Go.Proofs.Ytnkcaiifohplaac.Fl
open Go
theorem ext_f32bits (x : Nat) (w : World) : (callFunc 21 #[.float .f32 x]).run Try.prog w = .ok (.value (.int .u32 x)) w :=
  (run_callFunc_extern Try.func21 (by kernel_rfl) (by kernel_rfl) (by kernel_rfl) (e := Extern.MathFloatBits.float32bits) (by kernel_rfl) #[.float .f32 x] w).trans rfl
theorem ext_f64bits (x : Nat) (w : World) : (callFunc 23 #[.float .f64 x]).run Try.prog w = .ok (.value (.int .u64 x)) w :=
  (run_callFunc_extern Try.func23 (by kernel_rfl) (by kernel_rfl) (by kernel_rfl) (e := Extern.MathFloatBits.float64bits) (by kernel_rfl) #[.float .f64 x] w).trans rfl
theorem ext_f64from (n : Int) (w : World) : (callFunc 22 #[.int .u64 n]).run Try.prog w = .ok (.value (.float .f64 n.toNat)) w :=
  (run_callFunc_extern Try.func22 (by kernel_rfl) (by kernel_rfl) (by kernel_rfl) (e := Extern.MathFloatBits.float64frombits) (by kernel_rfl) #[.int .u64 n] w).trans rfl
end Go.Proofs.Ytnkcaiifohplaac.Fl
