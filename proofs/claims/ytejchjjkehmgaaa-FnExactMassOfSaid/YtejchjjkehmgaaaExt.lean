/- What math's functions without a body answer, in this program. -/
import Derived.Test.YtejchjjkehmgaaaRows
import Derived.Test.YtejchjjkehmgaaaFl
namespace Go.Proofs.Ytejchjjkehmgaaa.Fl
open Go
theorem ext_f32bits (x : Nat) (w : World) : (callFunc 169 #[.float .f32 x]).run Try.prog w = .ok (.value (.int .u32 x)) w :=
  (run_callFunc_extern Try.func169 (by kernel_rfl) (by kernel_rfl) (by kernel_rfl) (e := Extern.MathFloatBits.float32bits) (by kernel_rfl) #[.float .f32 x] w).trans rfl
theorem ext_f64bits (x : Nat) (w : World) : (callFunc 163 #[.float .f64 x]).run Try.prog w = .ok (.value (.int .u64 x)) w :=
  (run_callFunc_extern Try.func163 (by kernel_rfl) (by kernel_rfl) (by kernel_rfl) (e := Extern.MathFloatBits.float64bits) (by kernel_rfl) #[.float .f64 x] w).trans rfl
theorem ext_f64from (n : Int) (w : World) : (callFunc 162 #[.int .u64 n]).run Try.prog w = .ok (.value (.float .f64 n.toNat)) w :=
  (run_callFunc_extern Try.func162 (by kernel_rfl) (by kernel_rfl) (by kernel_rfl) (e := Extern.MathFloatBits.float64frombits) (by kernel_rfl) #[.int .u64 n] w).trans rfl
end Go.Proofs.Ytejchjjkehmgaaa.Fl
