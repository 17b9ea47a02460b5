/- What math's functions without a body answer, in this program. -/
import Derived.Test.YtnkcaiifohplaabRows
import Derived.Test.YtnkcaiifohplaabFl
namespace Go.Proofs.Ytnkcaiifohplaab.Fl
open Go
theorem ext_f64bits (x : Nat) (w : World) : (callFunc 33 #[.float .f64 x]).run Try.prog w = .ok (.value (.int .u64 x)) w :=
  (run_callFunc_extern Try.func33 (by kernel_rfl) (by kernel_rfl) (by kernel_rfl) (e := Extern.MathFloatBits.float64bits) (by kernel_rfl) #[.float .f64 x] w).trans rfl
theorem ext_f32from (n : Int) (w : World) : (callFunc 38 #[.int .u32 n]).run Try.prog w = .ok (.value (.float .f32 n.toNat)) w :=
  (run_callFunc_extern Try.func38 (by kernel_rfl) (by kernel_rfl) (by kernel_rfl) (e := Extern.MathFloatBits.float32frombits) (by kernel_rfl) #[.int .u32 n] w).trans rfl
theorem ext_f64from (n : Int) (w : World) : (callFunc 32 #[.int .u64 n]).run Try.prog w = .ok (.value (.float .f64 n.toNat)) w :=
  (run_callFunc_extern Try.func32 (by kernel_rfl) (by kernel_rfl) (by kernel_rfl) (e := Extern.MathFloatBits.float64frombits) (by kernel_rfl) #[.int .u64 n] w).trans rfl
end Go.Proofs.Ytnkcaiifohplaab.Fl
