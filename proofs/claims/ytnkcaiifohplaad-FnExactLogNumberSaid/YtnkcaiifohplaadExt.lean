/- What math's functions without a body answer, in this program. -/
import Derived.Test.YtnkcaiifohplaadRows
import Derived.Test.YtnkcaiifohplaadFl
namespace Go.Proofs.Ytnkcaiifohplaad.Fl
open Go
theorem ext_f32bits (x : Nat) (w : World) : (callFunc 55 #[.float .f32 x]).run Try.prog w = .ok (.value (.int .u32 x)) w :=
  (run_callFunc_extern Try.func55 (by kernel_rfl) (by kernel_rfl) (by kernel_rfl) (e := Extern.MathFloatBits.float32bits) (by kernel_rfl) #[.float .f32 x] w).trans rfl
theorem ext_f64bits (x : Nat) (w : World) : (callFunc 47 #[.float .f64 x]).run Try.prog w = .ok (.value (.int .u64 x)) w :=
  (run_callFunc_extern Try.func47 (by kernel_rfl) (by kernel_rfl) (by kernel_rfl) (e := Extern.MathFloatBits.float64bits) (by kernel_rfl) #[.float .f64 x] w).trans rfl
theorem ext_f32from (n : Int) (w : World) : (callFunc 56 #[.int .u32 n]).run Try.prog w = .ok (.value (.float .f32 n.toNat)) w :=
  (run_callFunc_extern Try.func56 (by kernel_rfl) (by kernel_rfl) (by kernel_rfl) (e := Extern.MathFloatBits.float32frombits) (by kernel_rfl) #[.int .u32 n] w).trans rfl
theorem ext_f64from (n : Int) (w : World) : (callFunc 46 #[.int .u64 n]).run Try.prog w = .ok (.value (.float .f64 n.toNat)) w :=
  (run_callFunc_extern Try.func46 (by kernel_rfl) (by kernel_rfl) (by kernel_rfl) (e := Extern.MathFloatBits.float64frombits) (by kernel_rfl) #[.int .u64 n] w).trans rfl
end Go.Proofs.Ytnkcaiifohplaad.Fl
