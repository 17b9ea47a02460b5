/- Constants that the texts of walks name. -/
import Derived.Test.YtnkcaiifohplaadAn
namespace Go.Proofs.Ytnkcaiifohplaad.Fl
open Go
theorem is_one64 : Is .f64 4607182418800017408 one64 := ⟨by decide, by decide⟩
theorem is_zero64 : Is .f64 0 (some 0) := ⟨by decide, by decide⟩
theorem is_circle : Is .f64 4618760256179416344 circle := ⟨by decide, by decide⟩
theorem is_eight : Is .f64 4620693217682128896 (some 4620693217682128896) := ⟨by decide, by decide⟩
theorem is_quarter : Is .f64 4598175219545276416 (some 4598175219545276416) := ⟨by decide, by decide⟩
theorem is_half : Is .f64 4602678819172646912 (some 4602678819172646912) := ⟨by decide, by decide⟩
theorem is_int (n : Int) : Is .f64 (floatOfInt .f64 n) (some (floatOfInt .f64 n)) := Is_some (write_nan .f64 (.number (n < 0) n.natAbs 0) rfl) (FloatKind.f64.format.write_lt (.number (n < 0) n.natAbs 0))
end Go.Proofs.Ytnkcaiifohplaad.Fl
