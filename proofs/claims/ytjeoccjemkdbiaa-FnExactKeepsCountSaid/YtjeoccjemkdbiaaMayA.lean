/- A fact of the whole program. -/
import Derived.Test.YtjeoccjemkdbiaaRows
import Derived.WalkKit
import Derived.ProofKit
namespace Go.Proofs.Ytjeoccjemkdbiaa.MayA
theorem fact : Try.pinned.checked.prog.mayEnter = true := by kernel_rfl
end Go.Proofs.Ytjeoccjemkdbiaa.MayA
