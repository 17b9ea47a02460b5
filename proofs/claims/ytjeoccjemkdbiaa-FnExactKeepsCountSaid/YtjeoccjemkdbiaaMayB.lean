/- A fact of the whole program. -/
import Derived.Test.YtjeoccjemkdbiaaRows
import Derived.WalkKit
import Derived.ProofKit
namespace Go.Proofs.Ytjeoccjemkdbiaa.MayB
theorem fact : Try.pinned.checked.prog.liftsFinal = Rows.fnExactKeepsCountRow.lifted := by kernel_rfl
end Go.Proofs.Ytjeoccjemkdbiaa.MayB
