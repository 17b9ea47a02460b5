/- A fact of the whole program. -/
import Derived.Test.YtjeoccjemkdbiaaRows
import Derived.WalkKit
import Derived.ProofKit
namespace Go.Proofs.Ytjeoccjemkdbiaa.MayC
theorem fact : Try.pinned.checked.prog.make = some Rows.fnExactKeepsCountRow.make := by kernel_rfl
end Go.Proofs.Ytjeoccjemkdbiaa.MayC
