/- A fact of the whole program. -/
import Derived.Test.YtejchjjkehmgaaaRows
import Derived.WalkKit
import Derived.ProofKit
namespace Go.Proofs.Ytejchjjkehmgaaa.MayB
theorem fact : Try.pinned.checked.prog.liftsFinal = Rows.fnExactSumNumbersRow.lifted := by kernel_rfl
end Go.Proofs.Ytejchjjkehmgaaa.MayB
