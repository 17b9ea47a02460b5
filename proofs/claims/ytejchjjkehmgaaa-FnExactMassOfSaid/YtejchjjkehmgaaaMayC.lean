/- A fact of the whole program. -/
import Derived.Test.YtejchjjkehmgaaaRows
import Derived.WalkKit
import Derived.ProofKit
namespace Go.Proofs.Ytejchjjkehmgaaa.MayC
theorem fact : Try.pinned.checked.prog.make = some Rows.fnExactSumNumbersRow.make := by kernel_rfl
end Go.Proofs.Ytejchjjkehmgaaa.MayC
