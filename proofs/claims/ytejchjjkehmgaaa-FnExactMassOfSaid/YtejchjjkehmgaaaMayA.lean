/- A fact of the whole program. -/
import Derived.Test.YtejchjjkehmgaaaRows
import Derived.WalkKit
import Derived.ProofKit
namespace Go.Proofs.Ytejchjjkehmgaaa.MayA
theorem fact : Try.pinned.checked.prog.mayEnter = true := by kernel_rfl
end Go.Proofs.Ytejchjjkehmgaaa.MayA
