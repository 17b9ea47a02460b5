/- A fact of the whole program. -/
import Derived.Test.YtbnndbciimfciaaRows
import Derived.WalkKit
import Derived.ProofKit
namespace Go.Proofs.Ytbnndbciimfciaa.MayA
theorem fact : Try.pinned.checked.prog.mayEnter = true := by kernel_rfl
end Go.Proofs.Ytbnndbciimfciaa.MayA
