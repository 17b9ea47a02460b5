/- A fact of the whole program. -/
import Derived.Test.YtffcaffhkleclaaRows
import Derived.WalkKit
import Derived.ProofKit
namespace Go.Proofs.Ytffcaffhkleclaa.MayA
theorem fact : Try.pinned.checked.prog.mayEnter = true := by kernel_rfl
end Go.Proofs.Ytffcaffhkleclaa.MayA
