/- A fact of the whole program. -/
import Derived.Test.YtffcaffhkleclaaRows
import Derived.WalkKit
import Derived.ProofKit
namespace Go.Proofs.Ytffcaffhkleclaa.MayB
theorem fact : Try.pinned.checked.prog.liftsFinal = Rows.fnExactSenseOfRow.lifted := by kernel_rfl
end Go.Proofs.Ytffcaffhkleclaa.MayB
