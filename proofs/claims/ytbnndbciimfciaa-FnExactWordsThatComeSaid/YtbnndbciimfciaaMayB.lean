/- A fact of the whole program. -/
import Derived.Test.YtbnndbciimfciaaRows
import Derived.WalkKit
import Derived.ProofKit
namespace Go.Proofs.Ytbnndbciimfciaa.MayB
theorem fact : Try.pinned.checked.prog.liftsFinal = Rows.fnExactCanComeRow.lifted := by kernel_rfl
end Go.Proofs.Ytbnndbciimfciaa.MayB
