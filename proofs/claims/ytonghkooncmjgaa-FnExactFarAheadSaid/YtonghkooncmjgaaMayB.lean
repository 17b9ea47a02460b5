/- A fact of the whole program. -/
import Derived.Test.YtonghkooncmjgaaRows
import Derived.WalkKit
import Derived.ProofKit
namespace Go.Proofs.Ytonghkooncmjgaa.MayB
theorem fact : Try.pinned.checked.prog.liftsFinal = Rows.fnExactValidDeskRow.lifted := by kernel_rfl
end Go.Proofs.Ytonghkooncmjgaa.MayB
