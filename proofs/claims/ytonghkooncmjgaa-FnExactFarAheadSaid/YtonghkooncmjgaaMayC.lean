/- A fact of the whole program. -/
import Derived.Test.YtonghkooncmjgaaRows
import Derived.WalkKit
import Derived.ProofKit
namespace Go.Proofs.Ytonghkooncmjgaa.MayC
theorem fact : Try.pinned.checked.prog.make = some Rows.fnExactValidDeskRow.make := by kernel_rfl
end Go.Proofs.Ytonghkooncmjgaa.MayC
