/- A fact of the whole program. -/
import Derived.Test.YtbnndbciimfciaaRows
import Derived.WalkKit
import Derived.ProofKit
namespace Go.Proofs.Ytbnndbciimfciaa.MayC
theorem fact : Try.pinned.checked.prog.make = some Rows.fnExactCanComeRow.make := by kernel_rfl
end Go.Proofs.Ytbnndbciimfciaa.MayC
