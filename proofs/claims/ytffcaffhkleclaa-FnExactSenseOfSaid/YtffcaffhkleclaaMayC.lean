/- A fact of the whole program. -/
import Derived.Test.YtffcaffhkleclaaRows
import Derived.WalkKit
import Derived.ProofKit
namespace Go.Proofs.Ytffcaffhkleclaa.MayC
theorem fact : Try.pinned.checked.prog.make = some Rows.fnExactSenseOfRow.make := by kernel_rfl
end Go.Proofs.Ytffcaffhkleclaa.MayC
