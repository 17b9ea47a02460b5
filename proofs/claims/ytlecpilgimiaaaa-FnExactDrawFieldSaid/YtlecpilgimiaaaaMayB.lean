/- A fact of the whole program. -/
import Derived.Test.YtlecpilgimiaaaaRows
import Derived.WalkKit
import Derived.ProofKit
namespace Go.Proofs.Ytlecpilgimiaaaa.MayB
theorem fact : Try.pinned.checked.prog.liftsFinal = Rows.fnExactDrawFieldRow.lifted := by kernel_rfl
end Go.Proofs.Ytlecpilgimiaaaa.MayB
