/- A fact of the whole program. -/
import Derived.Test.YtlecpilgimiaaaaRows
import Derived.WalkKit
import Derived.ProofKit
namespace Go.Proofs.Ytlecpilgimiaaaa.MayC
theorem fact : Try.pinned.checked.prog.make = some Rows.fnExactDrawFieldRow.make := by kernel_rfl
end Go.Proofs.Ytlecpilgimiaaaa.MayC
