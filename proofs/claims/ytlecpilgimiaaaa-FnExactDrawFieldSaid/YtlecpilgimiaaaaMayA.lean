/- A fact of the whole program. -/
import Derived.Test.YtlecpilgimiaaaaRows
import Derived.WalkKit
import Derived.ProofKit
namespace Go.Proofs.Ytlecpilgimiaaaa.MayA
theorem fact : Try.pinned.checked.prog.mayEnter = true := by kernel_rfl
end Go.Proofs.Ytlecpilgimiaaaa.MayA
