/- A fact of the whole program. -/
import Derived.Test.YtonghkooncmjgaaRows
import Derived.WalkKit
import Derived.ProofKit
namespace Go.Proofs.Ytonghkooncmjgaa.MayA
theorem fact : Try.pinned.checked.prog.mayEnter = true := by kernel_rfl
end Go.Proofs.Ytonghkooncmjgaa.MayA
