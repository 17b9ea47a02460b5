/- StepLife of both sides. -/
import Derived.Test.YtmbimekndhcgaaaLs
import Derived.Test.YtmbimekndhcgaaaNf
import Derived.Test.YtmbimekndhcgaaaCan
namespace Go.Proofs.Ytmbimekndhcgaaa.Stp
open Go.RowKit Go.Proofs.Ytmbimekndhcgaaa.Rd Go.Proofs.Ytmbimekndhcgaaa.Help Go.Proofs.Ytmbimekndhcgaaa.Ring Go.Proofs.Ytmbimekndhcgaaa.Small Go.Proofs.Ytmbimekndhcgaaa.FVal Go.Proofs.Ytmbimekndhcgaaa.Keep Go.Proofs.Ytmbimekndhcgaaa.Rule Go.Proofs.Ytmbimekndhcgaaa.Grow Go.Proofs.Ytmbimekndhcgaaa.Arr Go.Proofs.Ytmbimekndhcgaaa.Lf Go.Proofs.Ytmbimekndhcgaaa.Can
set_option linter.unusedVariables false
set_option linter.unusedSimpArgs false

end Go.Proofs.Ytmbimekndhcgaaa.Stp
