/- l02Give. -/
import Derived.Test.YtonghkooncmjgaaTell
import Derived.Test.YtonghkooncmjgaaSpec
import Derived.Test.YtonghkooncmjgaaWeigh
import Derived.Test.YtonghkooncmjgaaAl
namespace Go.Proofs.Ytonghkooncmjgaa.Give
open Go.RowKit Go.Proofs.Ytonghkooncmjgaa.Rd Go.Proofs.Ytonghkooncmjgaa.Help Go.Proofs.Ytonghkooncmjgaa.Ring Go.Proofs.Ytonghkooncmjgaa.Small Go.Proofs.Ytonghkooncmjgaa.Num Go.Proofs.Ytonghkooncmjgaa.Keep Go.Proofs.Ytonghkooncmjgaa.Rule Go.Proofs.Ytonghkooncmjgaa.Dig Go.Proofs.Ytonghkooncmjgaa.DigP Go.Proofs.Ytonghkooncmjgaa.Tell
set_option linter.unusedVariables false
set_option linter.unusedSimpArgs false


end Go.Proofs.Ytonghkooncmjgaa.Give
