/- Lives as values; the helpers of the laws over lives: szLife, toLife, eqLife. -/
import Derived.Test.YtmbimekndhcgaaaDoorFldKit
import Derived.Test.YtmbimekndhcgaaaDoorFNew
namespace Go.Proofs.YtmbimekndhcgaaaDoor.Help
open Go.RowKit Go.Proofs.YtmbimekndhcgaaaDoor.Rd Go.Proofs.YtmbimekndhcgaaaDoor.Keep Go.Proofs.YtmbimekndhcgaaaDoor.Rule
set_option linter.unusedVariables false
set_option linter.unusedSimpArgs false

abbrev lifeV (v1 v2 : Value) : Value := .agg #[v1, v2]
end Go.Proofs.YtmbimekndhcgaaaDoor.Help
