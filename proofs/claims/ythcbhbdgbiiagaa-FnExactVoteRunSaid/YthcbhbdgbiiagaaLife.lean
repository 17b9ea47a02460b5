/- Lives as values; the helpers of the laws over lives: szLife, toLife, eqLife. -/
import Derived.Test.YthcbhbdgbiiagaaFldKit
import Derived.Test.YthcbhbdgbiiagaaFNew
namespace Go.Proofs.Ythcbhbdgbiiagaa.Help
open Go.RowKit Go.Proofs.Ythcbhbdgbiiagaa.Rd Go.Proofs.Ythcbhbdgbiiagaa.Keep Go.Proofs.Ythcbhbdgbiiagaa.Rule
set_option linter.unusedVariables false
set_option linter.unusedSimpArgs false

abbrev lifeV (v1 v2 : Value) : Value := .agg #[v1, v2]
end Go.Proofs.Ythcbhbdgbiiagaa.Help
