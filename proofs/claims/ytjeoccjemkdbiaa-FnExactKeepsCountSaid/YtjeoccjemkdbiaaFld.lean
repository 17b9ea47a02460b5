/- Fields (and rules): the value of a struct of two numbers and a slice; boxes. -/
import Derived.Test.YtjeoccjemkdbiaaLawKit
import Derived.Test.YtjeoccjemkdbiaaKeep
import Derived.Deep.RegionHeld3
import Derived.Lib.SmallJoins
namespace Go.Proofs.Ytjeoccjemkdbiaa.Rule
open Go.RowKit Go.Proofs.Ytjeoccjemkdbiaa.Rd Go.Proofs.Ytjeoccjemkdbiaa.Help
set_option linter.unusedVariables false
set_option linter.unusedSimpArgs false

/-- A field as a value. -/
abbrev ruleV (s r : Int) (v : Value) : Value := .agg #[.int .i64 s, .int .i64 r, v]
abbrev shapeV (s r : Int) : Value := .agg #[.int .i64 s, .int .i64 r]
theorem below1 (w : World) (o1 : Obj) : Below w.heap.size w (w.alloc o1) := (Below.refl _ _).alloc (Nat.le_refl _) o1

end Go.Proofs.Ytjeoccjemkdbiaa.Rule
