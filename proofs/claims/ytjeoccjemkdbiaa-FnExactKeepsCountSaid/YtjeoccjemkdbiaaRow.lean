/- impl.rowOf: a row of a field. -/
import Derived.Test.YtjeoccjemkdbiaaFNew
namespace Go.Proofs.Ytjeoccjemkdbiaa.Row
open Go.RowKit Go.Proofs.Ytjeoccjemkdbiaa.Rd Go.Proofs.Ytjeoccjemkdbiaa.Help Go.Proofs.Ytjeoccjemkdbiaa.Ring Go.Proofs.Ytjeoccjemkdbiaa.Small Go.Proofs.Ytjeoccjemkdbiaa.FVal Go.Proofs.Ytjeoccjemkdbiaa.Keep Go.Proofs.Ytjeoccjemkdbiaa.Rule
set_option linter.unusedVariables false
set_option linter.unusedSimpArgs false

theorem row_in {R C row : Nat} (hrow : row < R) : row * C + C ≤ R * C := by
  have : (row + 1) * C ≤ R * C := Nat.mul_le_mul_right C (by omega)
  rw [Nat.succ_mul] at this; exact this

end Go.Proofs.Ytjeoccjemkdbiaa.Row
