/- impl.rowOf: a row of a field. -/
import Derived.Test.YtbnndbciimfciaaFNew
namespace Go.Proofs.Ytbnndbciimfciaa.Row
open Go.RowKit Go.Proofs.Ytbnndbciimfciaa.Rd Go.Proofs.Ytbnndbciimfciaa.Help Go.Proofs.Ytbnndbciimfciaa.Ring Go.Proofs.Ytbnndbciimfciaa.Small Go.Proofs.Ytbnndbciimfciaa.FVal Go.Proofs.Ytbnndbciimfciaa.Keep Go.Proofs.Ytbnndbciimfciaa.Rule
set_option linter.unusedVariables false
set_option linter.unusedSimpArgs false

theorem row_in {R C row : Nat} (hrow : row < R) : row * C + C ≤ R * C := by
  have : (row + 1) * C ≤ R * C := Nat.mul_le_mul_right C (by omega)
  rw [Nat.succ_mul] at this; exact this

end Go.Proofs.Ytbnndbciimfciaa.Row
