/- impl.rowOf: a row of a field. -/
import Derived.Test.YtnpjhhkhdeomcaaFNew
namespace Go.Proofs.Ytnpjhhkhdeomcaa.Row
open Go.RowKit Go.Proofs.Ytnpjhhkhdeomcaa.Rd Go.Proofs.Ytnpjhhkhdeomcaa.Help Go.Proofs.Ytnpjhhkhdeomcaa.Ring Go.Proofs.Ytnpjhhkhdeomcaa.Small Go.Proofs.Ytnpjhhkhdeomcaa.FVal Go.Proofs.Ytnpjhhkhdeomcaa.Keep Go.Proofs.Ytnpjhhkhdeomcaa.Rule
set_option linter.unusedVariables false
set_option linter.unusedSimpArgs false

theorem row_in {R C row : Nat} (hrow : row < R) : row * C + C ≤ R * C := by
  have : (row + 1) * C ≤ R * C := Nat.mul_le_mul_right C (by omega)
  rw [Nat.succ_mul] at this; exact this

end Go.Proofs.Ytnpjhhkhdeomcaa.Row
