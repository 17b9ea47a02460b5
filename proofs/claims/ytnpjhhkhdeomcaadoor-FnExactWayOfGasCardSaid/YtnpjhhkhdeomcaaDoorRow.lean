/- impl.rowOf: a row of a field. -/
import Derived.Test.YtnpjhhkhdeomcaaDoorFNew
namespace Go.Proofs.YtnpjhhkhdeomcaaDoor.Row
open Go.RowKit Go.Proofs.YtnpjhhkhdeomcaaDoor.Rd Go.Proofs.YtnpjhhkhdeomcaaDoor.Help Go.Proofs.YtnpjhhkhdeomcaaDoor.Ring Go.Proofs.YtnpjhhkhdeomcaaDoor.Small Go.Proofs.YtnpjhhkhdeomcaaDoor.FVal Go.Proofs.YtnpjhhkhdeomcaaDoor.Keep Go.Proofs.YtnpjhhkhdeomcaaDoor.Rule
set_option linter.unusedVariables false
set_option linter.unusedSimpArgs false

theorem row_in {R C row : Nat} (hrow : row < R) : row * C + C ≤ R * C := by
  have : (row + 1) * C ≤ R * C := Nat.mul_le_mul_right C (by omega)
  rw [Nat.succ_mul] at this; exact this

end Go.Proofs.YtnpjhhkhdeomcaaDoor.Row
