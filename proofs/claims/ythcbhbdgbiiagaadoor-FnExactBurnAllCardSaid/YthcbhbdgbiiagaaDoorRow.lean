/- impl.rowOf: a row of a field. -/
import Derived.Test.YthcbhbdgbiiagaaDoorFNew
namespace Go.Proofs.YthcbhbdgbiiagaaDoor.Row
open Go.RowKit Go.Proofs.YthcbhbdgbiiagaaDoor.Rd Go.Proofs.YthcbhbdgbiiagaaDoor.Help Go.Proofs.YthcbhbdgbiiagaaDoor.Ring Go.Proofs.YthcbhbdgbiiagaaDoor.Small Go.Proofs.YthcbhbdgbiiagaaDoor.FVal Go.Proofs.YthcbhbdgbiiagaaDoor.Keep Go.Proofs.YthcbhbdgbiiagaaDoor.Rule
set_option linter.unusedVariables false
set_option linter.unusedSimpArgs false

theorem row_in {R C row : Nat} (hrow : row < R) : row * C + C ≤ R * C := by
  have : (row + 1) * C ≤ R * C := Nat.mul_le_mul_right C (by omega)
  rw [Nat.succ_mul] at this; exact this

end Go.Proofs.YthcbhbdgbiiagaaDoor.Row
