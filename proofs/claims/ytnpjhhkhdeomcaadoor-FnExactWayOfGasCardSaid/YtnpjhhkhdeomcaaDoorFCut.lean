/- CutField of both sides. -/
import Derived.Test.YtnpjhhkhdeomcaaDoorGrow
import Derived.Test.YtnpjhhkhdeomcaaDoorCopy
namespace Go.Proofs.YtnpjhhkhdeomcaaDoor.FCut
open Go.RowKit Go.Proofs.YtnpjhhkhdeomcaaDoor.Rd Go.Proofs.YtnpjhhkhdeomcaaDoor.Help Go.Proofs.YtnpjhhkhdeomcaaDoor.Ring Go.Proofs.YtnpjhhkhdeomcaaDoor.Small Go.Proofs.YtnpjhhkhdeomcaaDoor.FVal Go.Proofs.YtnpjhhkhdeomcaaDoor.Keep Go.Proofs.YtnpjhhkhdeomcaaDoor.Rule Go.Proofs.YtnpjhhkhdeomcaaDoor.Grow Go.Proofs.YtnpjhhkhdeomcaaDoor.Copy
set_option linter.unusedVariables false
set_option linter.unusedSimpArgs false

/-- A part of x rows and y columns from a row and a column on is within a field. -/
def cutB (R C row col x y : Int) : Bool := decide (0 ≤ row ∧ 0 ≤ col ∧ 1 ≤ x ∧ 1 ≤ y ∧ row + x ≤ R ∧ col + y ≤ C)

/-- The cells of a part of a field. -/
def cutL (zs : List Int) (C ra rb rc rd : Nat) : List Int := grid rc rd fun i k => zs.getD ((ra + i) * C + (rb + k)) 0

theorem gTrans {w0 w w' : World} {b : Nat} (g : w0.grownBy w (some b)) (h : w.grownBy w' (some b)) : w0.grownBy w' (some b) :=
  ⟨h.os.trans g.os, h.tape.trans g.tape, h.output.trans g.output, Nat.le_trans g.size h.size, fun k hk hne => (h.block k (Nat.lt_of_lt_of_le hk g.size) hne).trans (g.block k hk hne)⟩

end Go.Proofs.YtnpjhhkhdeomcaaDoor.FCut
