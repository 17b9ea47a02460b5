/- TotalRule: the side of the document. -/
import Derived.Test.YtonghkooncmjgaaGive
import Derived.Test.YtonghkooncmjgaaTot
import Derived.Test.YtonghkooncmjgaaWeigh
import Derived.Test.YtonghkooncmjgaaSumLaw
namespace Go.Proofs.Ytonghkooncmjgaa.TotS
open Go.RowKit Go.Proofs.Ytonghkooncmjgaa.Rd Go.Proofs.Ytonghkooncmjgaa.Help Go.Proofs.Ytonghkooncmjgaa.App Go.Proofs.Ytonghkooncmjgaa.Ring Go.Proofs.Ytonghkooncmjgaa.Small Go.Proofs.Ytonghkooncmjgaa.Num Go.Proofs.Ytonghkooncmjgaa.Keep Go.Proofs.Ytonghkooncmjgaa.Rule Go.Proofs.Ytonghkooncmjgaa.Dig Go.Proofs.Ytonghkooncmjgaa.DigP Go.Proofs.Ytonghkooncmjgaa.Tell Go.Proofs.Ytonghkooncmjgaa.Weigh Go.Proofs.Ytonghkooncmjgaa.Give
set_option linter.unusedVariables false
set_option linter.unusedSimpArgs false

/-- What the rule of sums tells. -/
def totT (s : Int) (told : List Int) (L : Nat) (k : Nat) : Int := told.getD (sumL (dig s k L)).toNat 0

theorem nextg1_0 {N : Nat} {w0 w w' : World} {p0 : Addr} {c0 : Value} {row : Option Nat} (g : w.grownBy w' row) (bel : Below N w w') (h0 : some p0.block ≠ row)
    (h : Below N w0 w ∧ w.cell? p0 = some c0 ∧ N ≤ w.heap.size) : Below N w0 w' ∧ w'.cell? p0 = some c0 ∧ N ≤ w'.heap.size := by
  obtain ⟨a0, a1, a6⟩ := h
  exact ⟨a0.trans bel, (World.cell?_of_block (w := w) (g.block _ (World.block_lt_of_cell? _ _ a1) h0)).trans a1, Nat.le_trans a6 g.size⟩


end Go.Proofs.Ytonghkooncmjgaa.TotS
