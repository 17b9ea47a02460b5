/- SameField of both sides. -/
import Derived.Test.YtmbimekndhcgaaaFldKit
import Derived.Test.YtmbimekndhcgaaaFSpec
namespace Go.Proofs.Ytmbimekndhcgaaa.Same
open Go.RowKit Go.Proofs.Ytmbimekndhcgaaa.Rd Go.Proofs.Ytmbimekndhcgaaa.Help Go.Proofs.Ytmbimekndhcgaaa.Ring Go.Proofs.Ytmbimekndhcgaaa.Small Go.Proofs.Ytmbimekndhcgaaa.FVal Go.Proofs.Ytmbimekndhcgaaa.Keep Go.Proofs.Ytmbimekndhcgaaa.Rule
set_option linter.unusedVariables false
set_option linter.unusedSimpArgs false

def eqLB (xs ys : List Int) : Bool := decide (xs = ys)
theorem eq_len {xs ys : List Int} (h : ¬ xs.length = ys.length) : eqLB xs ys = false := by
  unfold eqLB; exact decide_eq_false (fun e => h (by rw [e]))
theorem eq_bad {xs ys : List Int} {k : Nat} (h : ¬ xs.getD k 0 = ys.getD k 0) : eqLB xs ys = false := by
  unfold eqLB; exact decide_eq_false (fun e => h (by rw [e]))
theorem eq_all {xs ys : List Int} (hl : xs.length = ys.length) (h : ∀ i, i < xs.length → xs.getD i 0 = ys.getD i 0) : eqLB xs ys = true := by
  unfold eqLB
  apply decide_eq_true
  apply List.ext_getElem hl
  intro i h1 h2
  have := h i h1
  simpa [List.getD, h1, h2] using this

/-- What SameField answers. -/
def sameB (s r : Int) (xs : List Int) (s' r' : Int) (ys : List Int) : Bool := decide (s = s') && (decide (r = r') && eqLB xs ys)

end Go.Proofs.Ytmbimekndhcgaaa.Same
