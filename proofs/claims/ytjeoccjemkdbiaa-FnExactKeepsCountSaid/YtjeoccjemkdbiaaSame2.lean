/- SameRule of both sides. -/
import Derived.Test.YtjeoccjemkdbiaaRuleKit
import Derived.Test.YtjeoccjemkdbiaaSpec
namespace Go.Proofs.Ytjeoccjemkdbiaa.Same
open Go.RowKit Go.Proofs.Ytjeoccjemkdbiaa.Rd Go.Proofs.Ytjeoccjemkdbiaa.Help Go.Proofs.Ytjeoccjemkdbiaa.Ring Go.Proofs.Ytjeoccjemkdbiaa.Small Go.Proofs.Ytjeoccjemkdbiaa.Num Go.Proofs.Ytjeoccjemkdbiaa.Keep Go.Proofs.Ytjeoccjemkdbiaa.Rule
set_option linter.unusedVariables false
set_option linter.unusedSimpArgs false

def eqLB (xs ys : List Int) : Bool := decide (xs = ys)
theorem eq_len {xs ys : List Int} (h : ¬ xs.length = ys.length) : eqLB xs ys = false := by
  unfold eqLB; exact decide_eq_false (fun e => h (by rw [e]))
theorem eq_bad {xs ys : List Int} {k : Nat} (h : ¬ xs.getD k 0 = ys.getD k 0) : eqLB xs ys = false := by
  unfold eqLB; exact decide_eq_false (fun e => h (by rw [e]))
theorem eq_all {xs ys : List Int} (hl : xs.length = ys.length) (h : ∀ i, i < xs.length → xs.getD i 0 = ys.getD i 0) : eqLB xs ys = true := by
  unfold eqLB
  apply decide_eq_true
  apply List.ext_getElem hl
  intro i h1 h2
  have := h i h1
  simpa [List.getD, h1, h2] using this

/-- What SameRule answers. -/
def sameB (s r : Int) (xs : List Int) (s' r' : Int) (ys : List Int) : Bool := decide (s = s') && (decide (r = r') && eqLB xs ys)

end Go.Proofs.Ytjeoccjemkdbiaa.Same
