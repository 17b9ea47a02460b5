/- spec.l02Weighed: the rule of weighed sums. -/
import Derived.Test.YtonghkooncmjgaaSumQ
import Derived.Test.YtonghkooncmjgaaApp
import Derived.Test.YtonghkooncmjgaaSpec
import Derived.BigQuiet
namespace Go.Proofs.Ytonghkooncmjgaa.Weigh
open Go.RowKit Go.Proofs.Ytonghkooncmjgaa.Rd Go.Proofs.Ytonghkooncmjgaa.Help Go.Proofs.Ytonghkooncmjgaa.App Go.Proofs.Ytonghkooncmjgaa.Ring Go.Proofs.Ytonghkooncmjgaa.Small Go.Proofs.Ytonghkooncmjgaa.Num Go.Proofs.Ytonghkooncmjgaa.Keep Go.Proofs.Ytonghkooncmjgaa.Rule Go.Proofs.Ytonghkooncmjgaa.Dig Go.Proofs.Ytonghkooncmjgaa.DigP Go.Proofs.Ytonghkooncmjgaa.Tell Go.Proofs.Ytonghkooncmjgaa.Sum
set_option linter.unusedVariables false
set_option linter.unusedSimpArgs false

theorem rows_set {w : World} {base : Nat} {v : Value} {n : Nat} {xs : List Value} (h : w.ownsRow base 2 1 v n xs) (a : Addr) (u : Value) (hlt : a.block < base) : (w.setCell a u).ownsRow base 2 1 v n xs := by
  refine h.kept (setCell_grown w a u) ?_
  cases hv : v.ownBlock with
  | none => exact .inl rfl
  | some k => right; intro e; have := (h.lt k hv).1; simp at e; omega
theorem rows_keep {w w' : World} {base : Nat} {v : Value} {n : Nat} {xs : List Value} (h : w.ownsRow base 2 1 v n xs) (bel : Below w.heap.size w w') : w'.ownsRow base 2 1 v n xs := by
  refine h.kept (below_grown bel) ?_
  cases hv : v.ownBlock with
  | none => exact .inl rfl
  | some k => right; simp
theorem heap_keep {w w' : World} {n : Nat} {o : Obj} (bel : Below w.heap.size w w') (h : w.heap[n]? = some o) : w'.heap[n]? = some o :=
  (bel.block n (Array.getElem?_eq_some_iff.1 h).1).trans h

end Go.Proofs.Ytonghkooncmjgaa.Weigh
