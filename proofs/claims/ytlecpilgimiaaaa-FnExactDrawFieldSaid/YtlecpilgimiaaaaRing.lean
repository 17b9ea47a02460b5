/- Rings: what l02Ring and IsRing of both sides answer. -/
import Derived.Test.YtlecpilgimiaaaaHelp
namespace Go.Proofs.Ytlecpilgimiaaaa.Ring
open Go.RowKit Go.Proofs.Ytlecpilgimiaaaa.Rd Go.Proofs.Ytlecpilgimiaaaa.Help
set_option linter.unusedVariables false

/-- All numbers are states. -/
def okB (st : Int) (x : Int) : Bool := decide (0 ≤ x ∧ x ≤ st - 1)
def allB (zs : List Int) (st : Int) : Bool := zs.all (okB st)
def ringB (zs : List Int) (st : Int) : Bool := allB zs st && (decide (1 ≤ zs.length) && decide (zs.length ≤ 64))
def isRingB (zs : List Int) (st : Int) : Bool := decide (2 ≤ st ∧ st ≤ 3) && ringB zs st

theorem all_take_succ (zs : List Int) (st : Int) (k : Nat) (h : k < zs.length) : allB (zs.take (k + 1)) st = (allB (zs.take k) st && okB st (zs.getD k 0)) := by
  unfold allB
  rw [List.take_succ_eq_append_getElem h, List.all_append]
  simp only [List.all_cons, List.all_nil, Bool.and_true, List.getD, List.getElem?_eq_getElem h, Option.getD_some]
theorem all_false (zs : List Int) (st : Int) (k : Nat) (h : k < zs.length) (hb : okB st (zs.getD k 0) = false) : allB zs st = false := by
  have e : zs = zs.take (k + 1) ++ zs.drop (k + 1) := (List.take_append_drop _ _).symm
  have h2 := all_take_succ zs st k h
  rw [hb, Bool.and_false] at h2
  unfold allB at h2 ⊢
  rw [e, List.all_append, h2, Bool.false_and]

end Go.Proofs.Ytlecpilgimiaaaa.Ring
