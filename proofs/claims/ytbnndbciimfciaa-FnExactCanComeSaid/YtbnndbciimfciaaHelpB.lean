/- The helpers of the laws over lists of bools. -/
import Derived.Test.YtbnndbciimfciaaRdb
namespace Go.Proofs.Ytbnndbciimfciaa.Help
open Go.RowKit Go.Proofs.Ytbnndbciimfciaa.Rd Go.Proofs.Ytbnndbciimfciaa.Rdb
set_option linter.unusedVariables false

theorem infoB : (Try.prog.info? 4).map (fun i => (i.zero, i.size, i.bytes)) = some (some (.bool false), 1, 1) := by kernel_rfl

theorem set_partB (zs : List Bool) (k : Nat) (h : k < zs.length) :
    (zs.take k ++ List.replicate (zs.length - k) false).set k (zs.getD k false) = zs.take (k + 1) ++ List.replicate (zs.length - (k + 1)) false := by
  apply List.ext_getElem?
  intro j
  rw [List.getElem?_set]
  by_cases hj : k = j
  · subst hj
    have e1 : (zs.take k).length = k := by simp; omega
    have e2 : (zs.take (k + 1)).length = k + 1 := by simp; omega
    rw [if_pos rfl, if_pos (by simp; omega), List.getElem?_append_left (by omega), List.getElem?_take, if_pos (by omega)]
    simp [List.getD, h]
  · rw [if_neg hj]
    simp only [List.getElem?_append, List.length_take]
    by_cases hj1 : j < k
    · rw [if_pos (by omega), if_pos (by omega), List.getElem?_take, List.getElem?_take, if_pos (by omega), if_pos (by omega)]
    · rw [if_neg (by omega), if_neg (by omega)]
      simp only [List.getElem?_replicate]
      by_cases hj2 : j < zs.length
      · rw [if_pos (by omega), if_pos (by omega)]
      · rw [if_neg (by omega), if_neg (by omega)]

end Go.Proofs.Ytbnndbciimfciaa.Help
