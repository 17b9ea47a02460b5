/- impl.onRound: the remainder of a number that can be less than 0. -/
import Derived.Test.YtbnndbciimfciaaSmall
namespace Go.Proofs.Ytbnndbciimfciaa.Round
open Go.RowKit Go.Proofs.Ytbnndbciimfciaa.Rd Go.Proofs.Ytbnndbciimfciaa.Help Go.Proofs.Ytbnndbciimfciaa.Small
set_option linter.unusedVariables false

theorem start_round (f : Int) (n : Nat) (hn : 0 < n) : (f.tmod n + n) % (n : Int) = f % n := by
  rw [Int.tmod_eq_emod]
  split
  · simp
  · simp only [Int.natAbs_natCast, Int.sub_add_cancel, Int.emod_emod_of_dvd _ (Int.dvd_refl _)]

end Go.Proofs.Ytbnndbciimfciaa.Round
