/- A step of a life, the model of both sides. -/
import Derived.Test.YthcbhbdgbiiagaaGrow
import Derived.Test.YthcbhbdgbiiagaaCopy
import Derived.Test.YthcbhbdgbiiagaaLf
import Derived.Test.YthcbhbdgbiiagaaLVal
namespace Go.Proofs.Ythcbhbdgbiiagaa.Ls
open Go.RowKit Go.Proofs.Ythcbhbdgbiiagaa.Rd Go.Proofs.Ythcbhbdgbiiagaa.Help Go.Proofs.Ythcbhbdgbiiagaa.Ring Go.Proofs.Ythcbhbdgbiiagaa.Small Go.Proofs.Ythcbhbdgbiiagaa.FVal Go.Proofs.Ythcbhbdgbiiagaa.Keep Go.Proofs.Ythcbhbdgbiiagaa.Rule Go.Proofs.Ythcbhbdgbiiagaa.Grow Go.Proofs.Ythcbhbdgbiiagaa.Copy Go.Proofs.Ythcbhbdgbiiagaa.Rnd Go.Proofs.Ythcbhbdgbiiagaa.Lf
set_option linter.unusedVariables false
set_option linter.unusedSimpArgs false

theorem filN_same (tgt : List Int) (n t : Nat) (h : tgt.length = n) (ht : t < n) (hz : tgt.getD t 0 = 0) : filN tgt n (t + 1) = filN tgt n t := by
  rw [← filN_set tgt n t h ht, hz]
  refine List.ext_getElem (by simp) fun i h1 h2 => ?_
  rw [List.getElem_set]
  split
  · rename_i hti
    subst hti
    have hl : (tgt.take t).length = t := by simp; omega
    simp only [filN]
    rw [List.getElem_append_right (by omega)]
    simp
  · rfl
theorem below_m {w w' : World} (h : ∃ m, w' = w.drewN m) : Below w.heap.size w w' := by
  obtain ⟨m, rfl⟩ := h
  exact FSpec.below_drewN' _ _ _

end Go.Proofs.Ythcbhbdgbiiagaa.Ls
