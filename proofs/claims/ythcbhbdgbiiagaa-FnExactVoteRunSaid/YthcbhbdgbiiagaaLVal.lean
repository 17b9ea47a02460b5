/- Lives: ValidLife and SameLife of both sides. -/
import Derived.Test.YthcbhbdgbiiagaaLife
import Derived.Test.YthcbhbdgbiiagaaFSame
namespace Go.Proofs.Ythcbhbdgbiiagaa.LVal
open Go.RowKit Go.Proofs.Ythcbhbdgbiiagaa.Rd Go.Proofs.Ythcbhbdgbiiagaa.Help Go.Proofs.Ythcbhbdgbiiagaa.Small Go.Proofs.Ythcbhbdgbiiagaa.Keep Go.Proofs.Ythcbhbdgbiiagaa.Rule
set_option linter.unusedVariables false
set_option linter.unusedSimpArgs false

/-- The cell i of a list may stand there. -/
def okN (zs : List Int) (i : Nat) : Bool := decide (0 ≤ zs.getD i 0 ∧ zs.getD i 0 ≤ 8) && (decide (i = 0) || decide (zs.getD (i - 1) 0 < zs.getD i 0))
/-- A list of numbers of neighbours, in order. -/
def neighB (zs : List Int) : Bool := (List.range zs.length).all (okN zs)
theorem neigh_bad {zs : List Int} {k : Nat} (hk : k < zs.length) (h : okN zs k = false) : neighB zs = false := by
  simp only [neighB, List.all_eq_false]
  exact ⟨k, by simp; exact hk, by simp [h]⟩
theorem neigh_all {zs : List Int} (h : ∀ i, i < zs.length → okN zs i = true) : neighB zs = true := by
  simp only [neighB, List.all_eq_true]
  intro i hi
  exact h i (by simpa using hi)

theorem quietCount {w : World} {n hi : Int} {q : Bool} (h : decide (0 ≤ n ∧ n ≤ hi) = q) :
    Calls Try.prog 58 #[.int .i64 n, .int .i64 hi] w fun e w' => e = .returned (.bool q) ∧ w' = w := by
  rw [← h]; exact isCountB.mono fun _ _ ⟨he, hw⟩ => ⟨he, hw.symm⟩

/-- What ValidLife answers. -/
def lifeB (xs ys : List Int) : Bool := neighB xs && neighB ys

end Go.Proofs.Ythcbhbdgbiiagaa.LVal
