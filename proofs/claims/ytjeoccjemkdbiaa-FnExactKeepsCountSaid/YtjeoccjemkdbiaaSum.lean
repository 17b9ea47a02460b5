/- Rules of weighed sums: SumRule, toldAlone. -/
import Derived.Test.YtjeoccjemkdbiaaTell
namespace Go.Proofs.Ytjeoccjemkdbiaa.Sum
open Go.RowKit Go.Proofs.Ytjeoccjemkdbiaa.Rd Go.Proofs.Ytjeoccjemkdbiaa.Help Go.Proofs.Ytjeoccjemkdbiaa.Ring Go.Proofs.Ytjeoccjemkdbiaa.Small Go.Proofs.Ytjeoccjemkdbiaa.Num Go.Proofs.Ytjeoccjemkdbiaa.Keep Go.Proofs.Ytjeoccjemkdbiaa.Rule Go.Proofs.Ytjeoccjemkdbiaa.Dig Go.Proofs.Ytjeoccjemkdbiaa.DigP Go.Proofs.Ytjeoccjemkdbiaa.Tell
set_option linter.unusedVariables false
set_option linter.unusedSimpArgs false

/-- The sum of the first k products. -/
def dotK (ws zs : List Int) : Nat → Int
  | 0 => 0
  | k + 1 => dotK ws zs k + ws.getD k 0 * zs.getD k 0
theorem dotK_bd {s : Int} (hs : 2 ≤ s ∧ s ≤ 3) {ws zs : List Int} (hw : allB ws s = true) (hz : allB zs s = true) : ∀ k, k ≤ ws.length → k ≤ zs.length → 0 ≤ dotK ws zs k ∧ dotK ws zs k ≤ 4 * k := by
  intro k
  induction k with
  | zero => intro _ _; simp [dotK]
  | succ k ih =>
    intro h1 h2
    have h3 := ih (by omega) (by omega)
    obtain ⟨a1, a2⟩ := all_get hw (i := k) (by omega)
    obtain ⟨b1, b2⟩ := all_get hz (i := k) (by omega)
    have p1 : 0 ≤ ws.getD k 0 * zs.getD k 0 := Int.mul_nonneg a1 b1
    have p2 : ws.getD k 0 * zs.getD k 0 ≤ 2 * 2 := Int.mul_le_mul (by omega) (by omega) b1 (by omega)
    simp only [dotK]
    omega

end Go.Proofs.Ytjeoccjemkdbiaa.Sum
