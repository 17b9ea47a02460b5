/- Fields on the model's side: l04Is, l04Sides. -/
import Derived.Test.YtbnndbciimfciaaFVal
namespace Go.Proofs.Ytbnndbciimfciaa.FSpec
open Go.RowKit Go.Proofs.Ytbnndbciimfciaa.Rd Go.Proofs.Ytbnndbciimfciaa.Help Go.Proofs.Ytbnndbciimfciaa.Ring Go.Proofs.Ytbnndbciimfciaa.Small Go.Proofs.Ytbnndbciimfciaa.FVal Go.Proofs.Ytbnndbciimfciaa.Keep Go.Proofs.Ytbnndbciimfciaa.Rule
set_option linter.unusedVariables false
set_option linter.unusedSimpArgs false

theorem quietIn {w : World} {n lo hi : Int} {q : Bool} (h : decide (lo ≤ n ∧ n ≤ hi) = q) :
    Calls Try.prog 16 #[.int .i64 n, .int .i64 lo, .int .i64 hi] w fun e w' => e = .returned (.bool q) ∧ w' = w := by
  rw [← h]; exact inB.mono fun _ _ ⟨he, hw⟩ => ⟨he, hw.symm⟩
theorem below_drewN' (B : Nat) (w : World) (n : Nat) : Below B w (w.drewN n) := ⟨rfl, rfl, rfl, Nat.le_refl _, fun _ _ => rfl⟩

end Go.Proofs.Ytbnndbciimfciaa.FSpec
