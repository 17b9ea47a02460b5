/- Fields: extents, and what impl.ValidField answers. -/
import Derived.Test.YtjeoccjemkdbiaaFld
import Derived.Test.YtjeoccjemkdbiaaRing
import Derived.Test.YtjeoccjemkdbiaaSmall
namespace Go.Proofs.Ytjeoccjemkdbiaa.FVal
open Go.RowKit Go.Proofs.Ytjeoccjemkdbiaa.Rd Go.Proofs.Ytjeoccjemkdbiaa.Help Go.Proofs.Ytjeoccjemkdbiaa.Ring Go.Proofs.Ytjeoccjemkdbiaa.Small Go.Proofs.Ytjeoccjemkdbiaa.Keep Go.Proofs.Ytjeoccjemkdbiaa.Rule
set_option linter.unusedVariables false
set_option linter.unusedSimpArgs false

theorem isFromB {w : World} {n lo hi : Int} :
    Calls Try.prog 34 #[.int .i64 n, .int .i64 lo, .int .i64 hi] w fun e w' => e = .returned (.bool (decide (lo ≤ n ∧ n ≤ hi))) ∧ w = w' := by
  by_cases h1 : lo ≤ n
  · have h3 : decide (lo ≤ n) = true := by simp [h1]
    by_cases h2 : n ≤ hi
    · rw [decide_eq_true (show lo ≤ n ∧ n ≤ hi from ⟨h1, h2⟩)]
      have h4 : decide (n ≤ hi) = true := by simp [h2]
      go_enter Try.func34, Try.ntmps34
      go_wp2
      go_ret
      exact ⟨rfl, rfl⟩
    · rw [decide_eq_false (show ¬ (lo ≤ n ∧ n ≤ hi) from fun h => h2 h.2)]
      have h4 : decide (n ≤ hi) = false := by simp; omega
      go_enter Try.func34, Try.ntmps34
      go_wp2
      go_ret
      exact ⟨rfl, rfl⟩
  · have h3 : decide (lo ≤ n) = false := by simp; omega
    rw [decide_eq_false (show ¬ (lo ≤ n ∧ n ≤ hi) from fun h => h1 h.1)]
    go_enter Try.func34, Try.ntmps34
    go_wp2
    go_ret
    exact ⟨rfl, rfl⟩

def sidesB (s r : Int) : Bool := decide (1 ≤ s ∧ s ≤ 24 ∧ 1 ≤ r ∧ r ≤ 24)

theorem prod_bd {s r : Int} (hs : 1 ≤ s ∧ s ≤ 24) (hr : 1 ≤ r ∧ r ≤ 24) : 1 ≤ s * r ∧ s * r ≤ 576 := by
  obtain ⟨a, rfl⟩ := Int.eq_ofNat_of_zero_le (show 0 ≤ s by omega)
  obtain ⟨b, rfl⟩ := Int.eq_ofNat_of_zero_le (show 0 ≤ r by omega)
  have h1 : a * b ≤ 24 * 24 := Nat.mul_le_mul (by omega) (by omega)
  have h2 : 1 * 1 ≤ a * b := Nat.mul_le_mul (by omega) (by omega)
  have h3 : ((a * b : Nat) : Int) = (a : Int) * b := by simp
  omega

/-- What ValidField answers. -/
def fieldB (s r : Int) (zs : List Int) : Bool := sidesB s r && (decide ((zs.length : Int) = s * r) && allB zs 10)

end Go.Proofs.Ytjeoccjemkdbiaa.FVal
