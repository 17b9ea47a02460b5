/- Fields: extents, and what impl.ValidField answers. -/
import Derived.Test.YtejchjjkehmgaaaFld
import Derived.Test.YtejchjjkehmgaaaRing
import Derived.Test.YtejchjjkehmgaaaSmall
namespace Go.Proofs.Ytejchjjkehmgaaa.FVal
open Go.RowKit Go.Proofs.Ytejchjjkehmgaaa.Rd Go.Proofs.Ytejchjjkehmgaaa.Help Go.Proofs.Ytejchjjkehmgaaa.Ring Go.Proofs.Ytejchjjkehmgaaa.Small Go.Proofs.Ytejchjjkehmgaaa.Keep Go.Proofs.Ytejchjjkehmgaaa.Rule
set_option linter.unusedVariables false
set_option linter.unusedSimpArgs false

theorem isFromB {w : World} {n lo hi : Int} :
    Calls Try.prog 144 #[.int .i64 n, .int .i64 lo, .int .i64 hi] w fun e w' => e = .returned (.bool (decide (lo ≤ n ∧ n ≤ hi))) ∧ w = w' := by
  by_cases h1 : lo ≤ n
  · have h3 : decide (lo ≤ n) = true := by simp [h1]
    by_cases h2 : n ≤ hi
    · rw [decide_eq_true (show lo ≤ n ∧ n ≤ hi from ⟨h1, h2⟩)]
      have h4 : decide (n ≤ hi) = true := by simp [h2]
      go_enter Try.func144, Try.ntmps144
      go_wp2
      go_ret
      exact ⟨rfl, rfl⟩
    · rw [decide_eq_false (show ¬ (lo ≤ n ∧ n ≤ hi) from fun h => h2 h.2)]
      have h4 : decide (n ≤ hi) = false := by simp; omega
      go_enter Try.func144, Try.ntmps144
      go_wp2
      go_ret
      exact ⟨rfl, rfl⟩
  · have h3 : decide (lo ≤ n) = false := by simp; omega
    rw [decide_eq_false (show ¬ (lo ≤ n ∧ n ≤ hi) from fun h => h1 h.1)]
    go_enter Try.func144, Try.ntmps144
    go_wp2
    go_ret
    exact ⟨rfl, rfl⟩

theorem extentOf {w : World} {s r : Int} {v : Value} :
    Calls Try.prog 157 #[ruleV s r v] w fun e w' => e = .returned (shapeV s r) ∧ Below w.heap.size w w' := by
  go_enter Try.func157, Try.ntmps157
  go_wp2
  simp [bodyPost, results, Try.results157, go_sem]
  exact Go.Joins.below_alloc2 _ _ _

def sidesB (s r : Int) : Bool := decide (1 ≤ s ∧ s ≤ 24 ∧ 1 ≤ r ∧ r ≤ 24)

theorem prod_bd {s r : Int} (hs : 1 ≤ s ∧ s ≤ 24) (hr : 1 ≤ r ∧ r ≤ 24) : 1 ≤ s * r ∧ s * r ≤ 576 := by
  obtain ⟨a, rfl⟩ := Int.eq_ofNat_of_zero_le (show 0 ≤ s by omega)
  obtain ⟨b, rfl⟩ := Int.eq_ofNat_of_zero_le (show 0 ≤ r by omega)
  have h1 : a * b ≤ 24 * 24 := Nat.mul_le_mul (by omega) (by omega)
  have h2 : 1 * 1 ≤ a * b := Nat.mul_le_mul (by omega) (by omega)
  have h3 : ((a * b : Nat) : Int) = (a : Int) * b := by simp
  omega

theorem size {w : World} {s r : Int} (hs : 1 ≤ s ∧ s ≤ 24) (hr : 1 ≤ r ∧ r ≤ 24) :
    Calls Try.prog 129 #[shapeV s r] w fun e w' => e = .returned (.int .i64 (s * r)) ∧ Below w.heap.size w w' := by
  obtain ⟨b1, b2⟩ := prod_bd hs hr
  have hw : IntKind.i64.wrap (s * r) = s * r := by rw [IntKind.wrap_i64]; omega
  clear hs hr
  go_enter Try.func129, Try.ntmps129
  go_wp2_with fail
  go_ret
  exact ⟨rfl, below1 _ _⟩

/-- What ValidField answers. -/
def fieldB (s r : Int) (zs : List Int) : Bool := sidesB s r && (decide ((zs.length : Int) = s * r) && allB zs 10)

end Go.Proofs.Ytejchjjkehmgaaa.FVal
