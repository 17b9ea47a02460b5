/- Fields: extents, and what impl.ValidField answers. -/
import Derived.Test.YtlecpilgimiaaaaFld
import Derived.Test.YtlecpilgimiaaaaRing
import Derived.Test.YtlecpilgimiaaaaSmall
namespace Go.Proofs.Ytlecpilgimiaaaa.FVal
open Go.RowKit Go.Proofs.Ytlecpilgimiaaaa.Rd Go.Proofs.Ytlecpilgimiaaaa.Help Go.Proofs.Ytlecpilgimiaaaa.Ring Go.Proofs.Ytlecpilgimiaaaa.Small Go.Proofs.Ytlecpilgimiaaaa.Keep Go.Proofs.Ytlecpilgimiaaaa.Rule
set_option linter.unusedVariables false
set_option linter.unusedSimpArgs false

theorem isFromB {w : World} {n lo hi : Int} :
    Calls Try.prog 22 #[.int .i64 n, .int .i64 lo, .int .i64 hi] w fun e w' => e = .returned (.bool (decide (lo ≤ n ∧ n ≤ hi))) ∧ w = w' := by
  by_cases h1 : lo ≤ n
  · have h3 : decide (lo ≤ n) = true := by simp [h1]
    by_cases h2 : n ≤ hi
    · rw [decide_eq_true (show lo ≤ n ∧ n ≤ hi from ⟨h1, h2⟩)]
      have h4 : decide (n ≤ hi) = true := by simp [h2]
      go_enter Try.func22, Try.ntmps22
      go_wp2
      go_ret
      exact ⟨rfl, rfl⟩
    · rw [decide_eq_false (show ¬ (lo ≤ n ∧ n ≤ hi) from fun h => h2 h.2)]
      have h4 : decide (n ≤ hi) = false := by simp; omega
      go_enter Try.func22, Try.ntmps22
      go_wp2
      go_ret
      exact ⟨rfl, rfl⟩
  · have h3 : decide (lo ≤ n) = false := by simp; omega
    rw [decide_eq_false (show ¬ (lo ≤ n ∧ n ≤ hi) from fun h => h1 h.1)]
    go_enter Try.func22, Try.ntmps22
    go_wp2
    go_ret
    exact ⟨rfl, rfl⟩

def sidesB (s r : Int) : Bool := decide (1 ≤ s ∧ s ≤ 24 ∧ 1 ≤ r ∧ r ≤ 24)

theorem isExtent {w : World} {s r : Int} :
    Calls Try.prog 13 #[shapeV s r] w fun e w' => e = .returned (.bool (sidesB s r)) ∧ Below w.heap.size w w' := by
  by_cases h1 : 1 ≤ s ∧ s ≤ 24
  · have H1 : Hid (decide (1 ≤ s ∧ s ≤ 24) = true) := decide_eq_true h1
    obtain ⟨q, hq⟩ : ∃ q, q = decide (1 ≤ r ∧ r ≤ 24) := ⟨_, rfl⟩
    have e : sidesB s r = q := by rw [hq]; simp only [sidesB]; apply decide_eq_decide.2; omega
    have HQ := hid hq
    rw [e]
    clear e h1 hq
    go_enter Try.func13, Try.ntmps13
    go_wp2_with fail
    go_at_call 22
    refine isFromB.mono ?_
    rw [H1.out]
    rintro e w' ⟨rfl, rfl⟩
    go_wp2_with fail
    go_at_call 22
    refine isFromB.mono ?_
    rw [← HQ.out]
    rintro e w' ⟨rfl, rfl⟩
    go_wp2_with fail
    go_ret
    exact ⟨rfl, below1 _ _⟩
  · have H1 : Hid (decide (1 ≤ s ∧ s ≤ 24) = false) := decide_eq_false h1
    have e : sidesB s r = false := by simp [sidesB]; omega
    rw [e]
    clear e h1
    go_enter Try.func13, Try.ntmps13
    go_wp2_with fail
    go_at_call 22
    refine isFromB.mono ?_
    rw [H1.out]
    rintro e w' ⟨rfl, rfl⟩
    go_wp2_with fail
    go_ret
    exact ⟨rfl, below1 _ _⟩

theorem prod_bd {s r : Int} (hs : 1 ≤ s ∧ s ≤ 24) (hr : 1 ≤ r ∧ r ≤ 24) : 1 ≤ s * r ∧ s * r ≤ 576 := by
  obtain ⟨a, rfl⟩ := Int.eq_ofNat_of_zero_le (show 0 ≤ s by omega)
  obtain ⟨b, rfl⟩ := Int.eq_ofNat_of_zero_le (show 0 ≤ r by omega)
  have h1 : a * b ≤ 24 * 24 := Nat.mul_le_mul (by omega) (by omega)
  have h2 : 1 * 1 ≤ a * b := Nat.mul_le_mul (by omega) (by omega)
  have h3 : ((a * b : Nat) : Int) = (a : Int) * b := by simp
  omega

theorem size {w : World} {s r : Int} (hs : 1 ≤ s ∧ s ≤ 24) (hr : 1 ≤ r ∧ r ≤ 24) :
    Calls Try.prog 24 #[shapeV s r] w fun e w' => e = .returned (.int .i64 (s * r)) ∧ Below w.heap.size w w' := by
  obtain ⟨b1, b2⟩ := prod_bd hs hr
  have hw : IntKind.i64.wrap (s * r) = s * r := by rw [IntKind.wrap_i64]; omega
  clear hs hr
  go_enter Try.func24, Try.ntmps24
  go_wp2_with fail
  go_ret
  exact ⟨rfl, below1 _ _⟩

/-- What ValidField answers. -/
def fieldB (s r : Int) (zs : List Int) : Bool := sidesB s r && (decide ((zs.length : Int) = s * r) && allB zs 10)

end Go.Proofs.Ytlecpilgimiaaaa.FVal
