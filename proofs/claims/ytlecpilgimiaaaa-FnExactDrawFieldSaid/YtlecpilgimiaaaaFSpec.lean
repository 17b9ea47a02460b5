/- Fields on the model's side: l04Is, l04Sides. -/
import Derived.Test.YtlecpilgimiaaaaFVal
namespace Go.Proofs.Ytlecpilgimiaaaa.FSpec
open Go.RowKit Go.Proofs.Ytlecpilgimiaaaa.Rd Go.Proofs.Ytlecpilgimiaaaa.Help Go.Proofs.Ytlecpilgimiaaaa.Ring Go.Proofs.Ytlecpilgimiaaaa.Small Go.Proofs.Ytlecpilgimiaaaa.FVal Go.Proofs.Ytlecpilgimiaaaa.Keep Go.Proofs.Ytlecpilgimiaaaa.Rule
set_option linter.unusedVariables false
set_option linter.unusedSimpArgs false

theorem quietIn {w : World} {n lo hi : Int} {q : Bool} (h : decide (lo ≤ n ∧ n ≤ hi) = q) :
    Calls Try.prog 11 #[.int .i64 n, .int .i64 lo, .int .i64 hi] w fun e w' => e = .returned (.bool q) ∧ w' = w := by
  rw [← h]; exact inB.mono fun _ _ ⟨he, hw⟩ => ⟨he, hw.symm⟩
theorem below_drewN' (B : Nat) (w : World) (n : Nat) : Below B w (w.drewN n) := ⟨rfl, rfl, rfl, Nat.le_refl _, fun _ _ => rfl⟩

theorem l04Sides {w : World} {s r : Int} :
    Calls Try.prog 9 #[.int .i64 s, .int .i64 r] w fun e w' => e = .returned (.bool (sidesB s r)) ∧ w = w' := by
  by_cases h1 : 1 ≤ s ∧ s ≤ 24
  · have H1 : Hid (decide (1 ≤ s ∧ s ≤ 24) = true) := decide_eq_true h1
    obtain ⟨q, hq⟩ : ∃ q, q = decide (1 ≤ r ∧ r ≤ 24) := ⟨_, rfl⟩
    have e : sidesB s r = q := by rw [hq]; simp only [sidesB]; apply decide_eq_decide.2; omega
    have HQ := hid hq
    rw [e]
    clear e h1 hq
    go_enter Try.func9, Try.ntmps9
    go_wp2_with fail
    go_at_call 11
    refine inB.mono ?_
    rw [H1.out]
    rintro e w' ⟨rfl, rfl⟩
    go_wp2_with fail
    go_at_call 11
    refine inB.mono ?_
    rw [← HQ.out]
    rintro e w' ⟨rfl, rfl⟩
    go_wp2_with fail
    go_ret
    exact ⟨rfl, rfl⟩
  · have H1 : Hid (decide (1 ≤ s ∧ s ≤ 24) = false) := decide_eq_false h1
    have e : sidesB s r = false := by simp [sidesB]; omega
    rw [e]
    clear e h1
    go_enter Try.func9, Try.ntmps9
    go_wp2_with fail
    go_at_call 11
    refine inB.mono ?_
    rw [H1.out]
    rintro e w' ⟨rfl, rfl⟩
    go_wp2_with fail
    go_ret
    exact ⟨rfl, rfl⟩

end Go.Proofs.Ytlecpilgimiaaaa.FSpec
