/- Powers of the numbers of states, up to 16: both sides. -/
import Derived.Test.YtjeoccjemkdbiaaDigP
namespace Go.Proofs.Ytjeoccjemkdbiaa.PwN
open Go.RowKit Go.Proofs.Ytjeoccjemkdbiaa.Rd Go.Proofs.Ytjeoccjemkdbiaa.Help Go.Proofs.Ytjeoccjemkdbiaa.Ring Go.Proofs.Ytjeoccjemkdbiaa.Small Go.Proofs.Ytjeoccjemkdbiaa.Num Go.Proofs.Ytjeoccjemkdbiaa.Dig Go.Proofs.Ytjeoccjemkdbiaa.DigP
set_option linter.unusedVariables false
set_option linter.unusedSimpArgs false

theorem pow_in {s : Int} (hs : 2 ≤ s ∧ s ≤ 3) (k : Nat) (hk : k ≤ 16) : 1 ≤ s ^ k ∧ s ^ k ≤ 43046721 := by
  have := pow_pos' hs k
  exact ⟨by omega, pow_16 hs hk⟩
set_option maxHeartbeats 400000 in
theorem powN {w : World} {st : Int} {k : Nat} (hst : 2 ≤ st ∧ st ≤ 3) (hk : k ≤ 16) :
    Calls Try.prog 61 #[.int .i64 st, .int .i64 k] w fun e w' => e = .returned (.int .i64 (st ^ k)) ∧ w = w' := by
  have HB : Hid (∀ j, j ≤ 16 → 1 ≤ st ^ j ∧ st ^ j ≤ 43046721) := fun j hj => pow_in hst j hj
  go_enter Try.func61, Try.ntmps61
  go_wp2
  go_loop [5, 7] (fun p t => ∃ j : Nat, j ≤ k ∧ t = .int .i64 (j : Int) ∧ p = .int .i64 (st ^ j)) (fun _ t => k - (intOf t).toNat)
  case atStart => exact ⟨0, Nat.zero_le _, by simp, by simp⟩
  case round =>
    obtain ⟨j, hj, rfl, rfl⟩ := hrel
    by_cases hlt : j < k
    · have b2 := HB.out (j + 1) (by omega)
      obtain ⟨P, hP⟩ : ∃ P, P = st ^ j := ⟨_, rfl⟩
      obtain ⟨P2, hP2⟩ : ∃ P2, P2 = st ^ (j + 1) := ⟨_, rfl⟩
      have he : P * st = P2 := by rw [hP, hP2, Int.pow_succ]
      rw [← hP2] at b2
      obtain ⟨b3, b4⟩ := b2
      rw [← hP]
      have H2 : Hid (P2 = st ^ (j + 1)) := hP2
      clear hP hP2
      go_wp2
      go_round
      case rel => exact ⟨j + 1, by omega, by go_num, by rw [H2.out]⟩
      case measure => simp [intOf]; omega
    · have hkn : k = j := by omega
      subst hkn
      obtain ⟨P, hP⟩ : ∃ P, P = st ^ k := ⟨_, rfl⟩
      have HPk : Hid (P = st ^ k) := hP
      rw [← hP]
      clear hP
      go_wp2
      go_ret
      exact ⟨by rw [← HPk.out]; rfl, rfl⟩
set_option maxHeartbeats 400000 in
theorem powS {w : World} {st : Int} {k : Nat} (hst : 2 ≤ st ∧ st ≤ 3) (hk : k ≤ 16) :
    Calls Try.prog 26 #[.int .i64 st, .int .i64 k] w fun e w' => e = .returned (.int .i64 (st ^ k)) ∧ w = w' := by
  have HB : Hid (∀ j, j ≤ 16 → 1 ≤ st ^ j ∧ st ^ j ≤ 43046721) := fun j hj => pow_in hst j hj
  go_enter Try.func26, Try.ntmps26
  go_wp2
  go_loop [1, 5] (fun t p => ∃ j : Nat, j ≤ k ∧ t = .int .i64 ((k : Int) - j) ∧ p = .int .i64 (st ^ j)) (fun t _ => (intOf t).toNat)
  case atStart => exact ⟨0, Nat.zero_le _, by simp, by simp⟩
  case round =>
    obtain ⟨j, hj, rfl, rfl⟩ := hrel
    by_cases hlt : j < k
    · have b2 := HB.out (j + 1) (by omega)
      obtain ⟨P, hP⟩ : ∃ P, P = st ^ j := ⟨_, rfl⟩
      obtain ⟨P2, hP2⟩ : ∃ P2, P2 = st ^ (j + 1) := ⟨_, rfl⟩
      have he : P * st = P2 := by rw [hP, hP2, Int.pow_succ]
      rw [← hP2] at b2
      obtain ⟨b3, b4⟩ := b2
      rw [← hP]
      have H2 : Hid (P2 = st ^ (j + 1)) := hP2
      have hki : (0 : Int) < (k : Int) - j := by omega
      clear hP hP2
      go_wp2
      go_round
      case rel => exact ⟨j + 1, by omega, by go_num, by rw [H2.out]⟩
      case measure => simp [intOf]; omega
    · have hkn : k = j := by omega
      subst hkn
      obtain ⟨P, hP⟩ : ∃ P, P = st ^ k := ⟨_, rfl⟩
      have HPk : Hid (P = st ^ k) := hP
      rw [← hP]
      clear hP
      go_wp2
      go_ret
      exact ⟨by rw [← HPk.out]; rfl, rfl⟩

end Go.Proofs.Ytjeoccjemkdbiaa.PwN
