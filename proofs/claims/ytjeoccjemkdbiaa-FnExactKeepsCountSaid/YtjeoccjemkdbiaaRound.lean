/- impl.onRound: the remainder of a number that can be less than 0. -/
import Derived.Test.YtjeoccjemkdbiaaSmall
namespace Go.Proofs.Ytjeoccjemkdbiaa.Round
open Go.RowKit Go.Proofs.Ytjeoccjemkdbiaa.Rd Go.Proofs.Ytjeoccjemkdbiaa.Help Go.Proofs.Ytjeoccjemkdbiaa.Small
set_option linter.unusedVariables false

theorem start_round (f : Int) (n : Nat) (hn : 0 < n) : (f.tmod n + n) % (n : Int) = f % n := by
  rw [Int.tmod_eq_emod]
  split
  · simp
  · simp only [Int.natAbs_natCast, Int.sub_add_cancel, Int.emod_emod_of_dvd _ (Int.dvd_refl _)]

theorem onRound {w : World} {f : Int} {n : Nat} (hf : -1000000 ≤ f ∧ f ≤ 1000000) (hn : 1 ≤ n ∧ n ≤ 1000000) :
    Calls Try.prog 79 #[.int .i64 f, .int .i64 n] w fun e w' => e = .returned (.int .i64 (f % n)) ∧ w = w' := by
  obtain ⟨f1, f2⟩ := hf
  obtain ⟨n1, n2⟩ := hn
  have hst0 : (wrap64 ((f.tmod n) + n)).tmod n = f % n := by
    have g1 := Int.tmod_lt_of_pos f (show (0 : Int) < n by omega)
    have g2 : -(n : Int) < f.tmod n := Int.lt_tmod_of_pos f (by omega)
    rw [wrap_id (by omega) (by omega), Int.tmod_eq_emod_of_nonneg (by omega)]
    exact start_round f n (by omega)
  go_enter Try.func79, Try.ntmps79
  go_wp2
  go_ret
  exact ⟨rfl, rfl⟩
theorem onRoundI {w : World} {f m : Int} (hf : -1000000 ≤ f ∧ f ≤ 1000000) (hn : 1 ≤ m ∧ m ≤ 1000000) :
    Calls Try.prog 79 #[.int .i64 f, .int .i64 m] w fun e w' => e = .returned (.int .i64 (f % m)) ∧ w = w' := by
  obtain ⟨n, rfl⟩ := Int.eq_ofNat_of_zero_le (show 0 ≤ m by omega)
  exact onRound hf (by omega)

end Go.Proofs.Ytjeoccjemkdbiaa.Round
