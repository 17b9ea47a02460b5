/- spec.l03Terms: what a rule tells where a cell alone is 1, and whether it is the rule of these sums. -/
import Derived.Test.YtjeoccjemkdbiaaSum
import Derived.Test.YtjeoccjemkdbiaaAl
import Derived.Test.YtjeoccjemkdbiaaSame2
import Derived.Test.YtjeoccjemkdbiaaApp
import Derived.Test.YtjeoccjemkdbiaaIsSum
import Derived.Test.YtjeoccjemkdbiaaSpec
import Derived.StillTailTactics
import Derived.BigQuiet
namespace Go.Proofs.Ytjeoccjemkdbiaa.Terms
open Go.RowKit Go.Proofs.Ytjeoccjemkdbiaa.Rd Go.Proofs.Ytjeoccjemkdbiaa.Help Go.Proofs.Ytjeoccjemkdbiaa.App Go.Proofs.Ytjeoccjemkdbiaa.Ring Go.Proofs.Ytjeoccjemkdbiaa.Small Go.Proofs.Ytjeoccjemkdbiaa.Num Go.Proofs.Ytjeoccjemkdbiaa.Keep Go.Proofs.Ytjeoccjemkdbiaa.Rule Go.Proofs.Ytjeoccjemkdbiaa.Dig Go.Proofs.Ytjeoccjemkdbiaa.DigP Go.Proofs.Ytjeoccjemkdbiaa.Tell Go.Proofs.Ytjeoccjemkdbiaa.Sum Go.Proofs.Ytjeoccjemkdbiaa.Al Go.Proofs.Ytjeoccjemkdbiaa.IsSum
set_option linter.unusedVariables false
set_option linter.unusedSimpArgs false

theorem dotK_comm (a b : List Int) : ∀ k, dotK a b k = dotK b a k := by
  intro k
  induction k with
  | zero => rfl
  | succ k ih => simp only [dotK, ih, Int.mul_comm]

set_option maxHeartbeats 400000 in
theorem power3 {w : World} {st : Int} {k : Nat} (hst : 2 ≤ st ∧ st ≤ 3) (hk : k ≤ 5) :
    Calls Try.prog 26 #[.int .i64 st, .int .i64 k] w fun e w' => e = .returned (.int .i64 (st ^ k)) ∧ w = w' := by
  have HB : Hid (∀ j, j ≤ 5 → 1 ≤ st ^ j ∧ st ^ j ≤ 243) := fun j hj => pow_bd hst hj
  go_enter Try.func26, Try.ntmps26
  go_wp2
  go_loop [1, 5] (fun t p => ∃ j : Nat, j ≤ k ∧ t = .int .i64 ((k : Int) - j) ∧ p = .int .i64 (st ^ j)) (fun t _ => (intOf t).toNat)
  case atStart => exact ⟨0, Nat.zero_le _, by simp, by simp⟩
  case round =>
    obtain ⟨j, hj, rfl, rfl⟩ := hrel
    by_cases hlt : j < k
    · have b2 := HB.out (j + 1) (by omega)
      obtain ⟨P, hP⟩ : ∃ P, P = st ^ j := ⟨_, rfl⟩
      obtain ⟨P2, hP2⟩ : ∃ P2, P2 = st ^ (j + 1) := ⟨_, rfl⟩
      have he : P * st = P2 := by rw [hP, hP2, Int.pow_succ]
      rw [← hP2] at b2
      obtain ⟨b3, b4⟩ := b2
      rw [← hP]
      have H2 : Hid (P2 = st ^ (j + 1)) := hP2
      have hki : (0 : Int) < (k : Int) - j := by omega
      clear hP hP2
      go_wp2
      go_round
      case rel => exact ⟨j + 1, by omega, by go_num, by rw [H2.out]⟩
      case measure => simp [intOf]; omega
    · have hkn : k = j := by omega
      subst hkn
      obtain ⟨P, hP⟩ : ∃ P, P = st ^ k := ⟨_, rfl⟩
      have HPk : Hid (P = st ^ k) := hP
      rw [← hP]
      clear hP
      go_wp2
      go_ret
      exact ⟨by rw [← HPk.out]; rfl, rfl⟩

theorem wide3 {w : World} {g : Nat} {r : Int} (c1 : w.cell? ⟨g, 1, none⟩ = some (.int .i64 r)) (hr : 0 ≤ r ∧ r ≤ 2) :
    Calls Try.prog 55 #[.pointer (some ⟨g, 0, none⟩)] w fun e w' => e = .returned (.int .i64 (2 * r + 1)) ∧ w = w' := by
  obtain ⟨r1, r2⟩ := hr
  go_enter Try.func55, Try.ntmps55
  go_wp2
  go_ret
  exact ⟨rfl, rfl⟩

theorem isSum_iff {s r : Int} {tbl : List Int} {L : Nat} (hL : L = (2 * r + 1).toNat) : isSumB s r tbl = true ↔ ∀ i, i < tbl.length → tbl.getD i 0 = dotK (dig s i L) (alo tbl s L) L % s := by
  subst hL
  unfold isSumB Same.sameB
  simp only [sumT]
  constructor
  · intro h i hi
    simp only [Bool.and_eq_true, decide_eq_true_eq, Same.eqLB] at h
    obtain ⟨_, _, h⟩ := h
    have : tbl.getD i 0 = (tab (fun k => dotK (alo tbl s (2 * r + 1).toNat) (dig s (k : Int) (2 * r + 1).toNat) (2 * r + 1).toNat % s) tbl.length).getD i 0 := by rw [← h]
    rw [this, tab_get _ _ _ hi, dotK_comm]
  · intro h
    simp only [Bool.and_eq_true, decide_eq_true_eq, true_and]
    apply Same.eq_all (by rw [tab_length])
    intro i hi
    rw [tab_get _ _ _ hi, h i hi, dotK_comm]

end Go.Proofs.Ytjeoccjemkdbiaa.Terms
