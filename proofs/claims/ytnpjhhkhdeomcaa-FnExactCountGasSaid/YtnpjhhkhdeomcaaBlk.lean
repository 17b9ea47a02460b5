/- Blocks of a gas: how many particles are in each; l06Ones. -/
import Derived.Test.YtnpjhhkhdeomcaaRev
import Derived.Test.YtnpjhhkhdeomcaaOnes
namespace Go.Proofs.Ytnpjhhkhdeomcaa.Blk
open Go.RowKit Go.Proofs.Ytnpjhhkhdeomcaa.Rd Go.Proofs.Ytnpjhhkhdeomcaa.Rdb Go.Proofs.Ytnpjhhkhdeomcaa.Help Go.Proofs.Ytnpjhhkhdeomcaa.Ring Go.Proofs.Ytnpjhhkhdeomcaa.Small Go.Proofs.Ytnpjhhkhdeomcaa.FVal Go.Proofs.Ytnpjhhkhdeomcaa.Keep Go.Proofs.Ytnpjhhkhdeomcaa.Rule Go.Proofs.Ytnpjhhkhdeomcaa.GVal Go.Proofs.Ytnpjhhkhdeomcaa.GOwn Go.Proofs.Ytnpjhhkhdeomcaa.Trn Go.Proofs.Ytnpjhhkhdeomcaa.Rev Go.Proofs.Ytnpjhhkhdeomcaa.Ones
set_option linter.unusedVariables false
set_option linter.unusedSimpArgs false

theorem pop_step {m : Nat} (h : m < 64) : popN m = m % 2 + popN (m / 2) := by
  unfold popN
  have e1 : m / 2 / 2 = m / 4 := by omega
  have e2 : m / 2 / 4 = m / 8 := by omega
  have e3 : m / 2 / 8 = m / 16 := by omega
  have e4 : m / 2 / 16 = m / 32 := by omega
  have e5 : m / 2 / 32 = 0 := by omega
  rw [e1, e2, e3, e4, e5]
  omega
theorem pop_le {m : Nat} : popN m ≤ 6 := by unfold popN; omega

set_option maxHeartbeats 1000000 in
theorem l06Ones {w : World} {c : Nat} (hc : c < 64) :
    Calls Try.prog 48 #[.int .i64 c] w fun e w' => e = .returned (.int .i64 (popN c)) ∧ w = w' := by
  have HC := hid hc
  go_enter Try.func48, Try.ntmps48
  go_wp2
  go_loop [0, 3] (fun x n => ∃ m a : Nat, m < 64 ∧ a ≤ 6 ∧ x = .int .i64 m ∧ n = .int .i64 a ∧ a + popN m = popN c) (fun x _ => (intOf x).toNat)
  case atStart => exact ⟨c, 0, hc, by omega, rfl, rfl, by omega⟩
  case round =>
    obtain ⟨m, a, hm, ha6, rfl, rfl, ha⟩ := hrel
    by_cases h0 : 0 < m
    · have hmi : (0 : Int) < (m : Int) := by omega
      have hs := pop_step hm
      have hp := pop_le (m := c)
      have HA := hid (show a + m % 2 ≤ 6 ∧ a + m % 2 + popN (m / 2) = popN c by omega)
      clear hs ha hp
      go_wp2
      go_round
      case rel => exact ⟨m / 2, a + m % 2, by omega, HA.out.1, by go_num, by go_num, HA.out.2⟩
      case measure => simp [intOf]; omega
    · have hm0 : m = 0 := by omega
      subst hm0
      have HA : Hid (a = popN c) := by simpa [Hid, popN] using ha
      clear ha
      go_wp2
      go_ret
      refine ⟨?_, rfl⟩
      rw [HA.out]
      rfl

/-- How many particles there are in the blocks of the first t cells: the block of the cell t is f t. -/
def blk (xs : List Int) (f : Nat → Nat) (M : Nat) : Nat → List Int
  | 0 => List.replicate M 0
  | t + 1 => (blk xs f M t).set (f t) ((blk xs f M t).getD (f t) 0 + (popN (xs.getD t 0).toNat : Int))
theorem blk_len (xs : List Int) (f : Nat → Nat) (M : Nat) : ∀ t, (blk xs f M t).length = M
  | 0 => by simp [blk]
  | t + 1 => by simp [blk, blk_len xs f M t]
theorem blk_bd (xs : List Int) (f : Nat → Nat) (M : Nat) : ∀ t i, 0 ≤ (blk xs f M t).getD i 0 ∧ (blk xs f M t).getD i 0 ≤ 6 * t
  | 0, i => by
    have h : (blk xs f M 0).getD i 0 = 0 := by
      unfold blk
      by_cases hi : i < M
      · simp [List.getD, hi]
      · simp [List.getD, hi]
    omega
  | t + 1, i => by
    have h1 := blk_bd xs f M t i
    have h2 := blk_bd xs f M t (f t)
    have h3 := pop_le (m := (xs.getD t 0).toNat)
    unfold blk
    simp only [List.getD, List.getElem?_set]
    simp only [List.getD] at h1 h2 h3
    split
    · split
      · simp only [Option.getD_some]; omega
      · simp; omega
    · omega
theorem sum_set : ∀ (l : List Int) (i : Nat) (x : Int), i < l.length → (l.set i x).sum = l.sum + x - l.getD i 0
  | [], i, x, h => by simp at h
  | a :: l, 0, x, h => by simp [List.getD]; omega
  | a :: l, i + 1, x, h => by
    have := sum_set l i x (by simpa using h)
    simp only [List.set_cons_succ, List.sum_cons, this, List.getD, List.getElem?_cons_succ] at *
    omega
/-- How many particles the first t cells have. -/
def popS (xs : List Int) : Nat → Int
  | 0 => 0
  | t + 1 => popS xs t + (popN (xs.getD t 0).toNat : Int)
theorem popS_bd (xs : List Int) : ∀ t, 0 ≤ popS xs t ∧ popS xs t ≤ 6 * t
  | 0 => by simp [popS]
  | t + 1 => by
    have h1 := popS_bd xs t
    have h2 := pop_le (m := (xs.getD t 0).toNat)
    simp only [popS]; omega
theorem blk_sum (xs : List Int) (f : Nat → Nat) (M : Nat) : ∀ t, (∀ i, i < t → f i < M) → (blk xs f M t).sum = popS xs t
  | 0, _ => by simp [blk, popS]
  | t + 1, h => by
    have h1 := blk_sum xs f M t (fun i hi => h i (by omega))
    have h2 := h t (by omega)
    simp only [blk, popS]
    rw [sum_set _ _ _ (by rw [blk_len]; exact h2), h1]
    omega

end Go.Proofs.Ytnpjhhkhdeomcaa.Blk
