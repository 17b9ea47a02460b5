/- What a rule tells where a cell alone is 1: toldAlone. -/
import Derived.Test.YtjeoccjemkdbiaaTell
import Derived.BigQuiet
namespace Go.Proofs.Ytjeoccjemkdbiaa.Al
open Go.RowKit Go.Proofs.Ytjeoccjemkdbiaa.Rd Go.Proofs.Ytjeoccjemkdbiaa.Help Go.Proofs.Ytjeoccjemkdbiaa.Ring Go.Proofs.Ytjeoccjemkdbiaa.Small Go.Proofs.Ytjeoccjemkdbiaa.Num Go.Proofs.Ytjeoccjemkdbiaa.Keep Go.Proofs.Ytjeoccjemkdbiaa.Rule Go.Proofs.Ytjeoccjemkdbiaa.Dig Go.Proofs.Ytjeoccjemkdbiaa.DigP Go.Proofs.Ytjeoccjemkdbiaa.Tell
set_option linter.unusedVariables false
set_option linter.unusedSimpArgs false

theorem valid_parts {s r : Int} {zs : List Int} (h : validB s r zs = true) : (2 ≤ s ∧ s ≤ 3) ∧ (0 ≤ r ∧ r ≤ 2) ∧ (zs.length : Int) = s ^ (2 * r + 1).toNat ∧ allB zs s = true := by
  simp only [validB, shapeB, Bool.and_eq_true, decide_eq_true_eq] at h
  exact ⟨⟨h.1.1, h.1.2.1⟩, ⟨h.1.2.2.1, h.1.2.2.2⟩, h.2.1, h.2.2⟩

/-- What is told where one of the last k cells is 1, and all others are 0. -/
def alo (tbl : List Int) (s : Int) : Nat → List Int
  | 0 => []
  | k + 1 => tbl.getD (s ^ k).toNat 0 :: alo tbl s k
theorem alo_length (tbl : List Int) (s : Int) (k : Nat) : (alo tbl s k).length = k := by
  induction k with
  | zero => rfl
  | succ k ih => simp [alo, ih]
theorem alo_get (tbl : List Int) (s : Int) : ∀ (L i : Nat), i < L → (alo tbl s L).getD i 0 = tbl.getD (s ^ (L - 1 - i)).toNat 0 := by
  intro L
  induction L with
  | zero => intro i hi; omega
  | succ L ih =>
    intro i hi
    cases i with
    | zero => simp [alo, List.getD]
    | succ i =>
      have := ih i (by omega)
      have e : L + 1 - 1 - (i + 1) = L - 1 - i := by omega
      rw [e, ← this]
      simp [alo, List.getD]
theorem set_alo (tbl : List Int) (s : Int) (L k : Nat) (h : k < L) :
    (List.replicate (L - k) 0 ++ alo tbl s k).set (L - 1 - k) (tbl.getD (s ^ k).toNat 0) = List.replicate (L - (k + 1)) 0 ++ alo tbl s (k + 1) := by
  obtain ⟨m, hm⟩ : ∃ m, L - k = m + 1 := ⟨L - k - 1, by omega⟩
  have e1 : L - 1 - k = m := by omega
  have e2 : L - (k + 1) = m := by omega
  rw [hm, e1, e2, List.replicate_succ', List.append_assoc]
  simp [alo]
theorem alo_all {tbl : List Int} {s : Int} (hs : 2 ≤ s ∧ s ≤ 3) (ha : allB tbl s = true) {L : Nat} (hl : (tbl.length : Int) = s ^ L) : ∀ k, k ≤ L → allB (alo tbl s k) s = true := by
  intro k
  induction k with
  | zero => intro _; rfl
  | succ k ih =>
    intro hk
    have h1 := ih (by omega)
    have p1 := pow_pos' hs k
    have p2 := pow_le' hs hk
    have p3 : s ^ k < s ^ (k + 1) := by
      rw [Int.pow_succ]
      rcases (show s = 2 ∨ s = 3 by omega) with rfl | rfl <;> omega
    have h2 := all_get ha (i := (s ^ k).toNat) (by omega)
    unfold allB at h1 ⊢
    simp only [alo, List.all_cons, h1, Bool.and_true, okB, decide_eq_true_eq]
    exact h2

end Go.Proofs.Ytjeoccjemkdbiaa.Al
