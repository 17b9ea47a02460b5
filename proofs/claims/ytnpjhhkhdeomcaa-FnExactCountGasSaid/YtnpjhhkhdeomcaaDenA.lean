/- DenseBlocks: both sides agree. -/
import Derived.Test.YtnpjhhkhdeomcaaGOwn
import Derived.Test.YtnpjhhkhdeomcaaIsV
import Derived.Test.YtnpjhhkhdeomcaaTrn
import Derived.Test.YtnpjhhkhdeomcaaGrow
import Derived.Test.YtnpjhhkhdeomcaaBlk
import Derived.Test.YtnpjhhkhdeomcaaDenI
namespace Go.Proofs.Ytnpjhhkhdeomcaa.Den
open Go.RowKit Go.Proofs.Ytnpjhhkhdeomcaa.Rd Go.Proofs.Ytnpjhhkhdeomcaa.Rdb Go.Proofs.Ytnpjhhkhdeomcaa.Help Go.Proofs.Ytnpjhhkhdeomcaa.Ring Go.Proofs.Ytnpjhhkhdeomcaa.Small Go.Proofs.Ytnpjhhkhdeomcaa.FVal Go.Proofs.Ytnpjhhkhdeomcaa.Keep Go.Proofs.Ytnpjhhkhdeomcaa.Rule Go.Proofs.Ytnpjhhkhdeomcaa.GVal Go.Proofs.Ytnpjhhkhdeomcaa.GOwn Go.Proofs.Ytnpjhhkhdeomcaa.Trn Go.Proofs.Ytnpjhhkhdeomcaa.Rev Go.Proofs.Ytnpjhhkhdeomcaa.Blk Go.Proofs.Ytnpjhhkhdeomcaa.Ones
set_option linter.unusedVariables false
set_option linter.unusedSimpArgs false

theorem tm_nat (a b : Nat) : (((a : Int).tmod (b : Int)) != 0) = decide (a % b ≠ 0) := by
  have h : (a : Int).tmod (b : Int) = ((a % b : Nat) : Int) := by rw [Int.tmod_eq_emod_of_nonneg (by omega)]; simp
  rw [h]
  by_cases h0 : a % b = 0
  · rw [h0]; rfl
  · have : ((a % b : Nat) : Int) ≠ 0 := by omega
    simp only [bne_iff_ne, ne_eq, decide_not, this, not_false_eq_true, h0, decide_false, Bool.not_false]
    simp
    omega
theorem agree (g s r : Int) (xs : List Int) (ys : List Bool) (A B : Int) : ∃ (rs : List Int) (ok : Bool), rs.length ≤ 1000000 ∧ (∀ (w : World) (b1 : Nat) (v1 : Value) (b2 : Nat) (v2 : Value), Rd w b1 v1 xs → RdB w b2 v2 ys → Calls Try.prog 29 #[gasV g s r v1 v2, .int .i64 A, .int .i64 B] w fun e w' => ∃ ao c b, e = .returned (.tuple #[.slice ao rs.length c, .bool ok]) ∧ Own 2 w' b (.slice ao rs.length c) rs ∧ w.heap.size ≤ b ∧ Below w.heap.size w w') ∧ (∀ (w : World) (b1 : Nat) (v1 : Value) (b2 : Nat) (v2 : Value), Rd w b1 v1 xs → RdB w b2 v2 ys → Calls Try.prog 30 #[gasV g s r v1 v2, .int .i64 A, .int .i64 B] w fun e w' => ∃ ao c b, e = .returned (.tuple #[.slice ao rs.length c, .bool ok]) ∧ Own 2 w' b (.slice ao rs.length c) rs ∧ w.heap.size ≤ b ∧ Below w.heap.size w w') := by
  have no_ : (∀ (w : World) (b1 : Nat) (v1 : Value) (b2 : Nat) (v2 : Value), Rd w b1 v1 xs → RdB w b2 v2 ys → Calls Try.prog 29 #[gasV g s r v1 v2, .int .i64 A, .int .i64 B] w fun e w' => e = .returned (.tuple #[.slice none 0 0, .bool false]) ∧ Below w.heap.size w w') → (∀ (w : World) (b1 : Nat) (v1 : Value) (b2 : Nat) (v2 : Value), Rd w b1 v1 xs → RdB w b2 v2 ys → Calls Try.prog 30 #[gasV g s r v1 v2, .int .i64 A, .int .i64 B] w fun e w' => e = .returned (.tuple #[.slice none 0 0, .bool false]) ∧ Below w.heap.size w w') → ∃ (rs : List Int) (ok : Bool), rs.length ≤ 1000000 ∧ (∀ (w : World) (b1 : Nat) (v1 : Value) (b2 : Nat) (v2 : Value), Rd w b1 v1 xs → RdB w b2 v2 ys → Calls Try.prog 29 #[gasV g s r v1 v2, .int .i64 A, .int .i64 B] w fun e w' => ∃ ao c b, e = .returned (.tuple #[.slice ao rs.length c, .bool ok]) ∧ Own 2 w' b (.slice ao rs.length c) rs ∧ w.heap.size ≤ b ∧ Below w.heap.size w w') ∧ (∀ (w : World) (b1 : Nat) (v1 : Value) (b2 : Nat) (v2 : Value), Rd w b1 v1 xs → RdB w b2 v2 ys → Calls Try.prog 30 #[gasV g s r v1 v2, .int .i64 A, .int .i64 B] w fun e w' => ∃ ao c b, e = .returned (.tuple #[.slice ao rs.length c, .bool ok]) ∧ Own 2 w' b (.slice ao rs.length c) rs ∧ w.heap.size ≤ b ∧ Below w.heap.size w w') := by
    intro k1 k2
    refine ⟨[], false, by simp, fun w b1 v1 b2 v2 h1 h2 => (k1 w b1 v1 b2 v2 h1 h2).mono ?_, fun w b1 v1 b2 v2 h1 h2 => (k2 w b1 v1 b2 v2 h1 h2).mono ?_⟩
    all_goals
      rintro e w' ⟨rfl, bel⟩
      exact ⟨none, 0, w.heap.size, rfl, Own.nil _ _ _, Nat.le_refl _, bel⟩
  cases hq : gasB g s r xs ys with
  | false => exact no_ (fun w b1 v1 b2 v2 h1 h2 => sNo1 h1 h2 hq) (fun w b1 v1 b2 v2 h1 h2 => iNo1 h1 h2 hq)
  | true =>
    have hsr : (1 ≤ s ∧ s ≤ 16) ∧ (1 ≤ r ∧ r ≤ 16) := by
      have h := hq
      simp only [gasB, Bool.and_eq_true, decide_eq_true_eq] at h
      obtain ⟨_, h2, _⟩ := h
      simp [sd16] at h2
      omega
    cases hsd : sd16 A B with
    | false =>
      have hab : ¬ (1 ≤ A ∧ A ≤ 16 ∧ 1 ≤ B ∧ B ≤ 16) := by
        intro h
        simp [sd16] at hsd
        omega
      by_cases h1f : 1 ≤ A ∧ A ≤ s
      · exact no_ (fun w b1 v1 b2 v2 h1 h2 => sNo2 h1 h2 hq hsd) (fun w b1 v1 b2 v2 h1 h2 => iNo3 h1 h2 hq (decide_eq_true h1f) (decide_eq_false (by omega)))
      · exact no_ (fun w b1 v1 b2 v2 h1 h2 => sNo2 h1 h2 hq hsd) (fun w b1 v1 b2 v2 h1 h2 => iNo2 h1 h2 hq (decide_eq_false h1f))
    | true =>
      have hab : (1 ≤ A ∧ A ≤ 16) ∧ (1 ≤ B ∧ B ≤ 16) := by simp [sd16] at hsd; omega
      obtain ⟨R, rfl⟩ := Int.eq_ofNat_of_zero_le (show 0 ≤ s by omega)
      obtain ⟨C, rfl⟩ := Int.eq_ofNat_of_zero_le (show 0 ≤ r by omega)
      obtain ⟨a, rfl⟩ := Int.eq_ofNat_of_zero_le (show 0 ≤ A by omega)
      obtain ⟨b, rfl⟩ := Int.eq_ofNat_of_zero_le (show 0 ≤ B by omega)
      by_cases hr : R % a = 0
      · have hr2 : (((R : Int).tmod (a : Int)) != 0) = false := by rw [tm_nat]; simp [hr]
        have hle : a ≤ R := Nat.le_of_dvd (by omega) (Nat.dvd_of_mod_eq_zero hr)
        by_cases hc : C % b = 0
        · have hle2 : b ≤ C := Nat.le_of_dvd (by omega) (Nat.dvd_of_mod_eq_zero hc)
          have hlen : (blk xs (fB C a b) (R / a * (C / b)) (R * C)).length = R / a * (C / b) := blk_len _ _ _ _
          have hM := mul_le16 (div_le16 (b := a) (show R ≤ 16 by omega)) (div_le16 (b := b) (show C ≤ 16 by omega))
          refine ⟨blk xs (fB C a b) (R / a * (C / b)) (R * C), true, by rw [hlen]; exact Nat.le_trans hM (by decide), fun w b1 v1 b2 v2 h1 h2 => (sOk h1 h2 hq (by omega) (by omega) hr hc).mono ?_, fun w b1 v1 b2 v2 h1 h2 => (iOk h1 h2 hq (by omega) (by omega) hr hc).mono ?_⟩
          all_goals
            rintro e w' ⟨p, rfl, o1, lo, bel⟩
            exact ⟨some ⟨p, 0, none⟩, _, p, by rw [hlen], by rw [hlen]; exact o1, lo, bel⟩
        · have hc2 : (((C : Int).tmod (b : Int)) != 0) = true := by rw [tm_nat]; simp [hc]
          by_cases h2f : 1 ≤ (b : Int) ∧ (b : Int) ≤ (C : Int)
          · exact no_ (fun w b1 v1 b2 v2 h1 h2 => sNo4 h1 h2 hq hsd hr2 hc2) (fun w b1 v1 b2 v2 h1 h2 => iNo5 h1 h2 hq (decide_eq_true (by omega)) (decide_eq_true h2f) hr2 hc2)
          · exact no_ (fun w b1 v1 b2 v2 h1 h2 => sNo4 h1 h2 hq hsd hr2 hc2) (fun w b1 v1 b2 v2 h1 h2 => iNo3 h1 h2 hq (decide_eq_true (by omega)) (decide_eq_false h2f))
      · have hr2 : (((R : Int).tmod (a : Int)) != 0) = true := by rw [tm_nat]; simp [hr]
        by_cases h1f : 1 ≤ (a : Int) ∧ (a : Int) ≤ (R : Int)
        · by_cases h2f : 1 ≤ (b : Int) ∧ (b : Int) ≤ (C : Int)
          · exact no_ (fun w b1 v1 b2 v2 h1 h2 => sNo3 h1 h2 hq hsd hr2) (fun w b1 v1 b2 v2 h1 h2 => iNo4 h1 h2 hq (decide_eq_true h1f) (decide_eq_true h2f) hr2)
          · exact no_ (fun w b1 v1 b2 v2 h1 h2 => sNo3 h1 h2 hq hsd hr2) (fun w b1 v1 b2 v2 h1 h2 => iNo3 h1 h2 hq (decide_eq_true h1f) (decide_eq_false h2f))
        · exact no_ (fun w b1 v1 b2 v2 h1 h2 => sNo3 h1 h2 hq hsd hr2) (fun w b1 v1 b2 v2 h1 h2 => iNo2 h1 h2 hq (decide_eq_false h1f))

end Go.Proofs.Ytnpjhhkhdeomcaa.Den
