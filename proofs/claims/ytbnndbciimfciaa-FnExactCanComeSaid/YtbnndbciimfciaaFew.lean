/- Powers of 2 and of 3: few. -/
import Derived.Test.YtbnndbciimfciaaCwP
namespace Go.Proofs.Ytbnndbciimfciaa.Few
open Go.Proofs.Ytbnndbciimfciaa.CwP
set_option linter.unusedVariables false
/-- Few cells. -/
def Few (s : Int) (A : Nat) : Prop := (s = 2 ∧ A ≤ 14) ∨ (s = 3 ∧ A ≤ 9)
theorem few16 {s : Int} {A : Nat} (h : Few s A) : A ≤ 16 := by rcases h with h | h <;> omega
theorem few_le {s : Int} {A B : Nat} (h : Few s A) (hB : B ≤ A) : Few s B := by
  rcases h with h | h
  · exact .inl ⟨h.1, by omega⟩
  · exact .inr ⟨h.1, by omega⟩
theorem e2 (A : Nat) : pw 2 A = 2 ^ A := by
  unfold pw
  have : ((2 : Int)) ^ A = ((2 ^ A : Nat) : Int) := by simp
  rw [this]; exact Int.toNat_natCast _
theorem e3 (A : Nat) : pw 3 A = 3 ^ A := by
  unfold pw
  have : ((3 : Int)) ^ A = ((3 ^ A : Nat) : Int) := by simp
  rw [this]; exact Int.toNat_natCast _
theorem few_pw {s : Int} {A : Nat} (h : Few s A) : pw s A = 1 ∨ pw s A = 2 ∨ pw s A = 4 ∨ pw s A = 8 ∨ pw s A = 16 ∨ pw s A = 32 ∨ pw s A = 64 ∨ pw s A = 128 ∨ pw s A = 256 ∨ pw s A = 512 ∨ pw s A = 1024 ∨ pw s A = 2048 ∨ pw s A = 4096 ∨ pw s A = 8192 ∨ pw s A = 16384 ∨ pw s A = 3 ∨ pw s A = 9 ∨ pw s A = 27 ∨ pw s A = 81 ∨ pw s A = 243 ∨ pw s A = 729 ∨ pw s A = 2187 ∨ pw s A = 6561 ∨ pw s A = 19683 := by
  rcases h with ⟨rfl, h⟩ | ⟨rfl, h⟩
  · rw [e2]
    have : A = 0 ∨ A = 1 ∨ A = 2 ∨ A = 3 ∨ A = 4 ∨ A = 5 ∨ A = 6 ∨ A = 7 ∨ A = 8 ∨ A = 9 ∨ A = 10 ∨ A = 11 ∨ A = 12 ∨ A = 13 ∨ A = 14 := by omega
    rcases this with rfl | rfl | rfl | rfl | rfl | rfl | rfl | rfl | rfl | rfl | rfl | rfl | rfl | rfl | rfl <;> simp
  · rw [e3]
    have : A = 0 ∨ A = 1 ∨ A = 2 ∨ A = 3 ∨ A = 4 ∨ A = 5 ∨ A = 6 ∨ A = 7 ∨ A = 8 ∨ A = 9 := by omega
    rcases this with rfl | rfl | rfl | rfl | rfl | rfl | rfl | rfl | rfl | rfl <;> simp
theorem few_bd {s : Int} {A : Nat} (h : Few s A) : 1 ≤ pw s A ∧ pw s A ≤ 19683 := by
  rcases h with ⟨rfl, h⟩ | ⟨rfl, h⟩
  · rw [e2]
    exact ⟨Nat.pow_pos (by decide), Nat.le_trans (Nat.pow_le_pow_right (by decide) h) (by decide)⟩
  · rw [e3]
    exact ⟨Nat.pow_pos (by decide), Nat.le_trans (Nat.pow_le_pow_right (by decide) h) (by decide)⟩
end Go.Proofs.Ytbnndbciimfciaa.Few
