/- The tests of the logarithm's functions, and that its end exists. -/
import Derived.Test.YtnkcaiifohplaadLg
namespace Go.Proofs.Ytnkcaiifohplaad.Fl
open Go
theorem RedEnd.exists {b0 : Nat} (h : Start b0) : ∃ b e, RedEnd b0 b e := by
  unfold Start at h
  refine ⟨(4604930618986332160 + ((b0 : Int) - 4604930618986332160) % 4503599627370496).toNat, ((b0 : Int) - 4604930618986332160) / 4503599627370496, ?_⟩
  unfold RedEnd Red
  omega
theorem not_huge {W : Nat} (h : Start W) : fcmp .gtr .f64 (some W) (some 9218868437227405311) = false := by
  unfold Start at h
  rw [gtr_eq, order_pos (by omega) (by omega) (by decide) (by decide)]
  rcases ord3 (W : Int) ((9218868437227405311 : Nat) : Int) with ⟨f, k⟩ | ⟨f, k⟩ | ⟨f, k⟩
  · rw [f]; rfl
  · omega
  · omega
theorem order_gt_zero (s : Bool) (m : Nat) (p q : Int) : (Ieee.Datum.order (.number s m p) (.number false 0 q) == some .gt) = (!s && decide (m ≠ 0)) := by
  simp only [Ieee.Datum.order]
  have hz : ∀ u, Ieee.signed false 0 u = 0 := fun u => (signed_zero false 0 u).2 rfl
  rw [hz]
  have hp := Nat.two_pow_pos (p - min p q).toNat
  cases s
  · rw [signed_false]
    by_cases hm : m = 0
    · subst hm; simp
    · have h1 : 0 < m * 2 ^ (p - min p q).toNat := Nat.mul_pos (Nat.pos_of_ne_zero hm) hp
      have : compare ((m * 2 ^ (p - min p q).toNat : Nat) : Int) 0 = .gt := by rw [Int.compare_eq_gt]; omega
      rw [this, decide_eq_true hm]; rfl
  · rw [signed_true]
    rcases ord3 (-((m * 2 ^ (p - min p q).toNat : Nat) : Int)) 0 with ⟨f, k⟩ | ⟨f, k⟩ | ⟨f, k⟩
    · rw [f]; rfl
    · rw [f]; rfl
    · omega
/-- Is a 32-bit number greater than zero? -/
theorem gtr_zero {b : Nat} (h : nanw .f32 b = false) : fcmp .gtr .f32 (some b) (some 0) = (!(sg .f32 b) && decide (b % 2147483648 ≠ 0)) := by
  have e : fcmp .gtr .f32 (some b) (some 0) = (FloatKind.f32.format.order b 0 == some .gt) := rfl
  rw [e]
  unfold Ieee.Format.order
  rw [read_zero_word]
  rcases readk .f32 b h with ⟨h1, h2⟩ | ⟨h1, h2⟩ | ⟨h1, h3, h2⟩
  · have h1' : b % 2147483648 = 2139095040 := h1
    rw [h2, decide_eq_true (by omega)]
    cases sg .f32 b <;> rfl
  · rw [h2, order_gt_zero]; rfl
  · have h1' : 8388608 ≤ b % 2147483648 := h1
    rw [h2, order_gt_zero, decide_eq_true (p := 2 ^ fb .f32 + b % sgn .f32 % 2 ^ fb .f32 ≠ 0) (by have := Nat.two_pow_pos (fb .f32); omega), decide_eq_true (p := b % 2147483648 ≠ 0) (by omega)]
/-- Is a 32-bit number greater than the greatest finite one? -/
theorem gtr_max {b : Nat} (h : nanw .f32 b = false) (hf : b % 2147483648 < 2139095040 ∨ sg .f32 b = true) : fcmp .gtr .f32 (some b) (some 2139095039) = false := by
  have e : fcmp .gtr .f32 (some b) (some 2139095039) = (FloatKind.f32.format.order b 2139095039 == some .gt) := rfl
  rw [e]
  unfold Ieee.Format.order
  have hr : FloatKind.f32.format.read 2139095039 = .number false 16777215 104 := by decide
  rw [hr]
  have key : ∀ (s : Bool) (m : Nat) (p : Int), m ≤ 16777215 → p ≤ 104 → (Ieee.Datum.order (.number s m p) (.number false 16777215 104) == some .gt) = false := by
    intro s m p hm hp
    simp only [Ieee.Datum.order]
    have e1 : min p 104 = p := by omega
    rw [e1]
    have e2 : (p - p).toNat = 0 := by omega
    rw [e2]
    have h1 : 1 ≤ 2 ^ (104 - p).toNat := Nat.two_pow_pos _
    rw [signed_false]
    have h2 : 16777215 ≤ 16777215 * 2 ^ (104 - p).toNat := Nat.le_mul_of_pos_right _ h1
    generalize 16777215 * 2 ^ (104 - p).toNat = Q at h2 ⊢
    have h3 : Ieee.signed s m 0 ≤ (m : Int) := by rw [signed0]; cases s <;> simp <;> omega
    rcases ord3 (Ieee.signed s m 0) (Q : Int) with ⟨f, k⟩ | ⟨f, k⟩ | ⟨f, k⟩
    · rw [f]; rfl
    · rw [f]; rfl
    · omega
  rcases readk .f32 b h with ⟨h1, h2⟩ | ⟨h1, h2⟩ | ⟨h1, h3, h2⟩
  · have h1' : b % 2147483648 = 2139095040 := h1
    rcases hf with hf | hf
    · omega
    · rw [h2, hf]; rfl
  · have h1' : b % 2147483648 < 8388608 := h1
    rw [h2]
    exact key _ _ _ (by show b % 2147483648 ≤ 16777215; omega) (by decide)
  · have h1' : 8388608 ≤ b % 2147483648 := h1
    have h3' : b % 2147483648 < 2139095040 := h3
    rw [h2]
    exact key _ _ _ (by show 8388608 + b % 2147483648 % 8388608 ≤ 16777215; omega) (by show -149 + ((b % 2147483648 / 8388608 - 1 : Nat) : Int) ≤ 104; omega)
theorem fits_inf (s : Bool) : Fits .f64 .f32 (some (FloatKind.f64.format.word s 9218868437227405312)) := by
  refine .inr fun b hb hi => ?_
  cases hb
  cases s
  · exact absurd hi (by decide)
  · exact absurd hi (by decide)
end Go.Proofs.Ytnkcaiifohplaad.Fl
