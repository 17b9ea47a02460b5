/- Exact rounding: a number that has few enough digits is read back as it was written. -/
import Derived.Test.YtffcaffhkleclaaFl
namespace Go.Proofs.Ytffcaffhkleclaa.Fl
open Go

def fb (k : FloatKind) : Nat := match k with | .f32 => 23 | .f64 => 52
def lp (k : FloatKind) : Int := match k with | .f32 => -149 | .f64 => -1074
def em (k : FloatKind) : Int := match k with | .f32 => 127 | .f64 => 1023
theorem fb_eq (k : FloatKind) : k.format.fractionBits = fb k := by cases k <;> rfl
theorem lp_eq (k : FloatKind) : k.format.leastPlace = lp k := by cases k <;> rfl
theorem bin_eq (k : FloatKind) : k.format.binade = 2 ^ fb k := by cases k <;> rfl

theorem cut_zero (neg : Bool) (n : Nat) : Ieee.Toward.even.cut neg n 0 = n := by
  unfold Ieee.Toward.cut
  have h : (1 : Nat) <<< min 0 (n.log2 + 2) = 1 := by rw [Nat.zero_min]; rfl
  simp only [h, Nat.div_one, Nat.mod_one]
  simp

theorem shl_bd {m F : Nat} (hm : m ≠ 0) (hl : m.log2 ≤ F) : 2 ^ F ≤ m <<< (F - m.log2) ∧ m <<< (F - m.log2) < 2 ^ (F + 1) := by
  rw [Nat.shiftLeft_eq]
  have h1 := Nat.log2_self_le hm
  have h2 : m < 2 ^ (m.log2 + 1) := Nat.lt_log2_self
  constructor
  · calc 2 ^ F = 2 ^ m.log2 * 2 ^ (F - m.log2) := by rw [← Nat.pow_add]; congr 1; omega
      _ ≤ _ := Nat.mul_le_mul_right _ h1
  · calc m * 2 ^ (F - m.log2) < 2 ^ (m.log2 + 1) * 2 ^ (F - m.log2) := Nat.mul_lt_mul_of_pos_right h2 (Nat.two_pow_pos _)
      _ = _ := by rw [← Nat.pow_add]; congr 1; omega

theorem nearest_exact (k : FloatKind) (neg : Bool) (m : Nat) (p : Int) (hm : m ≠ 0) (hl : m.log2 ≤ fb k) (hlo : lp k ≤ p + m.log2 - fb k) :
    k.format.nearest neg m p = k.format.word neg (min ((p + m.log2 - fb k - lp k).toNat * 2 ^ fb k + m <<< (fb k - m.log2)) (inf k)) := by
  unfold Ieee.Format.nearest
  rw [if_neg hm]
  simp only [fb_eq, lp_eq, bin_eq, infRung_eq]
  have e1 : max (p + (m.log2 : Int) - (fb k : Int)) (lp k) = p + m.log2 - fb k := by omega
  rw [e1]
  have e2 : (p - (p + (m.log2 : Int) - (fb k : Int))).toNat = fb k - m.log2 := by omega
  have e3 : (p + (m.log2 : Int) - (fb k : Int) - p).toNat = 0 := by omega
  rw [e2, e3, cut_zero]

theorem read_word (k : FloatKind) (neg : Bool) (q s : Nat) (h1 : 2 ^ fb k ≤ s) (h2 : s < 2 ^ (fb k + 1)) (hi : q * 2 ^ fb k + s < inf k) :
    k.format.read (k.format.word neg (q * 2 ^ fb k + s)) = .number neg s (lp k + q) := by
  unfold Ieee.Format.read
  dsimp only
  have hlt := inf_lt k
  simp only [bin_eq, signWeight_eq, infRung_eq, lp_eq]
  rw [word_mod k neg (by omega)]
  rw [if_neg (by have : 0 ≤ q * 2 ^ fb k := Nat.zero_le _; omega), if_pos hi]
  have hneg : (k.format.word neg (q * 2 ^ fb k + s) / sgn k % 2 == 1) = neg := by
    unfold Ieee.Format.word
    rw [signWeight_eq]
    cases neg
    · have : (q * 2 ^ fb k + s) / sgn k = 0 := Nat.div_eq_of_lt (by omega)
      simp [this]
    · have : (sgn k + (q * 2 ^ fb k + s)) / sgn k = 1 := by
        rw [Nat.add_div_left _ (by omega), Nat.div_eq_of_lt (by omega)]
      simp [this]
  rw [hneg]
  have hq : (q * 2 ^ fb k + s) / 2 ^ fb k = q + 1 := by
    cases k
    · simp only [fb] at *; omega
    · simp only [fb] at *; omega
  have hr : (q * 2 ^ fb k + s) % 2 ^ fb k = s - 2 ^ fb k := by
    cases k
    · simp only [fb] at *; omega
    · simp only [fb] at *; omega
  rw [hq, hr]
  congr 1
  omega

/-- A NUMBER OF FEW DIGITS, WRITTEN AND READ: its digits shifted up. -/
theorem read_nearest (k : FloatKind) (neg : Bool) (m : Nat) (p : Int) (hm : m ≠ 0) (hl : m.log2 ≤ fb k) (hlo : lp k ≤ p + m.log2 - fb k) (hhi : p + m.log2 ≤ em k) :
    k.format.read (k.format.nearest neg m p) = .number neg (m <<< (fb k - m.log2)) (p + m.log2 - fb k) := by
  obtain ⟨b1, b2⟩ := shl_bd hm hl
  rw [nearest_exact k neg m p hm hl hlo]
  have hi : (p + m.log2 - fb k - lp k).toNat * 2 ^ fb k + m <<< (fb k - m.log2) < inf k := by
    cases k
    · simp only [fb, lp, em, inf] at *; omega
    · simp only [fb, lp, em, inf] at *; omega
  rw [Nat.min_eq_left (by omega), read_word k neg _ _ b1 b2 hi]
  congr 1
  omega

/-- What a 32-bit word stands for. -/
theorem read32 (b : Nat) (h : (FloatKind.f32.format.read b).isNaN = false) : (FloatKind.f32.format.read b).isInfinity = true ∨
    ∃ s m p, FloatKind.f32.format.read b = .number s m p ∧ m < 16777216 ∧ -149 ≤ p ∧ p ≤ 104 ∧ (m ≠ 0 → b % 2147483648 < 8388608 → p + m.log2 < -126) ∧ (8388608 ≤ b % 2147483648 → 8388608 ≤ m) ∧ (m = 0 ↔ b % 2147483648 = 0) := by
  have hr : FloatKind.f32.format.read b = Ieee.Format.read FloatKind.f32.format b := rfl
  unfold Ieee.Format.read at *
  dsimp only at *
  have e1 : FloatKind.f32.format.signWeight = 2147483648 := rfl
  have e2 : FloatKind.f32.format.binade = 8388608 := rfl
  have e3 : FloatKind.f32.format.infRung = 2139095040 := rfl
  have e4 : FloatKind.f32.format.leastPlace = -149 := rfl
  simp only [e1, e2, e3, e4] at *
  split
  · rename_i h0
    right
    refine ⟨_, _, _, rfl, by omega, by omega, by omega, ?_, by omega, by omega⟩
    intro hm _
    have : (b % 2147483648).log2 < 23 := (Nat.log2_lt hm).2 (by omega)
    omega
  · split
    · right
      refine ⟨_, _, _, rfl, by omega, by omega, by omega, by omega, by omega, by omega⟩
    · split
      · left; rfl
      · rename_i h1 h2 h3
        rw [if_neg h1, if_neg h2, if_neg h3] at h
        simp [Ieee.Datum.isNaN] at h

theorem log_lt {m : Nat} (hm : m ≠ 0) (h : m < 16777216) : m.log2 ≤ 23 := by
  have : m.log2 < 24 := (Nat.log2_lt hm).2 (by omega)
  omega

theorem log_eq {m : Nat} (h : 8388608 ≤ m) (h2 : m < 16777216) : m.log2 = 23 := by
  have h3 : m.log2 < 24 := (Nat.log2_lt (by omega)).2 (by omega)
  have h4 : ¬ m.log2 < 23 := fun hh => by have := (Nat.log2_lt (by omega)).1 hh; omega
  omega

theorem nearest_zero (k : FloatKind) (neg : Bool) (p : Int) : k.format.nearest neg 0 p = k.format.word neg 0 := by
  unfold Ieee.Format.nearest; rw [if_pos rfl]
theorem read_zero (k : FloatKind) (neg : Bool) : k.format.read (k.format.word neg 0) = .number neg 0 (lp k) := by
  cases k <;> cases neg <;> rfl

/-- A 32-BIT NUMBER AS A 64-BIT ONE. -/
theorem fits_widen (v : Option Nat) (hv : ∀ b, v = some b → Is .f32 b v) : Fits .f32 .f64 v := by
  refine .inr fun b hb hi => ?_
  have hn : (FloatKind.f32.format.read b).isNaN = false := by
    have := (hv b hb).1
    cases e : nanw .f32 b
    · exact e
    · rw [cn_nan _ e, hb] at this; cases this
  rcases read32 b hn with h | ⟨s, m, p, hr, h1, h2, h3, _⟩
  · have hi' : (FloatKind.f32.format.read b).isInfinity = false := hi
    rw [h] at hi'; cases hi'
  · show ((FloatKind.f64.format.read (FloatKind.f64.format.write (FloatKind.f32.format.read b)))).isInfinity = false
    rw [hr]
    show ((FloatKind.f64.format.read (FloatKind.f64.format.nearest s m p))).isInfinity = false
    by_cases hm : m = 0
    · subst hm; rw [nearest_zero, read_zero]; rfl
    · have hl := log_lt hm h1
      rw [read_nearest .f64 s m p hm (by simp only [fb]; omega) (by simp only [fb, lp]; omega) (by simp only [em]; omega)]
      rfl
theorem fits_widen_is {b : Nat} {v : Option Nat} (h : Is .f32 b v) : Fits .f32 .f64 v := by
  refine fits_widen v fun b' hb' => ?_
  subst hb'
  have h1 := h.1
  unfold cn at h1
  split at h1
  · cases h1
  · obtain rfl := Option.some.inj h1; exact h
end Go.Proofs.Ytffcaffhkleclaa.Fl
