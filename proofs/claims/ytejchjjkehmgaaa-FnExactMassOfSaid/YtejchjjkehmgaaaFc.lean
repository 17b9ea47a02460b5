/- Comparisons of absolute values of 32-bit numbers with powers of two. -/
import Derived.Test.YtejchjjkehmgaaaFb
namespace Go.Proofs.Ytejchjjkehmgaaa.Fl
open Go

theorem signed_false (m u : Nat) : Ieee.signed false m u = ((m * 2 ^ u : Nat) : Int) := by
  unfold Ieee.signed; rw [Nat.shiftLeft_eq]; rfl

theorem two_le_pow {u : Nat} (h : 1 ≤ u) : 2 ≤ 2 ^ u := by
  calc 2 = 2 ^ 1 := rfl
    _ ≤ 2 ^ u := Nat.pow_le_pow_right (by omega) h

/-- Two positive numbers of full digits: the places decide. -/
theorem order_norm (s t : Nat) (i j : Int) (N : Nat) (h1 : N ≤ s) (h2 : s < 2 * N) (h3 : N ≤ t) (h4 : t < 2 * N) :
    Ieee.Datum.order (.number false s i) (.number false t j) = some (if i < j then .lt else if j < i then .gt else compare (s : Int) (t : Int)) := by
  simp only [Ieee.Datum.order, signed_false]
  congr 1
  by_cases h : i < j
  · rw [if_pos h, Int.compare_eq_lt]
    have e1 : (i - min i j).toNat = 0 := by omega
    have e2 : 1 ≤ (j - min i j).toNat := by omega
    rw [e1, Nat.pow_zero, Nat.mul_one]
    have := Nat.mul_le_mul_left t (two_le_pow e2)
    omega
  · rw [if_neg h]
    by_cases h' : j < i
    · rw [if_pos h', Int.compare_eq_gt]
      have e1 : (j - min i j).toNat = 0 := by omega
      have e2 : 1 ≤ (i - min i j).toNat := by omega
      rw [e1, Nat.pow_zero, Nat.mul_one]
      have := Nat.mul_le_mul_left s (two_le_pow e2)
      omega
    · rw [if_neg h']
      have e1 : (j - min i j).toNat = 0 := by omega
      have e2 : (i - min i j).toNat = 0 := by omega
      rw [e1, e2, Nat.pow_zero, Nat.mul_one, Nat.mul_one]

/-- The absolute value of a number that has been written. -/
theorem abs_word (neg : Bool) (r : Nat) (h : r < 9223372036854775808) : FloatKind.f64.format.word neg r % 9223372036854775808 = FloatKind.f64.format.word false r := by
  have := word_mod .f64 neg (r := r) h
  rw [show sgn .f64 = 9223372036854775808 from rfl] at this
  rw [this]; rfl
theorem abs_nearest (neg : Bool) (m : Nat) (p : Int) : FloatKind.f64.format.nearest neg m p % 9223372036854775808 = FloatKind.f64.format.nearest false m p := by
  have hI : FloatKind.f64.format.infRung = 9218868437227405312 := rfl
  unfold Ieee.Format.nearest
  by_cases hm : m = 0
  · rw [if_pos hm, if_pos hm]; exact abs_word neg 0 (by decide)
  · rw [if_neg hm, if_neg hm]
    have e : ∀ n, Ieee.Toward.even.cut neg n = Ieee.Toward.even.cut false n := fun n => rfl
    simp only [e]
    exact abs_word neg _ (Nat.lt_of_le_of_lt (Nat.min_le_right _ _) (by rw [hI]; decide))

/-- A 32-bit number's absolute value as a 64-bit one. -/
theorem widen_abs (b : Nat) (h : nanw .f32 b = false) : ∃ W, fabs (fconv .f32 .f64 (some b)) = some W ∧ nanw .f64 W = false ∧
    ((b % 2147483648 = 2139095040 ∧ FloatKind.f64.format.read W = .infinity false) ∨
     (b % 2147483648 = 0 ∧ FloatKind.f64.format.read W = .number false 0 (-1074)) ∨
     (b % 2147483648 < 2139095040 ∧ b % 2147483648 ≠ 0 ∧ ∃ (m : Nat) (p : Int), m ≠ 0 ∧ m < 16777216 ∧ -149 ≤ p ∧ p ≤ 104 ∧ (b % 2147483648 < 8388608 → m < 8388608 ∧ p = -149) ∧ (8388608 ≤ b % 2147483648 → 8388608 ≤ m) ∧
        FloatKind.f64.format.read W = .number false (m <<< (52 - m.log2)) (p + m.log2 - 52))) := by
  have hf : fconv .f32 .f64 (some b) = some (FloatKind.f64.format.write (FloatKind.f32.format.read b)) := rfl
  rw [hf]
  rcases readk .f32 b h with ⟨h1, h2⟩ | ⟨h1, h2⟩ | ⟨h1, h3, h2⟩
  · rw [h2]
    refine ⟨FloatKind.f64.format.word false 9218868437227405312, ?_, by decide, .inl ⟨h1, by decide⟩⟩
    show some (FloatKind.f64.format.word _ _ % _) = _
    rw [abs_word _ _ (by decide)]; rfl
  · rw [h2]
    have h1' : b % 2147483648 < 8388608 := h1
    have e2 : fabs (some (FloatKind.f64.format.write (.number (sg .f32 b) (b % sgn .f32) (lp .f32)))) = some (FloatKind.f64.format.nearest false (b % 2147483648) (-149)) := by
      show some (FloatKind.f64.format.nearest _ _ _ % _) = _
      rw [abs_nearest]; rfl
    refine ⟨_, e2, write_nan .f64 (.number false (b % 2147483648) (-149)) rfl, ?_⟩
    by_cases hz : b % 2147483648 = 0
    · right; left
      refine ⟨hz, ?_⟩
      rw [hz, nearest_zero .f64, read_zero .f64]; rfl
    · right; right
      refine ⟨by omega, hz, b % 2147483648, -149, hz, by omega, by omega, by omega, fun _ => ⟨h1', rfl⟩, by omega, ?_⟩
      have hl := log_lt hz (by omega)
      exact read_nearest .f64 false _ _ hz (by simp only [fb]; omega) (by simp only [fb, lp]; omega) (by simp only [em]; omega)
  · rw [h2]
    have h1' : 8388608 ≤ b % 2147483648 := h1
    have h3' : b % 2147483648 < 2139095040 := h3
    have e2 : fabs (some (FloatKind.f64.format.write (.number (sg .f32 b) (2 ^ fb .f32 + b % sgn .f32 % 2 ^ fb .f32) (lp .f32 + (b % sgn .f32 / 2 ^ fb .f32 - 1 : Nat))))) =
        some (FloatKind.f64.format.nearest false (8388608 + b % 2147483648 % 8388608) (-149 + ((b % 2147483648 / 8388608 - 1 : Nat) : Int))) := by
      show some (FloatKind.f64.format.nearest _ _ _ % _) = _
      rw [abs_nearest]; rfl
    refine ⟨_, e2, write_nan .f64 (.number false _ _) rfl, ?_⟩
    right; right
    refine ⟨h3', by omega, 8388608 + b % 2147483648 % 8388608, -149 + ((b % 2147483648 / 8388608 - 1 : Nat) : Int), by omega, by omega, by omega, by omega, by omega, by omega, ?_⟩
    have hl := log_lt (m := 8388608 + b % 2147483648 % 8388608) (by omega) (by omega)
    exact read_nearest .f64 false _ _ (by omega) (by simp only [fb]; omega) (by simp only [fb, lp]; omega) (by simp only [em]; omega)

theorem lss_eq (u v : Nat) : fcmp .lss .f64 (some u) (some v) = (FloatKind.f64.format.order u v == some .lt) := rfl
theorem leq_eq (u v : Nat) : fcmp .leq .f64 (some u) (some v) = (FloatKind.f64.format.order u v == some .lt || FloatKind.f64.format.order u v == some .eq) := rfl

/-- Is it nearer to 0 than 2^-126? -/
theorem lss_least (b : Nat) (h : nanw .f32 b = false) : fcmp .lss .f64 (fabs (fconv .f32 .f64 (some b))) (some 4039728865751334912) = decide (b % 2147483648 < 8388608) := by
  obtain ⟨W, hW, _, hc⟩ := widen_abs b h
  rw [hW, lss_eq]
  unfold Ieee.Format.order
  have hr : FloatKind.f64.format.read 4039728865751334912 = .number false 4503599627370496 (-178) := by decide
  rw [hr]
  rcases hc with ⟨h1, h2⟩ | ⟨h1, h2⟩ | ⟨h1, h1', m, p, hm, hm2, hp1, hp2, hlo, hhi, h2⟩
  · rw [h2, decide_eq_false (by omega)]; rfl
  · rw [h2, decide_eq_true (by omega)]; decide
  · rw [h2]
    have hl := log_lt hm hm2
    obtain ⟨b1, b2⟩ := shl_bd (F := 52) hm (by omega)
    rw [order_norm _ _ _ _ 4503599627370496 b1 (by omega) (by omega) (by omega)]
    by_cases hs : b % 2147483648 < 8388608
    · rw [decide_eq_true hs]
      obtain ⟨g1, g2⟩ := hlo hs
      have : m.log2 < 23 := (Nat.log2_lt hm).2 (by omega)
      rw [if_pos (by omega)]; rfl
    · rw [decide_eq_false hs]
      have g1 := hhi (by omega)
      have hl2 := log_eq g1 hm2
      rw [if_neg (by omega)]
      by_cases hgt : (-178 : Int) < p + (m.log2 : Int) - 52
      · rw [if_pos hgt]; rfl
      · rw [if_neg hgt]
        have : compare ((m <<< (52 - m.log2) : Nat) : Int) ((4503599627370496 : Nat) : Int) ≠ .lt := by
          rw [Ne, Int.compare_eq_lt]; omega
        generalize compare ((m <<< (52 - m.log2) : Nat) : Int) ((4503599627370496 : Nat) : Int) = o at this ⊢
        cases o <;> simp_all

/-- Is it finite? -/
theorem leq_most (b : Nat) (h : nanw .f32 b = false) : fcmp .leq .f64 (fabs (fconv .f32 .f64 (some b))) (some 5183643170566569984) = decide (b % 2147483648 < 2139095040) := by
  obtain ⟨W, hW, _, hc⟩ := widen_abs b h
  rw [hW, leq_eq]
  unfold Ieee.Format.order
  have hr : FloatKind.f64.format.read 5183643170566569984 = .number false 9007198717870080 75 := by decide
  rw [hr]
  rcases hc with ⟨h1, h2⟩ | ⟨h1, h2⟩ | ⟨h1, h1', m, p, hm, hm2, hp1, hp2, hlo, hhi, h2⟩
  · rw [h2, decide_eq_false (by omega)]; rfl
  · rw [h2, decide_eq_true (by omega)]; decide
  · rw [h2, decide_eq_true h1]
    have hl := log_lt hm hm2
    obtain ⟨b1, b2⟩ := shl_bd (F := 52) hm (by omega)
    rw [order_norm _ _ _ _ 4503599627370496 b1 (by omega) (by omega) (by omega)]
    by_cases hlt : p + (m.log2 : Int) - 52 < 75
    · rw [if_pos hlt]; rfl
    · rw [if_neg hlt, if_neg (by omega)]
      have e23 : m.log2 = 23 := by omega
      have hc : ((m <<< (52 - m.log2) : Nat) : Int) ≤ 9007198717870080 := by
        rw [e23, Nat.shiftLeft_eq]; simp only [Nat.reduceSub, Nat.reducePow]; omega
      have : compare ((m <<< (52 - m.log2) : Nat) : Int) ((9007198717870080 : Nat) : Int) ≠ .gt := by
        rw [Ne, Int.compare_eq_gt]; omega
      generalize compare ((m <<< (52 - m.log2) : Nat) : Int) ((9007198717870080 : Nat) : Int) = o at this ⊢
      cases o <;> simp_all
end Go.Proofs.Ytejchjjkehmgaaa.Fl
