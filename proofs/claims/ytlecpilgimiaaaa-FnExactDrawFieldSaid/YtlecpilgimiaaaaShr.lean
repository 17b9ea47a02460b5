/- The share of a seed: a number below 2^24 divided by 2^24, and multiplied by 2^-24, are one float. -/
import Derived.Test.YtlecpilgimiaaaaFx
import Derived.KernelRfl
namespace Go.Proofs.Ytlecpilgimiaaaa.Fl
open Go
set_option linter.unusedVariables false
set_option linter.unusedSimpArgs false

theorem log_shift {S j : Nat} (h1 : 8388608 ≤ S) (h2 : S < 16777216) : (S * 2 ^ j).log2 = 23 + j := by
  have hp : 0 < 2 ^ j := Nat.two_pow_pos j
  have h3 : (S * 2 ^ j).log2 < 24 + j := (Nat.log2_lt (Nat.mul_ne_zero (by omega) (by omega))).2 (by
    rw [Nat.pow_add]; exact Nat.mul_lt_mul_of_pos_right (by omega) hp)
  have h4 : ¬ (S * 2 ^ j).log2 < 23 + j := fun hh => by
    have := (Nat.log2_lt (Nat.mul_ne_zero (by omega) (by omega))).1 hh
    rw [Nat.pow_add] at this
    have h5 : 2 ^ 23 * 2 ^ j ≤ S * 2 ^ j := Nat.mul_le_mul_right _ h1
    omega
  omega
theorem cut_shift {S j : Nat} (h1 : 8388608 ≤ S) (h2 : S < 16777216) : Ieee.Toward.even.cut false (S * 2 ^ j) j = S := by
  unfold Ieee.Toward.cut
  rw [log_shift h1 h2, Nat.min_eq_left (by omega), Nat.shiftLeft_eq, Nat.one_mul]
  have hp : 0 < 2 ^ j := Nat.two_pow_pos j
  simp only [Nat.mul_div_cancel _ hp, Nat.mul_mod_left]
  simp
theorem nearest_shift {S j : Nat} {p : Int} (h1 : 8388608 ≤ S) (h2 : S < 16777216) (hlo : -149 ≤ p + j) :
    FloatKind.f32.format.nearest false (S * 2 ^ j) p = FloatKind.f32.format.word false (min ((p + j - -149).toNat * 2 ^ 23 + S) (inf .f32)) := by
  unfold Ieee.Format.nearest
  have hm : S * 2 ^ j ≠ 0 := Nat.mul_ne_zero (by omega) (by have := Nat.two_pow_pos j; omega)
  rw [if_neg hm]
  simp only [fb_eq, lp_eq, bin_eq, infRung_eq, fb, lp]
  rw [log_shift h1 h2]
  have e1 : max (p + ((23 + j : Nat) : Int) - ((23 : Nat) : Int)) (-149) = p + j := by omega
  have e2 : (p - (p + (j : Int))).toNat = 0 := by omega
  have e3 : (p + (j : Int) - p).toNat = j := by omega
  simp only [e1, e2, e3, Nat.shiftLeft_zero, cut_shift h1 h2]
theorem read_big : FloatKind.f32.format.read 1266679808 = .number false 8388608 1 := by decide +kernel
theorem read_tiny : FloatKind.f32.format.read 864026624 = .number false 8388608 (-47) := by decide +kernel

/-- A number below 2^24 by 2^24, both ways. -/
theorem share_eq {n : Nat} (hn : n < 16777216) : fop .quo .f32 (some (floatOfInt .f32 n)) (some 1266679808) = fop .mul .f32 (some (floatOfInt .f32 n)) (some 864026624) := by
  rcases Nat.eq_zero_or_pos n with h0 | h0
  · subst h0; decide +kernel
  · have hl := log_lt (by omega) hn
    have hx : floatOfInt .f32 (n : Int) = FloatKind.f32.format.nearest false n 0 := by
      show FloatKind.f32.format.write (.number (decide ((n : Int) < 0)) (n : Int).natAbs 0) = _
      rw [show decide ((n : Int) < 0) = false by simp, Int.natAbs_natCast]
      rfl
    have hr := read_nearest .f32 false n 0 (by omega) hl (by simp only [lp, fb]; omega) (by simp only [em, fb]; omega)
    obtain ⟨b1, b2⟩ := shl_bd (F := 23) (show n ≠ 0 by omega) hl
    obtain ⟨S, hS⟩ : ∃ S, S = n <<< (23 - n.log2) := ⟨_, rfl⟩
    obtain ⟨p, hp⟩ : ∃ p : Int, p = 0 + (n.log2 : Int) - 23 := ⟨_, rfl⟩
    have hr' : FloatKind.f32.format.read (floatOfInt .f32 (n : Int)) = .number false S p := by rw [hx, hr, hS, hp]; rfl
    rw [← hS] at b1 b2
    have hS1 : 8388608 ≤ S := b1
    have hS2 : S < 16777216 := b2
    have hlS : S.log2 = 23 := log_eq hS1 hS2
    show (((FloatKind.f32.format.read (floatOfInt .f32 (n : Int))).quotient (FloatKind.f32.format.fractionBits + 2) (FloatKind.f32.format.read 1266679808)).map FloatKind.f32.format.write) = (((FloatKind.f32.format.read (floatOfInt .f32 (n : Int))).product (FloatKind.f32.format.read 864026624)).map FloatKind.f32.format.write)
    rw [hr', read_big, read_tiny]
    have hq : Ieee.Datum.quotient (FloatKind.f32.format.fractionBits + 2) (.number false S p) (.number false 8388608 1) = some (.number false (S * 2 ^ 3) (p - 27)) := by
      simp only [Ieee.Datum.quotient]
      rw [if_neg (by decide)]
      have em : FloatKind.f32.format.fractionBits + 2 + Nat.log2 8388608 - S.log2 = 25 := by rw [hlS]; decide +kernel
      simp only [em, Nat.shiftLeft_eq]
      have e1 : S * 2 ^ 25 / 8388608 = S * 4 := by omega
      have e2 : S * 2 ^ 25 % 8388608 = 0 := by omega
      rw [e1, e2]
      congr 1
      congr 1
      · simp; omega
      · omega
    have hm : Ieee.Datum.product (.number false S p) (.number false 8388608 (-47)) = some (.number false (S * 2 ^ 23) (p - 47)) := by
      show some _ = some _
      congr 1
    rw [hq, hm]
    show some (FloatKind.f32.format.nearest false (S * 2 ^ 3) (p - 27)) = some (FloatKind.f32.format.nearest false (S * 2 ^ 23) (p - 47))
    rw [nearest_shift hS1 hS2 (by omega), nearest_shift hS1 hS2 (by omega)]
    have e4 : p - 27 + ((3 : Nat) : Int) - -149 = p - 47 + ((23 : Nat) : Int) - -149 := by omega
    rw [e4]
end Go.Proofs.Ytlecpilgimiaaaa.Fl
