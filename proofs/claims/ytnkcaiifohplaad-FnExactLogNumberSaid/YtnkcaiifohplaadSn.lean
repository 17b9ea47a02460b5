/- Sines: the part of a turn is at most one turn; what is computed; that it stays small. -/
import Derived.Test.YtnkcaiifohplaadAp
namespace Go.Proofs.Ytnkcaiifohplaad.Fl
open Go

/-! ## Parts of turns -/
theorem cut_down (s : Bool) (n drop : Nat) : Ieee.Toward.zero.cut s n drop = n / 2 ^ drop := by
  unfold Ieee.Toward.cut
  dsimp only
  rw [Nat.shiftLeft_eq, Nat.one_mul]
  by_cases h : drop ≤ n.log2 + 2
  · rw [Nat.min_eq_left h]; simp
  · rw [Nat.min_eq_right (by omega)]
    have h1 : n < 2 ^ (n.log2 + 2) := Nat.lt_trans Nat.lt_log2_self (Nat.pow_lt_pow_right (by omega) (by omega))
    have h2 : n < 2 ^ drop := Nat.lt_of_lt_of_le h1 (pow_mono (by omega))
    rw [Nat.div_eq_of_lt h1, Nat.div_eq_of_lt h2]; simp

theorem natAbs_signed0 (s : Bool) (M : Nat) : (Ieee.signed s M 0).natAbs = M := by
  rw [signed_abs]; simp
theorem signed0 (s : Bool) (M : Nat) : Ieee.signed s M 0 = if s then -(M : Int) else (M : Int) := by
  unfold Ieee.signed; rw [Nat.shiftLeft_eq]; simp

/-- What is left of a number that has been cut off behind the point, as an integer: at most 1. -/
theorem part_le {b : Nat} {s : Bool} {m : Nat} {p : Int} (hr : FloatKind.f64.format.read b = .number s m p) (hM : (m <<< p.toNat) / 2 ^ (-p).toNat < 4503599627370496) :
    floatToIntVal .f64 b .i64 = some (Ieee.signed s ((m <<< p.toNat) / 2 ^ (-p).toNat) 0) ∧
    FinB .f64 0 (fop .sub .f64 (some b) (some (floatOfInt .f64 (Ieee.signed s ((m <<< p.toNat) / 2 ^ (-p).toNat) 0)))) := by
  have hcut : (FloatKind.f64.decode b).toInt .zero = some (Ieee.signed s ((m <<< p.toNat) / 2 ^ (-p).toNat) 0) := by
    show (FloatKind.f64.format.read b).toInt .zero = _
    rw [hr]
    show some (Ieee.signed s (Ieee.Toward.zero.cut s (m <<< p.toNat) (-p).toNat) 0) = _
    rw [cut_down]
  generalize hMe : (m <<< p.toNat) / 2 ^ (-p).toNat = M at hM hcut ⊢
  refine ⟨?_, ?_⟩
  · unfold floatToIntVal
    rw [hcut]
    have hb : IntKind.i64.min ≤ Ieee.signed s M 0 ∧ Ieee.signed s M 0 ≤ IntKind.i64.max := by
      have e1 : IntKind.i64.min = -9223372036854775808 := by decide
      have e2 : IntKind.i64.max = 9223372036854775807 := by decide
      rw [e1, e2, signed0]
      cases s <;> simp <;> omega
    dsimp only
    rw [if_pos hb]
  · have key : ∀ (s' : Bool) (m' : Nat) (p' : Int), p' ≤ 0 → m' * 2 ^ (p' - min p p').toNat = M * 2 ^ (0 - min p p').toNat → (M ≠ 0 → s' = !s) →
        ∃ d, (FloatKind.f64.format.read b).sum (.number s' m' p') = some d ∧ LeD 0 d := by
      intro s' m' p' hp' hval hs'
      rw [hr]
      refine ⟨_, rfl, _, _, _, rfl, ?_⟩
      have hab : (Ieee.signed s m (p - min p p').toNat + Ieee.signed s' m' (p' - min p p').toNat).natAbs ≤ 2 ^ (0 - min p p').toNat ∨ (Ieee.signed s m (p - min p p').toNat + Ieee.signed s' m' (p' - min p p').toNat).natAbs = 0 := by
        have hsum : (Ieee.signed s m (p - min p p').toNat + Ieee.signed s' m' (p' - min p p').toNat).natAbs = m * 2 ^ (p - min p p').toNat - M * 2 ^ (0 - min p p').toNat ∧ M * 2 ^ (0 - min p p').toNat ≤ m * 2 ^ (p - min p p').toNat := by
          have hle : M * 2 ^ (0 - min p p').toNat ≤ m * 2 ^ (p - min p p').toNat := by
            by_cases hp : 0 ≤ p
            · have e1 : (-p).toNat = 0 := by omega
              rw [e1, Nat.pow_zero, Nat.div_one, Nat.shiftLeft_eq] at hMe
              rw [← hMe, Nat.mul_assoc, ← Nat.pow_add]
              have e2 : p.toNat + (0 - min p p').toNat = (p - min p p').toNat := by omega
              rw [e2]; exact Nat.le_refl _
            · have e1 : p.toNat = 0 := by omega
              rw [e1, Nat.shiftLeft_zero] at hMe
              have e2 : (0 - min p p').toNat = (-p).toNat + (p - min p p').toNat := by omega
              rw [e2, Nat.pow_add, ← Nat.mul_assoc]
              refine Nat.mul_le_mul_right _ ?_
              rw [← hMe]; exact Nat.div_mul_le_self _ _
          refine ⟨?_, hle⟩
          by_cases hM0 : M = 0
          · have hm0 : m' * 2 ^ (p' - min p p').toNat = 0 := by rw [hval, hM0, Nat.zero_mul]
            have e3 : Ieee.signed s' m' (p' - min p p').toNat = 0 := by
              have := signed_abs s' m' (p' - min p p').toNat
              rw [hm0] at this
              exact Int.natAbs_eq_zero.1 this
            rw [e3, Int.add_zero, signed_abs, hM0, Nat.zero_mul, Nat.sub_zero]
          · rw [hs' hM0]
            cases s
            · rw [signed_false, Bool.not_false, signed_true, hval]; omega
            · rw [signed_true, Bool.not_true, signed_false, hval]; omega
        rw [hsum.1]
        by_cases hp : 0 ≤ p
        · right
          have e1 : (-p).toNat = 0 := by omega
          rw [e1, Nat.pow_zero, Nat.div_one, Nat.shiftLeft_eq] at hMe
          rw [← hMe, Nat.mul_assoc, ← Nat.pow_add]
          have e2 : p.toNat + (0 - min p p').toNat = (p - min p p').toNat := by omega
          rw [e2, Nat.sub_self]
        · left
          have e1 : p.toNat = 0 := by omega
          rw [e1, Nat.shiftLeft_zero] at hMe
          have e2 : (0 - min p p').toNat = (-p).toNat + (p - min p p').toNat := by omega
          rw [e2, Nat.pow_add, ← Nat.mul_assoc, ← Nat.sub_mul]
          refine Nat.mul_le_mul_right _ ?_
          have h3 := Nat.div_add_mod m (2 ^ (-p).toNat)
          have h4 : m % 2 ^ (-p).toNat < 2 ^ (-p).toNat := Nat.mod_lt _ (Nat.two_pow_pos _)
          rw [hMe] at h3
          have h5 : 2 ^ (-p).toNat * M = M * 2 ^ (-p).toNat := Nat.mul_comm _ _
          omega
      rcases hab with h | h
      · right; exact ⟨by omega, h⟩
      · left; exact h
    have fin : ∀ d, (FloatKind.f64.format.read b).sum (FloatKind.f64.format.read (floatOfInt .f64 (Ieee.signed s M 0))).opposite = some d → LeD 0 d → FinB .f64 0 (fop .sub .f64 (some b) (some (floatOfInt .f64 (Ieee.signed s M 0)))) := by
      intro d hd hl
      refine ⟨FloatKind.f64.format.write d, ?_, round_le (k := .f64) hl (by decide) (by decide)⟩
      show FloatKind.f64.format.sub _ _ = _
      unfold Ieee.Format.sub; rw [hd]; rfl
    have hfo : floatOfInt .f64 (Ieee.signed s M 0) = FloatKind.f64.format.nearest (decide (Ieee.signed s M 0 < 0)) M 0 := by
      show FloatKind.f64.format.nearest (decide (Ieee.signed s M 0 < 0)) (Ieee.signed s M 0).natAbs 0 = _
      rw [natAbs_signed0]
    by_cases hM0 : M = 0
    · subst hM0
      have e : FloatKind.f64.format.read (floatOfInt .f64 (Ieee.signed s 0 0)) = .number false 0 (-1074) := by
        rw [hfo, nearest_zero]
        have : decide (Ieee.signed s 0 0 < 0) = false := by rw [signed0]; cases s <;> rfl
        rw [this, read_zero]; rfl
      obtain ⟨d, hd, hl⟩ := key true 0 (-1074) (by omega) (by rw [Nat.zero_mul, Nat.zero_mul]) (fun h => absurd rfl h)
      exact fin d (by rw [e]; exact hd) hl
    · have hlog : M.log2 < 52 := (Nat.log2_lt hM0).2 (by omega)
      have hneg : decide (Ieee.signed s M 0 < 0) = s := by rw [signed0]; cases s <;> simp <;> omega
      have e : FloatKind.f64.format.read (floatOfInt .f64 (Ieee.signed s M 0)) = .number s (M <<< (52 - M.log2)) (M.log2 - 52) := by
        rw [hfo, hneg]
        have := read_nearest .f64 s M 0 hM0 (by simp only [fb]; omega) (by simp only [fb, lp]; omega) (by simp only [em]; omega)
        rw [this]; simp only [fb]; congr 1; omega
      obtain ⟨d, hd, hl⟩ := key (!s) (M <<< (52 - M.log2)) (M.log2 - 52) (by omega) (by
        rw [Nat.shiftLeft_eq, Nat.mul_assoc, ← Nat.pow_add]
        congr 2; omega) (fun _ => rfl)
      exact fin d (by rw [e]; exact hd) hl

/-! ## The tests on the size -/
theorem read_abs {b : Nat} (h : nanw .f64 b = false) : (∃ s m p, FloatKind.f64.format.read b = .number s m p ∧ FloatKind.f64.format.read (b % 9223372036854775808) = .number false m p) ∨
    (∃ s, FloatKind.f64.format.read b = .infinity s ∧ FloatKind.f64.format.read (b % 9223372036854775808) = .infinity false) := by
  have hm : b % 9223372036854775808 % sgn .f64 = b % sgn .f64 := Nat.mod_mod _ _
  have hs : sg .f64 (b % 9223372036854775808) = false := by
    refine sg_div .f64 _ false ?_
    exact Nat.div_eq_of_lt (Nat.mod_lt _ (by decide))
  have hn : nanw .f64 (b % 9223372036854775808) = false := by rw [nanw_eq, hm, ← nanw_eq]; exact h
  rcases readk .f64 b h with ⟨h1, h2⟩ | ⟨h1, h2⟩ | ⟨h1, h3, h2⟩
  · right
    refine ⟨_, h2, ?_⟩
    rcases readk .f64 _ hn with ⟨_, g2⟩ | ⟨g1, _⟩ | ⟨_, g1, _⟩
    · rw [g2, hs]
    · have := binade_le .f64; rw [bin_eq] at this; rw [hm] at g1; omega
    · rw [hm] at g1; omega
  · left
    refine ⟨_, _, _, h2, ?_⟩
    rcases readk .f64 _ hn with ⟨g1, _⟩ | ⟨_, g2⟩ | ⟨g1, _, _⟩
    · have := binade_le .f64; rw [bin_eq] at this; rw [hm] at g1; omega
    · rw [g2, hs, hm]
    · rw [hm] at g1; omega
  · left
    refine ⟨_, _, _, h2, ?_⟩
    rcases readk .f64 _ hn with ⟨g1, _⟩ | ⟨g1, _⟩ | ⟨_, _, g2⟩
    · rw [hm] at g1; omega
    · rw [hm] at g1; omega
    · rw [g2, hs, hm]
def big : Option Nat := some 4841369599423283200
def lowBig : Option Nat := some 14064741636278059008
theorem read_big : FloatKind.f64.format.read 4841369599423283200 = .number false 4503599627370496 0 := by decide
theorem read_lowBig : FloatKind.f64.format.read 14064741636278059008 = .number true 4503599627370496 0 := by decide
theorem geq_eq (u v : Nat) : fcmp .geq .f64 (some u) (some v) = (FloatKind.f64.format.order u v == some .gt || FloatKind.f64.format.order u v == some .eq) := rfl
theorem ord3 (a b : Int) : (compare a b = .lt ∧ a < b) ∨ (compare a b = .eq ∧ a = b) ∨ (compare a b = .gt ∧ b < a) := by
  rcases Int.lt_trichotomy a b with h | h | h
  · exact .inl ⟨Int.compare_eq_lt.2 h, h⟩
  · exact .inr (.inl ⟨Int.compare_eq_eq.2 h, h⟩)
  · exact .inr (.inr ⟨Int.compare_eq_gt.2 h, h⟩)
/-- 2^52 or more away from 0. -/
theorem big_eq {b : Nat} (h : nanw .f64 b = false) : fcmp .geq .f64 (fabs (some b)) big = (fcmp .geq .f64 (some b) big || fcmp .leq .f64 (some b) lowBig) := by
  show fcmp .geq .f64 (some (b % 9223372036854775808)) (some 4841369599423283200) = (fcmp .geq .f64 (some b) (some 4841369599423283200) || fcmp .leq .f64 (some b) (some 14064741636278059008))
  rw [geq_eq, geq_eq, leq_eq]
  unfold Ieee.Format.order
  rw [read_big, read_lowBig]
  rcases read_abs h with ⟨s, m, p, e1, e2⟩ | ⟨s, e1, e2⟩
  · rw [e1, e2]
    simp only [Ieee.Datum.order]
    cases s
    · simp only [signed_false, signed_true]
      have hp : 0 < 4503599627370496 * 2 ^ (0 - min p 0).toNat := Nat.mul_pos (by decide) (Nat.two_pow_pos _)
      generalize 4503599627370496 * 2 ^ (0 - min p 0).toNat = B at hp ⊢
      generalize m * 2 ^ (p - min p 0).toNat = A
      rcases ord3 (A : Int) (-(B : Int)) with ⟨e, g⟩ | ⟨e, g⟩ | ⟨e, g⟩
      · omega
      · omega
      · rw [e]; simp
    · simp only [signed_false, signed_true]
      have hp : 0 < 4503599627370496 * 2 ^ (0 - min p 0).toNat := Nat.mul_pos (by decide) (Nat.two_pow_pos _)
      generalize 4503599627370496 * 2 ^ (0 - min p 0).toNat = B at hp ⊢
      generalize m * 2 ^ (p - min p 0).toNat = A
      rcases ord3 (-(A : Int)) (B : Int) with ⟨e, g⟩ | ⟨e, g⟩ | ⟨e, g⟩
      · rw [e]
        rcases ord3 (A : Int) (B : Int) with ⟨f, k⟩ | ⟨f, k⟩ | ⟨f, k⟩ <;> rcases ord3 (-(A : Int)) (-(B : Int)) with ⟨f', k'⟩ | ⟨f', k'⟩ | ⟨f', k'⟩ <;> rw [f, f'] <;> first | rfl | omega
      · omega
      · omega
  · rw [e1, e2]
    cases s <;> rfl
/-- A number that is nearer to 0 than 2^52, cut off. -/
theorem small_cut {b : Nat} (h : nanw .f64 b = false) (hb : fcmp .geq .f64 (fabs (some b)) big = false) : ∃ s m p, FloatKind.f64.format.read b = .number s m p ∧ (m <<< p.toNat) / 2 ^ (-p).toNat < 4503599627370496 := by
  have hb' : (FloatKind.f64.format.order (b % 9223372036854775808) 4841369599423283200 == some .gt || FloatKind.f64.format.order (b % 9223372036854775808) 4841369599423283200 == some .eq) = false := hb
  unfold Ieee.Format.order at hb'
  rw [read_big] at hb'
  rcases read_abs h with ⟨s, m, p, e1, e2⟩ | ⟨s, e1, e2⟩
  · refine ⟨s, m, p, e1, ?_⟩
    rw [e2] at hb'
    simp only [Ieee.Datum.order, signed_false] at hb'
    have hlt : m * 2 ^ (p - min p 0).toNat < 4503599627370496 * 2 ^ (0 - min p 0).toNat := by
      rcases ord3 ((m * 2 ^ (p - min p 0).toNat : Nat) : Int) ((4503599627370496 * 2 ^ (0 - min p 0).toNat : Nat) : Int) with ⟨f, k⟩ | ⟨f, k⟩ | ⟨f, k⟩
      · omega
      · rw [f] at hb'; cases hb'
      · rw [f] at hb'; cases hb'
    by_cases hp : 0 ≤ p
    · have e3 : (p - min p 0).toNat = p.toNat := by omega
      have e4 : (0 - min p 0).toNat = 0 := by omega
      have e5 : (-p).toNat = 0 := by omega
      rw [e3, e4, Nat.pow_zero, Nat.mul_one] at hlt
      rw [e5, Nat.pow_zero, Nat.div_one, Nat.shiftLeft_eq]; exact hlt
    · have e3 : (p - min p 0).toNat = 0 := by omega
      have e4 : (0 - min p 0).toNat = (-p).toNat := by omega
      have e5 : p.toNat = 0 := by omega
      rw [e3, e4, Nat.pow_zero, Nat.mul_one] at hlt
      rw [e5, Nat.shiftLeft_zero]
      exact (Nat.div_lt_iff_lt_mul (Nat.two_pow_pos _)).2 hlt
  · rw [e2] at hb'; cases hb'

/-! ## What is computed -/
def partF (b : Nat) (n : Int) : Option Nat := fop .sub .f64 (some b) (some (floatOfInt .f64 n))
def turnF (c : Bool) (f : Option Nat) : Option Nat := match c with | true => fop .add .f64 f one64 | false => f
def lowF (c : Bool) (f : Option Nat) : Option Nat := match c with | true => fop .sub .f64 f (some 4602678819172646912) | false => f
def foldF (c : Bool) (f : Option Nat) : Option Nat := match c with | true => fop .sub .f64 (some 4602678819172646912) f | false => f
def kk (j : Nat) : Nat := 2 * (8 - j) * (2 * (8 - j) + 1)
def sinP (u : Option Nat) : Nat → Option Nat
  | 0 => one64
  | j + 1 => fop .sub .f64 one64 (fop .quo .f64 (fop .mul .f64 u (sinP u j)) (some (floatOfInt .f64 ((kk j : Nat) : Int))))
/-- Of the folded part. -/
def sinT (z : Option Nat) : Option Nat := fop .mul .f64 z (sinP (fop .mul .f64 z z) 8)
def sinR (low : Bool) (v : Option Nat) : Option Nat := match low with | true => fneg .f64 v | false => v
def sinF (f : Option Nat) : Option Nat :=
  sinR (fcmp .geq .f64 f (some 4602678819172646912)) (sinT (fop .mul .f64 (foldF (fcmp .gtr .f64 (lowF (fcmp .geq .f64 f (some 4602678819172646912)) f) (some 4598175219545276416)) (lowF (fcmp .geq .f64 f (some 4602678819172646912)) f)) circle))
/-- The sine of the number of turns 'b', whose integer is 'n'. -/
def sineF (b : Nat) (n : Int) : Option Nat := sinF (turnF (fcmp .lss .f64 (partF b n) (some 0)) (partF b n))
theorem turn_fin {c : Bool} {f : Option Nat} (h : FinB .f64 0 f) : FinB .f64 1 (turnF c f) := by
  cases c
  · exact h.mono (by decide)
  · exact h.add one_fin (by decide) (by decide)
theorem sinP_fin {u : Option Nat} (hu : FinB .f64 12 u) : ∀ j : Nat, j ≤ 8 → FinB .f64 (11 * (j : Int)) (sinP u j)
  | 0, _ => one_fin
  | j + 1, h => by
    have h1 := sinP_fin hu j (by omega)
    have h2 := hu.mul h1 (by simp only [lp, fb]; omega) (by simp only [em]; omega)
    have hk : 4 ≤ kk j ∧ kk j < 2 ^ 9 := by
      unfold kk
      have : j = 0 ∨ j = 1 ∨ j = 2 ∨ j = 3 ∨ j = 4 ∨ j = 5 ∨ j = 6 ∨ j = 7 := by omega
      rcases this with rfl | rfl | rfl | rfl | rfl | rfl | rfl | rfl <;> decide
    have hl : (kk j).log2 < 9 := (Nat.log2_lt (by omega)).2 hk.2
    have hl2 : ¬ (kk j).log2 < 2 := fun hh => by have := (Nat.log2_lt (by omega)).1 hh; omega
    obtain ⟨⟨b, hb, s, m, p, g1, g2, g3⟩, _⟩ := int_ge (kk j) (by omega) (by omega)
    have h3 : FinB .f64 (12 + 11 * (j : Int) - 2) (fop .quo .f64 (fop .mul .f64 u (sinP u j)) (some (floatOfInt .f64 ((kk j : Nat) : Int)))) :=
      h2.quo (D := 2) ⟨b, hb, s, m, p, g1, g2, by omega⟩ (by simp only [lp, fb]; omega) (by simp only [em]; omega)
    have h4 := (one_fin.mono (B := 12 + 11 * (j : Int) - 2) (by omega)).sub h3 (by simp only [lp, fb]; omega) (by simp only [em]; omega)
    exact h4.mono (by omega)
theorem fop_lt {op : BinOp} {u v : Option Nat} {c : Nat} (h : fop op .f64 u v = some c) : c < 2 ^ 64 := by
  cases u with
  | none => cases h
  | some u =>
    cases v with
    | none => cases h
    | some v => exact floatBits_lt (op := op) (k := .f64) h
theorem sinF_fin {f : Option Nat} (h : FinB .f64 1 f) : FinB .f64 94 (sinF f) := by
  unfold sinF
  generalize fcmp .geq .f64 f (some 4602678819172646912) = c2
  have h1 : FinB .f64 2 (lowF c2 f) := by
    cases c2
    · exact h.mono (by decide)
    · exact h.sub (half_fin.mono (B := 1) (by decide)) (by decide) (by decide)
  generalize fcmp .gtr .f64 (lowF c2 f) (some 4598175219545276416) = c3
  have h2 : FinB .f64 3 (foldF c3 (lowF c2 f)) := by
    cases c3
    · exact h1.mono (by decide)
    · exact (half_fin.mono (B := 2) (by decide)).sub h1 (by decide) (by decide)
  have h3 := h2.mul circle_fin (by decide) (by decide)
  have h4 := h3.mul h3 (by decide) (by decide)
  have h5 := sinP_fin h4 8 (by decide)
  have h6 : FinB .f64 94 (sinT (fop .mul .f64 (foldF c3 (lowF c2 f)) circle)) := h3.mul h5 (by decide) (by decide)
  cases c2
  · exact h6
  · obtain ⟨c, hc, hle⟩ := h6
    have := neg_read (k := .f64) (fop_lt hc) hle
    refine ⟨Op.negFloat .f64 c, ?_, this⟩
    show fneg .f64 (sinT _) = _
    rw [hc]; rfl
theorem sine_fits {b : Nat} {n : Int} (h : FinB .f64 0 (partF b n)) : Fits .f64 .f32 (sineF b n) := (sinF_fin (turn_fin h)).fits (by decide)
end Go.Proofs.Ytnkcaiifohplaad.Fl
