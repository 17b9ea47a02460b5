/- How great floats can become: bounds by powers of two, which rounding keeps. -/
import Derived.Test.YtnkcaiifohplaadFb
namespace Go.Proofs.Ytnkcaiifohplaad.Fl
open Go

theorem pow_mono {a b : Nat} (h : a ≤ b) : 2 ^ a ≤ 2 ^ b := Nat.pow_le_pow_right (by omega) h

/-- A number that is at most 2^B away from 0. -/
def LeD (B : Int) (d : Ieee.Datum) : Prop := ∃ s m p, d = .number s m p ∧ (m = 0 ∨ (p ≤ B ∧ m ≤ 2 ^ (B - p).toNat))
/-- A number, not zero, that is at least 2^D away from 0. -/
def GeD (D : Int) (d : Ieee.Datum) : Prop := ∃ s m p, d = .number s m p ∧ m ≠ 0 ∧ D ≤ p + m.log2
def Pos (d : Ieee.Datum) : Prop := ∃ m p, d = .number false m p

theorem LeD.mono {A B : Int} {d : Ieee.Datum} (h : LeD A d) (hab : A ≤ B) : LeD B d := by
  obtain ⟨s, m, p, rfl, h⟩ := h
  refine ⟨s, m, p, rfl, h.imp id fun ⟨h1, h2⟩ => ⟨by omega, Nat.le_trans h2 (pow_mono (by omega))⟩⟩
theorem LeD.log {B : Int} {m : Nat} {p : Int} (h : m = 0 ∨ (p ≤ B ∧ m ≤ 2 ^ (B - p).toNat)) (hm : m ≠ 0) : p + m.log2 ≤ B := by
  rcases h with h | ⟨h1, h2⟩
  · exact absurd h hm
  · have h3 := Nat.log2_self_le hm
    have h4 : 2 ^ m.log2 ≤ 2 ^ (B - p).toNat := Nat.le_trans h3 h2
    have h5 : m.log2 ≤ (B - p).toNat := by
      rcases Nat.lt_or_ge (B - p).toNat m.log2 with hh | hh
      · have := Nat.pow_lt_pow_right (a := 2) (by omega) hh; omega
      · exact hh
    omega

theorem cut_le (neg : Bool) (n drop : Nat) : Ieee.Toward.even.cut neg n drop ≤ n / 2 ^ drop + 1 := by
  unfold Ieee.Toward.cut
  dsimp only
  rw [Nat.shiftLeft_eq, Nat.one_mul]
  by_cases h : drop ≤ n.log2 + 2
  · rw [Nat.min_eq_left h]
    have := Bool.toNat_le (decide (2 ^ drop < 2 * (n % 2 ^ drop)) || 2 ^ drop == 2 * (n % 2 ^ drop) && n / 2 ^ drop % 2 == 1)
    omega
  · rw [Nat.min_eq_right (by omega)]
    have h1 : n < 2 ^ (n.log2 + 1) := Nat.lt_log2_self
    have h2 : 2 ^ (n.log2 + 2) = 2 * 2 ^ (n.log2 + 1) := by rw [Nat.pow_succ, Nat.mul_comm]
    have h3 : n / 2 ^ (n.log2 + 2) = 0 := Nat.div_eq_of_lt (by omega)
    have h4 : n % 2 ^ (n.log2 + 2) = n := Nat.mod_eq_of_lt (by omega)
    rw [h3, h4]
    have h5 : decide (2 ^ (n.log2 + 2) < 2 * n) = false := decide_eq_false (by omega)
    have h6 : (2 ^ (n.log2 + 2) == 2 * n) = false := beq_eq_false_iff_ne.2 (by omega)
    rw [h5, h6]; simp
theorem cut_ge (neg : Bool) (n drop : Nat) (h : drop ≤ n.log2 + 2) : n / 2 ^ drop ≤ Ieee.Toward.even.cut neg n drop := by
  unfold Ieee.Toward.cut
  dsimp only
  rw [Nat.shiftLeft_eq, Nat.one_mul, Nat.min_eq_left h]
  omega
theorem cut_exact (neg : Bool) (n drop : Nat) (h : drop ≤ n.log2 + 2) (h0 : n % 2 ^ drop = 0) : Ieee.Toward.even.cut neg n drop = n / 2 ^ drop := by
  unfold Ieee.Toward.cut
  dsimp only
  rw [Nat.shiftLeft_eq, Nat.one_mul, Nat.min_eq_left h, h0]
  have hp : 0 < 2 ^ drop := Nat.two_pow_pos _
  have h5 : decide (2 ^ drop < 2 * 0) = false := decide_eq_false (by omega)
  have h6 : (2 ^ drop == 2 * 0) = false := beq_eq_false_iff_ne.2 (by omega)
  rw [h5, h6]; simp

/-- What is kept of a number's digits. -/
theorem kept_le (neg : Bool) (m : Nat) (p last : Int) (F : Nat) (hl : p + m.log2 - F ≤ last) :
    Ieee.Toward.even.cut neg (m <<< (p - last).toNat) (last - p).toNat ≤ 2 ^ (F + 1) := by
  refine Nat.le_trans (cut_le neg _ _) ?_
  have h2 : m < 2 ^ (m.log2 + 1) := Nat.lt_log2_self
  rw [Nat.shiftLeft_eq]
  by_cases h : last ≤ p
  · have e1 : (last - p).toNat = 0 := by omega
    rw [e1, Nat.pow_zero, Nat.div_one]
    have h3 : m * 2 ^ (p - last).toNat < 2 ^ (m.log2 + 1) * 2 ^ (p - last).toNat := Nat.mul_lt_mul_of_pos_right h2 (Nat.two_pow_pos _)
    rw [← Nat.pow_add] at h3
    have h4 := pow_mono (a := m.log2 + 1 + (p - last).toNat) (b := F + 1) (by omega)
    omega
  · have e1 : (p - last).toNat = 0 := by omega
    rw [e1, Nat.pow_zero, Nat.mul_one]
    have h3 : m / 2 ^ (last - p).toNat < 2 ^ (F + 1) := by
      rw [Nat.div_lt_iff_lt_mul (Nat.two_pow_pos _), ← Nat.pow_add]
      exact Nat.lt_of_lt_of_le h2 (pow_mono (by omega))
    omega
theorem kept_two (neg : Bool) (l : Nat) (p last : Int) (F : Nat) (hl : p + l - F = last) :
    Ieee.Toward.even.cut neg ((2 ^ l) <<< (p - last).toNat) (last - p).toNat = 2 ^ F := by
  rw [Nat.shiftLeft_eq, ← Nat.pow_add]
  by_cases h : last ≤ p
  · have e1 : (last - p).toNat = 0 := by omega
    rw [e1, cut_zero]; congr 1; omega
  · have e1 : (p - last).toNat = 0 := by omega
    rw [e1, Nat.add_zero]
    have e2 : (2 ^ l).log2 = l := Nat.log2_two_pow
    have e3 : 2 ^ l = 2 ^ (last - p).toNat * 2 ^ F := by rw [← Nat.pow_add]; congr 1; omega
    rw [cut_exact neg _ _ (by rw [e2]; omega) (by rw [e3]; exact Nat.mul_mod_right _ _), e3]
    exact Nat.mul_div_cancel_left _ (Nat.two_pow_pos _)
theorem kept_ge (neg : Bool) (m : Nat) (p last : Int) (F : Nat) (hm : m ≠ 0) (hl : p + m.log2 - F = last) :
    2 ^ F ≤ Ieee.Toward.even.cut neg (m <<< (p - last).toNat) (last - p).toNat := by
  have h2 := Nat.log2_self_le hm
  rw [Nat.shiftLeft_eq]
  by_cases h : last ≤ p
  · have e1 : (last - p).toNat = 0 := by omega
    rw [e1, cut_zero]
    calc 2 ^ F = 2 ^ m.log2 * 2 ^ (p - last).toNat := by rw [← Nat.pow_add]; congr 1; omega
      _ ≤ _ := Nat.mul_le_mul_right _ h2
  · have e1 : (p - last).toNat = 0 := by omega
    rw [e1, Nat.pow_zero, Nat.mul_one]
    refine Nat.le_trans ?_ (cut_ge neg _ _ (by omega))
    rw [Nat.le_div_iff_mul_le (Nat.two_pow_pos _), ← Nat.pow_add]
    exact Nat.le_trans (pow_mono (by omega)) h2

theorem sg_word (k : FloatKind) (neg : Bool) {r : Nat} (h : r < sgn k) : sg k (k.format.word neg r) = neg := by
  unfold sg Ieee.Format.word
  rw [signWeight_eq]
  cases neg
  · have : r / sgn k = 0 := Nat.div_eq_of_lt h
    simp [this]
  · have : (sgn k + r) / sgn k = 1 := by rw [Nat.add_div_left _ (by omega), Nat.div_eq_of_lt h]
    simp [this]

/-- A word whose rung is not too high. -/
theorem read_rung (k : FloatKind) (neg : Bool) (R : Nat) (B : Int) (hB0 : lp k + fb k + 1 ≤ B) (hB : B ≤ em k) (h : (R : Int) ≤ (B + 1 - fb k - lp k) * 2 ^ fb k) :
    R < inf k ∧ LeD B (k.format.read (k.format.word neg R)) := by
  have hi : R < inf k := by
    cases k
    · simp only [fb, lp, em, inf] at *; omega
    · simp only [fb, lp, em, inf] at *; omega
  refine ⟨hi, ?_⟩
  have hs := inf_lt k
  have hn : nanw k (k.format.word neg R) = false := word_nan k neg (by omega)
  have hw := word_mod k neg (r := R) (by omega)
  rcases readk k _ hn with ⟨h1, _⟩ | ⟨h1, h2⟩ | ⟨h1, h3, h2⟩
  · omega
  · rw [h2, hw]
    rw [hw] at h1
    refine ⟨_, _, _, rfl, .inr ⟨by omega, ?_⟩⟩
    exact Nat.le_trans (Nat.le_of_lt h1) (pow_mono (by omega))
  · rw [h2, hw]
    rw [hw] at h1
    have hq : (R / 2 ^ fb k : Nat) ≤ (B + 1 - fb k - lp k).toNat := by
      apply Nat.div_le_of_le_mul
      cases k
      · simp only [fb, lp, em] at *; omega
      · simp only [fb, lp, em] at *; omega
    have hdm := Nat.div_add_mod R (2 ^ fb k)
    have hq1 : 1 ≤ R / 2 ^ fb k := (Nat.le_div_iff_mul_le (Nat.two_pow_pos _)).2 (by omega)
    have hr : R % 2 ^ fb k < 2 ^ fb k := Nat.mod_lt _ (Nat.two_pow_pos _)
    refine ⟨_, _, _, rfl, .inr ⟨by omega, ?_⟩⟩
    by_cases he : R / 2 ^ fb k = (B + 1 - fb k - lp k).toNat
    · have h0 : R % 2 ^ fb k = 0 := by
        rw [he] at hdm
        cases k
        · simp only [fb, lp, em] at *; omega
        · simp only [fb, lp, em] at *; omega
      rw [h0, Nat.add_zero]
      exact pow_mono (by omega)
    · have h5 : 2 ^ (fb k + 1) = 2 * 2 ^ fb k := by rw [Nat.pow_succ, Nat.mul_comm]
      have h6 := pow_mono (a := fb k + 1) (b := (B - (lp k + ((R / 2 ^ fb k - 1 : Nat) : Int))).toNat) (by omega)
      omega

/-- ROUNDING. -/
theorem round_rung (k : FloatKind) (neg : Bool) (m : Nat) (p B : Int) (hm : m ≠ 0) (h : m = 0 ∨ (p ≤ B ∧ m ≤ 2 ^ (B - p).toNat)) (hB0 : lp k + fb k + 1 ≤ B) (hB : B ≤ em k) :
    ∃ R : Nat, k.format.nearest neg m p = k.format.word neg R ∧ R < inf k ∧ (R : Int) ≤ (B + 1 - fb k - lp k) * 2 ^ fb k ∧ (lp k + fb k ≤ p + m.log2 → (p + m.log2 - fb k - lp k + 1) * 2 ^ fb k ≤ R) := by
  have hE := LeD.log h hm
  unfold Ieee.Format.nearest
  rw [if_neg hm]
  simp only [fb_eq, lp_eq, bin_eq, infRung_eq]
  have hR : (((max (p + (m.log2 : Int) - (fb k : Int)) (lp k) - lp k).toNat * 2 ^ fb k + Ieee.Toward.even.cut neg (m <<< (p - max (p + (m.log2 : Int) - (fb k : Int)) (lp k)).toNat) (max (p + (m.log2 : Int) - (fb k : Int)) (lp k) - p).toNat : Nat) : Int) ≤ (B + 1 - fb k - lp k) * 2 ^ fb k := by
    by_cases he : p + m.log2 = B
    · have hm2 : m = 2 ^ m.log2 := by
        have h3 := Nat.log2_self_le hm
        rcases h with h | ⟨_, h4⟩
        · exact absurd h hm
        · have e : (B - p).toNat = m.log2 := by omega
          rw [e] at h4; omega
      have e1 : max (p + (m.log2 : Int) - (fb k : Int)) (lp k) = p + m.log2 - fb k := by omega
      rw [e1]
      have hk := kept_two neg m.log2 p (p + m.log2 - fb k) (fb k) rfl
      rw [← hm2] at hk
      rw [hk]
      cases k
      · simp only [fb, lp, em] at *; omega
      · simp only [fb, lp, em] at *; omega
    · have hk := kept_le neg m p (max (p + (m.log2 : Int) - (fb k : Int)) (lp k)) (fb k) (by omega)
      generalize Ieee.Toward.even.cut neg (m <<< (p - max (p + (m.log2 : Int) - (fb k : Int)) (lp k)).toNat) (max (p + (m.log2 : Int) - (fb k : Int)) (lp k) - p).toNat = kept at hk ⊢
      have hl : (max (p + (m.log2 : Int) - (fb k : Int)) (lp k) - lp k).toNat ≤ (B - 1 - fb k - lp k).toNat := by omega
      generalize (max (p + (m.log2 : Int) - (fb k : Int)) (lp k) - lp k).toNat = q at hl ⊢
      cases k
      · simp only [fb, lp, em] at *; omega
      · simp only [fb, lp, em] at *; omega
  have hi := (read_rung k neg _ B hB0 hB hR).1
  refine ⟨_, by rw [Nat.min_eq_left (Nat.le_of_lt hi)], hi, hR, fun hlo => ?_⟩
  have e1 : max (p + (m.log2 : Int) - (fb k : Int)) (lp k) = p + m.log2 - fb k := by omega
  rw [e1]
  have hk := kept_ge neg m p (p + m.log2 - fb k) (fb k) hm rfl
  generalize Ieee.Toward.even.cut neg (m <<< (p - (p + (m.log2 : Int) - (fb k : Int))).toNat) (p + (m.log2 : Int) - (fb k : Int) - p).toNat = kept at hk ⊢
  generalize hq : (p + (m.log2 : Int) - (fb k : Int) - lp k).toNat = q
  cases k
  · simp only [fb, lp, em] at *; omega
  · simp only [fb, lp, em] at *; omega

theorem log2_two (F r : Nat) (h : r < 2 ^ F) : (2 ^ F + r).log2 = F := by
  have h1 : 2 ^ (F + 1) = 2 * 2 ^ F := by rw [Nat.pow_succ, Nat.mul_comm]
  have hp : 0 < 2 ^ F := Nat.two_pow_pos F
  have h2 : (2 ^ F + r).log2 < F + 1 := (Nat.log2_lt (by omega)).2 (by omega)
  have h3 : ¬ (2 ^ F + r).log2 < F := fun hh => by have := (Nat.log2_lt (by omega)).1 hh; omega
  omega

theorem round_le {k : FloatKind} {d : Ieee.Datum} {B : Int} (h : LeD B d) (hB0 : lp k + fb k + 1 ≤ B) (hB : B ≤ em k) : LeD B (k.format.read (k.format.write d)) := by
  obtain ⟨s, m, p, rfl, h⟩ := h
  show LeD B (k.format.read (k.format.nearest s m p))
  by_cases hm : m = 0
  · subst hm; rw [nearest_zero, read_zero]; exact ⟨_, _, _, rfl, .inl rfl⟩
  · obtain ⟨R, hR, _, h2, _⟩ := round_rung k s m p B hm h hB0 hB
    rw [hR]; exact (read_rung k s R B hB0 hB h2).2
theorem round_ge {k : FloatKind} {d : Ieee.Datum} {B D : Int} (h : LeD B d) (hB0 : lp k + fb k + 1 ≤ B) (hB : B ≤ em k) (hg : GeD D d) (hD : lp k + fb k ≤ D) : GeD D (k.format.read (k.format.write d)) := by
  obtain ⟨s, m, p, rfl, h⟩ := h
  obtain ⟨s', m', p', e, hm, hg⟩ := hg
  cases e
  show GeD D (k.format.read (k.format.nearest s m p))
  obtain ⟨R, hR, h1, h2, h3⟩ := round_rung k s m p B hm h hB0 hB
  have h3 := h3 (by omega)
  rw [hR]
  have hs := inf_lt k
  have hn : nanw k (k.format.word s R) = false := word_nan k s (by omega)
  have hw := word_mod k s (r := R) (by omega)
  have hlow : 2 ^ fb k ≤ R := by
    cases k
    · simp only [fb, lp, em] at *; omega
    · simp only [fb, lp, em] at *; omega
  have hq : (p + m.log2 - fb k - lp k + 1).toNat ≤ R / 2 ^ fb k := by
    rw [Nat.le_div_iff_mul_le (Nat.two_pow_pos _)]
    cases k
    · simp only [fb, lp, em] at *; omega
    · simp only [fb, lp, em] at *; omega
  rcases readk k _ hn with ⟨h4, _⟩ | ⟨h4, _⟩ | ⟨_, _, h5⟩
  · omega
  · omega
  · rw [h5, hw]
    refine ⟨_, _, _, rfl, by have := Nat.two_pow_pos (fb k); omega, ?_⟩
    rw [log2_two (fb k) _ (Nat.mod_lt _ (Nat.two_pow_pos _))]
    omega
theorem round_pos {k : FloatKind} {d : Ieee.Datum} {B : Int} (h : LeD B d) (hB0 : lp k + fb k + 1 ≤ B) (hB : B ≤ em k) (hp : Pos d) : Pos (k.format.read (k.format.write d)) := by
  obtain ⟨s, m, p, rfl, h⟩ := h
  obtain ⟨m', p', e⟩ := hp
  cases e
  show Pos (k.format.read (k.format.nearest false m p))
  by_cases hm : m = 0
  · subst hm; rw [nearest_zero, read_zero]; exact ⟨_, _, rfl⟩
  · obtain ⟨R, hR, h1, _, _⟩ := round_rung k false m p B hm h hB0 hB
    rw [hR]
    have hs := inf_lt k
    have hn : nanw k (k.format.word false R) = false := word_nan k false (by omega)
    have hg := sg_word k false (r := R) (by omega)
    have hw := word_mod k false (r := R) (by omega)
    rcases readk k _ hn with ⟨h4, _⟩ | ⟨_, h5⟩ | ⟨_, _, h5⟩
    · omega
    · rw [h5, hg]; exact ⟨_, _, rfl⟩
    · rw [h5, hg]; exact ⟨_, _, rfl⟩

/-! ## Operations on data -/
theorem le_pow_sub {m : Nat} {p B base : Int} (h : m = 0 ∨ (p ≤ B ∧ m ≤ 2 ^ (B - p).toNat)) (hb : base ≤ p) : m * 2 ^ (p - base).toNat = 0 ∨ (base ≤ B ∧ m * 2 ^ (p - base).toNat ≤ 2 ^ (B - base).toNat) := by
  rcases h with h | ⟨h1, h2⟩
  · left; rw [h, Nat.zero_mul]
  · right
    refine ⟨by omega, ?_⟩
    calc m * 2 ^ (p - base).toNat ≤ 2 ^ (B - p).toNat * 2 ^ (p - base).toNat := Nat.mul_le_mul_right _ h2
      _ = 2 ^ (B - base).toNat := by rw [← Nat.pow_add]; congr 1; omega
theorem signed_abs (s : Bool) (m u : Nat) : (Ieee.signed s m u).natAbs = m * 2 ^ u := by
  unfold Ieee.signed; rw [Nat.shiftLeft_eq]
  cases s
  · exact Int.natAbs_natCast _
  · exact (Int.natAbs_neg _).trans (Int.natAbs_natCast _)

theorem product_le {A B : Int} {x y : Ieee.Datum} (hx : LeD A x) (hy : LeD B y) : ∃ d, x.product y = some d ∧ LeD (A + B) d := by
  obtain ⟨s, m, i, rfl, h⟩ := hx
  obtain ⟨t, n, j, rfl, g⟩ := hy
  refine ⟨_, rfl, _, _, _, rfl, ?_⟩
  rcases h with h | ⟨h1, h2⟩
  · left; rw [h, Nat.zero_mul]
  · rcases g with g | ⟨g1, g2⟩
    · left; rw [g, Nat.mul_zero]
    · right
      refine ⟨by omega, ?_⟩
      calc m * n ≤ 2 ^ (A - i).toNat * 2 ^ (B - j).toNat := Nat.mul_le_mul h2 g2
        _ = _ := by rw [← Nat.pow_add]; congr 1; omega
theorem sum_le {C : Int} {x y : Ieee.Datum} (hx : LeD C x) (hy : LeD C y) : ∃ d, x.sum y = some d ∧ LeD (C + 1) d := by
  obtain ⟨s, m, i, rfl, h⟩ := hx
  obtain ⟨t, n, j, rfl, g⟩ := hy
  refine ⟨_, rfl, _, _, _, rfl, ?_⟩
  have h' := le_pow_sub h (base := min i j) (by omega)
  have g' := le_pow_sub g (base := min i j) (by omega)
  have ha := signed_abs s m (i - min i j).toNat
  have hb := signed_abs t n (j - min i j).toNat
  have hc : (Ieee.signed s m (i - min i j).toNat + Ieee.signed t n (j - min i j).toNat).natAbs ≤ m * 2 ^ (i - min i j).toNat + n * 2 ^ (j - min i j).toNat := by
    rw [← ha, ← hb]; exact Int.natAbs_add_le _ _
  generalize (Ieee.signed s m (i - min i j).toNat + Ieee.signed t n (j - min i j).toNat).natAbs = tot at hc ⊢
  generalize m * 2 ^ (i - min i j).toNat = X at h' hc
  generalize n * 2 ^ (j - min i j).toNat = Y at g' hc
  have key : min i j ≤ C → X ≤ 2 ^ (C - min i j).toNat → Y ≤ 2 ^ (C - min i j).toNat → tot = 0 ∨ (min i j ≤ C + 1 ∧ tot ≤ 2 ^ (C + 1 - min i j).toNat) := by
    intro h1 h2 h3
    right
    have e : 2 ^ (C + 1 - min i j).toNat = 2 * 2 ^ (C - min i j).toNat := by
      rw [← Nat.pow_succ']; congr 1; omega
    exact ⟨by omega, by omega⟩
  rcases h' with h' | ⟨h1, h2⟩
  · rcases g' with g' | ⟨g1, g2⟩
    · left; omega
    · exact key g1 (by omega) g2
  · rcases g' with g' | ⟨g1, g2⟩
    · exact key h1 h2 (by omega)
    · exact key h1 h2 g2
theorem opposite_le {B : Int} {x : Ieee.Datum} (h : LeD B x) : LeD B x.opposite := by
  obtain ⟨s, m, i, rfl, h⟩ := h; exact ⟨_, _, _, rfl, h⟩
theorem quotient_le {A D : Int} {x y : Ieee.Datum} (digits : Nat) (hx : LeD A x) (hy : GeD D y) : ∃ d, x.quotient digits y = some d ∧ LeD (A - D) d := by
  obtain ⟨s, m, i, rfl, h⟩ := hx
  obtain ⟨t, n, j, rfl, hn, g⟩ := hy
  simp only [Ieee.Datum.quotient]
  rw [if_neg hn]
  refine ⟨_, rfl, _, _, _, rfl, ?_⟩
  rcases h with h | ⟨h1, h2⟩
  · left; subst h; simp
  · by_cases hm : m = 0
    · left; subst hm; simp
    right
    have hl := LeD.log (.inr ⟨h1, h2⟩) hm
    have hn2 := Nat.log2_self_le hn
    generalize hmore : digits + n.log2 - m.log2 = more
    generalize hT : (A - D - i + j + more).toNat = T
    have hdiv : m <<< more ≤ 2 ^ T * n := by
      rw [Nat.shiftLeft_eq]
      calc m * 2 ^ more ≤ 2 ^ (A - i).toNat * 2 ^ more := Nat.mul_le_mul_right _ h2
        _ = 2 ^ ((A - i).toNat + more) := by rw [Nat.pow_add]
        _ ≤ 2 ^ (T + n.log2) := pow_mono (by omega)
        _ = 2 ^ T * 2 ^ n.log2 := by rw [Nat.pow_add]
        _ ≤ _ := Nat.mul_le_mul_left _ hn2
    have hT2 : (A - D - (i - j - (more : Int) - 1)).toNat = T + 1 := by omega
    refine ⟨by omega, ?_⟩
    rw [hT2, Nat.pow_succ, Nat.mul_comm _ 2]
    generalize m <<< more = Z at hdiv ⊢
    have hdm := Nat.div_add_mod Z n
    have hq : Z / n ≤ 2 ^ T := Nat.div_le_of_le_mul (by rw [Nat.mul_comm]; exact hdiv)
    by_cases hr : Z % n = 0
    · have : (Z % n != 0) = false := by simp [hr]
      rw [this]; simp only [Bool.toNat_false]; omega
    · have hlt : Z / n < 2 ^ T := by
        rcases Nat.lt_or_ge (Z / n) (2 ^ T) with hh | hh
        · exact hh
        · have : 2 ^ T * n ≤ n * (Z / n) := by rw [Nat.mul_comm]; exact Nat.mul_le_mul_left _ hh
          omega
      have := Bool.toNat_le (Z % n != 0)
      omega
theorem rootFrom_le (n : Nat) : ∀ (todo root : Nat), root * root ≤ n → Ieee.Datum.rootFrom n todo root * Ieee.Datum.rootFrom n todo root ≤ n
  | 0, root, h => h
  | todo + 1, root, h => by
    unfold Ieee.Datum.rootFrom
    dsimp only
    refine rootFrom_le n todo _ ?_
    split
    · assumption
    · exact h
/-- The square root, crudely: a number that is at most 2^(2 C) away from 0 has one that is at most 2^(C + 1) away. -/
theorem root_le {C : Int} {x d : Ieee.Datum} (digits : Nat) (hx : LeD (2 * C) x) (hd : x.root digits = some d) : LeD (C + 1) d ∧ (Pos x → Pos d) := by
  obtain ⟨s, m, i, rfl, h⟩ := hx
  simp only [Ieee.Datum.root] at hd
  by_cases hm : m = 0
  · rw [if_pos hm] at hd
    cases hd
    exact ⟨⟨_, _, _, rfl, .inl hm⟩, id⟩
  · rw [if_neg hm] at hd
    split at hd
    · cases hd
    rcases h with h | ⟨h1, h2⟩
    · exact absurd h hm
    generalize hmore : 2 * digits - m.log2 + ((i - ((2 * digits - m.log2 : Nat) : Int)) % 2).toNat = more at hd
    have hev : (i - more) % 2 = 0 := by omega
    have hw := rootFrom_le (m <<< more) ((m <<< more).log2 / 2 + 1) 0 (Nat.zero_le _)
    generalize Ieee.Datum.rootFrom (m <<< more) ((m <<< more).log2 / 2 + 1) 0 = R at hd hw
    obtain rfl := Option.some.inj hd
    refine ⟨⟨_, _, _, rfl, .inr ?_⟩, fun _ => ⟨_, _, rfl⟩⟩
    have hR : R ≤ 2 ^ (C - (i - more) / 2).toNat := by
      rcases Nat.lt_or_ge (2 ^ (C - (i - more) / 2).toNat) R with hh | hh
      · exfalso
        have e : 2 ^ (C - (i - more) / 2).toNat * 2 ^ (C - (i - more) / 2).toNat = 2 ^ (2 * C - i + more).toNat := by
          rw [← Nat.pow_add]; congr 1; omega
        have h3 : m <<< more ≤ 2 ^ (2 * C - i + more).toNat := by
          rw [Nat.shiftLeft_eq]
          calc m * 2 ^ more ≤ 2 ^ (2 * C - i).toNat * 2 ^ more := Nat.mul_le_mul_right _ h2
            _ = _ := by rw [← Nat.pow_add]; congr 1; omega
        have h4 := Nat.mul_le_mul (Nat.succ_le_of_lt hh) (Nat.succ_le_of_lt hh)
        have h5 := Nat.mul_self_lt_mul_self (Nat.lt_succ_self (2 ^ (C - (i - more) / 2).toNat))
        omega
      · exact hh
    have hb := Bool.toNat_le (R * R != m <<< more)
    have e2 : (C + 1 - ((i - more) / 2 - 1)).toNat = (C - (i - more) / 2).toNat + 2 := by omega
    rw [e2, Nat.pow_succ, Nat.pow_succ]
    have hp : 0 < 2 ^ (C - (i - more) / 2).toNat := Nat.two_pow_pos _
    exact ⟨by omega, by omega⟩
end Go.Proofs.Ytnkcaiifohplaad.Fl
