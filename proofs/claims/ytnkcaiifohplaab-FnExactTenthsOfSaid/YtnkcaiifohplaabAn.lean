/- Angles: what is computed, told of numbers alone; that it stays small; that 64-bit numbers have the sign of the 32-bit ones that they come from. -/
import Derived.Test.YtnkcaiifohplaabBe
import Derived.Test.YtnkcaiifohplaabFc
namespace Go.Proofs.Ytnkcaiifohplaab.Fl
open Go

/-! ## Signs and zeros of widened numbers -/
theorem signed_true (m u : Nat) : Ieee.signed true m u = -((m * 2 ^ u : Nat) : Int) := by
  unfold Ieee.signed; rw [Nat.shiftLeft_eq]; rfl
theorem order_lt_zero (s : Bool) (m : Nat) (p q : Int) : (Ieee.Datum.order (.number s m p) (.number false 0 q) == some .lt) = (s && decide (m ≠ 0)) := by
  simp only [Ieee.Datum.order]
  have hz : ∀ u, Ieee.signed false 0 u = 0 := fun u => (signed_zero false 0 u).2 rfl
  rw [hz]
  have hp := Nat.two_pow_pos (p - min p q).toNat
  cases s
  · rw [signed_false]
    have : compare ((m * 2 ^ (p - min p q).toNat : Nat) : Int) 0 ≠ .lt := by rw [Ne, Int.compare_eq_lt]; omega
    generalize compare ((m * 2 ^ (p - min p q).toNat : Nat) : Int) 0 = o at this ⊢
    cases o <;> simp_all
  · rw [signed_true]
    by_cases hm : m = 0
    · subst hm; simp
    · have h1 : 0 < m * 2 ^ (p - min p q).toNat := Nat.mul_pos (Nat.pos_of_ne_zero hm) hp
      have : compare (-((m * 2 ^ (p - min p q).toNat : Nat) : Int)) 0 = .lt := by rw [Int.compare_eq_lt]; omega
      rw [this, decide_eq_true hm]; rfl
/-- IS A NUMBER LESS THAN ZERO? -/
theorem lss_zero {k : FloatKind} {b : Nat} (h : nanw k b = false) : fcmp .lss k (some b) (some 0) = (sg k b && decide (b % sgn k ≠ 0)) := by
  have e : fcmp .lss k (some b) (some 0) = (k.format.order b 0 == some .lt) := rfl
  rw [e]
  unfold Ieee.Format.order
  rw [read_zero_word]
  have hfb : 0 < 2 ^ fb k := Nat.two_pow_pos _
  rcases readk k b h with ⟨h1, h2⟩ | ⟨h1, h2⟩ | ⟨h1, h3, h2⟩
  · rw [h2]
    have : b % sgn k ≠ 0 := by rw [h1]; cases k <;> decide
    rw [decide_eq_true this]
    cases sg k b <;> rfl
  · rw [h2, order_lt_zero]
  · rw [h2, order_lt_zero, decide_eq_true (p := 2 ^ fb k + b % sgn k % 2 ^ fb k ≠ 0) (by omega), decide_eq_true (p := b % sgn k ≠ 0) (by omega)]

theorem sg_div (k : FloatKind) (b : Nat) (neg : Bool) (h : b / sgn k = neg.toNat) : sg k b = neg := by
  unfold sg; rw [h]; cases neg <;> rfl
theorem word_div' (k : FloatKind) (neg : Bool) {r : Nat} (h : r < sgn k) : k.format.word neg r / sgn k = neg.toNat := by
  unfold Ieee.Format.word
  rw [signWeight_eq]
  cases neg
  · exact Nat.div_eq_of_lt h
  · show (sgn k + r) / sgn k = 1
    rw [Nat.add_div_left _ (by omega), Nat.div_eq_of_lt h]
theorem nearest_sg (neg : Bool) (m : Nat) (p : Int) : sg .f64 (FloatKind.f64.format.nearest neg m p) = neg := by
  refine sg_div .f64 _ neg ?_
  unfold Ieee.Format.nearest
  by_cases hm : m = 0
  · rw [if_pos hm]; exact word_div' .f64 neg (by decide)
  · rw [if_neg hm]
    exact word_div' .f64 neg (Nat.lt_of_le_of_lt (Nat.min_le_right _ _) (by rw [infRung_eq]; decide))

theorem widen_info (b : Nat) (h : nanw .f32 b = false) : ∃ W, fconv .f32 .f64 (some b) = some W ∧ nanw .f64 W = false ∧ sg .f64 W = sg .f32 b ∧
    (W % sgn .f64 = 0 ↔ b % sgn .f32 = 0) ∧ (W % sgn .f64 < inf .f64 ↔ b % sgn .f32 < inf .f32) := by
  have hf : fconv .f32 .f64 (some b) = some (FloatKind.f64.format.write (FloatKind.f32.format.read b)) := rfl
  have hnW : nanw .f64 (FloatKind.f64.format.write (FloatKind.f32.format.read b)) = false := write_nan .f64 _ h
  refine ⟨_, hf, hnW, ?_, ?_⟩
  · rcases readk .f32 b h with ⟨h1, h2⟩ | ⟨h1, h2⟩ | ⟨h1, h3, h2⟩
    · rw [h2]; exact sg_word .f64 _ (by decide)
    · rw [h2]; exact nearest_sg _ _ _
    · rw [h2]; exact nearest_sg _ _ _
  · obtain ⟨W', hW', hnW', hc⟩ := widen_abs b h
    rw [hf] at hW'
    have e : W' = FloatKind.f64.format.write (FloatKind.f32.format.read b) % 9223372036854775808 := (Option.some.inj hW').symm
    have e2 : W' % sgn .f64 = FloatKind.f64.format.write (FloatKind.f32.format.read b) % sgn .f64 := by rw [e]; exact Nat.mod_mod _ _
    rw [← e2]
    have hs : sgn .f32 = 2147483648 := rfl
    have hi : inf .f32 = 2139095040 := rfl
    rw [hs, hi]
    rcases readk .f64 W' hnW' with ⟨g1, g2⟩ | ⟨g1, g2⟩ | ⟨g1, g3, g2⟩
    · rw [g1]
      rcases hc with ⟨h1, h2⟩ | ⟨h1, h2⟩ | ⟨h1, _, m, p, _, _, _, _, _, _, h2⟩
      · rw [h1]; decide
      · rw [g2] at h2; cases h2
      · rw [g2] at h2; cases h2
    · have hlt : W' % sgn .f64 < inf .f64 := by have := binade_le .f64; rw [bin_eq] at this; omega
      rcases hc with ⟨h1, h2⟩ | ⟨h1, h2⟩ | ⟨h1, h1', m, p, hm, hm2, _, _, _, _, h2⟩
      · rw [g2] at h2; cases h2
      · rw [g2] at h2
        have := (Ieee.Datum.number.inj h2).2.1
        constructor <;> constructor <;> intro <;> omega
      · rw [g2] at h2
        obtain ⟨b1, _⟩ := shl_bd (F := 52) hm (by have := log_lt hm hm2; omega)
        have : W' % sgn .f64 = m <<< (52 - m.log2) := (Ieee.Datum.number.inj h2).2.1
        have hfb : (2 : Nat) ^ fb .f64 = 2 ^ 52 := rfl
        omega
    · have hfb : (0 : Nat) < 2 ^ fb .f64 := Nat.two_pow_pos _
      rcases hc with ⟨h1, h2⟩ | ⟨h1, h2⟩ | ⟨h1, h1', _⟩
      · rw [g2] at h2; cases h2
      · rw [g2] at h2
        have := (Ieee.Datum.number.inj h2).2.1
        omega
      · constructor <;> constructor <;> intro <;> omega

/-- What is taken from itself is zero, if it is finite. -/
theorem sub_self' {k : FloatKind} {x : Nat} (hn : nanw k x = false) : fcmp .eql k (fop .sub k (some x) (some x)) (some 0) = decide (x % sgn k < inf k) := by
  show fcmp .eql k (k.format.sub x x) (some 0) = _
  unfold Ieee.Format.sub
  have hz : ∀ (s : Bool) (m : Nat) (p : Int), Option.map k.format.write ((Ieee.Datum.number s m p).sum (Ieee.Datum.number s m p).opposite) = some 0 := by
    intro s m p
    simp only [Ieee.Datum.opposite, Ieee.Datum.sum]
    have e : ∀ u, Ieee.signed s m u + Ieee.signed (!s) m u = 0 := by
      intro u; unfold Ieee.signed; cases s <;> simp <;> omega
    rw [e]
    cases k <;> cases s <;> rfl
  have h0 : fcmp .eql k (some 0) (some 0) = true := by cases k <;> decide
  have hlt := binade_le k
  rw [bin_eq] at hlt
  rcases readk k x hn with ⟨h1, h2⟩ | ⟨h1, h2⟩ | ⟨h1, h3, h2⟩
  · rw [h2, decide_eq_false (by omega)]
    cases sg k x <;> rfl
  · rw [h2, hz, decide_eq_true (by omega), h0]
  · rw [h2, hz, decide_eq_true (by omega), h0]

/-! ## What is computed -/
def one64 : Option Nat := some 4607182418800017408
def circle : Option Nat := some 4618760256179416344
def tstep (t : Option Nat) : Option Nat := fop .quo .f64 t (fop .add .f64 one64 (fsqrt (fop .add .f64 one64 (fop .mul .f64 t t))))
def tsteps (t : Option Nat) : Nat → Option Nat
  | 0 => t
  | j + 1 => tstep (tsteps t j)
/-- Behind 'j' rounds, k = 15 - 2 j. -/
def pA (u : Option Nat) : Nat → Option Nat
  | 0 => some 0
  | j + 1 => fop .sub .f64 (fop .quo .f64 one64 (some (floatOfInt .f64 (15 - 2 * (j : Int))))) (fop .mul .f64 u (pA u j))
def angle0 (t : Option Nat) : Option Nat := fop .quo .f64 (fop .mul .f64 (some 4620693217682128896) (fop .mul .f64 t (pA (fop .mul .f64 t t) 8))) circle
def steepF (over : Bool) (a b : Option Nat) : Option Nat :=
  match over with
  | true => fop .sub .f64 (some 4598175219545276416) (angle0 (tsteps (fop .quo .f64 b a) 3))
  | false => angle0 (tsteps (fop .quo .f64 a b) 3)
def leftF (neg : Bool) (v : Option Nat) : Option Nat := match neg with | true => fop .sub .f64 (some 4602678819172646912) v | false => v
def downF (neg : Bool) (v : Option Nat) : Option Nat := match neg with | true => fneg .f64 v | false => v

/-! ## It stays small -/
def Unit1 (t : Option Nat) : Prop := FinB .f64 1 t ∧ PosB .f64 t
theorem one_fin : FinB .f64 0 one64 := fin_lit .f64 _ 0 false 4503599627370496 (-52) (by decide) (by decide) (by decide)
theorem one_pos : PosB .f64 one64 := pos_lit .f64 _ 4503599627370496 (-52) (by decide)
theorem one_ge : GeB .f64 0 one64 := ge_lit .f64 _ 0 false 4503599627370496 (-52) (by decide) (by decide) (by decide)
theorem circle_fin : FinB .f64 3 circle := fin_lit .f64 _ 3 false 7074237752028440 (-50) (by decide) (by decide) (by decide)
theorem circle_ge : GeB .f64 2 circle := ge_lit .f64 _ 2 false 7074237752028440 (-50) (by decide) (by decide) (by decide)
theorem eight_fin : FinB .f64 3 (some 4620693217682128896) := fin_lit .f64 _ 3 false 4503599627370496 (-49) (by decide) (by decide) (by decide)
theorem half_fin : FinB .f64 0 (some 4602678819172646912) := fin_lit .f64 _ 0 false 4503599627370496 (-53) (by decide) (by decide) (by decide)
theorem quarter_fin : FinB .f64 0 (some 4598175219545276416) := fin_lit .f64 _ 0 false 4503599627370496 (-54) (by decide) (by decide) (by decide)
theorem zero_fin (B : Int) : FinB .f64 B (some 0) := ⟨0, rfl, _, _, _, read_zero_word .f64, .inl rfl⟩
theorem sqrt_pos {C : Int} {v : Option Nat} (h : FinB .f64 (2 * C) v) (hp : PosB .f64 v) (h0 : -1021 ≤ C + 1) (h1 : C + 1 ≤ 1023) : FinB .f64 (C + 1) (fsqrt v) ∧ PosB .f64 (fsqrt v) := by
  obtain ⟨b, rfl, h⟩ := h
  obtain ⟨_, e, m, p, hr⟩ := hp
  cases e
  have hd : ∃ d, (FloatKind.f64.format.read b).root (FloatKind.f64.format.fractionBits + 2) = some d := by
    rw [hr]; simp only [Ieee.Datum.root]
    by_cases hm : m = 0
    · rw [if_pos hm]; exact ⟨_, rfl⟩
    · rw [if_neg hm]; exact ⟨_, rfl⟩
  obtain ⟨d, hd⟩ := hd
  have hs : fsqrt (some b) = some (FloatKind.f64.format.write d) := by
    show FloatKind.f64.format.sqrt b = _
    unfold Ieee.Format.sqrt; rw [hd]; rfl
  obtain ⟨k1, k2⟩ := root_le _ h hd
  rw [hs]
  exact ⟨⟨_, rfl, round_le (k := .f64) k1 (by simp only [lp, fb]; omega) (by simp only [em]; omega)⟩, ⟨_, rfl, round_pos (k := .f64) k1 (by simp only [lp, fb]; omega) (by simp only [em]; omega) (k2 ⟨_, _, hr⟩)⟩⟩
theorem tstep_ok {t : Option Nat} (h : Unit1 t) : Unit1 (tstep t) := by
  obtain ⟨h1, h2⟩ := h
  have q1 := h1.mul h1 (by decide) (by decide)
  have q2 := PosB.mulSelf h1 (by decide) (by decide)
  have q3 := GeB.add (one_fin.mono (B := 2) (by decide)) q1 (by decide) (by decide) one_pos q2 one_ge (by decide)
  have q4 := (one_fin.mono (B := 2) (by decide)).add q1 (by decide) (by decide)
  have q5 := sqrt_pos (C := 2) (q4.mono (by decide)) q3.2 (by decide) (by decide)
  have q6 := GeB.add (one_fin.mono (B := 3) (by decide)) q5.1 (by decide) (by decide) one_pos q5.2 one_ge (by decide)
  exact ⟨h1.quo q6.1 (by decide) (by decide), PosB.quo h1 q6.1 (by decide) (by decide) h2 q6.2⟩
theorem tsteps_ok {t : Option Nat} (h : Unit1 t) : ∀ j, Unit1 (tsteps t j)
  | 0 => h
  | j + 1 => tstep_ok (tsteps_ok h j)
theorem int_ge (n : Nat) (hn : n ≠ 0) (hl : n.log2 ≤ 52) : GeB .f64 n.log2 (some (floatOfInt .f64 n)) ∧ PosB .f64 (some (floatOfInt .f64 n)) := by
  have e : floatOfInt .f64 (n : Int) = FloatKind.f64.format.nearest false n 0 := by
    show FloatKind.f64.format.nearest (decide ((n : Int) < 0)) (n : Int).natAbs 0 = _
    rw [decide_eq_false (by omega), Int.natAbs_natCast]
  have hr := read_nearest .f64 false n 0 hn (by simp only [fb]; omega) (by simp only [lp, fb]; omega) (by simp only [em]; omega)
  obtain ⟨b1, b2⟩ := shl_bd (F := 52) hn hl
  rw [e]
  refine ⟨⟨_, rfl, _, _, _, hr, by simp only [fb]; omega, ?_⟩, ⟨_, rfl, _, _, hr⟩⟩
  have h3 : ¬ (n <<< (52 - n.log2)).log2 < 52 := fun hh => by have := (Nat.log2_lt (by omega)).1 hh; omega
  simp only [fb]
  omega
theorem pA_fin {u : Option Nat} (hu : FinB .f64 2 u) : ∀ j : Nat, j ≤ 8 → FinB .f64 (3 * (j : Int)) (pA u j)
  | 0, _ => zero_fin _
  | j + 1, h => by
    have h1 := pA_fin hu j (by omega)
    have h2 := hu.mul h1 (by simp only [lp, fb]; omega) (by simp only [em]; omega)
    have e : (15 - 2 * (j : Int)) = ((15 - 2 * j : Nat) : Int) := by omega
    have hk : (15 - 2 * j).log2 ≤ 52 := by
      have : (15 - 2 * j).log2 < 4 := (Nat.log2_lt (by omega)).2 (by omega)
      omega
    have h3 : FinB .f64 0 (fop .quo .f64 one64 (some (floatOfInt .f64 (15 - 2 * (j : Int))))) := by
      rw [e]
      obtain ⟨⟨b, hb, s, m, p, g1, g2, g3⟩, _⟩ := int_ge (15 - 2 * j) (by omega) hk
      exact one_fin.quo (D := 0) ⟨b, hb, s, m, p, g1, g2, by omega⟩ (by decide) (by decide)
    have h4 := (h3.mono (B := 2 + 3 * (j : Int)) (by omega)).sub h2 (by simp only [lp, fb]; omega) (by simp only [em]; omega)
    exact h4.mono (by omega)
theorem angle0_fin {t : Option Nat} (h : Unit1 t) : FinB .f64 26 (angle0 t) := by
  have h1 := h.1.mul h.1 (by decide) (by decide)
  have h2 := pA_fin h1 8 (by decide)
  have h3 := h.1.mul h2 (by decide) (by decide)
  have h4 := eight_fin.mul h3 (by decide) (by decide)
  exact FinB.mono (A := 26) (h4.quo circle_ge (by decide) (by decide)) (by decide)

/-- The quotient of two numbers that are not negative, the first not greater: at most 2. -/
theorem ratio {a b : Nat} (pa : Pos (FloatKind.f64.format.read a)) (pb : Pos (FloatKind.f64.format.read b)) (hb : b % sgn .f64 ≠ 0) (nb : nanw .f64 b = false)
    (hab : FloatKind.f64.format.order a b ≠ some .gt) : Unit1 (fop .quo .f64 (some a) (some b)) := by
  obtain ⟨m, i, ea⟩ := pa
  obtain ⟨n, j, eb⟩ := pb
  have hn : n ≠ 0 := by
    rcases readk .f64 b nb with ⟨_, h2⟩ | ⟨h1, h2⟩ | ⟨h1, _, h2⟩
    · rw [eb] at h2; cases h2
    · rw [eb] at h2; have := (Ieee.Datum.number.inj h2).2.1; omega
    · rw [eb] at h2; have := (Ieee.Datum.number.inj h2).2.1; have := Nat.two_pow_pos (fb .f64); omega
  unfold Ieee.Format.order at hab
  rw [ea, eb] at hab
  simp only [Ieee.Datum.order, signed_false] at hab
  have hle : m * 2 ^ (i - min i j).toNat ≤ n * 2 ^ (j - min i j).toNat := by
    rcases Nat.lt_or_ge (n * 2 ^ (j - min i j).toNat) (m * 2 ^ (i - min i j).toNat) with hh | hh
    · exact absurd (by rw [(Int.compare_eq_gt).2 (by omega)]) hab
    · exact hh
  have hn2 : n < 2 ^ (n.log2 + 1) := Nat.lt_log2_self
  have hlt : m * 2 ^ (i - min i j).toNat < 2 ^ (n.log2 + 1 + (j - min i j).toNat) := by
    rw [Nat.pow_add]
    exact Nat.lt_of_le_of_lt hle (Nat.mul_lt_mul_of_pos_right hn2 (Nat.two_pow_pos _))
  have hA : LeD (j + n.log2 + 1) (FloatKind.f64.format.read a) := by
    rw [ea]
    refine ⟨_, _, _, rfl, ?_⟩
    by_cases hm : m = 0
    · exact .inl hm
    right
    have h1 : 2 ^ (i - min i j).toNat < 2 ^ (n.log2 + 1 + (j - min i j).toNat) := Nat.lt_of_le_of_lt (Nat.le_mul_of_pos_left _ (Nat.pos_of_ne_zero hm)) hlt
    have h2 : (i - min i j).toNat < n.log2 + 1 + (j - min i j).toNat := (Nat.pow_lt_pow_iff_right (by omega)).1 h1
    refine ⟨by omega, ?_⟩
    have e : n.log2 + 1 + (j - min i j).toNat = (j + n.log2 + 1 - i).toNat + (i - min i j).toNat := by omega
    rw [e, Nat.pow_add] at hlt
    exact Nat.le_of_lt (Nat.lt_of_mul_lt_mul_right hlt)
  have hx : FinB .f64 (j + n.log2 + 1) (some a) := ⟨a, rfl, hA⟩
  have hy : GeB .f64 (j + n.log2) (some b) := ⟨b, rfl, _, _, _, eb, hn, Int.le_refl _⟩
  have e1 : j + n.log2 + 1 - (j + n.log2) = 1 := by omega
  have q1 := hx.quo hy (by rw [e1]; decide) (by rw [e1]; decide)
  have q2 := PosB.quo hx hy (by rw [e1]; decide) (by rw [e1]; decide) ⟨a, rfl, _, _, ea⟩ ⟨b, rfl, _, _, eb⟩
  rw [e1] at q1
  exact ⟨q1, q2⟩
end Go.Proofs.Ytnkcaiifohplaab.Fl
