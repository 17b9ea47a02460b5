/- Bounds of floats through their operations. -/
import Derived.Test.YtnkcaiifohplaabBd
namespace Go.Proofs.Ytnkcaiifohplaab.Fl
open Go

def FinB (k : FloatKind) (B : Int) (v : Option Nat) : Prop := ∃ b, v = some b ∧ LeD B (k.format.read b)
def GeB (k : FloatKind) (D : Int) (v : Option Nat) : Prop := ∃ b, v = some b ∧ GeD D (k.format.read b)
def PosB (k : FloatKind) (v : Option Nat) : Prop := ∃ b, v = some b ∧ Pos (k.format.read b)
theorem FinB.mono {k : FloatKind} {A B : Int} {v : Option Nat} (h : FinB k A v) (hab : A ≤ B) : FinB k B v := by
  obtain ⟨b, rfl, h⟩ := h; exact ⟨b, rfl, h.mono hab⟩
theorem fin_lit (k : FloatKind) (b : Nat) (B : Int) (s : Bool) (m : Nat) (p : Int) (h : k.format.read b = .number s m p) (h1 : p ≤ B) (h2 : m ≤ 2 ^ (B - p).toNat) : FinB k B (some b) := ⟨b, rfl, _, _, _, h, .inr ⟨h1, h2⟩⟩
theorem pos_lit (k : FloatKind) (b : Nat) (m : Nat) (p : Int) (h : k.format.read b = .number false m p) : PosB k (some b) := ⟨b, rfl, _, _, h⟩
theorem ge_lit (k : FloatKind) (b : Nat) (D : Int) (s : Bool) (m : Nat) (p : Int) (h : k.format.read b = .number s m p) (h1 : m ≠ 0) (h2 : D ≤ p + m.log2) : GeB k D (some b) := ⟨b, rfl, _, _, _, h, h1, h2⟩

section
variable {k : FloatKind} {A B C D : Int} {x y : Option Nat}
theorem FinB.mul (hx : FinB k A x) (hy : FinB k B y) (h0 : lp k + fb k + 1 ≤ A + B) (h1 : A + B ≤ em k) : FinB k (A + B) (fop .mul k x y) := by
  obtain ⟨a, rfl, hx⟩ := hx
  obtain ⟨b, rfl, hy⟩ := hy
  obtain ⟨d, hd, hl⟩ := product_le hx hy
  refine ⟨k.format.write d, ?_, round_le hl h0 h1⟩
  show k.format.mul a b = _
  unfold Ieee.Format.mul; rw [hd]; rfl
theorem PosB.mulSelf (hx : FinB k A x) (h0 : lp k + fb k + 1 ≤ A + A) (h1 : A + A ≤ em k) : PosB k (fop .mul k x x) := by
  obtain ⟨a, rfl, hx⟩ := hx
  obtain ⟨d, hd, hl⟩ := product_le hx hx
  refine ⟨k.format.write d, ?_, round_pos hl h0 h1 ?_⟩
  · show k.format.mul a a = _
    unfold Ieee.Format.mul; rw [hd]; rfl
  · obtain ⟨s, m, p, e, _⟩ := hx
    rw [e] at hd
    cases Option.some.inj hd
    exact ⟨_, _, by rw [Bool.xor_self]⟩
theorem FinB.add (hx : FinB k C x) (hy : FinB k C y) (h0 : lp k + fb k + 1 ≤ C + 1) (h1 : C + 1 ≤ em k) : FinB k (C + 1) (fop .add k x y) := by
  obtain ⟨a, rfl, hx⟩ := hx
  obtain ⟨b, rfl, hy⟩ := hy
  obtain ⟨d, hd, hl⟩ := sum_le hx hy
  refine ⟨k.format.write d, ?_, round_le hl h0 h1⟩
  show k.format.add a b = _
  unfold Ieee.Format.add; rw [hd]; rfl
theorem FinB.sub (hx : FinB k C x) (hy : FinB k C y) (h0 : lp k + fb k + 1 ≤ C + 1) (h1 : C + 1 ≤ em k) : FinB k (C + 1) (fop .sub k x y) := by
  obtain ⟨a, rfl, hx⟩ := hx
  obtain ⟨b, rfl, hy⟩ := hy
  obtain ⟨d, hd, hl⟩ := sum_le hx (opposite_le hy)
  refine ⟨k.format.write d, ?_, round_le hl h0 h1⟩
  show k.format.sub a b = _
  unfold Ieee.Format.sub; rw [hd]; rfl
theorem FinB.quo (hx : FinB k A x) (hy : GeB k D y) (h0 : lp k + fb k + 1 ≤ A - D) (h1 : A - D ≤ em k) : FinB k (A - D) (fop .quo k x y) := by
  obtain ⟨a, rfl, hx⟩ := hx
  obtain ⟨b, rfl, hy⟩ := hy
  obtain ⟨d, hd, hl⟩ := quotient_le (k.format.fractionBits + 2) hx hy
  refine ⟨k.format.write d, ?_, round_le hl h0 h1⟩
  show k.format.div a b = _
  unfold Ieee.Format.div; rw [hd]; rfl
theorem PosB.quo (hx : FinB k A x) (hy : GeB k D y) (h0 : lp k + fb k + 1 ≤ A - D) (h1 : A - D ≤ em k) (px : PosB k x) (py : PosB k y) : PosB k (fop .quo k x y) := by
  obtain ⟨a, rfl, hx⟩ := hx
  obtain ⟨b, rfl, hy⟩ := hy
  obtain ⟨_, e, m, p, ea⟩ := px
  cases e
  obtain ⟨_, e, n, q, eb⟩ := py
  cases e
  obtain ⟨d, hd, hl⟩ := quotient_le (k.format.fractionBits + 2) hx hy
  refine ⟨k.format.write d, ?_, round_pos hl h0 h1 ?_⟩
  · show k.format.div a b = _
    unfold Ieee.Format.div; rw [hd]; rfl
  · obtain ⟨_, _, _, e2, hn, _⟩ := hy
    rw [eb] at e2
    cases e2
    rw [ea, eb] at hd
    simp only [Ieee.Datum.quotient] at hd
    rw [if_neg hn] at hd
    cases Option.some.inj hd
    exact ⟨_, _, rfl⟩
/-- A sum of numbers that are not negative is at least the first. -/
theorem GeB.add (hx : FinB k C x) (hy : FinB k C y) (h0 : lp k + fb k + 1 ≤ C + 1) (h1 : C + 1 ≤ em k) (px : PosB k x) (py : PosB k y) (hg : GeB k D x) (hD : lp k + fb k ≤ D) :
    GeB k D (fop .add k x y) ∧ PosB k (fop .add k x y) := by
  obtain ⟨a, rfl, hx⟩ := hx
  obtain ⟨b, rfl, hy⟩ := hy
  obtain ⟨_, e, m, p, ea⟩ := px
  cases e
  obtain ⟨_, e, n, q, eb⟩ := py
  cases e
  obtain ⟨_, e, _, _, _, e3, hm, hg⟩ := hg
  cases e
  rw [ea] at e3
  cases e3
  obtain ⟨d, hd, hl⟩ := sum_le hx hy
  have hf : fop .add k (some a) (some b) = some (k.format.write d) := by
    show k.format.add a b = _
    unfold Ieee.Format.add; rw [hd]; rfl
  have hd' := hd
  rw [ea, eb] at hd'
  simp only [Ieee.Datum.sum] at hd'
  have hs : ∀ (u v : Nat), Ieee.signed false m u + Ieee.signed false n v = ((m * 2 ^ u + n * 2 ^ v : Nat) : Int) := by
    intro u v; unfold Ieee.signed; rw [Nat.shiftLeft_eq, Nat.shiftLeft_eq]; exact (Int.natCast_add _ _).symm
  rw [hs] at hd'
  have hpos : 0 < m * 2 ^ (p - min p q).toNat := Nat.mul_pos (Nat.pos_of_ne_zero hm) (Nat.two_pow_pos _)
  have hle : m.log2 + (p - min p q).toNat ≤ (m * 2 ^ (p - min p q).toNat + n * 2 ^ (q - min p q).toNat).log2 := by
    rw [Nat.le_log2 (by omega), Nat.pow_add]
    exact Nat.le_trans (Nat.mul_le_mul_right _ (Nat.log2_self_le hm)) (Nat.le_add_right _ _)
  have hd2 := Option.some.inj hd'
  have hdp : Pos d ∧ GeD D d := by
    rw [← hd2]
    have e1 : ¬ ((m * 2 ^ (p - min p q).toNat + n * 2 ^ (q - min p q).toNat : Nat) : Int) = 0 := by omega
    have e2 : decide (((m * 2 ^ (p - min p q).toNat + n * 2 ^ (q - min p q).toNat : Nat) : Int) < 0) = false := decide_eq_false (by omega)
    rw [if_neg e1, e2, Int.natAbs_natCast]
    exact ⟨⟨_, _, rfl⟩, ⟨_, _, _, rfl, by omega, by omega⟩⟩
  rw [hf]
  exact ⟨⟨_, rfl, round_ge hl h0 h1 hdp.2 hD⟩, ⟨_, rfl, round_pos hl h0 h1 hdp.1⟩⟩
theorem neg_read {k : FloatKind} {b : Nat} (hb : b < 2 ^ k.format.width) (hB : LeD B (k.format.read b)) : LeD B (k.format.read (Op.negFloat k b)) := by
  obtain ⟨h1, h2⟩ := neg_eq k b hb
  obtain ⟨s, m, p, e, h⟩ := hB
  have hn : nanw k b = false := by unfold nanw; rw [e]; rfl
  have hn' : nanw k (Op.negFloat k b) = false := by rw [nanw_eq, h1, ← nanw_eq]; exact hn
  rcases readk k b hn with ⟨_, g2⟩ | ⟨g1, g2⟩ | ⟨g1, g3, g2⟩
  · rw [e] at g2; cases g2
  · rw [e] at g2
    rcases readk k _ hn' with ⟨f1, _⟩ | ⟨_, f2⟩ | ⟨f1, _⟩
    · rw [h1] at f1; have := binade_le k; rw [bin_eq] at this; omega
    · rw [f2, h1]; cases g2; exact ⟨_, _, _, rfl, h⟩
    · rw [h1] at f1; omega
  · rw [e] at g2
    rcases readk k _ hn' with ⟨f1, _⟩ | ⟨f1, _⟩ | ⟨_, _, f2⟩
    · rw [h1] at f1; omega
    · rw [h1] at f1; omega
    · rw [f2, h1]; cases g2; exact ⟨_, _, _, rfl, h⟩
end

/-- 32 bits to 64. -/
theorem FinB.widen {B : Int} {v : Option Nat} (h : FinB .f32 B v) (h0 : -1021 ≤ B) (h1 : B ≤ 1023) : FinB .f64 B (fconv .f32 .f64 v) := by
  obtain ⟨b, rfl, h⟩ := h
  exact ⟨_, rfl, round_le (k := .f64) h (by simp only [lp, fb]; omega) (by simp only [em]; omega)⟩
/-- 64 bits to 32. -/
theorem FinB.fits {B : Int} {v : Option Nat} (h : FinB .f64 B v) (h1 : B ≤ 127) : Fits .f64 .f32 v := by
  obtain ⟨b, rfl, h⟩ := h
  refine .inr fun b' hb' _ => ?_
  cases hb'
  have h2 := h.mono (B := max B 0) (by omega)
  obtain ⟨s, m, p, e, _⟩ := round_le (k := .f32) h2 (by simp only [lp, fb]; omega) (by simp only [em]; omega)
  show (FloatKind.f32.format.read (FloatKind.f32.format.write (FloatKind.f64.format.read b))).isInfinity = false
  rw [e]; rfl
theorem fits_none : Fits .f64 .f32 none := .inr fun _ h => by cases h

/-- A 32-bit number, finite, is at most 2^128 away from 0. -/
theorem fin32 {b : Nat} (h : nanw .f32 b = false) (hi : b % 2147483648 < 2139095040) : FinB .f32 128 (some b) := by
  rcases readk .f32 b h with ⟨h1, _⟩ | ⟨h1, h2⟩ | ⟨h1, h3, h2⟩
  · have : b % 2147483648 = 2139095040 := h1
    omega
  · have h1' : b % 2147483648 < 8388608 := h1
    refine ⟨_, rfl, _, _, _, h2, .inr ⟨by simp only [lp]; omega, ?_⟩⟩
    exact Nat.le_trans (Nat.le_of_lt h1') (pow_mono (a := 23) (by simp only [lp]; omega))
  · have h1' : 8388608 ≤ b % 2147483648 := h1
    have h3' : b % 2147483648 < 2139095040 := h3
    refine ⟨_, rfl, _, _, _, h2, .inr ⟨by simp only [lp, fb, sgn]; omega, ?_⟩⟩
    have e : 2 ^ fb .f32 + b % sgn .f32 % 2 ^ fb .f32 ≤ 2 ^ 24 := by simp only [fb, sgn]; omega
    refine Nat.le_trans e (pow_mono ?_)
    simp only [lp, fb, sgn]; omega

/-! ## Square roots -/
def fsqrt (v : Option Nat) : Option Nat := v.bind fun b => FloatKind.f64.format.sqrt b
theorem sqrt_nan {b r : Nat} (h : FloatKind.f64.format.sqrt b = some r) : nanw .f64 b = false ∧ nanw .f64 r = false := by
  unfold Ieee.Format.sqrt at h
  obtain ⟨d, hd, rfl⟩ := map_some (k := .f64) h
  have := root_nan hd
  exact ⟨this.1, write_nan .f64 d this.2⟩
theorem fsqrt_cn (b : Nat) : fsqrt (cn .f64 b) = FloatKind.f64.format.sqrt b := by
  cases hn : nanw .f64 b
  · rw [cn_of _ hn]; rfl
  · rw [cn_nan _ hn]
    cases h : FloatKind.f64.format.sqrt b with
    | none => rfl
    | some r => rw [(sqrt_nan h).1] at hn; cases hn
theorem FinB.sqrt {C : Int} {v : Option Nat} (h : FinB .f64 (2 * C) v) (h0 : -1021 ≤ C + 1) (h1 : C + 1 ≤ 1023) : fsqrt v = none ∨ FinB .f64 (C + 1) (fsqrt v) := by
  obtain ⟨b, rfl, h⟩ := h
  show FloatKind.f64.format.sqrt b = none ∨ FinB .f64 (C + 1) (FloatKind.f64.format.sqrt b)
  unfold Ieee.Format.sqrt
  cases hr : (FloatKind.f64.format.read b).root (FloatKind.f64.format.fractionBits + 2) with
  | none => left; rfl
  | some d =>
    right
    exact ⟨_, rfl, round_le (k := .f64) (root_le _ h hr).1 (by simp only [lp, fb]; omega) (by simp only [em]; omega)⟩
theorem fits_sqrt {x : Nat} {v : Option Nat} (hx : Is .f32 x v) : Fits .f64 .f32 (fsqrt (fconv .f32 .f64 v)) := by
  rcases Is_cases hx.2 with h | h
  · obtain rfl : none = v := h.1.symm.trans hx.1
    exact fits_none
  · obtain rfl : some x = v := h.1.symm.trans hx.1
    have hn := not_nan h
    by_cases hi : x % 2147483648 < 2139095040
    · have h1 := (fin32 hn hi).widen (by omega) (by omega)
      rcases FinB.sqrt (C := 64) h1 (by omega) (by omega) with h2 | h2
      · rw [h2]; exact fits_none
      · exact h2.fits (by omega)
    · have hinf : FloatKind.f32.format.read x = .infinity (sg .f32 x) := by
        rw [nanw_eq] at hn
        have hn' : ¬ 2139095040 < x % 2147483648 := of_decide_eq_false hn
        rcases readk .f32 x (not_nan h) with ⟨_, h2⟩ | ⟨h1, _⟩ | ⟨_, h1, _⟩
        · exact h2
        · have : x % 2147483648 < 8388608 := h1
          omega
        · have : x % 2147483648 < 2139095040 := h1
          omega
      have e : fconv .f32 .f64 (some x) = some (FloatKind.f64.format.word (sg .f32 x) 9218868437227405312) := by
        show some (FloatKind.f64.format.write (FloatKind.f32.format.read x)) = _
        rw [hinf]; rfl
      rw [e]
      cases sg .f32 x
      · refine .inr fun b hb hi2 => ?_
        have : fsqrt (some (FloatKind.f64.format.word false 9218868437227405312)) = some 9218868437227405312 := by decide
        rw [this] at hb
        cases hb
        exact absurd hi2 (by decide)
      · have : fsqrt (some (FloatKind.f64.format.word true 9218868437227405312)) = none := by decide
        rw [this]; exact fits_none
section
variable {P : Program} (w : World)
theorem run_sqrt (b : Nat) : ∃ r n, (Extern.MathSqrt.sqrt #[.float .f64 b]).run P w = .ok (.float .f64 r) (w.drewN n) ∧ Is .f64 r (fsqrt (cn .f64 b)) := by
  rw [fsqrt_cn]
  have hrun : ∀ o, FloatKind.f64.format.sqrt b = o → (Extern.MathSqrt.sqrt #[.float .f64 b]) = (match o with | some r => pure (.float .f64 r) | none => do pure (.float .f64 (← choose (.nanBits .f64 b b)))) := fun o h => by rw [← h]; rfl
  cases h : FloatKind.f64.format.sqrt b with
  | some r => exact ⟨r, 0, by rw [hrun _ h]; rfl, Is_some (sqrt_nan h).2 (FloatKind.f64.format.sqrt_lt h)⟩
  | none =>
    refine ⟨(Question.nanBits .f64 b b).cut (w.tape w.drawn (Question.nanBits .f64 b b)), 1, ?_, cut_nan .f64 b b _⟩
    rw [hrun _ h]
    exact run_choose w (.nanBits .f64 b b) rfl _
end
end Go.Proofs.Ytnkcaiifohplaab.Fl
