/- Logarithms: halving and doubling are exact and shift the bits; what is computed; that it stays small. -/
import Derived.Test.YtnkcaiifohplaabSn
namespace Go.Proofs.Ytnkcaiifohplaab.Fl
open Go

/-- A positive normal word, with room below and above. -/
def NP (b : Nat) : Prop := 9007199254740992 ≤ b ∧ b < 9214364837600034816
theorem read_pos {b : Nat} (h1 : 4503599627370496 ≤ b) (h2 : b < 9218868437227405312) : nanw .f64 b = false ∧ FloatKind.f64.format.read b = .number false (4503599627370496 + b % 4503599627370496) (-1074 + ((b / 4503599627370496 - 1 : Nat) : Int)) := by
  have hm : b % sgn .f64 = b := Nat.mod_eq_of_lt (by show b < 9223372036854775808; omega)
  have hn : nanw .f64 b = false := by rw [nanw_eq, hm]; exact decide_eq_false (by show ¬ 9218868437227405312 < b; omega)
  have hs : sg .f64 b = false := sg_div .f64 b false (Nat.div_eq_of_lt (by show b < 9223372036854775808; omega))
  refine ⟨hn, ?_⟩
  rcases readk .f64 b hn with ⟨g, _⟩ | ⟨g, _⟩ | ⟨_, _, g⟩
  · rw [hm] at g; have : b = 9218868437227405312 := g; omega
  · rw [hm] at g; have : b < 4503599627370496 := g; omega
  · rw [g, hm, hs]; rfl
def two64 : Option Nat := some 4611686018427387904
theorem read_two : FloatKind.f64.format.read 4611686018427387904 = .number false 4503599627370496 (-51) := by decide
theorem log_n {m : Nat} (h1 : 4503599627370496 ≤ m) (h2 : m < 9007199254740992) : m.log2 = 52 := by
  have h3 : m.log2 < 53 := (Nat.log2_lt (by omega)).2 (by omega)
  have h4 : ¬ m.log2 < 52 := fun hh => by have := (Nat.log2_lt (by omega)).1 hh; omega
  omega
theorem nearest_shift (m d : Nat) (p : Int) (h1 : 4503599627370496 ≤ m) (h2 : m < 9007199254740992) (hd : d ≤ 52) (hlo : -1074 ≤ p + d) (hr : (p + d + 1074).toNat * 4503599627370496 + m ≤ 9218868437227405312) :
    FloatKind.f64.format.nearest false (m * 2 ^ d) p = (p + d + 1074).toNat * 4503599627370496 + m := by
  have hm : m ≠ 0 := by omega
  have hp : 0 < 2 ^ d := Nat.two_pow_pos d
  have hne : m * 2 ^ d ≠ 0 := Nat.mul_ne_zero hm (by omega)
  have hlog : (m * 2 ^ d).log2 = 52 + d := by
    have h3 : (m * 2 ^ d).log2 < 53 + d := (Nat.log2_lt hne).2 (by
      rw [Nat.pow_add]; exact Nat.mul_lt_mul_of_pos_right (by omega) hp)
    have h4 : ¬ (m * 2 ^ d).log2 < 52 + d := fun hh => by
      have h5 := (Nat.log2_lt hne).1 hh
      rw [Nat.pow_add] at h5
      have h6 := Nat.lt_of_mul_lt_mul_right h5
      omega
    omega
  unfold Ieee.Format.nearest
  rw [if_neg hne]
  simp only [fb_eq, lp_eq, bin_eq, infRung_eq, hlog]
  have e1 : max (p + ((52 + d : Nat) : Int) - (fb .f64 : Int)) (lp .f64) = p + d := by simp only [fb, lp]; omega
  rw [e1]
  have e2 : (p - (p + (d : Int))).toNat = 0 := by omega
  have e3 : (p + (d : Int) - p).toNat = d := by omega
  have e4 : (p + (d : Int) - lp .f64).toNat = (p + d + 1074).toNat := by simp only [lp]; omega
  rw [e2, e3, e4, Nat.shiftLeft_zero, cut_exact false _ _ (by rw [hlog]; omega) (Nat.mul_mod_left _ _), Nat.mul_div_cancel _ hp]
  have e5 : (2 : Nat) ^ fb .f64 = 4503599627370496 := rfl
  have e6 : inf .f64 = 9218868437227405312 := rfl
  rw [e5, e6, Nat.min_eq_left hr]
  rfl
theorem map_write (s : Bool) (m : Nat) (p : Int) : Option.map FloatKind.f64.format.write (some (Ieee.Datum.number s m p)) = some (FloatKind.f64.format.nearest s m p) := rfl
theorem halve {b : Nat} (h : NP b) : fop .quo .f64 (some b) two64 = some (b - 4503599627370496) := by
  obtain ⟨h1, h2⟩ := h
  obtain ⟨_, hr⟩ := read_pos (b := b) (by omega) (by omega)
  show FloatKind.f64.format.div b 4611686018427387904 = _
  unfold Ieee.Format.div
  rw [hr, read_two]
  simp only [Ieee.Datum.quotient]
  rw [if_neg (by decide)]
  have hl := log_n (m := 4503599627370496 + b % 4503599627370496) (by omega) (by omega)
  have hd : FloatKind.f64.format.fractionBits + 2 + (4503599627370496 : Nat).log2 - (4503599627370496 + b % 4503599627370496).log2 = 54 := by rw [hl]; decide
  rw [hd]
  have e1 : ((4503599627370496 + b % 4503599627370496) <<< 54) / 4503599627370496 = (4503599627370496 + b % 4503599627370496) * 4 := by
    rw [Nat.shiftLeft_eq]; omega
  have e2 : (((4503599627370496 + b % 4503599627370496) <<< 54) % 4503599627370496 != 0) = false := by
    rw [Nat.shiftLeft_eq]
    have : (4503599627370496 + b % 4503599627370496) * 2 ^ 54 % 4503599627370496 = 0 := by omega
    rw [this]; rfl
  rw [e1, e2, map_write, Bool.toNat_false, Nat.add_zero, Bool.xor_false]
  have e3 : 2 * ((4503599627370496 + b % 4503599627370496) * 4) = (4503599627370496 + b % 4503599627370496) * 2 ^ 3 := by omega
  rw [e3, nearest_shift _ 3 _ (by omega) (by omega) (by omega) (by omega) (by omega)]
  clear e3
  refine congrArg some ?_
  omega
theorem double {b : Nat} (h : NP b) : fop .mul .f64 (some b) two64 = some (b + 4503599627370496) := by
  obtain ⟨h1, h2⟩ := h
  obtain ⟨_, hr⟩ := read_pos (b := b) (by omega) (by omega)
  show FloatKind.f64.format.mul b 4611686018427387904 = _
  unfold Ieee.Format.mul
  rw [hr, read_two]
  simp only [Ieee.Datum.product]
  rw [map_write, Bool.xor_false]
  have e3 : (4503599627370496 + b % 4503599627370496) * 4503599627370496 = (4503599627370496 + b % 4503599627370496) * 2 ^ 52 := by omega
  rw [e3, nearest_shift _ 52 _ (by omega) (by omega) (by omega) (by omega) (by omega)]
  clear e3
  refine congrArg some ?_
  omega
theorem order_pos {b c : Nat} (h1 : 4503599627370496 ≤ b) (h2 : b < 9218868437227405312) (h3 : 4503599627370496 ≤ c) (h4 : c < 9218868437227405312) : FloatKind.f64.format.order b c = some (compare (b : Int) (c : Int)) := by
  unfold Ieee.Format.order
  rw [(read_pos h1 h2).2, (read_pos h3 h4).2, order_norm _ _ _ _ 4503599627370496 (by omega) (by omega) (by omega) (by omega)]
  congr 1
  by_cases hlt : -1074 + ((b / 4503599627370496 - 1 : Nat) : Int) < -1074 + ((c / 4503599627370496 - 1 : Nat) : Int)
  · rw [if_pos hlt]; exact (Int.compare_eq_lt.2 (by omega)).symm
  · rw [if_neg hlt]
    by_cases hgt : -1074 + ((c / 4503599627370496 - 1 : Nat) : Int) < -1074 + ((b / 4503599627370496 - 1 : Nat) : Int)
    · rw [if_pos hgt]; exact (Int.compare_eq_gt.2 (by omega)).symm
    · rw [if_neg hgt]
      rcases ord3 (b : Int) (c : Int) with ⟨f, k⟩ | ⟨f, k⟩ | ⟨f, k⟩
      · rw [f]; exact Int.compare_eq_lt.2 (by omega)
      · rw [f]; exact Int.compare_eq_eq.2 (by omega)
      · rw [f]; exact Int.compare_eq_gt.2 (by omega)
theorem geq_top {b : Nat} (h : NP b) : fcmp .geq .f64 (some b) (some 4609434218613702656) = decide (4609434218613702656 ≤ b) := by
  rw [geq_eq, order_pos (by have := h.1; omega) (by have := h.2; omega) (by decide) (by decide)]
  rcases ord3 (b : Int) ((4609434218613702656 : Nat) : Int) with ⟨f, k⟩ | ⟨f, k⟩ | ⟨f, k⟩ <;> rw [f]
  · rw [decide_eq_false (by omega)]; rfl
  · rw [decide_eq_true (by omega)]; rfl
  · rw [decide_eq_true (by omega)]; rfl
theorem lss_bottom {b : Nat} (h : NP b) : fcmp .lss .f64 (some b) (some 4604930618986332160) = decide (b < 4604930618986332160) := by
  rw [lss_eq, order_pos (by have := h.1; omega) (by have := h.2; omega) (by decide) (by decide)]
  rcases ord3 (b : Int) ((4604930618986332160 : Nat) : Int) with ⟨f, k⟩ | ⟨f, k⟩ | ⟨f, k⟩ <;> rw [f]
  · rw [decide_eq_true (by omega)]; rfl
  · rw [decide_eq_false (by omega)]; rfl
  · rw [decide_eq_false (by omega)]; rfl

/-- 'b' is what is left of 'b0' behind 'e' halvings. -/
def Red (b0 b : Nat) (e : Int) : Prop := (b : Int) + e * 4503599627370496 = b0 ∧ -200 ≤ e ∧ e ≤ 200 ∧ 3703599627370496000 ≤ b ∧ b < 5200000000000000000
theorem Red.np {b0 b : Nat} {e : Int} (h : Red b0 b e) : NP b := by unfold Red at h; unfold NP; omega
theorem Red.lt {b0 b : Nat} {e : Int} (h : Red b0 b e) : b < 2 ^ 64 := by unfold Red at h; omega
/-- From which numbers it goes: those of 32 bits. -/
def Start (b : Nat) : Prop := 3934000000000000000 ≤ b ∧ b < 5184000000000000000
theorem Red.start {b : Nat} (h : Start b) : Red b b 0 := by unfold Start at h; unfold Red; omega
theorem Red.halve {b0 b : Nat} {e : Int} (h : Red b0 b e) (hs : Start b0) (hb : 4609434218613702656 ≤ b) : Red b0 (b - 4503599627370496) (e + 1) := by
  unfold Red at *; unfold Start at hs; omega
theorem Red.double {b0 b : Nat} {e : Int} (h : Red b0 b e) (hs : Start b0) (hb : b < 4604930618986332160) : Red b0 (b + 4503599627370496) (e - 1) := by
  unfold Red at *; unfold Start at hs; omega
/-- The end: it is one number and one count. -/
def RedEnd (b0 b : Nat) (e : Int) : Prop := Red b0 b e ∧ 4604930618986332160 ≤ b ∧ b < 4609434218613702656
theorem RedEnd.unique {b0 b c : Nat} {e f : Int} (h : RedEnd b0 b e) (g : RedEnd b0 c f) : b = c ∧ e = f := by
  unfold RedEnd Red at *; omega

/-! ## What is computed -/
def qA (u : Option Nat) : Nat → Option Nat
  | 0 => some 0
  | j + 1 => fop .add .f64 (fop .quo .f64 one64 (some (floatOfInt .f64 (25 - 2 * (j : Int))))) (fop .mul .f64 u (qA u j))
def logS (b : Nat) : Option Nat := fop .quo .f64 (fop .sub .f64 (some b) one64) (fop .add .f64 (some b) one64)
def logT (s : Option Nat) (e : Int) : Option Nat := fop .add .f64 (fop .mul .f64 two64 (fop .mul .f64 s (qA (fop .mul .f64 s s) 13))) (fop .mul .f64 (some (floatOfInt .f64 e)) (some 4604418534313441775))
def logF (b : Nat) (e : Int) : Option Nat := logT (logS b) e
theorem two_fin : FinB .f64 1 two64 := fin_lit .f64 _ 1 false 4503599627370496 (-51) (by decide) (by decide) (by decide)
theorem ln_fin : FinB .f64 0 (some 4604418534313441775) := fin_lit .f64 _ 0 false 6243314768165359 (-53) (by decide) (by decide) (by decide)
theorem int_fin {e : Int} {B : Nat} (h : e.natAbs ≤ 2 ^ B) (hB : B ≤ 1000) : FinB .f64 B (some (floatOfInt .f64 e)) := by
  refine ⟨_, rfl, ?_⟩
  show LeD B (FloatKind.f64.format.read (FloatKind.f64.format.write (.number (e < 0) e.natAbs 0)))
  exact round_le (k := .f64) ⟨_, _, _, rfl, .inr ⟨by omega, by simpa using h⟩⟩ (by simp only [lp, fb]; omega) (by simp only [em]; omega)
theorem qA_fin {u : Option Nat} (hu : FinB .f64 6 u) : ∀ j : Nat, j ≤ 13 → FinB .f64 (7 * (j : Int)) (qA u j)
  | 0, _ => zero_fin _
  | j + 1, h => by
    have h1 := qA_fin hu j (by omega)
    have h2 := hu.mul h1 (by simp only [lp, fb]; omega) (by simp only [em]; omega)
    have e : (25 - 2 * (j : Int)) = ((25 - 2 * j : Nat) : Int) := by omega
    have hk : (25 - 2 * j).log2 ≤ 52 := by
      have : (25 - 2 * j).log2 < 5 := (Nat.log2_lt (by omega)).2 (by omega)
      omega
    have h3 : FinB .f64 0 (fop .quo .f64 one64 (some (floatOfInt .f64 (25 - 2 * (j : Int))))) := by
      rw [e]
      obtain ⟨⟨b, hb, s, m, p, g1, g2, g3⟩, _⟩ := int_ge (25 - 2 * j) (by omega) hk
      exact one_fin.quo (D := 0) ⟨b, hb, s, m, p, g1, g2, by omega⟩ (by decide) (by decide)
    have h4 := (h3.mono (B := 6 + 7 * (j : Int)) (by omega)).add h2 (by simp only [lp, fb]; omega) (by simp only [em]; omega)
    exact h4.mono (by omega)
theorem logF_fin {b0 b : Nat} {e : Int} (h : RedEnd b0 b e) : FinB .f64 97 (logF b e) := by
  obtain ⟨⟨_, h1, h2, _, _⟩, h3, h4⟩ := h
  obtain ⟨_, hr⟩ := read_pos (b := b) (by omega) (by omega)
  have hx : FinB .f64 1 (some b) := ⟨b, rfl, _, _, _, hr, .inr ⟨by omega, Nat.le_trans (Nat.le_of_lt (show 4503599627370496 + b % 4503599627370496 < 2 ^ 53 by omega)) (pow_mono (by omega))⟩⟩
  have hp : PosB .f64 (some b) := ⟨b, rfl, _, _, hr⟩
  have hg : GeB .f64 (-1) (some b) := ⟨b, rfl, _, _, _, hr, by omega, by rw [log_n (by omega) (by omega)]; omega⟩
  have q1 := hx.sub (one_fin.mono (B := 1) (by decide)) (by decide) (by decide)
  have q2 := GeB.add hx (one_fin.mono (B := 1) (by decide)) (by decide) (by decide) hp one_pos hg (by decide)
  have q3 : FinB .f64 3 (logS b) := q1.quo q2.1 (by decide) (by decide)
  have q4 := q3.mul q3 (by decide) (by decide)
  have q5 := qA_fin q4 13 (by decide)
  have q6 := q3.mul q5 (by decide) (by decide)
  have q7 := two_fin.mul q6 (by decide) (by decide)
  have q8 := int_fin (e := e) (B := 8) (by omega) (by decide)
  have q9 := q8.mul ln_fin (by decide) (by decide)
  have q10 := (q7.mono (B := 96) (by decide)).add (q9.mono (B := 96) (by decide)) (by decide) (by decide)
  exact q10.mono (by decide)

/-! ## Steps, as the walk meets them -/
def fbits (v : Value) : Nat := match v with | .float _ b => b | _ => 0
def room (v : Value) : Nat := 9223372036854775808 - fbits v
theorem is_word {r W : Nat} (h : Is .f64 r (some W)) : r = W := by
  have h4 := h.1
  unfold cn at h4
  split at h4
  · cases h4
  · exact Option.some.inj h4
theorem Red.bd {b0 b : Nat} {k : Int} (h : Red b0 b k) : -200 ≤ k ∧ k ≤ 200 := by unfold Red at h; omega
def topB (b : Nat) : Prop := b < 4609434218613702656
theorem halve_step {b0 b r : Nat} {k : Int} (hr : Is .f64 r (fop .quo .f64 (some b) two64)) (h : Red b0 b k) (hs : Start b0) (hge : fcmp .geq .f64 (some b) (some 4609434218613702656) = true) :
    Is .f64 r (some r) ∧ Red b0 r (k + 1) ∧ fbits (.float .f64 r) < fbits (.float .f64 b) := by
  rw [geq_top h.np] at hge
  have hge := of_decide_eq_true hge
  rw [_root_.Go.Proofs.Ytnkcaiifohplaab.Fl.halve h.np] at hr
  have e := is_word hr
  have hr2 : Is .f64 r (some r) := by rw [← e] at hr; exact hr
  refine ⟨hr2, by rw [e]; exact h.halve hs hge, ?_⟩
  show r < b
  omega
theorem double_step {b0 b r : Nat} {k : Int} (hr : Is .f64 r (fop .mul .f64 (some b) two64)) (h : Red b0 b k) (hs : Start b0) (hlt : fcmp .lss .f64 (some b) (some 4604930618986332160) = true) :
    Is .f64 r (some r) ∧ Red b0 r (k - 1) ∧ topB r ∧ room (.float .f64 r) < room (.float .f64 b) := by
  rw [lss_bottom h.np] at hlt
  have hlt := of_decide_eq_true hlt
  rw [_root_.Go.Proofs.Ytnkcaiifohplaab.Fl.double h.np] at hr
  have e := is_word hr
  have hr2 : Is .f64 r (some r) := by rw [← e] at hr; exact hr
  refine ⟨hr2, by rw [e]; exact h.double hs hlt, by unfold topB; omega, ?_⟩
  show 9223372036854775808 - r < 9223372036854775808 - b
  omega
theorem top_of {b0 b : Nat} {k : Int} (h : Red b0 b k) (hge : fcmp .geq .f64 (some b) (some 4609434218613702656) = false) : topB b := by
  rw [geq_top h.np] at hge
  have := of_decide_eq_false hge
  unfold topB; omega
theorem end_of {b0 b : Nat} {k : Int} (h : Red b0 b k) (ht : topB b) (hlt : fcmp .lss .f64 (some b) (some 4604930618986332160) = false) : RedEnd b0 b k := by
  rw [lss_bottom h.np] at hlt
  have := of_decide_eq_false hlt
  exact ⟨h, by omega, ht⟩
/-- Positive 32-bit numbers, widened. -/
theorem start_of {b : Nat} (h : nanw .f32 b = false) (hf : b % 2147483648 < 2139095040) (h0 : b % 2147483648 ≠ 0) (hs : sg .f32 b = false) : ∃ W, fconv .f32 .f64 (some b) = some W ∧ nanw .f64 W = false ∧ Start W := by
  have hcv : fconv .f32 .f64 (some b) = some (FloatKind.f64.format.write (FloatKind.f32.format.read b)) := rfl
  have key : ∀ (m : Nat) (p : Int), m ≠ 0 → m < 16777216 → -149 ≤ p → p ≤ 104 → FloatKind.f32.format.read b = .number false m p → ∃ W, fconv .f32 .f64 (some b) = some W ∧ nanw .f64 W = false ∧ Start W := by
    intro m p hm hm2 hp1 hp2 e
    have hl := log_lt hm hm2
    obtain ⟨b1, b2⟩ := shl_bd (F := 52) hm (by omega)
    have hne := nearest_exact .f64 false m p hm (by simp only [fb]; omega) (by simp only [fb, lp]; omega)
    refine ⟨FloatKind.f64.format.nearest false m p, by rw [hcv, e]; rfl, write_nan .f64 (.number false m p) rfl, ?_⟩
    rw [hne]
    have e1 : fb .f64 = 52 := rfl
    have e2 : inf .f64 = 9218868437227405312 := rfl
    have e3 : lp .f64 = -1074 := rfl
    rw [e1, e2, e3]
    generalize m <<< (52 - m.log2) = S at b1 b2 ⊢
    have e4 : ∀ R : Nat, FloatKind.f64.format.word false R = R := fun R => rfl
    rw [e4]
    have b1' : 4503599627370496 ≤ S := b1
    have b2' : S < 9007199254740992 := b2
    have e5 : (2 : Nat) ^ 52 = 4503599627370496 := rfl
    rw [e5]
    have q1 : 873 ≤ (p + (m.log2 : Int) - ((52 : Nat) : Int) - -1074).toNat := by omega
    have q2 : (p + (m.log2 : Int) - ((52 : Nat) : Int) - -1074).toNat ≤ 1149 := by omega
    clear b1 b2 hne e1 e2 e3 e4 e5 hl hp1 hp2 hm2
    generalize (p + (m.log2 : Int) - ((52 : Nat) : Int) - -1074).toNat = q at q1 q2
    have h3 : q * 4503599627370496 + S ≤ 9218868437227405312 := by omega
    rw [Nat.min_eq_left h3]
    exact ⟨by omega, by omega⟩
  rcases readk .f32 b h with ⟨g, _⟩ | ⟨g, e⟩ | ⟨g1, g2, e⟩
  · have : b % 2147483648 = 2139095040 := g
    omega
  · have g' : b % 2147483648 < 8388608 := g
    rw [hs] at e
    exact key _ _ h0 (by show b % 2147483648 < 16777216; omega) (by decide) (by decide) e
  · have g1' : 8388608 ≤ b % 2147483648 := g1
    rw [hs] at e
    refine key _ _ ?_ ?_ ?_ ?_ e
    · show 8388608 + b % 2147483648 % 8388608 ≠ 0; omega
    · show 8388608 + b % 2147483648 % 8388608 < 16777216; omega
    · show -149 ≤ -149 + ((b % 2147483648 / 8388608 - 1 : Nat) : Int); omega
    · show -149 + ((b % 2147483648 / 8388608 - 1 : Nat) : Int) ≤ 104; omega
end Go.Proofs.Ytnkcaiifohplaab.Fl
