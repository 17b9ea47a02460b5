/- The angle of a point, told of its two numbers. -/
import Derived.Test.YtnkcaiifohplaadAn
namespace Go.Proofs.Ytnkcaiifohplaad.Fl
open Go
/-- Both numbers finite, not both zero: what the tests say, and how great the angle can be. -/
theorem order_le_gt (a b : Nat) (ha : Pos (FloatKind.f64.format.read a)) (hb : Pos (FloatKind.f64.format.read b)) (h : FloatKind.f64.format.order a b = some .gt) : FloatKind.f64.format.order b a ≠ some .gt := by
  obtain ⟨m, i, ea⟩ := ha
  obtain ⟨n, j, eb⟩ := hb
  unfold Ieee.Format.order at h ⊢
  rw [ea, eb] at h
  rw [ea, eb]
  simp only [Ieee.Datum.order, signed_false] at h ⊢
  have h1 := (Int.compare_eq_gt).1 (Option.some.inj h)
  rw [Int.min_comm]
  intro h2
  have h3 := (Int.compare_eq_gt).1 (Option.some.inj h2)
  omega
/-- The absolute value of a finite number, widened. -/
theorem abs_info (b : Nat) (h : nanw .f32 b = false) (hf : b % 2147483648 < 2139095040) : ∃ W, fabs (fconv .f32 .f64 (some b)) = some W ∧ nanw .f64 W = false ∧ Pos (FloatKind.f64.format.read W) ∧ (W % sgn .f64 = 0 ↔ b % 2147483648 = 0) := by
  obtain ⟨V, hV, hnV, _, h0, _⟩ := widen_info b h
  obtain ⟨W, hW, hn, hc⟩ := widen_abs b h
  have e : W = V % 9223372036854775808 := by
    rw [hV] at hW; exact (Option.some.inj hW).symm
  refine ⟨W, hW, hn, ?_, ?_⟩
  · rcases hc with ⟨h1, _⟩ | ⟨_, h2⟩ | ⟨_, _, m, p, _, _, _, _, _, _, h2⟩
    · omega
    · exact ⟨_, _, h2⟩
    · exact ⟨_, _, h2⟩
  · have e2 : W % sgn .f64 = V % sgn .f64 := by rw [e]; exact Nat.mod_mod _ _
    rw [e2]; exact h0
theorem gtr_eq (u v : Nat) : fcmp .gtr .f64 (some u) (some v) = (FloatKind.f64.format.order u v == some .gt) := rfl
theorem steep_fin {x y : Nat} (hx : nanw .f32 x = false) (hy : nanw .f32 y = false) (fx : x % 2147483648 < 2139095040) (fy : y % 2147483648 < 2139095040) (hz : ¬ (y % 2147483648 = 0 ∧ x % 2147483648 = 0)) :
    FinB .f64 27 (steepF (fcmp .gtr .f64 (fabs (fconv .f32 .f64 (some y))) (fabs (fconv .f32 .f64 (some x)))) (fabs (fconv .f32 .f64 (some y))) (fabs (fconv .f32 .f64 (some x)))) := by
  obtain ⟨a, ea, na, pa, za⟩ := abs_info y hy fy
  obtain ⟨b, eb, nb, pb, zb⟩ := abs_info x hx fx
  rw [ea, eb, gtr_eq]
  by_cases hgt : FloatKind.f64.format.order a b = some .gt
  · rw [hgt]
    have ha0 : a % sgn .f64 ≠ 0 := by
      intro h
      have hm : ∃ p, FloatKind.f64.format.read a = .number false 0 p := by
        obtain ⟨m, p, e⟩ := pa
        rcases readk .f64 a na with ⟨_, h2⟩ | ⟨_, h2⟩ | ⟨h1, _, _⟩
        · rw [e] at h2; cases h2
        · rw [h] at h2; rw [e] at h2
          have h3 := (Ieee.Datum.number.inj h2).2.1
          rw [h3] at e; exact ⟨p, e⟩
        · have := Nat.two_pow_pos (fb .f64); omega
      obtain ⟨p, e⟩ := hm
      obtain ⟨n, j, e2⟩ := pb
      unfold Ieee.Format.order at hgt
      rw [e, e2] at hgt
      simp only [Ieee.Datum.order, signed_false, Nat.zero_mul] at hgt
      have h1 := (Int.compare_eq_gt).1 (Option.some.inj hgt)
      omega
    have h1 := ratio pb pa ha0 na (order_le_gt a b pa pb hgt)
    have h2 := angle0_fin (tsteps_ok h1 3)
    exact (quarter_fin.mono (B := 26) (by decide)).sub h2 (by decide) (by decide)
  · have hb0 : b % sgn .f64 ≠ 0 := by
      intro h
      have hx0 := zb.1 h
      have hm : ∃ p, FloatKind.f64.format.read b = .number false 0 p := by
        obtain ⟨m, p, e⟩ := pb
        rcases readk .f64 b nb with ⟨_, h2⟩ | ⟨_, h2⟩ | ⟨h1, _, _⟩
        · rw [e] at h2; cases h2
        · rw [h] at h2; rw [e] at h2
          have h3 := (Ieee.Datum.number.inj h2).2.1
          rw [h3] at e; exact ⟨p, e⟩
        · have := Nat.two_pow_pos (fb .f64); omega
      obtain ⟨p, e⟩ := hm
      have ha0 : a % sgn .f64 ≠ 0 := fun h4 => hz ⟨za.1 h4, hx0⟩
      obtain ⟨n, j, e2⟩ := pa
      have hn0 : n ≠ 0 := by
        rcases readk .f64 a na with ⟨_, h2⟩ | ⟨_, h2⟩ | ⟨h1, _, h2⟩
        · rw [e2] at h2; cases h2
        · rw [e2] at h2; have := (Ieee.Datum.number.inj h2).2.1; omega
        · rw [e2] at h2; have := (Ieee.Datum.number.inj h2).2.1; have := Nat.two_pow_pos (fb .f64); omega
      apply hgt
      unfold Ieee.Format.order
      rw [e, e2]
      simp only [Ieee.Datum.order, signed_false, Nat.zero_mul]
      have h5 : 0 < n * 2 ^ (j - min j p).toNat := Nat.mul_pos (Nat.pos_of_ne_zero hn0) (Nat.two_pow_pos _)
      rw [(Int.compare_eq_gt).2 (by omega)]
    have hb : (FloatKind.f64.format.order a b == some .gt) = false := by simpa using hgt
    rw [hb]
    exact (angle0_fin (tsteps_ok (ratio pa pb hb0 nb hgt) 3)).mono (by decide)
def angW (over nx ny : Bool) (a b : Option Nat) : Option Nat := downF ny (leftF nx (steepF over a b))
theorem angW_fits {over nx ny : Bool} {a b : Option Nat} (h : FinB .f64 27 (steepF over a b)) (hl : ∀ c, steepF over a b = some c → c < 2 ^ 64) : Fits .f64 .f32 (angW over nx ny a b) := by
  have h1 : FinB .f64 28 (leftF nx (steepF over a b)) := by
    cases nx
    · exact h.mono (by decide)
    · exact (half_fin.mono (B := 27) (by decide)).sub h (by decide) (by decide)
  have h2 : ∀ c, leftF nx (steepF over a b) = some c → c < 2 ^ 64 := by
    cases nx
    · exact hl
    · intro c hc
      have hc' : fop .sub .f64 (some 4602678819172646912) (steepF over a b) = some c := hc
      obtain ⟨s, hs, _⟩ := h
      rw [hs] at hc'
      exact floatBits_lt (op := .sub) (k := .f64) hc'
  cases ny
  · exact h1.fits (by decide)
  · obtain ⟨c, hc, hle⟩ := h1
    have := neg_read (k := .f64) (h2 c hc) hle
    refine FinB.fits (B := 28) ⟨Op.negFloat .f64 c, ?_, this⟩ (by decide)
    show fneg .f64 (leftF nx (steepF over a b)) = _
    rw [hc]; rfl
theorem steep_lt {over : Bool} {a b : Option Nat} (c : Nat) (h : steepF over a b = some c) : c < 2 ^ 64 := by
  have key : ∀ (op : BinOp) (u v : Option Nat), fop op .f64 u v = some c → c < 2 ^ 64 := by
    intro op u v h
    cases u with
    | none => cases h
    | some u =>
      cases v with
      | none => cases h
      | some v => exact floatBits_lt (op := op) (k := .f64) h
  cases over
  · exact key _ _ _ h
  · exact key _ _ _ h

/-! ## The same tests on 32-bit numbers and on 64-bit ones -/
theorem dec_congr {p q : Prop} [Decidable p] [Decidable q] (h : p ↔ q) : decide p = decide q := by
  by_cases hp : p
  · rw [decide_eq_true hp, decide_eq_true (h.1 hp)]
  · rw [decide_eq_false hp, decide_eq_false (fun hq => hp (h.2 hq))]
theorem widen_eql {b : Nat} (h : nanw .f32 b = false) : fcmp .eql .f64 (fconv .f32 .f64 (some b)) (some 0) = fcmp .eql .f32 (some b) (some 0) := by
  obtain ⟨W, hW, hn, _, h0, _⟩ := widen_info b h
  rw [hW, eql_zero hn, eql_zero h]
  exact dec_congr h0
theorem widen_lss {b : Nat} (h : nanw .f32 b = false) : fcmp .lss .f64 (fconv .f32 .f64 (some b)) (some 0) = fcmp .lss .f32 (some b) (some 0) := by
  obtain ⟨W, hW, hn, hs, h0, _⟩ := widen_info b h
  rw [hW, lss_zero hn, lss_zero h, hs]
  congr 1
  exact dec_congr (not_congr h0)
theorem widen_sub {b : Nat} (h : nanw .f32 b = false) : fcmp .neq .f64 (fop .sub .f64 (fconv .f32 .f64 (some b)) (fconv .f32 .f64 (some b))) (some 0) = !(decide (b % 2147483648 < 2139095040)) := by
  obtain ⟨W, hW, hn, _, _, hi⟩ := widen_info b h
  rw [hW, neq_not, sub_self' hn]
  congr 1
  exact dec_congr hi
end Go.Proofs.Ytnkcaiifohplaad.Fl
