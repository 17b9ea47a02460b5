/- Tenths: the logarithm, tighter; floors, and integers of them. -/
import Derived.Test.YtnkcaiifohplaabLh
namespace Go.Proofs.Ytnkcaiifohplaab.Fl
open Go
theorem sub_one {b0 b : Nat} {e : Int} (h : RedEnd b0 b e) : FinB .f64 0 (fop .sub .f64 (some b) one64) := by
  obtain ⟨_, h3, h4⟩ := h
  obtain ⟨_, hr⟩ := read_pos (b := b) (by omega) (by omega)
  have h1 : FloatKind.f64.format.read 4607182418800017408 = .number false 4503599627370496 (-52) := by decide
  have hq : b / 4503599627370496 = 1022 ∨ b / 4503599627370496 = 1023 := by omega
  have key : ∀ (m : Nat) (i : Int), (i = -53 ∧ m < 9007199254740992) ∨ (i = -52 ∧ m < 9007199254740992) → ∃ d, (Ieee.Datum.number false m i).sum (.number true 4503599627370496 (-52)) = some d ∧ LeD 0 d := by
    intro m i hi
    refine ⟨_, rfl, _, _, _, rfl, .inr ?_⟩
    rw [signed_false, signed_true]
    rcases hi with ⟨rfl, hm⟩ | ⟨rfl, hm⟩
    · refine ⟨by decide, ?_⟩
      have e1 : ((-53 : Int) - min (-53) (-52)).toNat = 0 := by decide
      have e2 : ((-52 : Int) - min (-53) (-52)).toNat = 1 := by decide
      have e3 : ((0 : Int) - min (-53) (-52)).toNat = 53 := by decide
      rw [e1, e2, e3]
      omega
    · refine ⟨by decide, ?_⟩
      have e1 : ((-52 : Int) - min (-52) (-52)).toNat = 0 := by decide
      have e3 : ((0 : Int) - min (-52) (-52)).toNat = 52 := by decide
      rw [e1, e3]
      omega
  obtain ⟨d, hd, hl⟩ := key (4503599627370496 + b % 4503599627370496) (-1074 + ((b / 4503599627370496 - 1 : Nat) : Int)) (by
    rcases hq with hq | hq
    · left; rw [hq]; exact ⟨by decide, by omega⟩
    · right; rw [hq]; exact ⟨by decide, by omega⟩)
  refine ⟨FloatKind.f64.format.write d, ?_, round_le (k := .f64) hl (by decide) (by decide)⟩
  show FloatKind.f64.format.sub b 4607182418800017408 = _
  unfold Ieee.Format.sub
  rw [hr, h1]
  have ho : (Ieee.Datum.number false 4503599627370496 (-52)).opposite = .number true 4503599627370496 (-52) := rfl
  rw [ho, hd]; rfl
def tenF (l : Option Nat) : Option Nat := fop .add .f64 (fop .mul .f64 l (some 4631308968768463603)) (some 4602678819172646912)
theorem ten_fin1 : FinB .f64 6 (some 4631308968768463603) := fin_lit .f64 _ 6 false 6112151458964211 (-47) (by decide) (by decide) (by decide)
theorem qA_fin2 {u : Option Nat} (hu : FinB .f64 2 u) : ∀ j : Nat, j ≤ 13 → FinB .f64 (3 * (j : Int)) (qA u j)
  | 0, _ => zero_fin _
  | j + 1, h => by
    have h1 := qA_fin2 hu j (by omega)
    have h2 := hu.mul h1 (by simp only [lp, fb]; omega) (by simp only [em]; omega)
    have e : (25 - 2 * (j : Int)) = ((25 - 2 * j : Nat) : Int) := by omega
    have hk : (25 - 2 * j).log2 ≤ 52 := by
      have : (25 - 2 * j).log2 < 5 := (Nat.log2_lt (by omega)).2 (by omega)
      omega
    have h3 : FinB .f64 0 (fop .quo .f64 one64 (some (floatOfInt .f64 (25 - 2 * (j : Int))))) := by
      rw [e]
      obtain ⟨⟨b, hb, s, m, p, g1, g2, g3⟩, _⟩ := int_ge (25 - 2 * j) (by omega) hk
      exact one_fin.quo (D := 0) ⟨b, hb, s, m, p, g1, g2, by omega⟩ (by decide) (by decide)
    have h4 := (h3.mono (B := 2 + 3 * (j : Int)) (by omega)).add h2 (by simp only [lp, fb]; omega) (by simp only [em]; omega)
    exact h4.mono (by omega)
theorem tenF_fin {b0 b : Nat} {e : Int} (h : RedEnd b0 b e) : FinB .f64 49 (tenF (logF b e)) := by
  have q1 := sub_one h
  obtain ⟨⟨_, h1, h2, _, _⟩, h3, h4⟩ := h
  obtain ⟨_, hr⟩ := read_pos (b := b) (by omega) (by omega)
  have hx : FinB .f64 1 (some b) := ⟨b, rfl, _, _, _, hr, .inr ⟨by omega, Nat.le_trans (Nat.le_of_lt (show 4503599627370496 + b % 4503599627370496 < 2 ^ 53 by omega)) (pow_mono (by omega))⟩⟩
  have hp : PosB .f64 (some b) := ⟨b, rfl, _, _, hr⟩
  have hg : GeB .f64 (-1) (some b) := ⟨b, rfl, _, _, _, hr, by omega, by rw [log_n (by omega) (by omega)]; omega⟩
  have q2 := GeB.add hx (one_fin.mono (B := 1) (by decide)) (by decide) (by decide) hp one_pos hg (by decide)
  have q3 : FinB .f64 1 (logS b) := q1.quo q2.1 (by decide) (by decide)
  have q4 := q3.mul q3 (by decide) (by decide)
  have q5 := qA_fin2 q4 13 (by decide)
  have q6 := q3.mul q5 (by decide) (by decide)
  have q7 := two_fin.mul q6 (by decide) (by decide)
  have q8 := int_fin (e := e) (B := 8) (by omega) (by decide)
  have q9 := q8.mul ln_fin (by decide) (by decide)
  have q10 := (q7.mono (B := 41) (by decide)).add (q9.mono (B := 41) (by decide)) (by decide) (by decide)
  have q11 := q10.mul ten_fin1 (by decide) (by decide)
  have q12 := (q11.mono (B := 48) (by decide)).add (half_fin.mono (B := 48) (by decide)) (by decide) (by decide)
  exact q12.mono (by decide)

/-! ## Floors -/
def floorW (b : Nat) : Nat := FloatKind.f64.encode ((FloatKind.f64.decode b).integral .down)
theorem cut_down_le (s : Bool) (n drop : Nat) : Ieee.Toward.down.cut s n drop ≤ n / 2 ^ drop + 1 := by
  unfold Ieee.Toward.cut
  dsimp only
  rw [Nat.shiftLeft_eq, Nat.one_mul]
  by_cases h : drop ≤ n.log2 + 2
  · rw [Nat.min_eq_left h]
    have := Bool.toNat_le (s && n % 2 ^ drop != 0)
    omega
  · rw [Nat.min_eq_right (by omega)]
    have h1 : n < 2 ^ (n.log2 + 2) := Nat.lt_trans Nat.lt_log2_self (Nat.pow_lt_pow_right (by omega) (by omega))
    rw [Nat.div_eq_of_lt h1]
    have h5 := Bool.toNat_le (s && n % 2 ^ (n.log2 + 2) != 0)
    rw [Nat.zero_add]
    exact Nat.le_trans h5 (Nat.le_add_left 1 _)
theorem floor_int {b : Nat} (h : LeD 49 (FloatKind.f64.format.read b)) : (∃ s m p, FloatKind.f64.format.read b = .number s m p) ∧ ∃ n, floatToIntVal .f64 (floorW b) .i64 = some n := by
  obtain ⟨s, m, p, hr, hle⟩ := h
  refine ⟨⟨s, m, p, hr⟩, ?_⟩
  have hf : floorW b = FloatKind.f64.format.nearest s (Ieee.Toward.down.cut s (m <<< p.toNat) (-p).toNat) 0 := by
    unfold floorW
    show FloatKind.f64.format.write ((FloatKind.f64.format.read b).integral .down) = _
    rw [hr]; rfl
  have hn : (m <<< p.toNat) / 2 ^ (-p).toNat ≤ 2 ^ 49 := by
    rw [Nat.shiftLeft_eq]
    rcases hle with hle | ⟨g1, g2⟩
    · rw [hle, Nat.zero_mul, Nat.zero_div]; exact Nat.zero_le _
    · by_cases hp : 0 ≤ p
      · have e1 : (-p).toNat = 0 := by omega
        rw [e1, Nat.pow_zero, Nat.div_one]
        calc m * 2 ^ p.toNat ≤ 2 ^ (49 - p).toNat * 2 ^ p.toNat := Nat.mul_le_mul_right _ g2
          _ = 2 ^ 49 := by rw [← Nat.pow_add]; congr 1; omega
      · have e1 : p.toNat = 0 := by omega
        rw [e1, Nat.pow_zero, Nat.mul_one]
        apply Nat.div_le_of_le_mul
        calc m ≤ 2 ^ (49 - p).toNat := g2
          _ = 2 ^ (-p).toNat * 2 ^ 49 := by rw [← Nat.pow_add]; congr 1; omega
  have hM := cut_down_le s (m <<< p.toNat) (-p).toNat
  generalize Ieee.Toward.down.cut s (m <<< p.toNat) (-p).toNat = M at hM hf
  have hM2 : M < 4503599627370496 := by
    have e : (2 : Nat) ^ 49 = 562949953421312 := rfl
    rw [e] at hn
    omega
  rw [hf]
  by_cases hM0 : M = 0
  · subst hM0
    have hr2 : FloatKind.f64.format.read (FloatKind.f64.format.nearest s 0 0) = .number s 0 (-1074) := by rw [nearest_zero, read_zero]; rfl
    refine ⟨_, (part_le hr2 ?_).1⟩
    rw [Nat.zero_shiftLeft, Nat.zero_div]; decide
  · have hlog : M.log2 < 52 := (Nat.log2_lt hM0).2 (by omega)
    have hr2 := read_nearest .f64 s M 0 hM0 (by simp only [fb]; omega) (by simp only [fb, lp]; omega) (by simp only [em]; omega)
    refine ⟨_, (part_le hr2 ?_).1⟩
    simp only [fb]
    have e1 : (0 + (M.log2 : Int) - ((52 : Nat) : Int)).toNat = 0 := by omega
    have e2 : (-(0 + (M.log2 : Int) - ((52 : Nat) : Int))).toNat = 52 - M.log2 := by omega
    rw [e1, e2, Nat.shiftLeft_zero, Nat.shiftLeft_eq, Nat.mul_div_cancel _ (Nat.two_pow_pos _)]
    exact hM2
section
variable {P : Program} (w : World)
theorem run_floor {b : Nat} {s : Bool} {m : Nat} {p : Int} (hr : FloatKind.f64.format.read b = .number s m p) : (Extern.MathFloor.toIntegral "math.archFloor" .down #[.float .f64 b]).run P w = .ok (.float .f64 (floorW b)) w := by
  have hrun : ∀ d, FloatKind.f64.decode b = d → (Extern.MathFloor.toIntegral "math.archFloor" .down #[.float .f64 b]) = (match d with
    | .nan s t =>
      if FloatKind.f64.format.quiet t = t then pure (.float .f64 b) else do
      let kept ← choose (.extern "math.Floor,Ceil,Trunc,RoundToEven.signallingNaN kept" 2)
      pure (.float .f64 (if kept == 1 then b else FloatKind.f64.encode (.nan s (FloatKind.f64.format.quiet t))))
    | d => pure (.float .f64 (FloatKind.f64.encode (d.integral .down)))) := fun d h => by rw [← h]; rfl
  have hd : FloatKind.f64.decode b = .number s m p := hr
  rw [hrun _ hd]
  unfold floorW
  rw [hd]
  rfl
end
end Go.Proofs.Ytnkcaiifohplaab.Fl
