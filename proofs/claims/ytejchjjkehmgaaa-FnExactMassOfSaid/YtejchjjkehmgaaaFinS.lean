/- spec.l01Finite says whether a number is finite. -/
import Derived.Test.YtejchjjkehmgaaaFin
namespace Go.Proofs.Ytejchjjkehmgaaa.Fl
open Go Go.RowKit
set_option linter.unusedVariables false
/-- What is taken from itself is zero, if it is finite. -/
theorem sub_self {x : Nat} {v : Option Nat} (hx : Is .f32 x v) : fcmp .eql .f32 (fop .sub .f32 v v) (some 0) = finF v := by
  rcases Is_cases hx.2 with h | h
  · obtain rfl : none = v := h.1.symm.trans hx.1
    rfl
  · obtain rfl : some x = v := h.1.symm.trans hx.1
    have hn := not_nan h
    show fcmp .eql .f32 (FloatKind.f32.format.sub x x) (some 0) = decide (x % 2147483648 < 2139095040)
    unfold Ieee.Format.sub
    have hz : ∀ (s : Bool) (m : Nat) (p : Int), Option.map FloatKind.f32.format.write ((Ieee.Datum.number s m p).sum (Ieee.Datum.number s m p).opposite) = some 0 := by
      intro s m p
      simp only [Ieee.Datum.opposite, Ieee.Datum.sum]
      have e : ∀ u, Ieee.signed s m u + Ieee.signed (!s) m u = 0 := by
        intro u; unfold Ieee.signed; cases s <;> simp <;> omega
      rw [e]
      cases s <;> rfl
    rcases readk .f32 x hn with ⟨h1, h2⟩ | ⟨h1, h2⟩ | ⟨h1, h3, h2⟩
    · rw [h2]
      have h1' : x % 2147483648 = 2139095040 := h1
      rw [decide_eq_false (by omega)]
      cases sg .f32 x <;> rfl
    · rw [h2, hz]
      have h1' : x % 2147483648 < 8388608 := h1
      rw [decide_eq_true (by omega)]; decide
    · rw [h2, hz]
      have h1' : x % 2147483648 < 2139095040 := h3
      rw [decide_eq_true (by omega)]; decide
theorem is_zero32 : Is .f32 0 (some 0) := ⟨by decide, by decide⟩
set_option maxHeartbeats 400000 in
theorem specFin {x : Nat} {v : Option Nat} (w : World) (hx : Is .f32 x v) :
    Calls Try.prog 125 #[.float .f32 x] w fun e w' => e = .returned (.bool (finF v)) ∧ ∃ n, w' = w.drewN n := by
  have hz := is_zero32
  have hq := sub_self hx
  go_enter Try.func125, Try.ntmps125
  go_wp2_with (first | (refine wpList_fop rfl _ _ _ _ _ rfl _ _ _ rfl rfl rfl hx hx ?_; intro r m hr) | (refine wpList_fcmp rfl _ _ _ _ _ rfl _ _ _ rfl rfl rfl (by assumption) hz ?_; rw [hq]))
  go_ret
  exact ⟨rfl, _, rfl⟩
end Go.Proofs.Ytejchjjkehmgaaa.Fl
