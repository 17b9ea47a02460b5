/- laws.sameFloat says yes of two 64-bit numbers that stand for one number. -/
import Derived.Test.YtffcaffhkleclaaRows
import Derived.Test.YtffcaffhkleclaaFx
import Derived.Lib.Hide
namespace Go.Proofs.Ytffcaffhkleclaa.Fl
open Go Go.RowKit
theorem eq_self {k : FloatKind} {b : Nat} (h : Is k b (some b)) : fcmp .eql k (some b) (some b) = true := by
  have hn : nanw k b = false := by
    cases e : nanw k b
    · rfl
    · have := h.1; rw [cn_nan k e] at this; cases this
  simp [fcmp, ford, order_self k b hn]
theorem is_lit0 : Is .f64 0 (some 0) := ⟨by decide, by decide⟩
theorem is_lit1 : Is .f64 4607182418800017408 (some 4607182418800017408) := ⟨by decide, by decide⟩

set_option maxHeartbeats 400000 in
theorem sameFloat_none (x y : Nat) (w : World) (hx : Is .f64 x none) (hy : Is .f64 y none) :
    Calls Try.prog 8 #[.float .f64 x, .float .f64 y] w fun e w' => e = .returned (.bool true) ∧ w = w' := by
  have hc := neq_self_none .f64
  go_enter Try.func8, Try.ntmps8
  go_wp2_with (first | (refine wpList_fcmp rfl _ _ _ _ _ rfl _ _ _ rfl rfl rfl hx hx ?_; rw [hc]) | (refine wpList_fcmp rfl _ _ _ _ _ rfl _ _ _ rfl rfl rfl hy hy ?_; rw [hc]))
  go_ret
  exact ⟨rfl, rfl⟩
set_option maxHeartbeats 400000 in
theorem sameFloat_some (x : Nat) (w : World) (hx : Is .f64 x (some x)) :
    Calls Try.prog 8 #[.float .f64 x, .float .f64 x] w fun e w' => e = .returned (.bool true) ∧ ∃ n, w' = w.drewN n := by
  have hc := neq_self hx
  have hq := eq_self hx
  have h0 := is_lit0
  have h1 := is_lit1
  cases hz : fcmp .eql .f64 (some x) (some 0)
  · go_enter Try.func8, Try.ntmps8
    go_wp2_with (first | (refine wpList_fcmp rfl _ _ _ _ _ rfl _ _ _ rfl rfl rfl hx hx ?_; simp only [hc, hq]) | (refine wpList_fcmp rfl _ _ _ _ _ rfl _ _ _ rfl rfl rfl hx h0 ?_; rw [hz]))
    go_ret
    exact ⟨rfl, 0, rfl⟩
  · go_enter Try.func8, Try.ntmps8
    go_wp2_with (first | (refine wpList_fcmp rfl _ _ _ _ _ rfl _ _ _ rfl rfl rfl hx hx ?_; rw [hc]) | (refine wpList_fcmp rfl _ _ _ _ _ rfl _ _ _ rfl rfl rfl hx h0 ?_; rw [hz]) | (refine wpList_fop rfl _ _ _ _ _ rfl _ _ _ rfl rfl rfl h1 hx ?_; intro r n hr) | (refine wpList_fcmp rfl _ _ _ _ _ rfl _ _ _ rfl rfl rfl (by assumption) h0 ?_))
    go_ret
    exact ⟨ret_bool (by simp), _, rfl⟩
theorem sameFloat {x y : Nat} {v : Option Nat} (w : World) (hx : Is .f64 x v) (hy : Is .f64 y v) :
    Calls Try.prog 8 #[.float .f64 x, .float .f64 y] w fun e w' => e = .returned (.bool true) ∧ ∃ n, w' = w.drewN n := by
  rcases Is_cases hx.2 with h | h
  · obtain rfl : none = v := h.1.symm.trans hx.1
    exact (sameFloat_none x y w hx hy).mono fun e w' ⟨he, hw⟩ => ⟨he, 0, hw.symm⟩
  · obtain rfl : some x = v := h.1.symm.trans hx.1
    have hxy : y = x := by
      have := hy.1
      unfold cn at this
      split at this
      · cases this
      · exact Option.some.inj this
    subst hxy
    exact sameFloat_some y w hx
end Go.Proofs.Ytffcaffhkleclaa.Fl
