/- For every 32-bit number, impl.IsSubnormal answers as the model of the document does, and changes nothing that it is given. -/
import Derived.Test.YtnkcaiifohplaacRows
import Derived.WalkKit
import Derived.WalkLawsBesides
import Derived.ProofKit
import Derived.OpenShut
import Derived.ShutString
import Derived.ChangeOld
import Derived.Below
import Derived.IntWalk
import Derived.Lib.Hide
import Derived.Test.YtnkcaiifohplaacBits
import Derived.Test.YtnkcaiifohplaacSub
namespace Go.Proofs.Ytnkcaiifohplaac.lawIsSubnormal
open Go.ChangeShapes Go.WideShapes Go.ChangeAt Go.RowKit
open Go.ChangeMaps (open_string shut_string)
set_option linter.unusedVariables false
theorem own : ownKnob Try.prog.godebug = none := by kernel_rfl
theorem laidOut : laidOutB Try.prog = true := by kernel_rfl
open Go.Proofs.Ytnkcaiifohplaac.Fl
set_option maxHeartbeats 400000 in
theorem specCall {x : Nat} {v : Option Nat} (w : World) (hx : Is .f32 x v) :
    Calls Try.prog 14 #[.float .f32 x] w fun e w' => e = .returned (.bool (subF v)) ∧ w = w' := by
  have hz := is_zero32
  rcases Is_cases hx.2 with h | h
  · obtain rfl : none = v := h.1.symm.trans hx.1
    have h1 : fcmp .neq .f32 none (some 0) = true := rfl
    have hb : ∀ t w, (binOp .and t (.int .i64 (bitsF none)) (.int .i64 2139095040)).run Try.prog w = .ok (.int .i64 2139095040) w := fun t w => run_expo w t 2143289344 (by omega)
    go_enter Try.func14, Try.ntmps14
    go_wp2_with (first | (refine wpList_fcmp rfl _ _ _ _ _ rfl _ _ _ rfl rfl rfl hx hz ?_; rw [h1]) | (go_at_call 19; refine (l01Bits _ hx).mono ?_; rintro e w' ⟨rfl, rfl⟩) | (refine wpList_ints rfl .and _ _ _ _ rfl .i64 (bitsF none) 2139095040 2139095040 rfl rfl ?_ ?_; exact hb _ _))
    go_ret
    exact ⟨rfl, rfl⟩
  · obtain rfl : some x = v := h.1.symm.trans hx.1
    have hlt : x < 4294967296 := hx.2
    have h1 := zero_eq h
    have h2 := expo_eq x
    have HB : Hid (∀ t w, (binOp .and t (.int .i64 (bitsF (some x))) (.int .i64 2139095040)).run Try.prog w = .ok (.int .i64 ((x / 8388608 % 256 * 8388608 : Nat) : Int)) w) := fun t w => run_expo w t x hlt
    generalize ((x / 8388608 % 256 * 8388608 : Nat) : Int) = q at h2 HB
    clear hlt
    by_cases hx0 : x % 2147483648 = 0
    · rw [decide_eq_false (by omega)] at h1
      have HS : Hid (subF (some x) = false) := by
        show (decide (x % 2147483648 ≠ 0) && _) = false
        rw [decide_eq_false (by omega)]; rfl
      clear hx0 h2
      go_enter Try.func14, Try.ntmps14
      go_wp2_with (refine wpList_fcmp rfl _ _ _ _ _ rfl _ _ _ rfl rfl rfl hx hz ?_; rw [h1])
      go_ret
      exact ⟨ret_bool HS.out.symm, rfl⟩
    · rw [decide_eq_true (by omega)] at h1
      have HS : Hid (decide (x % 2147483648 < 8388608) = subF (some x)) := by
        show _ = (decide (x % 2147483648 ≠ 0) && decide (x % 2147483648 < 8388608))
        rw [decide_eq_true (p := x % 2147483648 ≠ 0) (by omega)]; rfl
      clear hx0
      have H2 := Lib.hid h2
      clear h2
      go_enter Try.func14, Try.ntmps14
      go_wp2_with (first | (refine wpList_fcmp rfl _ _ _ _ _ rfl _ _ _ rfl rfl rfl hx hz ?_; rw [h1]) | (go_at_call 19; refine (l01Bits _ hx).mono ?_; rintro e w' ⟨rfl, rfl⟩) | (refine wpList_ints rfl .and _ _ _ _ rfl .i64 (bitsF (some x)) 2139095040 q rfl rfl ?_ ?_; exact HB.out _ _))
      go_ret
      exact ⟨ret_bool (H2.out.trans HS.out), rfl⟩
theorem below_n (w : World) (n : Nat) : Below w.heap.size w (w.drewN n) := ⟨rfl, rfl, rfl, Nat.le_refl _, fun _ _ => rfl⟩
set_option maxHeartbeats 400000 in
theorem walk (x : Nat) (wx : (Lit.float .f32 x).wf = true) (w : World) :
    Calls Try.prog 6 #[.float .f32 x] w fun e w' => e = .returned (.bool true) ∧ Below w.heap.size w w' := by
  have hx : Is .f32 x (cn .f32 x) := ⟨rfl, wf_lt wx⟩
  go_enter Try.func6, Try.ntmps6
  go_wp2_with (first | (go_at_call 14; refine (specCall _ hx).mono ?_; rintro e w' ⟨rfl, rfl⟩) | (go_at_call 15; refine (implIsSubnormal _ hx).mono ?_; rintro e w' ⟨rfl, n, rfl⟩))
  go_ret
  exact ⟨rfl, below_n _ _⟩

set_option maxRecDepth 100000 in
theorem lifted (os : Os) (started : os.Started) (H : Type) (enc : TypeId × Value → H) :
    ReturnsInHanded {} Try.checked os 6 .any (Rows.fnExactIsSubnormalSpec.pre6 enc Try.prog Try.f6 Rows.fnExactIsSubnormalRow.domain false) (Rows.fnExactIsSubnormalSpec.post enc Try.prog Try.f6 false true false false) := by
  refine returnsInHanded_of_change (C := Try.checked) own started (by kernel_rfl) Try.func6
    (ChangeSpec.witness6 (enc := enc) (C := Try.checked) false ⟨#[], #[.float .f32 0], []⟩ 8 (by kernel_rfl) (by kernel_rfl) (by kernel_rfl) (by kernel_rfl)) ?_
  intro W base args ds gs before hval0 hW hcnd hreach
  have hval : ∀ (j : Nat) t v, Try.f6.params[j]? = some t → args[j]? = some v → Value.okWide Try.prog W .any base t v := hval0
  have hW' := hW
  obtain ⟨p, q, hA0, hV, rfl, hfz, hnd⟩ := hW
  have hA : DataW.TrodAll enc Try.prog W 0 (fun _ => true) true Try.f6.params.toList args.toList ds p := hA0
  rw [Try.params6] at hA hval
  obtain ⟨v0, vs0, d0, ds0, p0, q0, hargs, rfl, rfl, h0, r0⟩ := trodAll_cons hA
  obtain ⟨rfl, rfl, rfl⟩ := trodAll_nil r0
  obtain rfl : args = #[v0] := by cases args; simp_all
  obtain ⟨rfl, rfl⟩ := trodVars_none hV
  obtain ⟨a0, rfl, rfl, rfl, w0⟩ := open_float Try.underlying27 (hval 0 27 v0 rfl rfl) h0
  clear hA0 hval0
  refine (walk a0 w0 W).mono fun e W' ⟨he, bel⟩ => ?_
  subst he
  exact ⟨_, rfl, _, _, _, [], _, [], hW', trodAll_mk1 (shut_bool Try.underlying4 _), (trodAll_cons_mk (shut_float Try.underlying27 w0) (trodAll_mk0)), rfl, bel.frame _, fun h => by cases h⟩

theorem over : Rows.fnExactIsSubnormalRow.holds Try.pinned (OpenSpec.ofChange Rows.fnExactIsSubnormalSpec) :=
  OpenClaim.holds_of_wide 6 Try.f6 rfl rfl rfl rfl rfl rfl rfl ⟨rfl, rfl, rfl, rfl, rfl⟩ rfl rfl rfl rfl rfl (by kernel_rfl) Try.func6 (by kernel_rfl)
    (of_decide_eq_true (by kernel_rfl)) (by unfold Func.isWrapper; rw [if_neg (of_decide_eq_false (by kernel_rfl))]; exact ⟨rfl, rfl⟩)
    (fun os started H enc _ => lifted os started H enc)

theorem proved : Rows.FnExactIsSubnormalSaid := over
end Go.Proofs.Ytnkcaiifohplaac.lawIsSubnormal
