/- For every 32-bit number, impl.BitsOf answers as the model of the document does, and changes nothing that it is given. -/
import Derived.Test.YtnkcaiifohplaaaRows
import Derived.WalkKit
import Derived.WalkLawsBesides
import Derived.ProofKit
import Derived.OpenShut
import Derived.ShutString
import Derived.ChangeOld
import Derived.Below
import Derived.IntWalk
import Derived.Lib.Hide
import Derived.Test.YtnkcaiifohplaaaBits
namespace Go.Proofs.Ytnkcaiifohplaaa.lawBitsOf
open Go.ChangeShapes Go.WideShapes Go.ChangeAt Go.RowKit
open Go.ChangeMaps (open_string shut_string)
set_option linter.unusedVariables false
theorem own : ownKnob Try.prog.godebug = none := by kernel_rfl
theorem laidOut : laidOutB Try.prog = true := by kernel_rfl
open Go.Proofs.Ytnkcaiifohplaaa.Fl
set_option maxHeartbeats 400000 in
theorem specCall {x : Nat} {v : Option Nat} (w : World) (hx : Is .f32 x v) :
    Calls Try.prog 34 #[.float .f32 x] w fun e w' => e = .returned (.int .i64 (bitsF v)) ∧ w = w' := by
  go_enter Try.func34, Try.ntmps34
  go_wp2_with (go_at_call 61; refine (l01Bits _ hx).mono ?_; rintro e w' ⟨rfl, rfl⟩)
  go_ret
  exact ⟨rfl, rfl⟩
set_option maxHeartbeats 400000 in
theorem implCall {x : Nat} {v : Option Nat} (w : World) (hx : Is .f32 x v) :
    Calls Try.prog 35 #[.float .f32 x] w fun e w' => e = .returned (.int .i64 (bitsF v)) ∧ w = w' := by
  have he := fun w => ext_f32bits x w
  rcases Is_cases hx.2 with h | h
  · obtain rfl : none = v := h.1.symm.trans hx.1
    have hc := neq_self_none .f32
    go_enter Try.func35, Try.ntmps35
    go_wp2_with (refine wpList_fcmp rfl _ _ _ _ _ rfl _ _ _ rfl rfl rfl hx hx ?_; rw [hc])
    go_ret
    exact ⟨rfl, rfl⟩
  · obtain rfl : some x = v := h.1.symm.trans hx.1
    have hc := neq_self h
    go_enter Try.func35, Try.ntmps35
    go_wp2_with (refine wpList_fcmp rfl _ _ _ _ _ rfl _ _ _ rfl rfl rfl hx hx ?_; rw [hc])
    go_ret
    exact ⟨ret_int (IntWalk.wrap64_in _ (by have : x < 4294967296 := hx.2; constructor <;> omega)), rfl⟩
set_option maxHeartbeats 400000 in
theorem walk (x : Nat) (wx : (Lit.float .f32 x).wf = true) (w : World) :
    Calls Try.prog 8 #[.float .f32 x] w fun e w' => e = .returned (.bool true) ∧ Below w.heap.size w w' := by
  have hx : Is .f32 x (cn .f32 x) := ⟨rfl, wf_lt wx⟩
  go_enter Try.func8, Try.ntmps8
  go_wp2_with (first | (go_at_call 34; refine (specCall _ hx).mono ?_; rintro e w' ⟨rfl, rfl⟩) | (go_at_call 35; refine (implCall _ hx).mono ?_; rintro e w' ⟨rfl, rfl⟩))
  go_ret
  exact ⟨rfl, Below.refl _ _⟩

set_option maxRecDepth 100000 in
theorem lifted (os : Os) (started : os.Started) (H : Type) (enc : TypeId × Value → H) :
    ReturnsInHanded {} Try.checked os 8 .any (Rows.fnExactBitsOfSpec.pre6 enc Try.prog Try.f8 Rows.fnExactBitsOfRow.domain false) (Rows.fnExactBitsOfSpec.post enc Try.prog Try.f8 false true false false) := by
  refine returnsInHanded_of_change (C := Try.checked) own started (by kernel_rfl) Try.func8
    (ChangeSpec.witness6 (enc := enc) (C := Try.checked) false ⟨#[], #[.float .f32 0], []⟩ 8 (by kernel_rfl) (by kernel_rfl) (by kernel_rfl) (by kernel_rfl)) ?_
  intro W base args ds gs before hval0 hW hcnd hreach
  have hval : ∀ (j : Nat) t v, Try.f8.params[j]? = some t → args[j]? = some v → Value.okWide Try.prog W .any base t v := hval0
  have hW' := hW
  obtain ⟨p, q, hA0, hV, rfl, hfz, hnd⟩ := hW
  have hA : DataW.TrodAll enc Try.prog W 0 (fun _ => true) true Try.f8.params.toList args.toList ds p := hA0
  rw [Try.params8] at hA hval
  obtain ⟨v0, vs0, d0, ds0, p0, q0, hargs, rfl, rfl, h0, r0⟩ := trodAll_cons hA
  obtain ⟨rfl, rfl, rfl⟩ := trodAll_nil r0
  obtain rfl : args = #[v0] := by cases args; simp_all
  obtain ⟨rfl, rfl⟩ := trodVars_none hV
  obtain ⟨a0, rfl, rfl, rfl, w0⟩ := open_float Try.underlying28 (hval 0 28 v0 rfl rfl) h0
  clear hA0 hval0
  refine (walk a0 w0 W).mono fun e W' ⟨he, bel⟩ => ?_
  subst he
  exact ⟨_, rfl, _, _, _, [], _, [], hW', trodAll_mk1 (shut_bool Try.underlying4 _), (trodAll_cons_mk (shut_float Try.underlying28 w0) (trodAll_mk0)), rfl, bel.frame _, fun h => by cases h⟩

theorem over : Rows.fnExactBitsOfRow.holds Try.pinned (OpenSpec.ofChange Rows.fnExactBitsOfSpec) :=
  OpenClaim.holds_of_wide 8 Try.f8 rfl rfl rfl rfl rfl rfl rfl ⟨rfl, rfl, rfl, rfl, rfl⟩ rfl rfl rfl rfl rfl (by kernel_rfl) Try.func8 (by kernel_rfl)
    (of_decide_eq_true (by kernel_rfl)) (by unfold Func.isWrapper; rw [if_neg (of_decide_eq_false (by kernel_rfl))]; exact ⟨rfl, rfl⟩)
    (fun os started H enc _ => lifted os started H enc)

theorem proved : Rows.FnExactBitsOfSaid := over
end Go.Proofs.Ytnkcaiifohplaaa.lawBitsOf
