/- For every 32-bit number, impl.RootNumber answers as the model of the document does, and changes nothing that it is given. -/
import Derived.Test.YtnkcaiifohplaabRows
import Derived.WalkKit
import Derived.WalkLawsBesides
import Derived.ProofKit
import Derived.OpenShut
import Derived.ShutString
import Derived.ChangeOld
import Derived.Below
import Derived.IntWalk
import Derived.Lib.Hide
import Derived.Test.YtnkcaiifohplaabSame
import Derived.Test.YtnkcaiifohplaabSqrt
namespace Go.Proofs.Ytnkcaiifohplaab.lawRootNumber
open Go.ChangeShapes Go.WideShapes Go.ChangeAt Go.RowKit
open Go.ChangeMaps (open_string shut_string)
set_option linter.unusedVariables false
theorem own : ownKnob Try.prog.godebug = none := by kernel_rfl
theorem laidOut : laidOutB Try.prog = true := by kernel_rfl
open Go.Proofs.Ytnkcaiifohplaab.Fl
theorem below_n (w : World) (n : Nat) : Below w.heap.size w (w.drewN n) := ⟨rfl, rfl, rfl, Nat.le_refl _, fun _ _ => rfl⟩
set_option maxHeartbeats 400000 in
theorem narrow {x : Nat} {v : Option Nat} (w : World) (hx : Is .f64 x v) (hf : Fits .f64 .f32 v) :
    Calls Try.prog 31 #[.float .f64 x] w fun e w' => ∃ r, e = .returned (.float .f32 r) ∧ Is .f32 r (fconv .f64 .f32 v) ∧ ∃ n, w' = w.drewN n := by
  go_enter Try.func31, Try.ntmps31
  go_wp2_with (refine wpList_fconv rfl _ _ _ rfl _ _ _ rfl (by rw [Try.underlying22]; rfl) Try.underlying28 hx hf ?_; intro r n hr)
  go_ret
  exact ⟨_, rfl, by assumption, _, rfl⟩
set_option maxHeartbeats 400000 in
theorem specRoot {x : Nat} {v : Option Nat} (w : World) (hx : Is .f32 x v) :
    Calls Try.prog 27 #[.float .f32 x] w fun e w' => ∃ r, e = .returned (.float .f32 r) ∧ Is .f32 r (fconv .f64 .f32 (fsqrt (fconv .f32 .f64 v))) ∧ ∃ n, w' = w.drewN n := by
  have hf := fits_sqrt hx
  go_enter Try.func27, Try.ntmps27
  go_wp2_with (first | (refine wpList_fconv rfl _ _ _ rfl _ _ _ rfl (by rw [Try.underlying28]; rfl) Try.underlying22 hx (fits_widen_is hx) ?_; intro r n hr) | (go_at_call 28; refine (mathSqrt _ (by assumption)).mono ?_; rintro e w' ⟨s, rfl, hs, m, rfl⟩) | (go_at_call 31; refine (narrow _ (by assumption) hf).mono ?_; rintro e w' ⟨s2, rfl, hs2, m2, rfl⟩))
  go_ret
  exact ⟨_, rfl, by assumption, _, rfl⟩
set_option maxHeartbeats 400000 in
theorem specCall {x : Nat} {v : Option Nat} (w : World) (hx : Is .f32 x v) :
    Calls Try.prog 11 #[.float .f32 x] w fun e w' => ∃ r, e = .returned (.float .f32 r) ∧ Is .f32 r (fconv .f64 .f32 (fsqrt (fconv .f32 .f64 v))) ∧ ∃ n, w' = w.drewN n := by
  go_enter Try.func11, Try.ntmps11
  go_wp2_with (go_at_call 27; refine (specRoot _ hx).mono ?_; rintro e w' ⟨s2, rfl, hs2, m2, rfl⟩)
  go_ret
  exact ⟨_, rfl, by assumption, _, rfl⟩
set_option maxHeartbeats 400000 in
theorem implCall {x : Nat} {v : Option Nat} (w : World) (hx : Is .f32 x v) :
    Calls Try.prog 12 #[.float .f32 x] w fun e w' => ∃ r, e = .returned (.float .f32 r) ∧ Is .f32 r (fconv .f64 .f32 (fsqrt (fconv .f32 .f64 v))) ∧ ∃ n, w' = w.drewN n := by
  have hf := fits_sqrt hx
  go_enter Try.func12, Try.ntmps12
  go_wp2_with (first | (refine wpList_fconv rfl _ _ _ rfl _ _ _ rfl (by rw [Try.underlying28]; rfl) Try.underlying22 hx (fits_widen_is hx) ?_; intro r n hr) | (go_at_call 28; refine (mathSqrt _ (by assumption)).mono ?_; rintro e w' ⟨s, rfl, hs, m, rfl⟩) | (refine wpList_fconv rfl _ _ _ rfl _ _ _ rfl (by rw [Try.underlying22]; rfl) Try.underlying28 (by assumption) hf ?_; intro r2 n2 hr2))
  go_ret
  exact ⟨_, rfl, by assumption, _, rfl⟩
set_option maxHeartbeats 400000 in
theorem walk (x : Nat) (wx : (Lit.float .f32 x).wf = true) (w : World) :
    Calls Try.prog 5 #[.float .f32 x] w fun e w' => e = .returned (.bool true) ∧ Below w.heap.size w w' := by
  have hx : Is .f32 x (cn .f32 x) := ⟨rfl, wf_lt wx⟩
  go_enter Try.func5, Try.ntmps5
  go_wp2_with (first | (go_at_call 11; refine (specCall _ hx).mono ?_; rintro e w' ⟨r1, rfl, hr1, n1, rfl⟩) | (go_at_call 12; refine (implCall _ hx).mono ?_; rintro e w' ⟨r2, rfl, hr2, n, rfl⟩) | (refine wpList_fconv rfl _ _ _ rfl _ _ _ rfl (by rw [Try.underlying28]; rfl) Try.underlying22 hr1 (fits_widen_is hr1) ?_; intro r m hr) | (refine wpList_fconv rfl _ _ _ rfl _ _ _ rfl (by rw [Try.underlying28]; rfl) Try.underlying22 hr2 (fits_widen_is hr2) ?_; intro r m hr) | (go_at_call 13; refine (sameFloat _ (by assumption) (by assumption)).mono ?_; rintro e w' ⟨rfl, m, rfl⟩))
  go_ret
  exact ⟨rfl, below_n _ _⟩

set_option maxRecDepth 100000 in
theorem lifted (os : Os) (started : os.Started) (H : Type) (enc : TypeId × Value → H) :
    ReturnsInHanded {} Try.checked os 5 .any (Rows.fnExactRootNumberSpec.pre6 enc Try.prog Try.f5 Rows.fnExactRootNumberRow.domain false) (Rows.fnExactRootNumberSpec.post enc Try.prog Try.f5 false true false false) := by
  refine returnsInHanded_of_change (C := Try.checked) own started (by kernel_rfl) Try.func5
    (ChangeSpec.witness6 (enc := enc) (C := Try.checked) false ⟨#[], #[.float .f32 0], []⟩ 8 (by kernel_rfl) (by kernel_rfl) (by kernel_rfl) (by kernel_rfl)) ?_
  intro W base args ds gs before hval0 hW hcnd hreach
  have hval : ∀ (j : Nat) t v, Try.f5.params[j]? = some t → args[j]? = some v → Value.okWide Try.prog W .any base t v := hval0
  have hW' := hW
  obtain ⟨p, q, hA0, hV, rfl, hfz, hnd⟩ := hW
  have hA : DataW.TrodAll enc Try.prog W 0 (fun _ => true) true Try.f5.params.toList args.toList ds p := hA0
  rw [Try.params5] at hA hval
  obtain ⟨v0, vs0, d0, ds0, p0, q0, hargs, rfl, rfl, h0, r0⟩ := trodAll_cons hA
  obtain ⟨rfl, rfl, rfl⟩ := trodAll_nil r0
  obtain rfl : args = #[v0] := by cases args; simp_all
  obtain ⟨rfl, rfl⟩ := trodVars_none hV
  obtain ⟨a0, rfl, rfl, rfl, w0⟩ := open_float Try.underlying28 (hval 0 28 v0 rfl rfl) h0
  clear hA0 hval0
  refine (walk a0 w0 W).mono fun e W' ⟨he, bel⟩ => ?_
  subst he
  exact ⟨_, rfl, _, _, _, [], _, [], hW', trodAll_mk1 (shut_bool Try.underlying4 _), (trodAll_cons_mk (shut_float Try.underlying28 w0) (trodAll_mk0)), rfl, bel.frame _, fun h => by cases h⟩

theorem over : Rows.fnExactRootNumberRow.holds Try.pinned (OpenSpec.ofChange Rows.fnExactRootNumberSpec) :=
  OpenClaim.holds_of_wide 5 Try.f5 rfl rfl rfl rfl rfl rfl rfl ⟨rfl, rfl, rfl, rfl, rfl⟩ rfl rfl rfl rfl rfl (by kernel_rfl) Try.func5 (by kernel_rfl)
    (of_decide_eq_true (by kernel_rfl)) (by unfold Func.isWrapper; rw [if_neg (of_decide_eq_false (by kernel_rfl))]; exact ⟨rfl, rfl⟩)
    (fun os started H enc _ => lifted os started H enc)

theorem proved : Rows.FnExactRootNumberSaid := over
end Go.Proofs.Ytnkcaiifohplaab.lawRootNumber
