/- For every 32-bit number, impl.IsFinite answers as the model of the document does, and changes nothing that it is given. -/
import Derived.Test.YtnkcaiifohplaaaRows
import Derived.WalkKit
import Derived.WalkLawsBesides
import Derived.ProofKit
import Derived.OpenShut
import Derived.ShutString
import Derived.ChangeOld
import Derived.Below
import Derived.IntWalk
import Derived.Lib.Hide
import Derived.Test.YtnkcaiifohplaaaFin
namespace Go.Proofs.Ytnkcaiifohplaaa.lawIsFinite
open Go.ChangeShapes Go.WideShapes Go.ChangeAt Go.RowKit
open Go.ChangeMaps (open_string shut_string)
set_option linter.unusedVariables false
theorem own : ownKnob Try.prog.godebug = none := by kernel_rfl
theorem laidOut : laidOutB Try.prog = true := by kernel_rfl
open Go.Proofs.Ytnkcaiifohplaaa.Fl
/-- What is taken from itself is zero, if it is finite. -/
theorem sub_self {x : Nat} {v : Option Nat} (hx : Is .f32 x v) : fcmp .eql .f32 (fop .sub .f32 v v) (some 0) = finF v := by
  rcases Is_cases hx.2 with h | h
  · obtain rfl : none = v := h.1.symm.trans hx.1
    rfl
  · obtain rfl : some x = v := h.1.symm.trans hx.1
    have hn := not_nan h
    show fcmp .eql .f32 (FloatKind.f32.format.sub x x) (some 0) = decide (x % 2147483648 < 2139095040)
    unfold Ieee.Format.sub
    have hz : ∀ (s : Bool) (m : Nat) (p : Int), Option.map FloatKind.f32.format.write ((Ieee.Datum.number s m p).sum (Ieee.Datum.number s m p).opposite) = some 0 := by
      intro s m p
      simp only [Ieee.Datum.opposite, Ieee.Datum.sum]
      have e : ∀ u, Ieee.signed s m u + Ieee.signed (!s) m u = 0 := by
        intro u; unfold Ieee.signed; cases s <;> simp <;> omega
      rw [e]
      cases s <;> rfl
    rcases readk .f32 x hn with ⟨h1, h2⟩ | ⟨h1, h2⟩ | ⟨h1, h3, h2⟩
    · rw [h2]
      have h1' : x % 2147483648 = 2139095040 := h1
      rw [decide_eq_false (by omega)]
      cases sg .f32 x <;> rfl
    · rw [h2, hz]
      have h1' : x % 2147483648 < 8388608 := h1
      rw [decide_eq_true (by omega)]; decide
    · rw [h2, hz]
      have h1' : x % 2147483648 < 2139095040 := h3
      rw [decide_eq_true (by omega)]; decide
theorem is_zero32 : Is .f32 0 (some 0) := ⟨by decide, by decide⟩
set_option maxHeartbeats 400000 in
theorem specFin {x : Nat} {v : Option Nat} (w : World) (hx : Is .f32 x v) :
    Calls Try.prog 60 #[.float .f32 x] w fun e w' => e = .returned (.bool (finF v)) ∧ ∃ n, w' = w.drewN n := by
  have hz := is_zero32
  have hq := sub_self hx
  go_enter Try.func60, Try.ntmps60
  go_wp2_with (first | (refine wpList_fop rfl _ _ _ _ _ rfl _ _ _ rfl rfl rfl hx hx ?_; intro r m hr) | (refine wpList_fcmp rfl _ _ _ _ _ rfl _ _ _ rfl rfl rfl (by assumption) hz ?_; rw [hq]))
  go_ret
  exact ⟨rfl, _, rfl⟩
set_option maxHeartbeats 400000 in
theorem specCall {x : Nat} {v : Option Nat} (w : World) (hx : Is .f32 x v) :
    Calls Try.prog 32 #[.float .f32 x] w fun e w' => e = .returned (.bool (finF v)) ∧ ∃ n, w' = w.drewN n := by
  go_enter Try.func32, Try.ntmps32
  go_wp2_with (go_at_call 60; refine (specFin _ hx).mono ?_; rintro e w' ⟨rfl, n, rfl⟩)
  go_ret
  exact ⟨rfl, _, rfl⟩
theorem below_n (w : World) (n : Nat) : Below w.heap.size w (w.drewN n) := ⟨rfl, rfl, rfl, Nat.le_refl _, fun _ _ => rfl⟩
set_option maxHeartbeats 400000 in
theorem walk (x : Nat) (wx : (Lit.float .f32 x).wf = true) (w : World) :
    Calls Try.prog 7 #[.float .f32 x] w fun e w' => e = .returned (.bool true) ∧ Below w.heap.size w w' := by
  have hx : Is .f32 x (cn .f32 x) := ⟨rfl, wf_lt wx⟩
  go_enter Try.func7, Try.ntmps7
  go_wp2_with (first | (go_at_call 32; refine (specCall _ hx).mono ?_; rintro e w' ⟨rfl, n, rfl⟩) | (go_at_call 33; refine (implIsFinite _ hx).mono ?_; rintro e w' ⟨rfl, n, rfl⟩))
  go_ret
  exact ⟨rfl, below_n _ _⟩

set_option maxRecDepth 100000 in
theorem lifted (os : Os) (started : os.Started) (H : Type) (enc : TypeId × Value → H) :
    ReturnsInHanded {} Try.checked os 7 .any (Rows.fnExactIsFiniteSpec.pre6 enc Try.prog Try.f7 Rows.fnExactIsFiniteRow.domain false) (Rows.fnExactIsFiniteSpec.post enc Try.prog Try.f7 false true false false) := by
  refine returnsInHanded_of_change (C := Try.checked) own started (by kernel_rfl) Try.func7
    (ChangeSpec.witness6 (enc := enc) (C := Try.checked) false ⟨#[], #[.float .f32 0], []⟩ 8 (by kernel_rfl) (by kernel_rfl) (by kernel_rfl) (by kernel_rfl)) ?_
  intro W base args ds gs before hval0 hW hcnd hreach
  have hval : ∀ (j : Nat) t v, Try.f7.params[j]? = some t → args[j]? = some v → Value.okWide Try.prog W .any base t v := hval0
  have hW' := hW
  obtain ⟨p, q, hA0, hV, rfl, hfz, hnd⟩ := hW
  have hA : DataW.TrodAll enc Try.prog W 0 (fun _ => true) true Try.f7.params.toList args.toList ds p := hA0
  rw [Try.params7] at hA hval
  obtain ⟨v0, vs0, d0, ds0, p0, q0, hargs, rfl, rfl, h0, r0⟩ := trodAll_cons hA
  obtain ⟨rfl, rfl, rfl⟩ := trodAll_nil r0
  obtain rfl : args = #[v0] := by cases args; simp_all
  obtain ⟨rfl, rfl⟩ := trodVars_none hV
  obtain ⟨a0, rfl, rfl, rfl, w0⟩ := open_float Try.underlying28 (hval 0 28 v0 rfl rfl) h0
  clear hA0 hval0
  refine (walk a0 w0 W).mono fun e W' ⟨he, bel⟩ => ?_
  subst he
  exact ⟨_, rfl, _, _, _, [], _, [], hW', trodAll_mk1 (shut_bool Try.underlying4 _), (trodAll_cons_mk (shut_float Try.underlying28 w0) (trodAll_mk0)), rfl, bel.frame _, fun h => by cases h⟩

theorem over : Rows.fnExactIsFiniteRow.holds Try.pinned (OpenSpec.ofChange Rows.fnExactIsFiniteSpec) :=
  OpenClaim.holds_of_wide 7 Try.f7 rfl rfl rfl rfl rfl rfl rfl ⟨rfl, rfl, rfl, rfl, rfl⟩ rfl rfl rfl rfl rfl (by kernel_rfl) Try.func7 (by kernel_rfl)
    (of_decide_eq_true (by kernel_rfl)) (by unfold Func.isWrapper; rw [if_neg (of_decide_eq_false (by kernel_rfl))]; exact ⟨rfl, rfl⟩)
    (fun os started H enc _ => lifted os started H enc)

theorem proved : Rows.FnExactIsFiniteSaid := over
end Go.Proofs.Ytnkcaiifohplaaa.lawIsFinite
