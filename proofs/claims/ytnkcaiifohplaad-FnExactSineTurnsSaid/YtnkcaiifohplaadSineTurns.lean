/- For every 32-bit number, impl.SineTurns answers as the model of the document does, and changes nothing that it is given. -/
import Derived.Test.YtnkcaiifohplaadRows
import Derived.WalkKit
import Derived.WalkLawsBesides
import Derived.ProofKit
import Derived.OpenShut
import Derived.ShutString
import Derived.ChangeOld
import Derived.Below
import Derived.IntWalk
import Derived.Lib.Hide
import Derived.Test.YtnkcaiifohplaadSame
import Derived.Test.YtnkcaiifohplaadFin
import Derived.Test.YtnkcaiifohplaadSineWide
namespace Go.Proofs.Ytnkcaiifohplaad.lawSineTurns
open Go.ChangeShapes Go.WideShapes Go.ChangeAt Go.RowKit
open Go.ChangeMaps (open_string shut_string)
set_option linter.unusedVariables false
theorem own : ownKnob Try.prog.godebug = none := by kernel_rfl
theorem laidOut : laidOutB Try.prog = true := by kernel_rfl
open Go.Proofs.Ytnkcaiifohplaad.Fl
theorem below_n (w : World) (n : Nat) : Below w.heap.size w (w.drewN n) := ⟨rfl, rfl, rfl, Nat.le_refl _, fun _ _ => rfl⟩
theorem sub_test {x : Nat} {v : Option Nat} (hx : Is .f32 x v) : fcmp .neq .f64 (fop .sub .f64 (fconv .f32 .f64 v) (fconv .f32 .f64 v)) (some 0) = !(finF v) := by
  rcases Is_cases hx.2 with g | g
  · obtain rfl : none = v := g.1.symm.trans hx.1
    rfl
  · obtain rfl : some x = v := g.1.symm.trans hx.1
    exact widen_sub (not_nan g)
theorem is_of {r W : Nat} (h : Is .f64 r (some W)) : r = W := by
  have h4 := h.1
  unfold cn at h4
  split at h4
  · cases h4
  · exact Option.some.inj h4
set_option maxHeartbeats 400000 in
theorem narrow {x : Nat} {v : Option Nat} (w : World) (hx : Is .f64 x v) (hf : Fits .f64 .f32 v) :
    Calls Try.prog 48 #[.float .f64 x] w fun e w' => ∃ r, e = .returned (.float .f32 r) ∧ Is .f32 r (fconv .f64 .f32 v) ∧ ∃ n, w' = w.drewN n := by
  go_enter Try.func48, Try.ntmps48
  go_wp2_with (refine wpList_fconv rfl _ _ _ rfl _ _ _ rfl (by rw [Try.underlying25]; rfl) Try.underlying22 hx hf ?_; intro r n hr)
  go_ret
  exact ⟨_, rfl, by assumption, _, rfl⟩
set_option maxHeartbeats 400000 in
theorem specSine {x : Nat} {v V : Option Nat} (w : World) (hx : Is .f32 x v) (hV : Fits .f64 .f32 V)
    (h : ∀ (a : Nat) (w : World), Is .f64 a (fconv .f32 .f64 v) → Calls Try.prog 49 #[.float .f64 a] w fun e w' => ∃ r, e = .returned (.float .f64 r) ∧ Is .f64 r V ∧ ∃ n, w' = w.drewN n) :
    Calls Try.prog 13 #[.float .f32 x] w fun e w' => ∃ r, e = .returned (.float .f32 r) ∧ Is .f32 r (fconv .f64 .f32 V) ∧ ∃ n, w' = w.drewN n := by
  have H := Lib.hid h
  clear h
  go_enter Try.func13, Try.ntmps13
  go_wp2_with (first | (go_at_call 30; go_in) | (refine wpList_fconv rfl _ _ _ rfl .f32 .f64 x rfl (by rw [Try.underlying22]; rfl) Try.underlying25 hx (fits_widen_is hx) ?_; intro X nX hX) | (go_at_call 49; refine (H.out _ _ hX).mono ?_; rintro e w' ⟨r, rfl, hr, n, rfl⟩) | (go_at_call 48; refine (narrow _ (by assumption) hV).mono ?_; rintro e w' ⟨r2, rfl, hr2, n2, rfl⟩))
  go_ret
  exact ⟨_, rfl, by assumption, _, rfl⟩
set_option maxHeartbeats 400000 in
theorem implNan {x : Nat} {v : Option Nat} (w : World) (hx : Is .f32 x v) (hf : finF v = false) :
    Calls Try.prog 14 #[.float .f32 x] w fun e w' => ∃ r, e = .returned (.float .f32 r) ∧ Is .f32 r none ∧ ∃ n, w' = w.drewN n := by
  go_enter Try.func14, Try.ntmps14
  go_wp2_with (first | (go_at_call 31; refine (implIsFinite _ hx).mono ?_; rintro e w' ⟨rfl, n, rfl⟩; rw [hf]) | (go_at_call 32; refine (mathNaN _).mono ?_; rintro e w' ⟨r, rfl, hr, rfl⟩) | (refine wpList_fconv rfl _ _ _ rfl _ _ _ rfl (by rw [Try.underlying25]; rfl) Try.underlying22 (by assumption) fits_none ?_; intro r2 n2 hr2))
  go_ret
  exact ⟨_, rfl, by assumption, _, rfl⟩
set_option maxHeartbeats 400000 in
theorem implBig {x : Nat} {v : Option Nat} (w : World) (hx : Is .f32 x v) (hf : finF v = true) (hg : fcmp .geq .f64 (fabs (fconv .f32 .f64 v)) big = true) :
    Calls Try.prog 14 #[.float .f32 x] w fun e w' => ∃ r, e = .returned (.float .f32 r) ∧ Is .f32 r (some 0) ∧ ∃ n, w' = w.drewN n := by
  have hB := is_big
  go_enter Try.func14, Try.ntmps14
  go_wp2_with (first | (go_at_call 31; refine (implIsFinite _ hx).mono ?_; rintro e w' ⟨rfl, n, rfl⟩; rw [hf]) | (refine wpList_fconv rfl _ _ _ rfl .f32 .f64 x rfl (by rw [Try.underlying22]; rfl) Try.underlying25 hx (fits_widen_is hx) ?_; intro X nX hX) | (go_at_call 33; refine (mathAbs _ (by assumption)).mono ?_; rintro e w' ⟨A, rfl, hA, rfl⟩) | (refine wpList_fcmp rfl .geq _ _ _ _ rfl .f64 _ _ rfl rfl rfl (by assumption) hB ?_; rw [hg]))
  go_ret
  exact ⟨_, rfl, ⟨by decide, by decide⟩, _, rfl⟩
set_option maxHeartbeats 400000 in
theorem implSmall {x : Nat} {v V : Option Nat} (w : World) (hx : Is .f32 x v) (hf : finF v = true) (hg : fcmp .geq .f64 (fabs (fconv .f32 .f64 v)) big = false) (hV : Fits .f64 .f32 V)
    (h : ∀ (a : Nat) (w : World), Is .f64 a (fconv .f32 .f64 v) → Calls Try.prog 34 #[.float .f64 a] w fun e w' => ∃ r, e = .returned (.float .f64 r) ∧ Is .f64 r V ∧ ∃ n, w' = w.drewN n) :
    Calls Try.prog 14 #[.float .f32 x] w fun e w' => ∃ r, e = .returned (.float .f32 r) ∧ Is .f32 r (fconv .f64 .f32 V) ∧ ∃ n, w' = w.drewN n := by
  have hB := is_big
  have H := Lib.hid h
  clear h
  go_enter Try.func14, Try.ntmps14
  go_wp2_with (first | (go_at_call 31; refine (implIsFinite _ hx).mono ?_; rintro e w' ⟨rfl, n, rfl⟩; rw [hf]) | (refine wpList_fconv rfl _ _ _ rfl .f32 .f64 x rfl (by rw [Try.underlying22]; rfl) Try.underlying25 hx (fits_widen_is hx) ?_; intro X nX hX) | (go_at_call 33; refine (mathAbs _ (by assumption)).mono ?_; rintro e w' ⟨A, rfl, hA, rfl⟩) | (refine wpList_fcmp rfl .geq _ _ _ _ rfl .f64 _ _ rfl rfl rfl (by assumption) hB ?_; rw [hg]) | (go_at_call 34; refine (H.out _ _ (by assumption)).mono ?_; rintro e w' ⟨S, rfl, hS, nS, rfl⟩) | (refine wpList_fconv rfl _ _ _ rfl .f64 .f32 _ rfl (by rw [Try.underlying25]; rfl) Try.underlying22 hS hV ?_; intro r2 n2 hr2))
  go_ret
  exact ⟨_, rfl, by assumption, _, rfl⟩
/-- Both functions answer the same. -/
theorem both {x : Nat} {v : Option Nat} (hx : Is .f32 x v) : ∃ V,
    (∀ w, Calls Try.prog 13 #[.float .f32 x] w fun e w' => ∃ r, e = .returned (.float .f32 r) ∧ Is .f32 r V ∧ ∃ n, w' = w.drewN n) ∧
    (∀ w, Calls Try.prog 14 #[.float .f32 x] w fun e w' => ∃ r, e = .returned (.float .f32 r) ∧ Is .f32 r V ∧ ∃ n, w' = w.drewN n) := by
  have hst := sub_test hx
  cases hf : finF v
  · rw [hf] at hst
    exact ⟨fconv .f64 .f32 none, fun w => specSine w hx fits_none fun a w ha => sineWideNan w ha hst, fun w => implNan w hx hf⟩
  · rw [hf] at hst
    have hsome : v = some x ∧ nanw .f32 x = false := by
      rcases Is_cases hx.2 with g | g
      · obtain rfl : none = v := g.1.symm.trans hx.1
        cases hf
      · exact ⟨hx.1.symm.trans g.1, not_nan g⟩
    obtain ⟨rfl, hn⟩ := hsome
    obtain ⟨W, hW, hnW, _⟩ := widen_info x hn
    have hbe := big_eq hnW
    cases hg : fcmp .geq .f64 (fabs (fconv .f32 .f64 (some x))) big
    · rw [hW] at hg hst
      rw [hg] at hbe
      have g1 : fcmp .geq .f64 (some W) big = false := by
        cases h : fcmp .geq .f64 (some W) big
        · rfl
        · rw [h] at hbe; cases hbe
      have g2 : fcmp .leq .f64 (some W) lowBig = false := by rw [g1] at hbe; exact hbe.symm
      obtain ⟨s, m, p, hr, hM⟩ := small_cut hnW hg
      obtain ⟨hn2, hF⟩ := part_le hr hM
      have hfit := sine_fits hF
      refine ⟨_, fun w => specSine w hx hfit fun a w ha => ?_, fun w => implSmall w hx hf (by rw [hW]; exact hg) hfit fun a w ha => ?_⟩
      · rw [hW] at ha
        obtain rfl := is_of ha
        exact sineWide w ha hn2 hst g1 g2
      · rw [hW] at ha
        obtain rfl := is_of ha
        exact wideSine w ha hn2
    · have hg' := hg
      rw [hW] at hg' hst
      rw [hg'] at hbe
      refine ⟨some 0, fun w => ?_, fun w => implBig w hx hf hg⟩
      have e0 : fconv .f64 .f32 (some 0) = some 0 := by decide
      have := specSine w hx (V := some 0) ((zero_fin 0).fits (by decide)) fun a w ha => sineWideBig w ha (by rw [hW]; exact hst) (by rw [hW]; exact hbe.symm)
      rw [e0] at this
      exact this
set_option maxHeartbeats 400000 in
theorem walk (x : Nat) (wx : (Lit.float .f32 x).wf = true) (w : World) :
    Calls Try.prog 4 #[.float .f32 x] w fun e w' => e = .returned (.bool true) ∧ Below w.heap.size w w' := by
  have hx : Is .f32 x (cn .f32 x) := ⟨rfl, wf_lt wx⟩
  obtain ⟨V, hs, hi⟩ := both hx
  have HS := Lib.hid hs
  have HI := Lib.hid hi
  clear hs hi
  go_enter Try.func4, Try.ntmps4
  go_wp2_with (first | (go_at_call 13; refine (HS.out _).mono ?_; rintro e w' ⟨r1, rfl, hr1, n1, rfl⟩) | (go_at_call 14; refine (HI.out _).mono ?_; rintro e w' ⟨r2, rfl, hr2, n2, rfl⟩) | (refine wpList_fconv rfl _ _ _ rfl _ _ _ rfl (by rw [Try.underlying22]; rfl) Try.underlying25 hr1 (fits_widen_is hr1) ?_; intro r m hr) | (refine wpList_fconv rfl _ _ _ rfl _ _ _ rfl (by rw [Try.underlying22]; rfl) Try.underlying25 hr2 (fits_widen_is hr2) ?_; intro r m hr) | (go_at_call 12; refine (sameFloat _ (by assumption) (by assumption)).mono ?_; rintro e w' ⟨rfl, m, rfl⟩))
  go_ret
  exact ⟨rfl, below_n _ _⟩

set_option maxRecDepth 100000 in
theorem lifted (os : Os) (started : os.Started) (H : Type) (enc : TypeId × Value → H) :
    ReturnsInHanded {} Try.checked os 4 .any (Rows.fnExactSineTurnsSpec.pre6 enc Try.prog Try.f4 Rows.fnExactSineTurnsRow.domain false) (Rows.fnExactSineTurnsSpec.post enc Try.prog Try.f4 false true false false) := by
  refine returnsInHanded_of_change (C := Try.checked) own started (by kernel_rfl) Try.func4
    (ChangeSpec.witness6 (enc := enc) (C := Try.checked) false ⟨#[], #[.float .f32 0], []⟩ 8 (by kernel_rfl) (by kernel_rfl) (by kernel_rfl) (by kernel_rfl)) ?_
  intro W base args ds gs before hval0 hW hcnd hreach
  have hval : ∀ (j : Nat) t v, Try.f4.params[j]? = some t → args[j]? = some v → Value.okWide Try.prog W .any base t v := hval0
  have hW' := hW
  obtain ⟨p, q, hA0, hV, rfl, hfz, hnd⟩ := hW
  have hA : DataW.TrodAll enc Try.prog W 0 (fun _ => true) true Try.f4.params.toList args.toList ds p := hA0
  rw [Try.params4] at hA hval
  obtain ⟨v0, vs0, d0, ds0, p0, q0, hargs, rfl, rfl, h0, r0⟩ := trodAll_cons hA
  obtain ⟨rfl, rfl, rfl⟩ := trodAll_nil r0
  obtain rfl : args = #[v0] := by cases args; simp_all
  obtain ⟨rfl, rfl⟩ := trodVars_none hV
  obtain ⟨a0, rfl, rfl, rfl, w0⟩ := open_float Try.underlying22 (hval 0 22 v0 rfl rfl) h0
  clear hA0 hval0
  refine (walk a0 w0 W).mono fun e W' ⟨he, bel⟩ => ?_
  subst he
  exact ⟨_, rfl, _, _, _, [], _, [], hW', trodAll_mk1 (shut_bool Try.underlying4 _), (trodAll_cons_mk (shut_float Try.underlying22 w0) (trodAll_mk0)), rfl, bel.frame _, fun h => by cases h⟩

theorem over : Rows.fnExactSineTurnsRow.holds Try.pinned (OpenSpec.ofChange Rows.fnExactSineTurnsSpec) :=
  OpenClaim.holds_of_wide 4 Try.f4 rfl rfl rfl rfl rfl rfl rfl ⟨rfl, rfl, rfl, rfl, rfl⟩ rfl rfl rfl rfl rfl (by kernel_rfl) Try.func4 (by kernel_rfl)
    (of_decide_eq_true (by kernel_rfl)) (by unfold Func.isWrapper; rw [if_neg (of_decide_eq_false (by kernel_rfl))]; exact ⟨rfl, rfl⟩)
    (fun os started H enc _ => lifted os started H enc)

theorem proved : Rows.FnExactSineTurnsSaid := over
end Go.Proofs.Ytnkcaiifohplaad.lawSineTurns
