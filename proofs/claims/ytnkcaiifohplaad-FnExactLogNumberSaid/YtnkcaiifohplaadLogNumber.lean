/- For every 32-bit number, impl.LogNumber answers as the model of the document does, and changes nothing that it is given. -/
import Derived.Test.YtnkcaiifohplaadRows
import Derived.WalkKit
import Derived.WalkLawsBesides
import Derived.ProofKit
import Derived.OpenShut
import Derived.ShutString
import Derived.ChangeOld
import Derived.Below
import Derived.IntWalk
import Derived.Lib.Hide
import Derived.Test.YtnkcaiifohplaadSame
import Derived.Test.YtnkcaiifohplaadLogWide
import Derived.Test.YtnkcaiifohplaadLh
namespace Go.Proofs.Ytnkcaiifohplaad.lawLogNumber
open Go.ChangeShapes Go.WideShapes Go.ChangeAt Go.RowKit
open Go.ChangeMaps (open_string shut_string)
set_option linter.unusedVariables false
theorem own : ownKnob Try.prog.godebug = none := by kernel_rfl
theorem laidOut : laidOutB Try.prog = true := by kernel_rfl
open Go.Proofs.Ytnkcaiifohplaad.Fl
theorem below_n (w : World) (n : Nat) : Below w.heap.size w (w.drewN n) := ⟨rfl, rfl, rfl, Nat.le_refl _, fun _ _ => rfl⟩
theorem is_low : Is .f64 18442240474082181120 (some 18442240474082181120) := ⟨by decide, by decide⟩
theorem is_max32 : Is .f32 2139095039 (some 2139095039) := ⟨by decide, by decide⟩
theorem is_zero32 : Is .f32 0 (some 0) := ⟨by decide, by decide⟩
set_option maxHeartbeats 400000 in
theorem mathInf (w : World) :
    Calls Try.prog 41 #[.int .i64 (-1)] w fun e w' => e = .returned (.float .f64 18442240474082181120) ∧ w = w' := by
  have he : ∀ w, (callFunc 46 #[.int .u64 18442240474082181120]).run Try.prog w = .ok (.value (.float .f64 18442240474082181120)) w := fun w => ext_f64from 18442240474082181120 w
  go_enter Try.func41, Try.ntmps41
  go_wp2
  go_ret
  exact ⟨rfl, rfl⟩
set_option maxHeartbeats 400000 in
theorem narrow {x : Nat} {v : Option Nat} (w : World) (hx : Is .f64 x v) (hf : Fits .f64 .f32 v) :
    Calls Try.prog 48 #[.float .f64 x] w fun e w' => ∃ r, e = .returned (.float .f32 r) ∧ Is .f32 r (fconv .f64 .f32 v) ∧ ∃ n, w' = w.drewN n := by
  go_enter Try.func48, Try.ntmps48
  go_wp2_with (refine wpList_fconv rfl _ _ _ rfl _ _ _ rfl (by rw [Try.underlying25]; rfl) Try.underlying22 hx hf ?_; intro r n hr)
  go_ret
  exact ⟨_, rfl, by assumption, _, rfl⟩
set_option maxHeartbeats 400000 in
theorem specLog {x : Nat} {v V : Option Nat} (w : World) (hx : Is .f32 x v) (hV : Fits .f64 .f32 V)
    (h : ∀ (a : Nat) (w : World), Is .f64 a (fconv .f32 .f64 v) → Calls Try.prog 54 #[.float .f64 a] w fun e w' => ∃ r, e = .returned (.float .f64 r) ∧ Is .f64 r V ∧ ∃ n, w' = w.drewN n) :
    Calls Try.prog 25 #[.float .f32 x] w fun e w' => ∃ r, e = .returned (.float .f32 r) ∧ Is .f32 r (fconv .f64 .f32 V) ∧ ∃ n, w' = w.drewN n := by
  have H := Lib.hid h
  clear h
  go_enter Try.func25, Try.ntmps25
  go_wp2_with (first | (go_at_call 42; go_in) | (refine wpList_fconv rfl _ _ _ rfl .f32 .f64 x rfl (by rw [Try.underlying22]; rfl) Try.underlying25 hx (fits_widen_is hx) ?_; intro X nX hX) | (go_at_call 54; refine (H.out _ _ hX).mono ?_; rintro e w' ⟨r, rfl, hr, n, rfl⟩) | (go_at_call 48; refine (narrow _ (by assumption) hV).mono ?_; rintro e w' ⟨r2, rfl, hr2, n2, rfl⟩))
  go_ret
  exact ⟨_, rfl, by assumption, _, rfl⟩
/-! ## What the model's function tests -/
set_option maxHeartbeats 400000 in
theorem wideNan {b : Nat} {v : Option Nat} (w : World) (hb : Is .f64 b v) (h : fcmp .neq .f64 v v = true ∨ fcmp .lss .f64 v (some 0) = true) :
    Calls Try.prog 54 #[.float .f64 b] w fun e w' => ∃ r, e = .returned (.float .f64 r) ∧ Is .f64 r none ∧ ∃ n, w' = w.drewN n := by
  have h0 := is_zero64
  cases h1 : fcmp .neq .f64 v v
  · have h2 : fcmp .lss .f64 v (some 0) = true := by rcases h with h | h; (· rw [h1] at h; cases h); exact h
    clear h
    go_enter Try.func54, Try.ntmps54
    go_wp2_with (first | (refine wpList_fcmp rfl .neq _ _ _ _ rfl .f64 b b rfl rfl rfl hb hb ?_; rw [h1]) | (refine wpList_fcmp rfl .lss _ _ _ _ rfl .f64 b _ rfl rfl rfl hb h0 ?_; rw [h2]) | (go_at_call 32; refine (mathNaN _).mono ?_; rintro e w' ⟨r, rfl, hr, rfl⟩))
    go_ret
    exact ⟨_, rfl, by assumption, 0, rfl⟩
  · clear h
    go_enter Try.func54, Try.ntmps54
    go_wp2_with (first | (refine wpList_fcmp rfl .neq _ _ _ _ rfl .f64 b b rfl rfl rfl hb hb ?_; rw [h1]) | (go_at_call 32; refine (mathNaN _).mono ?_; rintro e w' ⟨r, rfl, hr, rfl⟩))
    go_ret
    exact ⟨_, rfl, by assumption, 0, rfl⟩
set_option maxHeartbeats 400000 in
theorem wideZero {b : Nat} {v : Option Nat} (w : World) (hb : Is .f64 b v) (h1 : fcmp .neq .f64 v v = false) (h2 : fcmp .lss .f64 v (some 0) = false) (h3 : fcmp .eql .f64 v (some 0) = true) :
    Calls Try.prog 54 #[.float .f64 b] w fun e w' => ∃ r, e = .returned (.float .f64 r) ∧ Is .f64 r (some 18442240474082181120) ∧ ∃ n, w' = w.drewN n := by
  have h0 := is_zero64
  go_enter Try.func54, Try.ntmps54
  go_wp2_with (first | (refine wpList_fcmp rfl .neq _ _ _ _ rfl .f64 b b rfl rfl rfl hb hb ?_; rw [h1]) | (refine wpList_fcmp rfl .lss _ _ _ _ rfl .f64 b _ rfl rfl rfl hb h0 ?_; rw [h2]) | (refine wpList_fcmp rfl .eql _ _ _ _ rfl .f64 b _ rfl rfl rfl hb h0 ?_; rw [h3]) | (go_at_call 41; refine (mathInf _).mono ?_; rintro e w' ⟨rfl, rfl⟩))
  go_ret
  exact ⟨_, rfl, is_low, 0, rfl⟩
set_option maxHeartbeats 400000 in
theorem wideInf {b : Nat} {v : Option Nat} (w : World) (hb : Is .f64 b v) (h1 : fcmp .neq .f64 v v = false) (h2 : fcmp .lss .f64 v (some 0) = false) (h3 : fcmp .eql .f64 v (some 0) = false) (h4 : fcmp .gtr .f64 v (some 9218868437227405311) = true) :
    Calls Try.prog 54 #[.float .f64 b] w fun e w' => ∃ r, e = .returned (.float .f64 r) ∧ Is .f64 r v ∧ ∃ n, w' = w.drewN n := by
  have h0 := is_zero64
  go_enter Try.func54, Try.ntmps54
  go_wp2_with (first | (refine wpList_fcmp rfl .neq _ _ _ _ rfl .f64 b b rfl rfl rfl hb hb ?_; rw [h1]) | (refine wpList_fcmp rfl .lss _ _ _ _ rfl .f64 b _ rfl rfl rfl hb h0 ?_; rw [h2]) | (refine wpList_fcmp rfl .eql _ _ _ _ rfl .f64 b _ rfl rfl rfl hb h0 ?_; rw [h3]) | (go_at_call 58; refine (isInf _ hb).mono ?_; rintro e w' ⟨rfl, rfl⟩; rw [h4]))
  go_ret
  exact ⟨_, rfl, hb, 0, rfl⟩
/-! ## The program's function -/
set_option maxHeartbeats 400000 in
theorem implZero {x : Nat} {v : Option Nat} (w : World) (hx : Is .f32 x v) (h3 : fcmp .eql .f32 v (some 0) = true) :
    Calls Try.prog 26 #[.float .f32 x] w fun e w' => ∃ r, e = .returned (.float .f32 r) ∧ Is .f32 r (fconv .f64 .f32 (some 18442240474082181120)) ∧ ∃ n, w' = w.drewN n := by
  have h0 := is_zero32
  have hl := is_low
  have hf : Fits .f64 .f32 (some 18442240474082181120) := fits_inf true
  go_enter Try.func26, Try.ntmps26
  go_wp2_with (first | (refine wpList_fcmp rfl .eql _ _ _ _ rfl .f32 x _ rfl rfl rfl hx h0 ?_; rw [h3]) | (go_at_call 41; refine (mathInf _).mono ?_; rintro e w' ⟨rfl, rfl⟩) | (refine wpList_fconv rfl _ _ _ rfl .f64 .f32 _ rfl (by rw [Try.underlying25]; rfl) Try.underlying22 hl hf ?_; intro r n hr))
  go_ret
  exact ⟨_, rfl, by assumption, _, rfl⟩
set_option maxHeartbeats 400000 in
theorem implInf {x : Nat} {v : Option Nat} (w : World) (hx : Is .f32 x v) (h3 : fcmp .eql .f32 v (some 0) = false) (h4 : fcmp .gtr .f32 v (some 2139095039) = true) :
    Calls Try.prog 26 #[.float .f32 x] w fun e w' => ∃ r, e = .returned (.float .f32 r) ∧ Is .f32 r v ∧ ∃ n, w' = w.drewN n := by
  have h0 := is_zero32
  have hm := is_max32
  go_enter Try.func26, Try.ntmps26
  go_wp2_with (first | (refine wpList_fcmp rfl .eql _ _ _ _ rfl .f32 x _ rfl rfl rfl hx h0 ?_; rw [h3]) | (refine wpList_fcmp rfl .gtr _ _ _ _ rfl .f32 x 2139095039 rfl rfl rfl hx hm ?_; rw [h4]))
  go_ret
  exact ⟨_, rfl, hx, 0, rfl⟩
set_option maxHeartbeats 400000 in
theorem implNan {x : Nat} {v : Option Nat} (w : World) (hx : Is .f32 x v) (h3 : fcmp .eql .f32 v (some 0) = false) (h4 : fcmp .gtr .f32 v (some 2139095039) = false) (h5 : fcmp .gtr .f32 v (some 0) = false) :
    Calls Try.prog 26 #[.float .f32 x] w fun e w' => ∃ r, e = .returned (.float .f32 r) ∧ Is .f32 r none ∧ ∃ n, w' = w.drewN n := by
  have h0 := is_zero32
  have hm := is_max32
  go_enter Try.func26, Try.ntmps26
  go_wp2_with (first | (refine wpList_fcmp rfl .eql _ _ _ _ rfl .f32 x _ rfl rfl rfl hx h0 ?_; rw [h3]) | (refine wpList_fcmp rfl .gtr _ _ _ _ rfl .f32 x 2139095039 rfl rfl rfl hx hm ?_; rw [h4]) | (refine wpList_fcmp rfl .gtr _ _ _ _ rfl .f32 x 0 rfl rfl rfl hx h0 ?_; rw [h5]) | (go_at_call 32; refine (mathNaN _).mono ?_; rintro e w' ⟨r, rfl, hr, rfl⟩) | (refine wpList_fconv rfl _ _ _ rfl .f64 .f32 _ rfl (by rw [Try.underlying25]; rfl) Try.underlying22 (by assumption) fits_none ?_; intro r2 n2 hr2))
  go_ret
  exact ⟨_, rfl, by assumption, _, rfl⟩
set_option maxHeartbeats 400000 in
theorem implPos {x : Nat} {v V : Option Nat} (w : World) (hx : Is .f32 x v) (h3 : fcmp .eql .f32 v (some 0) = false) (h4 : fcmp .gtr .f32 v (some 2139095039) = false) (h5 : fcmp .gtr .f32 v (some 0) = true) (hV : Fits .f64 .f32 V)
    (h : ∀ (a : Nat) (w : World), Is .f64 a (fconv .f32 .f64 v) → Calls Try.prog 43 #[.float .f64 a] w fun e w' => ∃ r, e = .returned (.float .f64 r) ∧ Is .f64 r V ∧ ∃ n, w' = w.drewN n) :
    Calls Try.prog 26 #[.float .f32 x] w fun e w' => ∃ r, e = .returned (.float .f32 r) ∧ Is .f32 r (fconv .f64 .f32 V) ∧ ∃ n, w' = w.drewN n := by
  have h0 := is_zero32
  have hm := is_max32
  have H := Lib.hid h
  clear h
  go_enter Try.func26, Try.ntmps26
  go_wp2_with (first | (refine wpList_fcmp rfl .eql _ _ _ _ rfl .f32 x _ rfl rfl rfl hx h0 ?_; rw [h3]) | (refine wpList_fcmp rfl .gtr _ _ _ _ rfl .f32 x 2139095039 rfl rfl rfl hx hm ?_; rw [h4]) | (refine wpList_fcmp rfl .gtr _ _ _ _ rfl .f32 x 0 rfl rfl rfl hx h0 ?_; rw [h5]) | (refine wpList_fconv rfl _ _ _ rfl .f32 .f64 x rfl (by rw [Try.underlying22]; rfl) Try.underlying25 hx (fits_widen_is hx) ?_; intro X nX hX) | (go_at_call 43; refine (H.out _ _ (by assumption)).mono ?_; rintro e w' ⟨S, rfl, hS, nS, rfl⟩) | (refine wpList_fconv rfl _ _ _ rfl .f64 .f32 _ rfl (by rw [Try.underlying25]; rfl) Try.underlying22 hS hV ?_; intro r2 n2 hr2))
  go_ret
  exact ⟨_, rfl, by assumption, _, rfl⟩
theorem self_eq {W : Nat} (h : nanw .f64 W = false) : fcmp .neq .f64 (some W) (some W) = false := by
  simp [fcmp, ford, order_self .f64 W h]
/-- Both functions answer the same. -/
theorem both {x : Nat} {v : Option Nat} (hx : Is .f32 x v) : ∃ V,
    (∀ w, Calls Try.prog 25 #[.float .f32 x] w fun e w' => ∃ r, e = .returned (.float .f32 r) ∧ Is .f32 r V ∧ ∃ n, w' = w.drewN n) ∧
    (∀ w, Calls Try.prog 26 #[.float .f32 x] w fun e w' => ∃ r, e = .returned (.float .f32 r) ∧ Is .f32 r V ∧ ∃ n, w' = w.drewN n) := by
  rcases Is_cases hx.2 with g | g
  · obtain rfl : none = v := g.1.symm.trans hx.1
    exact ⟨fconv .f64 .f32 none, fun w => specLog w hx fits_none fun a w ha => wideNan w ha (.inl rfl), fun w => implNan w hx rfl rfl rfl⟩
  · obtain rfl : some x = v := g.1.symm.trans hx.1
    have hn := not_nan g
    obtain ⟨W, hW, hnW, hsW, h0W, hiW⟩ := widen_info x hn
    have hse := self_eq hnW
    have hl := widen_lss hn
    have hq := widen_eql hn
    rw [hW] at hl hq
    rw [lss_zero hn] at hl
    rw [eql_zero hn] at hq
    have hq32 := eql_zero hn
    have hg32 := gtr_zero hn
    have hs32 : sgn .f32 = 2147483648 := rfl
    rw [hs32] at hl hq hq32
    by_cases hz : x % 2147483648 = 0
    · rw [decide_eq_true hz] at hq hq32
      rw [decide_eq_false (p := x % 2147483648 ≠ 0) (by omega), Bool.and_false] at hl
      exact ⟨_, fun w => specLog w hx (fits_inf true) fun a w ha => wideZero w (by rw [hW] at ha; exact ha) hse hl hq, fun w => implZero w hx hq32⟩
    · rw [decide_eq_false hz] at hq hq32
      rw [decide_eq_true (p := x % 2147483648 ≠ 0) hz, Bool.and_true] at hl hg32
      cases hsg : sg .f32 x
      · rw [hsg] at hl hg32
        by_cases hf : x % 2147483648 < 2139095040
        · obtain ⟨W', hW', hnW', hst⟩ := start_of hn hf hz hsg
          obtain rfl : W = W' := Option.some.inj (hW.symm.trans hW')
          obtain ⟨c, k, hend⟩ := RedEnd.exists hst
          have hfit : Fits .f64 .f32 (logF c k) := (logF_fin hend).fits (by decide)
          refine ⟨_, fun w => specLog w hx hfit fun a w ha => ?_, fun w => implPos w hx hq32 (gtr_max hn (.inl hf)) hg32 hfit fun a w ha => ?_⟩
          · rw [hW] at ha
            obtain rfl := is_word ha
            refine (logWide w ha hst hse hl hq (not_huge hst)).mono fun e w' ⟨r, c', k', he, hend', hr, hw⟩ => ⟨r, he, ?_, hw⟩
            obtain ⟨rfl, rfl⟩ := hend.unique hend'
            exact hr
          · rw [hW] at ha
            obtain rfl := is_word ha
            refine (wideLog w ha hst).mono fun e w' ⟨r, c', k', he, hend', hr, hw⟩ => ⟨r, he, ?_, hw⟩
            obtain ⟨rfl, rfl⟩ := hend.unique hend'
            exact hr
        · have hlt : x < 4294967296 := hx.2
          have hx0 : x = 2139095040 := by
            have h1 := hn
            rw [nanw_eq] at h1
            have h2 : ¬ 2139095040 < x % 2147483648 := of_decide_eq_false h1
            have h3 : (x / 2147483648 % 2 == 1) = false := hsg
            have h4 : x / 2147483648 % 2 ≠ 1 := by simpa using h3
            omega
          subst hx0
          have e1 : fconv .f32 .f64 (some 2139095040) = some 9218868437227405312 := by decide
          have e2 : fconv .f64 .f32 (some 9218868437227405312) = some 2139095040 := by decide
          obtain rfl : W = 9218868437227405312 := Option.some.inj (hW.symm.trans e1)
          refine ⟨some 2139095040, fun w => ?_, fun w => implInf w hx hq32 (by decide)⟩
          have := specLog w hx (V := some 9218868437227405312) (fits_inf false) fun a w ha => by
            rw [e1] at ha
            exact wideInf w ha hse hl hq (by decide)
          rw [e2] at this
          exact this
      · rw [hsg] at hl hg32
        refine ⟨fconv .f64 .f32 none, fun w => specLog w hx fits_none fun a w ha => wideNan w (by rw [hW] at ha; exact ha) (.inr hl), fun w => implNan w hx hq32 (gtr_max hn (.inr hsg)) hg32⟩
set_option maxHeartbeats 400000 in
theorem walk (x : Nat) (wx : (Lit.float .f32 x).wf = true) (w : World) :
    Calls Try.prog 9 #[.float .f32 x] w fun e w' => e = .returned (.bool true) ∧ Below w.heap.size w w' := by
  have hx : Is .f32 x (cn .f32 x) := ⟨rfl, wf_lt wx⟩
  obtain ⟨V, hs, hi⟩ := both hx
  have HS := Lib.hid hs
  have HI := Lib.hid hi
  clear hs hi
  go_enter Try.func9, Try.ntmps9
  go_wp2_with (first | (go_at_call 25; refine (HS.out _).mono ?_; rintro e w' ⟨r1, rfl, hr1, n1, rfl⟩) | (go_at_call 26; refine (HI.out _).mono ?_; rintro e w' ⟨r2, rfl, hr2, n2, rfl⟩) | (refine wpList_fconv rfl _ _ _ rfl _ _ _ rfl (by rw [Try.underlying22]; rfl) Try.underlying25 hr1 (fits_widen_is hr1) ?_; intro r m hr) | (refine wpList_fconv rfl _ _ _ rfl _ _ _ rfl (by rw [Try.underlying22]; rfl) Try.underlying25 hr2 (fits_widen_is hr2) ?_; intro r m hr) | (go_at_call 12; refine (sameFloat _ (by assumption) (by assumption)).mono ?_; rintro e w' ⟨rfl, m, rfl⟩))
  go_ret
  exact ⟨rfl, below_n _ _⟩

set_option maxRecDepth 100000 in
theorem lifted (os : Os) (started : os.Started) (H : Type) (enc : TypeId × Value → H) :
    ReturnsInHanded {} Try.checked os 9 .any (Rows.fnExactLogNumberSpec.pre6 enc Try.prog Try.f9 Rows.fnExactLogNumberRow.domain false) (Rows.fnExactLogNumberSpec.post enc Try.prog Try.f9 false true false false) := by
  refine returnsInHanded_of_change (C := Try.checked) own started (by kernel_rfl) Try.func9
    (ChangeSpec.witness6 (enc := enc) (C := Try.checked) false ⟨#[], #[.float .f32 0], []⟩ 8 (by kernel_rfl) (by kernel_rfl) (by kernel_rfl) (by kernel_rfl)) ?_
  intro W base args ds gs before hval0 hW hcnd hreach
  have hval : ∀ (j : Nat) t v, Try.f9.params[j]? = some t → args[j]? = some v → Value.okWide Try.prog W .any base t v := hval0
  have hW' := hW
  obtain ⟨p, q, hA0, hV, rfl, hfz, hnd⟩ := hW
  have hA : DataW.TrodAll enc Try.prog W 0 (fun _ => true) true Try.f9.params.toList args.toList ds p := hA0
  rw [Try.params9] at hA hval
  obtain ⟨v0, vs0, d0, ds0, p0, q0, hargs, rfl, rfl, h0, r0⟩ := trodAll_cons hA
  obtain ⟨rfl, rfl, rfl⟩ := trodAll_nil r0
  obtain rfl : args = #[v0] := by cases args; simp_all
  obtain ⟨rfl, rfl⟩ := trodVars_none hV
  obtain ⟨a0, rfl, rfl, rfl, w0⟩ := open_float Try.underlying22 (hval 0 22 v0 rfl rfl) h0
  clear hA0 hval0
  refine (walk a0 w0 W).mono fun e W' ⟨he, bel⟩ => ?_
  subst he
  exact ⟨_, rfl, _, _, _, [], _, [], hW', trodAll_mk1 (shut_bool Try.underlying4 _), (trodAll_cons_mk (shut_float Try.underlying22 w0) (trodAll_mk0)), rfl, bel.frame _, fun h => by cases h⟩

theorem over : Rows.fnExactLogNumberRow.holds Try.pinned (OpenSpec.ofChange Rows.fnExactLogNumberSpec) :=
  OpenClaim.holds_of_wide 9 Try.f9 rfl rfl rfl rfl rfl rfl rfl ⟨rfl, rfl, rfl, rfl, rfl⟩ rfl rfl rfl rfl rfl (by kernel_rfl) Try.func9 (by kernel_rfl)
    (of_decide_eq_true (by kernel_rfl)) (by unfold Func.isWrapper; rw [if_neg (of_decide_eq_false (by kernel_rfl))]; exact ⟨rfl, rfl⟩)
    (fun os started H enc _ => lifted os started H enc)

theorem proved : Rows.FnExactLogNumberSaid := over
end Go.Proofs.Ytnkcaiifohplaad.lawLogNumber
