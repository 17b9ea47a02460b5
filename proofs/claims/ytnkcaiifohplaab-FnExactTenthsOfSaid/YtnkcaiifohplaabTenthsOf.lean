/- For every 32-bit number, impl.TenthsOf answers as the model of the document does, and changes nothing that it is given. -/
import Derived.Test.YtnkcaiifohplaabRows
import Derived.WalkKit
import Derived.WalkLawsBesides
import Derived.ProofKit
import Derived.OpenShut
import Derived.ShutString
import Derived.ChangeOld
import Derived.Below
import Derived.IntWalk
import Derived.Lib.Hide
import Derived.Test.YtnkcaiifohplaabFin
import Derived.Test.YtnkcaiifohplaabLogWide
import Derived.Test.YtnkcaiifohplaabTn
namespace Go.Proofs.Ytnkcaiifohplaab.lawTenthsOf
open Go.ChangeShapes Go.WideShapes Go.ChangeAt Go.RowKit
open Go.ChangeMaps (open_string shut_string)
set_option linter.unusedVariables false
theorem own : ownKnob Try.prog.godebug = none := by kernel_rfl
theorem laidOut : laidOutB Try.prog = true := by kernel_rfl
open Go.Proofs.Ytnkcaiifohplaab.Fl
theorem below_n (w : World) (n : Nat) : Below w.heap.size w (w.drewN n) := ⟨rfl, rfl, rfl, Nat.le_refl _, fun _ _ => rfl⟩
theorem is_zero32 : Is .f32 0 (some 0) := ⟨by decide, by decide⟩
theorem is_ten : Is .f64 4631308968768463603 (some 4631308968768463603) := ⟨by decide, by decide⟩
theorem sub_self32 {x : Nat} {v : Option Nat} (hx : Is .f32 x v) : fcmp .eql .f32 (fop .sub .f32 v v) (some 0) = finF v := by
  rcases Is_cases hx.2 with g | g
  · obtain rfl : none = v := g.1.symm.trans hx.1
    rfl
  · obtain rfl : some x = v := g.1.symm.trans hx.1
    exact sub_self' (not_nan g)
set_option maxHeartbeats 400000 in
theorem specFin {x : Nat} {v : Option Nat} (w : World) (hx : Is .f32 x v) :
    Calls Try.prog 22 #[.float .f32 x] w fun e w' => e = .returned (.bool (finF v)) ∧ ∃ n, w' = w.drewN n := by
  have hz := is_zero32
  have hq := sub_self32 hx
  go_enter Try.func22, Try.ntmps22
  go_wp2_with (first | (refine wpList_fop rfl _ _ _ _ _ rfl _ _ _ rfl rfl rfl hx hx ?_; intro r m hr) | (refine wpList_fcmp rfl _ _ _ _ _ rfl _ _ _ rfl rfl rfl (by assumption) hz ?_; rw [hq]))
  go_ret
  exact ⟨rfl, _, rfl⟩
set_option maxHeartbeats 400000 in
theorem mathFloor {b : Nat} {s : Bool} {m : Nat} {p : Int} (w : World) (hr : FloatKind.f64.format.read b = .number s m p) :
    Calls Try.prog 25 #[.float .f64 b] w fun e w' => e = .returned (.float .f64 (floorW b)) ∧ w = w' := by
  have he : ∀ w, (callFunc 35 #[.float .f64 b]).run Try.prog w = .ok (.value (.float .f64 (floorW b))) w := fun w => by
    rw [run_callFunc_extern Try.func35 (by kernel_rfl) (by kernel_rfl) (by kernel_rfl) (e := Extern.MathFloor.toIntegral "math.archFloor" .down) (by kernel_rfl) #[.float .f64 b] w, run_floor w hr]
    rfl
  clear hr
  go_enter Try.func25, Try.ntmps25
  go_wp2
  go_ret
  exact ⟨rfl, rfl⟩
theorem conv_floor (b : Nat) (n : Int) (hn : floatToIntVal .f64 b .i64 = some n) (w : World) : (convert 22 2 (.float .f64 b)).run Try.prog w = .ok (.int .i64 n) w :=
  run_convert_float_int w 22 2 .f64 .i64 b n (by rw [Try.underlying22]; rfl) Try.underlying2 hn
/-! ## No number -/
set_option maxHeartbeats 400000 in
theorem specNo {x : Nat} {v : Option Nat} (w : World) (hx : Is .f32 x v) (h : finF v = false ∨ fcmp .leq .f32 v (some 0) = true) :
    Calls Try.prog 9 #[.float .f32 x] w fun e w' => e = .returned (.tuple #[.int .i64 0, .bool false]) ∧ ∃ n, w' = w.drewN n := by
  have h0 := is_zero32
  cases hf : finF v
  · clear h
    go_enter Try.func9, Try.ntmps9
    go_wp2_with (go_at_call 22; refine (specFin _ hx).mono ?_; rintro e w' ⟨rfl, n, rfl⟩; rw [hf])
    go_ret2
    exact ⟨rfl, _, rfl⟩
  · have hl : fcmp .leq .f32 v (some 0) = true := by rcases h with h | h; (· rw [hf] at h; cases h); exact h
    clear h
    go_enter Try.func9, Try.ntmps9
    go_wp2_with (first | (go_at_call 22; refine (specFin _ hx).mono ?_; rintro e w' ⟨rfl, n, rfl⟩; rw [hf]) | (refine wpList_fcmp rfl .leq _ _ _ _ rfl .f32 x 0 rfl rfl rfl hx h0 ?_; rw [hl]))
    go_ret2
    exact ⟨rfl, _, rfl⟩
set_option maxHeartbeats 400000 in
theorem implNo {x : Nat} {v : Option Nat} (w : World) (hx : Is .f32 x v) (h : finF v = false ∨ fcmp .leq .f32 v (some 0) = true) :
    Calls Try.prog 10 #[.float .f32 x] w fun e w' => e = .returned (.tuple #[.int .i64 0, .bool false]) ∧ ∃ n, w' = w.drewN n := by
  have h0 := is_zero32
  cases hf : finF v
  · clear h
    go_enter Try.func10, Try.ntmps10
    go_wp2_with (go_at_call 24; refine (implIsFinite _ hx).mono ?_; rintro e w' ⟨rfl, n, rfl⟩; rw [hf])
    go_ret2
    exact ⟨rfl, _, rfl⟩
  · have hl : fcmp .leq .f32 v (some 0) = true := by rcases h with h | h; (· rw [hf] at h; cases h); exact h
    clear h
    go_enter Try.func10, Try.ntmps10
    go_wp2_with (first | (go_at_call 24; refine (implIsFinite _ hx).mono ?_; rintro e w' ⟨rfl, n, rfl⟩; rw [hf]) | (refine wpList_fcmp rfl .leq _ _ _ _ rfl .f32 x 0 rfl rfl rfl hx h0 ?_; rw [hl]))
    go_ret2
    exact ⟨rfl, _, rfl⟩
/-! ## A number -/
set_option maxHeartbeats 400000 in
theorem specTen {x y : Nat} {v L : Option Nat} {n : Int} {s : Bool} {m : Nat} {p : Int} (w : World) (hx : Is .f32 x v) (hy : tenF L = some y) (hr : FloatKind.f64.format.read y = .number s m p) (hn : floatToIntVal .f64 (floorW y) .i64 = some n)
    (h : ∀ (a : Nat) (w : World), Is .f64 a (fconv .f32 .f64 v) → Calls Try.prog 34 #[.float .f64 a] w fun e w' => ∃ r, e = .returned (.float .f64 r) ∧ Is .f64 r L ∧ ∃ n, w' = w.drewN n) :
    Calls Try.prog 23 #[.float .f32 x] w fun e w' => e = .returned (.int .i64 n) ∧ ∃ n, w' = w.drewN n := by
  have H := Lib.hid h
  have hh := is_half
  have ht := is_ten
  have hcv := conv_floor _ n hn
  have HY := Lib.hid hy
  have HF : Hid (∀ w, Calls Try.prog 25 #[.float .f64 y] w fun e w' => e = .returned (.float .f64 (floorW y)) ∧ w = w') := fun w => mathFloor w hr
  clear h hn hy hr
  go_enter Try.func23, Try.ntmps23
  go_wp2_with (first | (refine wpList_fconv rfl _ _ _ rfl .f32 .f64 x rfl (by rw [Try.underlying28]; rfl) Try.underlying22 hx (fits_widen_is hx) ?_; intro X nX hX) | (go_at_call 34; refine (H.out _ _ hX).mono ?_; rintro e w' ⟨r, rfl, hr, n, rfl⟩) | (refine wpList_fop rfl .mul _ _ _ _ rfl .f64 _ _ rfl rfl rfl hr ht ?_; intro r2 n2 hr2) | (refine wpList_fop rfl .add _ _ _ _ rfl .f64 _ _ rfl rfl rfl hr2 hh ?_; intro r3 n3 hr3; obtain rfl : r3 = y := is_word (by rw [← HY.out]; exact hr3)) | (go_at_call 25; refine (HF.out _).mono ?_; rintro e w' ⟨rfl, rfl⟩))
  go_ret
  exact ⟨rfl, _, rfl⟩
set_option maxHeartbeats 400000 in
theorem specYes {x y : Nat} {v L : Option Nat} {n : Int} {s : Bool} {m : Nat} {p : Int} (w : World) (hx : Is .f32 x v) (hf : finF v = true) (hl : fcmp .leq .f32 v (some 0) = false) (hy : tenF L = some y) (hr : FloatKind.f64.format.read y = .number s m p) (hn : floatToIntVal .f64 (floorW y) .i64 = some n)
    (h : ∀ (a : Nat) (w : World), Is .f64 a (fconv .f32 .f64 v) → Calls Try.prog 34 #[.float .f64 a] w fun e w' => ∃ r, e = .returned (.float .f64 r) ∧ Is .f64 r L ∧ ∃ n, w' = w.drewN n) :
    Calls Try.prog 9 #[.float .f32 x] w fun e w' => e = .returned (.tuple #[.int .i64 n, .bool true]) ∧ ∃ n, w' = w.drewN n := by
  have h0 := is_zero32
  have HT : Hid (∀ w, Calls Try.prog 23 #[.float .f32 x] w fun e w' => e = .returned (.int .i64 n) ∧ ∃ n, w' = w.drewN n) := fun w => specTen w hx hy hr hn h
  clear h hn hy hr
  go_enter Try.func9, Try.ntmps9
  go_wp2_with (first | (go_at_call 22; refine (specFin _ hx).mono ?_; rintro e w' ⟨rfl, n, rfl⟩; rw [hf]) | (refine wpList_fcmp rfl .leq _ _ _ _ rfl .f32 x 0 rfl rfl rfl hx h0 ?_; rw [hl]) | (go_at_call 23; refine (HT.out _).mono ?_; rintro e w' ⟨rfl, n2, rfl⟩))
  go_ret2
  exact ⟨rfl, _, rfl⟩
set_option maxHeartbeats 400000 in
theorem implYes {x y : Nat} {v L : Option Nat} {n : Int} {s : Bool} {m : Nat} {p : Int} (w : World) (hx : Is .f32 x v) (hf : finF v = true) (hl : fcmp .leq .f32 v (some 0) = false) (hy : tenF L = some y) (hr : FloatKind.f64.format.read y = .number s m p) (hn : floatToIntVal .f64 (floorW y) .i64 = some n)
    (h : ∀ (a : Nat) (w : World), Is .f64 a (fconv .f32 .f64 v) → Calls Try.prog 26 #[.float .f64 a] w fun e w' => ∃ r, e = .returned (.float .f64 r) ∧ Is .f64 r L ∧ ∃ n, w' = w.drewN n) :
    Calls Try.prog 10 #[.float .f32 x] w fun e w' => e = .returned (.tuple #[.int .i64 n, .bool true]) ∧ ∃ n, w' = w.drewN n := by
  have H := Lib.hid h
  have h0 := is_zero32
  have hh := is_half
  have ht := is_ten
  have hcv := conv_floor _ n hn
  have HY := Lib.hid hy
  have HF : Hid (∀ w, Calls Try.prog 25 #[.float .f64 y] w fun e w' => e = .returned (.float .f64 (floorW y)) ∧ w = w') := fun w => mathFloor w hr
  clear h hn hy hr
  go_enter Try.func10, Try.ntmps10
  go_wp2_with (first | (go_at_call 24; refine (implIsFinite _ hx).mono ?_; rintro e w' ⟨rfl, n, rfl⟩; rw [hf]) | (refine wpList_fcmp rfl .leq _ _ _ _ rfl .f32 x 0 rfl rfl rfl hx h0 ?_; rw [hl]) | (refine wpList_fconv rfl _ _ _ rfl .f32 .f64 x rfl (by rw [Try.underlying28]; rfl) Try.underlying22 hx (fits_widen_is hx) ?_; intro X nX hX) | (go_at_call 26; refine (H.out _ _ hX).mono ?_; rintro e w' ⟨r, rfl, hr, n, rfl⟩) | (refine wpList_fop rfl .mul _ _ _ _ rfl .f64 _ _ rfl rfl rfl hr ht ?_; intro r2 n2 hr2) | (refine wpList_fop rfl .add _ _ _ _ rfl .f64 _ _ rfl rfl rfl hr2 hh ?_; intro r3 n3 hr3; obtain rfl : r3 = y := is_word (by rw [← HY.out]; exact hr3)) | (go_at_call 25; refine (HF.out _).mono ?_; rintro e w' ⟨rfl, rfl⟩))
  go_ret2
  exact ⟨rfl, _, rfl⟩
theorem self_eq {W : Nat} (h : nanw .f64 W = false) : fcmp .neq .f64 (some W) (some W) = false := by
  simp [fcmp, ford, order_self .f64 W h]
/-- Both functions answer the same. -/
theorem both {x : Nat} {v : Option Nat} (hx : Is .f32 x v) : ∃ (n : Int) (ok : Bool),
    (∀ w, Calls Try.prog 9 #[.float .f32 x] w fun e w' => e = .returned (.tuple #[.int .i64 n, .bool ok]) ∧ ∃ n, w' = w.drewN n) ∧
    (∀ w, Calls Try.prog 10 #[.float .f32 x] w fun e w' => e = .returned (.tuple #[.int .i64 n, .bool ok]) ∧ ∃ n, w' = w.drewN n) := by
  by_cases hno : finF v = false ∨ fcmp .leq .f32 v (some 0) = true
  · exact ⟨0, false, fun w => specNo w hx hno, fun w => implNo w hx hno⟩
  · have hf : finF v = true := by cases h : finF v; (· exact absurd (.inl h) hno); rfl
    have hl : fcmp .leq .f32 v (some 0) = false := by cases h : fcmp .leq .f32 v (some 0); (· rfl); exact absurd (.inr h) hno
    have hsome : v = some x ∧ nanw .f32 x = false := by
      rcases Is_cases hx.2 with g | g
      · obtain rfl : none = v := g.1.symm.trans hx.1
        cases hf
      · exact ⟨hx.1.symm.trans g.1, not_nan g⟩
    obtain ⟨rfl, hn⟩ := hsome
    have hfin : x % 2147483648 < 2139095040 := of_decide_eq_true hf
    have hle : fcmp .leq .f32 (some x) (some 0) = (fcmp .lss .f32 (some x) (some 0) || fcmp .eql .f32 (some x) (some 0)) := rfl
    rw [hle, lss_zero hn, eql_zero hn] at hl
    have hs32 : sgn .f32 = 2147483648 := rfl
    rw [hs32] at hl
    have hz : x % 2147483648 ≠ 0 := by
      intro hz
      rw [decide_eq_true hz, Bool.or_true] at hl
      cases hl
    rw [decide_eq_true hz, decide_eq_false hz, Bool.and_true, Bool.or_false] at hl
    obtain ⟨W, hW, hnW, hst⟩ := start_of hn hfin hz hl
    obtain ⟨c, k, hend⟩ := RedEnd.exists hst
    obtain ⟨y, hy, hyl⟩ := tenF_fin hend
    obtain ⟨⟨s, m, p, hr⟩, n, hnn⟩ := floor_int hyl
    have hlx := widen_lss hn
    have hqx := widen_eql hn
    rw [hW] at hlx hqx
    rw [lss_zero hn, hl] at hlx
    rw [eql_zero hn, hs32, decide_eq_false hz] at hqx
    have hl' : fcmp .leq .f32 (some x) (some 0) = false := by rw [hle, lss_zero hn, eql_zero hn, hl, hs32, decide_eq_false hz]; rfl
    refine ⟨n, true, fun w => specYes w hx hf hl' hy hr hnn fun a w ha => ?_, fun w => implYes w hx hf hl' hy hr hnn fun a w ha => ?_⟩
    · rw [hW] at ha
      obtain rfl := is_word ha
      refine (logWide w ha hst (self_eq hnW) hlx hqx (not_huge hst)).mono fun e w' ⟨r, c', k', he, hend', hr, hw⟩ => ⟨r, he, ?_, hw⟩
      obtain ⟨rfl, rfl⟩ := hend.unique hend'
      exact hr
    · rw [hW] at ha
      obtain rfl := is_word ha
      refine (wideLog w ha hst).mono fun e w' ⟨r, c', k', he, hend', hr, hw⟩ => ⟨r, he, ?_, hw⟩
      obtain ⟨rfl, rfl⟩ := hend.unique hend'
      exact hr
set_option maxHeartbeats 400000 in
theorem walk (x : Nat) (wx : (Lit.float .f32 x).wf = true) (w : World) :
    Calls Try.prog 4 #[.float .f32 x] w fun e w' => e = .returned (.bool true) ∧ Below w.heap.size w w' := by
  have hx : Is .f32 x (cn .f32 x) := ⟨rfl, wf_lt wx⟩
  obtain ⟨n, ok, hs, hi⟩ := both hx
  have HS := Lib.hid hs
  have HI := Lib.hid hi
  clear hs hi
  go_enter Try.func4, Try.ntmps4
  go_wp2_with (first | (go_at_call 9; refine (HS.out _).mono ?_; rintro e w' ⟨rfl, n1, rfl⟩) | (go_at_call 10; refine (HI.out _).mono ?_; rintro e w' ⟨rfl, n2, rfl⟩))
  go_ret
  exact ⟨rfl, below_n _ _⟩

set_option maxRecDepth 100000 in
theorem lifted (os : Os) (started : os.Started) (H : Type) (enc : TypeId × Value → H) :
    ReturnsInHanded {} Try.checked os 4 .any (Rows.fnExactTenthsOfSpec.pre6 enc Try.prog Try.f4 Rows.fnExactTenthsOfRow.domain false) (Rows.fnExactTenthsOfSpec.post enc Try.prog Try.f4 false true false false) := by
  refine returnsInHanded_of_change (C := Try.checked) own started (by kernel_rfl) Try.func4
    (ChangeSpec.witness6 (enc := enc) (C := Try.checked) false ⟨#[], #[.float .f32 0], []⟩ 8 (by kernel_rfl) (by kernel_rfl) (by kernel_rfl) (by kernel_rfl)) ?_
  intro W base args ds gs before hval0 hW hcnd hreach
  have hval : ∀ (j : Nat) t v, Try.f4.params[j]? = some t → args[j]? = some v → Value.okWide Try.prog W .any base t v := hval0
  have hW' := hW
  obtain ⟨p, q, hA0, hV, rfl, hfz, hnd⟩ := hW
  have hA : DataW.TrodAll enc Try.prog W 0 (fun _ => true) true Try.f4.params.toList args.toList ds p := hA0
  rw [Try.params4] at hA hval
  obtain ⟨v0, vs0, d0, ds0, p0, q0, hargs, rfl, rfl, h0, r0⟩ := trodAll_cons hA
  obtain ⟨rfl, rfl, rfl⟩ := trodAll_nil r0
  obtain rfl : args = #[v0] := by cases args; simp_all
  obtain ⟨rfl, rfl⟩ := trodVars_none hV
  obtain ⟨a0, rfl, rfl, rfl, w0⟩ := open_float Try.underlying28 (hval 0 28 v0 rfl rfl) h0
  clear hA0 hval0
  refine (walk a0 w0 W).mono fun e W' ⟨he, bel⟩ => ?_
  subst he
  exact ⟨_, rfl, _, _, _, [], _, [], hW', trodAll_mk1 (shut_bool Try.underlying4 _), (trodAll_cons_mk (shut_float Try.underlying28 w0) (trodAll_mk0)), rfl, bel.frame _, fun h => by cases h⟩

theorem over : Rows.fnExactTenthsOfRow.holds Try.pinned (OpenSpec.ofChange Rows.fnExactTenthsOfSpec) :=
  OpenClaim.holds_of_wide 4 Try.f4 rfl rfl rfl rfl rfl rfl rfl ⟨rfl, rfl, rfl, rfl, rfl⟩ rfl rfl rfl rfl rfl (by kernel_rfl) Try.func4 (by kernel_rfl)
    (of_decide_eq_true (by kernel_rfl)) (by unfold Func.isWrapper; rw [if_neg (of_decide_eq_false (by kernel_rfl))]; exact ⟨rfl, rfl⟩)
    (fun os started H enc _ => lifted os started H enc)

theorem proved : Rows.FnExactTenthsOfSaid := over
end Go.Proofs.Ytnkcaiifohplaab.lawTenthsOf
