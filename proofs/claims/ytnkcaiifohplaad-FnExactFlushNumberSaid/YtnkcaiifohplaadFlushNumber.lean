/- For every 32-bit number, impl.FlushNumber answers as the model of the document does, and changes nothing that it is given. -/
import Derived.Test.YtnkcaiifohplaadRows
import Derived.WalkKit
import Derived.WalkLawsBesides
import Derived.ProofKit
import Derived.OpenShut
import Derived.ShutString
import Derived.ChangeOld
import Derived.Below
import Derived.IntWalk
import Derived.Lib.Hide
import Derived.Test.YtnkcaiifohplaadBits
import Derived.Test.YtnkcaiifohplaadSub
import Derived.Test.YtnkcaiifohplaadSame
namespace Go.Proofs.Ytnkcaiifohplaad.lawFlushNumber
open Go.ChangeShapes Go.WideShapes Go.ChangeAt Go.RowKit
open Go.ChangeMaps (open_string shut_string)
set_option linter.unusedVariables false
theorem own : ownKnob Try.prog.godebug = none := by kernel_rfl
theorem laidOut : laidOutB Try.prog = true := by kernel_rfl
open Go.Proofs.Ytnkcaiifohplaad.Fl
def flF (v : Option Nat) : Option Nat := match v with | none => none | some b => if b % 2147483648 < 8388608 then some (b / 2147483648 * 2147483648) else some b
theorem is_sign32 (x : Nat) (h : x < 4294967296) : Is .f32 (x / 2147483648 * 2147483648) (some (x / 2147483648 * 2147483648)) := by
  refine Is_some ?_ (by show _ < 2 ^ 32; omega)
  rw [nanw_eq]
  exact decide_eq_false (by show ¬ 2139095040 < _ % 2147483648; omega)
theorem word_div (k : FloatKind) (neg : Bool) {r : Nat} (h : r < sgn k) : k.format.word neg r / sgn k = neg.toNat := by
  unfold Ieee.Format.word
  rw [signWeight_eq]
  cases neg
  · exact Nat.div_eq_of_lt h
  · show (sgn k + r) / sgn k = 1
    rw [Nat.add_div_left _ (by omega), Nat.div_eq_of_lt h]
theorem nearest_div (neg : Bool) (m : Nat) (p : Int) : FloatKind.f64.format.nearest neg m p / 9223372036854775808 = neg.toNat := by
  unfold Ieee.Format.nearest
  by_cases hm : m = 0
  · rw [if_pos hm]; exact word_div .f64 neg (by decide)
  · rw [if_neg hm]
    exact word_div .f64 neg (Nat.lt_of_le_of_lt (Nat.min_le_right _ _) (by rw [infRung_eq]; decide))
/-- The sign of a small number, as a 64-bit one. -/
theorem widen_sign (x : Nat) (hx : x < 4294967296) (h : nanw .f32 x = false) (hs : x % 2147483648 < 8388608) :
    ∃ W, fconv .f32 .f64 (some x) = some W ∧ W / 9223372036854775808 * 9223372036854775808 = x / 2147483648 * 9223372036854775808 := by
  refine ⟨_, rfl, ?_⟩
  congr 1
  show FloatKind.f64.format.write (FloatKind.f32.format.read x) / _ = _
  rcases readk .f32 x h with ⟨h1, h2⟩ | ⟨h1, h2⟩ | ⟨h1, h3, h2⟩
  · have h1' : x % 2147483648 = 2139095040 := h1
    omega
  · rw [h2]
    show FloatKind.f64.format.nearest _ _ _ / _ = _
    rw [nearest_div]
    show (x / 2147483648 % 2 == 1).toNat = _
    have : x / 2147483648 = 0 ∨ x / 2147483648 = 1 := by omega
    rcases this with e | e <;> rw [e] <;> rfl
  · have h1' : 8388608 ≤ x % 2147483648 := h1
    omega
/-- A zero of 64 bits, narrowed. -/
theorem narrow_zero (x : Nat) (hx : x < 4294967296) : fconv .f64 .f32 (some (x / 2147483648 * 9223372036854775808)) = some (x / 2147483648 * 2147483648) ∧
    Is .f64 (x / 2147483648 * 9223372036854775808) (some (x / 2147483648 * 9223372036854775808)) ∧ Fits .f64 .f32 (some (x / 2147483648 * 9223372036854775808)) := by
  have : x / 2147483648 = 0 ∨ x / 2147483648 = 1 := by omega
  rcases this with e | e <;> simp only [e, Nat.zero_mul, Nat.one_mul]
  · exact ⟨by decide, ⟨by decide, by decide⟩, .inr fun b hb _ => by cases hb; decide⟩
  · exact ⟨by decide, ⟨by decide, by decide⟩, .inr fun b hb _ => by cases hb; decide⟩

set_option maxHeartbeats 400000 in
theorem copysign {y z : Nat} (hy : y < 2 ^ 64) (hyz : y / 9223372036854775808 * 9223372036854775808 = z) (w : World) :
    Calls Try.prog 29 #[.float .f64 0, .float .f64 y] w fun e w' => e = .returned (.float .f64 z) ∧ w = w' := by
  have he := fun w => ext_f64bits y w
  have he0 : ∀ w, (callFunc 47 #[.float .f64 0]).run Try.prog w = .ok (.value (.int .u64 0)) w := fun w => ext_f64bits 0 w
  have hb : ∀ w, (callFunc 46 #[.int .u64 ((y / 9223372036854775808 * 9223372036854775808 : Nat) : Int)]).run Try.prog w = .ok (.value (.float .f64 (y / 9223372036854775808 * 9223372036854775808))) w := fun w => ext_f64from _ w
  have HS : Hid (∀ t w, (binOp .and t (.int .u64 y) (.int .u64 9223372036854775808)).run Try.prog w = .ok (.int .u64 ((y / 9223372036854775808 * 9223372036854775808 : Nat) : Int)) w) := fun t w => run_sign w t y hy
  have HZ : Hid (∀ t w, (binOp .andNot t (.int .u64 0) (.int .u64 9223372036854775808)).run Try.prog w = .ok (.int .u64 0) w) := fun t w => run_abs w t 0 (by decide)
  have hz : y / 9223372036854775808 * 9223372036854775808 < 2 ^ 64 := Nat.lt_of_le_of_lt (Nat.div_mul_le_self _ _) hy
  have HO : Hid (∀ t w, (binOp .or t (.int .u64 0) (.int .u64 ((y / 9223372036854775808 * 9223372036854775808 : Nat) : Int))).run Try.prog w = .ok (.int .u64 ((y / 9223372036854775808 * 9223372036854775808 : Nat) : Int)) w) := fun t w => run_or0 w t _ hz
  clear hz hy
  rw [hyz] at hb
  have HS' : Hid (∀ t w, (binOp .and t (.int .u64 y) (.int .u64 9223372036854775808)).run Try.prog w = .ok (.int .u64 (z : Int)) w) := by rw [← hyz]; exact HS
  have HO' : Hid (∀ t w, (binOp .or t (.int .u64 0) (.int .u64 (z : Int))).run Try.prog w = .ok (.int .u64 (z : Int)) w) := by rw [← hyz]; exact HO
  clear hyz HS HO
  go_enter Try.func29, Try.ntmps29
  go_wp2_with (first | (refine wpList_ints rfl .andNot _ _ _ _ rfl .u64 0 9223372036854775808 0 rfl rfl ?_ ?_; exact HZ.out _ _) | (refine wpList_ints rfl .and _ _ _ _ rfl .u64 (y : Int) 9223372036854775808 (z : Int) rfl rfl ?_ ?_; exact HS'.out _ _) | (refine wpList_ints rfl .or _ _ _ _ rfl .u64 0 (z : Int) (z : Int) rfl rfl ?_ ?_; exact HO'.out _ _))
  go_ret
  exact ⟨rfl, rfl⟩

set_option maxHeartbeats 400000 in
theorem implCall {x : Nat} {v : Option Nat} (w : World) (hx : Is .f32 x v) :
    Calls Try.prog 11 #[.float .f32 x] w fun e w' => ∃ r, e = .returned (.float .f32 r) ∧ Is .f32 r (flF v) ∧ ∃ n, w' = w.drewN n := by
  cases hsub : subF v
  · have HF : Hid (Is .f32 x (flF v)) := by
      rcases Is_cases hx.2 with h | h
      · obtain rfl : none = v := h.1.symm.trans hx.1
        exact h
      · obtain rfl : some x = v := h.1.symm.trans hx.1
        have hsub' : (decide (x % 2147483648 ≠ 0) && decide (x % 2147483648 < 8388608)) = false := hsub
        show Is .f32 x (if x % 2147483648 < 8388608 then _ else _)
        by_cases hs : x % 2147483648 < 8388608
        · rw [if_pos hs]
          have hz : x % 2147483648 = 0 := by
            rw [decide_eq_true hs, Bool.and_true, decide_eq_false_iff_not] at hsub'
            omega
          have : x / 2147483648 * 2147483648 = x := by omega
          rw [this]; exact h
        · rw [if_neg hs]; exact h
    go_enter Try.func11, Try.ntmps11
    go_wp2_with (go_at_call 28; refine (implIsSubnormal _ hx).mono ?_; rintro e w' ⟨rfl, n, rfl⟩; rw [hsub])
    go_ret
    exact ⟨_, rfl, HF.out, _, rfl⟩
  · obtain ⟨hb, rfl⟩ : Is .f32 x (some x) ∧ v = some x := by
      rcases Is_cases hx.2 with h | h
      · obtain rfl : none = v := h.1.symm.trans hx.1
        cases hsub
      · exact ⟨h, hx.1.symm.trans h.1⟩
    have hlt : x < 4294967296 := hx.2
    have hs : x % 2147483648 < 8388608 := by
      have hsub' : (decide (x % 2147483648 ≠ 0) && decide (x % 2147483648 < 8388608)) = true := hsub
      rw [Bool.and_eq_true] at hsub'
      exact of_decide_eq_true hsub'.2
    obtain ⟨W, hW, hWs⟩ := widen_sign x hlt (not_nan hb) hs
    obtain ⟨n1, n2, n3⟩ := narrow_zero x hlt
    have HF : Hid (flF (some x) = fconv .f64 .f32 (some (x / 2147483648 * 9223372036854775808))) := by
      show (if x % 2147483648 < 8388608 then _ else _) = _
      rw [if_pos hs, n1]
    have HWs := Lib.hid hWs
    have HW := Lib.hid hW
    have HWl : Hid (W < 2 ^ 64) := by
      have e : fconv .f32 .f64 (some x) = some (FloatKind.f64.encode (FloatKind.f32.decode x)) := rfl
      rw [e] at hW
      obtain rfl := Option.some.inj hW
      exact FloatKind.f64.format.write_lt _
    clear hs hWs n1 hW hlt
    obtain ⟨z, hz⟩ : ∃ z, z = x / 2147483648 * 9223372036854775808 := ⟨_, rfl⟩
    rw [← hz] at HF HWs n2 n3
    clear hz
    go_enter Try.func11, Try.ntmps11
    go_wp2_with (first | (go_at_call 28; refine (implIsSubnormal _ hx).mono ?_; rintro e w' ⟨rfl, n, rfl⟩; rw [hsub]) | (refine wpList_fconv rfl _ _ _ rfl _ _ _ rfl (by rw [Try.underlying22]; rfl) Try.underlying25 hx (fits_widen_is hx) ?_; intro r m hr; obtain rfl : r = W := (by rw [HW.out] at hr; have h4 := hr.1; unfold cn at h4; split at h4; (· cases h4); exact Option.some.inj h4)) | (go_at_call 29; refine (copysign HWl.out HWs.out _).mono ?_; rintro e w' ⟨rfl, rfl⟩) | (refine wpList_fconv rfl _ _ _ rfl _ _ _ rfl (by rw [Try.underlying25]; rfl) Try.underlying22 n2 n3 ?_; intro r2 m2 hr2))
    go_ret
    exact ⟨_, rfl, by rw [HF.out]; assumption, _, rfl⟩
theorem below_n (w : World) (n : Nat) : Below w.heap.size w (w.drewN n) := ⟨rfl, rfl, rfl, Nat.le_refl _, fun _ _ => rfl⟩
theorem u32_in {n : Int} (h0 : 0 ≤ n) (h1 : n ≤ 4294967295) : IntKind.u32.wrap n = n := by
  simp [IntKind.wrap, IntKind.bits, IntKind.signed]; omega
set_option maxHeartbeats 400000 in
theorem specFrom (x : Nat) (hx : x < 4294967296) (w : World) :
    Calls Try.prog 45 #[.int .i64 x] w fun e w' => e = .returned (.float .f32 x) ∧ w = w' := by
  have he : ∀ w, (callFunc 56 #[.int .u32 x]).run Try.prog w = .ok (.value (.float .f32 x)) w := fun w => ext_f32from x w
  have hw := u32_in (n := (x : Int)) (by omega) (by omega)
  clear hx
  go_enter Try.func45, Try.ntmps45
  go_wp2
  go_ret
  exact ⟨rfl, rfl⟩
set_option maxHeartbeats 400000 in
theorem specFlush {x : Nat} {v : Option Nat} (w : World) (hx : Is .f32 x v) :
    Calls Try.prog 27 #[.float .f32 x] w fun e w' => ∃ r, e = .returned (.float .f32 r) ∧ Is .f32 r (flF v) ∧ w = w' := by
  rcases Is_cases hx.2 with h | h
  · obtain rfl : none = v := h.1.symm.trans hx.1
    have HB : Hid (∀ t w, (binOp .and t (.int .i64 (bitsF none)) (.int .i64 2139095040)).run Try.prog w = .ok (.int .i64 2139095040) w) := fun t w => run_expo w t 2143289344 (by omega)
    go_enter Try.func27, Try.ntmps27
    go_wp2_with (first | (go_at_call 44; refine (l01Bits _ hx).mono ?_; rintro e w' ⟨rfl, rfl⟩) | (refine wpList_ints rfl .and _ _ _ _ rfl .i64 (bitsF none) 2139095040 2139095040 rfl rfl ?_ ?_; exact HB.out _ _))
    go_ret
    exact ⟨_, rfl, h, rfl⟩
  · obtain rfl : some x = v := h.1.symm.trans hx.1
    have hlt : x < 4294967296 := hx.2
    have h2 := expo_eq x
    have HB : Hid (∀ t w, (binOp .and t (.int .i64 (bitsF (some x))) (.int .i64 2139095040)).run Try.prog w = .ok (.int .i64 ((x / 8388608 % 256 * 8388608 : Nat) : Int)) w) := fun t w => run_expo w t x hlt
    generalize ((x / 8388608 % 256 * 8388608 : Nat) : Int) = q at h2 HB
    have HC : Hid (∀ t w, (binOp .and t (.int .i64 (bitsF (some x))) (.int .i64 2147483648)).run Try.prog w = .ok (.int .i64 ((x / 2147483648 * 2147483648 : Nat) : Int)) w) := fun t w => run_sign32 w t x hlt
    have HS := Lib.hid (is_sign32 x hlt)
    have HL : Hid (x / 2147483648 * 2147483648 < 4294967296) := by show _ < _; omega
    have HF : Hid (flF (some x) = if x % 2147483648 < 8388608 then some (x / 2147483648 * 2147483648) else some x) := rfl
    generalize x / 2147483648 * 2147483648 = z at HC HS HL HF
    clear hlt
    by_cases hs : x % 2147483648 < 8388608
    · rw [decide_eq_true hs] at h2
      have HF2 : Hid (flF (some x) = some z) := by show _ = _; rw [HF.out, if_pos hs]
      clear hs
      go_enter Try.func27, Try.ntmps27
      go_wp2_with (first | (go_at_call 44; refine (l01Bits _ hx).mono ?_; rintro e w' ⟨rfl, rfl⟩) | (refine wpList_ints rfl .and _ _ _ _ rfl .i64 (bitsF (some x)) 2139095040 q rfl rfl ?_ ?_; exact HB.out _ _) | (refine wpList_ints rfl .and _ _ _ _ rfl .i64 (bitsF (some x)) 2147483648 (z : Int) rfl rfl ?_ ?_; exact HC.out _ _) | (go_at_call 45; refine (specFrom z HL.out _).mono ?_; rintro e w' ⟨rfl, rfl⟩))
      go_ret
      exact ⟨_, rfl, by rw [HF2.out]; exact HS.out, rfl⟩
    · rw [decide_eq_false hs] at h2
      have HF2 : Hid (flF (some x) = some x) := by show _ = _; rw [HF.out, if_neg hs]
      clear hs
      go_enter Try.func27, Try.ntmps27
      go_wp2_with (first | (go_at_call 44; refine (l01Bits _ hx).mono ?_; rintro e w' ⟨rfl, rfl⟩) | (refine wpList_ints rfl .and _ _ _ _ rfl .i64 (bitsF (some x)) 2139095040 q rfl rfl ?_ ?_; exact HB.out _ _))
      go_ret
      exact ⟨_, rfl, by rw [HF2.out]; exact h, rfl⟩
set_option maxHeartbeats 400000 in
theorem specCall {x : Nat} {v : Option Nat} (w : World) (hx : Is .f32 x v) :
    Calls Try.prog 10 #[.float .f32 x] w fun e w' => ∃ r, e = .returned (.float .f32 r) ∧ Is .f32 r (flF v) ∧ w = w' := by
  go_enter Try.func10, Try.ntmps10
  go_wp2_with (go_at_call 27; refine (specFlush _ hx).mono ?_; rintro e w' ⟨r, rfl, hr, rfl⟩)
  go_ret
  exact ⟨_, rfl, by assumption, rfl⟩
set_option maxHeartbeats 400000 in
theorem walk (x : Nat) (wx : (Lit.float .f32 x).wf = true) (w : World) :
    Calls Try.prog 3 #[.float .f32 x] w fun e w' => e = .returned (.bool true) ∧ Below w.heap.size w w' := by
  have hx : Is .f32 x (cn .f32 x) := ⟨rfl, wf_lt wx⟩
  go_enter Try.func3, Try.ntmps3
  go_wp2_with (first | (go_at_call 10; refine (specCall _ hx).mono ?_; rintro e w' ⟨r1, rfl, hr1, rfl⟩) | (go_at_call 11; refine (implCall _ hx).mono ?_; rintro e w' ⟨r2, rfl, hr2, n, rfl⟩) | (refine wpList_fconv rfl _ _ _ rfl _ _ _ rfl (by rw [Try.underlying22]; rfl) Try.underlying25 hr1 (fits_widen_is hr1) ?_; intro r m hr) | (refine wpList_fconv rfl _ _ _ rfl _ _ _ rfl (by rw [Try.underlying22]; rfl) Try.underlying25 hr2 (fits_widen_is hr2) ?_; intro r m hr) | (go_at_call 12; refine (sameFloat _ (by assumption) (by assumption)).mono ?_; rintro e w' ⟨rfl, m, rfl⟩))
  go_ret
  exact ⟨rfl, below_n _ _⟩

set_option maxRecDepth 100000 in
theorem lifted (os : Os) (started : os.Started) (H : Type) (enc : TypeId × Value → H) :
    ReturnsInHanded {} Try.checked os 3 .any (Rows.fnExactFlushNumberSpec.pre6 enc Try.prog Try.f3 Rows.fnExactFlushNumberRow.domain false) (Rows.fnExactFlushNumberSpec.post enc Try.prog Try.f3 false true false false) := by
  refine returnsInHanded_of_change (C := Try.checked) own started (by kernel_rfl) Try.func3
    (ChangeSpec.witness6 (enc := enc) (C := Try.checked) false ⟨#[], #[.float .f32 0], []⟩ 8 (by kernel_rfl) (by kernel_rfl) (by kernel_rfl) (by kernel_rfl)) ?_
  intro W base args ds gs before hval0 hW hcnd hreach
  have hval : ∀ (j : Nat) t v, Try.f3.params[j]? = some t → args[j]? = some v → Value.okWide Try.prog W .any base t v := hval0
  have hW' := hW
  obtain ⟨p, q, hA0, hV, rfl, hfz, hnd⟩ := hW
  have hA : DataW.TrodAll enc Try.prog W 0 (fun _ => true) true Try.f3.params.toList args.toList ds p := hA0
  rw [Try.params3] at hA hval
  obtain ⟨v0, vs0, d0, ds0, p0, q0, hargs, rfl, rfl, h0, r0⟩ := trodAll_cons hA
  obtain ⟨rfl, rfl, rfl⟩ := trodAll_nil r0
  obtain rfl : args = #[v0] := by cases args; simp_all
  obtain ⟨rfl, rfl⟩ := trodVars_none hV
  obtain ⟨a0, rfl, rfl, rfl, w0⟩ := open_float Try.underlying22 (hval 0 22 v0 rfl rfl) h0
  clear hA0 hval0
  refine (walk a0 w0 W).mono fun e W' ⟨he, bel⟩ => ?_
  subst he
  exact ⟨_, rfl, _, _, _, [], _, [], hW', trodAll_mk1 (shut_bool Try.underlying4 _), (trodAll_cons_mk (shut_float Try.underlying22 w0) (trodAll_mk0)), rfl, bel.frame _, fun h => by cases h⟩

theorem over : Rows.fnExactFlushNumberRow.holds Try.pinned (OpenSpec.ofChange Rows.fnExactFlushNumberSpec) :=
  OpenClaim.holds_of_wide 3 Try.f3 rfl rfl rfl rfl rfl rfl rfl ⟨rfl, rfl, rfl, rfl, rfl⟩ rfl rfl rfl rfl rfl (by kernel_rfl) Try.func3 (by kernel_rfl)
    (of_decide_eq_true (by kernel_rfl)) (by unfold Func.isWrapper; rw [if_neg (of_decide_eq_false (by kernel_rfl))]; exact ⟨rfl, rfl⟩)
    (fun os started H enc _ => lifted os started H enc)

theorem proved : Rows.FnExactFlushNumberSaid := over
end Go.Proofs.Ytnkcaiifohplaad.lawFlushNumber
