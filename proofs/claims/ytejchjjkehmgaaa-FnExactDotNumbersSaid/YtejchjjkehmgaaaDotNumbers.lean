/- For every two lists of 32-bit numbers, impl.DotNumbers answers as the model of the document does, and changes nothing that it is given. No condition. -/
import Derived.Test.YtejchjjkehmgaaaRows
import Derived.Test.YtejchjjkehmgaaaMayA
import Derived.Test.YtejchjjkehmgaaaMayB
import Derived.Test.YtejchjjkehmgaaaMayC
import Derived.Test.YtejchjjkehmgaaaHelpF
import Derived.Test.YtejchjjkehmgaaaFsm
import Derived.WalkKit
import Derived.WalkLawsBesides
import Derived.ProofKit
import Derived.OpenShut
import Derived.ShutString
import Derived.ChangeOld
import Derived.Below
import Derived.IntWalk
import Derived.Lib.SmallJoins
import Derived.Deep.Cut
namespace Go.Proofs.Ytejchjjkehmgaaa.lawDotNumbers
open Go.ChangeShapes Go.WideShapes Go.ChangeAt Go.RowKit Go.Joins Go.Proofs.Ytejchjjkehmgaaa.Rd Go.Proofs.Ytejchjjkehmgaaa.Help Go.Proofs.Ytejchjjkehmgaaa.Rdf Go.Proofs.Ytejchjjkehmgaaa.Fl Go.Proofs.Ytejchjjkehmgaaa.Keep
set_option linter.unusedVariables false
set_option linter.unusedSimpArgs false
theorem own : ownKnob Try.prog.godebug = none := by kernel_rfl
theorem laidOut : laidOutB Try.prog = true := by kernel_rfl
theorem agree (xs ys : List Nat) (hx : xs.length ≤ 1048576) (hy : ys.length ≤ 1048576) : ∃ (q0 : Option Nat) (q1 : Bool), (∀ (w : World) (b : Nat) (v : Value), RdF w b v xs → ∀ (d : Nat) (u : Value), RdF w d u ys → Calls Try.prog 20 #[v, u] w fun e w' => ∃ r, e = .returned (.tuple #[.float .f32 r, .bool q1]) ∧ Is .f32 r q0 ∧ Below w.heap.size w w') ∧ (∀ (w : World) (b : Nat) (v : Value), RdF w b v xs → ∀ (d : Nat) (u : Value), RdF w d u ys → Calls Try.prog 21 #[v, u] w fun e w' => ∃ r, e = .returned (.tuple #[.float .f32 r, .bool q1]) ∧ Is .f32 r q0 ∧ Below w.heap.size w w') :=
  ⟨Fsm.dotV xs ys, Fsm.dotB xs ys, fun w b v h d u g => Fsm.specD h g, fun w b v h d u g => Fsm.implD h g⟩

theorem nx0_FF {N : Nat} {w0 w w' : World} {b0 : Nat} {v0 : Value} {z0 : List Nat} {b1 : Nat} {v1 : Value} {z1 : List Nat} (bel : Below w.heap.size w w') (h : Below N w0 w ∧ RdF w b0 v0 z0 ∧ RdF w b1 v1 z1 ∧ N ≤ w.heap.size) : Below N w0 w' ∧ RdF w' b0 v0 z0 ∧ RdF w' b1 v1 z1 ∧ N ≤ w'.heap.size := by obtain ⟨h0, y0, y1, h5⟩ := h; exact ⟨h0.trans (bel.mono h5), y0.keep bel (Nat.le_refl _), y1.keep bel (Nat.le_refl _), Nat.le_trans h5 bel.size⟩
theorem drw0_FF {N : Nat} {w0 w : World} {b0 : Nat} {v0 : Value} {z0 : List Nat} {b1 : Nat} {v1 : Value} {z1 : List Nat} (h : Below N w0 w ∧ RdF w b0 v0 z0 ∧ RdF w b1 v1 z1 ∧ N ≤ w.heap.size) : Below N w0 w.drew ∧ RdF w.drew b0 v0 z0 ∧ RdF w.drew b1 v1 z1 ∧ N ≤ w.drew.heap.size := by obtain ⟨h0, y0, y1, h5⟩ := h; exact ⟨h0.drew, y0, y1, h5⟩
theorem rdx0_FF_0 {N : Nat} {w0 w : World} {b0 : Nat} {v0 : Value} {z0 : List Nat} {b1 : Nat} {v1 : Value} {z1 : List Nat} (h : Below N w0 w ∧ RdF w b0 v0 z0 ∧ RdF w b1 v1 z1 ∧ N ≤ w.heap.size) : RdF w b0 v0 z0 := by obtain ⟨h0, y0, y1, h5⟩ := h; exact y0
theorem rdx0_FF_1 {N : Nat} {w0 w : World} {b0 : Nat} {v0 : Value} {z0 : List Nat} {b1 : Nat} {v1 : Value} {z1 : List Nat} (h : Below N w0 w ∧ RdF w b0 v0 z0 ∧ RdF w b1 v1 z1 ∧ N ≤ w.heap.size) : RdF w b1 v1 z1 := by obtain ⟨h0, y0, y1, h5⟩ := h; exact y1

set_option maxHeartbeats 16000000 in
theorem walk {w : World} {b0x : Nat} {v0x : Value} {z0x : List Nat} (h0x : RdF w b0x v0x z0x) {b1x : Nat} {v1x : Value} {z1x : List Nat} (h1x : RdF w b1x v1x z1x) :
    Calls Try.prog 4 #[v0x, v1x] w fun e w' => e = .returned (.bool true) ∧ Below w.heap.size w w' := by
  obtain ⟨ao0x, cap0x, e0x, kc0x, mc0x, _⟩ := id h0x
  have H0x : Hid (RdF w b0x v0x z0x) := h0x
  subst e0x; clear h0x
  have nb0x : z0x.length ≤ 9223372036854775807 := by unfold maxLen at mc0x; omega
  clear kc0x mc0x
  obtain ⟨ao1x, cap1x, e1x, kc1x, mc1x, _⟩ := id h1x
  have H1x : Hid (RdF w b1x v1x z1x) := h1x
  subst e1x; clear h1x
  have nb1x : z1x.length ≤ 9223372036854775807 := by unfold maxLen at mc1x; omega
  clear kc1x mc1x
  rcases Nat.lt_or_ge 1048576 z0x.length with hx0x | hg0x
  · go_enter Try.func4, Try.ntmps4
    go_wp2
    go_ret
    exact ⟨rfl, Below.refl _ _⟩
  have hi0x : (z0x.length : Int) ≤ 1048576 := by omega
  rcases Nat.lt_or_ge 1048576 z1x.length with hx1x | hg1x
  · go_enter Try.func4, Try.ntmps4
    go_wp2
    go_ret
    exact ⟨rfl, Below.refl _ _⟩
  have hi1x : (z1x.length : Int) ≤ 1048576 := by omega
  have hl0x : z0x.length ≤ 1048576 := by omega
  have HL0x : Hid (z0x.length ≤ 1048576) := hl0x
  have hl1x : z1x.length ≤ 1048576 := by omega
  have HL1x : Hid (z1x.length ≤ 1048576) := hl1x
  obtain ⟨q0, q1, hspec, himpl⟩ := agree z0x z1x hl0x hl1x
  have HSp := hid @hspec
  have HIm := hid @himpl
  clear hspec himpl hl0x hl1x
  go_enter Try.func4, Try.ntmps4
  have st : Below w.heap.size w w ∧ RdF w b0x (Value.slice ao0x z0x.length cap0x) z0x ∧ RdF w b1x (Value.slice ao1x z1x.length cap1x) z1x ∧ w.heap.size ≤ w.heap.size := ⟨Below.refl _ _, H0x.out, H1x.out, Nat.le_refl _⟩
  go_wp2_with fail
  go_at_call 16
  refine (toSEF (rdx0_FF_0 st) HL0x.out).mono ?_
  rintro e w1 ⟨bp0x, rfl, op0x, lo, bel⟩
  replace st := nx0_FF bel st
  clear bel
  clear lo
  go_wp2_with fail
  go_at_call 16
  refine (toSEF (rdx0_FF_1 st) HL1x.out).mono ?_
  rintro e w2 ⟨bp1x, rfl, op1x, lo, bel⟩
  replace st := nx0_FF bel st
  replace op0x := op0x.keep bel
  clear bel
  clear lo
  go_wp2_with fail
  go_at_call 20
  refine (HSp.out _ _ _ op0x.rd _ _ op1x.rd).mono ?_
  rintro e w3 ⟨fW0, rfl, hW0, bel⟩
  replace st := nx0_FF bel st
  replace op0x := op0x.keep bel
  replace op1x := op1x.keep bel
  clear bel
  clear op0x
  clear op1x
  go_wp2_with fail
  go_at_call 16
  refine (toSEF (rdx0_FF_0 st) HL0x.out).mono ?_
  rintro e w4 ⟨bx0x, rfl, ox0x, lo, bel⟩
  replace st := nx0_FF bel st
  clear bel
  clear lo
  go_wp2_with fail
  go_at_call 16
  refine (toSEF (rdx0_FF_1 st) HL1x.out).mono ?_
  rintro e w5 ⟨bx1x, rfl, ox1x, lo, bel⟩
  replace st := nx0_FF bel st
  replace ox0x := ox0x.keep bel
  clear bel
  clear lo
  go_wp2_with fail
  go_at_call 21
  refine (HIm.out _ _ _ ox0x.rd _ _ ox1x.rd).mono ?_
  rintro e w6 ⟨fG0, rfl, hG0, bel⟩
  replace st := nx0_FF bel st
  replace ox0x := ox0x.keep bel
  replace ox1x := ox1x.keep bel
  clear bel
  go_wp2_with (first | (refine wpList_fconv rfl _ _ _ rfl _ _ _ rfl (by rw [Try.underlying23]; rfl) Try.underlying28 hG0 (fits_widen_is hG0) ?_; intro cG0 mG0 iG0) | (refine wpList_fconv rfl _ _ _ rfl _ _ _ rfl (by rw [Try.underlying23]; rfl) Try.underlying28 hW0 (fits_widen_is hW0) ?_; intro cW0 mW0 iW0) | (go_at_call 18; refine (sameFloat _ iG0 iW0).mono ?_; rintro e wS ⟨rfl, mS0, rfl⟩))
  have bel : Below w6.heap.size w6 (w6.drewN (mG0 + mW0 + mS0)) := ⟨rfl, rfl, rfl, Nat.le_refl _, fun _ _ => rfl⟩
  obtain ⟨w7, hW⟩ : ∃ w7, w7 = w6.drewN (mG0 + mW0 + mS0) := ⟨_, rfl⟩
  rw [← hW] at bel ⊢
  clear hW
  replace st := nx0_FF bel st
  replace ox0x := ox0x.keep bel
  replace ox1x := ox1x.keep bel
  clear bel
  go_wp2_with fail
  go_at_call 16
  refine (toSEF (rdx0_FF_0 st) HL0x.out).mono ?_
  rintro e w8 ⟨by0x, rfl, oy0x, lo, bel⟩
  replace st := nx0_FF bel st
  replace ox0x := ox0x.keep bel
  replace ox1x := ox1x.keep bel
  clear bel
  clear lo
  go_wp2_with fail
  go_at_call 19
  refine (eqFF ox0x.rd oy0x.rd).mono ?_
  rintro e w9 ⟨rfl, bel⟩
  replace st := nx0_FF bel st
  replace ox0x := ox0x.keep bel
  replace ox1x := ox1x.keep bel
  replace oy0x := oy0x.keep bel
  clear bel
  clear oy0x
  go_wp2_with fail
  go_at_call 16
  refine (toSEF (rdx0_FF_1 st) HL1x.out).mono ?_
  rintro e w10 ⟨by1x, rfl, oy1x, lo, bel⟩
  replace st := nx0_FF bel st
  replace ox0x := ox0x.keep bel
  replace ox1x := ox1x.keep bel
  clear bel
  clear lo
  go_wp2_with fail
  go_at_call 19
  refine (eqFF ox1x.rd oy1x.rd).mono ?_
  rintro e w11 ⟨rfl, bel⟩
  replace st := nx0_FF bel st
  replace ox0x := ox0x.keep bel
  replace ox1x := ox1x.keep bel
  replace oy1x := oy1x.keep bel
  clear bel
  clear oy1x
  go_wp2
  go_ret
  exact ⟨rfl, And.left st⟩

set_option maxRecDepth 100000 in
theorem lifted (os : Os) (started : os.Started) (H : Type) (enc : TypeId × Value → H) :
    ReturnsInHanded {} Try.checked os 4 .any (Rows.fnExactDotNumbersSpec.pre6 enc Try.prog Try.f4 Rows.fnExactDotNumbersRow.domain false) (Rows.fnExactDotNumbersSpec.post enc Try.prog Try.f4 false true false false) := by
  refine returnsInHanded_of_change (C := Try.checked) own started (by kernel_rfl) Try.func4
    (ChangeSpec.witness6 (enc := enc) (C := Try.checked) false ⟨#[], #[.slice none 0 0, .slice none 0 0], []⟩ 8 (by kernel_rfl) (by kernel_rfl) (by kernel_rfl) (by kernel_rfl)) ?_
  intro W base args ds gs before hval0 hW hcnd hreach
  have hval : ∀ (j : Nat) t v, Try.f4.params[j]? = some t → args[j]? = some v → Value.okWide Try.prog W .any base t v := hval0
  have hW' := hW
  obtain ⟨p, q, hA0, hV, rfl, hfz, hnd⟩ := hW
  have hA : DataW.TrodAll enc Try.prog W 0 (fun _ => true) true Try.f4.params.toList args.toList ds p := hA0
  rw [Try.params4] at hA hval
  obtain ⟨v0, vs0, d0, ds0, p0, q0, hargs, rfl, rfl, h0, r0⟩ := trodAll_cons hA
  obtain ⟨v1, vs1, d1, ds1, p1, q1, rfl, rfl, rfl, h1, r1⟩ := trodAll_cons r0
  obtain ⟨rfl, rfl, rfl⟩ := trodAll_nil r1
  obtain rfl : args = #[v0, v1] := by cases args; simp_all
  obtain ⟨rfl, rfl⟩ := trodVars_none hV
  have k0 := h0
  have lt0 : ∀ x ∈ p0, x.block < W.heap.size := by obtain ⟨m, hm⟩ := k0; exact DataW.trod_lt m _ _ _ hm
  obtain ⟨a0, len0, cap0, rfl⟩ := okWide_slice Try.underlying22 (hval 0 22 v0 rfl rfl)
  obtain ⟨b0, z0, _, w0⟩ : ∃ b zs, zs.length = len0 ∧ RdF W b (.slice a0 len0 cap0) zs := by
    obtain ⟨fuel, hf⟩ := h0
    exact rdF_open Try.underlying22 Try.underlying23 (by kernel_rfl) (by simpa [Value.cells] using hf)
  have k1 := h1
  have lt1 : ∀ x ∈ p1, x.block < W.heap.size := by obtain ⟨m, hm⟩ := k1; exact DataW.trod_lt m _ _ _ hm
  obtain ⟨a1, len1, cap1, rfl⟩ := okWide_slice Try.underlying22 (hval 1 22 v1 rfl rfl)
  obtain ⟨b1, z1, _, w1⟩ : ∃ b zs, zs.length = len1 ∧ RdF W b (.slice a1 len1 cap1) zs := by
    obtain ⟨fuel, hf⟩ := h1
    exact rdF_open Try.underlying22 Try.underlying23 (by kernel_rfl) (by simpa [Value.cells] using hf)
  clear hA0 hval0
  refine (walk w0 w1).mono fun e W' ⟨he, bel⟩ => ?_
  subst he
  exact ⟨_, rfl, _, _, _, [], _, [], hW', trodAll_mk1 (shut_bool Try.underlying4 _), (trodAll_cons_mk (Below.trod laidOut (by kernel_rfl) (of_decide_eq_true (by kernel_rfl)) k0 bel lt0) (trodAll_cons_mk (Below.trod laidOut (by kernel_rfl) (of_decide_eq_true (by kernel_rfl)) k1 bel lt1) (trodAll_mk0))), rfl, bel.frame _, fun h => by cases h⟩

theorem over : Rows.fnExactDotNumbersRow.holds Try.pinned (OpenSpec.ofChange Rows.fnExactDotNumbersSpec) :=
  OpenClaim.holds_of_wide 4 Try.f4 rfl rfl rfl rfl rfl rfl rfl ⟨rfl, rfl, rfl, rfl, rfl⟩ rfl rfl rfl rfl rfl (by kernel_rfl) Try.func4 (by unfold joinedFacts; rw [MayA.fact, MayB.fact, MayC.fact]; kernel_rfl)
    (of_decide_eq_true (by kernel_rfl)) (by unfold Func.isWrapper; rw [if_neg (of_decide_eq_false (by kernel_rfl))]; exact ⟨rfl, rfl⟩)
    (fun os started H enc _ => lifted os started H enc)

theorem proved : Rows.FnExactDotNumbersSaid := over
end Go.Proofs.Ytejchjjkehmgaaa.lawDotNumbers
