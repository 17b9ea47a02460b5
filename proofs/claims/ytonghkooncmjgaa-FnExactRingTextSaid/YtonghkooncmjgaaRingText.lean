/- For every list, impl.RingText answers as the model of the document does and changes nothing that it is given. No condition. -/
import Derived.Test.YtonghkooncmjgaaRows
import Derived.Test.YtonghkooncmjgaaMayA
import Derived.Test.YtonghkooncmjgaaMayB
import Derived.Test.YtonghkooncmjgaaMayC
import Derived.Test.YtonghkooncmjgaaHelp
import Derived.Test.YtonghkooncmjgaaRing
import Derived.Test.YtonghkooncmjgaaRTx
import Derived.WalkKit
import Derived.WalkLawsBesides
import Derived.ProofKit
import Derived.OpenShut
import Derived.ShutString
import Derived.ChangeOld
import Derived.Below
import Derived.IntWalk
import Derived.Lib.SmallJoins
namespace Go.Proofs.Ytonghkooncmjgaa.lawRingText
open Go.ChangeShapes Go.WideShapes Go.ChangeAt Go.RowKit Go.Joins Go.Proofs.Ytonghkooncmjgaa.Rd Go.Proofs.Ytonghkooncmjgaa.Help
set_option linter.unusedVariables false
set_option linter.unusedSimpArgs false
theorem own : ownKnob Try.prog.godebug = none := by kernel_rfl
theorem laidOut : laidOutB Try.prog = true := by kernel_rfl

set_option maxHeartbeats 2000000 in
theorem walk {w : World} {b : Nat} {v : Value} {zs : List Int} (h : Rd w b v zs) :
    Calls Try.prog 6 #[v] w fun e w' => e = .returned (.bool true) ∧ Below w.heap.size w w' := by
  have HS : ∀ (w : World) (b : Nat) (v : Value), Rd w b v zs → Calls Try.prog 28 #[v] w _ := fun w b v k => RTx.specOk k
  have HI : ∀ (w : World) (b : Nat) (v : Value), Rd w b v zs → Calls Try.prog 30 #[v] w _ := fun w b v k => RTx.implOk k
  obtain ⟨q0, hq0⟩ : ∃ q0, q0 = (RTx.val zs) := ⟨_, rfl⟩
  simp only [← hq0] at HS HI
  clear hq0
  obtain ⟨q1, hq1⟩ : ∃ q1, q1 = (Ring.ringB zs 3) := ⟨_, rfl⟩
  simp only [← hq1] at HS HI
  clear hq1
  have HSp := hid @HS
  have HIm := hid @HI
  clear HS HI
  have HH : Hid (Rd w b v zs) := h
  obtain ⟨ao, cap, rfl, hc, hm, _⟩ := h
  obtain ⟨n, hn⟩ : ∃ n, n = zs.length := ⟨_, rfl⟩
  rw [← hn] at hc HH ⊢
  have Hn : Hid (n = zs.length) := hn
  clear hn hc hm
  by_cases hl : n ≤ 1048576
  · have hz : zs.length ≤ 1048576 := by rw [← Hn.out]; exact hl
    have Hz : Hid (zs.length ≤ 1048576) := hz
    clear hz
    go_enter Try.func6, Try.ntmps6
    go_wp2_with fail
    go_at_call 29
    refine (toS HH.out Hz.out).mono ?_
    rintro e w1 ⟨rfl, o1, bel1⟩
    have h1 := HH.out.keep bel1 (Nat.le_refl _)
    go_wp2_with fail
    go_at_call 28
    refine (HSp.out _ _ _ o1.rd).mono ?_
    rintro e w1' ⟨rfl, bels⟩
    have h1' := h1.keep bels (Nat.le_refl _)
    go_wp2_with fail
    go_at_call 29
    refine (toS h1' Hz.out).mono ?_
    rintro e w2 ⟨rfl, o2, bel2⟩
    have h2 := h1'.keep bel2 (Nat.le_refl _)
    go_wp2_with fail
    go_at_call 30
    refine (HIm.out _ _ _ o2.rd).mono ?_
    rintro e w3 ⟨rfl, bel3⟩
    have h3 := h2.keep bel3 (Nat.le_refl _)
    have o2' := o2.keep bel3
    go_wp2_with fail
    go_at_call 29
    refine (toS h3 Hz.out).mono ?_
    rintro e w4 ⟨rfl, o4, bel4⟩
    have o2'' := o2'.keep bel4
    go_wp2_with fail
    go_at_call 31
    refine (eqS o2''.rd o4.rd).mono ?_
    rintro e w5 ⟨rfl, m, rfl⟩
    go_wp2
    go_ret
    refine ⟨rfl, ?_⟩
    have B1 := bel1.trans (bels.mono bel1.size)
    have B2 := B1.trans (bel2.mono B1.size)
    have B3 := B2.trans (bel3.mono B2.size)
    have B4 := B3.trans (bel4.mono B3.size)
    exact B4.trans (Go.Proofs.Ytonghkooncmjgaa.Help.below_drewN _ _ _)
  · go_enter Try.func6, Try.ntmps6
    go_wp2
    go_ret
    exact ⟨rfl, Below.refl _ _⟩

set_option maxRecDepth 100000 in
theorem lifted (os : Os) (started : os.Started) (H : Type) (enc : TypeId × Value → H) :
    ReturnsInHanded {} Try.checked os 6 .any (Rows.fnExactRingTextSpec.pre6 enc Try.prog Try.f6 Rows.fnExactRingTextRow.domain false) (Rows.fnExactRingTextSpec.post enc Try.prog Try.f6 false true false false) := by
  refine returnsInHanded_of_change (C := Try.checked) own started (by kernel_rfl) Try.func6
    (ChangeSpec.witness6 (enc := enc) (C := Try.checked) false ⟨#[], #[.slice none 0 0], []⟩ 8 (by kernel_rfl) (by kernel_rfl) (by kernel_rfl) (by kernel_rfl)) ?_
  intro W base args ds gs before hval0 hW hcnd hreach
  have hval : ∀ (j : Nat) t v, Try.f6.params[j]? = some t → args[j]? = some v → Value.okWide Try.prog W .any base t v := hval0
  have hW' := hW
  obtain ⟨p, q, hA0, hV, rfl, hfz, hnd⟩ := hW
  have hA : DataW.TrodAll enc Try.prog W 0 (fun _ => true) true Try.f6.params.toList args.toList ds p := hA0
  rw [Try.params6] at hA hval
  obtain ⟨v0, vs0, d0, ds0, p0, q0, hargs, rfl, rfl, h0, r0⟩ := trodAll_cons hA
  obtain ⟨rfl, rfl, rfl⟩ := trodAll_nil r0
  obtain rfl : args = #[v0] := by cases args; simp_all
  obtain ⟨rfl, rfl⟩ := trodVars_none hV
  have k0 := h0
  have lt0 : ∀ x ∈ p0, x.block < W.heap.size := by obtain ⟨m, hm⟩ := k0; exact DataW.trod_lt m _ _ _ hm
  obtain ⟨a0, len0, cap0, rfl⟩ := okWide_slice Try.underlying22 (hval 0 22 v0 rfl rfl)
  obtain ⟨b0, z0, _, w0⟩ : ∃ b zs, zs.length = len0 ∧ Rd W b (.slice a0 len0 cap0) zs := by
    obtain ⟨fuel, hf⟩ := h0
    exact rd_open Try.underlying22 Try.underlying2 (by kernel_rfl) (by simpa [Value.cells] using hf)
  clear hA0 hval0
  refine (walk w0).mono fun e W' ⟨he, bel⟩ => ?_
  subst he
  exact ⟨_, rfl, _, _, _, [], _, [], hW', trodAll_mk1 (shut_bool Try.underlying4 _), (trodAll_cons_mk (Below.trod laidOut (by kernel_rfl) (of_decide_eq_true (by kernel_rfl)) k0 bel lt0) (trodAll_mk0)), rfl, bel.frame _, fun h => by cases h⟩

theorem over : Rows.fnExactRingTextRow.holds Try.pinned (OpenSpec.ofChange Rows.fnExactRingTextSpec) :=
  OpenClaim.holds_of_wide 6 Try.f6 rfl rfl rfl rfl rfl rfl rfl ⟨rfl, rfl, rfl, rfl, rfl⟩ rfl rfl rfl rfl rfl (by kernel_rfl) Try.func6 (by unfold joinedFacts; rw [MayA.fact, MayB.fact, MayC.fact]; kernel_rfl)
    (of_decide_eq_true (by kernel_rfl)) (by unfold Func.isWrapper; rw [if_neg (of_decide_eq_false (by kernel_rfl))]; exact ⟨rfl, rfl⟩)
    (fun os started H enc _ => lifted os started H enc)

theorem proved : Rows.FnExactRingTextSaid := over
end Go.Proofs.Ytonghkooncmjgaa.lawRingText
