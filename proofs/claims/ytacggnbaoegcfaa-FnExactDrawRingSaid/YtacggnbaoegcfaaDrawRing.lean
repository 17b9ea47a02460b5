/- For every three numbers, impl.DrawRing answers as the model of the document does, and what it hands out is memory of its own. No condition. -/
import Derived.Test.YtacggnbaoegcfaaRows
import Derived.Test.YtacggnbaoegcfaaHelp
import Derived.Test.YtacggnbaoegcfaaLawKit
import Derived.Test.YtacggnbaoegcfaaDraw
import Derived.WalkKit
import Derived.WalkLawsBesides
import Derived.ProofKit
import Derived.OpenShut
import Derived.ShutString
import Derived.ChangeOld
import Derived.Below
import Derived.IntWalk
import Derived.Lib.SmallJoins
namespace Go.Proofs.Ytacggnbaoegcfaa.lawDrawRing
open Go.ChangeShapes Go.WideShapes Go.ChangeAt Go.RowKit Go.Joins Go.Proofs.Ytacggnbaoegcfaa.Rd Go.Proofs.Ytacggnbaoegcfaa.Help
set_option linter.unusedVariables false
theorem own : ownKnob Try.prog.godebug = none := by kernel_rfl
theorem laidOut : laidOutB Try.prog = true := by kernel_rfl


theorem agree (st n s : Int) : ∃ (zs : List Int) (q : Int) (ok : Bool), zs.length ≤ 1000000 ∧
    (∀ (w : World), Calls Try.prog 49 #[.int .i64 st, .int .i64 n, .int .i64 s] w fun e w' => ∃ v b, e = .returned (.tuple #[v, .int .i64 q, .bool ok]) ∧ Own 2 w' b v zs ∧ w.heap.size ≤ b ∧ Below w.heap.size w w') ∧
    (∀ (w : World), Calls Try.prog 50 #[.int .i64 st, .int .i64 n, .int .i64 s] w fun e w' => ∃ v b, e = .returned (.tuple #[v, .int .i64 q, .bool ok]) ∧ Own 2 w' b v zs ∧ w.heap.size ≤ b ∧ Below w.heap.size w w') := by
  by_cases h : Draw.Good st n s
  · obtain ⟨N, rfl⟩ := Int.eq_ofNat_of_zero_le (show 0 ≤ n by have := h.2.1.1; omega)
    exact ⟨Draw.cells st s N, Draw.seedAt s N, true, by have := h.2.1.2; rw [Draw.cells_length]; omega, fun w => Draw.specOk h, fun w => Draw.implOk h⟩
  · refine ⟨[], 0, false, by simp, fun w => ?_, fun w => ?_⟩
    · refine (Draw.specNo h).mono ?_
      rintro e w' ⟨rfl, rfl⟩
      exact ⟨_, w.heap.size, rfl, Own.nil _ _ _, Nat.le_refl _, Below.refl _ _⟩
    · refine (Draw.implNo h).mono ?_
      rintro e w' ⟨rfl, rfl⟩
      exact ⟨_, w.heap.size, rfl, Own.nil _ _ _, Nat.le_refl _, Below.refl _ _⟩

set_option maxHeartbeats 4000000 in
theorem walk {w : World} {a0 : Int} (f0 : (Lit.int .i64 a0).wf = true) {a1 : Int} (f1 : (Lit.int .i64 a1).wf = true) {a2 : Int} (f2 : (Lit.int .i64 a2).wf = true) :
    Calls Try.prog 15 #[.int .i64 a0, .int .i64 a1, .int .i64 a2] w fun e w' => e = .returned (.bool true) ∧ Below w.heap.size w w' := by
  obtain ⟨zs, q1, q2, hlen, hspec, himpl⟩ := agree a0 a1 a2
  have HN : Hid (zs.length ≤ 1000000) := hlen
  have hlen' : (zs.length : Int) ≤ 1000000 := by omega
  have HSp := hid @hspec
  have HIm := hid @himpl
  have Bc : Below w.heap.size w w := Below.refl _ _
  clear hlen hspec himpl
  go_enter Try.func15, Try.ntmps15
  go_wp2_with fail
  go_at_call 49
  refine (HSp.out _).mono ?_
  rintro e w1 ⟨vW, bW, rfl, oW, lo, bel⟩
  have cbW : w.heap.size ≤ bW := Nat.le_trans Bc.size lo
  replace Bc := Bc.trans (bel.mono Bc.size)
  clear bel lo
  go_wp2_with fail
  go_at_call 50
  refine (HIm.out _).mono ?_
  rintro e w2 ⟨vG, bG, rfl, oG, lo, bel⟩
  have neWG := (lim oW).imp id (fun hx => (by have hy := lo; omega : bW ≠ bG))
  have cbG : w.heap.size ≤ bG := Nat.le_trans Bc.size lo
  replace oW := oW.keep bel
  replace Bc := Bc.trans (bel.mono Bc.size)
  clear bel lo
  go_wp2_with fail
  go_at_call 27
  refine (eqB oG.rd oW.rd).mono ?_
  rintro e w3 ⟨rfl, bel⟩
  replace oW := oW.keep bel
  replace oG := oG.keep bel
  replace Bc := Bc.trans (bel.mono Bc.size)
  clear bel
  go_wp2_with fail
  go_at_call 33
  refine (markS oG (by omega) (by have := HN.out; omega)).mono ?_
  rintro e w4 ⟨rfl, mG, g⟩
  replace oW := beside oW g neWG
  replace oG := mG; clear mG
  replace Bc := below_mark Bc g Bc.size cbG; clear g
  go_wp2_with fail
  go_at_call 34
  refine (heldS oG.rd (by omega) (by have := HN.out; omega)).mono ?_
  rintro e w5 ⟨rfl, rfl⟩
  go_wp2_with fail
  go_at_call 50
  refine (HIm.out _).mono ?_
  rintro e w5 ⟨vK, bK, rfl, oK, lo, bel⟩
  have neWK := (lim oW).imp id (fun hx => (by have hy := lo; omega : bW ≠ bK))
  have neGK := (lim oG).imp id (fun hx => (by have hy := lo; omega : bG ≠ bK))
  have cbK : w.heap.size ≤ bK := Nat.le_trans Bc.size lo
  replace oW := oW.keep bel
  replace oG := oG.keep bel
  replace Bc := Bc.trans (bel.mono Bc.size)
  clear bel lo
  go_wp2_with fail
  go_at_call 27
  refine (eqB oK.rd oW.rd).mono ?_
  rintro e w6 ⟨rfl, bel⟩
  replace oW := oW.keep bel
  replace oG := oG.keep bel
  replace oK := oK.keep bel
  replace Bc := Bc.trans (bel.mono Bc.size)
  clear bel
  go_wp2_with fail
  go_at_call 34
  refine (heldS oG.rd (by omega) (by have := HN.out; omega)).mono ?_
  rintro e w7 ⟨rfl, rfl⟩
  go_wp2
  go_ret
  exact ⟨rfl, Bc⟩

set_option maxRecDepth 100000 in
theorem lifted (os : Os) (started : os.Started) (H : Type) (enc : TypeId × Value → H) :
    ReturnsInHanded {} Try.checked os 15 .any (Rows.fnExactDrawRingSpec.pre6 enc Try.prog Try.f15 Rows.fnExactDrawRingRow.domain false) (Rows.fnExactDrawRingSpec.post enc Try.prog Try.f15 false true false false) := by
  refine returnsInHanded_of_change (C := Try.checked) own started (by kernel_rfl) Try.func15
    (ChangeSpec.witness6 (enc := enc) (C := Try.checked) false ⟨#[], #[.int .i64 0, .int .i64 0, .int .i64 0], []⟩ 8 (by kernel_rfl) (by kernel_rfl) (by kernel_rfl) (by kernel_rfl)) ?_
  intro W base args ds gs before hval0 hW hcnd hreach
  have hval : ∀ (j : Nat) t v, Try.f15.params[j]? = some t → args[j]? = some v → Value.okWide Try.prog W .any base t v := hval0
  have hW' := hW
  obtain ⟨p, q, hA0, hV, rfl, hfz, hnd⟩ := hW
  have hA : DataW.TrodAll enc Try.prog W 0 (fun _ => true) true Try.f15.params.toList args.toList ds p := hA0
  rw [Try.params15] at hA hval
  obtain ⟨v0, vs0, d0, ds0, p0, q0, hargs, rfl, rfl, h0, r0⟩ := trodAll_cons hA
  obtain ⟨v1, vs1, d1, ds1, p1, q1, rfl, rfl, rfl, h1, r1⟩ := trodAll_cons r0
  obtain ⟨v2, vs2, d2, ds2, p2, q2, rfl, rfl, rfl, h2, r2⟩ := trodAll_cons r1
  obtain ⟨rfl, rfl, rfl⟩ := trodAll_nil r2
  obtain rfl : args = #[v0, v1, v2] := by cases args; simp_all
  obtain ⟨rfl, rfl⟩ := trodVars_none hV
  obtain ⟨a0, rfl, rfl, rfl, w0⟩ := open_int Try.underlying2 (hval 0 2 v0 rfl rfl) h0
  obtain ⟨a1, rfl, rfl, rfl, w1⟩ := open_int Try.underlying2 (hval 1 2 v1 rfl rfl) h1
  obtain ⟨a2, rfl, rfl, rfl, w2⟩ := open_int Try.underlying2 (hval 2 2 v2 rfl rfl) h2
  clear hA0 hval0
  refine (walk w0 w1 w2).mono fun e W' ⟨he, bel⟩ => ?_
  subst he
  exact ⟨_, rfl, _, _, _, [], _, [], hW', trodAll_mk1 (shut_bool Try.underlying4 _), (trodAll_cons_mk (shut_int Try.underlying2 w0) (trodAll_cons_mk (shut_int Try.underlying2 w1) (trodAll_cons_mk (shut_int Try.underlying2 w2) (trodAll_mk0)))), rfl, bel.frame _, fun h => by cases h⟩

theorem over : Rows.fnExactDrawRingRow.holds Try.pinned (OpenSpec.ofChange Rows.fnExactDrawRingSpec) :=
  OpenClaim.holds_of_wide 15 Try.f15 rfl rfl rfl rfl rfl rfl rfl ⟨rfl, rfl, rfl, rfl, rfl⟩ rfl rfl rfl rfl rfl (by kernel_rfl) Try.func15 (by kernel_rfl)
    (of_decide_eq_true (by kernel_rfl)) (by unfold Func.isWrapper; rw [if_neg (of_decide_eq_false (by kernel_rfl))]; exact ⟨rfl, rfl⟩)
    (fun os started H enc _ => lifted os started H enc)

theorem proved : Rows.FnExactDrawRingSaid := over
end Go.Proofs.Ytacggnbaoegcfaa.lawDrawRing
