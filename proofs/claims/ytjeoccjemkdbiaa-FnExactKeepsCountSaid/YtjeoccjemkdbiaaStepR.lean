/- StepRing of both sides. -/
import Derived.Test.YtjeoccjemkdbiaaStep
namespace Go.Proofs.Ytjeoccjemkdbiaa.Step
open Go.RowKit Go.Proofs.Ytjeoccjemkdbiaa.Rd Go.Proofs.Ytjeoccjemkdbiaa.Help Go.Proofs.Ytjeoccjemkdbiaa.App Go.Proofs.Ytjeoccjemkdbiaa.Ring Go.Proofs.Ytjeoccjemkdbiaa.Small Go.Proofs.Ytjeoccjemkdbiaa.Num Go.Proofs.Ytjeoccjemkdbiaa.Keep Go.Proofs.Ytjeoccjemkdbiaa.Rule
set_option linter.unusedVariables false
set_option linter.unusedSimpArgs false

theorem ring_of {s r : Int} {tbl zs : List Int} (h : validB s r tbl = true) : isRingB zs s = ringB zs s := by
  simp only [validB, shapeB, Bool.and_eq_true, decide_eq_true_eq] at h
  simp only [isRingB]
  rw [decide_eq_true ⟨h.1.1, h.1.2.1⟩, Bool.true_and]

set_option maxHeartbeats 2000000 in
theorem fits {w : World} {s r : Int} {bt br : Nat} {vt vr : Value} {tbl zs : List Int} (ht : Rd w bt vt tbl) (hr : Rd w br vr zs) :
    Calls Try.prog 70 #[ruleV s r vt, vr] w fun e w' => e = .returned (.bool (fitB s r tbl zs)) ∧ Below w.heap.size w w' := by
  have HT := hid ht
  have HR := hid hr
  clear ht hr
  cases hv : validB s r tbl with
  | true =>
    have HV := hid hv
    have e : fitB s r tbl zs = isRingB zs s := by simp only [fitB, hv, Bool.true_and]
    rw [e]
    clear e hv
    go_enter Try.func70, Try.ntmps70
    go_wp2_with fail
    obtain ⟨w1, hW⟩ : ∃ w1, w1 = w.alloc (Obj.cells #[.int .i64 s, .int .i64 r, vt] 28) := ⟨_, rfl⟩
    obtain ⟨N, hN⟩ : ∃ N, N = w.heap.size := ⟨_, rfl⟩
    have st : Below w.heap.size w w1 ∧ w1.cell? ⟨N, 0, none⟩ = some (.int .i64 s) ∧ w1.cell? ⟨N, 1, none⟩ = some (.int .i64 r) ∧ w1.cell? ⟨N, 2, none⟩ = some vt ∧ Rd w1 bt vt tbl ∧ Rd w1 br vr zs ∧ w.heap.size ≤ w1.heap.size := by
      rw [hW, hN]
      exact ⟨below1 _ _, by simp, by simp, by simp, HT.out.keep (below1 _ _) (Nat.le_refl _), HR.out.keep (below1 _ _) (Nat.le_refl _), by simp⟩
    simp only [← hW, ← hN]
    clear hW hN
    go_at_call 30
    refine (implValid (rd3_2_0 st)).mono ?_
    rw [HV.out]
    rintro e w2 ⟨rfl, bel⟩
    replace st := next3_2 bel st
    clear bel
    go_wp2_with fail
    go_at_call 83
    refine (implIsRing (rd3_2_1 st)).mono ?_
    rintro e w3 ⟨rfl, bel⟩
    replace st := next3_2 bel st
    clear bel
    go_wp2_with fail
    go_ret
    exact ⟨rfl, st.1⟩
  | false =>
    have HV := hid hv
    have e : fitB s r tbl zs = false := by simp only [fitB, hv, Bool.false_and]
    rw [e]
    clear e hv
    go_enter Try.func70, Try.ntmps70
    go_wp2_with fail
    obtain ⟨w1, hW⟩ : ∃ w1, w1 = w.alloc (Obj.cells #[.int .i64 s, .int .i64 r, vt] 28) := ⟨_, rfl⟩
    obtain ⟨N, hN⟩ : ∃ N, N = w.heap.size := ⟨_, rfl⟩
    have st : Below w.heap.size w w1 ∧ w1.cell? ⟨N, 0, none⟩ = some (.int .i64 s) ∧ w1.cell? ⟨N, 1, none⟩ = some (.int .i64 r) ∧ w1.cell? ⟨N, 2, none⟩ = some vt ∧ Rd w1 bt vt tbl ∧ Rd w1 br vr zs ∧ w.heap.size ≤ w1.heap.size := by
      rw [hW, hN]
      exact ⟨below1 _ _, by simp, by simp, by simp, HT.out.keep (below1 _ _) (Nat.le_refl _), HR.out.keep (below1 _ _) (Nat.le_refl _), by simp⟩
    simp only [← hW, ← hN]
    clear hW hN
    go_at_call 30
    refine (implValid (rd3_2_0 st)).mono ?_
    rw [HV.out]
    rintro e w2 ⟨rfl, bel⟩
    replace st := next3_2 bel st
    clear bel
    go_wp2_with fail
    go_ret
    exact ⟨rfl, st.1⟩

end Go.Proofs.Ytjeoccjemkdbiaa.Step
