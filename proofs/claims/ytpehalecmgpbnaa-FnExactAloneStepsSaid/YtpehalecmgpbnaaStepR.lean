/- StepRing of both sides. -/
import Derived.Test.YtpehalecmgpbnaaStep
namespace Go.Proofs.Ytpehalecmgpbnaa.Step
open Go.RowKit Go.Proofs.Ytpehalecmgpbnaa.Rd Go.Proofs.Ytpehalecmgpbnaa.Help Go.Proofs.Ytpehalecmgpbnaa.App Go.Proofs.Ytpehalecmgpbnaa.Ring Go.Proofs.Ytpehalecmgpbnaa.Small Go.Proofs.Ytpehalecmgpbnaa.Num Go.Proofs.Ytpehalecmgpbnaa.Keep Go.Proofs.Ytpehalecmgpbnaa.Rule
set_option linter.unusedVariables false
set_option linter.unusedSimpArgs false

theorem ring_of {s r : Int} {tbl zs : List Int} (h : validB s r tbl = true) : isRingB zs s = ringB zs s := by
  simp only [validB, shapeB, Bool.and_eq_true, decide_eq_true_eq] at h
  simp only [isRingB]
  rw [decide_eq_true ⟨h.1.1, h.1.2.1⟩, Bool.true_and]

set_option maxHeartbeats 2000000 in
theorem fits {w : World} {s r : Int} {bt br : Nat} {vt vr : Value} {tbl zs : List Int} (ht : Rd w bt vt tbl) (hr : Rd w br vr zs) :
    Calls Try.prog 32 #[ruleV s r vt, vr] w fun e w' => e = .returned (.bool (fitB s r tbl zs)) ∧ Below w.heap.size w w' := by
  have HT := hid ht
  have HR := hid hr
  clear ht hr
  cases hv : validB s r tbl with
  | true =>
    have HV := hid hv
    have e : fitB s r tbl zs = isRingB zs s := by simp only [fitB, hv, Bool.true_and]
    rw [e]
    clear e hv
    go_enter Try.func32, Try.ntmps32
    go_wp2_with fail
    obtain ⟨w1, hW⟩ : ∃ w1, w1 = w.alloc (Obj.cells #[.int .i64 s, .int .i64 r, vt] 28) := ⟨_, rfl⟩
    obtain ⟨N, hN⟩ : ∃ N, N = w.heap.size := ⟨_, rfl⟩
    have st : Below w.heap.size w w1 ∧ w1.cell? ⟨N, 0, none⟩ = some (.int .i64 s) ∧ w1.cell? ⟨N, 1, none⟩ = some (.int .i64 r) ∧ w1.cell? ⟨N, 2, none⟩ = some vt ∧ Rd w1 bt vt tbl ∧ Rd w1 br vr zs ∧ w.heap.size ≤ w1.heap.size := by
      rw [hW, hN]
      exact ⟨below1 _ _, by simp, by simp, by simp, HT.out.keep (below1 _ _) (Nat.le_refl _), HR.out.keep (below1 _ _) (Nat.le_refl _), by simp⟩
    simp only [← hW, ← hN]
    clear hW hN
    go_at_call 48
    refine (implValid (rd3_2_0 st)).mono ?_
    rw [HV.out]
    rintro e w2 ⟨rfl, bel⟩
    replace st := next3_2 bel st
    clear bel
    go_wp2_with fail
    go_at_call 44
    refine (implIsRing (rd3_2_1 st)).mono ?_
    rintro e w3 ⟨rfl, bel⟩
    replace st := next3_2 bel st
    clear bel
    go_wp2_with fail
    go_ret
    exact ⟨rfl, st.1⟩
  | false =>
    have HV := hid hv
    have e : fitB s r tbl zs = false := by simp only [fitB, hv, Bool.false_and]
    rw [e]
    clear e hv
    go_enter Try.func32, Try.ntmps32
    go_wp2_with fail
    obtain ⟨w1, hW⟩ : ∃ w1, w1 = w.alloc (Obj.cells #[.int .i64 s, .int .i64 r, vt] 28) := ⟨_, rfl⟩
    obtain ⟨N, hN⟩ : ∃ N, N = w.heap.size := ⟨_, rfl⟩
    have st : Below w.heap.size w w1 ∧ w1.cell? ⟨N, 0, none⟩ = some (.int .i64 s) ∧ w1.cell? ⟨N, 1, none⟩ = some (.int .i64 r) ∧ w1.cell? ⟨N, 2, none⟩ = some vt ∧ Rd w1 bt vt tbl ∧ Rd w1 br vr zs ∧ w.heap.size ≤ w1.heap.size := by
      rw [hW, hN]
      exact ⟨below1 _ _, by simp, by simp, by simp, HT.out.keep (below1 _ _) (Nat.le_refl _), HR.out.keep (below1 _ _) (Nat.le_refl _), by simp⟩
    simp only [← hW, ← hN]
    clear hW hN
    go_at_call 48
    refine (implValid (rd3_2_0 st)).mono ?_
    rw [HV.out]
    rintro e w2 ⟨rfl, bel⟩
    replace st := next3_2 bel st
    clear bel
    go_wp2_with fail
    go_ret
    exact ⟨rfl, st.1⟩

set_option maxHeartbeats 2000000 in
theorem can {w : World} {s r : Int} {g bt br : Nat} {vt vr : Value} {tbl zs : List Int} (c0 : w.cell? ⟨g, 0, none⟩ = some (.int .i64 s)) (c1 : w.cell? ⟨g, 1, none⟩ = some (.int .i64 r)) (c2 : w.cell? ⟨g, 2, none⟩ = some vt)
    (ht : Rd w bt vt tbl) (hr : Rd w br vr zs) :
    Calls Try.prog 30 #[.pointer (some ⟨g, 0, none⟩), vr] w fun e w' => e = .returned (.bool (fitB s r tbl zs)) ∧ Below w.heap.size w w' := by
  have st : Below w.heap.size w w ∧ w.cell? ⟨g, 0, none⟩ = some (.int .i64 s) ∧ w.cell? ⟨g, 1, none⟩ = some (.int .i64 r) ∧ w.cell? ⟨g, 2, none⟩ = some vt ∧ Rd w bt vt tbl ∧ Rd w br vr zs ∧ w.heap.size ≤ w.heap.size := ⟨Below.refl _ _, c0, c1, c2, ht, hr, Nat.le_refl _⟩
  have HC := hid (And.intro c0 (And.intro c1 c2))
  have HT := hid ht
  clear c0 c1 c2 ht hr
  cases hv : validB s r tbl with
  | true =>
    have HV := hid hv
    have HS : Hid (2 ≤ s ∧ s ≤ 3) := by
      simp only [validB, shapeB, Bool.and_eq_true, decide_eq_true_eq] at hv
      exact ⟨hv.1.1, hv.1.2.1⟩
    have e : fitB s r tbl zs = ringB zs s := by simp only [fitB, hv, Bool.true_and]; exact ring_of hv
    rw [e]
    clear e hv
    go_enter Try.func30, Try.ntmps30
    go_wp2_with fail
    go_at_call 47
    refine (Spec.is (s := s) (r := r) HT.out HC.out.1 HC.out.2.1 HC.out.2.2).mono ?_
    rw [HV.out]
    rintro e w2 ⟨rfl, m, hw2⟩
    have bel : Below w.heap.size w w2 := by rw [hw2]; exact Spec.below_drewN' _ _ _
    replace st := next3_2 bel st
    clear bel hw2
    go_wp2_with fail
    go_at_call 38
    refine (specL02Ring (rd3_2_1 st) HS.out).mono ?_
    rintro e w3 ⟨rfl, hw3⟩
    subst hw3
    go_wp2_with fail
    go_ret
    exact ⟨rfl, st.1⟩
  | false =>
    have HV := hid hv
    have e : fitB s r tbl zs = false := by simp only [fitB, hv, Bool.false_and]
    rw [e]
    clear e hv
    go_enter Try.func30, Try.ntmps30
    go_wp2_with fail
    go_at_call 47
    refine (Spec.is (s := s) (r := r) HT.out HC.out.1 HC.out.2.1 HC.out.2.2).mono ?_
    rw [HV.out]
    rintro e w2 ⟨rfl, m, hw2⟩
    have bel : Below w.heap.size w w2 := by rw [hw2]; exact Spec.below_drewN' _ _ _
    replace st := next3_2 bel st
    clear bel hw2
    go_wp2_with fail
    go_ret
    exact ⟨rfl, st.1⟩

set_option maxHeartbeats 2000000 in
theorem implStepRing {w : World} {s r : Int} {bt br : Nat} {vt vr : Value} {tbl zs : List Int} (ht : Rd w bt vt tbl) (hr : Rd w br vr zs) :
    Calls Try.prog 13 #[ruleV s r vt, vr] w fun e w' => ∃ v' b', e = .returned (.tuple #[v', .bool (fitB s r tbl zs)]) ∧
      Own 2 w' b' v' (if fitB s r tbl zs = true then nextL tbl zs s r zs.length else []) ∧ w.heap.size ≤ b' ∧ Below w.heap.size w w' := by
  have HT := hid ht
  have HR := hid hr
  clear ht hr
  cases hf : fitB s r tbl zs with
  | true =>
    have HF := hid hf
    have HFF := hid (fit_of hf)
    clear hf
    go_enter Try.func13, Try.ntmps13
    go_wp2_with fail
    obtain ⟨w1, hW⟩ : ∃ w1, w1 = w.alloc (Obj.cells #[.int .i64 s, .int .i64 r, vt] 28) := ⟨_, rfl⟩
    obtain ⟨N, hN⟩ : ∃ N, N = w.heap.size := ⟨_, rfl⟩
    have st : Below w.heap.size w w1 ∧ w1.cell? ⟨N, 0, none⟩ = some (.int .i64 s) ∧ w1.cell? ⟨N, 1, none⟩ = some (.int .i64 r) ∧ w1.cell? ⟨N, 2, none⟩ = some vt ∧ Rd w1 bt vt tbl ∧ Rd w1 br vr zs ∧ w.heap.size ≤ w1.heap.size := by
      rw [hW, hN]
      exact ⟨below1 _ _, by simp, by simp, by simp, HT.out.keep (below1 _ _) (Nat.le_refl _), HR.out.keep (below1 _ _) (Nat.le_refl _), by simp⟩
    simp only [← hW, ← hN]
    clear hW hN
    go_at_call 32
    refine (fits (rd3_2_0 st) (rd3_2_1 st)).mono ?_
    rw [HF.out]
    rintro e w2 ⟨rfl, bel⟩
    replace st := next3_2 bel st
    clear bel
    go_wp2_with fail
    go_at_call 33
    refine (implNext (rd3_2_0 st) (rd3_2_1 st) HFF.out).mono ?_
    rintro e w3 ⟨b', rfl, own, lo, bel⟩
    have HO := hid own
    have HL := hid (Nat.le_trans st.1.size lo)
    replace st := next3_2 bel st
    clear bel own lo
    go_wp2
    go_ret2
    refine ⟨_, rfl, b', ?_, HL.out, st.1⟩
    simpa using HO.out
  | false =>
    have HF := hid hf
    clear hf
    go_enter Try.func13, Try.ntmps13
    go_wp2_with fail
    obtain ⟨w1, hW⟩ : ∃ w1, w1 = w.alloc (Obj.cells #[.int .i64 s, .int .i64 r, vt] 28) := ⟨_, rfl⟩
    obtain ⟨N, hN⟩ : ∃ N, N = w.heap.size := ⟨_, rfl⟩
    have st : Below w.heap.size w w1 ∧ w1.cell? ⟨N, 0, none⟩ = some (.int .i64 s) ∧ w1.cell? ⟨N, 1, none⟩ = some (.int .i64 r) ∧ w1.cell? ⟨N, 2, none⟩ = some vt ∧ Rd w1 bt vt tbl ∧ Rd w1 br vr zs ∧ w.heap.size ≤ w1.heap.size := by
      rw [hW, hN]
      exact ⟨below1 _ _, by simp, by simp, by simp, HT.out.keep (below1 _ _) (Nat.le_refl _), HR.out.keep (below1 _ _) (Nat.le_refl _), by simp⟩
    simp only [← hW, ← hN]
    clear hW hN
    go_at_call 32
    refine (fits (rd3_2_0 st) (rd3_2_1 st)).mono ?_
    rw [HF.out]
    rintro e w2 ⟨rfl, bel⟩
    replace st := next3_2 bel st
    clear bel
    go_wp2
    go_ret2
    refine ⟨_, rfl, w.heap.size, ?_, Nat.le_refl _, st.1⟩
    simpa using Own.nil _ _ _

set_option maxHeartbeats 2000000 in
theorem specStepRing {w : World} {s r : Int} {bt br : Nat} {vt vr : Value} {tbl zs : List Int} (ht : Rd w bt vt tbl) (hr : Rd w br vr zs) :
    Calls Try.prog 10 #[ruleV s r vt, vr] w fun e w' => ∃ v' b', e = .returned (.tuple #[v', .bool (fitB s r tbl zs)]) ∧
      Own 2 w' b' v' (if fitB s r tbl zs = true then nextL tbl zs s r zs.length else []) ∧ w.heap.size ≤ b' ∧ Below w.heap.size w w' := by
  have HT := hid ht
  have HR := hid hr
  clear ht hr
  cases hf : fitB s r tbl zs with
  | true =>
    have HF := hid hf
    have HFF := hid (fit_of hf)
    clear hf
    go_enter Try.func10, Try.ntmps10
    go_wp2_with fail
    obtain ⟨w1, hW⟩ : ∃ w1, w1 = w.alloc (Obj.cells #[.int .i64 s, .int .i64 r, vt] 28) := ⟨_, rfl⟩
    obtain ⟨N, hN⟩ : ∃ N, N = w.heap.size := ⟨_, rfl⟩
    have st : Below w.heap.size w w1 ∧ w1.cell? ⟨N, 0, none⟩ = some (.int .i64 s) ∧ w1.cell? ⟨N, 1, none⟩ = some (.int .i64 r) ∧ w1.cell? ⟨N, 2, none⟩ = some vt ∧ Rd w1 bt vt tbl ∧ Rd w1 br vr zs ∧ w.heap.size ≤ w1.heap.size := by
      rw [hW, hN]
      exact ⟨below1 _ _, by simp, by simp, by simp, HT.out.keep (below1 _ _) (Nat.le_refl _), HR.out.keep (below1 _ _) (Nat.le_refl _), by simp⟩
    simp only [← hW, ← hN]
    clear hW hN
    go_at_call 30
    refine (can st.2.1 st.2.2.1 st.2.2.2.1 (rd3_2_0 st) (rd3_2_1 st)).mono ?_
    rw [HF.out]
    rintro e w2 ⟨rfl, bel⟩
    replace st := next3_2 bel st
    clear bel
    go_wp2_with fail
    go_at_call 31
    refine (specStep st.2.1 st.2.2.1 st.2.2.2.1 (rd3_2_0 st) (rd3_2_1 st) HFF.out).mono ?_
    rintro e w3 ⟨v', b', rfl, own, lo, bel⟩
    have HO := hid own
    have HL := hid (Nat.le_trans st.1.size lo)
    replace st := next3_2 bel st
    clear bel own lo
    go_wp2
    go_ret2
    refine ⟨_, rfl, b', ?_, HL.out, st.1⟩
    simpa using HO.out
  | false =>
    have HF := hid hf
    clear hf
    go_enter Try.func10, Try.ntmps10
    go_wp2_with fail
    obtain ⟨w1, hW⟩ : ∃ w1, w1 = w.alloc (Obj.cells #[.int .i64 s, .int .i64 r, vt] 28) := ⟨_, rfl⟩
    obtain ⟨N, hN⟩ : ∃ N, N = w.heap.size := ⟨_, rfl⟩
    have st : Below w.heap.size w w1 ∧ w1.cell? ⟨N, 0, none⟩ = some (.int .i64 s) ∧ w1.cell? ⟨N, 1, none⟩ = some (.int .i64 r) ∧ w1.cell? ⟨N, 2, none⟩ = some vt ∧ Rd w1 bt vt tbl ∧ Rd w1 br vr zs ∧ w.heap.size ≤ w1.heap.size := by
      rw [hW, hN]
      exact ⟨below1 _ _, by simp, by simp, by simp, HT.out.keep (below1 _ _) (Nat.le_refl _), HR.out.keep (below1 _ _) (Nat.le_refl _), by simp⟩
    simp only [← hW, ← hN]
    clear hW hN
    go_at_call 30
    refine (can st.2.1 st.2.2.1 st.2.2.2.1 (rd3_2_0 st) (rd3_2_1 st)).mono ?_
    rw [HF.out]
    rintro e w2 ⟨rfl, bel⟩
    replace st := next3_2 bel st
    clear bel
    go_wp2
    go_ret2
    refine ⟨_, rfl, w.heap.size, ?_, Nat.le_refl _, st.1⟩
    simpa using Own.nil _ _ _

end Go.Proofs.Ytpehalecmgpbnaa.Step
