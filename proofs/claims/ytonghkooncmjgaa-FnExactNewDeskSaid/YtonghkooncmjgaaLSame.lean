/- SameLife of both sides. -/
import Derived.Test.YtonghkooncmjgaaLife
import Derived.Test.YtonghkooncmjgaaFSame
namespace Go.Proofs.Ytonghkooncmjgaa.LSame
open Go.RowKit Go.Proofs.Ytonghkooncmjgaa.Rd Go.Proofs.Ytonghkooncmjgaa.Help Go.Proofs.Ytonghkooncmjgaa.Small Go.Proofs.Ytonghkooncmjgaa.Keep Go.Proofs.Ytonghkooncmjgaa.Rule Go.Proofs.Ytonghkooncmjgaa.Same
set_option linter.unusedVariables false
set_option linter.unusedSimpArgs false

/-- What SameLife answers. -/
def sameL (xs ys xs' ys' : List Int) : Bool := eqLB xs xs' && eqLB ys ys'

theorem specEq {w : World} {b1 b2 : Nat} {v1 v2 : Value} {xs ys : List Int} {q : Bool} (h1 : Rd w b1 v1 xs) (h2 : Rd w b2 v2 ys) (hq : eqLB xs ys = q) :
    Calls Try.prog 78 #[v1, v2] w fun e w' => e = .returned (.bool q) ∧ ∃ m, w' = w.drewN m := by
  rw [← hq]; exact specEqual h1 h2

set_option maxHeartbeats 2000000 in
theorem specSame {w : World} {g h a1 a2 d1 d2 : Nat} {v1 v2 u1 u2 : Value} {xs ys xs' ys' : List Int} (c0 : w.cell? ⟨g, 0, none⟩ = some v1) (c1 : w.cell? ⟨g, 1, none⟩ = some v2) (e0 : w.cell? ⟨h, 0, none⟩ = some u1) (e1 : w.cell? ⟨h, 1, none⟩ = some u2)
    (h1 : Rd w a1 v1 xs) (h2 : Rd w a2 v2 ys) (h3 : Rd w d1 u1 xs') (h4 : Rd w d2 u2 ys') :
    Calls Try.prog 80 #[.pointer (some ⟨g, 0, none⟩), .pointer (some ⟨h, 0, none⟩)] w fun e w' => e = .returned (.bool (sameL xs ys xs' ys')) ∧ ∃ m, w' = w.drewN m := by
  have H1 := hid h1
  have H2 := hid h2
  have H3 := hid h3
  have H4 := hid h4
  obtain ⟨ao1, k1, rfl, _, _, _⟩ := h1
  obtain ⟨ao2, k2, rfl, _, _, _⟩ := h2
  obtain ⟨ao3, k3, rfl, _, _, _⟩ := h3
  obtain ⟨ao4, k4, rfl, _, _, _⟩ := h4
  cases hx : eqLB xs xs' with
  | false =>
    have e : sameL xs ys xs' ys' = false := by simp [sameL, hx]
    rw [e]
    have HX := hid hx
    clear e hx
    go_enter Try.func80, Try.ntmps80
    go_wp2_with fail
    go_quiet (first | (go_at_call_of 78 (Value.slice ao1 xs.length k1); refine Calls.quiet_of (specEq (H1.out.keep (FSpec.below_drewN' _ _ _) (Nat.le_refl _)) (H3.out.keep (FSpec.below_drewN' _ _ _) (Nat.le_refl _)) HX.out)))
    go_wp2
    go_ret
    exact ⟨rfl, _, rfl⟩
  | true =>
    obtain ⟨q, hq⟩ : ∃ q, q = eqLB ys ys' := ⟨_, rfl⟩
    have e : sameL xs ys xs' ys' = q := by simp [sameL, hx, hq]
    rw [e]
    have HX := hid hx
    have HQ := hid hq
    clear e hx hq
    go_enter Try.func80, Try.ntmps80
    go_wp2_with fail
    go_quiet (first | (go_at_call_of 78 (Value.slice ao1 xs.length k1); refine Calls.quiet_of (specEq (H1.out.keep (FSpec.below_drewN' _ _ _) (Nat.le_refl _)) (H3.out.keep (FSpec.below_drewN' _ _ _) (Nat.le_refl _)) HX.out)) | (go_at_call_of 78 (Value.slice ao2 ys.length k2); refine Calls.quiet_of (specEq (H2.out.keep (FSpec.below_drewN' _ _ _) (Nat.le_refl _)) (H4.out.keep (FSpec.below_drewN' _ _ _) (Nat.le_refl _)) HQ.out.symm)))
    go_wp2
    go_ret
    exact ⟨rfl, _, rfl⟩

set_option maxHeartbeats 2000000 in
theorem impl_two {w : World} {a1 a2 d1 d2 : Nat} {v1 v2 u1 u2 : Value} {xs ys xs' ys' : List Int} (h1 : Rd w a1 v1 xs) (h2 : Rd w a2 v2 ys) (h3 : Rd w d1 u1 xs') (h4 : Rd w d2 u2 ys') :
    Calls Try.prog 84 #[lifeV v1 v2, lifeV u1 u2] w fun e w' => e = .returned (.bool (sameL xs ys xs' ys')) ∧ Below w.heap.size w w' := by
  have H1 := hid h1
  have H2 := hid h2
  have H3 := hid h3
  have H4 := hid h4
  clear h1 h2 h3 h4
  cases hx : eqLB xs xs' with
  | false =>
    have e : sameL xs ys xs' ys' = false := by simp [sameL, hx]
    rw [e]
    have HX := hid hx
    clear e hx
    go_enter Try.func84, Try.ntmps84
    go_wp2_with fail
    obtain ⟨w1, hW⟩ : ∃ w1, w1 = (w.alloc (Obj.cells #[v1, v2] 35)).alloc (Obj.cells #[u1, u2] 35) := ⟨_, rfl⟩
    obtain ⟨N, hN⟩ : ∃ N, N = w.heap.size := ⟨_, rfl⟩
    obtain ⟨M, hM⟩ : ∃ M, M = N + 1 := ⟨_, rfl⟩
    have st : Below w.heap.size w w1 ∧ w1.cell? ⟨N, 0, none⟩ = some v1 ∧ w1.cell? ⟨N, 1, none⟩ = some v2 ∧ w1.cell? ⟨M, 0, none⟩ = some u1 ∧ w1.cell? ⟨M, 1, none⟩ = some u2 ∧ w.heap.size ≤ w1.heap.size := by
      rw [hW, hM, hN]
      exact ⟨Go.Joins.below_alloc2 _ _ _, by simp, by simp, by simp, by simp, by simp; omega⟩
    simp only [← hW, ← hN, ← hM]
    clear hW hN hM
    go_at_call 82
    refine (Same.implEqual (H1.out.keep st.1 (Nat.le_refl _)) (H3.out.keep st.1 (Nat.le_refl _))).mono ?_
    rw [HX.out]
    rintro e w2 ⟨rfl, m, hw2⟩
    have bel : Below w1.heap.size w1 w2 := by rw [hw2]; exact FSpec.below_drewN' _ _ _
    clear hw2
    replace st := next4_0 bel st
    clear bel
    go_wp2
    go_ret
    exact ⟨rfl, st.1⟩
  | true =>
    obtain ⟨q, hq⟩ : ∃ q, q = eqLB ys ys' := ⟨_, rfl⟩
    have e : sameL xs ys xs' ys' = q := by simp [sameL, hx, hq]
    rw [e]
    have HX := hid hx
    have HQ := hid hq
    clear e hx hq
    go_enter Try.func84, Try.ntmps84
    go_wp2_with fail
    obtain ⟨w1, hW⟩ : ∃ w1, w1 = (w.alloc (Obj.cells #[v1, v2] 35)).alloc (Obj.cells #[u1, u2] 35) := ⟨_, rfl⟩
    obtain ⟨N, hN⟩ : ∃ N, N = w.heap.size := ⟨_, rfl⟩
    obtain ⟨M, hM⟩ : ∃ M, M = N + 1 := ⟨_, rfl⟩
    have st : Below w.heap.size w w1 ∧ w1.cell? ⟨N, 0, none⟩ = some v1 ∧ w1.cell? ⟨N, 1, none⟩ = some v2 ∧ w1.cell? ⟨M, 0, none⟩ = some u1 ∧ w1.cell? ⟨M, 1, none⟩ = some u2 ∧ w.heap.size ≤ w1.heap.size := by
      rw [hW, hM, hN]
      exact ⟨Go.Joins.below_alloc2 _ _ _, by simp, by simp, by simp, by simp, by simp; omega⟩
    simp only [← hW, ← hN, ← hM]
    clear hW hN hM
    go_at_call 82
    refine (Same.implEqual (H1.out.keep st.1 (Nat.le_refl _)) (H3.out.keep st.1 (Nat.le_refl _))).mono ?_
    rw [HX.out]
    rintro e w2 ⟨rfl, m, hw2⟩
    have bel : Below w1.heap.size w1 w2 := by rw [hw2]; exact FSpec.below_drewN' _ _ _
    clear hw2
    replace st := next4_0 bel st
    clear bel
    go_wp2_with fail
    go_at_call 82
    refine (Same.implEqual (H2.out.keep st.1 (Nat.le_refl _)) (H4.out.keep st.1 (Nat.le_refl _))).mono ?_
    rw [← HQ.out]
    rintro e w3 ⟨rfl, m3, hw3⟩
    have bel : Below w2.heap.size w2 w3 := by rw [hw3]; exact FSpec.below_drewN' _ _ _
    clear hw3
    replace st := next4_0 bel st
    clear bel
    go_wp2
    go_ret
    exact ⟨rfl, st.1⟩

end Go.Proofs.Ytonghkooncmjgaa.LSame
