/- Lives and fields within something: at an offset. -/
import Derived.Test.YtonghkooncmjgaaLVal
import Derived.Test.YtonghkooncmjgaaLSame
namespace Go.Proofs.Ytonghkooncmjgaa.DsO
open Go.RowKit Go.Proofs.Ytonghkooncmjgaa.Rd Go.Proofs.Ytonghkooncmjgaa.Help Go.Proofs.Ytonghkooncmjgaa.Small Go.Proofs.Ytonghkooncmjgaa.Keep Go.Proofs.Ytonghkooncmjgaa.Rule Go.Proofs.Ytonghkooncmjgaa.Same Go.Proofs.Ytonghkooncmjgaa.LVal Go.Proofs.Ytonghkooncmjgaa.LSame
set_option linter.unusedVariables false
set_option linter.unusedSimpArgs false

set_option maxHeartbeats 2000000 in
theorem life {w : World} {g o b1 b2 : Nat} {v1 v2 : Value} {xs ys : List Int} (c0 : w.cell? ⟨g, o, none⟩ = some v1) (c1 : w.cell? ⟨g, o + 1, none⟩ = some v2) (h1 : Rd w b1 v1 xs) (h2 : Rd w b2 v2 ys) :
    Calls Try.prog 91 #[.pointer (some ⟨g, o, none⟩)] w fun e w' => e = .returned (.bool (lifeB xs ys)) ∧ ∃ m, w' = w.drewN m := by
  have H1 := hid h1
  have H2 := hid h2
  cases hx : neighB xs with
  | false =>
    have e : lifeB xs ys = false := by simp [lifeB, hx]
    rw [e]
    have HX := hid hx
    clear h1 h2 e hx
    go_enter Try.func91, Try.ntmps91
    go_wp2_with fail
    go_at_call 164
    refine (specNeigh H1.out).mono ?_
    rw [HX.out]
    rintro e w2 ⟨rfl, m, rfl⟩
    go_wp2
    go_ret
    exact ⟨rfl, m, rfl⟩
  | true =>
    obtain ⟨q, hq⟩ : ∃ q, q = neighB ys := ⟨_, rfl⟩
    have e : lifeB xs ys = q := by simp [lifeB, hx, hq]
    rw [e]
    have HX := hid hx
    have HQ := hid hq
    clear h1 h2 e hx hq
    go_enter Try.func91, Try.ntmps91
    go_wp2_with fail
    go_at_call 164
    refine (specNeigh H1.out).mono ?_
    rw [HX.out]
    rintro e w2 ⟨rfl, m, hw2⟩
    have c1' : w2.cell? ⟨g, o + 1, none⟩ = some v2 := by rw [hw2]; exact c1
    have HW := hid hw2
    have H3 : Hid (Rd w2 b2 v2 ys) := by rw [hw2]; exact H2.out.keep (FSpec.below_drewN' _ _ _) (Nat.le_refl _)
    clear hw2
    go_wp2_with fail
    go_at_call 164
    refine (specNeigh H3.out).mono ?_
    rw [← HQ.out]
    rintro e w3 ⟨rfl, m3, hw3⟩
    have HW3 := hid hw3
    clear hw3
    go_wp2
    go_ret
    exact ⟨rfl, m + m3, by rw [HW3.out, HW.out, World.drewN_drewN]⟩

set_option maxHeartbeats 4000000 in
theorem fsame {w : World} {g h o : Nat} {b1 b2 : Nat} {s r s' r' : Int} {v1 v2 : Value} {xs ys : List Int} (c0 : w.cell? ⟨g, o, none⟩ = some (.int .i64 s)) (c1 : w.cell? ⟨g, o + 1, none⟩ = some (.int .i64 r)) (c2 : w.cell? ⟨g, o + 2, none⟩ = some v1)
    (d0 : w.cell? ⟨h, o, none⟩ = some (.int .i64 s')) (d1 : w.cell? ⟨h, o + 1, none⟩ = some (.int .i64 r')) (d2 : w.cell? ⟨h, o + 2, none⟩ = some v2) (h1 : Rd w b1 v1 xs) (h2 : Rd w b2 v2 ys) :
    Calls Try.prog 79 #[.pointer (some ⟨g, o, none⟩), .pointer (some ⟨h, o, none⟩)] w fun e w' => e = .returned (.bool (sameB s r xs s' r' ys)) ∧ ∃ m, w' = w.drewN m := by
  have H1 := hid h1
  have H2 := hid h2
  clear h1 h2
  by_cases hs : s = s'
  · subst hs
    by_cases hr : r = r'
    · subst hr
      have e : sameB s r xs s r ys = eqLB xs ys := by simp [sameB]
      rw [e]
      clear e
      go_enter Try.func79, Try.ntmps79
      go_wp2_with fail
      go_quiet (first | (go_at_call 78; refine Calls.quiet_of (specEqual (H1.out.keep (FSpec.below_drewN' _ _ _) (Nat.le_refl _)) (H2.out.keep (FSpec.below_drewN' _ _ _) (Nat.le_refl _)))))
      go_wp2
      go_ret
      exact ⟨rfl, _, rfl⟩
    · have e : sameB s r xs s r' ys = false := by simp [sameB, hr]
      rw [e]
      have hr2 : (r == r') = false := by simpa using hr
      clear e hr
      go_enter Try.func79, Try.ntmps79
      go_wp2_with fail
      go_quiet (fail)
      go_wp2
      go_ret
      exact ⟨rfl, _, rfl⟩
  · have e : sameB s r xs s' r' ys = false := by simp [sameB, hs]
    rw [e]
    have hs2 : (s == s') = false := by simpa using hs
    clear e hs
    go_enter Try.func79, Try.ntmps79
    go_wp2_with fail
    go_quiet (fail)
    go_wp2
    go_ret
    exact ⟨rfl, _, rfl⟩

set_option maxHeartbeats 2000000 in
theorem lsame {w : World} {g h o : Nat} {a1 a2 d1 d2 : Nat} {v1 v2 u1 u2 : Value} {xs ys xs' ys' : List Int} (c0 : w.cell? ⟨g, o, none⟩ = some v1) (c1 : w.cell? ⟨g, o + 1, none⟩ = some v2) (e0 : w.cell? ⟨h, o, none⟩ = some u1) (e1 : w.cell? ⟨h, o + 1, none⟩ = some u2)
    (h1 : Rd w a1 v1 xs) (h2 : Rd w a2 v2 ys) (h3 : Rd w d1 u1 xs') (h4 : Rd w d2 u2 ys') :
    Calls Try.prog 80 #[.pointer (some ⟨g, o, none⟩), .pointer (some ⟨h, o, none⟩)] w fun e w' => e = .returned (.bool (sameL xs ys xs' ys')) ∧ ∃ m, w' = w.drewN m := by
  have H1 := hid h1
  have H2 := hid h2
  have H3 := hid h3
  have H4 := hid h4
  obtain ⟨ao1, k1, rfl, _, _, _⟩ := h1
  obtain ⟨ao2, k2, rfl, _, _, _⟩ := h2
  obtain ⟨ao3, k3, rfl, _, _, _⟩ := h3
  obtain ⟨ao4, k4, rfl, _, _, _⟩ := h4
  cases hx : eqLB xs xs' with
  | false =>
    have e : sameL xs ys xs' ys' = false := by simp [sameL, hx]
    rw [e]
    have HX := hid hx
    clear e hx
    go_enter Try.func80, Try.ntmps80
    go_wp2_with fail
    go_quiet (first | (go_at_call_of 78 (Value.slice ao1 xs.length k1); refine Calls.quiet_of (specEq (H1.out.keep (FSpec.below_drewN' _ _ _) (Nat.le_refl _)) (H3.out.keep (FSpec.below_drewN' _ _ _) (Nat.le_refl _)) HX.out)))
    go_wp2
    go_ret
    exact ⟨rfl, _, rfl⟩
  | true =>
    obtain ⟨q, hq⟩ : ∃ q, q = eqLB ys ys' := ⟨_, rfl⟩
    have e : sameL xs ys xs' ys' = q := by simp [sameL, hx, hq]
    rw [e]
    have HX := hid hx
    have HQ := hid hq
    clear e hx hq
    go_enter Try.func80, Try.ntmps80
    go_wp2_with fail
    go_quiet (first | (go_at_call_of 78 (Value.slice ao1 xs.length k1); refine Calls.quiet_of (specEq (H1.out.keep (FSpec.below_drewN' _ _ _) (Nat.le_refl _)) (H3.out.keep (FSpec.below_drewN' _ _ _) (Nat.le_refl _)) HX.out)) | (go_at_call_of 78 (Value.slice ao2 ys.length k2); refine Calls.quiet_of (specEq (H2.out.keep (FSpec.below_drewN' _ _ _) (Nat.le_refl _)) (H4.out.keep (FSpec.below_drewN' _ _ _) (Nat.le_refl _)) HQ.out.symm)))
    go_wp2
    go_ret
    exact ⟨rfl, _, rfl⟩

end Go.Proofs.Ytonghkooncmjgaa.DsO
