/- Rules of 2 states: l07Two, isPlainRule. -/
import Derived.Test.YthcbhbdgbiiagaaSpec
import Derived.Test.YthcbhbdgbiiagaaRuleKit
namespace Go.Proofs.Ythcbhbdgbiiagaa.Two
open Go.RowKit Go.Proofs.Ythcbhbdgbiiagaa.Rd Go.Proofs.Ythcbhbdgbiiagaa.Help Go.Proofs.Ythcbhbdgbiiagaa.Ring Go.Proofs.Ythcbhbdgbiiagaa.Small Go.Proofs.Ythcbhbdgbiiagaa.Keep Go.Proofs.Ythcbhbdgbiiagaa.Rule
set_option linter.unusedVariables false
set_option linter.unusedSimpArgs false

def twoB (s r : Int) (zs : List Int) : Bool := validB s r zs && decide (s = 2)
theorem below_m {w w' : World} (h : ∃ m, w' = w.drewN m) : Below w.heap.size w w' := by
  obtain ⟨m, rfl⟩ := h
  exact Spec.below_drewN' _ _ _
theorem two_parts {s r : Int} {zs : List Int} (h : twoB s r zs = true) : s = 2 ∧ (0 ≤ r ∧ r ≤ 2) ∧ (zs.length = 2 ∨ zs.length = 8 ∨ zs.length = 32) ∧ zs.length = 2 ^ (2 * r + 1).toNat ∧ allB zs 2 = true := by
  simp only [twoB, validB, shapeB, Bool.and_eq_true, decide_eq_true_eq] at h
  obtain ⟨⟨hs, hl, ha⟩, rfl⟩ := h
  refine ⟨rfl, by omega, ?_, by exact_mod_cast hl, ha⟩
  rcases (show r = 0 ∨ r = 1 ∨ r = 2 by omega) with rfl | rfl | rfl
  · left; have : ((zs.length : Nat) : Int) = 2 := by rw [hl]; rfl
    omega
  · right; left; have : ((zs.length : Nat) : Int) = 8 := by rw [hl]; rfl
    omega
  · right; right; have : ((zs.length : Nat) : Int) = 32 := by rw [hl]; rfl
    omega

set_option maxHeartbeats 1000000 in
theorem spec {w : World} {g : Nat} {s r : Int} {b : Nat} {v : Value} {zs : List Int} (h : Rd w b v zs) (c0 : w.cell? ⟨g, 0, none⟩ = some (.int .i64 s)) (c1 : w.cell? ⟨g, 1, none⟩ = some (.int .i64 r)) (c2 : w.cell? ⟨g, 2, none⟩ = some v) :
    Calls Try.prog 65 #[.pointer (some ⟨g, 0, none⟩)] w fun e w' => e = .returned (.bool (twoB s r zs)) ∧ ∃ m, w' = w.drewN m := by
  obtain ⟨Q, hQ⟩ : ∃ Q, Q = twoB s r zs := ⟨_, rfl⟩
  rw [← hQ]
  have HQ := hid hQ
  have HH := hid h
  have HK := hid (And.intro c0 (And.intro c1 c2))
  clear hQ h c0 c1 c2
  cases hv : validB s r zs with
  | false =>
    have HV := hid hv
    have HR : Hid (twoB s r zs = false) := by simp only [Hid]; simp [twoB, hv]
    clear hv
    go_enter Try.func65, Try.ntmps65
    go_wp2_with fail
    go_at_call 70
    refine (Spec.is HH.out HK.out.1 HK.out.2.1 HK.out.2.2).mono ?_
    rw [HV.out]
    rintro e w' ⟨rfl, hm⟩
    have HM := hid hm
    clear hm
    go_wp2
    go_ret
    exact ⟨by rw [HQ.out, HR.out]; rfl, HM.out⟩
  | true =>
    have HV := hid hv
    by_cases h2 : s = 2
    · subst h2
      have HR : Hid (twoB 2 r zs = true) := by simp only [Hid]; simp [twoB, hv]
      clear hv
      go_enter Try.func65, Try.ntmps65
      go_wp2_with fail
      go_at_call 70
      refine (Spec.is HH.out HK.out.1 HK.out.2.1 HK.out.2.2).mono ?_
      rw [HV.out]
      rintro e w' ⟨rfl, hm⟩
      have c0 : w'.cell? ⟨g, 0, none⟩ = some (.int .i64 2) := (below_m hm).cell (World.block_lt_of_cell? _ _ HK.out.1) |>.trans HK.out.1
      have HM := hid hm
      clear hm
      go_wp2
      go_ret
      exact ⟨by rw [HQ.out, HR.out]; rfl, HM.out⟩
    · have HR : Hid (twoB s r zs = false) := by simp only [Hid]; simp [twoB, h2]
      have hne : (s == 2) = false := by simpa using h2
      clear hv h2
      go_enter Try.func65, Try.ntmps65
      go_wp2_with fail
      go_at_call 70
      refine (Spec.is HH.out HK.out.1 HK.out.2.1 HK.out.2.2).mono ?_
      rw [HV.out]
      rintro e w' ⟨rfl, hm⟩
      have c0 : w'.cell? ⟨g, 0, none⟩ = some (.int .i64 s) := (below_m hm).cell (World.block_lt_of_cell? _ _ HK.out.1) |>.trans HK.out.1
      have HM := hid hm
      clear hm
      go_wp2
      go_ret
      exact ⟨by rw [HQ.out, HR.out]; rfl, HM.out⟩

set_option maxHeartbeats 1000000 in
theorem impl {w : World} {s r : Int} {b : Nat} {v : Value} {zs : List Int} (h : Rd w b v zs) :
    Calls Try.prog 67 #[ruleV s r v] w fun e w' => e = .returned (.bool (twoB s r zs)) ∧ Below w.heap.size w w' := by
  obtain ⟨Q, hQ⟩ : ∃ Q, Q = twoB s r zs := ⟨_, rfl⟩
  rw [← hQ]
  have HQ := hid hQ
  have HH := hid h
  obtain ⟨ao, cap, rfl, hc, hm, _⟩ := h
  clear hQ hc hm
  have st : ∀ q : Bool, validB s r zs = q → Calls Try.prog 67 #[ruleV s r (.slice ao zs.length cap)] w fun e w' => e = .returned (.bool Q) ∧ Below w.heap.size w w' := by
    intro q hq
    have HV := hid hq
    by_cases h2 : s = 2
    · have HR : Hid (twoB s r zs = q) := by simp only [Hid]; rw [twoB, hq, decide_eq_true h2, Bool.and_true]
      have hne : (s == 2) = true := by simpa using h2
      clear hq h2
      go_enter Try.func67, Try.ntmps67
      go_wp2_with fail
      obtain ⟨w1, hW⟩ : ∃ w1, w1 = w.alloc (Obj.cells #[.int .i64 s, .int .i64 r, .slice ao zs.length cap] 44) := ⟨_, rfl⟩
      obtain ⟨N, hN⟩ : ∃ N, N = w.heap.size := ⟨_, rfl⟩
      have bel1 : Below w.heap.size w w1 := by rw [hW]; exact below1 _ _
      have c0 : w1.cell? ⟨N, 0, none⟩ = some (.int .i64 s) := by rw [hW, hN]; simp
      simp only [← hW, ← hN]
      clear hW hN
      have HB := hid bel1
      have HC := hid c0
      clear bel1 c0
      go_at_call 72
      refine (implValid (HH.out.keep HB.out (Nat.le_refl _))).mono ?_
      rw [HV.out]
      rintro e w2 ⟨rfl, bel⟩
      have c0 : w2.cell? ⟨N, 0, none⟩ = some (.int .i64 s) := bel.cell (World.block_lt_of_cell? _ _ HC.out) |>.trans HC.out
      have HB2 := hid (HB.out.trans (bel.mono HB.out.size))
      clear bel
      cases q with
      | false =>
        go_wp2
        go_ret
        exact ⟨by rw [HQ.out, HR.out]; rfl, HB2.out⟩
      | true =>
        go_wp2
        go_ret
        exact ⟨by rw [HQ.out, HR.out]; rfl, HB2.out⟩
    · have HR : Hid (twoB s r zs = false) := by simp only [Hid]; simp [twoB, h2]
      have hne : (s == 2) = false := by simpa using h2
      clear hq h2
      go_enter Try.func67, Try.ntmps67
      go_wp2_with fail
      obtain ⟨w1, hW⟩ : ∃ w1, w1 = w.alloc (Obj.cells #[.int .i64 s, .int .i64 r, .slice ao zs.length cap] 44) := ⟨_, rfl⟩
      obtain ⟨N, hN⟩ : ∃ N, N = w.heap.size := ⟨_, rfl⟩
      have bel1 : Below w.heap.size w w1 := by rw [hW]; exact below1 _ _
      have c0 : w1.cell? ⟨N, 0, none⟩ = some (.int .i64 s) := by rw [hW, hN]; simp
      simp only [← hW, ← hN]
      clear hW hN
      have HB := hid bel1
      have HC := hid c0
      clear bel1 c0
      go_at_call 72
      refine (implValid (HH.out.keep HB.out (Nat.le_refl _))).mono ?_
      rw [HV.out]
      rintro e w2 ⟨rfl, bel⟩
      have c0 : w2.cell? ⟨N, 0, none⟩ = some (.int .i64 s) := bel.cell (World.block_lt_of_cell? _ _ HC.out) |>.trans HC.out
      have HB2 := hid (HB.out.trans (bel.mono HB.out.size))
      clear bel
      cases q with
      | false =>
        go_wp2
        go_ret
        exact ⟨by rw [HQ.out, HR.out]; rfl, HB2.out⟩
      | true =>
        go_wp2
        go_ret
        exact ⟨by rw [HQ.out, HR.out]; rfl, HB2.out⟩
  exact st _ rfl

end Go.Proofs.Ythcbhbdgbiiagaa.Two
