/- MajorityOf of both sides. -/
import Derived.Test.YthcbhbdgbiiagaaDigP
namespace Go.Proofs.Ythcbhbdgbiiagaa.Maj
open Go.RowKit Go.Proofs.Ythcbhbdgbiiagaa.Rd Go.Proofs.Ythcbhbdgbiiagaa.Help Go.Proofs.Ythcbhbdgbiiagaa.Ring Go.Proofs.Ythcbhbdgbiiagaa.Small Go.Proofs.Ythcbhbdgbiiagaa.Dig Go.Proofs.Ythcbhbdgbiiagaa.DigP
set_option linter.unusedVariables false
set_option linter.unusedSimpArgs false

/-- The state of most cells. -/
def majL (zs : List Int) : Int := if (zs.length : Int) < 2 * sumL zs then 1 else 0
def majB (zs : List Int) : Bool := isRingB zs 2 && decide (zs.length % 2 = 1)
theorem ring2 {zs : List Int} (h : isRingB zs 2 = true) : allB zs 2 = true ∧ 1 ≤ zs.length ∧ zs.length ≤ 64 := by
  simp [isRingB, ringB] at h; exact ⟨h.1, h.2.1, h.2.2⟩
theorem ring_eq (zs : List Int) : isRingB zs 2 = ringB zs 2 := by simp [isRingB]

set_option maxHeartbeats 1000000 in
theorem specMost {w : World} {b : Nat} {v : Value} {zs : List Int} (h : Rd w b v zs) (hl : zs.length ≤ 64) (ha : allB zs 2 = true) :
    Calls Try.prog 62 #[v] w fun e w' => e = .returned (.int .i64 (majL zs)) ∧ w = w' := by
  have HNB : Hid (∀ k, 0 ≤ sumL (zs.take k) ∧ sumL (zs.take k) ≤ 20000) := by
    intro k
    have h1 := sumL_take_bd (s := 2) (by omega) ha k
    omega
  have HCB : Hid (∀ k, k < zs.length → 0 ≤ zs.getD k 0 ∧ zs.getD k 0 ≤ 1) := fun k hk => all_get ha hk
  obtain ⟨M, hM⟩ : ∃ M, M = majL zs := ⟨_, rfl⟩
  rw [← hM]
  have HM := hid hM
  clear hM
  obtain ⟨ao, cap, rfl, hc, hm, h4⟩ := h
  obtain ⟨n, hn⟩ : ∃ n, n = zs.length := ⟨_, rfl⟩
  rw [← hn] at hc h4 hl HCB ⊢
  have Hn := hid hn
  clear hn hc hm ha
  go_enter Try.func62, Try.ntmps62
  go_wp2
  go_loop [3, 4, 7] (fun x y i => ∃ k : Nat, k ≤ n ∧ i = .int .i64 k ∧ x = .int .i64 (sumL (zs.take k))) (fun x y i => n - (intOf i).toNat)
  case atStart => exact ⟨0, Nat.zero_le _, rfl, rfl⟩
  case round =>
    obtain ⟨k, hk, rfl, rfl⟩ := hrel
    by_cases hlt : k < n
    · obtain ⟨off, rfl, hb, hcell⟩ := h4 (by omega)
      have hnx := sumL_take zs k (by have := Hn.out; omega)
      obtain ⟨x1, x2⟩ := HNB.out k
      obtain ⟨c1, c2⟩ := HCB.out k hlt
      have hcx := hcell k hlt
      obtain ⟨X, hX⟩ : ∃ X, X = sumL (zs.take k) := ⟨_, rfl⟩
      obtain ⟨Y, hY⟩ : ∃ Y, Y = zs.getD k 0 := ⟨_, rfl⟩
      rw [← hX] at x1 x2 hnx ⊢
      rw [← hY] at c1 c2 hcx hnx
      have HNX := hid hnx
      clear hX hY hnx hcell
      rcases (show Y = 1 ∨ Y = 0 by omega) with rfl | rfl
      · go_wp2
        go_round
        case rel => exact ⟨k + 1, by omega, by go_num, by rw [HNX.out]⟩
        case measure => simp [intOf]; omega
      · go_wp2
        go_round
        case rel => exact ⟨k + 1, by omega, by go_num, by rw [HNX.out]; simp⟩
        case measure => simp [intOf]; omega
    · have hkn : k = n := by omega
      subst hkn
      have e : zs.take k = zs := by rw [Hn.out]; exact List.take_length
      rw [e]
      have hb := HNB.out k
      rw [e] at hb
      obtain ⟨X, hX⟩ : ∃ X, X = sumL zs := ⟨_, rfl⟩
      have HX := hid hX
      rw [← hX] at hb ⊢
      clear hX
      by_cases hg : (k : Int) < 2 * X
      · have hd : decide ((k : Int) < 2 * X) = true := decide_eq_true hg
        have HG := hid hg
        clear hg
        go_wp2
        go_ret
        exact ⟨by rw [HM.out, majL, ← Hn.out, ← HX.out, if_pos HG.out]; rfl, rfl⟩
      · have hd : decide ((k : Int) < 2 * X) = false := decide_eq_false hg
        have HG := hid hg
        clear hg
        go_wp2
        go_ret
        exact ⟨by rw [HM.out, majL, ← Hn.out, ← HX.out, if_neg (by have := HG.out; omega)]; rfl, rfl⟩

set_option maxHeartbeats 1000000 in
theorem specOk {w : World} {b : Nat} {v : Value} {zs : List Int} (h : Rd w b v zs) :
    Calls Try.prog 22 #[v] w fun e w' => e = .returned (.tuple #[.int .i64 (if majB zs = true then majL zs else 0), .bool (majB zs)]) ∧ Below w.heap.size w w' := by
  obtain ⟨Q, hQ⟩ : ∃ Q, Q = (if majB zs = true then majL zs else 0) := ⟨_, rfl⟩
  obtain ⟨B, hB0⟩ : ∃ B, B = majB zs := ⟨_, rfl⟩
  rw [← hQ, ← hB0]
  have HQ := hid hQ
  have HB0 := hid hB0
  clear hQ hB0
  have HH := hid h
  obtain ⟨ao, cap, rfl, hc, hm, _⟩ := h
  obtain ⟨n, hn⟩ : ∃ n, n = zs.length := ⟨_, rfl⟩
  have hb64 : n ≤ cap ∧ cap ≤ 9223372036854775807 := by unfold maxLen at hm; omega
  rw [← hn] at hc HH ⊢
  have Hn := hid hn
  clear hn hc hm
  cases hr : isRingB zs 2 with
  | false =>
    have HR : Hid (ringB zs 2 = false) := by rw [← ring_eq]; exact hr
    have HB : Hid (majB zs = false) := by simp only [Hid]; simp [majB, hr]
    clear hr
    go_enter Try.func22, Try.ntmps22
    go_wp2_with fail
    go_at_call 61
    refine (specL02Ring HH.out (by omega)).mono ?_
    rw [HR.out]
    rintro e w1 ⟨rfl, rfl⟩
    go_wp2
    go_ret2
    exact ⟨by rw [HQ.out, HB0.out, HB.out]; rfl, Below.refl _ _⟩
  | true =>
    have HR : Hid (ringB zs 2 = true) := by rw [← ring_eq]; exact hr
    have HP := hid (ring2 hr)
    have hn64 : n ≤ 64 := by rw [Hn.out]; exact (ring2 hr).2.2
    by_cases hm : n % 2 = 1
    · have hmod : (n : Int) % 2 = 1 := by omega
      have hmt : (n : Int).tmod 2 = 1 := by rw [Int.tmod_eq_emod_of_nonneg (by omega)]; exact hmod
      have HB : Hid (majB zs = true) := by simp only [Hid]; simp [majB, hr, ← Hn.out, hm]
      clear hr hm
      go_enter Try.func22, Try.ntmps22
      go_wp2_with fail
      go_at_call 61
      refine (specL02Ring HH.out (by omega)).mono ?_
      rw [HR.out]
      rintro e w1 ⟨rfl, rfl⟩
      go_wp2_with fail
      go_at_call 62
      refine (specMost HH.out HP.out.2.2 HP.out.1).mono ?_
      rintro e w1 ⟨rfl, rfl⟩
      go_wp2
      go_ret2
      exact ⟨by rw [HQ.out, HB0.out, HB.out]; rfl, Below.refl _ _⟩
    · have hmod : (n : Int) % 2 = 0 := by omega
      have hmt : (n : Int).tmod 2 = 0 := by rw [Int.tmod_eq_emod_of_nonneg (by omega)]; exact hmod
      have HB : Hid (majB zs = false) := by simp only [Hid]; simp [majB, hr, ← Hn.out, hm]
      clear hr hm
      go_enter Try.func22, Try.ntmps22
      go_wp2_with fail
      go_at_call 61
      refine (specL02Ring HH.out (by omega)).mono ?_
      rw [HR.out]
      rintro e w1 ⟨rfl, rfl⟩
      go_wp2
      go_ret2
      exact ⟨by rw [HQ.out, HB0.out, HB.out]; rfl, Below.refl _ _⟩

set_option maxHeartbeats 1000000 in
theorem implOk {w : World} {b : Nat} {v : Value} {zs : List Int} (h : Rd w b v zs) :
    Calls Try.prog 24 #[v] w fun e w' => e = .returned (.tuple #[.int .i64 (if majB zs = true then majL zs else 0), .bool (majB zs)]) ∧ Below w.heap.size w w' := by
  obtain ⟨Q, hQ⟩ : ∃ Q, Q = (if majB zs = true then majL zs else 0) := ⟨_, rfl⟩
  obtain ⟨B, hB0⟩ : ∃ B, B = majB zs := ⟨_, rfl⟩
  rw [← hQ, ← hB0]
  have HQ := hid hQ
  have HB0 := hid hB0
  clear hQ hB0
  have HH := hid h
  obtain ⟨ao, cap, rfl, hc, hm, _⟩ := h
  obtain ⟨n, hn⟩ : ∃ n, n = zs.length := ⟨_, rfl⟩
  have hb64 : n ≤ cap ∧ cap ≤ 9223372036854775807 := by unfold maxLen at hm; omega
  rw [← hn] at hc HH ⊢
  have Hn := hid hn
  clear hn hc hm
  cases hr : isRingB zs 2 with
  | false =>
    have HR := hid hr
    have HB : Hid (majB zs = false) := by simp only [Hid]; simp [majB, hr]
    clear hr
    go_enter Try.func24, Try.ntmps24
    go_wp2_with fail
    go_at_call 63
    refine (implIsRing HH.out).mono ?_
    rw [HR.out]
    rintro e w1 ⟨rfl, bel⟩
    have HBel := hid bel
    clear bel
    go_wp2
    go_ret2
    exact ⟨by rw [HQ.out, HB0.out, HB.out]; rfl, HBel.out⟩
  | true =>
    have HR := hid hr
    have HP := hid (ring2 hr)
    have hn64 : n ≤ 64 := by rw [Hn.out]; exact (ring2 hr).2.2
    by_cases hm : n % 2 = 1
    · have hmod : (n : Int) % 2 = 1 := by omega
      have hmt : (n : Int).tmod 2 = 1 := by rw [Int.tmod_eq_emod_of_nonneg (by omega)]; exact hmod
      have HB : Hid (majB zs = true) := by simp only [Hid]; simp [majB, hr, ← Hn.out, hm]
      have hsb := sumL_bd (s := 2) (by omega) HP.out.1
      clear hr hm
      obtain ⟨X, hX⟩ : ∃ X, X = sumL zs := ⟨_, rfl⟩
      have HX := hid hX
      rw [← hX, ← Hn.out] at hsb
      clear hX
      go_enter Try.func24, Try.ntmps24
      go_wp2_with fail
      go_at_call 63
      refine (implIsRing HH.out).mono ?_
      rw [HR.out]
      rintro e w1 ⟨rfl, bel⟩
      have HBel := hid bel
      clear bel
      go_wp2_with fail
      go_at_call 64
      refine (implSum (s := 2) (HH.out.keep HBel.out (Nat.le_refl _)) (by omega) (by have := HP.out.2.2; omega) HP.out.1).mono ?_
      rw [← HX.out]
      rintro e w2 ⟨rfl, rfl⟩
      by_cases hg : (n : Int) < 2 * X
      · have hd : decide ((n : Int) < 2 * X) = true := decide_eq_true hg
        have HG := hid hg
        clear hg
        go_wp2
        go_ret2
        exact ⟨by rw [HQ.out, HB0.out, HB.out, if_pos rfl, majL, ← Hn.out, ← HX.out, if_pos HG.out]; rfl, HBel.out⟩
      · have hd : decide ((n : Int) < 2 * X) = false := decide_eq_false hg
        have HG := hid hg
        clear hg
        go_wp2
        go_ret2
        exact ⟨by rw [HQ.out, HB0.out, HB.out, if_pos rfl, majL, ← Hn.out, ← HX.out, if_neg (by have := HG.out; omega)]; rfl, HBel.out⟩
    · have hmod : (n : Int) % 2 = 0 := by omega
      have hmt : (n : Int).tmod 2 = 0 := by rw [Int.tmod_eq_emod_of_nonneg (by omega)]; exact hmod
      have HB : Hid (majB zs = false) := by simp only [Hid]; simp [majB, hr, ← Hn.out, hm]
      clear hr hm
      go_enter Try.func24, Try.ntmps24
      go_wp2_with fail
      go_at_call 63
      refine (implIsRing HH.out).mono ?_
      rw [HR.out]
      rintro e w1 ⟨rfl, bel⟩
      have HBel := hid bel
      clear bel
      go_wp2
      go_ret2
      exact ⟨by rw [HQ.out, HB0.out, HB.out]; rfl, HBel.out⟩

end Go.Proofs.Ythcbhbdgbiiagaa.Maj
