/- Waves: l07Waves of the model, isWaves of the program. -/
import Derived.Test.YthcbhbdgbiiagaaFSpec
import Derived.Test.YthcbhbdgbiiagaaFNew
namespace Go.Proofs.Ythcbhbdgbiiagaa.Wav
open Go.RowKit Go.Proofs.Ythcbhbdgbiiagaa.Rd Go.Proofs.Ythcbhbdgbiiagaa.Help Go.Proofs.Ythcbhbdgbiiagaa.Ring Go.Proofs.Ythcbhbdgbiiagaa.Small Go.Proofs.Ythcbhbdgbiiagaa.FVal Go.Proofs.Ythcbhbdgbiiagaa.Keep Go.Proofs.Ythcbhbdgbiiagaa.Rule
set_option linter.unusedVariables false
set_option linter.unusedSimpArgs false

theorem below_m {w w' : World} (h : ∃ m, w' = w.drewN m) : Below w.heap.size w w' := by
  obtain ⟨m, rfl⟩ := h
  exact FSpec.below_drewN' _ _ _
/-- Waves with so many states. -/
def waveB (s r : Int) (zs : List Int) (st : Int) : Bool := decide (3 ≤ st ∧ st ≤ 9) && (fieldB s r zs && allB zs st)
theorem wave_parts {s r st : Int} {zs : List Int} (h : waveB s r zs st = true) : (3 ≤ st ∧ st ≤ 9) ∧ fieldB s r zs = true ∧ allB zs st = true := by
  simpa [waveB] using h
theorem wave_nat {s r st : Int} {zs : List Int} (h : waveB s r zs st = true) : (1 ≤ s ∧ s ≤ 24) ∧ 1 ≤ r ∧ r ≤ 24 := by
  have hf := (wave_parts h).2.1
  simp only [fieldB, Bool.and_eq_true] at hf
  have := hf.1
  simp [sidesB] at this; omega
theorem wave_bd {zs : List Int} {st : Int} (h : allB zs st = true) (hst : 3 ≤ st) (j : Nat) : 0 ≤ zs.getD j 0 ∧ zs.getD j 0 ≤ st - 1 := by
  by_cases hj : j < zs.length
  · have := List.all_eq_true.1 h (zs.getD j 0) (by rw [List.getD_eq_getElem?_getD, List.getElem?_eq_getElem hj]; exact List.getElem_mem hj)
    simpa [okB] using this
  · rw [List.getD_eq_getElem?_getD, List.getElem?_eq_none (by omega)]
    simp; omega

theorem specStates {w : World} {n : Int} {q : Bool} (hq : decide (3 ≤ n ∧ n ≤ 9) = q) :
    Calls Try.prog 117 #[.int .i64 n] w fun e w' => e = .returned (.bool q) ∧ w = w' := by
  go_enter Try.func117, Try.ntmps117
  go_wp2_with fail
  go_at_call 55
  refine inB.mono ?_
  rw [hq]
  rintro e w' ⟨rfl, rfl⟩
  go_wp2
  go_ret
  exact ⟨rfl, rfl⟩
theorem implStates {w : World} {n : Int} {q : Bool} (hq : decide (3 ≤ n ∧ n ≤ 9) = q) :
    Calls Try.prog 118 #[.int .i64 n] w fun e w' => e = .returned (.bool q) ∧ w = w' := by
  go_enter Try.func118, Try.ntmps118
  go_wp2_with fail
  go_at_call 79
  refine isFromB.mono ?_
  rw [hq]
  rintro e w' ⟨rfl, rfl⟩
  go_wp2
  go_ret
  exact ⟨rfl, rfl⟩

set_option maxHeartbeats 4000000 in
theorem spec {w : World} {g : Nat} {s r st : Int} {b : Nat} {v : Value} {zs : List Int} (h : Rd w b v zs) (c0 : w.cell? ⟨g, 0, none⟩ = some (.int .i64 s)) (c1 : w.cell? ⟨g, 1, none⟩ = some (.int .i64 r)) (c2 : w.cell? ⟨g, 2, none⟩ = some v) :
    Calls Try.prog 84 #[.pointer (some ⟨g, 0, none⟩), .int .i64 st] w fun e w' => e = .returned (.bool (waveB s r zs st)) ∧ ∃ m, w' = w.drewN m := by
  have HH := hid h
  have HK := hid (And.intro c0 (And.intro c1 c2))
  obtain ⟨ao, cap, rfl, hc, hm, h4⟩ := h
  have hsz : zs.length ≤ cap ∧ cap ≤ 9223372036854775807 := by unfold maxLen at hm; omega
  have H4 := hid h4
  clear hc hm h4 c0 c1 c2
  by_cases hst : 3 ≤ st ∧ st ≤ 9
  rotate_left 1
  · have HS : Hid (decide (3 ≤ st ∧ st ≤ 9) = false) := decide_eq_false hst
    have HE : Hid (waveB s r zs st = false) := by simp only [Hid]; simp [waveB, hst]
    obtain ⟨Q, hQ⟩ : ∃ Q, Q = waveB s r zs st := ⟨_, rfl⟩
    rw [← hQ]
    have HQ := hid hQ
    clear hst hQ
    go_enter Try.func84, Try.ntmps84
    go_wp2_with fail
    go_at_call 117
    refine (specStates HS.out).mono ?_
    rintro e w2 ⟨rfl, rfl⟩
    go_wp2
    go_ret
    exact ⟨by rw [HQ.out, HE.out]; rfl, 0, rfl⟩
  have HS : Hid (decide (3 ≤ st ∧ st ≤ 9) = true) := decide_eq_true hst
  have hst2 : 3 ≤ st ∧ st ≤ 9 := hst
  rw [show waveB s r zs st = (fieldB s r zs && allB zs st) by rw [waveB, decide_eq_true hst, Bool.true_and]]
  clear hst
  cases hq : fieldB s r zs with
  | false =>
    have HQ := hid hq
    rw [Bool.false_and]
    clear hq
    go_enter Try.func84, Try.ntmps84
    go_wp2_with fail
    go_at_call 117
    refine (specStates HS.out).mono ?_
    rintro e w1 ⟨rfl, rfl⟩
    go_wp2_with fail
    go_at_call 96
    refine (FSpec.is HH.out HK.out.1 HK.out.2.1 HK.out.2.2).mono ?_
    rw [HQ.out]
    rintro e w2 ⟨rfl, hm2⟩
    have HM2 := hid hm2
    clear hm2
    go_wp2
    go_ret
    exact ⟨rfl, HM2.out⟩
  | true =>
    have HQ := hid hq
    rw [Bool.true_and]
    obtain ⟨Q, hQ⟩ : ∃ Q, Q = allB zs st := ⟨_, rfl⟩
    rw [← hQ]
    have HQ2 := hid hQ
    have HA : Hid (allB zs 10 = true) := by
      simp only [fieldB, Bool.and_eq_true] at hq
      exact hq.2.2
    clear hq hQ
    go_enter Try.func84, Try.ntmps84
    go_wp2_with fail
    go_at_call 117
    refine (specStates HS.out).mono ?_
    rintro e w1 ⟨rfl, rfl⟩
    go_wp2_with fail
    go_at_call 96
    refine (FSpec.is HH.out HK.out.1 HK.out.2.1 HK.out.2.2).mono ?_
    rw [HQ.out]
    rintro e w2 ⟨rfl, hm2⟩
    have HM2 := hid hm2
    have k2 : w2.cell? ⟨g, 2, none⟩ = some (.slice ao zs.length cap) := by obtain ⟨m, rfl⟩ := hm2; exact HK.out.2.2
    clear hm2
    go_wp2
    clear k2
    go_loopw [19] (fun i wr => ∃ p : Nat, p ≤ zs.length ∧ i = .int .i64 p ∧ (∀ j, j < p → zs.getD j 0 < st) ∧ ∃ m, wr = w.drewN m) (fun i _ => zs.length - (intOf i).toNat)
    case atStart => exact ⟨0, Nat.zero_le _, rfl, fun j hj => by omega, HM2.out⟩
    case round =>
      obtain ⟨p, hp, rfl, hall, m, hwr⟩ := hrel
      have HWR := hid hwr
      have k2 : wr.cell? ⟨g, 2, none⟩ = some (.slice ao zs.length cap) := by rw [hwr]; exact HK.out.2.2
      have HAL := hid hall
      clear hwr hall
      by_cases hlt : p < zs.length
      · obtain ⟨off, hao, hb, hcell⟩ := H4.out (by omega)
        subst hao
        obtain ⟨y, hy⟩ : ∃ y, y = zs.getD p 0 := ⟨_, rfl⟩
        have hcx : wr.cell? ⟨b, off + p, none⟩ = some (.int .i64 y) := by rw [HWR.out, hy]; exact hcell p hlt
        have hpi : (p : Int) < (zs.length : Int) := by omega
        have HY := hid hy
        clear hcell hb hy
        by_cases hy1 : st ≤ y
        · have hd : decide (st ≤ y) = true := decide_eq_true hy1
          have HC : Hid (allB zs st = false) := by
            show allB zs st = false
            rw [Bool.eq_false_iff]
            intro hc
            have := List.all_eq_true.1 hc y (by rw [HY.out, List.getD_eq_getElem?_getD, List.getElem?_eq_getElem hlt]; exact List.getElem_mem hlt)
            simp [okB] at this
            omega
          clear hy1
          go_wp2
          go_ret
          exact ⟨by rw [HQ2.out, HC.out]; rfl, m, HWR.out⟩
        · have hd : decide (st ≤ y) = false := decide_eq_false hy1
          have HY1 := hid hy1
          clear hy1
          go_wp2
          go_roundw
          case rel =>
            refine ⟨p + 1, by omega, by go_num, fun j hj => ?_, m, HWR.out⟩
            by_cases hjp : j = p
            · rw [hjp, ← HY.out]; have := HY1.out; omega
            · exact HAL.out j (by omega)
          case measure => simp [intOf]; omega
      · have hpC : zs.length = p := by omega
        have HC : Hid (allB zs st = true) := by
          show allB zs st = true
          refine List.all_eq_true.2 fun x hx => ?_
          obtain ⟨j, hj, hjx⟩ := List.mem_iff_getElem.1 hx
          have h1 := HAL.out j (by omega)
          have h2 := List.all_eq_true.1 HA.out x hx
          rw [List.getD_eq_getElem?_getD, List.getElem?_eq_getElem hj, Option.getD_some, hjx] at h1
          simp [okB] at h2 ⊢
          omega
        go_wp2
        go_ret
        exact ⟨by rw [HQ2.out, HC.out]; rfl, m, HWR.out⟩

set_option maxHeartbeats 4000000 in
theorem impl {w : World} {s r n : Int} {b : Nat} {v : Value} {zs : List Int} (h : Rd w b v zs) :
    Calls Try.prog 87 #[ruleV s r v, .int .i64 n] w fun e w' => e = .returned (.bool (waveB s r zs n)) ∧ Below w.heap.size w w' := by
  obtain ⟨Q, hQ⟩ : ∃ Q, Q = waveB s r zs n := ⟨_, rfl⟩
  rw [← hQ]
  have HH := hid h
  obtain ⟨ao, cap, rfl, hc, hm, _⟩ := h
  clear hc hm
  obtain ⟨q0, h0⟩ : ∃ q0, decide (3 ≤ n ∧ n ≤ 9) = q0 := ⟨_, rfl⟩
  obtain ⟨q1, h1⟩ : ∃ q1, fieldB s r zs = q1 := ⟨_, rfl⟩
  obtain ⟨q2, h2⟩ : ∃ q2, allB zs n = q2 := ⟨_, rfl⟩
  have HQ : Hid (Q = (q0 && (q1 && q2))) := by simp only [Hid]; rw [hQ, waveB, h0, h1, h2]
  have H0 := hid h0
  have H1 := hid h1
  have H2 := hid h2
  have HN : Hid (q0 = true → -1000 ≤ n ∧ n ≤ 1000000) := by
    intro hq; rw [← h0] at hq; have := of_decide_eq_true hq; omega
  clear hQ h0 h1 h2
  go_enter Try.func87, Try.ntmps87
  go_wp2_with fail
  obtain ⟨w1, hW⟩ : ∃ w1, w1 = w.alloc (Obj.cells #[.int .i64 s, .int .i64 r, .slice ao zs.length cap] 26) := ⟨_, rfl⟩
  obtain ⟨N, hN⟩ : ∃ N, N = w.heap.size := ⟨_, rfl⟩
  have st : Below w.heap.size w w1 ∧ w1.cell? ⟨N, 0, none⟩ = some (.int .i64 s) ∧ w1.cell? ⟨N, 1, none⟩ = some (.int .i64 r) ∧ w1.cell? ⟨N, 2, none⟩ = some (.slice ao zs.length cap) ∧ Rd w1 b (.slice ao zs.length cap) zs ∧ w.heap.size ≤ w1.heap.size := by
    rw [hW, hN]
    exact ⟨below1 _ _, by simp, by simp, by simp, HH.out.keep (below1 _ _) (Nat.le_refl _), by simp⟩
  simp only [← hW, ← hN]
  clear hW hN
  go_at_call 118
  refine (implStates H0.out).mono ?_
  rintro e w2 ⟨rfl, rfl⟩
  cases q0 with
  | false =>
    go_wp2
    go_ret
    exact ⟨by rw [HQ.out]; rfl, st.1⟩
  | true =>
    have d0 := st.2.1
    have d1 := st.2.2.1
    have d2 := st.2.2.2.1
    go_wp2_with fail
    go_at_call 95
    refine (implValid st.2.2.2.2.1).mono ?_
    rw [H1.out]
    rintro e w3 ⟨rfl, bel⟩
    replace st := next3_1 bel st
    clear bel d0 d1 d2
    have d2 := st.2.2.2.1
    cases q1 with
    | false =>
      go_wp2
      go_ret
      exact ⟨by rw [HQ.out]; rfl, st.1⟩
    | true =>
      go_wp2_with fail
      go_at_call 107
      refine (areStates st.2.2.2.2.1 (HN.out trivial)).mono ?_
      rw [H2.out]
      rintro e w4 ⟨rfl, bel⟩
      replace st := next3_1 bel st
      clear bel d2
      go_wp2
      go_ret
      exact ⟨by rw [HQ.out]; rfl, st.1⟩

end Go.Proofs.Ythcbhbdgbiiagaa.Wav
