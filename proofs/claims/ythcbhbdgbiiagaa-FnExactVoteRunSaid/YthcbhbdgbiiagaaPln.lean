/- Plain fields: l04Plain of the model, isPlain of the program (as in XCan, without lives). -/
import Derived.Test.YthcbhbdgbiiagaaFSpec
import Derived.Test.YthcbhbdgbiiagaaFNew
namespace Go.Proofs.Ythcbhbdgbiiagaa.Can
open Go.RowKit Go.Proofs.Ythcbhbdgbiiagaa.Rd Go.Proofs.Ythcbhbdgbiiagaa.Help Go.Proofs.Ythcbhbdgbiiagaa.Ring Go.Proofs.Ythcbhbdgbiiagaa.Small Go.Proofs.Ythcbhbdgbiiagaa.FVal Go.Proofs.Ythcbhbdgbiiagaa.Keep Go.Proofs.Ythcbhbdgbiiagaa.Rule
set_option linter.unusedVariables false
set_option linter.unusedSimpArgs false

theorem below_m {w w' : World} (h : ∃ m, w' = w.drewN m) : Below w.heap.size w w' := by
  obtain ⟨m, rfl⟩ := h
  exact FSpec.below_drewN' _ _ _

set_option maxHeartbeats 4000000 in
theorem l04Plain {w : World} {g : Nat} {s r : Int} {b : Nat} {v : Value} {zs : List Int} (h : Rd w b v zs) (c0 : w.cell? ⟨g, 0, none⟩ = some (.int .i64 s)) (c1 : w.cell? ⟨g, 1, none⟩ = some (.int .i64 r)) (c2 : w.cell? ⟨g, 2, none⟩ = some v) :
    Calls Try.prog 51 #[.pointer (some ⟨g, 0, none⟩)] w fun e w' => e = .returned (.bool (fieldB s r zs && allB zs 2)) ∧ ∃ m, w' = w.drewN m := by
  have HH := hid h
  have HK := hid (And.intro c0 (And.intro c1 c2))
  obtain ⟨ao, cap, rfl, hc, hm, h4⟩ := h
  have hsz : zs.length ≤ cap ∧ cap ≤ 9223372036854775807 := by unfold maxLen at hm; omega
  have H4 := hid h4
  clear hc hm h4 c0 c1 c2
  cases hq : fieldB s r zs with
  | false =>
    have HQ := hid hq
    rw [Bool.false_and]
    clear hq
    go_enter Try.func51, Try.ntmps51
    go_wp2_with fail
    go_at_call 96
    refine (FSpec.is HH.out HK.out.1 HK.out.2.1 HK.out.2.2).mono ?_
    rw [HQ.out]
    rintro e w2 ⟨rfl, hm2⟩
    have HM2 := hid hm2
    clear hm2
    go_wp2
    go_ret
    exact ⟨rfl, HM2.out⟩
  | true =>
    have HQ := hid hq
    rw [Bool.true_and]
    obtain ⟨Q, hQ⟩ : ∃ Q, Q = allB zs 2 := ⟨_, rfl⟩
    rw [← hQ]
    have HQ2 := hid hQ
    have HA : Hid (allB zs 10 = true) := by
      simp only [fieldB, Bool.and_eq_true] at hq
      exact hq.2.2
    clear hq hQ
    go_enter Try.func51, Try.ntmps51
    go_wp2_with fail
    go_at_call 96
    refine (FSpec.is HH.out HK.out.1 HK.out.2.1 HK.out.2.2).mono ?_
    rw [HQ.out]
    rintro e w2 ⟨rfl, hm2⟩
    have HM2 := hid hm2
    clear hm2
    go_wp2
    go_loopw [3] (fun i wr => ∃ p : Nat, p ≤ zs.length ∧ i = .int .i64 p ∧ (∀ j, j < p → zs.getD j 0 ≤ 1) ∧ ∃ m, wr = w.drewN m) (fun i _ => zs.length - (intOf i).toNat)
    case atStart => exact ⟨0, Nat.zero_le _, rfl, fun j hj => by omega, HM2.out⟩
    case round =>
      obtain ⟨p, hp, rfl, hall, m, hwr⟩ := hrel
      have HWR := hid hwr
      have k2 : wr.cell? ⟨g, 2, none⟩ = some (.slice ao zs.length cap) := by rw [hwr]; exact HK.out.2.2
      have HAL := hid hall
      clear hwr hall
      by_cases hlt : p < zs.length
      · obtain ⟨off, hao, hb, hcell⟩ := H4.out (by omega)
        subst hao
        obtain ⟨y, hy⟩ : ∃ y, y = zs.getD p 0 := ⟨_, rfl⟩
        have hcx : wr.cell? ⟨b, off + p, none⟩ = some (.int .i64 y) := by rw [HWR.out, hy]; exact hcell p hlt
        have hpi : (p : Int) < (zs.length : Int) := by omega
        have HY := hid hy
        clear hcell hb hy
        by_cases hy1 : 1 < y
        · have hd : decide (1 < y) = true := decide_eq_true hy1
          have HC : Hid (allB zs 2 = false) := by
            show allB zs 2 = false
            rw [Bool.eq_false_iff]
            intro hc
            have := List.all_eq_true.1 hc y (by rw [HY.out, List.getD_eq_getElem?_getD, List.getElem?_eq_getElem hlt]; exact List.getElem_mem hlt)
            simp [okB] at this
            omega
          clear hy1
          go_wp2
          go_ret
          exact ⟨by rw [HQ2.out, HC.out]; rfl, m, HWR.out⟩
        · have hd : decide (1 < y) = false := decide_eq_false hy1
          have HY1 := hid hy1
          clear hy1
          go_wp2
          go_roundw
          case rel =>
            refine ⟨p + 1, by omega, by go_num, fun j hj => ?_, m, HWR.out⟩
            by_cases hjp : j = p
            · rw [hjp, ← HY.out]; have := HY1.out; omega
            · exact HAL.out j (by omega)
          case measure => simp [intOf]; omega
      · have hpC : zs.length = p := by omega
        have HC : Hid (allB zs 2 = true) := by
          show allB zs 2 = true
          refine List.all_eq_true.2 fun x hx => ?_
          obtain ⟨j, hj, hjx⟩ := List.mem_iff_getElem.1 hx
          have h1 := HAL.out j (by omega)
          have h2 := List.all_eq_true.1 HA.out x hx
          rw [List.getD_eq_getElem?_getD, List.getElem?_eq_getElem hj, Option.getD_some, hjx] at h1
          simp [okB] at h2 ⊢
          omega
        go_wp2
        go_ret
        exact ⟨by rw [HQ2.out, HC.out]; rfl, m, HWR.out⟩

set_option maxHeartbeats 4000000 in
theorem isPlain {w : World} {s r : Int} {b : Nat} {v : Value} {zs : List Int} (h : Rd w b v zs) :
    Calls Try.prog 53 #[ruleV s r v] w fun e w' => e = .returned (.bool (fieldB s r zs && allB zs 2)) ∧ Below w.heap.size w w' := by
  have HH := hid h
  obtain ⟨ao, cap, rfl, hc, hm, _⟩ := h
  clear hc hm
  obtain ⟨qp, hqp⟩ : ∃ qp, qp = allB zs 2 := ⟨_, rfl⟩
  have HQP := hid hqp
  rw [← hqp]
  clear hqp
  cases hq : fieldB s r zs with
  | false =>
    have HQ := hid hq
    rw [Bool.false_and]
    clear hq
    go_enter Try.func53, Try.ntmps53
    go_wp2_with fail
    obtain ⟨w1, hW⟩ : ∃ w1, w1 = w.alloc (Obj.cells #[.int .i64 s, .int .i64 r, .slice ao zs.length cap] 26) := ⟨_, rfl⟩
    obtain ⟨N, hN⟩ : ∃ N, N = w.heap.size := ⟨_, rfl⟩
    have st : Below w.heap.size w w1 ∧ w1.cell? ⟨N, 0, none⟩ = some (.int .i64 s) ∧ w1.cell? ⟨N, 1, none⟩ = some (.int .i64 r) ∧ w1.cell? ⟨N, 2, none⟩ = some (.slice ao zs.length cap) ∧ Rd w1 b (.slice ao zs.length cap) zs ∧ w.heap.size ≤ w1.heap.size := by
      rw [hW, hN]
      exact ⟨below1 _ _, by simp, by simp, by simp, HH.out.keep (below1 _ _) (Nat.le_refl _), by simp⟩
    simp only [← hW, ← hN]
    clear hW hN
    go_at_call 95
    refine (implValid st.2.2.2.2.1).mono ?_
    rw [HQ.out]
    rintro e w2 ⟨rfl, bel⟩
    replace st := next3_1 bel st
    clear bel
    go_wp2
    go_ret
    exact ⟨rfl, st.1⟩
  | true =>
    have HQ := hid hq
    rw [Bool.true_and]
    clear hq
    go_enter Try.func53, Try.ntmps53
    go_wp2_with fail
    obtain ⟨w1, hW⟩ : ∃ w1, w1 = w.alloc (Obj.cells #[.int .i64 s, .int .i64 r, .slice ao zs.length cap] 26) := ⟨_, rfl⟩
    obtain ⟨N, hN⟩ : ∃ N, N = w.heap.size := ⟨_, rfl⟩
    have st : Below w.heap.size w w1 ∧ w1.cell? ⟨N, 0, none⟩ = some (.int .i64 s) ∧ w1.cell? ⟨N, 1, none⟩ = some (.int .i64 r) ∧ w1.cell? ⟨N, 2, none⟩ = some (.slice ao zs.length cap) ∧ Rd w1 b (.slice ao zs.length cap) zs ∧ w.heap.size ≤ w1.heap.size := by
      rw [hW, hN]
      exact ⟨below1 _ _, by simp, by simp, by simp, HH.out.keep (below1 _ _) (Nat.le_refl _), by simp⟩
    simp only [← hW, ← hN]
    clear hW hN
    go_at_call 95
    refine (implValid st.2.2.2.2.1).mono ?_
    rw [HQ.out]
    rintro e w2 ⟨rfl, bel⟩
    replace st := next3_1 bel st
    clear bel
    go_wp2_with fail
    go_at_call 99
    refine (areCellsM st.2.2.2.2.1 (by omega)).mono ?_
    rw [show allB zs (1 + 1) = allB zs 2 from rfl, ← HQP.out]
    rintro e w3 ⟨rfl, bel⟩
    replace st := next3_1 bel st
    clear bel
    go_wp2
    go_ret
    exact ⟨rfl, st.1⟩


end Go.Proofs.Ythcbhbdgbiiagaa.Can
