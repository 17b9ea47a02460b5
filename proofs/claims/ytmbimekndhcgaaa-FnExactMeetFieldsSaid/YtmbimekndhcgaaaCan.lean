/- Which lives have steps of which fields, on both sides. -/
import Derived.Test.YtmbimekndhcgaaaLf
import Derived.Test.YtmbimekndhcgaaaLVal
import Derived.Test.YtmbimekndhcgaaaFSpec
namespace Go.Proofs.Ytmbimekndhcgaaa.Can
open Go.RowKit Go.Proofs.Ytmbimekndhcgaaa.Rd Go.Proofs.Ytmbimekndhcgaaa.Help Go.Proofs.Ytmbimekndhcgaaa.Ring Go.Proofs.Ytmbimekndhcgaaa.Small Go.Proofs.Ytmbimekndhcgaaa.FVal Go.Proofs.Ytmbimekndhcgaaa.Keep Go.Proofs.Ytmbimekndhcgaaa.Rule Go.Proofs.Ytmbimekndhcgaaa.Grow Go.Proofs.Ytmbimekndhcgaaa.Lf
set_option linter.unusedVariables false
set_option linter.unusedSimpArgs false

theorem plain_eq {zs : List Int} : plainB zs = allB zs 2 := by
  unfold plainB allB
  congr 1
def canB (xs ys : List Int) (s r : Int) (zs : List Int) : Bool := LVal.lifeB xs ys && (fieldB s r zs && allB zs 2)
theorem can_parts {xs ys : List Int} {s r : Int} {zs : List Int} (h : canB xs ys s r zs = true) : LVal.neighB xs = true ∧ LVal.neighB ys = true ∧ fieldB s r zs = true ∧ plainB zs = true := by
  rw [plain_eq]
  simp only [canB, LVal.lifeB, Bool.and_eq_true] at h
  exact ⟨h.1.1, h.1.2, h.2.1, h.2.2⟩
theorem below_m {w w' : World} (h : ∃ m, w' = w.drewN m) : Below w.heap.size w w' := by
  obtain ⟨m, rfl⟩ := h
  exact FSpec.below_drewN' _ _ _

set_option maxHeartbeats 4000000 in
theorem l04Plain {w : World} {g : Nat} {s r : Int} {b : Nat} {v : Value} {zs : List Int} (h : Rd w b v zs) (c0 : w.cell? ⟨g, 0, none⟩ = some (.int .i64 s)) (c1 : w.cell? ⟨g, 1, none⟩ = some (.int .i64 r)) (c2 : w.cell? ⟨g, 2, none⟩ = some v) :
    Calls Try.prog 49 #[.pointer (some ⟨g, 0, none⟩)] w fun e w' => e = .returned (.bool (fieldB s r zs && allB zs 2)) ∧ ∃ m, w' = w.drewN m := by
  have HH := hid h
  have HK := hid (And.intro c0 (And.intro c1 c2))
  obtain ⟨ao, cap, rfl, hc, hm, h4⟩ := h
  have hsz : zs.length ≤ cap ∧ cap ≤ 9223372036854775807 := by unfold maxLen at hm; omega
  have H4 := hid h4
  clear hc hm h4 c0 c1 c2
  cases hq : fieldB s r zs with
  | false =>
    have HQ := hid hq
    rw [Bool.false_and]
    clear hq
    go_enter Try.func49, Try.ntmps49
    go_wp2_with fail
    go_at_call 43
    refine (FSpec.is HH.out HK.out.1 HK.out.2.1 HK.out.2.2).mono ?_
    rw [HQ.out]
    rintro e w2 ⟨rfl, hm2⟩
    have HM2 := hid hm2
    clear hm2
    go_wp2
    go_ret
    exact ⟨rfl, HM2.out⟩
  | true =>
    have HQ := hid hq
    rw [Bool.true_and]
    obtain ⟨Q, hQ⟩ : ∃ Q, Q = allB zs 2 := ⟨_, rfl⟩
    rw [← hQ]
    have HQ2 := hid hQ
    have HA : Hid (allB zs 10 = true) := by
      simp only [fieldB, Bool.and_eq_true] at hq
      exact hq.2.2
    clear hq hQ
    go_enter Try.func49, Try.ntmps49
    go_wp2_with fail
    go_at_call 43
    refine (FSpec.is HH.out HK.out.1 HK.out.2.1 HK.out.2.2).mono ?_
    rw [HQ.out]
    rintro e w2 ⟨rfl, hm2⟩
    have HM2 := hid hm2
    clear hm2
    go_wp2
    go_loopw [3] (fun i wr => ∃ p : Nat, p ≤ zs.length ∧ i = .int .i64 p ∧ (∀ j, j < p → zs.getD j 0 ≤ 1) ∧ ∃ m, wr = w.drewN m) (fun i _ => zs.length - (intOf i).toNat)
    case atStart => exact ⟨0, Nat.zero_le _, rfl, fun j hj => by omega, HM2.out⟩
    case round =>
      obtain ⟨p, hp, rfl, hall, m, hwr⟩ := hrel
      have HWR := hid hwr
      have k2 : wr.cell? ⟨g, 2, none⟩ = some (.slice ao zs.length cap) := by rw [hwr]; exact HK.out.2.2
      have HAL := hid hall
      clear hwr hall
      by_cases hlt : p < zs.length
      · obtain ⟨off, hao, hb, hcell⟩ := H4.out (by omega)
        subst hao
        obtain ⟨y, hy⟩ : ∃ y, y = zs.getD p 0 := ⟨_, rfl⟩
        have hcx : wr.cell? ⟨b, off + p, none⟩ = some (.int .i64 y) := by rw [HWR.out, hy]; exact hcell p hlt
        have hpi : (p : Int) < (zs.length : Int) := by omega
        have HY := hid hy
        clear hcell hb hy
        by_cases hy1 : 1 < y
        · have hd : decide (1 < y) = true := decide_eq_true hy1
          have HC : Hid (allB zs 2 = false) := by
            show allB zs 2 = false
            rw [Bool.eq_false_iff]
            intro hc
            have := List.all_eq_true.1 hc y (by rw [HY.out, List.getD_eq_getElem?_getD, List.getElem?_eq_getElem hlt]; exact List.getElem_mem hlt)
            simp [okB] at this
            omega
          clear hy1
          go_wp2
          go_ret
          exact ⟨by rw [HQ2.out, HC.out]; rfl, m, HWR.out⟩
        · have hd : decide (1 < y) = false := decide_eq_false hy1
          have HY1 := hid hy1
          clear hy1
          go_wp2
          go_roundw
          case rel =>
            refine ⟨p + 1, by omega, by go_num, fun j hj => ?_, m, HWR.out⟩
            by_cases hjp : j = p
            · rw [hjp, ← HY.out]; have := HY1.out; omega
            · exact HAL.out j (by omega)
          case measure => simp [intOf]; omega
      · have hpC : zs.length = p := by omega
        have HC : Hid (allB zs 2 = true) := by
          show allB zs 2 = true
          refine List.all_eq_true.2 fun x hx => ?_
          obtain ⟨j, hj, hjx⟩ := List.mem_iff_getElem.1 hx
          have h1 := HAL.out j (by omega)
          have h2 := List.all_eq_true.1 HA.out x hx
          rw [List.getD_eq_getElem?_getD, List.getElem?_eq_getElem hj, Option.getD_some, hjx] at h1
          simp [okB] at h2 ⊢
          omega
        go_wp2
        go_ret
        exact ⟨by rw [HQ2.out, HC.out]; rfl, m, HWR.out⟩

set_option maxHeartbeats 4000000 in
theorem l04Can {w : World} {g N b1 b2 b : Nat} {s r : Int} {v1 v2 v : Value} {xs ys zs : List Int} (l0 : w.cell? ⟨g, 0, none⟩ = some v1) (l1 : w.cell? ⟨g, 1, none⟩ = some v2) (h1 : Rd w b1 v1 xs) (h2 : Rd w b2 v2 ys)
    (h : Rd w b v zs) (c0 : w.cell? ⟨N, 0, none⟩ = some (.int .i64 s)) (c1 : w.cell? ⟨N, 1, none⟩ = some (.int .i64 r)) (c2 : w.cell? ⟨N, 2, none⟩ = some v) :
    Calls Try.prog 70 #[.pointer (some ⟨g, 0, none⟩), .pointer (some ⟨N, 0, none⟩)] w fun e w' => e = .returned (.bool (canB xs ys s r zs)) ∧ ∃ m, w' = w.drewN m := by
  have H1 := hid h1
  have H2 := hid h2
  have HH := hid h
  have HK := hid (And.intro c0 (And.intro c1 c2))
  have HL := hid (And.intro l0 l1)
  clear l0 l1 h1 h2 h c0 c1 c2
  cases hx : LVal.lifeB xs ys with
  | false =>
    have e : canB xs ys s r zs = false := by simp [canB, hx]
    rw [e]
    have HX := hid hx
    clear e hx
    go_enter Try.func70, Try.ntmps70
    go_wp2_with fail
    go_at_call 63
    refine (LVal.l04Life HL.out.1 HL.out.2 H1.out H2.out).mono ?_
    rw [HX.out]
    rintro e w2 ⟨rfl, m, rfl⟩
    go_wp2
    go_ret
    exact ⟨rfl, m, rfl⟩
  | true =>
    obtain ⟨q, hq⟩ : ∃ q, q = (fieldB s r zs && allB zs 2) := ⟨_, rfl⟩
    have e : canB xs ys s r zs = q := by simp [canB, hx, hq]
    rw [e]
    have HX := hid hx
    have HQ := hid hq
    clear e hx hq
    go_enter Try.func70, Try.ntmps70
    go_wp2_with fail
    go_at_call 63
    refine (LVal.l04Life HL.out.1 HL.out.2 H1.out H2.out).mono ?_
    rw [HX.out]
    rintro e w2 ⟨rfl, m, hw2⟩
    have HW := hid hw2
    have HK2 : Hid (w2.cell? ⟨N, 0, none⟩ = some (.int .i64 s) ∧ w2.cell? ⟨N, 1, none⟩ = some (.int .i64 r) ∧ w2.cell? ⟨N, 2, none⟩ = some v) := by simp only [Hid]; rw [hw2]; exact HK.out
    have H3 : Hid (Rd w2 b v zs) := by simp only [Hid]; rw [hw2]; exact HH.out.keep (FSpec.below_drewN' _ _ _) (Nat.le_refl _)
    clear hw2
    go_wp2_with fail
    go_at_call 49
    refine (l04Plain H3.out HK2.out.1 HK2.out.2.1 HK2.out.2.2).mono ?_
    rw [← HQ.out]
    rintro e w3 ⟨rfl, m3, hw3⟩
    have HW3 := hid hw3
    clear hw3
    go_wp2
    go_ret
    exact ⟨rfl, m + m3, by rw [HW3.out, HW.out, World.drewN_drewN]⟩

set_option maxHeartbeats 4000000 in
theorem isPlain {w : World} {s r : Int} {b : Nat} {v : Value} {zs : List Int} (h : Rd w b v zs) :
    Calls Try.prog 53 #[ruleV s r v] w fun e w' => e = .returned (.bool (fieldB s r zs && allB zs 2)) ∧ Below w.heap.size w w' := by
  have HH := hid h
  obtain ⟨ao, cap, rfl, hc, hm, _⟩ := h
  clear hc hm
  obtain ⟨qp, hqp⟩ : ∃ qp, qp = allB zs 2 := ⟨_, rfl⟩
  have HQP := hid hqp
  rw [← hqp]
  clear hqp
  cases hq : fieldB s r zs with
  | false =>
    have HQ := hid hq
    rw [Bool.false_and]
    clear hq
    go_enter Try.func53, Try.ntmps53
    go_wp2_with fail
    obtain ⟨w1, hW⟩ : ∃ w1, w1 = w.alloc (Obj.cells #[.int .i64 s, .int .i64 r, .slice ao zs.length cap] 26) := ⟨_, rfl⟩
    obtain ⟨N, hN⟩ : ∃ N, N = w.heap.size := ⟨_, rfl⟩
    have st : Below w.heap.size w w1 ∧ w1.cell? ⟨N, 0, none⟩ = some (.int .i64 s) ∧ w1.cell? ⟨N, 1, none⟩ = some (.int .i64 r) ∧ w1.cell? ⟨N, 2, none⟩ = some (.slice ao zs.length cap) ∧ Rd w1 b (.slice ao zs.length cap) zs ∧ w.heap.size ≤ w1.heap.size := by
      rw [hW, hN]
      exact ⟨below1 _ _, by simp, by simp, by simp, HH.out.keep (below1 _ _) (Nat.le_refl _), by simp⟩
    simp only [← hW, ← hN]
    clear hW hN
    go_at_call 46
    refine (implValid st.2.2.2.2.1).mono ?_
    rw [HQ.out]
    rintro e w2 ⟨rfl, bel⟩
    replace st := next3_1 bel st
    clear bel
    go_wp2
    go_ret
    exact ⟨rfl, st.1⟩
  | true =>
    have HQ := hid hq
    rw [Bool.true_and]
    clear hq
    go_enter Try.func53, Try.ntmps53
    go_wp2_with fail
    obtain ⟨w1, hW⟩ : ∃ w1, w1 = w.alloc (Obj.cells #[.int .i64 s, .int .i64 r, .slice ao zs.length cap] 26) := ⟨_, rfl⟩
    obtain ⟨N, hN⟩ : ∃ N, N = w.heap.size := ⟨_, rfl⟩
    have st : Below w.heap.size w w1 ∧ w1.cell? ⟨N, 0, none⟩ = some (.int .i64 s) ∧ w1.cell? ⟨N, 1, none⟩ = some (.int .i64 r) ∧ w1.cell? ⟨N, 2, none⟩ = some (.slice ao zs.length cap) ∧ Rd w1 b (.slice ao zs.length cap) zs ∧ w.heap.size ≤ w1.heap.size := by
      rw [hW, hN]
      exact ⟨below1 _ _, by simp, by simp, by simp, HH.out.keep (below1 _ _) (Nat.le_refl _), by simp⟩
    simp only [← hW, ← hN]
    clear hW hN
    go_at_call 46
    refine (implValid st.2.2.2.2.1).mono ?_
    rw [HQ.out]
    rintro e w2 ⟨rfl, bel⟩
    replace st := next3_1 bel st
    clear bel
    go_wp2_with fail
    go_at_call 82
    refine (areCellsM st.2.2.2.2.1 (by omega)).mono ?_
    rw [show allB zs (1 + 1) = allB zs 2 from rfl, ← HQP.out]
    rintro e w3 ⟨rfl, bel⟩
    replace st := next3_1 bel st
    clear bel
    go_wp2
    go_ret
    exact ⟨rfl, st.1⟩

set_option maxHeartbeats 4000000 in
theorem canLive {w : World} {b1 b2 b : Nat} {s r : Int} {v1 v2 v : Value} {xs ys zs : List Int} (h1 : Rd w b1 v1 xs) (h2 : Rd w b2 v2 ys) (h : Rd w b v zs) :
    Calls Try.prog 74 #[lifeV v1 v2, ruleV s r v] w fun e w' => e = .returned (.bool (canB xs ys s r zs)) ∧ Below w.heap.size w w' := by
  have H1 := hid h1
  have H2 := hid h2
  have HH := hid h
  obtain ⟨ao, cap, rfl, hc, hm, _⟩ := h
  obtain ⟨ao1, cap1, rfl, hc1, hm1, _⟩ := h1
  obtain ⟨ao2, cap2, rfl, hc2, hm2, _⟩ := h2
  clear hc hm hc1 hm1 hc2 hm2
  obtain ⟨qp, hqp⟩ : ∃ qp, qp = (fieldB s r zs && allB zs 2) := ⟨_, rfl⟩
  have HQP := hid hqp
  cases hx : LVal.lifeB xs ys with
  | false =>
    have e : canB xs ys s r zs = false := by simp [canB, hx]
    rw [e]
    have HX := hid hx
    clear e hx hqp
    go_enter Try.func74, Try.ntmps74
    go_wp2_with fail
    obtain ⟨w1, hW⟩ : ∃ w1, w1 = (w.alloc (Obj.cells #[.slice ao1 xs.length cap1, .slice ao2 ys.length cap2] 43)).alloc (Obj.cells #[.int .i64 s, .int .i64 r, .slice ao zs.length cap] 26) := ⟨_, rfl⟩
    obtain ⟨N, hN⟩ : ∃ N, N = w.heap.size := ⟨_, rfl⟩
    obtain ⟨M, hM⟩ : ∃ M, M = N + 1 := ⟨_, rfl⟩
    have B1 : Below w.heap.size w w1 := by rw [hW]; exact Go.Joins.below_alloc2 _ _ _
    have mm : w1.cell? ⟨M, 0, none⟩ = some (.int .i64 s) ∧ w1.cell? ⟨M, 1, none⟩ = some (.int .i64 r) ∧ w1.cell? ⟨M, 2, none⟩ = some (.slice ao zs.length cap) := by
      rw [hW, hM, hN]; exact ⟨by simp, by simp, by simp⟩
    simp only [← hW, ← hN, ← hM]
    clear hW hN hM
    go_at_call 66
    refine (LVal.implValid (H1.out.keep B1 (Nat.le_refl _)) (H2.out.keep B1 (Nat.le_refl _))).mono ?_
    rw [HX.out]
    rintro e w2 ⟨rfl, bel⟩
    have m0 := cell_keep bel mm.1
    have m1 := cell_keep bel mm.2.1
    have m2 := cell_keep bel mm.2.2
    have BX := hid (B1.trans (bel.mono B1.size))
    clear bel mm B1
    go_wp2
    go_ret
    exact ⟨rfl, BX.out⟩
  | true =>
    have e : canB xs ys s r zs = qp := by simp [canB, hx, hqp]
    rw [e]
    have HX := hid hx
    clear e hx hqp
    go_enter Try.func74, Try.ntmps74
    go_wp2_with fail
    obtain ⟨w1, hW⟩ : ∃ w1, w1 = (w.alloc (Obj.cells #[.slice ao1 xs.length cap1, .slice ao2 ys.length cap2] 43)).alloc (Obj.cells #[.int .i64 s, .int .i64 r, .slice ao zs.length cap] 26) := ⟨_, rfl⟩
    obtain ⟨N, hN⟩ : ∃ N, N = w.heap.size := ⟨_, rfl⟩
    obtain ⟨M, hM⟩ : ∃ M, M = N + 1 := ⟨_, rfl⟩
    have B1 : Below w.heap.size w w1 := by rw [hW]; exact Go.Joins.below_alloc2 _ _ _
    have mm : w1.cell? ⟨M, 0, none⟩ = some (.int .i64 s) ∧ w1.cell? ⟨M, 1, none⟩ = some (.int .i64 r) ∧ w1.cell? ⟨M, 2, none⟩ = some (.slice ao zs.length cap) := by
      rw [hW, hM, hN]; exact ⟨by simp, by simp, by simp⟩
    simp only [← hW, ← hN, ← hM]
    clear hW hN hM
    go_at_call 66
    refine (LVal.implValid (H1.out.keep B1 (Nat.le_refl _)) (H2.out.keep B1 (Nat.le_refl _))).mono ?_
    rw [HX.out]
    rintro e w2 ⟨rfl, bel⟩
    have m0 := cell_keep bel mm.1
    have m1 := cell_keep bel mm.2.1
    have m2 := cell_keep bel mm.2.2
    have BX := hid (B1.trans (bel.mono B1.size))
    clear bel mm B1
    go_wp2_with fail
    go_at_call 53
    refine (isPlain (HH.out.keep BX.out (Nat.le_refl _))).mono ?_
    rw [← HQP.out]
    rintro e w3 ⟨rfl, bel⟩
    have BX2 := hid (BX.out.trans (bel.mono BX.out.size))
    clear bel m0 m1 m2
    go_wp2
    go_ret
    exact ⟨rfl, BX2.out⟩


end Go.Proofs.Ytmbimekndhcgaaa.Can
