/- SameGas of the model. -/
import Derived.Test.YtnpjhhkhdeomcaaGas
import Derived.Test.YtnpjhhkhdeomcaaFSame
namespace Go.Proofs.Ytnpjhhkhdeomcaa.GSame
open Go.RowKit Go.Proofs.Ytnpjhhkhdeomcaa.Rd Go.Proofs.Ytnpjhhkhdeomcaa.Rdb Go.Proofs.Ytnpjhhkhdeomcaa.Help Go.Proofs.Ytnpjhhkhdeomcaa.Ring Go.Proofs.Ytnpjhhkhdeomcaa.Small Go.Proofs.Ytnpjhhkhdeomcaa.Keep Go.Proofs.Ytnpjhhkhdeomcaa.Rule
set_option linter.unusedVariables false
set_option linter.unusedSimpArgs false

def eqWB (xs ys : List Bool) : Bool := decide (xs = ys)
theorem eqw_len {xs ys : List Bool} (h : ¬ xs.length = ys.length) : eqWB xs ys = false := by
  unfold eqWB; exact decide_eq_false (fun e => h (by rw [e]))
theorem eqw_bad {xs ys : List Bool} {k : Nat} (h : ¬ xs.getD k false = ys.getD k false) : eqWB xs ys = false := by
  unfold eqWB; exact decide_eq_false (fun e => h (by rw [e]))
theorem eqw_all {xs ys : List Bool} (hl : xs.length = ys.length) (h : ∀ i, i < xs.length → xs.getD i false = ys.getD i false) : eqWB xs ys = true := by
  unfold eqWB
  apply decide_eq_true
  apply List.ext_getElem hl
  intro i h1 h2
  have := h i h1
  simpa [List.getD, h1, h2] using this

set_option maxHeartbeats 1000000 in
theorem specWalls {w : World} {b1 b2 : Nat} {v1 v2 : Value} {xs ys : List Bool} (h1 : RdB w b1 v1 xs) (h2 : RdB w b2 v2 ys) :
    Calls Try.prog 44 #[v1, v2] w fun e w' => e = .returned (.bool (eqWB xs ys)) ∧ ∃ m, w' = w.drewN m := by
  obtain ⟨ao, cap, rfl, hc, hm, h4⟩ := h1
  obtain ⟨ao2, cap2, rfl, hc2, hm2, h42⟩ := h2
  have lx : xs.length ≤ 9223372036854775807 := by unfold maxLen at hm; omega
  have ly : ys.length ≤ 9223372036854775807 := by unfold maxLen at hm2; omega
  clear hc hc2 hm hm2
  obtain ⟨q, hq⟩ : ∃ q, q = eqWB xs ys := ⟨_, rfl⟩
  have HQ := hid hq
  rw [← hq]
  clear hq
  by_cases hl : xs.length = ys.length
  · have HL := hid hl
    have e0 : ((xs.length : Int) != (ys.length : Int)) = false := by rw [hl]; simp
    obtain ⟨n, hnn⟩ : ∃ n, n = xs.length := ⟨_, rfl⟩
    have Hn := hid hnn
    rw [← hl] at e0 h42 ⊢
    rw [← hnn] at lx e0 h4 h42 ⊢
    clear hl hnn ly
    go_enter Try.func44, Try.ntmps44
    go_wp2
    go_loopw [5] (fun i wr => ∃ k : Nat, k ≤ n ∧ i = .int .i64 k ∧ Hid (∀ i, i < k → xs.getD i false = ys.getD i false) ∧ ∃ m, wr = w.drewN m) (fun i _ => n - (intOf i).toNat)
    case atStart => exact ⟨0, Nat.zero_le _, rfl, fun i hi => absurd hi (by omega), 0, rfl⟩
    case round =>
      obtain ⟨k, hk, rfl, ha, m, hw⟩ := hrel
      have HW := hid hw
      by_cases hlt : k < n
      · obtain ⟨off, rfl, hb, hcc⟩ := h4 (by omega)
        obtain ⟨off2, rfl, hb2, hcc2⟩ := h42 (by omega)
        obtain ⟨x, hx⟩ : ∃ x, x = xs.getD k false := ⟨_, rfl⟩
        obtain ⟨y, hy⟩ : ∃ y, y = ys.getD k false := ⟨_, rfl⟩
        have hcx : wr.cell? ⟨b1, off + k, none⟩ = some (.bool x) := by rw [hw, hx]; exact hcc k hlt
        have hcy : wr.cell? ⟨b2, off2 + k, none⟩ = some (.bool y) := by rw [hw, hy]; exact hcc2 k hlt
        have hki : (k : Int) < (n : Int) := by omega
        have HX := hid hx
        have HY := hid hy
        clear hx hy hw hcc hcc2
        cases x <;> cases y
        · have hnx : ∀ i, i < k + 1 → xs.getD i false = ys.getD i false := by
            intro i hi
            rcases Nat.lt_or_ge i k with h | h
            · exact ha.out i h
            · have : i = k := by omega
              rw [this, ← HX.out, ← HY.out]
          have HNX := hid hnx
          clear hnx
          go_wp2_with fail
          go_quiet (fail)
          go_wp2
          go_roundw
          case rel => exact ⟨k + 1, by omega, by go_num, HNX.out, m + nq, by rw [HW.out, World.drewN_drewN]⟩
          case measure => simp [intOf]; omega
        · have hf := eqw_bad (xs := xs) (ys := ys) (k := k) (by rw [← HX.out, ← HY.out]; decide)
          have HF := hid hf
          clear hf
          go_wp2_with fail
          go_quiet (fail)
          go_wp2
          go_ret
          exact ⟨by rw [HQ.out, HF.out]; rfl, m + nq, by rw [HW.out, World.drewN_drewN]⟩
        · have hf := eqw_bad (xs := xs) (ys := ys) (k := k) (by rw [← HX.out, ← HY.out]; decide)
          have HF := hid hf
          clear hf
          go_wp2_with fail
          go_quiet (fail)
          go_wp2
          go_ret
          exact ⟨by rw [HQ.out, HF.out]; rfl, m + nq, by rw [HW.out, World.drewN_drewN]⟩
        · have hnx : ∀ i, i < k + 1 → xs.getD i false = ys.getD i false := by
            intro i hi
            rcases Nat.lt_or_ge i k with h | h
            · exact ha.out i h
            · have : i = k := by omega
              rw [this, ← HX.out, ← HY.out]
          have HNX := hid hnx
          clear hnx
          go_wp2_with fail
          go_quiet (fail)
          go_wp2
          go_roundw
          case rel => exact ⟨k + 1, by omega, by go_num, HNX.out, m + nq, by rw [HW.out, World.drewN_drewN]⟩
          case measure => simp [intOf]; omega
      · have hkn : k = n := by omega
        subst hkn
        have ht := eqw_all HL.out (fun i hi => ha.out i (by have := Hn.out; omega))
        have HT := hid ht
        clear ht ha hw
        go_wp2
        go_ret
        exact ⟨by rw [HQ.out, HT.out]; rfl, m, HW.out⟩
  · have HF := hid (eqw_len hl)
    have e0 : ((xs.length : Int) != (ys.length : Int)) = true := by simp; omega
    clear hl h4 h42
    go_enter Try.func44, Try.ntmps44
    go_wp2
    go_ret
    exact ⟨by rw [HQ.out, HF.out]; rfl, 0, rfl⟩

def sameB (a b c : Int) (xs : List Int) (ys : List Bool) (a' b' c' : Int) (xs' : List Int) (ys' : List Bool) : Bool := decide (a = a') && (decide (b = b') && (decide (c = c') && (Same.eqLB xs xs' && eqWB ys ys')))
set_option maxHeartbeats 2000000 in
theorem no1 {w : World} {a b c a' b' c' : Int} {d1 d2 d3 d4 : Nat} {v1 v2 v3 v4 : Value} {xs xs' : List Int} {ys ys' : List Bool} (h1 : Rd w d1 v1 xs) (h2 : RdB w d2 v2 ys) (h3 : Rd w d3 v3 xs') (h4 : RdB w d4 v4 ys') (h : (a == a') = false) :
    Calls Try.prog 19 #[gasV a b c v1 v2, gasV a' b' c' v3 v4] w fun e w' => e = .returned (.bool false) ∧ Below w.heap.size w w' := by
  have H1 := hid h1
  have H2 := hid h2
  have H3 := hid h3
  have H4 := hid h4
  obtain ⟨ao1, cap1, rfl, q1, q2, q3⟩ := h1
  obtain ⟨ao2, cap2, rfl, q4, q5, q6⟩ := h2
  obtain ⟨ao3, cap3, rfl, q7, q8, q9⟩ := h3
  obtain ⟨ao4, cap4, rfl, q10, q11, q12⟩ := h4
  clear q1 q2 q3 q4 q5 q6 q7 q8 q9 q10 q11 q12
  go_enter Try.func19, Try.ntmps19
  go_wp2
  go_ret
  exact ⟨rfl, Go.Joins.below_alloc2 _ _ _⟩

set_option maxHeartbeats 2000000 in
theorem no2 {w : World} {a b c a' b' c' : Int} {d1 d2 d3 d4 : Nat} {v1 v2 v3 v4 : Value} {xs xs' : List Int} {ys ys' : List Bool} (h1 : Rd w d1 v1 xs) (h2 : RdB w d2 v2 ys) (h3 : Rd w d3 v3 xs') (h4 : RdB w d4 v4 ys') (h : (b == b') = false) (ha : a = a') :
    Calls Try.prog 19 #[gasV a b c v1 v2, gasV a' b' c' v3 v4] w fun e w' => e = .returned (.bool false) ∧ Below w.heap.size w w' := by
  have H1 := hid h1
  have H2 := hid h2
  have H3 := hid h3
  have H4 := hid h4
  obtain ⟨ao1, cap1, rfl, q1, q2, q3⟩ := h1
  obtain ⟨ao2, cap2, rfl, q4, q5, q6⟩ := h2
  obtain ⟨ao3, cap3, rfl, q7, q8, q9⟩ := h3
  obtain ⟨ao4, cap4, rfl, q10, q11, q12⟩ := h4
  clear q1 q2 q3 q4 q5 q6 q7 q8 q9 q10 q11 q12
  subst ha
  go_enter Try.func19, Try.ntmps19
  go_wp2
  go_ret
  exact ⟨rfl, Go.Joins.below_alloc2 _ _ _⟩

set_option maxHeartbeats 2000000 in
theorem no3 {w : World} {a b c a' b' c' : Int} {d1 d2 d3 d4 : Nat} {v1 v2 v3 v4 : Value} {xs xs' : List Int} {ys ys' : List Bool} (h1 : Rd w d1 v1 xs) (h2 : RdB w d2 v2 ys) (h3 : Rd w d3 v3 xs') (h4 : RdB w d4 v4 ys') (h : (c == c') = false) (ha : a = a') (hb : b = b') :
    Calls Try.prog 19 #[gasV a b c v1 v2, gasV a' b' c' v3 v4] w fun e w' => e = .returned (.bool false) ∧ Below w.heap.size w w' := by
  have H1 := hid h1
  have H2 := hid h2
  have H3 := hid h3
  have H4 := hid h4
  obtain ⟨ao1, cap1, rfl, q1, q2, q3⟩ := h1
  obtain ⟨ao2, cap2, rfl, q4, q5, q6⟩ := h2
  obtain ⟨ao3, cap3, rfl, q7, q8, q9⟩ := h3
  obtain ⟨ao4, cap4, rfl, q10, q11, q12⟩ := h4
  clear q1 q2 q3 q4 q5 q6 q7 q8 q9 q10 q11 q12
  subst ha hb
  go_enter Try.func19, Try.ntmps19
  go_wp2
  go_ret
  exact ⟨rfl, Go.Joins.below_alloc2 _ _ _⟩

set_option maxHeartbeats 2000000 in
theorem no4 {w : World} {a b c a' b' c' : Int} {d1 d2 d3 d4 : Nat} {v1 v2 v3 v4 : Value} {xs xs' : List Int} {ys ys' : List Bool} (h1 : Rd w d1 v1 xs) (h2 : RdB w d2 v2 ys) (h3 : Rd w d3 v3 xs') (h4 : RdB w d4 v4 ys') (ha : a = a') (hb : b = b') (hc : c = c') (he : Same.eqLB xs xs' = false) :
    Calls Try.prog 19 #[gasV a b c v1 v2, gasV a' b' c' v3 v4] w fun e w' => e = .returned (.bool false) ∧ Below w.heap.size w w' := by
  have H1 := hid h1
  have H2 := hid h2
  have H3 := hid h3
  have H4 := hid h4
  obtain ⟨ao1, cap1, rfl, q1, q2, q3⟩ := h1
  obtain ⟨ao2, cap2, rfl, q4, q5, q6⟩ := h2
  obtain ⟨ao3, cap3, rfl, q7, q8, q9⟩ := h3
  obtain ⟨ao4, cap4, rfl, q10, q11, q12⟩ := h4
  clear q1 q2 q3 q4 q5 q6 q7 q8 q9 q10 q11 q12
  have HE := hid he
  subst ha hb hc
  go_enter Try.func19, Try.ntmps19
  go_wp2_with fail
  obtain ⟨w1, hW⟩ : ∃ w1, w1 = (w.alloc (Obj.cells #[.int .i64 a, .int .i64 b, .int .i64 c, .slice ao1 xs.length cap1, .slice ao2 ys.length cap2] 31)).alloc (Obj.cells #[.int .i64 a, .int .i64 b, .int .i64 c, .slice ao3 xs'.length cap3, .slice ao4 ys'.length cap4] 31) := ⟨_, rfl⟩
  obtain ⟨N, hN⟩ : ∃ N, N = w.heap.size := ⟨_, rfl⟩
  obtain ⟨M, hM⟩ : ∃ M, M = N + 1 := ⟨_, rfl⟩
  have bl : Below w.heap.size w w1 := by rw [hW]; exact Go.Joins.below_alloc2 _ _ _
  have x1 : w1.cell? ⟨N, 4, none⟩ = some (.slice ao2 ys.length cap2) := by rw [hW, hN]; simp
  have x2 : w1.cell? ⟨M, 4, none⟩ = some (.slice ao4 ys'.length cap4) := by rw [hW, hM, hN]; simp
  simp only [← hW, ← hN, ← hM]
  clear hW hN hM
  go_at_call 43
  refine (Same.specEqual (H1.out.keep bl (Nat.le_refl _)) (H3.out.keep bl (Nat.le_refl _))).mono ?_
  rw [HE.out]
  rintro e w2 ⟨rfl, m, rfl⟩
  go_wp2
  go_ret
  exact ⟨rfl, bl.trans (FSpec.below_drewN' _ _ _)⟩

set_option maxHeartbeats 2000000 in
theorem same5 {w : World} {a b c a' b' c' : Int} {d1 d2 d3 d4 : Nat} {v1 v2 v3 v4 : Value} {xs xs' : List Int} {ys ys' : List Bool} (h1 : Rd w d1 v1 xs) (h2 : RdB w d2 v2 ys) (h3 : Rd w d3 v3 xs') (h4 : RdB w d4 v4 ys') (ha : a = a') (hb : b = b') (hc : c = c') (he : Same.eqLB xs xs' = true) :
    Calls Try.prog 19 #[gasV a b c v1 v2, gasV a' b' c' v3 v4] w fun e w' => e = .returned (.bool (eqWB ys ys')) ∧ Below w.heap.size w w' := by
  have H1 := hid h1
  have H2 := hid h2
  have H3 := hid h3
  have H4 := hid h4
  obtain ⟨ao1, cap1, rfl, q1, q2, q3⟩ := h1
  obtain ⟨ao2, cap2, rfl, q4, q5, q6⟩ := h2
  obtain ⟨ao3, cap3, rfl, q7, q8, q9⟩ := h3
  obtain ⟨ao4, cap4, rfl, q10, q11, q12⟩ := h4
  clear q1 q2 q3 q4 q5 q6 q7 q8 q9 q10 q11 q12
  have HE := hid he
  obtain ⟨Q, hQ⟩ : ∃ Q, Q = eqWB ys ys' := ⟨_, rfl⟩
  rw [← hQ]
  have HQ := hid hQ
  clear hQ he
  subst ha hb hc
  go_enter Try.func19, Try.ntmps19
  go_wp2_with fail
  obtain ⟨w1, hW⟩ : ∃ w1, w1 = (w.alloc (Obj.cells #[.int .i64 a, .int .i64 b, .int .i64 c, .slice ao1 xs.length cap1, .slice ao2 ys.length cap2] 31)).alloc (Obj.cells #[.int .i64 a, .int .i64 b, .int .i64 c, .slice ao3 xs'.length cap3, .slice ao4 ys'.length cap4] 31) := ⟨_, rfl⟩
  obtain ⟨N, hN⟩ : ∃ N, N = w.heap.size := ⟨_, rfl⟩
  obtain ⟨M, hM⟩ : ∃ M, M = N + 1 := ⟨_, rfl⟩
  have bl : Below w.heap.size w w1 := by rw [hW]; exact Go.Joins.below_alloc2 _ _ _
  have x1 : w1.cell? ⟨N, 4, none⟩ = some (.slice ao2 ys.length cap2) := by rw [hW, hN]; simp
  have x2 : w1.cell? ⟨M, 4, none⟩ = some (.slice ao4 ys'.length cap4) := by rw [hW, hM, hN]; simp
  simp only [← hW, ← hN, ← hM]
  clear hW hN hM
  go_at_call 43
  refine (Same.specEqual (H1.out.keep bl (Nat.le_refl _)) (H3.out.keep bl (Nat.le_refl _))).mono ?_
  rw [HE.out]
  rintro e w2 ⟨rfl, m, rfl⟩
  have bl2 := bl.trans (FSpec.below_drewN' w.heap.size w1 m)
  have y1 : (w1.drewN m).cell? ⟨N, 4, none⟩ = some (.slice ao2 ys.length cap2) := x1
  have y2 : (w1.drewN m).cell? ⟨M, 4, none⟩ = some (.slice ao4 ys'.length cap4) := x2
  obtain ⟨w3, hw3⟩ : ∃ w3, w3 = w1.drewN m := ⟨_, rfl⟩
  rw [← hw3] at y1 y2 bl2 ⊢
  clear hw3 x1 x2 bl
  go_wp2_with fail
  go_at_call 44
  refine (specWalls (H2.out.keep bl2 (Nat.le_refl _)) (H4.out.keep bl2 (Nat.le_refl _))).mono ?_
  rw [← HQ.out]
  rintro e w4 ⟨rfl, m2, rfl⟩
  go_wp2
  go_ret
  exact ⟨rfl, bl2.trans (FSpec.below_drewN' _ _ _)⟩

theorem specSame {w : World} {a b c a' b' c' : Int} {d1 d2 d3 d4 : Nat} {v1 v2 v3 v4 : Value} {xs xs' : List Int} {ys ys' : List Bool} (h1 : Rd w d1 v1 xs) (h2 : RdB w d2 v2 ys) (h3 : Rd w d3 v3 xs') (h4 : RdB w d4 v4 ys') :
    Calls Try.prog 19 #[gasV a b c v1 v2, gasV a' b' c' v3 v4] w fun e w' => e = .returned (.bool (sameB a b c xs ys a' b' c' xs' ys')) ∧ Below w.heap.size w w' := by
  by_cases ha : a = a'
  · by_cases hb : b = b'
    · by_cases hc : c = c'
      · cases he : Same.eqLB xs xs' with
        | false => rw [show sameB a b c xs ys a' b' c' xs' ys' = false by simp [sameB, he]]; exact no4 h1 h2 h3 h4 ha hb hc he
        | true => rw [show sameB a b c xs ys a' b' c' xs' ys' = eqWB ys ys' by simp [sameB, he, ha, hb, hc]]; exact same5 h1 h2 h3 h4 ha hb hc he
      · rw [show sameB a b c xs ys a' b' c' xs' ys' = false by simp [sameB, hc]]; exact no3 h1 h2 h3 h4 (by simpa using hc) ha hb
    · rw [show sameB a b c xs ys a' b' c' xs' ys' = false by simp [sameB, hb]]; exact no2 h1 h2 h3 h4 (by simpa using hb) ha
  · rw [show sameB a b c xs ys a' b' c' xs' ys' = false by simp [sameB, ha]]; exact no1 h1 h2 h3 h4 (by simpa using ha)

end Go.Proofs.Ytnpjhhkhdeomcaa.GSame
