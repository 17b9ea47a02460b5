/- SameFlow of the model. -/
import Derived.Test.YtejchjjkehmgaaaWEq
import Derived.Test.YtejchjjkehmgaaaWVal
namespace Go.Proofs.Ytejchjjkehmgaaa.WSame
open Go.RowKit Go.Proofs.Ytejchjjkehmgaaa.Rd Go.Proofs.Ytejchjjkehmgaaa.Rdb Go.Proofs.Ytejchjjkehmgaaa.Rdf Go.Proofs.Ytejchjjkehmgaaa.Fl Go.Proofs.Ytejchjjkehmgaaa.Help Go.Proofs.Ytejchjjkehmgaaa.Ring Go.Proofs.Ytejchjjkehmgaaa.Small Go.Proofs.Ytejchjjkehmgaaa.FVal Go.Proofs.Ytejchjjkehmgaaa.Keep Go.Proofs.Ytejchjjkehmgaaa.Rule Go.Proofs.Ytejchjjkehmgaaa.WVal Go.Proofs.Ytejchjjkehmgaaa.WEq
set_option linter.unusedVariables false
set_option linter.unusedSimpArgs false

def sameB (a b : Int) (xs : List Nat) (ys : List Bool) (a' b' : Int) (xs' : List Nat) (ys' : List Bool) : Bool := decide (a = a') && (decide (b = b') && (eqWB ys ys' && eqFB xs xs'))
set_option maxHeartbeats 8000000 in
set_option maxRecDepth 100000 in
theorem no1 {w : World} {a b a' b' : Int} {d1 d2 d3 d4 : Nat} {v1 v2 v3 v4 : Value} {xs xs' : List Nat} {ys ys' : List Bool} (h1 : RdF w d1 v1 xs) (h2 : RdB w d2 v2 ys) (h3 : RdF w d3 v3 xs') (h4 : RdB w d4 v4 ys') (h : (a == a') = false) :
    Calls Try.prog 29 #[flowV a b v1 v2, flowV a' b' v3 v4] w fun e w' => e = .returned (.bool false) ∧ Below w.heap.size w w' := by
  have H1 := hid h1
  have H2 := hid h2
  have H3 := hid h3
  have H4 := hid h4
  obtain ⟨ao1, cap1, rfl, q1, q2, q3⟩ := h1
  obtain ⟨ao2, cap2, rfl, q4, q5, q6⟩ := h2
  obtain ⟨ao3, cap3, rfl, q7, q8, q9⟩ := h3
  obtain ⟨ao4, cap4, rfl, q10, q11, q12⟩ := h4
  clear q1 q2 q3 q4 q5 q6 q7 q8 q9 q10 q11 q12
  go_enter Try.func29, Try.ntmps29
  go_wp2
  go_ret
  exact ⟨rfl, Go.Joins.below_alloc2 _ _ _⟩

set_option maxHeartbeats 8000000 in
set_option maxRecDepth 100000 in
theorem no2 {w : World} {a b b' : Int} {d1 d2 d3 d4 : Nat} {v1 v2 v3 v4 : Value} {xs xs' : List Nat} {ys ys' : List Bool} (h1 : RdF w d1 v1 xs) (h2 : RdB w d2 v2 ys) (h3 : RdF w d3 v3 xs') (h4 : RdB w d4 v4 ys') (h : (b == b') = false) :
    Calls Try.prog 29 #[flowV a b v1 v2, flowV a b' v3 v4] w fun e w' => e = .returned (.bool false) ∧ Below w.heap.size w w' := by
  have H1 := hid h1
  have H2 := hid h2
  have H3 := hid h3
  have H4 := hid h4
  obtain ⟨ao1, cap1, rfl, q1, q2, q3⟩ := h1
  obtain ⟨ao2, cap2, rfl, q4, q5, q6⟩ := h2
  obtain ⟨ao3, cap3, rfl, q7, q8, q9⟩ := h3
  obtain ⟨ao4, cap4, rfl, q10, q11, q12⟩ := h4
  clear q1 q2 q3 q4 q5 q6 q7 q8 q9 q10 q11 q12
  go_enter Try.func29, Try.ntmps29
  go_wp2
  go_ret
  exact ⟨rfl, Go.Joins.below_alloc2 _ _ _⟩

set_option maxHeartbeats 8000000 in
set_option maxRecDepth 100000 in
theorem no3 {w : World} {a b : Int} {d1 d2 d3 d4 : Nat} {v1 v2 v3 v4 : Value} {xs xs' : List Nat} {ys ys' : List Bool} (h1 : RdF w d1 v1 xs) (h2 : RdB w d2 v2 ys) (h3 : RdF w d3 v3 xs') (h4 : RdB w d4 v4 ys') (he : eqWB ys ys' = false) :
    Calls Try.prog 29 #[flowV a b v1 v2, flowV a b v3 v4] w fun e w' => e = .returned (.bool false) ∧ Below w.heap.size w w' := by
  have H1 := hid h1
  have H2 := hid h2
  have H3 := hid h3
  have H4 := hid h4
  obtain ⟨ao1, cap1, rfl, q1, q2, q3⟩ := h1
  obtain ⟨ao2, cap2, rfl, q4, q5, q6⟩ := h2
  obtain ⟨ao3, cap3, rfl, q7, q8, q9⟩ := h3
  obtain ⟨ao4, cap4, rfl, q10, q11, q12⟩ := h4
  clear q1 q2 q3 q4 q5 q6 q7 q8 q9 q10 q11 q12
  have HE := hid he
  clear he
  go_enter Try.func29, Try.ntmps29
  go_wp2_with fail
  obtain ⟨w1, hW⟩ : ∃ w1, w1 = (w.alloc (Obj.cells #[.int .i64 a, .int .i64 b, (Value.slice ao1 xs.length cap1), (Value.slice ao2 ys.length cap2)] 37)).alloc (Obj.cells #[.int .i64 a, .int .i64 b, (Value.slice ao3 xs'.length cap3), (Value.slice ao4 ys'.length cap4)] 37) := ⟨_, rfl⟩
  obtain ⟨N, hN⟩ : ∃ N, N = w.heap.size := ⟨_, rfl⟩
  obtain ⟨M, hM⟩ : ∃ M, M = N + 1 := ⟨_, rfl⟩
  have bl : Below w.heap.size w w1 := by rw [hW]; exact Go.Joins.below_alloc2 _ _ _
  have x1 : w1.cell? ⟨N, 2, none⟩ = some (Value.slice ao1 xs.length cap1) := by rw [hW, hN]; simp
  have x2 : w1.cell? ⟨M, 2, none⟩ = some (Value.slice ao3 xs'.length cap3) := by rw [hW, hM, hN]; simp
  simp only [← hW, ← hN, ← hM]
  clear hW hN hM
  go_at_call 76
  refine (specWalls (H2.out.keep bl (Nat.le_refl _)) (H4.out.keep bl (Nat.le_refl _))).mono ?_
  rw [HE.out]
  rintro e w2 ⟨rfl, m, rfl⟩
  go_wp2
  go_ret
  exact ⟨rfl, bl.trans (below_n _ _ _)⟩

set_option maxHeartbeats 8000000 in
set_option maxRecDepth 100000 in
theorem same4 {w : World} {a b : Int} {d1 d2 d3 d4 : Nat} {v1 v2 v3 v4 : Value} {xs xs' : List Nat} {ys ys' : List Bool} (h1 : RdF w d1 v1 xs) (h2 : RdB w d2 v2 ys) (h3 : RdF w d3 v3 xs') (h4 : RdB w d4 v4 ys') (he : eqWB ys ys' = true) :
    Calls Try.prog 29 #[flowV a b v1 v2, flowV a b v3 v4] w fun e w' => e = .returned (.bool (eqFB xs xs')) ∧ Below w.heap.size w w' := by
  have H1 := hid h1
  have H2 := hid h2
  have H3 := hid h3
  have H4 := hid h4
  obtain ⟨ao1, cap1, rfl, q1, q2, q3⟩ := h1
  obtain ⟨ao2, cap2, rfl, q4, q5, q6⟩ := h2
  obtain ⟨ao3, cap3, rfl, q7, q8, q9⟩ := h3
  obtain ⟨ao4, cap4, rfl, q10, q11, q12⟩ := h4
  clear q1 q2 q3 q4 q5 q6 q7 q8 q9 q10 q11 q12
  have HE := hid he
  obtain ⟨Q, hQ⟩ : ∃ Q, Q = eqFB xs xs' := ⟨_, rfl⟩
  rw [← hQ]
  have HQ := hid hQ
  clear hQ he
  go_enter Try.func29, Try.ntmps29
  go_wp2_with fail
  obtain ⟨w1, hW⟩ : ∃ w1, w1 = (w.alloc (Obj.cells #[.int .i64 a, .int .i64 b, (Value.slice ao1 xs.length cap1), (Value.slice ao2 ys.length cap2)] 37)).alloc (Obj.cells #[.int .i64 a, .int .i64 b, (Value.slice ao3 xs'.length cap3), (Value.slice ao4 ys'.length cap4)] 37) := ⟨_, rfl⟩
  obtain ⟨N, hN⟩ : ∃ N, N = w.heap.size := ⟨_, rfl⟩
  obtain ⟨M, hM⟩ : ∃ M, M = N + 1 := ⟨_, rfl⟩
  have bl : Below w.heap.size w w1 := by rw [hW]; exact Go.Joins.below_alloc2 _ _ _
  have x1 : w1.cell? ⟨N, 2, none⟩ = some (Value.slice ao1 xs.length cap1) := by rw [hW, hN]; simp
  have x2 : w1.cell? ⟨M, 2, none⟩ = some (Value.slice ao3 xs'.length cap3) := by rw [hW, hM, hN]; simp
  simp only [← hW, ← hN, ← hM]
  clear hW hN hM
  go_at_call 76
  refine (specWalls (H2.out.keep bl (Nat.le_refl _)) (H4.out.keep bl (Nat.le_refl _))).mono ?_
  rw [HE.out]
  rintro e w2 ⟨rfl, m, rfl⟩
  have bl2 := bl.trans (below_n w.heap.size w1 m)
  have y1 : (w1.drewN m).cell? ⟨N, 2, none⟩ = some (Value.slice ao1 xs.length cap1) := x1
  have y2 : (w1.drewN m).cell? ⟨M, 2, none⟩ = some (Value.slice ao3 xs'.length cap3) := x2
  obtain ⟨w3, hw3⟩ : ∃ w3, w3 = w1.drewN m := ⟨_, rfl⟩
  rw [← hw3] at y1 y2 bl2 ⊢
  clear hw3 x1 x2 bl
  go_wp2_with fail
  go_at_call 77
  refine (specAll (H1.out.keep bl2 (Nat.le_refl _)) (H3.out.keep bl2 (Nat.le_refl _))).mono ?_
  rw [← HQ.out]
  rintro e w4 ⟨rfl, m2, rfl⟩
  go_wp2
  go_ret
  exact ⟨rfl, bl2.trans (below_n _ _ _)⟩

theorem specSame {w : World} {a b a' b' : Int} {d1 d2 d3 d4 : Nat} {v1 v2 v3 v4 : Value} {xs xs' : List Nat} {ys ys' : List Bool} (h1 : RdF w d1 v1 xs) (h2 : RdB w d2 v2 ys) (h3 : RdF w d3 v3 xs') (h4 : RdB w d4 v4 ys') :
    Calls Try.prog 29 #[flowV a b v1 v2, flowV a' b' v3 v4] w fun e w' => e = .returned (.bool (sameB a b xs ys a' b' xs' ys')) ∧ Below w.heap.size w w' := by
  by_cases ha : a = a'
  · subst ha
    by_cases hb : b = b'
    · subst hb
      cases he : eqWB ys ys' with
      | false => rw [show sameB a b xs ys a b xs' ys' = false by simp [sameB, he]]; exact no3 h1 h2 h3 h4 he
      | true => rw [show sameB a b xs ys a b xs' ys' = eqFB xs xs' by simp [sameB, he]]; exact same4 h1 h2 h3 h4 he
    · rw [show sameB a b xs ys a b' xs' ys' = false by simp [sameB, hb]]; exact no2 h1 h2 h3 h4 (by simpa using hb)
  · rw [show sameB a b xs ys a' b' xs' ys' = false by simp [sameB, ha]]; exact no1 h1 h2 h3 h4 (by simpa using ha)

end Go.Proofs.Ytejchjjkehmgaaa.WSame
