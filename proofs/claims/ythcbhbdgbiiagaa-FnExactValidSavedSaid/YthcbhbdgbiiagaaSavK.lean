/- What is saved: the law's helpers. -/
import Derived.Test.YthcbhbdgbiiagaaSav
import Derived.WideShapes
namespace Go.Proofs.Ythcbhbdgbiiagaa.SavK
open Go.RowKit Go.Proofs.Ythcbhbdgbiiagaa.Rd Go.Proofs.Ythcbhbdgbiiagaa.Help Go.Proofs.Ythcbhbdgbiiagaa.Keep Go.Proofs.Ythcbhbdgbiiagaa.Rule Go.Proofs.Ythcbhbdgbiiagaa.Sav
set_option linter.unusedVariables false
set_option linter.unusedSimpArgs false

set_option maxHeartbeats 2000000 in
theorem sz1 {w : World} {q : Int} {n : ByteArray} {s r s2 r2 : Int} {b1 b2 : Nat} {v1 v2 : Value} {xs ys : List Int} (hn : n.size ≤ maxLen) (h1 : Rd w b1 v1 xs) (h2 : Rd w b2 v2 ys) (hq : 0 ≤ q ∧ q ≤ 1048576) (g1 : q < n.size) :
    Calls Try.prog 45 #[savV n s r v1 s2 r2 v2, .int .i64 q] w fun e w' => e = .returned (.int .i64 (-1)) ∧ Below w.heap.size w w' := by
  have hxl : xs.length ≤ 9223372036854775807 := by obtain ⟨_, _, _, a, b, _⟩ := h1; unfold maxLen at b; omega
  have hyl : ys.length ≤ 9223372036854775807 := by obtain ⟨_, _, _, a, b, _⟩ := h2; unfold maxLen at b; omega
  have hnl : n.size ≤ 9223372036854775807 := by unfold maxLen at hn; omega
  obtain ⟨q1, hq1⟩ : ∃ q1, q1 = q - n.size := ⟨_, rfl⟩
  have hw1 : wrap64 (q - n.size) = q1 := by rw [hq1]; exact Small.wrap_id (by omega) (by omega)
  have n1 : decide (q1 < 0) = true := decide_eq_true (by omega)
  have HX := hid hxl
  have HY := hid hyl
  have HH1 := hid h1
  have HH2 := hid h2
  have HN := hid hn
  have hnk : n.size ≤ 9223372036854775807 := by unfold maxLen at hn; omega
  obtain ⟨ao1, cap1, rfl, hc1, hm1, _⟩ := h1
  obtain ⟨ao2, cap2, rfl, hc2, hm2, _⟩ := h2
  clear hc1 hm1 hc2 hm2 hn
  clear hq1 hq g1 hxl hyl hnl
  go_enter Try.func45, Try.ntmps45
  go_wp2_with fail
  obtain ⟨w1, hW⟩ : ∃ w1, w1 = w.alloc (Obj.cells #[.string n, .int .i64 s, .int .i64 r, .slice ao1 xs.length cap1, .int .i64 s2, .int .i64 r2, .slice ao2 ys.length cap2] 65) := ⟨_, rfl⟩
  obtain ⟨g, hN⟩ : ∃ g, g = w.heap.size := ⟨_, rfl⟩
  have st : Below w.heap.size w w1 ∧ w1.cell? ⟨g, 0, none⟩ = some (.string n) ∧ w1.cell? ⟨g, 1, none⟩ = some (.int .i64 s) ∧ w1.cell? ⟨g, 2, none⟩ = some (.int .i64 r) ∧ w1.cell? ⟨g, 3, none⟩ = some (.slice ao1 xs.length cap1) ∧ w1.cell? ⟨g, 4, none⟩ = some (.int .i64 s2) ∧ w1.cell? ⟨g, 5, none⟩ = some (.int .i64 r2) ∧ w1.cell? ⟨g, 6, none⟩ = some (.slice ao2 ys.length cap2) := by
    rw [hW, hN]
    exact ⟨below1 _ _, by simp, by simp, by simp, by simp, by simp, by simp, by simp⟩
  have HG : Hid (g = w.heap.size) := hN
  simp only [← hW, ← hN]
  clear hW hN
  have HC := hid st
  have c0 := st.2.1
  have c1 := st.2.2.1
  have c2 := st.2.2.2.1
  have c3 := st.2.2.2.2.1
  clear st
  go_wp2
  go_ret
  exact ⟨rfl, by first | exact HC.out.1 | (rw [HG.out]; exact HC.out.1)⟩

set_option maxHeartbeats 2000000 in
theorem sz2 {w : World} {q : Int} {n : ByteArray} {s r s2 r2 : Int} {b1 b2 : Nat} {v1 v2 : Value} {xs ys : List Int} (hn : n.size ≤ maxLen) (h1 : Rd w b1 v1 xs) (h2 : Rd w b2 v2 ys) (hq : 0 ≤ q ∧ q ≤ 1048576) (g1 : n.size ≤ q) (g2 : q - n.size < xs.length) :
    Calls Try.prog 45 #[savV n s r v1 s2 r2 v2, .int .i64 q] w fun e w' => e = .returned (.int .i64 (-1)) ∧ Below w.heap.size w w' := by
  have hxl : xs.length ≤ 9223372036854775807 := by obtain ⟨_, _, _, a, b, _⟩ := h1; unfold maxLen at b; omega
  have hyl : ys.length ≤ 9223372036854775807 := by obtain ⟨_, _, _, a, b, _⟩ := h2; unfold maxLen at b; omega
  have hnl : n.size ≤ 9223372036854775807 := by unfold maxLen at hn; omega
  obtain ⟨q1, hq1⟩ : ∃ q1, q1 = q - n.size := ⟨_, rfl⟩
  have hw1 : wrap64 (q - n.size) = q1 := by rw [hq1]; exact Small.wrap_id (by omega) (by omega)
  have E1 : Hid ((if (xs.length : Int) ≤ q1 then q1 - xs.length else -1) = -1) := if_neg (by omega)
  have HQ1 : Hid (0 ≤ q1 ∧ q1 ≤ 1048576) := ⟨by omega, by omega⟩
  have n1 : decide (q1 < 0) = false := decide_eq_false (by omega)
  have HX := hid hxl
  have HY := hid hyl
  have HH1 := hid h1
  have HH2 := hid h2
  have HN := hid hn
  have hnk : n.size ≤ 9223372036854775807 := by unfold maxLen at hn; omega
  obtain ⟨ao1, cap1, rfl, hc1, hm1, _⟩ := h1
  obtain ⟨ao2, cap2, rfl, hc2, hm2, _⟩ := h2
  clear hc1 hm1 hc2 hm2 hn
  clear hq1 hq g1 hxl hyl hnl g2
  go_enter Try.func45, Try.ntmps45
  go_wp2_with fail
  obtain ⟨w1, hW⟩ : ∃ w1, w1 = w.alloc (Obj.cells #[.string n, .int .i64 s, .int .i64 r, .slice ao1 xs.length cap1, .int .i64 s2, .int .i64 r2, .slice ao2 ys.length cap2] 65) := ⟨_, rfl⟩
  obtain ⟨g, hN⟩ : ∃ g, g = w.heap.size := ⟨_, rfl⟩
  have st : Below w.heap.size w w1 ∧ w1.cell? ⟨g, 0, none⟩ = some (.string n) ∧ w1.cell? ⟨g, 1, none⟩ = some (.int .i64 s) ∧ w1.cell? ⟨g, 2, none⟩ = some (.int .i64 r) ∧ w1.cell? ⟨g, 3, none⟩ = some (.slice ao1 xs.length cap1) ∧ w1.cell? ⟨g, 4, none⟩ = some (.int .i64 s2) ∧ w1.cell? ⟨g, 5, none⟩ = some (.int .i64 r2) ∧ w1.cell? ⟨g, 6, none⟩ = some (.slice ao2 ys.length cap2) := by
    rw [hW, hN]
    exact ⟨below1 _ _, by simp, by simp, by simp, by simp, by simp, by simp, by simp⟩
  have HG : Hid (g = w.heap.size) := hN
  simp only [← hW, ← hN]
  clear hW hN
  have HC := hid st
  have c0 := st.2.1
  have c1 := st.2.2.1
  have c2 := st.2.2.2.1
  have c3 := st.2.2.2.2.1
  clear st
  go_wp2_with fail
  go_at_call 26
  refine (HelpQ.szR HX.out HQ1.out.1 HQ1.out.2).mono ?_
  rw [E1.out]
  rintro e w2 ⟨rfl, bel⟩
  have HB2 := hid (HC.out.1.trans (bel.mono HC.out.1.size))
  clear bel
  go_wp2
  go_ret
  exact ⟨rfl, HB2.out⟩

set_option maxHeartbeats 2000000 in
theorem sz3 {w : World} {q : Int} {n : ByteArray} {s r s2 r2 : Int} {b1 b2 : Nat} {v1 v2 : Value} {xs ys : List Int} (hn : n.size ≤ maxLen) (h1 : Rd w b1 v1 xs) (h2 : Rd w b2 v2 ys) (hq : 0 ≤ q ∧ q ≤ 1048576) (g1 : n.size ≤ q) (g2 : xs.length ≤ q - n.size) (g3 : q - n.size - xs.length < ys.length) :
    Calls Try.prog 45 #[savV n s r v1 s2 r2 v2, .int .i64 q] w fun e w' => e = .returned (.int .i64 (-1)) ∧ Below w.heap.size w w' := by
  have hxl : xs.length ≤ 9223372036854775807 := by obtain ⟨_, _, _, a, b, _⟩ := h1; unfold maxLen at b; omega
  have hyl : ys.length ≤ 9223372036854775807 := by obtain ⟨_, _, _, a, b, _⟩ := h2; unfold maxLen at b; omega
  have hnl : n.size ≤ 9223372036854775807 := by unfold maxLen at hn; omega
  obtain ⟨q1, hq1⟩ : ∃ q1, q1 = q - n.size := ⟨_, rfl⟩
  have hw1 : wrap64 (q - n.size) = q1 := by rw [hq1]; exact Small.wrap_id (by omega) (by omega)
  obtain ⟨q2, hq2⟩ : ∃ q2, q2 = q1 - xs.length := ⟨_, rfl⟩
  have E1 : Hid ((if (xs.length : Int) ≤ q1 then q1 - xs.length else -1) = q2) := (if_pos (by omega)).trans hq2.symm
  have HQ1 : Hid (0 ≤ q1 ∧ q1 ≤ 1048576) := ⟨by omega, by omega⟩
  have E2 : Hid ((if (ys.length : Int) ≤ q2 then q2 - ys.length else -1) = -1) := if_neg (by omega)
  have HQ2 : Hid (0 ≤ q2 ∧ q2 ≤ 1048576) := ⟨by omega, by omega⟩
  have n2 : decide (q2 < 0) = false := decide_eq_false (by omega)
  have n1 : decide (q1 < 0) = false := decide_eq_false (by omega)
  have HX := hid hxl
  have HY := hid hyl
  have HH1 := hid h1
  have HH2 := hid h2
  have HN := hid hn
  have hnk : n.size ≤ 9223372036854775807 := by unfold maxLen at hn; omega
  obtain ⟨ao1, cap1, rfl, hc1, hm1, _⟩ := h1
  obtain ⟨ao2, cap2, rfl, hc2, hm2, _⟩ := h2
  clear hc1 hm1 hc2 hm2 hn
  clear hq1 hq g1 hxl hyl hnl g2 g3 hq2
  go_enter Try.func45, Try.ntmps45
  go_wp2_with fail
  obtain ⟨w1, hW⟩ : ∃ w1, w1 = w.alloc (Obj.cells #[.string n, .int .i64 s, .int .i64 r, .slice ao1 xs.length cap1, .int .i64 s2, .int .i64 r2, .slice ao2 ys.length cap2] 65) := ⟨_, rfl⟩
  obtain ⟨g, hN⟩ : ∃ g, g = w.heap.size := ⟨_, rfl⟩
  have st : Below w.heap.size w w1 ∧ w1.cell? ⟨g, 0, none⟩ = some (.string n) ∧ w1.cell? ⟨g, 1, none⟩ = some (.int .i64 s) ∧ w1.cell? ⟨g, 2, none⟩ = some (.int .i64 r) ∧ w1.cell? ⟨g, 3, none⟩ = some (.slice ao1 xs.length cap1) ∧ w1.cell? ⟨g, 4, none⟩ = some (.int .i64 s2) ∧ w1.cell? ⟨g, 5, none⟩ = some (.int .i64 r2) ∧ w1.cell? ⟨g, 6, none⟩ = some (.slice ao2 ys.length cap2) := by
    rw [hW, hN]
    exact ⟨below1 _ _, by simp, by simp, by simp, by simp, by simp, by simp, by simp⟩
  have HG : Hid (g = w.heap.size) := hN
  simp only [← hW, ← hN]
  clear hW hN
  have HC := hid st
  have c0 := st.2.1
  have c1 := st.2.2.1
  have c2 := st.2.2.2.1
  have c3 := st.2.2.2.2.1
  clear st
  go_wp2_with fail
  go_at_call 26
  refine (HelpQ.szR HX.out HQ1.out.1 HQ1.out.2).mono ?_
  rw [E1.out]
  rintro e w2 ⟨rfl, bel⟩
  have HB2 := hid (HC.out.1.trans (bel.mono HC.out.1.size))
  have c4 := cell_keep bel HC.out.2.2.2.2.2.1
  have c5 := cell_keep bel HC.out.2.2.2.2.2.2.1
  have c6 := cell_keep bel HC.out.2.2.2.2.2.2.2
  clear bel c0 c1 c2 c3
  go_wp2_with fail
  go_at_call 13
  refine (szR HY.out HQ2.out.1 HQ2.out.2).mono ?_
  rw [E2.out]
  rintro e w3 ⟨rfl, bel⟩
  have HB3 := hid (HB2.out.trans (bel.mono HB2.out.size))
  clear bel
  go_wp2
  go_ret
  exact ⟨rfl, HB3.out⟩

set_option maxHeartbeats 2000000 in
theorem sz4 {w : World} {q : Int} {n : ByteArray} {s r s2 r2 : Int} {b1 b2 : Nat} {v1 v2 : Value} {xs ys : List Int} (hn : n.size ≤ maxLen) (h1 : Rd w b1 v1 xs) (h2 : Rd w b2 v2 ys) (hq : 0 ≤ q ∧ q ≤ 1048576) (g1 : n.size ≤ q) (g2 : xs.length ≤ q - n.size) (g3 : ys.length ≤ q - n.size - xs.length) :
    Calls Try.prog 45 #[savV n s r v1 s2 r2 v2, .int .i64 q] w fun e w' => e = .returned (.int .i64 (q - n.size - xs.length - ys.length)) ∧ Below w.heap.size w w' := by
  have hxl : xs.length ≤ 9223372036854775807 := by obtain ⟨_, _, _, a, b, _⟩ := h1; unfold maxLen at b; omega
  have hyl : ys.length ≤ 9223372036854775807 := by obtain ⟨_, _, _, a, b, _⟩ := h2; unfold maxLen at b; omega
  have hnl : n.size ≤ 9223372036854775807 := by unfold maxLen at hn; omega
  obtain ⟨q1, hq1⟩ : ∃ q1, q1 = q - n.size := ⟨_, rfl⟩
  have hw1 : wrap64 (q - n.size) = q1 := by rw [hq1]; exact Small.wrap_id (by omega) (by omega)
  obtain ⟨q2, hq2⟩ : ∃ q2, q2 = q1 - xs.length := ⟨_, rfl⟩
  obtain ⟨q3, hq3⟩ : ∃ q3, q3 = q2 - ys.length := ⟨_, rfl⟩
  have E1 : Hid ((if (xs.length : Int) ≤ q1 then q1 - xs.length else -1) = q2) := (if_pos (by omega)).trans hq2.symm
  have HQ1 : Hid (0 ≤ q1 ∧ q1 ≤ 1048576) := ⟨by omega, by omega⟩
  have E2 : Hid ((if (ys.length : Int) ≤ q2 then q2 - ys.length else -1) = q3) := (if_pos (by omega)).trans hq3.symm
  have HQ2 : Hid (0 ≤ q2 ∧ q2 ≤ 1048576) := ⟨by omega, by omega⟩
  have n2 : decide (q2 < 0) = false := decide_eq_false (by omega)
  have HR : Hid (q - n.size - xs.length - ys.length = q3) := by simp only [Hid]; omega
  have n3 : decide (q3 < 0) = false := decide_eq_false (by omega)
  rw [HR.out]
  have n1 : decide (q1 < 0) = false := decide_eq_false (by omega)
  have HX := hid hxl
  have HY := hid hyl
  have HH1 := hid h1
  have HH2 := hid h2
  have HN := hid hn
  have hnk : n.size ≤ 9223372036854775807 := by unfold maxLen at hn; omega
  obtain ⟨ao1, cap1, rfl, hc1, hm1, _⟩ := h1
  obtain ⟨ao2, cap2, rfl, hc2, hm2, _⟩ := h2
  clear hc1 hm1 hc2 hm2 hn
  clear hq1 hq g1 hxl hyl hnl g2 g3 hq2 hq3
  go_enter Try.func45, Try.ntmps45
  go_wp2_with fail
  obtain ⟨w1, hW⟩ : ∃ w1, w1 = w.alloc (Obj.cells #[.string n, .int .i64 s, .int .i64 r, .slice ao1 xs.length cap1, .int .i64 s2, .int .i64 r2, .slice ao2 ys.length cap2] 65) := ⟨_, rfl⟩
  obtain ⟨g, hN⟩ : ∃ g, g = w.heap.size := ⟨_, rfl⟩
  have st : Below w.heap.size w w1 ∧ w1.cell? ⟨g, 0, none⟩ = some (.string n) ∧ w1.cell? ⟨g, 1, none⟩ = some (.int .i64 s) ∧ w1.cell? ⟨g, 2, none⟩ = some (.int .i64 r) ∧ w1.cell? ⟨g, 3, none⟩ = some (.slice ao1 xs.length cap1) ∧ w1.cell? ⟨g, 4, none⟩ = some (.int .i64 s2) ∧ w1.cell? ⟨g, 5, none⟩ = some (.int .i64 r2) ∧ w1.cell? ⟨g, 6, none⟩ = some (.slice ao2 ys.length cap2) := by
    rw [hW, hN]
    exact ⟨below1 _ _, by simp, by simp, by simp, by simp, by simp, by simp, by simp⟩
  have HG : Hid (g = w.heap.size) := hN
  simp only [← hW, ← hN]
  clear hW hN
  have HC := hid st
  have c0 := st.2.1
  have c1 := st.2.2.1
  have c2 := st.2.2.2.1
  have c3 := st.2.2.2.2.1
  clear st
  go_wp2_with fail
  go_at_call 26
  refine (HelpQ.szR HX.out HQ1.out.1 HQ1.out.2).mono ?_
  rw [E1.out]
  rintro e w2 ⟨rfl, bel⟩
  have HB2 := hid (HC.out.1.trans (bel.mono HC.out.1.size))
  have c4 := cell_keep bel HC.out.2.2.2.2.2.1
  have c5 := cell_keep bel HC.out.2.2.2.2.2.2.1
  have c6 := cell_keep bel HC.out.2.2.2.2.2.2.2
  clear bel c0 c1 c2 c3
  go_wp2_with fail
  go_at_call 13
  refine (szR HY.out HQ2.out.1 HQ2.out.2).mono ?_
  rw [E2.out]
  rintro e w3 ⟨rfl, bel⟩
  have HB3 := hid (HB2.out.trans (bel.mono HB2.out.size))
  clear bel
  go_wp2
  go_ret
  exact ⟨rfl, HB3.out⟩

set_option maxHeartbeats 4000000 in
theorem eqSv {w : World} {n : ByteArray} {s r s2 r2 : Int} {b1 b2 b3 b4 : Nat} {v1 v2 v3 v4 : Value} {xs ys : List Int} (h1 : Rd w b1 v1 xs) (h2 : Rd w b2 v2 ys) (h3 : Rd w b3 v3 xs) (h4 : Rd w b4 v4 ys) :
    Calls Try.prog 49 #[savV n s r v1 s2 r2 v2, savV n s r v3 s2 r2 v4] w fun e w' => e = .returned (.bool true) ∧ Below w.heap.size w w' := by
  have HH1 := hid h1
  have HH2 := hid h2
  have HH3 := hid h3
  have HH4 := hid h4
  obtain ⟨ao1, cap1, rfl, _, _, _⟩ := h1
  obtain ⟨ao2, cap2, rfl, _, _, _⟩ := h2
  obtain ⟨ao3, cap3, rfl, _, _, _⟩ := h3
  obtain ⟨ao4, cap4, rfl, _, _, _⟩ := h4
  go_enter Try.func49, Try.ntmps49
  go_wp2_with fail
  obtain ⟨W2, hW⟩ : ∃ W2, W2 = (w.alloc (Obj.cells #[.string n, .int .i64 s, .int .i64 r, .slice ao1 xs.length cap1, .int .i64 s2, .int .i64 r2, .slice ao2 ys.length cap2] 69)).alloc (Obj.cells #[.string n, .int .i64 s, .int .i64 r, .slice ao3 xs.length cap3, .int .i64 s2, .int .i64 r2, .slice ao4 ys.length cap4] 69) := ⟨_, rfl⟩
  obtain ⟨NA, hA⟩ : ∃ NA, NA = w.heap.size := ⟨_, rfl⟩
  obtain ⟨NB, hB⟩ : ∃ NB, NB = NA + 1 := ⟨_, rfl⟩
  have B2 : Below w.heap.size w W2 := by rw [hW]; exact Go.Joins.below_alloc2 _ _ _
  have kA : W2.heap[NA]? = some (Obj.cells #[.string n, .int .i64 s, .int .i64 r, .slice ao1 xs.length cap1, .int .i64 s2, .int .i64 r2, .slice ao2 ys.length cap2] 69) := by rw [hW]; exact FNew.heap_old (FNew.heap_top hA)
  have kB : W2.heap[NB]? = some (Obj.cells #[.string n, .int .i64 s, .int .i64 r, .slice ao3 xs.length cap3, .int .i64 s2, .int .i64 r2, .slice ao4 ys.length cap4] 69) := by rw [hW]; exact FNew.heap_top (by rw [hB, hA]; simp)
  simp only [← hW, ← hA, ← hB]
  clear hW hA hB
  have c1 : W2.cell? ⟨NA, 1, none⟩ = some (.int .i64 s) := Go.Joins.cell_of_block kA 1
  have c2 : W2.cell? ⟨NA, 2, none⟩ = some (.int .i64 r) := Go.Joins.cell_of_block kA 2
  have c3 : W2.cell? ⟨NA, 3, none⟩ = some (.slice ao1 xs.length cap1) := Go.Joins.cell_of_block kA 3
  have d1 : W2.cell? ⟨NB, 1, none⟩ = some (.int .i64 s) := Go.Joins.cell_of_block kB 1
  have d2 : W2.cell? ⟨NB, 2, none⟩ = some (.int .i64 r) := Go.Joins.cell_of_block kB 2
  have d3 : W2.cell? ⟨NB, 3, none⟩ = some (.slice ao3 xs.length cap3) := Go.Joins.cell_of_block kB 3
  have c0 : W2.cell? ⟨NA, 0, none⟩ = some (.string n) := Go.Joins.cell_of_block kA 0
  have d0 : W2.cell? ⟨NB, 0, none⟩ = some (.string n) := Go.Joins.cell_of_block kB 0
  have HK := hid (And.intro kA (And.intro kB B2))
  clear kA kB B2
  go_wp2_with fail
  go_at_call 30
  refine (HelpQ.eqR (HH1.out.keep HK.out.2.2 (Nat.le_refl _)) (HH3.out.keep HK.out.2.2 (Nat.le_refl _))).mono ?_
  rintro e w3 ⟨rfl, bel⟩
  have kA := heap_keep bel HK.out.1
  have kB := heap_keep bel HK.out.2.1
  have HB3 := hid (HK.out.2.2.trans (bel.mono HK.out.2.2.size))
  clear c1 c2 c3 d1 d2 d3 c0 d0 bel
  have c1 : w3.cell? ⟨NA, 4, none⟩ = some (.int .i64 s2) := Go.Joins.cell_of_block kA 4
  have c2 : w3.cell? ⟨NA, 5, none⟩ = some (.int .i64 r2) := Go.Joins.cell_of_block kA 5
  have c3 : w3.cell? ⟨NA, 6, none⟩ = some (.slice ao2 ys.length cap2) := Go.Joins.cell_of_block kA 6
  have d1 : w3.cell? ⟨NB, 4, none⟩ = some (.int .i64 s2) := Go.Joins.cell_of_block kB 4
  have d2 : w3.cell? ⟨NB, 5, none⟩ = some (.int .i64 r2) := Go.Joins.cell_of_block kB 5
  have d3 : w3.cell? ⟨NB, 6, none⟩ = some (.slice ao4 ys.length cap4) := Go.Joins.cell_of_block kB 6
  clear kA kB
  go_wp2_with fail
  go_at_call 17
  refine (eqR (HH2.out.keep HB3.out (Nat.le_refl _)) (HH4.out.keep HB3.out (Nat.le_refl _))).mono ?_
  rintro e w4 ⟨rfl, bel⟩
  have HB4 := hid (HB3.out.trans (bel.mono HB3.out.size))
  clear bel
  go_wp2
  go_ret
  exact ⟨rfl, HB4.out⟩

end Go.Proofs.Ythcbhbdgbiiagaa.SavK
