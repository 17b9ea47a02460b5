/- A desk: the law's helpers. -/
import Derived.Test.YtonghkooncmjgaaDsk
import Derived.WideShapes
namespace Go.Proofs.Ytonghkooncmjgaa.DskK
open Go.RowKit Go.Proofs.Ytonghkooncmjgaa.Rd Go.Proofs.Ytonghkooncmjgaa.Help Go.Proofs.Ytonghkooncmjgaa.Keep Go.Proofs.Ytonghkooncmjgaa.Rule Go.Proofs.Ytonghkooncmjgaa.Dsk
set_option linter.unusedVariables false
set_option linter.unusedSimpArgs false

theorem lif {n : Nat} {q : Int} (hq : 0 ≤ q ∧ q ≤ 1048576) : ∃ q', q' = (if (n : Int) ≤ q then q - n else -1) ∧ ((q' = -1 ∧ q < n) ∨ (0 ≤ q' ∧ q' ≤ 1048576 ∧ n ≤ 1048576 ∧ q' = q - n)) := by
  refine ⟨_, rfl, ?_⟩
  by_cases h : (n : Int) ≤ q
  · rw [if_pos h]; exact .inr (by omega)
  · rw [if_neg h]; exact .inl (by omega)
theorem szL {w : World} {ao1 ao2 : Option Addr} {n m c1 c2 : Nat} {q : Int} (hn : n ≤ 9223372036854775807) (hm : m ≤ 9223372036854775807) (h0 : 0 ≤ q) (hq : q ≤ 1048576) :
    Calls Try.prog 32 #[lifeV (.slice ao1 n c1) (.slice ao2 m c2), .int .i64 q] w fun e w' => e = .returned (.int .i64 (if ((n + m : Nat) : Int) ≤ q then q - ((n + m : Nat) : Int) else -1)) ∧ Below w.heap.size w w' := by
  by_cases h : ((n + m : Nat) : Int) ≤ q
  · rw [if_pos h]
    refine (szL_ok hn hm h0 hq (by omega)).mono ?_
    rintro e w' ⟨rfl, bel⟩
    exact ⟨by congr 2; omega, bel⟩
  · rw [if_neg h]
    exact szL_no hn hm h0 hq (by omega)

set_option maxHeartbeats 4000000 in
theorem sz {w : World} {q : Int} {s r s2 r2 : Int} {b1 b2 b3 b4 b5 : Nat} {v1 v2 v3 v4 v5 : Value} {z1 z2 z3 z4 z5 : List Int} (h1 : Rd w b1 v1 z1) (h2 : Rd w b2 v2 z2) (h3 : Rd w b3 v3 z3) (h4 : Rd w b4 v4 z4) (h5 : Rd w b5 v5 z5) (hq : 0 ≤ q ∧ q ≤ 1048576) :
    Calls Try.prog 17 #[deskV s r v1 v2 s2 r2 v3 v4 v5, .int .i64 q] w fun e w' => ∃ q', e = .returned (.int .i64 q') ∧ (q' = -1 ∨ (0 ≤ q' ∧ q' ≤ 1048576 ∧ z1.length ≤ 1048576 ∧ z2.length ≤ 1048576 ∧ z3.length ≤ 1048576 ∧ z4.length ≤ 1048576 ∧ z5.length ≤ 1048576)) ∧ Below w.heap.size w w' := by
  have HL1 : Hid (z1.length ≤ 9223372036854775807) := by obtain ⟨_, _, _, a, b, _⟩ := h1; unfold maxLen at b; simp only [Hid]; omega
  have HL2 : Hid (z2.length ≤ 9223372036854775807) := by obtain ⟨_, _, _, a, b, _⟩ := h2; unfold maxLen at b; simp only [Hid]; omega
  have HL3 : Hid (z3.length ≤ 9223372036854775807) := by obtain ⟨_, _, _, a, b, _⟩ := h3; unfold maxLen at b; simp only [Hid]; omega
  have HL4 : Hid (z4.length ≤ 9223372036854775807) := by obtain ⟨_, _, _, a, b, _⟩ := h4; unfold maxLen at b; simp only [Hid]; omega
  have HL5 : Hid (z5.length ≤ 9223372036854775807) := by obtain ⟨_, _, _, a, b, _⟩ := h5; unfold maxLen at b; simp only [Hid]; omega
  have HQ0 : Hid (0 ≤ q ∧ q ≤ 1048576) := hq
  have HH1 := hid h1
  have HH2 := hid h2
  have HH3 := hid h3
  have HH4 := hid h4
  have HH5 := hid h5
  obtain ⟨ao1, cap1, rfl, hc1, hm1, _⟩ := h1
  obtain ⟨ao2, cap2, rfl, hc2, hm2, _⟩ := h2
  obtain ⟨ao3, cap3, rfl, hc3, hm3, _⟩ := h3
  obtain ⟨ao4, cap4, rfl, hc4, hm4, _⟩ := h4
  obtain ⟨ao5, cap5, rfl, hc5, hm5, _⟩ := h5
  clear hc1 hm1 hc2 hm2 hc3 hm3 hc4 hm4 hc5 hm5
  obtain ⟨q1, hq1, hc1⟩ := lif (n := z1.length) hq
  have HE1 := hid hq1.symm
  have HC1 := hid hc1
  clear hq hq1 hc1
  go_enter Try.func17, Try.ntmps17
  go_wp2_with fail
  obtain ⟨w1, hW⟩ : ∃ x, x = w.alloc (Obj.cells #[.int .i64 s, .int .i64 r, .slice ao1 z1.length cap1, .slice ao2 z2.length cap2, .int .i64 s2, .int .i64 r2, .slice ao3 z3.length cap3, .slice ao4 z4.length cap4, .slice ao5 z5.length cap5] 30) := ⟨_, rfl⟩
  obtain ⟨NA, hN⟩ : ∃ x, x = w.heap.size := ⟨_, rfl⟩
  have HB1 : Hid (Below w.heap.size w w1) := by simp only [Hid]; rw [hW]; exact below1 _ _
  have kA : w1.heap[NA]? = some (Obj.cells #[.int .i64 s, .int .i64 r, .slice ao1 z1.length cap1, .slice ao2 z2.length cap2, .int .i64 s2, .int .i64 r2, .slice ao3 z3.length cap3, .slice ao4 z4.length cap4, .slice ao5 z5.length cap5] 30) := by rw [hW]; exact FNew.heap_top hN
  simp only [← hW, ← hN]
  clear hW hN
  have a0 : w1.cell? ⟨NA, 0, none⟩ = some (.int .i64 s) := Go.Joins.cell_of_block kA 0
  have a1 : w1.cell? ⟨NA, 1, none⟩ = some (.int .i64 r) := Go.Joins.cell_of_block kA 1
  have a2 : w1.cell? ⟨NA, 2, none⟩ = some (.slice ao1 z1.length cap1) := Go.Joins.cell_of_block kA 2
  go_at_call 42
  refine (HelpQ.szR HL1.out HQ0.out.1 HQ0.out.2).mono ?_
  rw [HE1.out]
  rintro e w2 ⟨rfl, bel⟩
  have HB2 := hid (HB1.out.trans (bel.mono HB1.out.size))
  replace kA := heap_keep bel kA
  clear bel a0 a1 a2
  rcases HC1.out with ⟨hqe, _⟩ | hqe
  · have HX := hid hqe
    have n1 : decide (q1 < 0) = true := decide_eq_true (by omega)
    clear kA hqe
    go_wp2
    go_ret
    exact ⟨_, rfl, .inl rfl, HB2.out⟩
  · have HX1 := hid hqe
    have HQ1 : Hid (0 ≤ q1 ∧ q1 ≤ 1048576) := ⟨hqe.1, hqe.2.1⟩
    have n1 : decide (q1 < 0) = false := decide_eq_false (by omega)
    obtain ⟨q2, hq', hc'⟩ := lif (n := z2.length) HQ1.out
    have HE2 := hid hq'.symm
    have HC2 := hid hc'
    clear hqe hq' hc'
    have a3 : w2.cell? ⟨NA, 3, none⟩ = some (.slice ao2 z2.length cap2) := Go.Joins.cell_of_block kA 3
    go_wp2_with fail
    go_at_call 71
    refine (szS HL2.out HQ1.out.1 HQ1.out.2).mono ?_
    rw [HE2.out]
    rintro e w3 ⟨rfl, hE⟩
    have bel : Below w2.heap.size w2 w3 := hE ▸ Below.refl _ _
    clear hE
    have HB3 := hid (HB2.out.trans (bel.mono HB2.out.size))
    replace kA := heap_keep bel kA
    clear bel a3
    rcases HC2.out with ⟨hqe, _⟩ | hqe
    · have HX := hid hqe
      have n1 : decide (q2 < 0) = true := decide_eq_true (by omega)
      clear kA hqe
      go_wp2
      go_ret
      exact ⟨_, rfl, .inl rfl, HB3.out⟩
    · have HX2 := hid hqe
      have HQ2 : Hid (0 ≤ q2 ∧ q2 ≤ 1048576) := ⟨hqe.1, hqe.2.1⟩
      have n2 : decide (q2 < 0) = false := decide_eq_false (by omega)
      obtain ⟨q3, hq', hc'⟩ := lif (n := z3.length) HQ2.out
      have HE3 := hid hq'.symm
      have HC3 := hid hc'
      clear hqe hq' hc'
      have a4 : w3.cell? ⟨NA, 4, none⟩ = some (.int .i64 s2) := Go.Joins.cell_of_block kA 4
      have a5 : w3.cell? ⟨NA, 5, none⟩ = some (.int .i64 r2) := Go.Joins.cell_of_block kA 5
      have a6 : w3.cell? ⟨NA, 6, none⟩ = some (.slice ao3 z3.length cap3) := Go.Joins.cell_of_block kA 6
      go_wp2_with fail
      go_at_call 66
      refine (szR HL3.out HQ2.out.1 HQ2.out.2).mono ?_
      rw [HE3.out]
      rintro e w4 ⟨rfl, bel⟩
      have HB4 := hid (HB3.out.trans (bel.mono HB3.out.size))
      replace kA := heap_keep bel kA
      clear bel a4 a5 a6
      rcases HC3.out with ⟨hqe, _⟩ | hqe
      · have HX := hid hqe
        have n1 : decide (q3 < 0) = true := decide_eq_true (by omega)
        clear kA hqe
        go_wp2
        go_ret
        exact ⟨_, rfl, .inl rfl, HB4.out⟩
      · have HX3 := hid hqe
        have HQ3 : Hid (0 ≤ q3 ∧ q3 ≤ 1048576) := ⟨hqe.1, hqe.2.1⟩
        have n3 : decide (q3 < 0) = false := decide_eq_false (by omega)
        obtain ⟨q4, hq', hc'⟩ := lif (n := (z4.length + z5.length)) HQ3.out
        have HE4 := hid hq'.symm
        have HC4 := hid hc'
        clear hqe hq' hc'
        have a7 : w4.cell? ⟨NA, 7, none⟩ = some (.slice ao4 z4.length cap4) := Go.Joins.cell_of_block kA 7
        have a8 : w4.cell? ⟨NA, 8, none⟩ = some (.slice ao5 z5.length cap5) := Go.Joins.cell_of_block kA 8
        go_wp2_with fail
        go_at_call 32
        refine (szL HL4.out HL5.out HQ3.out.1 HQ3.out.2).mono ?_
        rw [HE4.out]
        rintro e w5 ⟨rfl, bel⟩
        have HB5 := hid (HB4.out.trans (bel.mono HB4.out.size))
        replace kA := heap_keep bel kA
        clear bel a7 a8
        rcases HC4.out with ⟨hqe, _⟩ | hqe
        · have HX := hid hqe
          have n1 : decide (q4 < 0) = true := decide_eq_true (by omega)
          clear kA hqe
          go_wp2
          go_ret
          exact ⟨_, rfl, .inl rfl, HB5.out⟩
        · have HX4 := hid hqe
          have n4 : decide (q4 < 0) = false := decide_eq_false (by omega)
          clear kA hqe
          go_wp2
          go_ret
          have x1 := HX1.out
          have x2 := HX2.out
          have x3 := HX3.out
          have x4 := HX4.out
          exact ⟨_, rfl, .inr (by omega), HB5.out⟩

set_option maxHeartbeats 4000000 in
theorem eqD {w : World} {s r s2 r2 : Int} {b1 b2 b3 b4 b5 d1 d2 d3 d4 d5 : Nat} {v1 v2 v3 v4 v5 u1 u2 u3 u4 u5 : Value} {z1 z2 z3 z4 z5 : List Int} (h1 : Rd w b1 v1 z1) (h2 : Rd w b2 v2 z2) (h3 : Rd w b3 v3 z3) (h4 : Rd w b4 v4 z4) (h5 : Rd w b5 v5 z5) (g1 : Rd w d1 u1 z1) (g2 : Rd w d2 u2 z2) (g3 : Rd w d3 u3 z3) (g4 : Rd w d4 u4 z4) (g5 : Rd w d5 u5 z5) :
    Calls Try.prog 21 #[deskV s r v1 v2 s2 r2 v3 v4 v5, deskV s r u1 u2 s2 r2 u3 u4 u5] w fun e w' => e = .returned (.bool true) ∧ Below w.heap.size w w' := by
  have HH1 := hid h1
  have HH2 := hid h2
  have HH3 := hid h3
  have HH4 := hid h4
  have HH5 := hid h5
  obtain ⟨ao1, cap1, rfl, hc1, hm1, _⟩ := h1
  obtain ⟨ao2, cap2, rfl, hc2, hm2, _⟩ := h2
  obtain ⟨ao3, cap3, rfl, hc3, hm3, _⟩ := h3
  obtain ⟨ao4, cap4, rfl, hc4, hm4, _⟩ := h4
  obtain ⟨ao5, cap5, rfl, hc5, hm5, _⟩ := h5
  clear hc1 hm1 hc2 hm2 hc3 hm3 hc4 hm4 hc5 hm5
  have GG1 := hid g1
  have GG2 := hid g2
  have GG3 := hid g3
  have GG4 := hid g4
  have GG5 := hid g5
  obtain ⟨bo1, dap1, rfl, hc1, hm1, _⟩ := g1
  obtain ⟨bo2, dap2, rfl, hc2, hm2, _⟩ := g2
  obtain ⟨bo3, dap3, rfl, hc3, hm3, _⟩ := g3
  obtain ⟨bo4, dap4, rfl, hc4, hm4, _⟩ := g4
  obtain ⟨bo5, dap5, rfl, hc5, hm5, _⟩ := g5
  clear hc1 hm1 hc2 hm2 hc3 hm3 hc4 hm4 hc5 hm5
  go_enter Try.func21, Try.ntmps21
  go_wp2_with fail
  obtain ⟨w1, hW⟩ : ∃ x, x = (w.alloc (Obj.cells #[.int .i64 s, .int .i64 r, .slice ao1 z1.length cap1, .slice ao2 z2.length cap2, .int .i64 s2, .int .i64 r2, .slice ao3 z3.length cap3, .slice ao4 z4.length cap4, .slice ao5 z5.length cap5] 37)).alloc (Obj.cells #[.int .i64 s, .int .i64 r, .slice bo1 z1.length dap1, .slice bo2 z2.length dap2, .int .i64 s2, .int .i64 r2, .slice bo3 z3.length dap3, .slice bo4 z4.length dap4, .slice bo5 z5.length dap5] 37) := ⟨_, rfl⟩
  obtain ⟨NA, hA⟩ : ∃ NA, NA = w.heap.size := ⟨_, rfl⟩
  obtain ⟨NB, hB⟩ : ∃ NB, NB = NA + 1 := ⟨_, rfl⟩
  have HB1 : Hid (Below w.heap.size w w1) := by simp only [Hid]; rw [hW]; exact Go.Joins.below_alloc2 _ _ _
  have kA : w1.heap[NA]? = some (Obj.cells #[.int .i64 s, .int .i64 r, .slice ao1 z1.length cap1, .slice ao2 z2.length cap2, .int .i64 s2, .int .i64 r2, .slice ao3 z3.length cap3, .slice ao4 z4.length cap4, .slice ao5 z5.length cap5] 37) := by rw [hW]; exact FNew.heap_old (FNew.heap_top hA)
  have kB : w1.heap[NB]? = some (Obj.cells #[.int .i64 s, .int .i64 r, .slice bo1 z1.length dap1, .slice bo2 z2.length dap2, .int .i64 s2, .int .i64 r2, .slice bo3 z3.length dap3, .slice bo4 z4.length dap4, .slice bo5 z5.length dap5] 37) := by rw [hW]; exact FNew.heap_top (by rw [hB, hA]; simp)
  simp only [← hW, ← hA, ← hB]
  clear hW hA hB
  have a0 : w1.cell? ⟨NA, 0, none⟩ = some (.int .i64 s) := Go.Joins.cell_of_block kA 0
  have a1 : w1.cell? ⟨NA, 1, none⟩ = some (.int .i64 r) := Go.Joins.cell_of_block kA 1
  have a2 : w1.cell? ⟨NA, 2, none⟩ = some (.slice ao1 z1.length cap1) := Go.Joins.cell_of_block kA 2
  have e0 : w1.cell? ⟨NB, 0, none⟩ = some (.int .i64 s) := Go.Joins.cell_of_block kB 0
  have e1 : w1.cell? ⟨NB, 1, none⟩ = some (.int .i64 r) := Go.Joins.cell_of_block kB 1
  have e2 : w1.cell? ⟨NB, 2, none⟩ = some (.slice bo1 z1.length dap1) := Go.Joins.cell_of_block kB 2
  go_at_call 46
  refine (HelpQ.eqR (HH1.out.keep HB1.out (Nat.le_refl _)) (GG1.out.keep HB1.out (Nat.le_refl _))).mono ?_
  rintro e w2 ⟨rfl, bel⟩
  have HB2 := hid (HB1.out.trans (bel.mono HB1.out.size))
  replace kA := heap_keep bel kA
  replace kB := heap_keep bel kB
  clear bel a0 e0 a1 e1 a2 e2
  have a3 : w2.cell? ⟨NA, 3, none⟩ = some (.slice ao2 z2.length cap2) := Go.Joins.cell_of_block kA 3
  have e3 : w2.cell? ⟨NB, 3, none⟩ = some (.slice bo2 z2.length dap2) := Go.Joins.cell_of_block kB 3
  go_wp2_with fail
  go_at_call 31
  refine (eqS (HH2.out.keep HB2.out (Nat.le_refl _)) (GG2.out.keep HB2.out (Nat.le_refl _))).mono ?_
  rintro e w3 ⟨rfl, m, hm⟩
  have bel : Below w2.heap.size w2 w3 := by rw [hm]; exact below_d _ _ _
  clear hm
  have HB3 := hid (HB2.out.trans (bel.mono HB2.out.size))
  replace kA := heap_keep bel kA
  replace kB := heap_keep bel kB
  clear bel a3 e3
  have a4 : w3.cell? ⟨NA, 4, none⟩ = some (.int .i64 s2) := Go.Joins.cell_of_block kA 4
  have a5 : w3.cell? ⟨NA, 5, none⟩ = some (.int .i64 r2) := Go.Joins.cell_of_block kA 5
  have a6 : w3.cell? ⟨NA, 6, none⟩ = some (.slice ao3 z3.length cap3) := Go.Joins.cell_of_block kA 6
  have e4 : w3.cell? ⟨NB, 4, none⟩ = some (.int .i64 s2) := Go.Joins.cell_of_block kB 4
  have e5 : w3.cell? ⟨NB, 5, none⟩ = some (.int .i64 r2) := Go.Joins.cell_of_block kB 5
  have e6 : w3.cell? ⟨NB, 6, none⟩ = some (.slice bo3 z3.length dap3) := Go.Joins.cell_of_block kB 6
  go_wp2_with fail
  go_at_call 63
  refine (eqR (HH3.out.keep HB3.out (Nat.le_refl _)) (GG3.out.keep HB3.out (Nat.le_refl _))).mono ?_
  rintro e w4 ⟨rfl, bel⟩
  have HB4 := hid (HB3.out.trans (bel.mono HB3.out.size))
  replace kA := heap_keep bel kA
  replace kB := heap_keep bel kB
  clear bel a4 e4 a5 e5 a6 e6
  have a7 : w4.cell? ⟨NA, 7, none⟩ = some (.slice ao4 z4.length cap4) := Go.Joins.cell_of_block kA 7
  have a8 : w4.cell? ⟨NA, 8, none⟩ = some (.slice ao5 z5.length cap5) := Go.Joins.cell_of_block kA 8
  have e7 : w4.cell? ⟨NB, 7, none⟩ = some (.slice bo4 z4.length dap4) := Go.Joins.cell_of_block kB 7
  have e8 : w4.cell? ⟨NB, 8, none⟩ = some (.slice bo5 z5.length dap5) := Go.Joins.cell_of_block kB 8
  go_wp2_with fail
  go_at_call 36
  refine (eqL (HH4.out.keep HB4.out (Nat.le_refl _)) (HH5.out.keep HB4.out (Nat.le_refl _)) (GG4.out.keep HB4.out (Nat.le_refl _)) (GG5.out.keep HB4.out (Nat.le_refl _))).mono ?_
  rintro e w5 ⟨rfl, bel⟩
  have HB5 := hid (HB4.out.trans (bel.mono HB4.out.size))
  replace kA := heap_keep bel kA
  replace kB := heap_keep bel kB
  clear bel a7 e7 a8 e8
  clear kA kB
  go_wp2
  go_ret
  exact ⟨rfl, HB5.out⟩

end Go.Proofs.Ytonghkooncmjgaa.DskK
