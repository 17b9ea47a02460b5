/- Two desks: SameDesk of both sides. -/
import Derived.Test.YtonghkooncmjgaaDsk
import Derived.Test.YtonghkooncmjgaaRSame
import Derived.Test.YtonghkooncmjgaaDsO
namespace Go.Proofs.Ytonghkooncmjgaa.DskS
open Go.RowKit Go.Proofs.Ytonghkooncmjgaa.Rd Go.Proofs.Ytonghkooncmjgaa.Help Go.Proofs.Ytonghkooncmjgaa.Keep Go.Proofs.Ytonghkooncmjgaa.Rule Go.Proofs.Ytonghkooncmjgaa.Dsk
set_option linter.unusedVariables false
set_option linter.unusedSimpArgs false

def sameB (s r s2 r2 : Int) (z1 z2 z3 z4 z5 : List Int) (s' r' s2' r2' : Int) (y1 y2 y3 y4 y5 : List Int) : Bool :=
  RSame.sameB s r z1 s' r' y1 && (Same.eqLB z2 y2 && (Same.sameB s2 r2 z3 s2' r2' y3 && LSame.sameL z4 z5 y4 y5))
set_option maxHeartbeats 8000000 in
theorem spec {w : World} {s r s2 r2 s' r' s2' r2' : Int} {b1 b2 b3 b4 b5 d1 d2 d3 d4 d5 : Nat} {v1 v2 v3 v4 v5 u1 u2 u3 u4 u5 : Value} {z1 z2 z3 z4 z5 y1 y2 y3 y4 y5 : List Int} (h1 : Rd w b1 v1 z1) (h2 : Rd w b2 v2 z2) (h3 : Rd w b3 v3 z3) (h4 : Rd w b4 v4 z4) (h5 : Rd w b5 v5 z5) (g1 : Rd w d1 u1 y1) (g2 : Rd w d2 u2 y2) (g3 : Rd w d3 u3 y3) (g4 : Rd w d4 u4 y4) (g5 : Rd w d5 u5 y5) :
    Calls Try.prog 22 #[deskV s r v1 v2 s2 r2 v3 v4 v5, deskV s' r' u1 u2 s2' r2' u3 u4 u5] w fun e w' => e = .returned (.bool (sameB s r s2 r2 z1 z2 z3 z4 z5 s' r' s2' r2' y1 y2 y3 y4 y5)) ∧ Below w.heap.size w w' := by
  obtain ⟨p1, hp1⟩ : ∃ p, p = RSame.sameB s r z1 s' r' y1 := ⟨_, rfl⟩
  obtain ⟨p2, hp2⟩ : ∃ p, p = Same.eqLB z2 y2 := ⟨_, rfl⟩
  obtain ⟨p3, hp3⟩ : ∃ p, p = Same.sameB s2 r2 z3 s2' r2' y3 := ⟨_, rfl⟩
  obtain ⟨p4, hp4⟩ : ∃ p, p = LSame.sameL z4 z5 y4 y5 := ⟨_, rfl⟩
  have HV : Hid (sameB s r s2 r2 z1 z2 z3 z4 z5 s' r' s2' r2' y1 y2 y3 y4 y5 = (p1 && (p2 && (p3 && p4)))) := by simp only [Hid, sameB, hp1, hp2, hp3, hp4]
  have HP1 := hid hp1
  have HP2 := hid hp2
  have HP3 := hid hp3
  have HP4 := hid hp4
  rw [HV.out]
  clear hp1 hp2 hp3 hp4 HV
  have HH1 := hid h1
  have HH2 := hid h2
  have HH3 := hid h3
  have HH4 := hid h4
  have HH5 := hid h5
  obtain ⟨ao1, cap1, rfl, hc1, hm1, _⟩ := h1
  obtain ⟨ao2, cap2, rfl, hc2, hm2, _⟩ := h2
  obtain ⟨ao3, cap3, rfl, hc3, hm3, _⟩ := h3
  obtain ⟨ao4, cap4, rfl, hc4, hm4, _⟩ := h4
  obtain ⟨ao5, cap5, rfl, hc5, hm5, _⟩ := h5
  clear hc1 hm1 hc2 hm2 hc3 hm3 hc4 hm4 hc5 hm5
  have GG1 := hid g1
  have GG2 := hid g2
  have GG3 := hid g3
  have GG4 := hid g4
  have GG5 := hid g5
  obtain ⟨bo1, dap1, rfl, hc1, hm1, _⟩ := g1
  obtain ⟨bo2, dap2, rfl, hc2, hm2, _⟩ := g2
  obtain ⟨bo3, dap3, rfl, hc3, hm3, _⟩ := g3
  obtain ⟨bo4, dap4, rfl, hc4, hm4, _⟩ := g4
  obtain ⟨bo5, dap5, rfl, hc5, hm5, _⟩ := g5
  clear hc1 hm1 hc2 hm2 hc3 hm3 hc4 hm4 hc5 hm5
  go_enter Try.func22, Try.ntmps22
  go_wp2_with fail
  obtain ⟨w1, hW⟩ : ∃ x, x = (w.alloc (Obj.cells #[.int .i64 s, .int .i64 r, .slice ao1 z1.length cap1, .slice ao2 z2.length cap2, .int .i64 s2, .int .i64 r2, .slice ao3 z3.length cap3, .slice ao4 z4.length cap4, .slice ao5 z5.length cap5] 37)).alloc (Obj.cells #[.int .i64 s', .int .i64 r', .slice bo1 y1.length dap1, .slice bo2 y2.length dap2, .int .i64 s2', .int .i64 r2', .slice bo3 y3.length dap3, .slice bo4 y4.length dap4, .slice bo5 y5.length dap5] 37) := ⟨_, rfl⟩
  obtain ⟨NA, hA⟩ : ∃ NA, NA = w.heap.size := ⟨_, rfl⟩
  obtain ⟨NB, hB⟩ : ∃ NB, NB = NA + 1 := ⟨_, rfl⟩
  have HB1 : Hid (Below w.heap.size w w1) := by simp only [Hid]; rw [hW]; exact Go.Joins.below_alloc2 _ _ _
  have kA : w1.heap[NA]? = some (Obj.cells #[.int .i64 s, .int .i64 r, .slice ao1 z1.length cap1, .slice ao2 z2.length cap2, .int .i64 s2, .int .i64 r2, .slice ao3 z3.length cap3, .slice ao4 z4.length cap4, .slice ao5 z5.length cap5] 37) := by rw [hW]; exact FNew.heap_old (FNew.heap_top hA)
  have kB : w1.heap[NB]? = some (Obj.cells #[.int .i64 s', .int .i64 r', .slice bo1 y1.length dap1, .slice bo2 y2.length dap2, .int .i64 s2', .int .i64 r2', .slice bo3 y3.length dap3, .slice bo4 y4.length dap4, .slice bo5 y5.length dap5] 37) := by rw [hW]; exact FNew.heap_top (by rw [hB, hA]; simp)
  simp only [← hW, ← hA, ← hB]
  clear hW hA hB
  have a0 : w1.cell? ⟨NA, 0, none⟩ = some (.int .i64 s) := Go.Joins.cell_of_block kA 0
  have a1 : w1.cell? ⟨NA, 1, none⟩ = some (.int .i64 r) := Go.Joins.cell_of_block kA 1
  have a2 : w1.cell? ⟨NA, 2, none⟩ = some (.slice ao1 z1.length cap1) := Go.Joins.cell_of_block kA 2
  have e0 : w1.cell? ⟨NB, 0, none⟩ = some (.int .i64 s') := Go.Joins.cell_of_block kB 0
  have e1 : w1.cell? ⟨NB, 1, none⟩ = some (.int .i64 r') := Go.Joins.cell_of_block kB 1
  have e2 : w1.cell? ⟨NB, 2, none⟩ = some (.slice bo1 y1.length dap1) := Go.Joins.cell_of_block kB 2
  go_at_call 77
  refine (RSame.l02Same a0 a1 a2 e0 e1 e2 (HH1.out.keep HB1.out (Nat.le_refl _)) (GG1.out.keep HB1.out (Nat.le_refl _))).mono ?_
  rw [← HP1.out]
  rintro e w2 ⟨rfl, m, hm⟩
  have bel : Below w1.heap.size w1 w2 := by rw [hm]; exact below_d _ _ _
  clear hm
  have HB2 := hid (HB1.out.trans (bel.mono HB1.out.size))
  replace kA := heap_keep bel kA
  replace kB := heap_keep bel kB
  clear bel a0 e0 a1 e1 a2 e2
  cases p1 with
  | false =>
    clear kA kB
    go_wp2
    go_ret
    exact ⟨rfl, HB2.out⟩
  | true =>
    skip
    have a3 : w2.cell? ⟨NA, 3, none⟩ = some (.slice ao2 z2.length cap2) := Go.Joins.cell_of_block kA 3
    have e3 : w2.cell? ⟨NB, 3, none⟩ = some (.slice bo2 y2.length dap2) := Go.Joins.cell_of_block kB 3
    try (go_wp2_with fail)
    go_at_call 78
    refine (Same.specEqual (HH2.out.keep HB2.out (Nat.le_refl _)) (GG2.out.keep HB2.out (Nat.le_refl _))).mono ?_
    rw [← HP2.out]
    rintro e w3 ⟨rfl, m, hm⟩
    have bel : Below w2.heap.size w2 w3 := by rw [hm]; exact below_d _ _ _
    clear hm
    have HB3 := hid (HB2.out.trans (bel.mono HB2.out.size))
    replace kA := heap_keep bel kA
    replace kB := heap_keep bel kB
    clear bel a3 e3
    cases p2 with
    | false =>
      clear kA kB
      go_wp2
      go_ret
      exact ⟨rfl, HB3.out⟩
    | true =>
      skip
      have a4 : w3.cell? ⟨NA, 4, none⟩ = some (.int .i64 s2) := Go.Joins.cell_of_block kA 4
      have a5 : w3.cell? ⟨NA, 5, none⟩ = some (.int .i64 r2) := Go.Joins.cell_of_block kA 5
      have a6 : w3.cell? ⟨NA, 6, none⟩ = some (.slice ao3 z3.length cap3) := Go.Joins.cell_of_block kA 6
      have e4 : w3.cell? ⟨NB, 4, none⟩ = some (.int .i64 s2') := Go.Joins.cell_of_block kB 4
      have e5 : w3.cell? ⟨NB, 5, none⟩ = some (.int .i64 r2') := Go.Joins.cell_of_block kB 5
      have e6 : w3.cell? ⟨NB, 6, none⟩ = some (.slice bo3 y3.length dap3) := Go.Joins.cell_of_block kB 6
      try (go_wp2_with fail)
      go_at_call 79
      refine (DsO.fsame (o := 4) a4 a5 a6 e4 e5 e6 (HH3.out.keep HB3.out (Nat.le_refl _)) (GG3.out.keep HB3.out (Nat.le_refl _))).mono ?_
      rw [← HP3.out]
      rintro e w4 ⟨rfl, m, hm⟩
      have bel : Below w3.heap.size w3 w4 := by rw [hm]; exact below_d _ _ _
      clear hm
      have HB4 := hid (HB3.out.trans (bel.mono HB3.out.size))
      replace kA := heap_keep bel kA
      replace kB := heap_keep bel kB
      clear bel a4 e4 a5 e5 a6 e6
      cases p3 with
      | false =>
        clear kA kB
        go_wp2
        go_ret
        exact ⟨rfl, HB4.out⟩
      | true =>
        skip
        have a7 : w4.cell? ⟨NA, 7, none⟩ = some (.slice ao4 z4.length cap4) := Go.Joins.cell_of_block kA 7
        have a8 : w4.cell? ⟨NA, 8, none⟩ = some (.slice ao5 z5.length cap5) := Go.Joins.cell_of_block kA 8
        have e7 : w4.cell? ⟨NB, 7, none⟩ = some (.slice bo4 y4.length dap4) := Go.Joins.cell_of_block kB 7
        have e8 : w4.cell? ⟨NB, 8, none⟩ = some (.slice bo5 y5.length dap5) := Go.Joins.cell_of_block kB 8
        try (go_wp2_with fail)
        go_at_call 80
        refine (DsO.lsame (o := 7) a7 a8 e7 e8 (HH4.out.keep HB4.out (Nat.le_refl _)) (HH5.out.keep HB4.out (Nat.le_refl _)) (GG4.out.keep HB4.out (Nat.le_refl _)) (GG5.out.keep HB4.out (Nat.le_refl _))).mono ?_
        rw [← HP4.out]
        rintro e w5 ⟨rfl, m, hm⟩
        have bel : Below w4.heap.size w4 w5 := by rw [hm]; exact below_d _ _ _
        clear hm
        have HB5 := hid (HB4.out.trans (bel.mono HB4.out.size))
        replace kA := heap_keep bel kA
        replace kB := heap_keep bel kB
        clear bel a7 e7 a8 e8
        clear kA kB
        go_wp2
        go_ret
        exact ⟨rfl, HB5.out⟩

set_option maxHeartbeats 8000000 in
theorem impl {w : World} {s r s2 r2 s' r' s2' r2' : Int} {b1 b2 b3 b4 b5 d1 d2 d3 d4 d5 : Nat} {v1 v2 v3 v4 v5 u1 u2 u3 u4 u5 : Value} {z1 z2 z3 z4 z5 y1 y2 y3 y4 y5 : List Int} (h1 : Rd w b1 v1 z1) (h2 : Rd w b2 v2 z2) (h3 : Rd w b3 v3 z3) (h4 : Rd w b4 v4 z4) (h5 : Rd w b5 v5 z5) (g1 : Rd w d1 u1 y1) (g2 : Rd w d2 u2 y2) (g3 : Rd w d3 u3 y3) (g4 : Rd w d4 u4 y4) (g5 : Rd w d5 u5 y5) :
    Calls Try.prog 23 #[deskV s r v1 v2 s2 r2 v3 v4 v5, deskV s' r' u1 u2 s2' r2' u3 u4 u5] w fun e w' => e = .returned (.bool (sameB s r s2 r2 z1 z2 z3 z4 z5 s' r' s2' r2' y1 y2 y3 y4 y5)) ∧ Below w.heap.size w w' := by
  obtain ⟨p1, hp1⟩ : ∃ p, p = RSame.sameB s r z1 s' r' y1 := ⟨_, rfl⟩
  obtain ⟨p2, hp2⟩ : ∃ p, p = Same.eqLB z2 y2 := ⟨_, rfl⟩
  obtain ⟨p3, hp3⟩ : ∃ p, p = Same.sameB s2 r2 z3 s2' r2' y3 := ⟨_, rfl⟩
  obtain ⟨p4, hp4⟩ : ∃ p, p = LSame.sameL z4 z5 y4 y5 := ⟨_, rfl⟩
  have HV : Hid (sameB s r s2 r2 z1 z2 z3 z4 z5 s' r' s2' r2' y1 y2 y3 y4 y5 = (p1 && (p2 && (p3 && p4)))) := by simp only [Hid, sameB, hp1, hp2, hp3, hp4]
  have HP1 := hid hp1
  have HP2 := hid hp2
  have HP3 := hid hp3
  have HP4 := hid hp4
  rw [HV.out]
  clear hp1 hp2 hp3 hp4 HV
  have HH1 := hid h1
  have HH2 := hid h2
  have HH3 := hid h3
  have HH4 := hid h4
  have HH5 := hid h5
  obtain ⟨ao1, cap1, rfl, hc1, hm1, _⟩ := h1
  obtain ⟨ao2, cap2, rfl, hc2, hm2, _⟩ := h2
  obtain ⟨ao3, cap3, rfl, hc3, hm3, _⟩ := h3
  obtain ⟨ao4, cap4, rfl, hc4, hm4, _⟩ := h4
  obtain ⟨ao5, cap5, rfl, hc5, hm5, _⟩ := h5
  clear hc1 hm1 hc2 hm2 hc3 hm3 hc4 hm4 hc5 hm5
  have GG1 := hid g1
  have GG2 := hid g2
  have GG3 := hid g3
  have GG4 := hid g4
  have GG5 := hid g5
  obtain ⟨bo1, dap1, rfl, hc1, hm1, _⟩ := g1
  obtain ⟨bo2, dap2, rfl, hc2, hm2, _⟩ := g2
  obtain ⟨bo3, dap3, rfl, hc3, hm3, _⟩ := g3
  obtain ⟨bo4, dap4, rfl, hc4, hm4, _⟩ := g4
  obtain ⟨bo5, dap5, rfl, hc5, hm5, _⟩ := g5
  clear hc1 hm1 hc2 hm2 hc3 hm3 hc4 hm4 hc5 hm5
  go_enter Try.func23, Try.ntmps23
  go_wp2_with fail
  obtain ⟨w1, hW⟩ : ∃ x, x = (w.alloc (Obj.cells #[.int .i64 s, .int .i64 r, .slice ao1 z1.length cap1, .slice ao2 z2.length cap2, .int .i64 s2, .int .i64 r2, .slice ao3 z3.length cap3, .slice ao4 z4.length cap4, .slice ao5 z5.length cap5] 37)).alloc (Obj.cells #[.int .i64 s', .int .i64 r', .slice bo1 y1.length dap1, .slice bo2 y2.length dap2, .int .i64 s2', .int .i64 r2', .slice bo3 y3.length dap3, .slice bo4 y4.length dap4, .slice bo5 y5.length dap5] 37) := ⟨_, rfl⟩
  obtain ⟨NA, hA⟩ : ∃ NA, NA = w.heap.size := ⟨_, rfl⟩
  obtain ⟨NB, hB⟩ : ∃ NB, NB = NA + 1 := ⟨_, rfl⟩
  have HB1 : Hid (Below w.heap.size w w1) := by simp only [Hid]; rw [hW]; exact Go.Joins.below_alloc2 _ _ _
  have kA : w1.heap[NA]? = some (Obj.cells #[.int .i64 s, .int .i64 r, .slice ao1 z1.length cap1, .slice ao2 z2.length cap2, .int .i64 s2, .int .i64 r2, .slice ao3 z3.length cap3, .slice ao4 z4.length cap4, .slice ao5 z5.length cap5] 37) := by rw [hW]; exact FNew.heap_old (FNew.heap_top hA)
  have kB : w1.heap[NB]? = some (Obj.cells #[.int .i64 s', .int .i64 r', .slice bo1 y1.length dap1, .slice bo2 y2.length dap2, .int .i64 s2', .int .i64 r2', .slice bo3 y3.length dap3, .slice bo4 y4.length dap4, .slice bo5 y5.length dap5] 37) := by rw [hW]; exact FNew.heap_top (by rw [hB, hA]; simp)
  simp only [← hW, ← hA, ← hB]
  clear hW hA hB
  have a0 : w1.cell? ⟨NA, 0, none⟩ = some (.int .i64 s) := Go.Joins.cell_of_block kA 0
  have a1 : w1.cell? ⟨NA, 1, none⟩ = some (.int .i64 r) := Go.Joins.cell_of_block kA 1
  have a2 : w1.cell? ⟨NA, 2, none⟩ = some (.slice ao1 z1.length cap1) := Go.Joins.cell_of_block kA 2
  have e0 : w1.cell? ⟨NB, 0, none⟩ = some (.int .i64 s') := Go.Joins.cell_of_block kB 0
  have e1 : w1.cell? ⟨NB, 1, none⟩ = some (.int .i64 r') := Go.Joins.cell_of_block kB 1
  have e2 : w1.cell? ⟨NB, 2, none⟩ = some (.slice bo1 y1.length dap1) := Go.Joins.cell_of_block kB 2
  go_at_call 81
  refine (RSame.impl_two (HH1.out.keep HB1.out (Nat.le_refl _)) (GG1.out.keep HB1.out (Nat.le_refl _))).mono ?_
  rw [← HP1.out]
  rintro e w2 ⟨rfl, bel⟩
  have HB2 := hid (HB1.out.trans (bel.mono HB1.out.size))
  replace kA := heap_keep bel kA
  replace kB := heap_keep bel kB
  clear bel a0 e0 a1 e1 a2 e2
  cases p1 with
  | false =>
    clear kA kB
    go_wp2
    go_ret
    exact ⟨rfl, HB2.out⟩
  | true =>
    skip
    have a3 : w2.cell? ⟨NA, 3, none⟩ = some (.slice ao2 z2.length cap2) := Go.Joins.cell_of_block kA 3
    have e3 : w2.cell? ⟨NB, 3, none⟩ = some (.slice bo2 y2.length dap2) := Go.Joins.cell_of_block kB 3
    try (go_wp2_with fail)
    go_at_call 82
    refine (Same.implEqual (HH2.out.keep HB2.out (Nat.le_refl _)) (GG2.out.keep HB2.out (Nat.le_refl _))).mono ?_
    rw [← HP2.out]
    rintro e w3 ⟨rfl, m, hm⟩
    have bel : Below w2.heap.size w2 w3 := by rw [hm]; exact below_d _ _ _
    clear hm
    have HB3 := hid (HB2.out.trans (bel.mono HB2.out.size))
    replace kA := heap_keep bel kA
    replace kB := heap_keep bel kB
    clear bel a3 e3
    cases p2 with
    | false =>
      clear kA kB
      go_wp2
      go_ret
      exact ⟨rfl, HB3.out⟩
    | true =>
      skip
      have a4 : w3.cell? ⟨NA, 4, none⟩ = some (.int .i64 s2) := Go.Joins.cell_of_block kA 4
      have a5 : w3.cell? ⟨NA, 5, none⟩ = some (.int .i64 r2) := Go.Joins.cell_of_block kA 5
      have a6 : w3.cell? ⟨NA, 6, none⟩ = some (.slice ao3 z3.length cap3) := Go.Joins.cell_of_block kA 6
      have e4 : w3.cell? ⟨NB, 4, none⟩ = some (.int .i64 s2') := Go.Joins.cell_of_block kB 4
      have e5 : w3.cell? ⟨NB, 5, none⟩ = some (.int .i64 r2') := Go.Joins.cell_of_block kB 5
      have e6 : w3.cell? ⟨NB, 6, none⟩ = some (.slice bo3 y3.length dap3) := Go.Joins.cell_of_block kB 6
      try (go_wp2_with fail)
      go_at_call 83
      refine (Same.impl_two (HH3.out.keep HB3.out (Nat.le_refl _)) (GG3.out.keep HB3.out (Nat.le_refl _))).mono ?_
      rw [← HP3.out]
      rintro e w4 ⟨rfl, bel⟩
      have HB4 := hid (HB3.out.trans (bel.mono HB3.out.size))
      replace kA := heap_keep bel kA
      replace kB := heap_keep bel kB
      clear bel a4 e4 a5 e5 a6 e6
      cases p3 with
      | false =>
        clear kA kB
        go_wp2
        go_ret
        exact ⟨rfl, HB4.out⟩
      | true =>
        skip
        have a7 : w4.cell? ⟨NA, 7, none⟩ = some (.slice ao4 z4.length cap4) := Go.Joins.cell_of_block kA 7
        have a8 : w4.cell? ⟨NA, 8, none⟩ = some (.slice ao5 z5.length cap5) := Go.Joins.cell_of_block kA 8
        have e7 : w4.cell? ⟨NB, 7, none⟩ = some (.slice bo4 y4.length dap4) := Go.Joins.cell_of_block kB 7
        have e8 : w4.cell? ⟨NB, 8, none⟩ = some (.slice bo5 y5.length dap5) := Go.Joins.cell_of_block kB 8
        try (go_wp2_with fail)
        go_at_call 84
        refine (LSame.impl_two (HH4.out.keep HB4.out (Nat.le_refl _)) (HH5.out.keep HB4.out (Nat.le_refl _)) (GG4.out.keep HB4.out (Nat.le_refl _)) (GG5.out.keep HB4.out (Nat.le_refl _))).mono ?_
        rw [← HP4.out]
        rintro e w5 ⟨rfl, bel⟩
        have HB5 := hid (HB4.out.trans (bel.mono HB4.out.size))
        replace kA := heap_keep bel kA
        replace kB := heap_keep bel kB
        clear bel a7 e7 a8 e8
        clear kA kB
        go_wp2
        go_ret
        exact ⟨rfl, HB5.out⟩

end Go.Proofs.Ytonghkooncmjgaa.DskS
