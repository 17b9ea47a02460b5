/- MeetFields, the program. -/
import Derived.Test.YtmbimekndhcgaaaMt
import Derived.Test.YtmbimekndhcgaaaGw
namespace Go.Proofs.Ytmbimekndhcgaaa.MtI
open Go.RowKit Go.Proofs.Ytmbimekndhcgaaa.Rd Go.Proofs.Ytmbimekndhcgaaa.Help Go.Proofs.Ytmbimekndhcgaaa.Ring Go.Proofs.Ytmbimekndhcgaaa.Small Go.Proofs.Ytmbimekndhcgaaa.FVal Go.Proofs.Ytmbimekndhcgaaa.Keep Go.Proofs.Ytmbimekndhcgaaa.Rule Go.Proofs.Ytmbimekndhcgaaa.Grow Go.Proofs.Ytmbimekndhcgaaa.Copy Go.Proofs.Ytmbimekndhcgaaa.FCut Go.Proofs.Ytmbimekndhcgaaa.FPst Go.Proofs.Ytmbimekndhcgaaa.Lf Go.Proofs.Ytmbimekndhcgaaa.Mt
set_option linter.unusedVariables false
set_option linter.unusedSimpArgs false

set_option maxHeartbeats 4000000 in
theorem implNo1 {w : World} {s r s' r' row col : Int} {b b2 : Nat} {v v2 : Value} {zs ps : List Int} (h : Rd w b v zs) (h2 : Rd w b2 v2 ps) (h1q : (fieldB s r zs && allB zs 2) = false) :
    Calls Try.prog 25 #[ruleV s r v, ruleV s' r' v2, .int .i64 row, .int .i64 col] w fun e w' => e = .returned (.tuple #[ruleV 0 0 (.slice none 0 0), .bool false]) ∧ Below w.heap.size w w' := by
  have HH := hid h
  have HH2 := hid h2
  have HQ1 := hid h1q
  obtain ⟨ao, cap, rfl, hc, hm, _⟩ := h
  obtain ⟨ao2, cap2, rfl, hc2, hm2, _⟩ := h2
  clear hc hm hc2 hm2 h1q
  go_enter Try.func25, Try.ntmps25
  go_wp2_with fail
  obtain ⟨w1, hW⟩ : ∃ w1, w1 = ((w.alloc (Obj.cells #[.int .i64 s, .int .i64 r, .slice ao zs.length cap] 26)).alloc (Obj.cells #[.int .i64 s', .int .i64 r', .slice ao2 ps.length cap2] 26)).alloc (Obj.cells #[.int .i64 0, .int .i64 0, .slice none 0 0] 26) := ⟨_, rfl⟩
  obtain ⟨N, hN⟩ : ∃ N, N = w.heap.size := ⟨_, rfl⟩
  obtain ⟨M, hM2⟩ : ∃ M, M = N + 1 := ⟨_, rfl⟩
  obtain ⟨NT, hM⟩ : ∃ NT, NT = M + 1 := ⟨_, rfl⟩
  have st : Below w.heap.size w w1 ∧ w1.cell? ⟨N, 0, none⟩ = some (.int .i64 s) ∧ w1.cell? ⟨N, 1, none⟩ = some (.int .i64 r) ∧ w1.cell? ⟨N, 2, none⟩ = some (.slice ao zs.length cap) ∧ w1.cell? ⟨M, 0, none⟩ = some (.int .i64 s') ∧ w1.cell? ⟨M, 1, none⟩ = some (.int .i64 r') ∧ w1.cell? ⟨M, 2, none⟩ = some (.slice ao2 ps.length cap2) ∧ Rd w1 b (.slice ao zs.length cap) zs ∧ Rd w1 b2 (.slice ao2 ps.length cap2) ps ∧ w.heap.size ≤ w1.heap.size := by
    rw [hW, hM2, hN]
    exact ⟨Go.Joins.below_alloc3 _ _ _ _, Go.Joins.cell_of_block (FNew.heap_old (FNew.heap_old (FNew.heap_top rfl))) 0, Go.Joins.cell_of_block (FNew.heap_old (FNew.heap_old (FNew.heap_top rfl))) 1, Go.Joins.cell_of_block (FNew.heap_old (FNew.heap_old (FNew.heap_top rfl))) 2, Go.Joins.cell_of_block (FNew.heap_old (FNew.heap_top (by simp))) 0, Go.Joins.cell_of_block (FNew.heap_old (FNew.heap_top (by simp))) 1, Go.Joins.cell_of_block (FNew.heap_old (FNew.heap_top (by simp))) 2, HH.out.keep (Go.Joins.below_alloc3 _ _ _ _) (Nat.le_refl _), HH2.out.keep (Go.Joins.below_alloc3 _ _ _ _) (Nat.le_refl _), by simp; omega⟩
  have kT : w1.heap[NT]? = some (Obj.cells #[.int .i64 0, .int .i64 0, .slice none 0 0] 26) := by rw [hW]; exact FNew.heap_top (by rw [hM, hM2, hN]; simp)
  have HNT : Hid (w.heap.size ≤ NT) := by simp only [Hid]; omega
  have HNN : Hid (M = N + 1 ∧ NT = M + 1 ∧ N = w.heap.size) := ⟨hM2, hM, hN⟩
  simp only [← hW, ← hN, ← hM2, ← hM]
  clear hW hN hM hM2
  go_at_call 53
  refine (Can.isPlain (rd6_2_0 st)).mono ?_
  rw [HQ1.out]
  rintro e w2 ⟨rfl, bel⟩
  replace st := next6_2 bel st
  replace kT := (bel.block NT (Array.getElem?_eq_some_iff.1 kT).1).trans kT
  clear bel

  have HB := hid st.1
  have y0 : w2.cell? ⟨NT, 0, none⟩ = some (.int .i64 0) := Go.Joins.cell_of_block kT 0
  have y1 : w2.cell? ⟨NT, 1, none⟩ = some (.int .i64 0) := Go.Joins.cell_of_block kT 1
  have y2 : w2.cell? ⟨NT, 2, none⟩ = some (.slice none 0 0) := Go.Joins.cell_of_block kT 2
  have g0 : w2.frozen? ⟨NT, 0, none⟩ = false := Go.Joins.unfrozen_of_block kT 0
  have g1 : w2.frozen? ⟨NT, 1, none⟩ = false := Go.Joins.unfrozen_of_block kT 1
  have g2 : w2.frozen? ⟨NT, 2, none⟩ = false := Go.Joins.unfrozen_of_block kT 2
  have HKx := hid kT
  clear kT
  go_wp2
  obtain ⟨W5, hW⟩ : ∃ W5, W5 = (((w2.setCell ⟨NT, 0, none⟩ (.int .i64 0)).setCell ⟨NT, 1, none⟩ (.int .i64 0)).setCell ⟨NT, 2, none⟩ (.slice none 0 0)) := ⟨_, rfl⟩
  have q0 := (Go.Joins.block_setCell (i := 2) (Go.Joins.block_setCell (i := 1) (Go.Joins.block_setCell (i := 0) HKx.out (.int .i64 0)) (.int .i64 0)) (.slice none 0 0))
  rw [← hW] at q0
  have z0 : W5.cell? ⟨NT, 0, none⟩ = some (.int .i64 0) := Go.Joins.cell_of_block q0 0
  have z1 : W5.cell? ⟨NT, 1, none⟩ = some (.int .i64 0) := Go.Joins.cell_of_block q0 1
  have z2 : W5.cell? ⟨NT, 2, none⟩ = some (.slice none 0 0) := Go.Joins.cell_of_block q0 2
  have B5 : Below w.heap.size w W5 := by
    have h1 := HNT.out
    rw [hW]
    exact ((HB.out.setCell (by simp; omega) _).setCell (by simp; omega) _).setCell (by simp; omega) _
  simp only [← hW]
  clear hW q0
  simp [bodyPost, results, Try.results25, go_sem, z0, z1, z2]
  exact B5

set_option maxHeartbeats 4000000 in
theorem implNo2 {w : World} {s r s' r' row col : Int} {b b2 : Nat} {v v2 : Value} {zs ps : List Int} (h : Rd w b v zs) (h2 : Rd w b2 v2 ps) (h1q : (fieldB s r zs && allB zs 2) = true) (h2q : (fieldB s' r' ps && allB ps 2) = false) :
    Calls Try.prog 25 #[ruleV s r v, ruleV s' r' v2, .int .i64 row, .int .i64 col] w fun e w' => e = .returned (.tuple #[ruleV 0 0 (.slice none 0 0), .bool false]) ∧ Below w.heap.size w w' := by
  have HH := hid h
  have HH2 := hid h2
  have HQ1 := hid h1q
  have HQ2 := hid h2q
  obtain ⟨ao, cap, rfl, hc, hm, _⟩ := h
  obtain ⟨ao2, cap2, rfl, hc2, hm2, _⟩ := h2
  clear hc hm hc2 hm2 h1q h2q
  go_enter Try.func25, Try.ntmps25
  go_wp2_with fail
  obtain ⟨w1, hW⟩ : ∃ w1, w1 = ((w.alloc (Obj.cells #[.int .i64 s, .int .i64 r, .slice ao zs.length cap] 26)).alloc (Obj.cells #[.int .i64 s', .int .i64 r', .slice ao2 ps.length cap2] 26)).alloc (Obj.cells #[.int .i64 0, .int .i64 0, .slice none 0 0] 26) := ⟨_, rfl⟩
  obtain ⟨N, hN⟩ : ∃ N, N = w.heap.size := ⟨_, rfl⟩
  obtain ⟨M, hM2⟩ : ∃ M, M = N + 1 := ⟨_, rfl⟩
  obtain ⟨NT, hM⟩ : ∃ NT, NT = M + 1 := ⟨_, rfl⟩
  have st : Below w.heap.size w w1 ∧ w1.cell? ⟨N, 0, none⟩ = some (.int .i64 s) ∧ w1.cell? ⟨N, 1, none⟩ = some (.int .i64 r) ∧ w1.cell? ⟨N, 2, none⟩ = some (.slice ao zs.length cap) ∧ w1.cell? ⟨M, 0, none⟩ = some (.int .i64 s') ∧ w1.cell? ⟨M, 1, none⟩ = some (.int .i64 r') ∧ w1.cell? ⟨M, 2, none⟩ = some (.slice ao2 ps.length cap2) ∧ Rd w1 b (.slice ao zs.length cap) zs ∧ Rd w1 b2 (.slice ao2 ps.length cap2) ps ∧ w.heap.size ≤ w1.heap.size := by
    rw [hW, hM2, hN]
    exact ⟨Go.Joins.below_alloc3 _ _ _ _, Go.Joins.cell_of_block (FNew.heap_old (FNew.heap_old (FNew.heap_top rfl))) 0, Go.Joins.cell_of_block (FNew.heap_old (FNew.heap_old (FNew.heap_top rfl))) 1, Go.Joins.cell_of_block (FNew.heap_old (FNew.heap_old (FNew.heap_top rfl))) 2, Go.Joins.cell_of_block (FNew.heap_old (FNew.heap_top (by simp))) 0, Go.Joins.cell_of_block (FNew.heap_old (FNew.heap_top (by simp))) 1, Go.Joins.cell_of_block (FNew.heap_old (FNew.heap_top (by simp))) 2, HH.out.keep (Go.Joins.below_alloc3 _ _ _ _) (Nat.le_refl _), HH2.out.keep (Go.Joins.below_alloc3 _ _ _ _) (Nat.le_refl _), by simp; omega⟩
  have kT : w1.heap[NT]? = some (Obj.cells #[.int .i64 0, .int .i64 0, .slice none 0 0] 26) := by rw [hW]; exact FNew.heap_top (by rw [hM, hM2, hN]; simp)
  have HNT : Hid (w.heap.size ≤ NT) := by simp only [Hid]; omega
  have HNN : Hid (M = N + 1 ∧ NT = M + 1 ∧ N = w.heap.size) := ⟨hM2, hM, hN⟩
  simp only [← hW, ← hN, ← hM2, ← hM]
  clear hW hN hM hM2
  go_at_call 53
  refine (Can.isPlain (rd6_2_0 st)).mono ?_
  rw [HQ1.out]
  rintro e w2 ⟨rfl, bel⟩
  replace st := next6_2 bel st
  replace kT := (bel.block NT (Array.getElem?_eq_some_iff.1 kT).1).trans kT
  clear bel
  have m0 := st.2.2.2.2.1
  have m1 := st.2.2.2.2.2.1
  have m2 := st.2.2.2.2.2.2.1
  go_wp2_with fail
  go_at_call 53
  refine (Can.isPlain (rd6_2_1 st)).mono ?_
  rw [HQ2.out]
  rintro e w3 ⟨rfl, bel⟩
  clear m0 m1 m2
  replace st := next6_2 bel st
  replace kT := (bel.block NT (Array.getElem?_eq_some_iff.1 kT).1).trans kT
  clear bel

  have HB := hid st.1
  have y0 : w3.cell? ⟨NT, 0, none⟩ = some (.int .i64 0) := Go.Joins.cell_of_block kT 0
  have y1 : w3.cell? ⟨NT, 1, none⟩ = some (.int .i64 0) := Go.Joins.cell_of_block kT 1
  have y2 : w3.cell? ⟨NT, 2, none⟩ = some (.slice none 0 0) := Go.Joins.cell_of_block kT 2
  have g0 : w3.frozen? ⟨NT, 0, none⟩ = false := Go.Joins.unfrozen_of_block kT 0
  have g1 : w3.frozen? ⟨NT, 1, none⟩ = false := Go.Joins.unfrozen_of_block kT 1
  have g2 : w3.frozen? ⟨NT, 2, none⟩ = false := Go.Joins.unfrozen_of_block kT 2
  have HKx := hid kT
  clear kT
  go_wp2
  obtain ⟨W5, hW⟩ : ∃ W5, W5 = (((w3.setCell ⟨NT, 0, none⟩ (.int .i64 0)).setCell ⟨NT, 1, none⟩ (.int .i64 0)).setCell ⟨NT, 2, none⟩ (.slice none 0 0)) := ⟨_, rfl⟩
  have q0 := (Go.Joins.block_setCell (i := 2) (Go.Joins.block_setCell (i := 1) (Go.Joins.block_setCell (i := 0) HKx.out (.int .i64 0)) (.int .i64 0)) (.slice none 0 0))
  rw [← hW] at q0
  have z0 : W5.cell? ⟨NT, 0, none⟩ = some (.int .i64 0) := Go.Joins.cell_of_block q0 0
  have z1 : W5.cell? ⟨NT, 1, none⟩ = some (.int .i64 0) := Go.Joins.cell_of_block q0 1
  have z2 : W5.cell? ⟨NT, 2, none⟩ = some (.slice none 0 0) := Go.Joins.cell_of_block q0 2
  have B5 : Below w.heap.size w W5 := by
    have h1 := HNT.out
    rw [hW]
    exact ((HB.out.setCell (by simp; omega) _).setCell (by simp; omega) _).setCell (by simp; omega) _
  simp only [← hW]
  clear hW q0
  simp [bodyPost, results, Try.results25, go_sem, z0, z1, z2]
  exact B5

set_option maxHeartbeats 4000000 in
theorem implNo3 {w : World} {s r s' r' row col : Int} {b b2 : Nat} {v v2 : Value} {zs ps : List Int} (h : Rd w b v zs) (h2 : Rd w b2 v2 ps) (h1q : (fieldB s r zs && allB zs 2) = true) (h2q : (fieldB s' r' ps && allB ps 2) = true) (h3q : decide (0 ≤ row ∧ row ≤ 24) = false) :
    Calls Try.prog 25 #[ruleV s r v, ruleV s' r' v2, .int .i64 row, .int .i64 col] w fun e w' => e = .returned (.tuple #[ruleV 0 0 (.slice none 0 0), .bool false]) ∧ Below w.heap.size w w' := by
  have HH := hid h
  have HH2 := hid h2
  have HQ1 := hid h1q
  have HQ2 := hid h2q
  have HQ3 := hid h3q
  obtain ⟨ao, cap, rfl, hc, hm, _⟩ := h
  obtain ⟨ao2, cap2, rfl, hc2, hm2, _⟩ := h2
  clear hc hm hc2 hm2 h1q h2q h3q
  go_enter Try.func25, Try.ntmps25
  go_wp2_with fail
  obtain ⟨w1, hW⟩ : ∃ w1, w1 = ((w.alloc (Obj.cells #[.int .i64 s, .int .i64 r, .slice ao zs.length cap] 26)).alloc (Obj.cells #[.int .i64 s', .int .i64 r', .slice ao2 ps.length cap2] 26)).alloc (Obj.cells #[.int .i64 0, .int .i64 0, .slice none 0 0] 26) := ⟨_, rfl⟩
  obtain ⟨N, hN⟩ : ∃ N, N = w.heap.size := ⟨_, rfl⟩
  obtain ⟨M, hM2⟩ : ∃ M, M = N + 1 := ⟨_, rfl⟩
  obtain ⟨NT, hM⟩ : ∃ NT, NT = M + 1 := ⟨_, rfl⟩
  have st : Below w.heap.size w w1 ∧ w1.cell? ⟨N, 0, none⟩ = some (.int .i64 s) ∧ w1.cell? ⟨N, 1, none⟩ = some (.int .i64 r) ∧ w1.cell? ⟨N, 2, none⟩ = some (.slice ao zs.length cap) ∧ w1.cell? ⟨M, 0, none⟩ = some (.int .i64 s') ∧ w1.cell? ⟨M, 1, none⟩ = some (.int .i64 r') ∧ w1.cell? ⟨M, 2, none⟩ = some (.slice ao2 ps.length cap2) ∧ Rd w1 b (.slice ao zs.length cap) zs ∧ Rd w1 b2 (.slice ao2 ps.length cap2) ps ∧ w.heap.size ≤ w1.heap.size := by
    rw [hW, hM2, hN]
    exact ⟨Go.Joins.below_alloc3 _ _ _ _, Go.Joins.cell_of_block (FNew.heap_old (FNew.heap_old (FNew.heap_top rfl))) 0, Go.Joins.cell_of_block (FNew.heap_old (FNew.heap_old (FNew.heap_top rfl))) 1, Go.Joins.cell_of_block (FNew.heap_old (FNew.heap_old (FNew.heap_top rfl))) 2, Go.Joins.cell_of_block (FNew.heap_old (FNew.heap_top (by simp))) 0, Go.Joins.cell_of_block (FNew.heap_old (FNew.heap_top (by simp))) 1, Go.Joins.cell_of_block (FNew.heap_old (FNew.heap_top (by simp))) 2, HH.out.keep (Go.Joins.below_alloc3 _ _ _ _) (Nat.le_refl _), HH2.out.keep (Go.Joins.below_alloc3 _ _ _ _) (Nat.le_refl _), by simp; omega⟩
  have kT : w1.heap[NT]? = some (Obj.cells #[.int .i64 0, .int .i64 0, .slice none 0 0] 26) := by rw [hW]; exact FNew.heap_top (by rw [hM, hM2, hN]; simp)
  have HNT : Hid (w.heap.size ≤ NT) := by simp only [Hid]; omega
  have HNN : Hid (M = N + 1 ∧ NT = M + 1 ∧ N = w.heap.size) := ⟨hM2, hM, hN⟩
  simp only [← hW, ← hN, ← hM2, ← hM]
  clear hW hN hM hM2
  go_at_call 53
  refine (Can.isPlain (rd6_2_0 st)).mono ?_
  rw [HQ1.out]
  rintro e w2 ⟨rfl, bel⟩
  replace st := next6_2 bel st
  replace kT := (bel.block NT (Array.getElem?_eq_some_iff.1 kT).1).trans kT
  clear bel
  have m0 := st.2.2.2.2.1
  have m1 := st.2.2.2.2.2.1
  have m2 := st.2.2.2.2.2.2.1
  go_wp2_with fail
  go_at_call 53
  refine (Can.isPlain (rd6_2_1 st)).mono ?_
  rw [HQ2.out]
  rintro e w3 ⟨rfl, bel⟩
  clear m0 m1 m2
  replace st := next6_2 bel st
  replace kT := (bel.block NT (Array.getElem?_eq_some_iff.1 kT).1).trans kT
  clear bel
  go_wp2_with fail
  go_at_call 54
  refine isCountB.mono ?_
  rw [HQ3.out]
  rintro e v3 ⟨rfl, rfl⟩

  have HB := hid st.1
  have y0 : w3.cell? ⟨NT, 0, none⟩ = some (.int .i64 0) := Go.Joins.cell_of_block kT 0
  have y1 : w3.cell? ⟨NT, 1, none⟩ = some (.int .i64 0) := Go.Joins.cell_of_block kT 1
  have y2 : w3.cell? ⟨NT, 2, none⟩ = some (.slice none 0 0) := Go.Joins.cell_of_block kT 2
  have g0 : w3.frozen? ⟨NT, 0, none⟩ = false := Go.Joins.unfrozen_of_block kT 0
  have g1 : w3.frozen? ⟨NT, 1, none⟩ = false := Go.Joins.unfrozen_of_block kT 1
  have g2 : w3.frozen? ⟨NT, 2, none⟩ = false := Go.Joins.unfrozen_of_block kT 2
  have HKx := hid kT
  clear kT
  go_wp2
  obtain ⟨W5, hW⟩ : ∃ W5, W5 = (((w3.setCell ⟨NT, 0, none⟩ (.int .i64 0)).setCell ⟨NT, 1, none⟩ (.int .i64 0)).setCell ⟨NT, 2, none⟩ (.slice none 0 0)) := ⟨_, rfl⟩
  have q0 := (Go.Joins.block_setCell (i := 2) (Go.Joins.block_setCell (i := 1) (Go.Joins.block_setCell (i := 0) HKx.out (.int .i64 0)) (.int .i64 0)) (.slice none 0 0))
  rw [← hW] at q0
  have z0 : W5.cell? ⟨NT, 0, none⟩ = some (.int .i64 0) := Go.Joins.cell_of_block q0 0
  have z1 : W5.cell? ⟨NT, 1, none⟩ = some (.int .i64 0) := Go.Joins.cell_of_block q0 1
  have z2 : W5.cell? ⟨NT, 2, none⟩ = some (.slice none 0 0) := Go.Joins.cell_of_block q0 2
  have B5 : Below w.heap.size w W5 := by
    have h1 := HNT.out
    rw [hW]
    exact ((HB.out.setCell (by simp; omega) _).setCell (by simp; omega) _).setCell (by simp; omega) _
  simp only [← hW]
  clear hW q0
  simp [bodyPost, results, Try.results25, go_sem, z0, z1, z2]
  exact B5

set_option maxHeartbeats 4000000 in
theorem implNo4 {w : World} {s r s' r' row col : Int} {b b2 : Nat} {v v2 : Value} {zs ps : List Int} (h : Rd w b v zs) (h2 : Rd w b2 v2 ps) (h1q : (fieldB s r zs && allB zs 2) = true) (h2q : (fieldB s' r' ps && allB ps 2) = true) (h3q : decide (0 ≤ row ∧ row ≤ 24) = true) (h4q : decide (0 ≤ col ∧ col ≤ 24) = false) :
    Calls Try.prog 25 #[ruleV s r v, ruleV s' r' v2, .int .i64 row, .int .i64 col] w fun e w' => e = .returned (.tuple #[ruleV 0 0 (.slice none 0 0), .bool false]) ∧ Below w.heap.size w w' := by
  have HH := hid h
  have HH2 := hid h2
  have HQ1 := hid h1q
  have HQ2 := hid h2q
  have HQ3 := hid h3q
  have HQ4 := hid h4q
  obtain ⟨ao, cap, rfl, hc, hm, _⟩ := h
  obtain ⟨ao2, cap2, rfl, hc2, hm2, _⟩ := h2
  clear hc hm hc2 hm2 h1q h2q h3q h4q
  go_enter Try.func25, Try.ntmps25
  go_wp2_with fail
  obtain ⟨w1, hW⟩ : ∃ w1, w1 = ((w.alloc (Obj.cells #[.int .i64 s, .int .i64 r, .slice ao zs.length cap] 26)).alloc (Obj.cells #[.int .i64 s', .int .i64 r', .slice ao2 ps.length cap2] 26)).alloc (Obj.cells #[.int .i64 0, .int .i64 0, .slice none 0 0] 26) := ⟨_, rfl⟩
  obtain ⟨N, hN⟩ : ∃ N, N = w.heap.size := ⟨_, rfl⟩
  obtain ⟨M, hM2⟩ : ∃ M, M = N + 1 := ⟨_, rfl⟩
  obtain ⟨NT, hM⟩ : ∃ NT, NT = M + 1 := ⟨_, rfl⟩
  have st : Below w.heap.size w w1 ∧ w1.cell? ⟨N, 0, none⟩ = some (.int .i64 s) ∧ w1.cell? ⟨N, 1, none⟩ = some (.int .i64 r) ∧ w1.cell? ⟨N, 2, none⟩ = some (.slice ao zs.length cap) ∧ w1.cell? ⟨M, 0, none⟩ = some (.int .i64 s') ∧ w1.cell? ⟨M, 1, none⟩ = some (.int .i64 r') ∧ w1.cell? ⟨M, 2, none⟩ = some (.slice ao2 ps.length cap2) ∧ Rd w1 b (.slice ao zs.length cap) zs ∧ Rd w1 b2 (.slice ao2 ps.length cap2) ps ∧ w.heap.size ≤ w1.heap.size := by
    rw [hW, hM2, hN]
    exact ⟨Go.Joins.below_alloc3 _ _ _ _, Go.Joins.cell_of_block (FNew.heap_old (FNew.heap_old (FNew.heap_top rfl))) 0, Go.Joins.cell_of_block (FNew.heap_old (FNew.heap_old (FNew.heap_top rfl))) 1, Go.Joins.cell_of_block (FNew.heap_old (FNew.heap_old (FNew.heap_top rfl))) 2, Go.Joins.cell_of_block (FNew.heap_old (FNew.heap_top (by simp))) 0, Go.Joins.cell_of_block (FNew.heap_old (FNew.heap_top (by simp))) 1, Go.Joins.cell_of_block (FNew.heap_old (FNew.heap_top (by simp))) 2, HH.out.keep (Go.Joins.below_alloc3 _ _ _ _) (Nat.le_refl _), HH2.out.keep (Go.Joins.below_alloc3 _ _ _ _) (Nat.le_refl _), by simp; omega⟩
  have kT : w1.heap[NT]? = some (Obj.cells #[.int .i64 0, .int .i64 0, .slice none 0 0] 26) := by rw [hW]; exact FNew.heap_top (by rw [hM, hM2, hN]; simp)
  have HNT : Hid (w.heap.size ≤ NT) := by simp only [Hid]; omega
  have HNN : Hid (M = N + 1 ∧ NT = M + 1 ∧ N = w.heap.size) := ⟨hM2, hM, hN⟩
  simp only [← hW, ← hN, ← hM2, ← hM]
  clear hW hN hM hM2
  go_at_call 53
  refine (Can.isPlain (rd6_2_0 st)).mono ?_
  rw [HQ1.out]
  rintro e w2 ⟨rfl, bel⟩
  replace st := next6_2 bel st
  replace kT := (bel.block NT (Array.getElem?_eq_some_iff.1 kT).1).trans kT
  clear bel
  have m0 := st.2.2.2.2.1
  have m1 := st.2.2.2.2.2.1
  have m2 := st.2.2.2.2.2.2.1
  go_wp2_with fail
  go_at_call 53
  refine (Can.isPlain (rd6_2_1 st)).mono ?_
  rw [HQ2.out]
  rintro e w3 ⟨rfl, bel⟩
  clear m0 m1 m2
  replace st := next6_2 bel st
  replace kT := (bel.block NT (Array.getElem?_eq_some_iff.1 kT).1).trans kT
  clear bel
  go_wp2_with fail
  go_at_call 54
  refine isCountB.mono ?_
  rw [HQ3.out]
  rintro e v3 ⟨rfl, rfl⟩
  go_wp2_with fail
  go_at_call 54
  refine isCountB.mono ?_
  rw [HQ4.out]
  rintro e v4 ⟨rfl, rfl⟩

  have HB := hid st.1
  have y0 : w3.cell? ⟨NT, 0, none⟩ = some (.int .i64 0) := Go.Joins.cell_of_block kT 0
  have y1 : w3.cell? ⟨NT, 1, none⟩ = some (.int .i64 0) := Go.Joins.cell_of_block kT 1
  have y2 : w3.cell? ⟨NT, 2, none⟩ = some (.slice none 0 0) := Go.Joins.cell_of_block kT 2
  have g0 : w3.frozen? ⟨NT, 0, none⟩ = false := Go.Joins.unfrozen_of_block kT 0
  have g1 : w3.frozen? ⟨NT, 1, none⟩ = false := Go.Joins.unfrozen_of_block kT 1
  have g2 : w3.frozen? ⟨NT, 2, none⟩ = false := Go.Joins.unfrozen_of_block kT 2
  have HKx := hid kT
  clear kT
  go_wp2
  obtain ⟨W5, hW⟩ : ∃ W5, W5 = (((w3.setCell ⟨NT, 0, none⟩ (.int .i64 0)).setCell ⟨NT, 1, none⟩ (.int .i64 0)).setCell ⟨NT, 2, none⟩ (.slice none 0 0)) := ⟨_, rfl⟩
  have q0 := (Go.Joins.block_setCell (i := 2) (Go.Joins.block_setCell (i := 1) (Go.Joins.block_setCell (i := 0) HKx.out (.int .i64 0)) (.int .i64 0)) (.slice none 0 0))
  rw [← hW] at q0
  have z0 : W5.cell? ⟨NT, 0, none⟩ = some (.int .i64 0) := Go.Joins.cell_of_block q0 0
  have z1 : W5.cell? ⟨NT, 1, none⟩ = some (.int .i64 0) := Go.Joins.cell_of_block q0 1
  have z2 : W5.cell? ⟨NT, 2, none⟩ = some (.slice none 0 0) := Go.Joins.cell_of_block q0 2
  have B5 : Below w.heap.size w W5 := by
    have h1 := HNT.out
    rw [hW]
    exact ((HB.out.setCell (by simp; omega) _).setCell (by simp; omega) _).setCell (by simp; omega) _
  simp only [← hW]
  clear hW q0
  simp [bodyPost, results, Try.results25, go_sem, z0, z1, z2]
  exact B5

set_option maxHeartbeats 4000000 in
theorem implNo5 {w : World} {s r s' r' row col : Int} {b b2 : Nat} {v v2 : Value} {zs ps : List Int} (h : Rd w b v zs) (h2 : Rd w b2 v2 ps) (h1q : (fieldB s r zs && allB zs 2) = true) (h2q : (fieldB s' r' ps && allB ps 2) = true) (h3q : decide (0 ≤ row ∧ row ≤ 24) = true) (h4q : decide (0 ≤ col ∧ col ≤ 24) = true) (h5q : sidesB (max s (row + s')) (max r (col + r')) = false) :
    Calls Try.prog 25 #[ruleV s r v, ruleV s' r' v2, .int .i64 row, .int .i64 col] w fun e w' => e = .returned (.tuple #[ruleV 0 0 (.slice none 0 0), .bool false]) ∧ Below w.heap.size w w' := by
  have HH := hid h
  have HH2 := hid h2
  have HQ1 := hid h1q
  have HQ2 := hid h2q
  have HQ3 := hid h3q
  have HQ4 := hid h4q
  have HQ5 := hid h5q
  have HSB : Hid ((1 ≤ s ∧ s ≤ 24) ∧ (1 ≤ r ∧ r ≤ 24) ∧ (1 ≤ s' ∧ s' ≤ 24) ∧ (1 ≤ r' ∧ r' ≤ 24) ∧ (0 ≤ row ∧ row ≤ 24) ∧ 0 ≤ col ∧ col ≤ 24) := by
    have h1 := HQ1.out
    have h2 := HQ2.out
    simp only [fieldB, Bool.and_eq_true] at h1 h2
    have h3 := h1.1.1
    have h4 := h2.1.1
    simp [sidesB] at h3 h4
    have h5 := HQ3.out
    have h6 := HQ4.out
    simp only [decide_eq_true_eq] at h5 h6
    simp only [Hid]; omega
  obtain ⟨ao, cap, rfl, hc, hm, _⟩ := h
  obtain ⟨ao2, cap2, rfl, hc2, hm2, _⟩ := h2
  clear hc hm hc2 hm2 h1q h2q h3q h4q h5q
  go_enter Try.func25, Try.ntmps25
  go_wp2_with fail
  obtain ⟨w1, hW⟩ : ∃ w1, w1 = ((w.alloc (Obj.cells #[.int .i64 s, .int .i64 r, .slice ao zs.length cap] 26)).alloc (Obj.cells #[.int .i64 s', .int .i64 r', .slice ao2 ps.length cap2] 26)).alloc (Obj.cells #[.int .i64 0, .int .i64 0, .slice none 0 0] 26) := ⟨_, rfl⟩
  obtain ⟨N, hN⟩ : ∃ N, N = w.heap.size := ⟨_, rfl⟩
  obtain ⟨M, hM2⟩ : ∃ M, M = N + 1 := ⟨_, rfl⟩
  obtain ⟨NT, hM⟩ : ∃ NT, NT = M + 1 := ⟨_, rfl⟩
  have st : Below w.heap.size w w1 ∧ w1.cell? ⟨N, 0, none⟩ = some (.int .i64 s) ∧ w1.cell? ⟨N, 1, none⟩ = some (.int .i64 r) ∧ w1.cell? ⟨N, 2, none⟩ = some (.slice ao zs.length cap) ∧ w1.cell? ⟨M, 0, none⟩ = some (.int .i64 s') ∧ w1.cell? ⟨M, 1, none⟩ = some (.int .i64 r') ∧ w1.cell? ⟨M, 2, none⟩ = some (.slice ao2 ps.length cap2) ∧ Rd w1 b (.slice ao zs.length cap) zs ∧ Rd w1 b2 (.slice ao2 ps.length cap2) ps ∧ w.heap.size ≤ w1.heap.size := by
    rw [hW, hM2, hN]
    exact ⟨Go.Joins.below_alloc3 _ _ _ _, Go.Joins.cell_of_block (FNew.heap_old (FNew.heap_old (FNew.heap_top rfl))) 0, Go.Joins.cell_of_block (FNew.heap_old (FNew.heap_old (FNew.heap_top rfl))) 1, Go.Joins.cell_of_block (FNew.heap_old (FNew.heap_old (FNew.heap_top rfl))) 2, Go.Joins.cell_of_block (FNew.heap_old (FNew.heap_top (by simp))) 0, Go.Joins.cell_of_block (FNew.heap_old (FNew.heap_top (by simp))) 1, Go.Joins.cell_of_block (FNew.heap_old (FNew.heap_top (by simp))) 2, HH.out.keep (Go.Joins.below_alloc3 _ _ _ _) (Nat.le_refl _), HH2.out.keep (Go.Joins.below_alloc3 _ _ _ _) (Nat.le_refl _), by simp; omega⟩
  have kT : w1.heap[NT]? = some (Obj.cells #[.int .i64 0, .int .i64 0, .slice none 0 0] 26) := by rw [hW]; exact FNew.heap_top (by rw [hM, hM2, hN]; simp)
  have HNT : Hid (w.heap.size ≤ NT) := by simp only [Hid]; omega
  have HNN : Hid (M = N + 1 ∧ NT = M + 1 ∧ N = w.heap.size) := ⟨hM2, hM, hN⟩
  simp only [← hW, ← hN, ← hM2, ← hM]
  clear hW hN hM hM2
  go_at_call 53
  refine (Can.isPlain (rd6_2_0 st)).mono ?_
  rw [HQ1.out]
  rintro e w2 ⟨rfl, bel⟩
  replace st := next6_2 bel st
  replace kT := (bel.block NT (Array.getElem?_eq_some_iff.1 kT).1).trans kT
  clear bel
  have m0 := st.2.2.2.2.1
  have m1 := st.2.2.2.2.2.1
  have m2 := st.2.2.2.2.2.2.1
  go_wp2_with fail
  go_at_call 53
  refine (Can.isPlain (rd6_2_1 st)).mono ?_
  rw [HQ2.out]
  rintro e w3 ⟨rfl, bel⟩
  clear m0 m1 m2
  replace st := next6_2 bel st
  replace kT := (bel.block NT (Array.getElem?_eq_some_iff.1 kT).1).trans kT
  clear bel
  go_wp2_with fail
  go_at_call 54
  refine isCountB.mono ?_
  rw [HQ3.out]
  rintro e v3 ⟨rfl, rfl⟩
  go_wp2_with fail
  go_at_call 54
  refine isCountB.mono ?_
  rw [HQ4.out]
  rintro e v4 ⟨rfl, rfl⟩
  have x0 : IntKind.i64.wrap (row + s') = row + s' := by have := HSB.out; rw [IntKind.wrap_i64]; omega
  have x1 : IntKind.i64.wrap (col + r') = col + r' := by have := HSB.out; rw [IntKind.wrap_i64]; omega
  have a0 : (if s < row + s' then row + s' else s) = max s (row + s') := by split <;> omega
  have a1 : (if r < col + r' then col + r' else r) = max r (col + r') := by split <;> omega
  have m0 := st.2.2.2.2.1
  have m1 := st.2.2.2.2.2.1
  have c0 := st.2.1
  have c1 := st.2.2.1
  go_wp2_with fail
  (try simp only [a0, a1])
  go_at_call 55
  refine (FNew.implNo HQ5.out).mono ?_
  rintro e w4 ⟨rfl, bel⟩
  clear m0 m1 c0 c1 a0 a1
  replace st := next6_2 bel st
  replace kT := (bel.block NT (Array.getElem?_eq_some_iff.1 kT).1).trans kT
  clear bel

  have HB := hid (st.1.alloc st.1.size (Obj.cells #[.int .i64 0, .int .i64 0, .slice none 0 0] 26))
  replace kT := FNew.heap_old (o' := Obj.cells #[.int .i64 0, .int .i64 0, .slice none 0 0] 26) kT
  have y0 : (w4.alloc (Obj.cells #[.int .i64 0, .int .i64 0, .slice none 0 0] 26)).cell? ⟨NT, 0, none⟩ = some (.int .i64 0) := Go.Joins.cell_of_block kT 0
  have y1 : (w4.alloc (Obj.cells #[.int .i64 0, .int .i64 0, .slice none 0 0] 26)).cell? ⟨NT, 1, none⟩ = some (.int .i64 0) := Go.Joins.cell_of_block kT 1
  have y2 : (w4.alloc (Obj.cells #[.int .i64 0, .int .i64 0, .slice none 0 0] 26)).cell? ⟨NT, 2, none⟩ = some (.slice none 0 0) := Go.Joins.cell_of_block kT 2
  have g0 : (w4.alloc (Obj.cells #[.int .i64 0, .int .i64 0, .slice none 0 0] 26)).frozen? ⟨NT, 0, none⟩ = false := Go.Joins.unfrozen_of_block kT 0
  have g1 : (w4.alloc (Obj.cells #[.int .i64 0, .int .i64 0, .slice none 0 0] 26)).frozen? ⟨NT, 1, none⟩ = false := Go.Joins.unfrozen_of_block kT 1
  have g2 : (w4.alloc (Obj.cells #[.int .i64 0, .int .i64 0, .slice none 0 0] 26)).frozen? ⟨NT, 2, none⟩ = false := Go.Joins.unfrozen_of_block kT 2
  have HKx := hid kT
  clear kT
  go_wp2
  obtain ⟨W5, hW⟩ : ∃ W5, W5 = ((((w4.alloc (Obj.cells #[.int .i64 0, .int .i64 0, .slice none 0 0] 26)).setCell ⟨NT, 0, none⟩ (.int .i64 0)).setCell ⟨NT, 1, none⟩ (.int .i64 0)).setCell ⟨NT, 2, none⟩ (.slice none 0 0)) := ⟨_, rfl⟩
  have q0 := (Go.Joins.block_setCell (i := 2) (Go.Joins.block_setCell (i := 1) (Go.Joins.block_setCell (i := 0) HKx.out (.int .i64 0)) (.int .i64 0)) (.slice none 0 0))
  rw [← hW] at q0
  have z0 : W5.cell? ⟨NT, 0, none⟩ = some (.int .i64 0) := Go.Joins.cell_of_block q0 0
  have z1 : W5.cell? ⟨NT, 1, none⟩ = some (.int .i64 0) := Go.Joins.cell_of_block q0 1
  have z2 : W5.cell? ⟨NT, 2, none⟩ = some (.slice none 0 0) := Go.Joins.cell_of_block q0 2
  have B5 : Below w.heap.size w W5 := by
    have h1 := HNT.out
    rw [hW]
    exact ((HB.out.setCell (by simp; omega) _).setCell (by simp; omega) _).setCell (by simp; omega) _
  simp only [← hW]
  clear hW q0
  simp [bodyPost, results, Try.results25, go_sem, z0, z1, z2]
  exact B5

theorem layC0 {w : World} {NB R C n P Q m b' b2 : Nat} {v2 : Value} {zs ps : List Int} (kB : w.heap[NB]? = some (Obj.cells #[.int .i64 R, .int .i64 C, .slice (some ⟨b', 0, none⟩) n n] 26)) (ow : Own 2 w b' (.slice (some ⟨b', 0, none⟩) n n) zs) (hz : plainB zs = true) (hzl : zs.length = n) (hn : n = R * C) (hR : 1 ≤ R ∧ R ≤ 24) (hC : 1 ≤ C ∧ C ≤ 24) (hb : NB ≠ b') (h2 : Rd w b2 v2 ps) (hp : fieldB P Q ps = true) (hpp : plainB ps = true) (hm : m = P * Q) (hne : b2 ≠ b') (hk : 0 + P ≤ R ∧ 0 + Q ≤ C) :
    Calls Try.prog 61 #[ruleV P Q v2, .int .i64 0, .int .i64 0, .pointer (some ⟨NB, 0, none⟩)] w fun e w' => (∃ x, e = .returned x) ∧ Own 2 w' b' (.slice (some ⟨b', 0, none⟩) n n) (lay zs ps R C P Q 0 0) ∧ w.grownBy w' (some b') :=
  layC (ra := 0) (rb := 0) kB ow hz hzl hn hR hC hb h2 hp hpp hm hne hk
set_option maxHeartbeats 8000000 in
theorem implOk {w : World} {A1 B1 A2 B2 ra rb R C n m1 m2 : Nat} {b b2 : Nat} {v v2 : Value} {zs ps : List Int} (h : Rd w b v zs) (h2 : Rd w b2 v2 ps) (h1q : (fieldB A1 B1 zs && allB zs 2) = true) (h2q : (fieldB A2 B2 ps && allB ps 2) = true) (hr : ra ≤ 24 ∧ rb ≤ 24) (hR : (R : Int) = max (A1 : Int) ((ra : Int) + (A2 : Int))) (hC : (C : Int) = max (B1 : Int) ((rb : Int) + (B2 : Int))) (hle : R ≤ 24 ∧ C ≤ 24) (hn : n = R * C) (hm1 : m1 = A1 * B1) (hm2' : m2 = A2 * B2) :
    Calls Try.prog 25 #[ruleV A1 B1 v, ruleV A2 B2 v2, .int .i64 ra, .int .i64 rb] w fun e w' => ∃ b', e = .returned ((.tuple #[ruleV R C (.slice (some ⟨b', 0, none⟩) n n), .bool true])) ∧ Own 2 w' b' (.slice (some ⟨b', 0, none⟩) n n) ((lay (lay (List.replicate n 0) zs R C A1 B1 0 0) ps R C A2 B2 ra rb)) ∧ w.heap.size ≤ b' ∧ Below w.heap.size w w' := by
  have hf1 : fieldB A1 B1 zs = true := by simp only [Bool.and_eq_true] at h1q; exact h1q.1
  have hf2 : fieldB A2 B2 ps = true := by simp only [Bool.and_eq_true] at h2q; exact h2q.1
  have hp1 : plainB zs = true := by simp only [Bool.and_eq_true] at h1q; rw [Can.plain_eq]; exact h1q.2
  have hp2 : plainB ps = true := by simp only [Bool.and_eq_true] at h2q; rw [Can.plain_eq]; exact h2q.2
  have hA1 := (field_nat hf1).1
  have hB1 := (field_nat hf1).2.1
  have hA2 := (field_nat hf2).1
  have hB2 := (field_nat hf2).2.1
  have hl := (field_nat hf1).2.2.1
  have hl2 := (field_nat hf2).2.2.1
  have HF1 := hid hf1
  have HF2 := hid hf2
  have HP1 := hid hp1
  have HP2 := hid hp2
  have HQ1 := hid h1q
  have HQ2 := hid h2q
  have HQ3 : Hid (decide (0 ≤ (ra : Int) ∧ (ra : Int) ≤ 24) = true) := by simp only [Hid, decide_eq_true_eq]; omega
  have HQ4 : Hid (decide (0 ≤ (rb : Int) ∧ (rb : Int) ≤ 24) = true) := by simp only [Hid, decide_eq_true_eq]; omega
  have HQ5 : Hid (sidesB (R : Int) (C : Int) = true) := by simp only [Hid, sidesB]; simp; omega
  have HSB : Hid ((1 ≤ A1 ∧ A1 ≤ 24) ∧ (1 ≤ B1 ∧ B1 ≤ 24) ∧ (1 ≤ A2 ∧ A2 ≤ 24) ∧ (1 ≤ B2 ∧ B2 ≤ 24) ∧ ra ≤ 24 ∧ rb ≤ 24) := by simp only [Hid]; omega
  have HRC : Hid ((1 ≤ R ∧ R ≤ 24) ∧ 1 ≤ C ∧ C ≤ 24) := by simp only [Hid]; omega
  have HK : Hid ((0 + A1 ≤ R ∧ 0 + B1 ≤ C) ∧ ra + A2 ≤ R ∧ rb + B2 ≤ C) := by simp only [Hid]; omega
  have HMX : Hid (max (A1 : Int) ((ra : Int) + (A2 : Int)) = (R : Int) ∧ max (B1 : Int) ((rb : Int) + (B2 : Int)) = (C : Int)) := ⟨hR.symm, hC.symm⟩
  have HN := hid hn
  have HM1 := hid hm1
  have HM2 := hid hm2'
  have HLE : Hid (n ≤ 576) := by simp only [Hid]; rw [hn]; exact Nat.le_trans (Nat.mul_le_mul hle.1 hle.2) (by decide)
  have HH := hid h
  have HH2 := hid h2
  obtain ⟨ao, cap, rfl, hc, hm, h4⟩ := h
  obtain ⟨ao2, cap2, rfl, hc2, hm2, h42⟩ := h2
  have hpos : 0 < zs.length := by rw [hl]; exact Nat.mul_pos hA1.1 hB1.1
  have hpos2 : 0 < ps.length := by rw [hl2]; exact Nat.mul_pos hA2.1 hB2.1
  obtain ⟨off, rfl, hb, hcell⟩ := h4 hpos
  obtain ⟨off2, rfl, hb2, hcell2⟩ := h42 hpos2
  have hln : zs.length = m1 := by rw [hm1]; exact hl
  have hln2 : ps.length = m2 := by rw [hm2']; exact hl2
  rw [hln] at HH hc hcell ⊢
  rw [hln2] at HH2 hc2 hcell2 ⊢
  have HL1 := hid hln
  have HL2 := hid hln2
  have HB0 := hid hb
  have HB2 := hid hb2
  have HCell := hid hcell
  have HCell2 := hid hcell2
  have hsz : m1 ≤ cap ∧ cap ≤ 9223372036854775807 := by unfold maxLen at hm; omega
  have hsz2 : m2 ≤ cap2 ∧ cap2 ≤ 9223372036854775807 := by unfold maxLen at hm2; omega
  clear hc hm h4 hc2 hm2 h42 hf1 hf2 hp1 hp2 h1q h2q hr hR hC hle hn hm1 hm2' hl hl2 hpos hpos2 hb hb2 hcell hcell2 hln hln2 hA1 hB1 hA2 hB2
  go_enter Try.func25, Try.ntmps25
  go_wp2_with fail
  obtain ⟨w1, hW⟩ : ∃ w1, w1 = ((w.alloc (Obj.cells #[.int .i64 A1, .int .i64 B1, .slice (some ⟨b, off, none⟩) m1 cap] 26)).alloc (Obj.cells #[.int .i64 A2, .int .i64 B2, .slice (some ⟨b2, off2, none⟩) m2 cap2] 26)).alloc (Obj.cells #[.int .i64 0, .int .i64 0, .slice none 0 0] 26) := ⟨_, rfl⟩
  obtain ⟨N, hN⟩ : ∃ N, N = w.heap.size := ⟨_, rfl⟩
  obtain ⟨M, hM2⟩ : ∃ M, M = N + 1 := ⟨_, rfl⟩
  obtain ⟨NT, hM⟩ : ∃ NT, NT = M + 1 := ⟨_, rfl⟩
  have st : Below w.heap.size w w1 ∧ w1.cell? ⟨N, 0, none⟩ = some (.int .i64 A1) ∧ w1.cell? ⟨N, 1, none⟩ = some (.int .i64 B1) ∧ w1.cell? ⟨N, 2, none⟩ = some (.slice (some ⟨b, off, none⟩) m1 cap) ∧ w1.cell? ⟨M, 0, none⟩ = some (.int .i64 A2) ∧ w1.cell? ⟨M, 1, none⟩ = some (.int .i64 B2) ∧ w1.cell? ⟨M, 2, none⟩ = some (.slice (some ⟨b2, off2, none⟩) m2 cap2) ∧ Rd w1 b (.slice (some ⟨b, off, none⟩) m1 cap) zs ∧ Rd w1 b2 (.slice (some ⟨b2, off2, none⟩) m2 cap2) ps ∧ w.heap.size ≤ w1.heap.size := by
    rw [hW, hM2, hN]
    exact ⟨Go.Joins.below_alloc3 _ _ _ _, Go.Joins.cell_of_block (FNew.heap_old (FNew.heap_old (FNew.heap_top rfl))) 0, Go.Joins.cell_of_block (FNew.heap_old (FNew.heap_old (FNew.heap_top rfl))) 1, Go.Joins.cell_of_block (FNew.heap_old (FNew.heap_old (FNew.heap_top rfl))) 2, Go.Joins.cell_of_block (FNew.heap_old (FNew.heap_top (by simp))) 0, Go.Joins.cell_of_block (FNew.heap_old (FNew.heap_top (by simp))) 1, Go.Joins.cell_of_block (FNew.heap_old (FNew.heap_top (by simp))) 2, HH.out.keep (Go.Joins.below_alloc3 _ _ _ _) (Nat.le_refl _), HH2.out.keep (Go.Joins.below_alloc3 _ _ _ _) (Nat.le_refl _), by simp; omega⟩
  have kT : w1.heap[NT]? = some (Obj.cells #[.int .i64 0, .int .i64 0, .slice none 0 0] 26) := by rw [hW]; exact FNew.heap_top (by rw [hM, hM2, hN]; simp)
  have HNT : Hid (w.heap.size ≤ NT) := by simp only [Hid]; omega
  have HNN : Hid (M = N + 1 ∧ NT = M + 1 ∧ N = w.heap.size) := ⟨hM2, hM, hN⟩
  simp only [← hW, ← hN, ← hM2, ← hM]
  clear hW hN hM hM2
  go_at_call 53
  refine (Can.isPlain (rd6_2_0 st)).mono ?_
  rw [HQ1.out]
  rintro e w2 ⟨rfl, bel⟩
  replace st := next6_2 bel st
  replace kT := (bel.block NT (Array.getElem?_eq_some_iff.1 kT).1).trans kT
  clear bel
  have m0 := st.2.2.2.2.1
  have m1 := st.2.2.2.2.2.1
  have m2 := st.2.2.2.2.2.2.1
  go_wp2_with fail
  go_at_call 53
  refine (Can.isPlain (rd6_2_1 st)).mono ?_
  rw [HQ2.out]
  rintro e w3 ⟨rfl, bel⟩
  clear m0 m1 m2
  replace st := next6_2 bel st
  replace kT := (bel.block NT (Array.getElem?_eq_some_iff.1 kT).1).trans kT
  clear bel
  go_wp2_with fail
  go_at_call 54
  refine isCountB.mono ?_
  rw [HQ3.out]
  rintro e v3 ⟨rfl, rfl⟩
  go_wp2_with fail
  go_at_call 54
  refine isCountB.mono ?_
  rw [HQ4.out]
  rintro e v4 ⟨rfl, rfl⟩

  have x0 : IntKind.i64.wrap ((ra : Int) + (A2 : Int)) = (ra : Int) + (A2 : Int) := by have := HSB.out; rw [IntKind.wrap_i64]; omega
  have x1 : IntKind.i64.wrap ((rb : Int) + (B2 : Int)) = (rb : Int) + (B2 : Int) := by have := HSB.out; rw [IntKind.wrap_i64]; omega
  have a0 : (if (A1 : Int) < (ra : Int) + (A2 : Int) then (ra : Int) + (A2 : Int) else (A1 : Int)) = max (A1 : Int) ((ra : Int) + (A2 : Int)) := by split <;> omega
  have a1 : (if (B1 : Int) < (rb : Int) + (B2 : Int) then (rb : Int) + (B2 : Int) else (B1 : Int)) = max (B1 : Int) ((rb : Int) + (B2 : Int)) := by split <;> omega
  have m0 := st.2.2.2.2.1
  have m1' := st.2.2.2.2.2.1
  have c0 := st.2.1
  have c1 := st.2.2.1
  go_wp2_with fail
  (try simp only [a0, a1, HMX.out.1, HMX.out.2])
  go_at_call 55
  refine (FNew.implOk HQ5.out HN.out HLE.out).mono ?_
  rintro e w4 ⟨b', rfl, ow, lo, bel⟩
  clear m0 m1' c0 c1 a0 a1
  have HLo : Hid (w.heap.size ≤ b') := Nat.le_trans st.1.size lo
  have HNB : Hid (NT ≠ b') := Nat.ne_of_lt (Nat.lt_of_lt_of_le (Array.getElem?_eq_some_iff.1 kT).1 lo)
  have HNN2 : Hid (N ≠ b' ∧ M ≠ b') := ⟨Nat.ne_of_lt (Nat.lt_of_lt_of_le (World.block_lt_of_cell? _ _ st.2.1) lo), Nat.ne_of_lt (Nat.lt_of_lt_of_le (World.block_lt_of_cell? _ _ st.2.2.2.2.1) lo)⟩
  have HBne : Hid (b ≠ b' ∧ b2 ≠ b') := ⟨Nat.ne_of_lt (Nat.lt_of_lt_of_le HB0.out HLo.out), Nat.ne_of_lt (Nat.lt_of_lt_of_le HB2.out HLo.out)⟩
  clear lo
  replace st := next6_2 bel st
  replace kT := (bel.block NT (Array.getElem?_eq_some_iff.1 kT).1).trans kT
  clear bel
  have cx0 : (w4.alloc (Obj.cells #[.int .i64 R, .int .i64 C, .slice (some ⟨b', 0, none⟩) n n] 26)).cell? ⟨N, 0, none⟩ = some (.int .i64 A1) := cell_keep (below1 _ _) st.2.1
  have cx1 : (w4.alloc (Obj.cells #[.int .i64 R, .int .i64 C, .slice (some ⟨b', 0, none⟩) n n] 26)).cell? ⟨N, 1, none⟩ = some (.int .i64 B1) := cell_keep (below1 _ _) st.2.2.1
  have cx2 : (w4.alloc (Obj.cells #[.int .i64 R, .int .i64 C, .slice (some ⟨b', 0, none⟩) n n] 26)).cell? ⟨N, 2, none⟩ = some (.slice (some ⟨b, off, none⟩) m1 cap) := cell_keep (below1 _ _) st.2.2.2.1
  have HST := hid st
  have HKT := hid kT
  have HO4 := hid ow
  clear st kT ow
  go_wp2_with fail
  clear cx0 cx1 cx2
  obtain ⟨w5, hW⟩ : ∃ w5, w5 = w4.alloc (Obj.cells #[.int .i64 R, .int .i64 C, .slice (some ⟨b', 0, none⟩) n n] 26) := ⟨_, rfl⟩
  obtain ⟨NO, hO⟩ : ∃ NO, NO = w4.heap.size := ⟨_, rfl⟩
  have bel : Below w4.heap.size w4 w5 := by rw [hW]; exact below1 _ _
  have st := next6_2 bel HST.out
  have HKT5 := hid ((bel.block NT (Array.getElem?_eq_some_iff.1 HKT.out).1).trans HKT.out)
  have HO5 := hid (HO4.out.keep bel)
  have HKO5 : Hid (w5.heap[NO]? = some (Obj.cells #[.int .i64 R, .int .i64 C, .slice (some ⟨b', 0, none⟩) n n] 26)) := by simp only [Hid]; rw [hW]; exact FNew.heap_top hO
  have HNO : Hid (NO ≠ b') := by simp only [Hid]; rw [hO]; exact Nat.ne_of_gt HO4.out.lt
  simp only [← hW, ← hO]
  clear hW hO bel HST HKT HO4
  have HST5 := hid st
  clear st
  go_at_call 61
  refine (layC0 HKO5.out HO5.out (rep_plain n) (by simp) HN.out HRC.out.1 HRC.out.2 HNO.out (rd6_2_0 HST5.out) HF1.out HP1.out HM1.out HBne.out.1 HK.out.1).mono ?_
  rintro e w6 ⟨⟨x6, rfl⟩, ow, g⟩
  have HO6 := hid ow
  have HG6 := hid g
  have q0 := g_cell g HST5.out.2.2.2.2.1 HNN2.out.2
  have q1 := g_cell g HST5.out.2.2.2.2.2.1 HNN2.out.2
  have q2 := g_cell g HST5.out.2.2.2.2.2.2.1 HNN2.out.2
  have HB6 := hid (g_below HST5.out.1 g HLo.out)
  clear ow g
  go_wp2_with fail
  go_at_call 61
  refine (layC (g_heap HG6.out HKO5.out HNO.out) HO6.out (lay_plain (rep_plain n) _ _ _ _ _ _ _) (by rw [lay_len, HN.out]) HN.out HRC.out.1 HRC.out.2 HNO.out (HH2.out.keep HB6.out (Nat.le_refl _)) HF2.out HP2.out HM2.out HBne.out.2 HK.out.2).mono ?_
  rintro e w7 ⟨⟨x7, rfl⟩, ow, g⟩
  clear q0 q1 q2
  have g7 := gTr HG6.out g
  have HKO7 := hid (g_heap g7 HKO5.out HNO.out)
  have kT := g_heap g7 HKT5.out HNB.out
  have HB := hid (g_below HST5.out.1 g7 HLo.out)
  have HO := hid ow
  have o0 : w7.cell? ⟨NO, 0, none⟩ = some (.int .i64 R) := Go.Joins.cell_of_block HKO7.out 0
  have o1 : w7.cell? ⟨NO, 1, none⟩ = some (.int .i64 C) := Go.Joins.cell_of_block HKO7.out 1
  have o2 : w7.cell? ⟨NO, 2, none⟩ = some (.slice (some ⟨b', 0, none⟩) n n) := Go.Joins.cell_of_block HKO7.out 2
  clear ow g g7
  have y0 : w7.cell? ⟨NT, 0, none⟩ = some (.int .i64 0) := Go.Joins.cell_of_block kT 0
  have y1 : w7.cell? ⟨NT, 1, none⟩ = some (.int .i64 0) := Go.Joins.cell_of_block kT 1
  have y2 : w7.cell? ⟨NT, 2, none⟩ = some (.slice none 0 0) := Go.Joins.cell_of_block kT 2
  have g0 : w7.frozen? ⟨NT, 0, none⟩ = false := Go.Joins.unfrozen_of_block kT 0
  have g1 : w7.frozen? ⟨NT, 1, none⟩ = false := Go.Joins.unfrozen_of_block kT 1
  have g2 : w7.frozen? ⟨NT, 2, none⟩ = false := Go.Joins.unfrozen_of_block kT 2
  have HKx := hid kT
  clear kT
  go_wp2
  obtain ⟨W5, hW⟩ : ∃ W5, W5 = (((w7.setCell ⟨NT, 0, none⟩ (.int .i64 R)).setCell ⟨NT, 1, none⟩ (.int .i64 C)).setCell ⟨NT, 2, none⟩ (.slice (some ⟨b', 0, none⟩) n n)) := ⟨_, rfl⟩
  have q0 := (Go.Joins.block_setCell (i := 2) (Go.Joins.block_setCell (i := 1) (Go.Joins.block_setCell (i := 0) HKx.out (.int .i64 R)) (.int .i64 C)) (.slice (some ⟨b', 0, none⟩) n n))
  rw [← hW] at q0
  have z0 : W5.cell? ⟨NT, 0, none⟩ = some (.int .i64 R) := Go.Joins.cell_of_block q0 0
  have z1 : W5.cell? ⟨NT, 1, none⟩ = some (.int .i64 C) := Go.Joins.cell_of_block q0 1
  have z2 : W5.cell? ⟨NT, 2, none⟩ = some (.slice (some ⟨b', 0, none⟩) n n) := Go.Joins.cell_of_block q0 2
  have O5 := (own_set (own_set (own_set HO.out ⟨NT, 0, none⟩ (.int .i64 R) HNB.out) ⟨NT, 1, none⟩ (.int .i64 C) HNB.out) ⟨NT, 2, none⟩ (.slice (some ⟨b', 0, none⟩) n n) HNB.out)
  rw [← hW] at O5
  have B5 : Below w.heap.size w W5 := by
    have h1 := HNT.out
    rw [hW]
    exact ((HB.out.setCell (by simp; omega) _).setCell (by simp; omega) _).setCell (by simp; omega) _
  simp only [← hW]
  clear hW q0
  simp [bodyPost, results, Try.results25, go_sem, z0, z1, z2]
  exact ⟨O5, HLo.out, B5⟩

end Go.Proofs.Ytmbimekndhcgaaa.MtI
