/- MeetFields of both sides: one answer. -/
import Derived.Deep.Cut
import Derived.Test.YtmbimekndhcgaaaMtS
namespace Go.Proofs.Ytmbimekndhcgaaa.MtA
open Go.RowKit Go.Proofs.Ytmbimekndhcgaaa.Rd Go.Proofs.Ytmbimekndhcgaaa.Help Go.Proofs.Ytmbimekndhcgaaa.Ring Go.Proofs.Ytmbimekndhcgaaa.Small Go.Proofs.Ytmbimekndhcgaaa.FVal Go.Proofs.Ytmbimekndhcgaaa.Keep Go.Proofs.Ytmbimekndhcgaaa.Rule Go.Proofs.Ytmbimekndhcgaaa.Grow Go.Proofs.Ytmbimekndhcgaaa.Copy Go.Proofs.Ytmbimekndhcgaaa.FCut Go.Proofs.Ytmbimekndhcgaaa.FPst Go.Proofs.Ytmbimekndhcgaaa.Lf Go.Proofs.Ytmbimekndhcgaaa.Mt Go.Proofs.Ytmbimekndhcgaaa.MtI Go.Proofs.Ytmbimekndhcgaaa.MtS
set_option linter.unusedVariables false
set_option linter.unusedSimpArgs false

set_option maxHeartbeats 4000000 in
theorem specNo1 {w : World} {s r s' r' row col : Int} {b b2 : Nat} {v v2 : Value} {zs ps : List Int} (h : Rd w b v zs) (h2 : Rd w b2 v2 ps) (h1q : (fieldB s r zs && allB zs 2) = false) :
    Calls Try.prog 24 #[ruleV s r v, ruleV s' r' v2, .int .i64 row, .int .i64 col] w fun e w' => e = .returned (.tuple #[ruleV 0 0 (.slice none 0 0), .bool false]) ∧ Below w.heap.size w w' := by
  have HH := hid h
  have HH2 := hid h2
  have HQ1 := hid h1q
  obtain ⟨ao, cap, rfl, hc, hm, _⟩ := h
  obtain ⟨ao2, cap2, rfl, hc2, hm2, _⟩ := h2
  clear hc hm hc2 hm2 h1q
  go_enter Try.func24, Try.ntmps24
  go_wp2_with fail
  obtain ⟨w1, hW⟩ : ∃ w1, w1 = ((w.alloc (Obj.cells #[.int .i64 s, .int .i64 r, .slice ao zs.length cap] 26)).alloc (Obj.cells #[.int .i64 s', .int .i64 r', .slice ao2 ps.length cap2] 26)).alloc (Obj.cells #[.int .i64 0, .int .i64 0, .slice none 0 0] 26) := ⟨_, rfl⟩
  obtain ⟨N, hN⟩ : ∃ N, N = w.heap.size := ⟨_, rfl⟩
  obtain ⟨M, hM2⟩ : ∃ M, M = N + 1 := ⟨_, rfl⟩
  obtain ⟨NT, hM⟩ : ∃ NT, NT = M + 1 := ⟨_, rfl⟩
  have st : Below w.heap.size w w1 ∧ w1.cell? ⟨N, 0, none⟩ = some (.int .i64 s) ∧ w1.cell? ⟨N, 1, none⟩ = some (.int .i64 r) ∧ w1.cell? ⟨N, 2, none⟩ = some (.slice ao zs.length cap) ∧ w1.cell? ⟨M, 0, none⟩ = some (.int .i64 s') ∧ w1.cell? ⟨M, 1, none⟩ = some (.int .i64 r') ∧ w1.cell? ⟨M, 2, none⟩ = some (.slice ao2 ps.length cap2) ∧ Rd w1 b (.slice ao zs.length cap) zs ∧ Rd w1 b2 (.slice ao2 ps.length cap2) ps ∧ w.heap.size ≤ w1.heap.size := by
    rw [hW, hM2, hN]
    exact ⟨Go.Joins.below_alloc3 _ _ _ _, Go.Joins.cell_of_block (FNew.heap_old (FNew.heap_old (FNew.heap_top rfl))) 0, Go.Joins.cell_of_block (FNew.heap_old (FNew.heap_old (FNew.heap_top rfl))) 1, Go.Joins.cell_of_block (FNew.heap_old (FNew.heap_old (FNew.heap_top rfl))) 2, Go.Joins.cell_of_block (FNew.heap_old (FNew.heap_top (by simp))) 0, Go.Joins.cell_of_block (FNew.heap_old (FNew.heap_top (by simp))) 1, Go.Joins.cell_of_block (FNew.heap_old (FNew.heap_top (by simp))) 2, HH.out.keep (Go.Joins.below_alloc3 _ _ _ _) (Nat.le_refl _), HH2.out.keep (Go.Joins.below_alloc3 _ _ _ _) (Nat.le_refl _), by simp; omega⟩
  have kT : w1.heap[NT]? = some (Obj.cells #[.int .i64 0, .int .i64 0, .slice none 0 0] 26) := by rw [hW]; exact FNew.heap_top (by rw [hM, hM2, hN]; simp)
  have HNT : Hid (w.heap.size ≤ NT) := by simp only [Hid]; omega
  have HNN : Hid (M = N + 1 ∧ NT = M + 1 ∧ N = w.heap.size) := ⟨hM2, hM, hN⟩
  simp only [← hW, ← hN, ← hM2, ← hM]
  clear hW hN hM hM2
  go_at_call 49
  refine (Can.l04Plain (rd6_2_0 st) st.2.1 st.2.2.1 st.2.2.2.1).mono ?_
  rw [HQ1.out]
  rintro e w2 ⟨rfl, hm2⟩
  have bel := Can.below_m hm2
  clear hm2
  replace st := next6_2 bel st
  replace kT := (bel.block NT (Array.getElem?_eq_some_iff.1 kT).1).trans kT
  clear bel

  have HB := hid st.1
  have y0 : w2.cell? ⟨NT, 0, none⟩ = some (.int .i64 0) := Go.Joins.cell_of_block kT 0
  have y1 : w2.cell? ⟨NT, 1, none⟩ = some (.int .i64 0) := Go.Joins.cell_of_block kT 1
  have y2 : w2.cell? ⟨NT, 2, none⟩ = some (.slice none 0 0) := Go.Joins.cell_of_block kT 2
  have g0 : w2.frozen? ⟨NT, 0, none⟩ = false := Go.Joins.unfrozen_of_block kT 0
  have g1 : w2.frozen? ⟨NT, 1, none⟩ = false := Go.Joins.unfrozen_of_block kT 1
  have g2 : w2.frozen? ⟨NT, 2, none⟩ = false := Go.Joins.unfrozen_of_block kT 2
  have HKx := hid kT
  clear kT
  go_wp2
  obtain ⟨W5, hW⟩ : ∃ W5, W5 = (((w2.setCell ⟨NT, 0, none⟩ (.int .i64 0)).setCell ⟨NT, 1, none⟩ (.int .i64 0)).setCell ⟨NT, 2, none⟩ (.slice none 0 0)) := ⟨_, rfl⟩
  have q0 := (Go.Joins.block_setCell (i := 2) (Go.Joins.block_setCell (i := 1) (Go.Joins.block_setCell (i := 0) HKx.out (.int .i64 0)) (.int .i64 0)) (.slice none 0 0))
  rw [← hW] at q0
  have z0 : W5.cell? ⟨NT, 0, none⟩ = some (.int .i64 0) := Go.Joins.cell_of_block q0 0
  have z1 : W5.cell? ⟨NT, 1, none⟩ = some (.int .i64 0) := Go.Joins.cell_of_block q0 1
  have z2 : W5.cell? ⟨NT, 2, none⟩ = some (.slice none 0 0) := Go.Joins.cell_of_block q0 2
  have B5 : Below w.heap.size w W5 := by
    have h1 := HNT.out
    rw [hW]
    exact ((HB.out.setCell (by simp; omega) _).setCell (by simp; omega) _).setCell (by simp; omega) _
  simp only [← hW]
  clear hW q0
  simp [bodyPost, results, Try.results24, go_sem, z0, z1, z2]
  exact B5

set_option maxHeartbeats 4000000 in
theorem specNo2 {w : World} {s r s' r' row col : Int} {b b2 : Nat} {v v2 : Value} {zs ps : List Int} (h : Rd w b v zs) (h2 : Rd w b2 v2 ps) (h1q : (fieldB s r zs && allB zs 2) = true) (h2q : (fieldB s' r' ps && allB ps 2) = false) :
    Calls Try.prog 24 #[ruleV s r v, ruleV s' r' v2, .int .i64 row, .int .i64 col] w fun e w' => e = .returned (.tuple #[ruleV 0 0 (.slice none 0 0), .bool false]) ∧ Below w.heap.size w w' := by
  have HH := hid h
  have HH2 := hid h2
  have HQ1 := hid h1q
  have HQ2 := hid h2q
  obtain ⟨ao, cap, rfl, hc, hm, _⟩ := h
  obtain ⟨ao2, cap2, rfl, hc2, hm2, _⟩ := h2
  clear hc hm hc2 hm2 h1q h2q
  go_enter Try.func24, Try.ntmps24
  go_wp2_with fail
  obtain ⟨w1, hW⟩ : ∃ w1, w1 = ((w.alloc (Obj.cells #[.int .i64 s, .int .i64 r, .slice ao zs.length cap] 26)).alloc (Obj.cells #[.int .i64 s', .int .i64 r', .slice ao2 ps.length cap2] 26)).alloc (Obj.cells #[.int .i64 0, .int .i64 0, .slice none 0 0] 26) := ⟨_, rfl⟩
  obtain ⟨N, hN⟩ : ∃ N, N = w.heap.size := ⟨_, rfl⟩
  obtain ⟨M, hM2⟩ : ∃ M, M = N + 1 := ⟨_, rfl⟩
  obtain ⟨NT, hM⟩ : ∃ NT, NT = M + 1 := ⟨_, rfl⟩
  have st : Below w.heap.size w w1 ∧ w1.cell? ⟨N, 0, none⟩ = some (.int .i64 s) ∧ w1.cell? ⟨N, 1, none⟩ = some (.int .i64 r) ∧ w1.cell? ⟨N, 2, none⟩ = some (.slice ao zs.length cap) ∧ w1.cell? ⟨M, 0, none⟩ = some (.int .i64 s') ∧ w1.cell? ⟨M, 1, none⟩ = some (.int .i64 r') ∧ w1.cell? ⟨M, 2, none⟩ = some (.slice ao2 ps.length cap2) ∧ Rd w1 b (.slice ao zs.length cap) zs ∧ Rd w1 b2 (.slice ao2 ps.length cap2) ps ∧ w.heap.size ≤ w1.heap.size := by
    rw [hW, hM2, hN]
    exact ⟨Go.Joins.below_alloc3 _ _ _ _, Go.Joins.cell_of_block (FNew.heap_old (FNew.heap_old (FNew.heap_top rfl))) 0, Go.Joins.cell_of_block (FNew.heap_old (FNew.heap_old (FNew.heap_top rfl))) 1, Go.Joins.cell_of_block (FNew.heap_old (FNew.heap_old (FNew.heap_top rfl))) 2, Go.Joins.cell_of_block (FNew.heap_old (FNew.heap_top (by simp))) 0, Go.Joins.cell_of_block (FNew.heap_old (FNew.heap_top (by simp))) 1, Go.Joins.cell_of_block (FNew.heap_old (FNew.heap_top (by simp))) 2, HH.out.keep (Go.Joins.below_alloc3 _ _ _ _) (Nat.le_refl _), HH2.out.keep (Go.Joins.below_alloc3 _ _ _ _) (Nat.le_refl _), by simp; omega⟩
  have kT : w1.heap[NT]? = some (Obj.cells #[.int .i64 0, .int .i64 0, .slice none 0 0] 26) := by rw [hW]; exact FNew.heap_top (by rw [hM, hM2, hN]; simp)
  have HNT : Hid (w.heap.size ≤ NT) := by simp only [Hid]; omega
  have HNN : Hid (M = N + 1 ∧ NT = M + 1 ∧ N = w.heap.size) := ⟨hM2, hM, hN⟩
  simp only [← hW, ← hN, ← hM2, ← hM]
  clear hW hN hM hM2
  go_at_call 49
  refine (Can.l04Plain (rd6_2_0 st) st.2.1 st.2.2.1 st.2.2.2.1).mono ?_
  rw [HQ1.out]
  rintro e w2 ⟨rfl, hm2⟩
  have bel := Can.below_m hm2
  clear hm2
  replace st := next6_2 bel st
  replace kT := (bel.block NT (Array.getElem?_eq_some_iff.1 kT).1).trans kT
  clear bel
  go_wp2_with fail
  go_at_call 49
  refine (Can.l04Plain (rd6_2_1 st) st.2.2.2.2.1 st.2.2.2.2.2.1 st.2.2.2.2.2.2.1).mono ?_
  rw [HQ2.out]
  rintro e w3 ⟨rfl, hm2⟩
  have bel := Can.below_m hm2
  clear hm2
  replace st := next6_2 bel st
  replace kT := (bel.block NT (Array.getElem?_eq_some_iff.1 kT).1).trans kT
  clear bel

  have HB := hid st.1
  have y0 : w3.cell? ⟨NT, 0, none⟩ = some (.int .i64 0) := Go.Joins.cell_of_block kT 0
  have y1 : w3.cell? ⟨NT, 1, none⟩ = some (.int .i64 0) := Go.Joins.cell_of_block kT 1
  have y2 : w3.cell? ⟨NT, 2, none⟩ = some (.slice none 0 0) := Go.Joins.cell_of_block kT 2
  have g0 : w3.frozen? ⟨NT, 0, none⟩ = false := Go.Joins.unfrozen_of_block kT 0
  have g1 : w3.frozen? ⟨NT, 1, none⟩ = false := Go.Joins.unfrozen_of_block kT 1
  have g2 : w3.frozen? ⟨NT, 2, none⟩ = false := Go.Joins.unfrozen_of_block kT 2
  have HKx := hid kT
  clear kT
  go_wp2
  obtain ⟨W5, hW⟩ : ∃ W5, W5 = (((w3.setCell ⟨NT, 0, none⟩ (.int .i64 0)).setCell ⟨NT, 1, none⟩ (.int .i64 0)).setCell ⟨NT, 2, none⟩ (.slice none 0 0)) := ⟨_, rfl⟩
  have q0 := (Go.Joins.block_setCell (i := 2) (Go.Joins.block_setCell (i := 1) (Go.Joins.block_setCell (i := 0) HKx.out (.int .i64 0)) (.int .i64 0)) (.slice none 0 0))
  rw [← hW] at q0
  have z0 : W5.cell? ⟨NT, 0, none⟩ = some (.int .i64 0) := Go.Joins.cell_of_block q0 0
  have z1 : W5.cell? ⟨NT, 1, none⟩ = some (.int .i64 0) := Go.Joins.cell_of_block q0 1
  have z2 : W5.cell? ⟨NT, 2, none⟩ = some (.slice none 0 0) := Go.Joins.cell_of_block q0 2
  have B5 : Below w.heap.size w W5 := by
    have h1 := HNT.out
    rw [hW]
    exact ((HB.out.setCell (by simp; omega) _).setCell (by simp; omega) _).setCell (by simp; omega) _
  simp only [← hW]
  clear hW q0
  simp [bodyPost, results, Try.results24, go_sem, z0, z1, z2]
  exact B5

set_option maxHeartbeats 4000000 in
theorem specNo3 {w : World} {s r s' r' row col : Int} {b b2 : Nat} {v v2 : Value} {zs ps : List Int} (h : Rd w b v zs) (h2 : Rd w b2 v2 ps) (h1q : (fieldB s r zs && allB zs 2) = true) (h2q : (fieldB s' r' ps && allB ps 2) = true) (h3q : decide (0 ≤ row ∧ row ≤ 24) = false) :
    Calls Try.prog 24 #[ruleV s r v, ruleV s' r' v2, .int .i64 row, .int .i64 col] w fun e w' => e = .returned (.tuple #[ruleV 0 0 (.slice none 0 0), .bool false]) ∧ Below w.heap.size w w' := by
  have HH := hid h
  have HH2 := hid h2
  have HQ1 := hid h1q
  have HQ2 := hid h2q
  have HQ3 := hid h3q
  obtain ⟨ao, cap, rfl, hc, hm, _⟩ := h
  obtain ⟨ao2, cap2, rfl, hc2, hm2, _⟩ := h2
  clear hc hm hc2 hm2 h1q h2q h3q
  go_enter Try.func24, Try.ntmps24
  go_wp2_with fail
  obtain ⟨w1, hW⟩ : ∃ w1, w1 = ((w.alloc (Obj.cells #[.int .i64 s, .int .i64 r, .slice ao zs.length cap] 26)).alloc (Obj.cells #[.int .i64 s', .int .i64 r', .slice ao2 ps.length cap2] 26)).alloc (Obj.cells #[.int .i64 0, .int .i64 0, .slice none 0 0] 26) := ⟨_, rfl⟩
  obtain ⟨N, hN⟩ : ∃ N, N = w.heap.size := ⟨_, rfl⟩
  obtain ⟨M, hM2⟩ : ∃ M, M = N + 1 := ⟨_, rfl⟩
  obtain ⟨NT, hM⟩ : ∃ NT, NT = M + 1 := ⟨_, rfl⟩
  have st : Below w.heap.size w w1 ∧ w1.cell? ⟨N, 0, none⟩ = some (.int .i64 s) ∧ w1.cell? ⟨N, 1, none⟩ = some (.int .i64 r) ∧ w1.cell? ⟨N, 2, none⟩ = some (.slice ao zs.length cap) ∧ w1.cell? ⟨M, 0, none⟩ = some (.int .i64 s') ∧ w1.cell? ⟨M, 1, none⟩ = some (.int .i64 r') ∧ w1.cell? ⟨M, 2, none⟩ = some (.slice ao2 ps.length cap2) ∧ Rd w1 b (.slice ao zs.length cap) zs ∧ Rd w1 b2 (.slice ao2 ps.length cap2) ps ∧ w.heap.size ≤ w1.heap.size := by
    rw [hW, hM2, hN]
    exact ⟨Go.Joins.below_alloc3 _ _ _ _, Go.Joins.cell_of_block (FNew.heap_old (FNew.heap_old (FNew.heap_top rfl))) 0, Go.Joins.cell_of_block (FNew.heap_old (FNew.heap_old (FNew.heap_top rfl))) 1, Go.Joins.cell_of_block (FNew.heap_old (FNew.heap_old (FNew.heap_top rfl))) 2, Go.Joins.cell_of_block (FNew.heap_old (FNew.heap_top (by simp))) 0, Go.Joins.cell_of_block (FNew.heap_old (FNew.heap_top (by simp))) 1, Go.Joins.cell_of_block (FNew.heap_old (FNew.heap_top (by simp))) 2, HH.out.keep (Go.Joins.below_alloc3 _ _ _ _) (Nat.le_refl _), HH2.out.keep (Go.Joins.below_alloc3 _ _ _ _) (Nat.le_refl _), by simp; omega⟩
  have kT : w1.heap[NT]? = some (Obj.cells #[.int .i64 0, .int .i64 0, .slice none 0 0] 26) := by rw [hW]; exact FNew.heap_top (by rw [hM, hM2, hN]; simp)
  have HNT : Hid (w.heap.size ≤ NT) := by simp only [Hid]; omega
  have HNN : Hid (M = N + 1 ∧ NT = M + 1 ∧ N = w.heap.size) := ⟨hM2, hM, hN⟩
  simp only [← hW, ← hN, ← hM2, ← hM]
  clear hW hN hM hM2
  go_at_call 49
  refine (Can.l04Plain (rd6_2_0 st) st.2.1 st.2.2.1 st.2.2.2.1).mono ?_
  rw [HQ1.out]
  rintro e w2 ⟨rfl, hm2⟩
  have bel := Can.below_m hm2
  clear hm2
  replace st := next6_2 bel st
  replace kT := (bel.block NT (Array.getElem?_eq_some_iff.1 kT).1).trans kT
  clear bel
  go_wp2_with fail
  go_at_call 49
  refine (Can.l04Plain (rd6_2_1 st) st.2.2.2.2.1 st.2.2.2.2.2.1 st.2.2.2.2.2.2.1).mono ?_
  rw [HQ2.out]
  rintro e w3 ⟨rfl, hm2⟩
  have bel := Can.below_m hm2
  clear hm2
  replace st := next6_2 bel st
  replace kT := (bel.block NT (Array.getElem?_eq_some_iff.1 kT).1).trans kT
  clear bel
  go_wp2_with fail
  go_at_call 60
  refine (meetNo3 (b := b) (b2 := b2) (zs := zs) (ps := ps) st.2.1 st.2.2.1 st.2.2.2.1 st.2.2.2.2.1 st.2.2.2.2.2.1 st.2.2.2.2.2.2.1 HQ3.out).mono ?_
  rintro e w4 ⟨rfl, bel⟩
  replace st := next6_2 bel st
  replace kT := (bel.block NT (Array.getElem?_eq_some_iff.1 kT).1).trans kT
  clear bel

  have HB := hid st.1
  have y0 : w4.cell? ⟨NT, 0, none⟩ = some (.int .i64 0) := Go.Joins.cell_of_block kT 0
  have y1 : w4.cell? ⟨NT, 1, none⟩ = some (.int .i64 0) := Go.Joins.cell_of_block kT 1
  have y2 : w4.cell? ⟨NT, 2, none⟩ = some (.slice none 0 0) := Go.Joins.cell_of_block kT 2
  have g0 : w4.frozen? ⟨NT, 0, none⟩ = false := Go.Joins.unfrozen_of_block kT 0
  have g1 : w4.frozen? ⟨NT, 1, none⟩ = false := Go.Joins.unfrozen_of_block kT 1
  have g2 : w4.frozen? ⟨NT, 2, none⟩ = false := Go.Joins.unfrozen_of_block kT 2
  have HKx := hid kT
  clear kT
  go_wp2
  obtain ⟨W5, hW⟩ : ∃ W5, W5 = (((w4.setCell ⟨NT, 0, none⟩ (.int .i64 0)).setCell ⟨NT, 1, none⟩ (.int .i64 0)).setCell ⟨NT, 2, none⟩ (.slice none 0 0)) := ⟨_, rfl⟩
  have q0 := (Go.Joins.block_setCell (i := 2) (Go.Joins.block_setCell (i := 1) (Go.Joins.block_setCell (i := 0) HKx.out (.int .i64 0)) (.int .i64 0)) (.slice none 0 0))
  rw [← hW] at q0
  have z0 : W5.cell? ⟨NT, 0, none⟩ = some (.int .i64 0) := Go.Joins.cell_of_block q0 0
  have z1 : W5.cell? ⟨NT, 1, none⟩ = some (.int .i64 0) := Go.Joins.cell_of_block q0 1
  have z2 : W5.cell? ⟨NT, 2, none⟩ = some (.slice none 0 0) := Go.Joins.cell_of_block q0 2
  have B5 : Below w.heap.size w W5 := by
    have h1 := HNT.out
    rw [hW]
    exact ((HB.out.setCell (by simp; omega) _).setCell (by simp; omega) _).setCell (by simp; omega) _
  simp only [← hW]
  clear hW q0
  simp [bodyPost, results, Try.results24, go_sem, z0, z1, z2]
  exact B5

set_option maxHeartbeats 4000000 in
theorem specNo4 {w : World} {s r s' r' row col : Int} {b b2 : Nat} {v v2 : Value} {zs ps : List Int} (h : Rd w b v zs) (h2 : Rd w b2 v2 ps) (h1q : (fieldB s r zs && allB zs 2) = true) (h2q : (fieldB s' r' ps && allB ps 2) = true) (h3q : decide (0 ≤ row ∧ row ≤ 24) = true) (h4q : decide (0 ≤ col ∧ col ≤ 24) = false) :
    Calls Try.prog 24 #[ruleV s r v, ruleV s' r' v2, .int .i64 row, .int .i64 col] w fun e w' => e = .returned (.tuple #[ruleV 0 0 (.slice none 0 0), .bool false]) ∧ Below w.heap.size w w' := by
  have HH := hid h
  have HH2 := hid h2
  have HQ1 := hid h1q
  have HQ2 := hid h2q
  have HQ3 := hid h3q
  have HQ4 := hid h4q
  obtain ⟨ao, cap, rfl, hc, hm, _⟩ := h
  obtain ⟨ao2, cap2, rfl, hc2, hm2, _⟩ := h2
  clear hc hm hc2 hm2 h1q h2q h3q h4q
  go_enter Try.func24, Try.ntmps24
  go_wp2_with fail
  obtain ⟨w1, hW⟩ : ∃ w1, w1 = ((w.alloc (Obj.cells #[.int .i64 s, .int .i64 r, .slice ao zs.length cap] 26)).alloc (Obj.cells #[.int .i64 s', .int .i64 r', .slice ao2 ps.length cap2] 26)).alloc (Obj.cells #[.int .i64 0, .int .i64 0, .slice none 0 0] 26) := ⟨_, rfl⟩
  obtain ⟨N, hN⟩ : ∃ N, N = w.heap.size := ⟨_, rfl⟩
  obtain ⟨M, hM2⟩ : ∃ M, M = N + 1 := ⟨_, rfl⟩
  obtain ⟨NT, hM⟩ : ∃ NT, NT = M + 1 := ⟨_, rfl⟩
  have st : Below w.heap.size w w1 ∧ w1.cell? ⟨N, 0, none⟩ = some (.int .i64 s) ∧ w1.cell? ⟨N, 1, none⟩ = some (.int .i64 r) ∧ w1.cell? ⟨N, 2, none⟩ = some (.slice ao zs.length cap) ∧ w1.cell? ⟨M, 0, none⟩ = some (.int .i64 s') ∧ w1.cell? ⟨M, 1, none⟩ = some (.int .i64 r') ∧ w1.cell? ⟨M, 2, none⟩ = some (.slice ao2 ps.length cap2) ∧ Rd w1 b (.slice ao zs.length cap) zs ∧ Rd w1 b2 (.slice ao2 ps.length cap2) ps ∧ w.heap.size ≤ w1.heap.size := by
    rw [hW, hM2, hN]
    exact ⟨Go.Joins.below_alloc3 _ _ _ _, Go.Joins.cell_of_block (FNew.heap_old (FNew.heap_old (FNew.heap_top rfl))) 0, Go.Joins.cell_of_block (FNew.heap_old (FNew.heap_old (FNew.heap_top rfl))) 1, Go.Joins.cell_of_block (FNew.heap_old (FNew.heap_old (FNew.heap_top rfl))) 2, Go.Joins.cell_of_block (FNew.heap_old (FNew.heap_top (by simp))) 0, Go.Joins.cell_of_block (FNew.heap_old (FNew.heap_top (by simp))) 1, Go.Joins.cell_of_block (FNew.heap_old (FNew.heap_top (by simp))) 2, HH.out.keep (Go.Joins.below_alloc3 _ _ _ _) (Nat.le_refl _), HH2.out.keep (Go.Joins.below_alloc3 _ _ _ _) (Nat.le_refl _), by simp; omega⟩
  have kT : w1.heap[NT]? = some (Obj.cells #[.int .i64 0, .int .i64 0, .slice none 0 0] 26) := by rw [hW]; exact FNew.heap_top (by rw [hM, hM2, hN]; simp)
  have HNT : Hid (w.heap.size ≤ NT) := by simp only [Hid]; omega
  have HNN : Hid (M = N + 1 ∧ NT = M + 1 ∧ N = w.heap.size) := ⟨hM2, hM, hN⟩
  simp only [← hW, ← hN, ← hM2, ← hM]
  clear hW hN hM hM2
  go_at_call 49
  refine (Can.l04Plain (rd6_2_0 st) st.2.1 st.2.2.1 st.2.2.2.1).mono ?_
  rw [HQ1.out]
  rintro e w2 ⟨rfl, hm2⟩
  have bel := Can.below_m hm2
  clear hm2
  replace st := next6_2 bel st
  replace kT := (bel.block NT (Array.getElem?_eq_some_iff.1 kT).1).trans kT
  clear bel
  go_wp2_with fail
  go_at_call 49
  refine (Can.l04Plain (rd6_2_1 st) st.2.2.2.2.1 st.2.2.2.2.2.1 st.2.2.2.2.2.2.1).mono ?_
  rw [HQ2.out]
  rintro e w3 ⟨rfl, hm2⟩
  have bel := Can.below_m hm2
  clear hm2
  replace st := next6_2 bel st
  replace kT := (bel.block NT (Array.getElem?_eq_some_iff.1 kT).1).trans kT
  clear bel
  go_wp2_with fail
  go_at_call 60
  refine (meetNo4 (b := b) (b2 := b2) (zs := zs) (ps := ps) st.2.1 st.2.2.1 st.2.2.2.1 st.2.2.2.2.1 st.2.2.2.2.2.1 st.2.2.2.2.2.2.1 HQ3.out HQ4.out).mono ?_
  rintro e w4 ⟨rfl, bel⟩
  replace st := next6_2 bel st
  replace kT := (bel.block NT (Array.getElem?_eq_some_iff.1 kT).1).trans kT
  clear bel

  have HB := hid st.1
  have y0 : w4.cell? ⟨NT, 0, none⟩ = some (.int .i64 0) := Go.Joins.cell_of_block kT 0
  have y1 : w4.cell? ⟨NT, 1, none⟩ = some (.int .i64 0) := Go.Joins.cell_of_block kT 1
  have y2 : w4.cell? ⟨NT, 2, none⟩ = some (.slice none 0 0) := Go.Joins.cell_of_block kT 2
  have g0 : w4.frozen? ⟨NT, 0, none⟩ = false := Go.Joins.unfrozen_of_block kT 0
  have g1 : w4.frozen? ⟨NT, 1, none⟩ = false := Go.Joins.unfrozen_of_block kT 1
  have g2 : w4.frozen? ⟨NT, 2, none⟩ = false := Go.Joins.unfrozen_of_block kT 2
  have HKx := hid kT
  clear kT
  go_wp2
  obtain ⟨W5, hW⟩ : ∃ W5, W5 = (((w4.setCell ⟨NT, 0, none⟩ (.int .i64 0)).setCell ⟨NT, 1, none⟩ (.int .i64 0)).setCell ⟨NT, 2, none⟩ (.slice none 0 0)) := ⟨_, rfl⟩
  have q0 := (Go.Joins.block_setCell (i := 2) (Go.Joins.block_setCell (i := 1) (Go.Joins.block_setCell (i := 0) HKx.out (.int .i64 0)) (.int .i64 0)) (.slice none 0 0))
  rw [← hW] at q0
  have z0 : W5.cell? ⟨NT, 0, none⟩ = some (.int .i64 0) := Go.Joins.cell_of_block q0 0
  have z1 : W5.cell? ⟨NT, 1, none⟩ = some (.int .i64 0) := Go.Joins.cell_of_block q0 1
  have z2 : W5.cell? ⟨NT, 2, none⟩ = some (.slice none 0 0) := Go.Joins.cell_of_block q0 2
  have B5 : Below w.heap.size w W5 := by
    have h1 := HNT.out
    rw [hW]
    exact ((HB.out.setCell (by simp; omega) _).setCell (by simp; omega) _).setCell (by simp; omega) _
  simp only [← hW]
  clear hW q0
  simp [bodyPost, results, Try.results24, go_sem, z0, z1, z2]
  exact B5

set_option maxHeartbeats 4000000 in
theorem specNo5 {w : World} {s r s' r' row col : Int} {b b2 : Nat} {v v2 : Value} {zs ps : List Int} (h : Rd w b v zs) (h2 : Rd w b2 v2 ps) (h1q : (fieldB s r zs && allB zs 2) = true) (h2q : (fieldB s' r' ps && allB ps 2) = true) (h3q : decide (0 ≤ row ∧ row ≤ 24) = true) (h4q : decide (0 ≤ col ∧ col ≤ 24) = true) (h5q : sidesB (max s (row + s')) (max r (col + r')) = false) :
    Calls Try.prog 24 #[ruleV s r v, ruleV s' r' v2, .int .i64 row, .int .i64 col] w fun e w' => e = .returned (.tuple #[ruleV 0 0 (.slice none 0 0), .bool false]) ∧ Below w.heap.size w w' := by
  have HH := hid h
  have HH2 := hid h2
  have HQ1 := hid h1q
  have HQ2 := hid h2q
  have HQ3 := hid h3q
  have HQ4 := hid h4q
  have HQ5 := hid h5q
  have HS1 : Hid (sidesB s r = true) := by have h1 := HQ1.out; simp only [fieldB, Bool.and_eq_true] at h1; exact h1.1.1
  have HS2 : Hid (sidesB s' r' = true) := by have h1 := HQ2.out; simp only [fieldB, Bool.and_eq_true] at h1; exact h1.1.1
  obtain ⟨ao, cap, rfl, hc, hm, _⟩ := h
  obtain ⟨ao2, cap2, rfl, hc2, hm2, _⟩ := h2
  clear hc hm hc2 hm2 h1q h2q h3q h4q h5q
  go_enter Try.func24, Try.ntmps24
  go_wp2_with fail
  obtain ⟨w1, hW⟩ : ∃ w1, w1 = ((w.alloc (Obj.cells #[.int .i64 s, .int .i64 r, .slice ao zs.length cap] 26)).alloc (Obj.cells #[.int .i64 s', .int .i64 r', .slice ao2 ps.length cap2] 26)).alloc (Obj.cells #[.int .i64 0, .int .i64 0, .slice none 0 0] 26) := ⟨_, rfl⟩
  obtain ⟨N, hN⟩ : ∃ N, N = w.heap.size := ⟨_, rfl⟩
  obtain ⟨M, hM2⟩ : ∃ M, M = N + 1 := ⟨_, rfl⟩
  obtain ⟨NT, hM⟩ : ∃ NT, NT = M + 1 := ⟨_, rfl⟩
  have st : Below w.heap.size w w1 ∧ w1.cell? ⟨N, 0, none⟩ = some (.int .i64 s) ∧ w1.cell? ⟨N, 1, none⟩ = some (.int .i64 r) ∧ w1.cell? ⟨N, 2, none⟩ = some (.slice ao zs.length cap) ∧ w1.cell? ⟨M, 0, none⟩ = some (.int .i64 s') ∧ w1.cell? ⟨M, 1, none⟩ = some (.int .i64 r') ∧ w1.cell? ⟨M, 2, none⟩ = some (.slice ao2 ps.length cap2) ∧ Rd w1 b (.slice ao zs.length cap) zs ∧ Rd w1 b2 (.slice ao2 ps.length cap2) ps ∧ w.heap.size ≤ w1.heap.size := by
    rw [hW, hM2, hN]
    exact ⟨Go.Joins.below_alloc3 _ _ _ _, Go.Joins.cell_of_block (FNew.heap_old (FNew.heap_old (FNew.heap_top rfl))) 0, Go.Joins.cell_of_block (FNew.heap_old (FNew.heap_old (FNew.heap_top rfl))) 1, Go.Joins.cell_of_block (FNew.heap_old (FNew.heap_old (FNew.heap_top rfl))) 2, Go.Joins.cell_of_block (FNew.heap_old (FNew.heap_top (by simp))) 0, Go.Joins.cell_of_block (FNew.heap_old (FNew.heap_top (by simp))) 1, Go.Joins.cell_of_block (FNew.heap_old (FNew.heap_top (by simp))) 2, HH.out.keep (Go.Joins.below_alloc3 _ _ _ _) (Nat.le_refl _), HH2.out.keep (Go.Joins.below_alloc3 _ _ _ _) (Nat.le_refl _), by simp; omega⟩
  have kT : w1.heap[NT]? = some (Obj.cells #[.int .i64 0, .int .i64 0, .slice none 0 0] 26) := by rw [hW]; exact FNew.heap_top (by rw [hM, hM2, hN]; simp)
  have HNT : Hid (w.heap.size ≤ NT) := by simp only [Hid]; omega
  have HNN : Hid (M = N + 1 ∧ NT = M + 1 ∧ N = w.heap.size) := ⟨hM2, hM, hN⟩
  simp only [← hW, ← hN, ← hM2, ← hM]
  clear hW hN hM hM2
  go_at_call 49
  refine (Can.l04Plain (rd6_2_0 st) st.2.1 st.2.2.1 st.2.2.2.1).mono ?_
  rw [HQ1.out]
  rintro e w2 ⟨rfl, hm2⟩
  have bel := Can.below_m hm2
  clear hm2
  replace st := next6_2 bel st
  replace kT := (bel.block NT (Array.getElem?_eq_some_iff.1 kT).1).trans kT
  clear bel
  go_wp2_with fail
  go_at_call 49
  refine (Can.l04Plain (rd6_2_1 st) st.2.2.2.2.1 st.2.2.2.2.2.1 st.2.2.2.2.2.2.1).mono ?_
  rw [HQ2.out]
  rintro e w3 ⟨rfl, hm2⟩
  have bel := Can.below_m hm2
  clear hm2
  replace st := next6_2 bel st
  replace kT := (bel.block NT (Array.getElem?_eq_some_iff.1 kT).1).trans kT
  clear bel
  go_wp2_with fail
  go_at_call 60
  refine (meetNo5 (b := b) (b2 := b2) (zs := zs) (ps := ps) st.2.1 st.2.2.1 st.2.2.2.1 st.2.2.2.2.1 st.2.2.2.2.2.1 st.2.2.2.2.2.2.1 HQ3.out HQ4.out HQ5.out HS1.out HS2.out).mono ?_
  rintro e w4 ⟨rfl, bel⟩
  replace st := next6_2 bel st
  replace kT := (bel.block NT (Array.getElem?_eq_some_iff.1 kT).1).trans kT
  clear bel

  have HB := hid st.1
  have y0 : w4.cell? ⟨NT, 0, none⟩ = some (.int .i64 0) := Go.Joins.cell_of_block kT 0
  have y1 : w4.cell? ⟨NT, 1, none⟩ = some (.int .i64 0) := Go.Joins.cell_of_block kT 1
  have y2 : w4.cell? ⟨NT, 2, none⟩ = some (.slice none 0 0) := Go.Joins.cell_of_block kT 2
  have g0 : w4.frozen? ⟨NT, 0, none⟩ = false := Go.Joins.unfrozen_of_block kT 0
  have g1 : w4.frozen? ⟨NT, 1, none⟩ = false := Go.Joins.unfrozen_of_block kT 1
  have g2 : w4.frozen? ⟨NT, 2, none⟩ = false := Go.Joins.unfrozen_of_block kT 2
  have HKx := hid kT
  clear kT
  go_wp2
  obtain ⟨W5, hW⟩ : ∃ W5, W5 = (((w4.setCell ⟨NT, 0, none⟩ (.int .i64 0)).setCell ⟨NT, 1, none⟩ (.int .i64 0)).setCell ⟨NT, 2, none⟩ (.slice none 0 0)) := ⟨_, rfl⟩
  have q0 := (Go.Joins.block_setCell (i := 2) (Go.Joins.block_setCell (i := 1) (Go.Joins.block_setCell (i := 0) HKx.out (.int .i64 0)) (.int .i64 0)) (.slice none 0 0))
  rw [← hW] at q0
  have z0 : W5.cell? ⟨NT, 0, none⟩ = some (.int .i64 0) := Go.Joins.cell_of_block q0 0
  have z1 : W5.cell? ⟨NT, 1, none⟩ = some (.int .i64 0) := Go.Joins.cell_of_block q0 1
  have z2 : W5.cell? ⟨NT, 2, none⟩ = some (.slice none 0 0) := Go.Joins.cell_of_block q0 2
  have B5 : Below w.heap.size w W5 := by
    have h1 := HNT.out
    rw [hW]
    exact ((HB.out.setCell (by simp; omega) _).setCell (by simp; omega) _).setCell (by simp; omega) _
  simp only [← hW]
  clear hW q0
  simp [bodyPost, results, Try.results24, go_sem, z0, z1, z2]
  exact B5

set_option maxHeartbeats 4000000 in
theorem specOk {w : World} {A1 B1 A2 B2 ra rb R C n m1 m2 : Nat} {b b2 : Nat} {v v2 : Value} {zs ps : List Int} (h : Rd w b v zs) (h2 : Rd w b2 v2 ps) (h1q : (fieldB A1 B1 zs && allB zs 2) = true) (h2q : (fieldB A2 B2 ps && allB ps 2) = true) (hr : ra ≤ 24 ∧ rb ≤ 24) (hR : (R : Int) = max (A1 : Int) ((ra : Int) + (A2 : Int))) (hC : (C : Int) = max (B1 : Int) ((rb : Int) + (B2 : Int))) (hle : R ≤ 24 ∧ C ≤ 24) (hn : n = R * C) (hm1 : m1 = A1 * B1) (hm2' : m2 = A2 * B2) :
    Calls Try.prog 24 #[ruleV A1 B1 v, ruleV A2 B2 v2, .int .i64 ra, .int .i64 rb] w fun e w' => ∃ b', e = .returned ((.tuple #[ruleV R C (.slice (some ⟨b', 0, none⟩) n n), .bool true])) ∧ Own 2 w' b' (.slice (some ⟨b', 0, none⟩) n n) ((lay (lay (List.replicate n 0) zs R C A1 B1 0 0) ps R C A2 B2 ra rb)) ∧ w.heap.size ≤ b' ∧ Below w.heap.size w w' := by
  have hf1 : fieldB A1 B1 zs = true := by simp only [Bool.and_eq_true] at h1q; exact h1q.1
  have hp1 : plainB zs = true := by simp only [Bool.and_eq_true] at h1q; rw [Can.plain_eq]; exact h1q.2
  rw [lay_zero (field_nat hf1).2.2.1 hp1]
  have HH := hid h
  have HH2 := hid h2
  have HQ1 := hid h1q
  have HQ2 := hid h2q
  have HA := hid (And.intro hr (And.intro hR (And.intro hC (And.intro hle (And.intro hn (And.intro hm1 hm2'))))))
  obtain ⟨ao, cap, rfl, hc, hm, _⟩ := h
  obtain ⟨ao2, cap2, rfl, hc2, hm2, _⟩ := h2
  clear hc hm hc2 hm2 h1q h2q hf1 hp1 hr hR hC hle hn hm1 hm2'
  go_enter Try.func24, Try.ntmps24
  go_wp2_with fail
  obtain ⟨w1, hW⟩ : ∃ w1, w1 = ((w.alloc (Obj.cells #[.int .i64 A1, .int .i64 B1, .slice ao zs.length cap] 26)).alloc (Obj.cells #[.int .i64 A2, .int .i64 B2, .slice ao2 ps.length cap2] 26)).alloc (Obj.cells #[.int .i64 0, .int .i64 0, .slice none 0 0] 26) := ⟨_, rfl⟩
  obtain ⟨N, hN⟩ : ∃ N, N = w.heap.size := ⟨_, rfl⟩
  obtain ⟨M, hM2⟩ : ∃ M, M = N + 1 := ⟨_, rfl⟩
  obtain ⟨NT, hM⟩ : ∃ NT, NT = M + 1 := ⟨_, rfl⟩
  have st : Below w.heap.size w w1 ∧ w1.cell? ⟨N, 0, none⟩ = some (.int .i64 A1) ∧ w1.cell? ⟨N, 1, none⟩ = some (.int .i64 B1) ∧ w1.cell? ⟨N, 2, none⟩ = some (.slice ao zs.length cap) ∧ w1.cell? ⟨M, 0, none⟩ = some (.int .i64 A2) ∧ w1.cell? ⟨M, 1, none⟩ = some (.int .i64 B2) ∧ w1.cell? ⟨M, 2, none⟩ = some (.slice ao2 ps.length cap2) ∧ Rd w1 b (.slice ao zs.length cap) zs ∧ Rd w1 b2 (.slice ao2 ps.length cap2) ps ∧ w.heap.size ≤ w1.heap.size := by
    rw [hW, hM2, hN]
    exact ⟨Go.Joins.below_alloc3 _ _ _ _, Go.Joins.cell_of_block (FNew.heap_old (FNew.heap_old (FNew.heap_top rfl))) 0, Go.Joins.cell_of_block (FNew.heap_old (FNew.heap_old (FNew.heap_top rfl))) 1, Go.Joins.cell_of_block (FNew.heap_old (FNew.heap_old (FNew.heap_top rfl))) 2, Go.Joins.cell_of_block (FNew.heap_old (FNew.heap_top (by simp))) 0, Go.Joins.cell_of_block (FNew.heap_old (FNew.heap_top (by simp))) 1, Go.Joins.cell_of_block (FNew.heap_old (FNew.heap_top (by simp))) 2, HH.out.keep (Go.Joins.below_alloc3 _ _ _ _) (Nat.le_refl _), HH2.out.keep (Go.Joins.below_alloc3 _ _ _ _) (Nat.le_refl _), by simp; omega⟩
  have kT : w1.heap[NT]? = some (Obj.cells #[.int .i64 0, .int .i64 0, .slice none 0 0] 26) := by rw [hW]; exact FNew.heap_top (by rw [hM, hM2, hN]; simp)
  have HNT : Hid (w.heap.size ≤ NT) := by simp only [Hid]; omega
  have HNN : Hid (M = N + 1 ∧ NT = M + 1 ∧ N = w.heap.size) := ⟨hM2, hM, hN⟩
  simp only [← hW, ← hN, ← hM2, ← hM]
  clear hW hN hM hM2
  go_at_call 49
  refine (Can.l04Plain (rd6_2_0 st) st.2.1 st.2.2.1 st.2.2.2.1).mono ?_
  rw [HQ1.out]
  rintro e w2 ⟨rfl, hm2⟩
  have bel := Can.below_m hm2
  clear hm2
  replace st := next6_2 bel st
  replace kT := (bel.block NT (Array.getElem?_eq_some_iff.1 kT).1).trans kT
  clear bel
  go_wp2_with fail
  go_at_call 49
  refine (Can.l04Plain (rd6_2_1 st) st.2.2.2.2.1 st.2.2.2.2.2.1 st.2.2.2.2.2.2.1).mono ?_
  rw [HQ2.out]
  rintro e w3 ⟨rfl, hm2⟩
  have bel := Can.below_m hm2
  clear hm2
  replace st := next6_2 bel st
  replace kT := (bel.block NT (Array.getElem?_eq_some_iff.1 kT).1).trans kT
  clear bel

  go_wp2_with fail
  go_at_call 60
  refine (meetOk st.2.1 st.2.2.1 st.2.2.2.1 st.2.2.2.2.1 st.2.2.2.2.2.1 st.2.2.2.2.2.2.1 (rd6_2_0 st) (rd6_2_1 st) HQ1.out HQ2.out HA.out.1 HA.out.2.1 HA.out.2.2.1 HA.out.2.2.2.1 HA.out.2.2.2.2.1 HA.out.2.2.2.2.2.1 HA.out.2.2.2.2.2.2).mono ?_
  rintro e w4 ⟨b', rfl, ow, lo, bel⟩
  have HLo : Hid (w.heap.size ≤ b') := Nat.le_trans st.1.size lo
  have HNB : Hid (NT ≠ b') := Nat.ne_of_lt (Nat.lt_of_lt_of_le (Array.getElem?_eq_some_iff.1 kT).1 lo)
  have HB := hid (st.1.trans (bel.mono st.1.size))
  replace kT := (bel.block NT (Array.getElem?_eq_some_iff.1 kT).1).trans kT
  have HO := hid ow
  clear st ow lo bel
  have y0 : w4.cell? ⟨NT, 0, none⟩ = some (.int .i64 0) := Go.Joins.cell_of_block kT 0
  have y1 : w4.cell? ⟨NT, 1, none⟩ = some (.int .i64 0) := Go.Joins.cell_of_block kT 1
  have y2 : w4.cell? ⟨NT, 2, none⟩ = some (.slice none 0 0) := Go.Joins.cell_of_block kT 2
  have g0 : w4.frozen? ⟨NT, 0, none⟩ = false := Go.Joins.unfrozen_of_block kT 0
  have g1 : w4.frozen? ⟨NT, 1, none⟩ = false := Go.Joins.unfrozen_of_block kT 1
  have g2 : w4.frozen? ⟨NT, 2, none⟩ = false := Go.Joins.unfrozen_of_block kT 2
  have HKx := hid kT
  clear kT
  go_wp2
  obtain ⟨W5, hW⟩ : ∃ W5, W5 = (((w4.setCell ⟨NT, 0, none⟩ (.int .i64 R)).setCell ⟨NT, 1, none⟩ (.int .i64 C)).setCell ⟨NT, 2, none⟩ (.slice (some ⟨b', 0, none⟩) n n)) := ⟨_, rfl⟩
  have q0 := (Go.Joins.block_setCell (i := 2) (Go.Joins.block_setCell (i := 1) (Go.Joins.block_setCell (i := 0) HKx.out (.int .i64 R)) (.int .i64 C)) (.slice (some ⟨b', 0, none⟩) n n))
  rw [← hW] at q0
  have z0 : W5.cell? ⟨NT, 0, none⟩ = some (.int .i64 R) := Go.Joins.cell_of_block q0 0
  have z1 : W5.cell? ⟨NT, 1, none⟩ = some (.int .i64 C) := Go.Joins.cell_of_block q0 1
  have z2 : W5.cell? ⟨NT, 2, none⟩ = some (.slice (some ⟨b', 0, none⟩) n n) := Go.Joins.cell_of_block q0 2
  have O5 := (own_set (own_set (own_set HO.out ⟨NT, 0, none⟩ (.int .i64 R) HNB.out) ⟨NT, 1, none⟩ (.int .i64 C) HNB.out) ⟨NT, 2, none⟩ (.slice (some ⟨b', 0, none⟩) n n) HNB.out)
  rw [← hW] at O5
  have B5 : Below w.heap.size w W5 := by
    have h1 := HNT.out
    rw [hW]
    exact ((HB.out.setCell (by simp; omega) _).setCell (by simp; omega) _).setCell (by simp; omega) _
  simp only [← hW]
  clear hW q0
  simp [bodyPost, results, Try.results24, go_sem, z0, z1, z2]
  exact ⟨O5, HLo.out, B5⟩

theorem agree (s r : Int) (zs : List Int) (s' r' : Int) (ps : List Int) (row col : Int) : ∃ (qs qr : Int) (rs : List Int) (ok : Bool), rs.length ≤ 1000000 ∧
    (∀ (w : World) (b : Nat) (v : Value) (b2 : Nat) (v2 : Value), Rd w b v zs → Rd w b2 v2 ps → Calls Try.prog 24 #[ruleV s r v, ruleV s' r' v2, .int .i64 row, .int .i64 col] w fun e w' => ∃ ao c b', e = .returned (.tuple #[ruleV qs qr (.slice ao rs.length c), .bool ok]) ∧ Own 2 w' b' (.slice ao rs.length c) rs ∧ w.heap.size ≤ b' ∧ Below w.heap.size w w') ∧
    (∀ (w : World) (b : Nat) (v : Value) (b2 : Nat) (v2 : Value), Rd w b v zs → Rd w b2 v2 ps → Calls Try.prog 25 #[ruleV s r v, ruleV s' r' v2, .int .i64 row, .int .i64 col] w fun e w' => ∃ ao c b', e = .returned (.tuple #[ruleV qs qr (.slice ao rs.length c), .bool ok]) ∧ Own 2 w' b' (.slice ao rs.length c) rs ∧ w.heap.size ≤ b' ∧ Below w.heap.size w w') := by
  have none_ : (∀ (w : World) (b : Nat) (v : Value) (b2 : Nat) (v2 : Value), Rd w b v zs → Rd w b2 v2 ps → Calls Try.prog 24 #[ruleV s r v, ruleV s' r' v2, .int .i64 row, .int .i64 col] w fun e w' => e = .returned (.tuple #[ruleV 0 0 (.slice none 0 0), .bool false]) ∧ Below w.heap.size w w') → (∀ (w : World) (b : Nat) (v : Value) (b2 : Nat) (v2 : Value), Rd w b v zs → Rd w b2 v2 ps → Calls Try.prog 25 #[ruleV s r v, ruleV s' r' v2, .int .i64 row, .int .i64 col] w fun e w' => e = .returned (.tuple #[ruleV 0 0 (.slice none 0 0), .bool false]) ∧ Below w.heap.size w w') → ∃ (qs qr : Int) (rs : List Int) (ok : Bool), rs.length ≤ 1000000 ∧
    (∀ (w : World) (b : Nat) (v : Value) (b2 : Nat) (v2 : Value), Rd w b v zs → Rd w b2 v2 ps → Calls Try.prog 24 #[ruleV s r v, ruleV s' r' v2, .int .i64 row, .int .i64 col] w fun e w' => ∃ ao c b', e = .returned (.tuple #[ruleV qs qr (.slice ao rs.length c), .bool ok]) ∧ Own 2 w' b' (.slice ao rs.length c) rs ∧ w.heap.size ≤ b' ∧ Below w.heap.size w w') ∧
    (∀ (w : World) (b : Nat) (v : Value) (b2 : Nat) (v2 : Value), Rd w b v zs → Rd w b2 v2 ps → Calls Try.prog 25 #[ruleV s r v, ruleV s' r' v2, .int .i64 row, .int .i64 col] w fun e w' => ∃ ao c b', e = .returned (.tuple #[ruleV qs qr (.slice ao rs.length c), .bool ok]) ∧ Own 2 w' b' (.slice ao rs.length c) rs ∧ w.heap.size ≤ b' ∧ Below w.heap.size w w') := by
    intro h1 h2
    refine ⟨0, 0, [], false, by simp, fun w b v b2 v2 h k => (h1 w b v b2 v2 h k).mono ?_, fun w b v b2 v2 h k => (h2 w b v b2 v2 h k).mono ?_⟩
    · rintro e w' ⟨rfl, bel⟩
      exact ⟨none, 0, w.heap.size, rfl, Own.nil _ _ _, Nat.le_refl _, bel⟩
    · rintro e w' ⟨rfl, bel⟩
      exact ⟨none, 0, w.heap.size, rfl, Own.nil _ _ _, Nat.le_refl _, bel⟩
  cases q1 : (fieldB s r zs && allB zs 2) with
  | false => exact none_ (fun w b v b2 v2 h k => specNo1 h k q1) (fun w b v b2 v2 h k => implNo1 h k q1)
  | true =>
    cases q2 : (fieldB s' r' ps && allB ps 2) with
    | false => exact none_ (fun w b v b2 v2 h k => specNo2 h k q1 q2) (fun w b v b2 v2 h k => implNo2 h k q1 q2)
    | true =>
      cases q3 : decide (0 ≤ row ∧ row ≤ 24) with
      | false => exact none_ (fun w b v b2 v2 h k => specNo3 h k q1 q2 q3) (fun w b v b2 v2 h k => implNo3 h k q1 q2 q3)
      | true =>
        cases q4 : decide (0 ≤ col ∧ col ≤ 24) with
        | false => exact none_ (fun w b v b2 v2 h k => specNo4 h k q1 q2 q3 q4) (fun w b v b2 v2 h k => implNo4 h k q1 q2 q3 q4)
        | true =>
          cases q5 : sidesB (max s (row + s')) (max r (col + r')) with
          | false => exact none_ (fun w b v b2 v2 h k => specNo5 h k q1 q2 q3 q4 q5) (fun w b v b2 v2 h k => implNo5 h k q1 q2 q3 q4 q5)
          | true =>
            have hb1 : (1 ≤ s ∧ s ≤ 24) ∧ 1 ≤ r ∧ r ≤ 24 := by
              have h1 := q1
              simp only [fieldB, Bool.and_eq_true] at h1
              have := h1.1.1
              simp [sidesB] at this; omega
            have hb2 : (1 ≤ s' ∧ s' ≤ 24) ∧ 1 ≤ r' ∧ r' ≤ 24 := by
              have h1 := q2
              simp only [fieldB, Bool.and_eq_true] at h1
              have := h1.1.1
              simp [sidesB] at this; omega
            have hb3 : (1 ≤ max s (row + s') ∧ max s (row + s') ≤ 24) ∧ 1 ≤ max r (col + r') ∧ max r (col + r') ≤ 24 := by
              have h1 := q5
              simp only [sidesB, decide_eq_true_eq] at h1
              omega
            have d3 := q3
            have d4 := q4
            simp only [decide_eq_true_eq] at d3 d4
            obtain ⟨A1, rfl⟩ := Int.eq_ofNat_of_zero_le (show 0 ≤ s by omega)
            obtain ⟨B1, rfl⟩ := Int.eq_ofNat_of_zero_le (show 0 ≤ r by omega)
            obtain ⟨A2, rfl⟩ := Int.eq_ofNat_of_zero_le (show 0 ≤ s' by omega)
            obtain ⟨B2, rfl⟩ := Int.eq_ofNat_of_zero_le (show 0 ≤ r' by omega)
            obtain ⟨ra, rfl⟩ := Int.eq_ofNat_of_zero_le (show 0 ≤ row by omega)
            obtain ⟨rb, rfl⟩ := Int.eq_ofNat_of_zero_le (show 0 ≤ col by omega)
            have hR : ((max A1 (ra + A2) : Nat) : Int) = max (A1 : Int) ((ra : Int) + (A2 : Int)) := by omega
            have hC : ((max B1 (rb + B2) : Nat) : Int) = max (B1 : Int) ((rb : Int) + (B2 : Int)) := by omega
            have hle : max A1 (ra + A2) ≤ 24 ∧ max B1 (rb + B2) ≤ 24 := by omega
            have hr : ra ≤ 24 ∧ rb ≤ 24 := by omega
            generalize max A1 (ra + A2) = R at hR hle
            generalize max B1 (rb + B2) = C at hC hle
            have h5 : R * C ≤ 24 * 24 := Nat.mul_le_mul hle.1 hle.2
            have hlen : (lay (lay (List.replicate (R * C) 0) zs R C A1 B1 0 0) ps R C A2 B2 ra rb).length = R * C := lay_len _ _ _ _ _ _ _ _
            refine ⟨R, C, _, true, by rw [hlen]; omega, fun w b v b2 v2 h k => (specOk h k q1 q2 hr hR hC hle rfl rfl rfl).mono ?_, fun w b v b2 v2 h k => (implOk h k q1 q2 hr hR hC hle rfl rfl rfl).mono ?_⟩
            · rintro e w' ⟨b', rfl, ow, lo, bel⟩
              exact ⟨some ⟨b', 0, none⟩, _, b', by rw [hlen], by rw [hlen]; exact ow, lo, bel⟩
            · rintro e w' ⟨b', rfl, ow, lo, bel⟩
              exact ⟨some ⟨b', 0, none⟩, _, b', by rw [hlen], by rw [hlen]; exact ow, lo, bel⟩

end Go.Proofs.Ytmbimekndhcgaaa.MtA
