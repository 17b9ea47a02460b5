/- RunAnt of the program. -/
import Derived.Test.YtmbimekndhcgaaaDoorWlk
import Derived.Test.YtmbimekndhcgaaaDoorFCut
import Derived.Test.YtmbimekndhcgaaaDoorCan
import Derived.Test.YtmbimekndhcgaaaDoorLaid
import Derived.Test.YtmbimekndhcgaaaDoorSth
import Derived.StillTailTactics
namespace Go.Proofs.YtmbimekndhcgaaaDoor.Ran
open Go.RowKit Go.Proofs.YtmbimekndhcgaaaDoor.Rd Go.Proofs.YtmbimekndhcgaaaDoor.Help Go.Proofs.YtmbimekndhcgaaaDoor.Ring Go.Proofs.YtmbimekndhcgaaaDoor.Small Go.Proofs.YtmbimekndhcgaaaDoor.FVal Go.Proofs.YtmbimekndhcgaaaDoor.Keep Go.Proofs.YtmbimekndhcgaaaDoor.Rule Go.Proofs.YtmbimekndhcgaaaDoor.Grow Go.Proofs.YtmbimekndhcgaaaDoor.Bes Go.Proofs.YtmbimekndhcgaaaDoor.Box Go.Proofs.YtmbimekndhcgaaaDoor.Ant Go.Proofs.YtmbimekndhcgaaaDoor.Wlk
set_option linter.unusedVariables false
set_option linter.unusedSimpArgs false

set_option maxHeartbeats 2000000 in
theorem implNo1 {w : World} {s r row col way steps : Int} {b : Nat} {v : Value} {zs : List Int} (h : Rd w b v zs) (h1 : (fieldB s r zs && allB zs 2) = false) :
    Calls Tryd.prog 7 #[ruleV s r v, .int .i64 row, .int .i64 col, .int .i64 way, .int .i64 steps] w fun e w' => e = .returned (.tuple #[ruleV 0 0 (.slice none 0 0), .int .i64 0, .int .i64 0, .int .i64 0, .bool false]) ∧ Below w.heap.size w w' := by
  have HH := hid h
  have HQ1 := hid h1
  obtain ⟨ao, cap, rfl, hc, hm, _⟩ := h
  clear hc hm h1
  go_enter Tryd.func7, Tryd.ntmps7
  go_wp2_with fail
  obtain ⟨w1, hW⟩ : ∃ w1, w1 = (w.alloc (Obj.cells #[.int .i64 s, .int .i64 r, .slice ao zs.length cap] 26)).alloc (Obj.cells #[.int .i64 0, .int .i64 0, .slice none 0 0] 26) := ⟨_, rfl⟩
  obtain ⟨N, hN⟩ : ∃ N, N = w.heap.size := ⟨_, rfl⟩
  obtain ⟨NT, hM⟩ : ∃ NT, NT = N + 1 := ⟨_, rfl⟩
  have st : Below w.heap.size w w1 ∧ w1.cell? ⟨N, 0, none⟩ = some (.int .i64 s) ∧ w1.cell? ⟨N, 1, none⟩ = some (.int .i64 r) ∧ w1.cell? ⟨N, 2, none⟩ = some (.slice ao zs.length cap) ∧ Rd w1 b (.slice ao zs.length cap) zs ∧ w.heap.size ≤ w1.heap.size := by
    rw [hW, hN]
    exact ⟨Go.Joins.below_alloc2 _ _ _, by simp, by simp, by simp, HH.out.keep (Go.Joins.below_alloc2 _ _ _) (Nat.le_refl _), by simp; omega⟩
  have kT : w1.heap[NT]? = some (Obj.cells #[.int .i64 0, .int .i64 0, .slice none 0 0] 26) := by rw [hW]; exact FNew.heap_top (by rw [hM, hN]; simp)
  have HNT : Hid (w.heap.size ≤ NT) := by simp only [Hid]; omega
  have HNN : Hid (NT = N + 1 ∧ N = w.heap.size) := ⟨hM, hN⟩
  simp only [← hW, ← hN, ← hM]
  clear hW hN hM
  go_at_call 17
  refine (Can.isPlain (rd3_1_0 st)).mono ?_
  rw [HQ1.out]
  rintro e w2 ⟨rfl, bel⟩
  replace st := next3_1 bel st
  replace kT := (bel.block NT (Array.getElem?_eq_some_iff.1 kT).1).trans kT
  clear bel


  have HB := hid st.1
  have y0 : w2.cell? ⟨NT, 0, none⟩ = some (.int .i64 0) := Go.Joins.cell_of_block kT 0
  have y1 : w2.cell? ⟨NT, 1, none⟩ = some (.int .i64 0) := Go.Joins.cell_of_block kT 1
  have y2 : w2.cell? ⟨NT, 2, none⟩ = some (.slice none 0 0) := Go.Joins.cell_of_block kT 2
  have g0 : w2.frozen? ⟨NT, 0, none⟩ = false := Go.Joins.unfrozen_of_block kT 0
  have g1 : w2.frozen? ⟨NT, 1, none⟩ = false := Go.Joins.unfrozen_of_block kT 1
  have g2 : w2.frozen? ⟨NT, 2, none⟩ = false := Go.Joins.unfrozen_of_block kT 2
  have HKx := hid kT
  clear kT
  go_wp2
  obtain ⟨W5, hW⟩ : ∃ W5, W5 = (((w2.setCell ⟨NT, 0, none⟩ (.int .i64 0)).setCell ⟨NT, 1, none⟩ (.int .i64 0)).setCell ⟨NT, 2, none⟩ (.slice none 0 0)) := ⟨_, rfl⟩
  have q0 := (Go.Joins.block_setCell (i := 2) (Go.Joins.block_setCell (i := 1) (Go.Joins.block_setCell (i := 0) HKx.out (.int .i64 0)) (.int .i64 0)) (.slice none 0 0))
  rw [← hW] at q0
  have z0 : W5.cell? ⟨NT, 0, none⟩ = some (.int .i64 0) := Go.Joins.cell_of_block q0 0
  have z1 : W5.cell? ⟨NT, 1, none⟩ = some (.int .i64 0) := Go.Joins.cell_of_block q0 1
  have z2 : W5.cell? ⟨NT, 2, none⟩ = some (.slice none 0 0) := Go.Joins.cell_of_block q0 2
  have B5 : Below w.heap.size w W5 := by
    have h1 := HNT.out
    rw [hW]
    exact ((HB.out.setCell (by simp; omega) _).setCell (by simp; omega) _).setCell (by simp; omega) _
  simp only [← hW]
  clear hW q0
  simp [bodyPost, results, Tryd.results7, go_sem, z0, z1, z2]
  exact B5

set_option maxHeartbeats 2000000 in
theorem implNo23 {w : World} {s r row col way steps : Int} {b : Nat} {v : Value} {zs : List Int} (h : Rd w b v zs) (h1 : (fieldB s r zs && allB zs 2) = true) (h23 : (decide (0 ≤ row ∧ row ≤ s - 1) && decide (0 ≤ col ∧ col ≤ r - 1)) = false) :
    Calls Tryd.prog 7 #[ruleV s r v, .int .i64 row, .int .i64 col, .int .i64 way, .int .i64 steps] w fun e w' => e = .returned (.tuple #[ruleV 0 0 (.slice none 0 0), .int .i64 0, .int .i64 0, .int .i64 0, .bool false]) ∧ Below w.heap.size w w' := by
  have HH := hid h
  have HQ1 := hid h1
  have HQ23 := hid h23
  have HSB : Hid ((1 ≤ s ∧ s ≤ 24) ∧ 1 ≤ r ∧ r ≤ 24) := by
    have h1 := HQ1.out
    simp only [fieldB, Bool.and_eq_true] at h1
    have := h1.1.1
    simp [sidesB] at this
    simp only [Hid]; omega
  obtain ⟨ao, cap, rfl, hc, hm, _⟩ := h
  clear hc hm h1 h23
  go_enter Tryd.func7, Tryd.ntmps7
  go_wp2_with fail
  obtain ⟨w1, hW⟩ : ∃ w1, w1 = (w.alloc (Obj.cells #[.int .i64 s, .int .i64 r, .slice ao zs.length cap] 26)).alloc (Obj.cells #[.int .i64 0, .int .i64 0, .slice none 0 0] 26) := ⟨_, rfl⟩
  obtain ⟨N, hN⟩ : ∃ N, N = w.heap.size := ⟨_, rfl⟩
  obtain ⟨NT, hM⟩ : ∃ NT, NT = N + 1 := ⟨_, rfl⟩
  have st : Below w.heap.size w w1 ∧ w1.cell? ⟨N, 0, none⟩ = some (.int .i64 s) ∧ w1.cell? ⟨N, 1, none⟩ = some (.int .i64 r) ∧ w1.cell? ⟨N, 2, none⟩ = some (.slice ao zs.length cap) ∧ Rd w1 b (.slice ao zs.length cap) zs ∧ w.heap.size ≤ w1.heap.size := by
    rw [hW, hN]
    exact ⟨Go.Joins.below_alloc2 _ _ _, by simp, by simp, by simp, HH.out.keep (Go.Joins.below_alloc2 _ _ _) (Nat.le_refl _), by simp; omega⟩
  have kT : w1.heap[NT]? = some (Obj.cells #[.int .i64 0, .int .i64 0, .slice none 0 0] 26) := by rw [hW]; exact FNew.heap_top (by rw [hM, hN]; simp)
  have HNT : Hid (w.heap.size ≤ NT) := by simp only [Hid]; omega
  have HNN : Hid (NT = N + 1 ∧ N = w.heap.size) := ⟨hM, hN⟩
  simp only [← hW, ← hN, ← hM]
  clear hW hN hM
  go_at_call 17
  refine (Can.isPlain (rd3_1_0 st)).mono ?_
  rw [HQ1.out]
  rintro e w2 ⟨rfl, bel⟩
  replace st := next3_1 bel st
  replace kT := (bel.block NT (Array.getElem?_eq_some_iff.1 kT).1).trans kT
  clear bel

  have c0 := st.2.1
  have c1 := st.2.2.1
  have c2 := st.2.2.2.1
  go_wp2_with fail
  go_at_call 18
  refine extentOf.mono ?_
  rintro e w3 ⟨rfl, bel⟩
  clear c0 c1 c2
  replace st := next3_1 bel st
  replace kT := heap_keep bel kT
  clear bel
  go_wp2_with fail
  go_at_call 19
  refine (FCut.has HSB.out.1 HSB.out.2).mono ?_
  rw [HQ23.out]
  rintro e w4 ⟨rfl, bel⟩
  replace st := next3_1 bel st
  replace kT := heap_keep bel kT
  clear bel

  have HB := hid st.1
  have y0 : w4.cell? ⟨NT, 0, none⟩ = some (.int .i64 0) := Go.Joins.cell_of_block kT 0
  have y1 : w4.cell? ⟨NT, 1, none⟩ = some (.int .i64 0) := Go.Joins.cell_of_block kT 1
  have y2 : w4.cell? ⟨NT, 2, none⟩ = some (.slice none 0 0) := Go.Joins.cell_of_block kT 2
  have g0 : w4.frozen? ⟨NT, 0, none⟩ = false := Go.Joins.unfrozen_of_block kT 0
  have g1 : w4.frozen? ⟨NT, 1, none⟩ = false := Go.Joins.unfrozen_of_block kT 1
  have g2 : w4.frozen? ⟨NT, 2, none⟩ = false := Go.Joins.unfrozen_of_block kT 2
  have HKx := hid kT
  clear kT
  go_wp2
  obtain ⟨W5, hW⟩ : ∃ W5, W5 = (((w4.setCell ⟨NT, 0, none⟩ (.int .i64 0)).setCell ⟨NT, 1, none⟩ (.int .i64 0)).setCell ⟨NT, 2, none⟩ (.slice none 0 0)) := ⟨_, rfl⟩
  have q0 := (Go.Joins.block_setCell (i := 2) (Go.Joins.block_setCell (i := 1) (Go.Joins.block_setCell (i := 0) HKx.out (.int .i64 0)) (.int .i64 0)) (.slice none 0 0))
  rw [← hW] at q0
  have z0 : W5.cell? ⟨NT, 0, none⟩ = some (.int .i64 0) := Go.Joins.cell_of_block q0 0
  have z1 : W5.cell? ⟨NT, 1, none⟩ = some (.int .i64 0) := Go.Joins.cell_of_block q0 1
  have z2 : W5.cell? ⟨NT, 2, none⟩ = some (.slice none 0 0) := Go.Joins.cell_of_block q0 2
  have B5 : Below w.heap.size w W5 := by
    have h1 := HNT.out
    rw [hW]
    exact ((HB.out.setCell (by simp; omega) _).setCell (by simp; omega) _).setCell (by simp; omega) _
  simp only [← hW]
  clear hW q0
  simp [bodyPost, results, Tryd.results7, go_sem, z0, z1, z2]
  exact B5

set_option maxHeartbeats 2000000 in
theorem implNo4 {w : World} {s r row col way steps : Int} {b : Nat} {v : Value} {zs : List Int} (h : Rd w b v zs) (h1 : (fieldB s r zs && allB zs 2) = true) (h23 : (decide (0 ≤ row ∧ row ≤ s - 1) && decide (0 ≤ col ∧ col ≤ r - 1)) = true) (h4 : decide (0 ≤ way ∧ way ≤ 3) = false) :
    Calls Tryd.prog 7 #[ruleV s r v, .int .i64 row, .int .i64 col, .int .i64 way, .int .i64 steps] w fun e w' => e = .returned (.tuple #[ruleV 0 0 (.slice none 0 0), .int .i64 0, .int .i64 0, .int .i64 0, .bool false]) ∧ Below w.heap.size w w' := by
  have HH := hid h
  have HQ1 := hid h1
  have HQ23 := hid h23
  have HQ4 := hid h4
  have HSB : Hid ((1 ≤ s ∧ s ≤ 24) ∧ 1 ≤ r ∧ r ≤ 24) := by
    have h1 := HQ1.out
    simp only [fieldB, Bool.and_eq_true] at h1
    have := h1.1.1
    simp [sidesB] at this
    simp only [Hid]; omega
  obtain ⟨ao, cap, rfl, hc, hm, _⟩ := h
  clear hc hm h1 h23 h4
  go_enter Tryd.func7, Tryd.ntmps7
  go_wp2_with fail
  obtain ⟨w1, hW⟩ : ∃ w1, w1 = (w.alloc (Obj.cells #[.int .i64 s, .int .i64 r, .slice ao zs.length cap] 26)).alloc (Obj.cells #[.int .i64 0, .int .i64 0, .slice none 0 0] 26) := ⟨_, rfl⟩
  obtain ⟨N, hN⟩ : ∃ N, N = w.heap.size := ⟨_, rfl⟩
  obtain ⟨NT, hM⟩ : ∃ NT, NT = N + 1 := ⟨_, rfl⟩
  have st : Below w.heap.size w w1 ∧ w1.cell? ⟨N, 0, none⟩ = some (.int .i64 s) ∧ w1.cell? ⟨N, 1, none⟩ = some (.int .i64 r) ∧ w1.cell? ⟨N, 2, none⟩ = some (.slice ao zs.length cap) ∧ Rd w1 b (.slice ao zs.length cap) zs ∧ w.heap.size ≤ w1.heap.size := by
    rw [hW, hN]
    exact ⟨Go.Joins.below_alloc2 _ _ _, by simp, by simp, by simp, HH.out.keep (Go.Joins.below_alloc2 _ _ _) (Nat.le_refl _), by simp; omega⟩
  have kT : w1.heap[NT]? = some (Obj.cells #[.int .i64 0, .int .i64 0, .slice none 0 0] 26) := by rw [hW]; exact FNew.heap_top (by rw [hM, hN]; simp)
  have HNT : Hid (w.heap.size ≤ NT) := by simp only [Hid]; omega
  have HNN : Hid (NT = N + 1 ∧ N = w.heap.size) := ⟨hM, hN⟩
  simp only [← hW, ← hN, ← hM]
  clear hW hN hM
  go_at_call 17
  refine (Can.isPlain (rd3_1_0 st)).mono ?_
  rw [HQ1.out]
  rintro e w2 ⟨rfl, bel⟩
  replace st := next3_1 bel st
  replace kT := (bel.block NT (Array.getElem?_eq_some_iff.1 kT).1).trans kT
  clear bel

  have c0 := st.2.1
  have c1 := st.2.2.1
  have c2 := st.2.2.2.1
  go_wp2_with fail
  go_at_call 18
  refine extentOf.mono ?_
  rintro e w3 ⟨rfl, bel⟩
  clear c0 c1 c2
  replace st := next3_1 bel st
  replace kT := heap_keep bel kT
  clear bel
  go_wp2_with fail
  go_at_call 19
  refine (FCut.has HSB.out.1 HSB.out.2).mono ?_
  rw [HQ23.out]
  rintro e w4 ⟨rfl, bel⟩
  replace st := next3_1 bel st
  replace kT := heap_keep bel kT
  clear bel
  go_wp2_with fail
  go_at_call 20
  refine isCountB.mono ?_
  rw [HQ4.out]
  rintro e w5 ⟨rfl, rfl⟩

  have HB := hid st.1
  have y0 : w4.cell? ⟨NT, 0, none⟩ = some (.int .i64 0) := Go.Joins.cell_of_block kT 0
  have y1 : w4.cell? ⟨NT, 1, none⟩ = some (.int .i64 0) := Go.Joins.cell_of_block kT 1
  have y2 : w4.cell? ⟨NT, 2, none⟩ = some (.slice none 0 0) := Go.Joins.cell_of_block kT 2
  have g0 : w4.frozen? ⟨NT, 0, none⟩ = false := Go.Joins.unfrozen_of_block kT 0
  have g1 : w4.frozen? ⟨NT, 1, none⟩ = false := Go.Joins.unfrozen_of_block kT 1
  have g2 : w4.frozen? ⟨NT, 2, none⟩ = false := Go.Joins.unfrozen_of_block kT 2
  have HKx := hid kT
  clear kT
  go_wp2
  obtain ⟨W5, hW⟩ : ∃ W5, W5 = (((w4.setCell ⟨NT, 0, none⟩ (.int .i64 0)).setCell ⟨NT, 1, none⟩ (.int .i64 0)).setCell ⟨NT, 2, none⟩ (.slice none 0 0)) := ⟨_, rfl⟩
  have q0 := (Go.Joins.block_setCell (i := 2) (Go.Joins.block_setCell (i := 1) (Go.Joins.block_setCell (i := 0) HKx.out (.int .i64 0)) (.int .i64 0)) (.slice none 0 0))
  rw [← hW] at q0
  have z0 : W5.cell? ⟨NT, 0, none⟩ = some (.int .i64 0) := Go.Joins.cell_of_block q0 0
  have z1 : W5.cell? ⟨NT, 1, none⟩ = some (.int .i64 0) := Go.Joins.cell_of_block q0 1
  have z2 : W5.cell? ⟨NT, 2, none⟩ = some (.slice none 0 0) := Go.Joins.cell_of_block q0 2
  have B5 : Below w.heap.size w W5 := by
    have h1 := HNT.out
    rw [hW]
    exact ((HB.out.setCell (by simp; omega) _).setCell (by simp; omega) _).setCell (by simp; omega) _
  simp only [← hW]
  clear hW q0
  simp [bodyPost, results, Tryd.results7, go_sem, z0, z1, z2]
  exact B5

set_option maxHeartbeats 2000000 in
theorem implNo5 {w : World} {s r row col way steps : Int} {b : Nat} {v : Value} {zs : List Int} (h : Rd w b v zs) (h1 : (fieldB s r zs && allB zs 2) = true) (h23 : (decide (0 ≤ row ∧ row ≤ s - 1) && decide (0 ≤ col ∧ col ≤ r - 1)) = true) (h4 : decide (0 ≤ way ∧ way ≤ 3) = true) (h5 : decide (0 ≤ steps ∧ steps ≤ 4096) = false) :
    Calls Tryd.prog 7 #[ruleV s r v, .int .i64 row, .int .i64 col, .int .i64 way, .int .i64 steps] w fun e w' => e = .returned (.tuple #[ruleV 0 0 (.slice none 0 0), .int .i64 0, .int .i64 0, .int .i64 0, .bool false]) ∧ Below w.heap.size w w' := by
  have HH := hid h
  have HQ1 := hid h1
  have HQ23 := hid h23
  have HQ4 := hid h4
  have HQ5 := hid h5
  have HSB : Hid ((1 ≤ s ∧ s ≤ 24) ∧ 1 ≤ r ∧ r ≤ 24) := by
    have h1 := HQ1.out
    simp only [fieldB, Bool.and_eq_true] at h1
    have := h1.1.1
    simp [sidesB] at this
    simp only [Hid]; omega
  obtain ⟨ao, cap, rfl, hc, hm, _⟩ := h
  clear hc hm h1 h23 h4 h5
  go_enter Tryd.func7, Tryd.ntmps7
  go_wp2_with fail
  obtain ⟨w1, hW⟩ : ∃ w1, w1 = (w.alloc (Obj.cells #[.int .i64 s, .int .i64 r, .slice ao zs.length cap] 26)).alloc (Obj.cells #[.int .i64 0, .int .i64 0, .slice none 0 0] 26) := ⟨_, rfl⟩
  obtain ⟨N, hN⟩ : ∃ N, N = w.heap.size := ⟨_, rfl⟩
  obtain ⟨NT, hM⟩ : ∃ NT, NT = N + 1 := ⟨_, rfl⟩
  have st : Below w.heap.size w w1 ∧ w1.cell? ⟨N, 0, none⟩ = some (.int .i64 s) ∧ w1.cell? ⟨N, 1, none⟩ = some (.int .i64 r) ∧ w1.cell? ⟨N, 2, none⟩ = some (.slice ao zs.length cap) ∧ Rd w1 b (.slice ao zs.length cap) zs ∧ w.heap.size ≤ w1.heap.size := by
    rw [hW, hN]
    exact ⟨Go.Joins.below_alloc2 _ _ _, by simp, by simp, by simp, HH.out.keep (Go.Joins.below_alloc2 _ _ _) (Nat.le_refl _), by simp; omega⟩
  have kT : w1.heap[NT]? = some (Obj.cells #[.int .i64 0, .int .i64 0, .slice none 0 0] 26) := by rw [hW]; exact FNew.heap_top (by rw [hM, hN]; simp)
  have HNT : Hid (w.heap.size ≤ NT) := by simp only [Hid]; omega
  have HNN : Hid (NT = N + 1 ∧ N = w.heap.size) := ⟨hM, hN⟩
  simp only [← hW, ← hN, ← hM]
  clear hW hN hM
  go_at_call 17
  refine (Can.isPlain (rd3_1_0 st)).mono ?_
  rw [HQ1.out]
  rintro e w2 ⟨rfl, bel⟩
  replace st := next3_1 bel st
  replace kT := (bel.block NT (Array.getElem?_eq_some_iff.1 kT).1).trans kT
  clear bel

  have c0 := st.2.1
  have c1 := st.2.2.1
  have c2 := st.2.2.2.1
  go_wp2_with fail
  go_at_call 18
  refine extentOf.mono ?_
  rintro e w3 ⟨rfl, bel⟩
  clear c0 c1 c2
  replace st := next3_1 bel st
  replace kT := heap_keep bel kT
  clear bel
  go_wp2_with fail
  go_at_call 19
  refine (FCut.has HSB.out.1 HSB.out.2).mono ?_
  rw [HQ23.out]
  rintro e w4 ⟨rfl, bel⟩
  replace st := next3_1 bel st
  replace kT := heap_keep bel kT
  clear bel
  go_wp2_with fail
  go_at_call 20
  refine isCountB.mono ?_
  rw [HQ4.out]
  rintro e w5 ⟨rfl, rfl⟩
  go_wp2_with fail
  go_at_call 20
  refine isCountB.mono ?_
  rw [HQ5.out]
  rintro e w6 ⟨rfl, rfl⟩

  have HB := hid st.1
  have y0 : w4.cell? ⟨NT, 0, none⟩ = some (.int .i64 0) := Go.Joins.cell_of_block kT 0
  have y1 : w4.cell? ⟨NT, 1, none⟩ = some (.int .i64 0) := Go.Joins.cell_of_block kT 1
  have y2 : w4.cell? ⟨NT, 2, none⟩ = some (.slice none 0 0) := Go.Joins.cell_of_block kT 2
  have g0 : w4.frozen? ⟨NT, 0, none⟩ = false := Go.Joins.unfrozen_of_block kT 0
  have g1 : w4.frozen? ⟨NT, 1, none⟩ = false := Go.Joins.unfrozen_of_block kT 1
  have g2 : w4.frozen? ⟨NT, 2, none⟩ = false := Go.Joins.unfrozen_of_block kT 2
  have HKx := hid kT
  clear kT
  go_wp2
  obtain ⟨W5, hW⟩ : ∃ W5, W5 = (((w4.setCell ⟨NT, 0, none⟩ (.int .i64 0)).setCell ⟨NT, 1, none⟩ (.int .i64 0)).setCell ⟨NT, 2, none⟩ (.slice none 0 0)) := ⟨_, rfl⟩
  have q0 := (Go.Joins.block_setCell (i := 2) (Go.Joins.block_setCell (i := 1) (Go.Joins.block_setCell (i := 0) HKx.out (.int .i64 0)) (.int .i64 0)) (.slice none 0 0))
  rw [← hW] at q0
  have z0 : W5.cell? ⟨NT, 0, none⟩ = some (.int .i64 0) := Go.Joins.cell_of_block q0 0
  have z1 : W5.cell? ⟨NT, 1, none⟩ = some (.int .i64 0) := Go.Joins.cell_of_block q0 1
  have z2 : W5.cell? ⟨NT, 2, none⟩ = some (.slice none 0 0) := Go.Joins.cell_of_block q0 2
  have B5 : Below w.heap.size w W5 := by
    have h1 := HNT.out
    rw [hW]
    exact ((HB.out.setCell (by simp; omega) _).setCell (by simp; omega) _).setCell (by simp; omega) _
  simp only [← hW]
  clear hW q0
  simp [bodyPost, results, Tryd.results7, go_sem, z0, z1, z2]
  exact B5

set_option maxHeartbeats 8000000 in
theorem implOk {w : World} {R C n r0 k0 S : Nat} {y0 : Int} {b : Nat} {v : Value} {zs : List Int} (h : Rd w b v zs) (h1 : (fieldB R C zs && allB zs 2) = true) (hn : n = R * C) (hr : r0 < R) (hc0 : k0 < C) (hy : 0 ≤ y0 ∧ y0 ≤ 3) (hS : S ≤ 4096) (hok : okS R C n ⟨zs, r0, k0, y0⟩) (hg : GW w) :
    Calls Tryd.prog 7 #[ruleV R C v, .int .i64 (r0 : Int), .int .i64 (k0 : Int), .int .i64 y0, .int .i64 (S : Int)] w fun e w' => ∃ b' k, e = .returned (.tuple #[ruleV R C (.slice (some ⟨b', 0, none⟩) n k), .int .i64 (run R C ⟨zs, r0, k0, y0⟩ S).r, .int .i64 (run R C ⟨zs, r0, k0, y0⟩ S).c, .int .i64 (run R C ⟨zs, r0, k0, y0⟩ S).y, .bool true]) ∧ Rd.Own 2 w' b' (.slice (some ⟨b', 0, none⟩) n k) (run R C ⟨zs, r0, k0, y0⟩ S).z ∧ w.heap.size ≤ b' ∧ Below w.heap.size w w' := by
  have hf : fieldB R C zs = true := by simp only [Bool.and_eq_true] at h1; exact h1.1
  obtain ⟨hR, hC, hl, hle⟩ := field_nat hf
  rw [← hn] at hl hle
  have HL := hid hl
  have HZ : Hid (1 ≤ zs.length ∧ zs.length ≤ 1048576) := by
    have : 0 < n := by rw [hn]; exact Nat.mul_pos hR.1 hC.1
    simp only [Hid]; omega
  have HRC := hid (And.intro hR hC)
  have HSB : Hid ((1 ≤ (R : Int) ∧ (R : Int) ≤ 24) ∧ 1 ≤ (C : Int) ∧ (C : Int) ≤ 24) := by simp only [Hid]; omega
  have HQ1 := hid h1
  have HQ23 : Hid ((decide (0 ≤ (r0 : Int) ∧ (r0 : Int) ≤ (R : Int) - 1) && decide (0 ≤ (k0 : Int) ∧ (k0 : Int) ≤ (C : Int) - 1)) = true) := by
    simp only [Hid, Bool.and_eq_true, decide_eq_true_eq]; omega
  have HQ4 : Hid (decide (0 ≤ y0 ∧ y0 ≤ 3) = true) := decide_eq_true hy
  have HQ5 : Hid (decide (0 ≤ (S : Int) ∧ (S : Int) ≤ 4096) = true) := by simp only [Hid, decide_eq_true_eq]; omega
  have HH := hid h
  have HN := hid hn
  have HOKS := hid hok
  have HG := hid hg
  have HSS := hid hS
  obtain ⟨⟨zo, ro, co, yo⟩, hT⟩ : ∃ T : St, T = run R C ⟨zs, r0, k0, y0⟩ S := ⟨_, rfl⟩
  have HT := hid hT
  rw [← hT]
  clear hT
  dsimp only
  obtain ⟨ao, cap, rfl, hc, hm, _⟩ := h
  clear hc hm h1 hf hR hC hl hle hn hr hc0 hy hok hg hS
  go_enter Tryd.func7, Tryd.ntmps7
  go_wp2_with fail
  obtain ⟨w1, hW⟩ : ∃ w1, w1 = (w.alloc (Obj.cells #[.int .i64 R, .int .i64 C, .slice ao zs.length cap] 26)).alloc (Obj.cells #[.int .i64 0, .int .i64 0, .slice none 0 0] 26) := ⟨_, rfl⟩
  obtain ⟨N, hN⟩ : ∃ N, N = w.heap.size := ⟨_, rfl⟩
  obtain ⟨NT, hM⟩ : ∃ NT, NT = N + 1 := ⟨_, rfl⟩
  have st : Below w.heap.size w w1 ∧ w1.cell? ⟨N, 0, none⟩ = some (.int .i64 R) ∧ w1.cell? ⟨N, 1, none⟩ = some (.int .i64 C) ∧ w1.cell? ⟨N, 2, none⟩ = some (.slice ao zs.length cap) ∧ Rd w1 b (.slice ao zs.length cap) zs ∧ w.heap.size ≤ w1.heap.size := by
    rw [hW, hN]
    exact ⟨Go.Joins.below_alloc2 _ _ _, by simp, by simp, by simp, HH.out.keep (Go.Joins.below_alloc2 _ _ _) (Nat.le_refl _), by simp; omega⟩
  have kT : w1.heap[NT]? = some (Obj.cells #[.int .i64 0, .int .i64 0, .slice none 0 0] 26) := by rw [hW]; exact FNew.heap_top (by rw [hM, hN]; simp)
  have HNT : Hid (w.heap.size ≤ NT) := by simp only [Hid]; omega
  have HNN : Hid (NT = N + 1 ∧ N = w.heap.size) := ⟨hM, hN⟩
  simp only [← hW, ← hN, ← hM]
  clear hW hN hM
  go_at_call 17
  refine (Can.isPlain (rd3_1_0 st)).mono ?_
  rw [HQ1.out]
  rintro e w2 ⟨rfl, bel⟩
  replace st := next3_1 bel st
  replace kT := (bel.block NT (Array.getElem?_eq_some_iff.1 kT).1).trans kT
  clear bel

  have c0 := st.2.1
  have c1 := st.2.2.1
  have c2 := st.2.2.2.1
  go_wp2_with fail
  go_at_call 18
  refine extentOf.mono ?_
  rintro e w3 ⟨rfl, bel⟩
  clear c0 c1 c2
  replace st := next3_1 bel st
  replace kT := heap_keep bel kT
  clear bel
  go_wp2_with fail
  go_at_call 19
  refine (FCut.has HSB.out.1 HSB.out.2).mono ?_
  rw [HQ23.out]
  rintro e w4 ⟨rfl, bel⟩
  replace st := next3_1 bel st
  replace kT := heap_keep bel kT
  clear bel
  go_wp2_with fail
  go_at_call 20
  refine isCountB.mono ?_
  rw [HQ4.out]
  rintro e w5 ⟨rfl, rfl⟩
  go_wp2_with fail
  go_at_call 20
  refine isCountB.mono ?_
  rw [HQ5.out]
  rintro e w6 ⟨rfl, rfl⟩

  have c0 := st.2.1
  have c1 := st.2.2.1
  have c2 := st.2.2.2.1
  go_wp2_with fail
  go_at_call 21
  refine (copyOfN (rd3_1_0 st) HZ.out HL.out).mono ?_
  rintro e w7 ⟨b', k, rfl, ow, lo, bel⟩
  clear c0 c1 c2
  have HLo : Hid (w.heap.size ≤ b') := Nat.le_trans st.1.size lo
  have HLo4 := hid lo
  have HNB : Hid (NT ≠ b') := Nat.ne_of_lt (Nat.lt_of_lt_of_le (heap_lt kT) lo)
  have HKT4 := hid kT
  have HST4 := hid st.1
  have HB47 := hid bel
  clear bel lo kT st
  go_wp2_with fail
  obtain ⟨w8, hW⟩ : ∃ w8, w8 = w7.alloc (antO R C (.slice (some ⟨b', 0, none⟩) n k) (r0 : Int) (k0 : Int) y0) := ⟨_, rfl⟩
  obtain ⟨NW, hN⟩ : ∃ NW, NW = w7.heap.size := ⟨_, rfl⟩
  have bel : Below w7.heap.size w7 w8 := by rw [hW]; exact below1 _ _
  have HKW : Hid (w8.heap[NW]? = some (antO R C (.slice (some ⟨b', 0, none⟩) n k) (r0 : Int) (k0 : Int) y0)) := by simp only [Hid]; rw [hW]; exact FNew.heap_top hN
  have HWb : Hid (NW ≠ b') := by simp only [Hid]; rw [hN]; exact Nat.ne_of_gt ow.lt
  have HWl : Hid (w4.heap.size ≤ NW) := by simp only [Hid]; rw [hN]; exact HB47.out.size
  have HTW : Hid (NT ≠ NW) := by simp only [Hid]; rw [hN]; exact Nat.ne_of_lt (Nat.lt_of_lt_of_le (heap_lt HKT4.out) HB47.out.size)
  have HO8 := hid (ow.keep bel)
  have HB48 := hid (HB47.out.trans (bel.mono HB47.out.size))
  have hWW : (w7.alloc (Obj.cells #[.int .i64 R, .int .i64 C, .slice (some ⟨b', 0, none⟩) n k, .int .i64 (r0 : Int), .int .i64 (k0 : Int), .int .i64 y0] 47)) = w8 := hW.symm
  simp only [hWW, ← hN]
  clear hW hN bel ow hWW
  refine (Wlk.walk (s := ⟨zs, r0, k0, y0⟩) HB48.out HKW.out HO8.out HWb.out HWl.out HLo4.out (gw_bel HG.out HST4.out) HOKS.out HN.out HRC.out.1 HRC.out.2 (Sth.own_cap HO8.out) HSS.out).mono ?_
  rw [← HT.out]
  (try dsimp only)
  rintro e w9 ⟨⟨_, rfl⟩, kE, oE, belE⟩
  have HKE := hid kE
  have HOE := hid oE
  have HB9 := hid (HST4.out.trans (belE.mono HST4.out.size))
  have HKT9 := hid (heap_keep belE HKT4.out)
  clear kE oE belE
  go_wp2_with fail
  (try refine Box.wp_noPanic ?_)
  refine wp_region_held_drew (S := (fun ww => ww.cell? ⟨NW, 0, none⟩ = some (.int .i64 R) ∧ ww.cell? ⟨NW, 1, none⟩ = some (.int .i64 C) ∧ ww.cell? ⟨NW, 2, none⟩ = some (.slice (some ⟨b', 0, none⟩) n k) ∧ ww.cell? ⟨NW, 3, none⟩ = some (.int .i64 (ro : Int)) ∧ ww.cell? ⟨NW, 4, none⟩ = some (.int .i64 (co : Int)) ∧ ww.cell? ⟨NW, 5, none⟩ = some (.int .i64 yo))) (by kernel_rfl) ?_ (fun hHeld => ?_)
  · ((try dsimp only); exact ant_cells HKE.out)
  obtain ⟨wD, hwd⟩ : ∃ wD, wD = w9.drew := ⟨_, rfl⟩
  have HO : Hid (Rd.Own 2 wD b' (.slice (some ⟨b', 0, none⟩) n k) zo) := by simp only [Hid]; rw [hwd]; exact HOE.out
  have HB : Hid (Below w.heap.size w wD) := by simp only [Hid]; rw [hwd]; exact HB9.out.drew
  have kT : wD.heap[NT]? = some (Obj.cells #[.int .i64 0, .int .i64 0, .slice none 0 0] 26) := by rw [hwd]; exact HKT9.out
  simp only [← hwd] at hHeld ⊢
  clear hwd
  (try dsimp only at hHeld)
  have y0 : wD.cell? ⟨NT, 0, none⟩ = some (.int .i64 0) := Go.Joins.cell_of_block kT 0
  have y1 : wD.cell? ⟨NT, 1, none⟩ = some (.int .i64 0) := Go.Joins.cell_of_block kT 1
  have y2 : wD.cell? ⟨NT, 2, none⟩ = some (.slice none 0 0) := Go.Joins.cell_of_block kT 2
  have g0 : wD.frozen? ⟨NT, 0, none⟩ = false := Go.Joins.unfrozen_of_block kT 0
  have g1 : wD.frozen? ⟨NT, 1, none⟩ = false := Go.Joins.unfrozen_of_block kT 1
  have g2 : wD.frozen? ⟨NT, 2, none⟩ = false := Go.Joins.unfrozen_of_block kT 2
  have HKx := hid kT
  clear kT
  (refine wpAnyH_take (i := 0) (v := ?_) rfl ?_ ?_ ?_ (fun _ _ _ h => h) (Or.inl ⟨?_, ?_⟩) ?_ ?_; rotate_left 1; (focus decide +kernel); (focus decide +kernel); (focus decide +kernel); (focus rfl); (focus (intro w hSw; (try dsimp only at hSw); go_simp; (try (with_reducible rfl)); done)); (focus assumption); (try simp only [Act.put, List.setIfInBounds_toArray, List.set_cons_zero, List.set_cons_succ, List.getElem_toArray, List.getElem_cons_succ, List.getElem_cons_zero]))
  (refine wpAnyH_take (i := 1) (v := ?_) rfl ?_ ?_ ?_ (fun _ _ _ h => h) (Or.inl ⟨?_, ?_⟩) ?_ ?_; rotate_left 1; (focus decide +kernel); (focus decide +kernel); (focus decide +kernel); (focus rfl); (focus (intro w hSw; (try dsimp only at hSw); go_simp; (try (with_reducible rfl)); done)); (focus assumption); (try simp only [Act.put, List.setIfInBounds_toArray, List.set_cons_zero, List.set_cons_succ, List.getElem_toArray, List.getElem_cons_succ, List.getElem_cons_zero]))
  (refine wpAnyH_take (i := 2) (v := ?_) rfl ?_ ?_ ?_ (fun _ _ _ h => h) (Or.inl ⟨?_, ?_⟩) ?_ ?_; rotate_left 1; (focus decide +kernel); (focus decide +kernel); (focus decide +kernel); (focus rfl); (focus (intro w hSw; (try dsimp only at hSw); go_simp; (try (with_reducible rfl)); done)); (focus assumption); (try simp only [Act.put, List.setIfInBounds_toArray, List.set_cons_zero, List.set_cons_succ, List.getElem_toArray, List.getElem_cons_succ, List.getElem_cons_zero]))
  (refine wpAnyH_take (i := 3) (v := ?_) rfl ?_ ?_ ?_ (fun _ _ _ h => h) (Or.inl ⟨?_, ?_⟩) ?_ ?_; rotate_left 1; (focus decide +kernel); (focus decide +kernel); (focus decide +kernel); (focus rfl); (focus (intro w hSw; (try dsimp only at hSw); go_simp; (try (with_reducible rfl)); done)); (focus assumption); (try simp only [Act.put, List.setIfInBounds_toArray, List.set_cons_zero, List.set_cons_succ, List.getElem_toArray, List.getElem_cons_succ, List.getElem_cons_zero]))
  (refine wpAnyH_take (i := 4) (v := ?_) rfl ?_ ?_ ?_ (fun _ _ _ h => h) (Or.inl ⟨?_, ?_⟩) ?_ ?_; rotate_left 1; (focus decide +kernel); (focus decide +kernel); (focus decide +kernel); (focus rfl); (focus (intro w hSw; (try dsimp only at hSw); go_simp; (try (with_reducible rfl)); done)); (focus assumption); (try simp only [Act.put, List.setIfInBounds_toArray, List.set_cons_zero, List.set_cons_succ, List.getElem_toArray, List.getElem_cons_succ, List.getElem_cons_zero]))
  (refine wpAnyH_take (i := 5) (v := ?_) rfl ?_ ?_ ?_ (fun _ _ _ h => h) (Or.inl ⟨?_, ?_⟩) ?_ ?_; rotate_left 1; (focus decide +kernel); (focus decide +kernel); (focus decide +kernel); (focus rfl); (focus (intro w hSw; (try dsimp only at hSw); go_simp; (try (with_reducible rfl)); done)); (focus assumption); (try simp only [Act.put, List.setIfInBounds_toArray, List.set_cons_zero, List.set_cons_succ, List.getElem_toArray, List.getElem_cons_succ, List.getElem_cons_zero]))
  (refine wpAnyH_take (i := 6) (v := ?_) rfl ?_ ?_ ?_ (fun _ _ _ h => h) (Or.inl ⟨?_, ?_⟩) ?_ ?_; rotate_left 1; (focus decide +kernel); (focus decide +kernel); (focus decide +kernel); (focus rfl); (focus (intro w hSw; (try dsimp only at hSw); go_simp; (try (with_reducible rfl)); done)); (focus assumption); (try simp only [Act.put, List.setIfInBounds_toArray, List.set_cons_zero, List.set_cons_succ, List.getElem_toArray, List.getElem_cons_succ, List.getElem_cons_zero]))
  (refine wpAnyH_take (i := 7) (v := ?_) rfl ?_ ?_ ?_ (fun _ _ _ h => h) (Or.inl ⟨?_, ?_⟩) ?_ ?_; rotate_left 1; (focus decide +kernel); (focus decide +kernel); (focus decide +kernel); (focus rfl); (focus (intro w hSw; (try dsimp only at hSw); go_simp; (try (with_reducible rfl)); done)); (focus assumption); (try simp only [Act.put, List.setIfInBounds_toArray, List.set_cons_zero, List.set_cons_succ, List.getElem_toArray, List.getElem_cons_succ, List.getElem_cons_zero]))
  refine wpAnyH_ready (rs := [8]) ?_ (by simp) ?_
  · decide +kernel
  refine AllReadyH.cons rfl (fun K hK => ?_) AllReadyH.nil
  go_simp
  clear y0 y1 y2 g0 g1 g2
  refine hK.out _ _ ?_ (fun hHeld2 => ?_)
  · (try dsimp only); exact ⟨set_cell (set_cell (set_cell hHeld.1 HTW.out.symm) HTW.out.symm) HTW.out.symm, set_cell (set_cell (set_cell hHeld.2.1 HTW.out.symm) HTW.out.symm) HTW.out.symm, set_cell (set_cell (set_cell hHeld.2.2.1 HTW.out.symm) HTW.out.symm) HTW.out.symm, set_cell (set_cell (set_cell hHeld.2.2.2.1 HTW.out.symm) HTW.out.symm) HTW.out.symm, set_cell (set_cell (set_cell hHeld.2.2.2.2.1 HTW.out.symm) HTW.out.symm) HTW.out.symm, set_cell (set_cell (set_cell hHeld.2.2.2.2.2 HTW.out.symm) HTW.out.symm) HTW.out.symm⟩
  clear hK K hHeld
  have hHeld := hHeld2
  clear hHeld2
  (try simp only [Act.put, List.setIfInBounds_toArray, List.set_cons_zero, List.set_cons_succ, List.getElem_toArray, List.getElem_cons_succ, List.getElem_cons_zero])
  (refine wpAnyH_take (i := 9) (v := ?_) rfl ?_ ?_ ?_ (fun _ _ _ h => h) (Or.inl ⟨?_, ?_⟩) ?_ ?_; rotate_left 1; (focus decide +kernel); (focus decide +kernel); (focus decide +kernel); (focus rfl); (focus (intro w hSw; (try dsimp only at hSw); go_simp; (try (with_reducible rfl)); done)); (focus assumption); (try simp only [Act.put, List.setIfInBounds_toArray, List.set_cons_zero, List.set_cons_succ, List.getElem_toArray, List.getElem_cons_succ, List.getElem_cons_zero]))
  (refine wpAnyH_take (i := 10) (v := ?_) rfl ?_ ?_ ?_ (fun _ _ _ h => h) (Or.inl ⟨?_, ?_⟩) ?_ ?_; rotate_left 1; (focus decide +kernel); (focus decide +kernel); (focus decide +kernel); (focus rfl); (focus (intro w hSw; (try dsimp only at hSw); go_simp; (try (with_reducible rfl)); done)); (focus assumption); (try simp only [Act.put, List.setIfInBounds_toArray, List.set_cons_zero, List.set_cons_succ, List.getElem_toArray, List.getElem_cons_succ, List.getElem_cons_zero]))
  (refine wpAnyH_take (i := 11) (v := ?_) rfl ?_ ?_ ?_ (fun _ _ _ h => h) (Or.inl ⟨?_, ?_⟩) ?_ ?_; rotate_left 1; (focus decide +kernel); (focus decide +kernel); (focus decide +kernel); (focus rfl); (focus (intro w hSw; (try dsimp only at hSw); go_simp; (try (with_reducible rfl)); done)); (focus assumption); (try simp only [Act.put, List.setIfInBounds_toArray, List.set_cons_zero, List.set_cons_succ, List.getElem_toArray, List.getElem_cons_succ, List.getElem_cons_zero]))
  (refine wpAnyH_take (i := 12) (v := ?_) rfl ?_ ?_ ?_ (fun _ _ _ h => h) (Or.inl ⟨?_, ?_⟩) ?_ ?_; rotate_left 1; (focus decide +kernel); (focus decide +kernel); (focus decide +kernel); (focus rfl); (focus (intro w hSw; (try dsimp only at hSw); go_simp; (try (with_reducible rfl)); done)); (focus assumption); (try simp only [Act.put, List.setIfInBounds_toArray, List.set_cons_zero, List.set_cons_succ, List.getElem_toArray, List.getElem_cons_succ, List.getElem_cons_zero]))
  refine wpAnyH_done (by kernel_rfl) ?_ _
  go_wp2
  obtain ⟨W5, hW⟩ : ∃ W5, W5 = (((wD.setCell ⟨NT, 0, none⟩ (.int .i64 R)).setCell ⟨NT, 1, none⟩ (.int .i64 C)).setCell ⟨NT, 2, none⟩ (.slice (some ⟨b', 0, none⟩) n k)) := ⟨_, rfl⟩
  have q0 := (Go.Joins.block_setCell (i := 2) (Go.Joins.block_setCell (i := 1) (Go.Joins.block_setCell (i := 0) HKx.out (.int .i64 R)) (.int .i64 C)) (.slice (some ⟨b', 0, none⟩) n k))
  rw [← hW] at q0
  have z0 : W5.cell? ⟨NT, 0, none⟩ = some (.int .i64 R) := Go.Joins.cell_of_block q0 0
  have z1 : W5.cell? ⟨NT, 1, none⟩ = some (.int .i64 C) := Go.Joins.cell_of_block q0 1
  have z2 : W5.cell? ⟨NT, 2, none⟩ = some (.slice (some ⟨b', 0, none⟩) n k) := Go.Joins.cell_of_block q0 2
  have O5 := (own_set (own_set (own_set HO.out ⟨NT, 0, none⟩ (.int .i64 R) HNB.out) ⟨NT, 1, none⟩ (.int .i64 C) HNB.out) ⟨NT, 2, none⟩ (.slice (some ⟨b', 0, none⟩) n k) HNB.out)
  rw [← hW] at O5
  have B5 : Below w.heap.size w W5 := by
    have h1 := HNT.out
    rw [hW]
    exact ((HB.out.setCell (by simp; omega) _).setCell (by simp; omega) _).setCell (by simp; omega) _
  simp only [← hW]
  clear hW q0
  simp [bodyPost, results, Tryd.results7, go_sem, z0, z1, z2]
  exact ⟨b', k, ⟨rfl, rfl⟩, O5, HLo.out, B5⟩

end Go.Proofs.YtmbimekndhcgaaaDoor.Ran
