/- CrossRules of both sides. -/
import Derived.Test.YthcbhbdgbiiagaaCrs
import Derived.Deep.Cut
import Derived.BigQuiet
namespace Go.Proofs.Ythcbhbdgbiiagaa.CrsA
open Go.RowKit Go.Proofs.Ythcbhbdgbiiagaa.Rd Go.Proofs.Ythcbhbdgbiiagaa.Help Go.Proofs.Ythcbhbdgbiiagaa.Ring Go.Proofs.Ythcbhbdgbiiagaa.Small Go.Proofs.Ythcbhbdgbiiagaa.Keep Go.Proofs.Ythcbhbdgbiiagaa.Rule Go.Proofs.Ythcbhbdgbiiagaa.Grow Go.Proofs.Ythcbhbdgbiiagaa.Two Go.Proofs.Ythcbhbdgbiiagaa.Crs
set_option linter.unusedVariables false
set_option linter.unusedSimpArgs false

set_option maxHeartbeats 4000000 in
set_option maxRecDepth 8000 in
theorem specNo1 {w : World} {s r s2 r2 pl : Int} {b1 b2 : Nat} {v1 v2 : Value} {xs ys : List Int} (h1 : Rd w b1 v1 xs) (h2 : Rd w b2 v2 ys) (hq : twoB s r xs = false) :
    Calls Try.prog 27 #[ruleV s r v1, ruleV s2 r2 v2, .int .i64 pl] w fun e w' => e = .returned (.tuple #[ruleV 0 0 (.slice none 0 0), .bool false]) ∧ Below w.heap.size w w' := by
  have HQ := hid hq
  clear hq
  have H1 := hid h1
  have H2 := hid h2
  obtain ⟨ao1, c1, rfl, hc1, hm1, _⟩ := h1
  obtain ⟨ao2, c2, rfl, hc2, hm2, _⟩ := h2
  have hm1' : xs.length ≤ c1 ∧ c1 ≤ 9223372036854775807 := by unfold maxLen at hm1; omega
  clear hc1 hm1 hc2 hm2
  go_enter Try.func27, Try.ntmps27
  go_wp2_with fail
  obtain ⟨w1, hW⟩ : ∃ w1, w1 = ((w.alloc (Obj.cells #[.int .i64 s, .int .i64 r, .slice ao1 xs.length c1] 44)).alloc (Obj.cells #[.int .i64 s2, .int .i64 r2, .slice ao2 ys.length c2] 44)).alloc (Obj.cells #[.int .i64 0, .int .i64 0, .slice none 0 0] 44) := ⟨_, rfl⟩
  obtain ⟨NA, hA⟩ : ∃ NA, NA = w.heap.size := ⟨_, rfl⟩
  obtain ⟨NB, hB⟩ : ∃ NB, NB = NA + 1 := ⟨_, rfl⟩
  obtain ⟨NT, hT⟩ : ∃ NT, NT = NB + 1 := ⟨_, rfl⟩
  have st : Below w.heap.size w w1 ∧ w1.cell? ⟨NA, 0, none⟩ = some (.int .i64 s) ∧ w1.cell? ⟨NA, 1, none⟩ = some (.int .i64 r) ∧ w1.cell? ⟨NA, 2, none⟩ = some (.slice ao1 xs.length c1) ∧ w1.cell? ⟨NB, 0, none⟩ = some (.int .i64 s2) ∧ w1.cell? ⟨NB, 1, none⟩ = some (.int .i64 r2) ∧ w1.cell? ⟨NB, 2, none⟩ = some (.slice ao2 ys.length c2) ∧ w.heap.size ≤ w1.heap.size := by
    rw [hW, hB, hA]
    exact ⟨Go.Joins.below_alloc3 _ _ _ _, cell_keep (Go.Joins.below_alloc2 _ _ _) (by simp), cell_keep (Go.Joins.below_alloc2 _ _ _) (by simp), cell_keep (Go.Joins.below_alloc2 _ _ _) (by simp), cell_keep (below1 _ _) (by simp), cell_keep (below1 _ _) (by simp), cell_keep (below1 _ _) (by simp), by simp <;> omega⟩
  have kT : w1.heap[NT]? = some (Obj.cells #[.int .i64 0, .int .i64 0, .slice none 0 0] 44) := by rw [hW]; exact FNew.heap_top (by rw [hT, hB, hA]; simp)
  have HNT : Hid (w.heap.size ≤ NT) := by simp only [Hid]; omega
  simp only [← hW, ← hA, ← hB, ← hT]
  clear hW hA hB hT
  go_at_call 65
  refine (Two.spec (H1.out.keep st.1 (Nat.le_refl _)) st.2.1 st.2.2.1 st.2.2.2.1).mono ?_
  rw [HQ.out]
  rintro e w2 ⟨rfl, hm2⟩
  have bel := Two.below_m hm2
  clear hm2
  replace st := next6_0 bel st
  replace kT := heap_keep bel kT
  clear bel
  have HB := hid st.1
  have y0 : w2.cell? ⟨NT, 0, none⟩ = some (.int .i64 0) := Go.Joins.cell_of_block kT 0
  have y1 : w2.cell? ⟨NT, 1, none⟩ = some (.int .i64 0) := Go.Joins.cell_of_block kT 1
  have y2 : w2.cell? ⟨NT, 2, none⟩ = some (.slice none 0 0) := Go.Joins.cell_of_block kT 2
  have g0 : w2.frozen? ⟨NT, 0, none⟩ = false := Go.Joins.unfrozen_of_block kT 0
  have g1 : w2.frozen? ⟨NT, 1, none⟩ = false := Go.Joins.unfrozen_of_block kT 1
  have g2 : w2.frozen? ⟨NT, 2, none⟩ = false := Go.Joins.unfrozen_of_block kT 2
  have HKx := hid kT
  clear kT
  go_wp2
  obtain ⟨W5, hW⟩ : ∃ W5, W5 = (((w2.setCell ⟨NT, 0, none⟩ (.int .i64 0)).setCell ⟨NT, 1, none⟩ (.int .i64 0)).setCell ⟨NT, 2, none⟩ (.slice none 0 0)) := ⟨_, rfl⟩
  have q0 := (Go.Joins.block_setCell (i := 2) (Go.Joins.block_setCell (i := 1) (Go.Joins.block_setCell (i := 0) HKx.out (.int .i64 0)) (.int .i64 0)) (.slice none 0 0))
  rw [← hW] at q0
  have z0 : W5.cell? ⟨NT, 0, none⟩ = some (.int .i64 0) := Go.Joins.cell_of_block q0 0
  have z1 : W5.cell? ⟨NT, 1, none⟩ = some (.int .i64 0) := Go.Joins.cell_of_block q0 1
  have z2 : W5.cell? ⟨NT, 2, none⟩ = some (.slice none 0 0) := Go.Joins.cell_of_block q0 2
  have B5 : Below w.heap.size w W5 := by
    have h1 := HNT.out
    rw [hW]
    exact ((HB.out.setCell (by simp; omega) _).setCell (by simp; omega) _).setCell (by simp; omega) _
  simp only [← hW]
  clear hW q0
  simp [bodyPost, results, Try.results27, go_sem, z0, z1, z2]
  exact B5

set_option maxHeartbeats 4000000 in
set_option maxRecDepth 8000 in
theorem implNo1 {w : World} {s r s2 r2 pl : Int} {b1 b2 : Nat} {v1 v2 : Value} {xs ys : List Int} (h1 : Rd w b1 v1 xs) (h2 : Rd w b2 v2 ys) (hq : twoB s r xs = false) :
    Calls Try.prog 29 #[ruleV s r v1, ruleV s2 r2 v2, .int .i64 pl] w fun e w' => e = .returned (.tuple #[ruleV 0 0 (.slice none 0 0), .bool false]) ∧ Below w.heap.size w w' := by
  have HQ := hid hq
  clear hq
  have H1 := hid h1
  have H2 := hid h2
  obtain ⟨ao1, c1, rfl, hc1, hm1, _⟩ := h1
  obtain ⟨ao2, c2, rfl, hc2, hm2, _⟩ := h2
  have hm1' : xs.length ≤ c1 ∧ c1 ≤ 9223372036854775807 := by unfold maxLen at hm1; omega
  clear hc1 hm1 hc2 hm2
  go_enter Try.func29, Try.ntmps29
  go_wp2_with fail
  obtain ⟨w1, hW⟩ : ∃ w1, w1 = ((w.alloc (Obj.cells #[.int .i64 s, .int .i64 r, .slice ao1 xs.length c1] 44)).alloc (Obj.cells #[.int .i64 s2, .int .i64 r2, .slice ao2 ys.length c2] 44)).alloc (Obj.cells #[.int .i64 0, .int .i64 0, .slice none 0 0] 44) := ⟨_, rfl⟩
  obtain ⟨NA, hA⟩ : ∃ NA, NA = w.heap.size := ⟨_, rfl⟩
  obtain ⟨NB, hB⟩ : ∃ NB, NB = NA + 1 := ⟨_, rfl⟩
  obtain ⟨NT, hT⟩ : ∃ NT, NT = NB + 1 := ⟨_, rfl⟩
  have st : Below w.heap.size w w1 ∧ w1.cell? ⟨NA, 0, none⟩ = some (.int .i64 s) ∧ w1.cell? ⟨NA, 1, none⟩ = some (.int .i64 r) ∧ w1.cell? ⟨NA, 2, none⟩ = some (.slice ao1 xs.length c1) ∧ w1.cell? ⟨NB, 0, none⟩ = some (.int .i64 s2) ∧ w1.cell? ⟨NB, 1, none⟩ = some (.int .i64 r2) ∧ w1.cell? ⟨NB, 2, none⟩ = some (.slice ao2 ys.length c2) ∧ w.heap.size ≤ w1.heap.size := by
    rw [hW, hB, hA]
    exact ⟨Go.Joins.below_alloc3 _ _ _ _, cell_keep (Go.Joins.below_alloc2 _ _ _) (by simp), cell_keep (Go.Joins.below_alloc2 _ _ _) (by simp), cell_keep (Go.Joins.below_alloc2 _ _ _) (by simp), cell_keep (below1 _ _) (by simp), cell_keep (below1 _ _) (by simp), cell_keep (below1 _ _) (by simp), by simp <;> omega⟩
  have kT : w1.heap[NT]? = some (Obj.cells #[.int .i64 0, .int .i64 0, .slice none 0 0] 44) := by rw [hW]; exact FNew.heap_top (by rw [hT, hB, hA]; simp)
  have HNT : Hid (w.heap.size ≤ NT) := by simp only [Hid]; omega
  simp only [← hW, ← hA, ← hB, ← hT]
  clear hW hA hB hT
  go_at_call 67
  refine (Two.impl (H1.out.keep st.1 (Nat.le_refl _))).mono ?_
  rw [HQ.out]
  rintro e w2 ⟨rfl, bel⟩
  replace st := next6_0 bel st
  replace kT := heap_keep bel kT
  clear bel
  have HB := hid st.1
  have y0 : w2.cell? ⟨NT, 0, none⟩ = some (.int .i64 0) := Go.Joins.cell_of_block kT 0
  have y1 : w2.cell? ⟨NT, 1, none⟩ = some (.int .i64 0) := Go.Joins.cell_of_block kT 1
  have y2 : w2.cell? ⟨NT, 2, none⟩ = some (.slice none 0 0) := Go.Joins.cell_of_block kT 2
  have g0 : w2.frozen? ⟨NT, 0, none⟩ = false := Go.Joins.unfrozen_of_block kT 0
  have g1 : w2.frozen? ⟨NT, 1, none⟩ = false := Go.Joins.unfrozen_of_block kT 1
  have g2 : w2.frozen? ⟨NT, 2, none⟩ = false := Go.Joins.unfrozen_of_block kT 2
  have HKx := hid kT
  clear kT
  go_wp2
  obtain ⟨W5, hW⟩ : ∃ W5, W5 = (((w2.setCell ⟨NT, 0, none⟩ (.int .i64 0)).setCell ⟨NT, 1, none⟩ (.int .i64 0)).setCell ⟨NT, 2, none⟩ (.slice none 0 0)) := ⟨_, rfl⟩
  have q0 := (Go.Joins.block_setCell (i := 2) (Go.Joins.block_setCell (i := 1) (Go.Joins.block_setCell (i := 0) HKx.out (.int .i64 0)) (.int .i64 0)) (.slice none 0 0))
  rw [← hW] at q0
  have z0 : W5.cell? ⟨NT, 0, none⟩ = some (.int .i64 0) := Go.Joins.cell_of_block q0 0
  have z1 : W5.cell? ⟨NT, 1, none⟩ = some (.int .i64 0) := Go.Joins.cell_of_block q0 1
  have z2 : W5.cell? ⟨NT, 2, none⟩ = some (.slice none 0 0) := Go.Joins.cell_of_block q0 2
  have B5 : Below w.heap.size w W5 := by
    have h1 := HNT.out
    rw [hW]
    exact ((HB.out.setCell (by simp; omega) _).setCell (by simp; omega) _).setCell (by simp; omega) _
  simp only [← hW]
  clear hW q0
  simp [bodyPost, results, Try.results29, go_sem, z0, z1, z2]
  exact B5

set_option maxHeartbeats 4000000 in
set_option maxRecDepth 8000 in
theorem specNo2 {w : World} {s r s2 r2 pl : Int} {b1 b2 : Nat} {v1 v2 : Value} {xs ys : List Int} (h1 : Rd w b1 v1 xs) (h2 : Rd w b2 v2 ys) (hp : twoB s r xs = true) (hq : twoB s2 r2 ys = false) :
    Calls Try.prog 27 #[ruleV s r v1, ruleV s2 r2 v2, .int .i64 pl] w fun e w' => e = .returned (.tuple #[ruleV 0 0 (.slice none 0 0), .bool false]) ∧ Below w.heap.size w w' := by
  have HP := hid hp
  clear hp
  have HQ := hid hq
  clear hq
  have H1 := hid h1
  have H2 := hid h2
  obtain ⟨ao1, c1, rfl, hc1, hm1, _⟩ := h1
  obtain ⟨ao2, c2, rfl, hc2, hm2, _⟩ := h2
  have hm1' : xs.length ≤ c1 ∧ c1 ≤ 9223372036854775807 := by unfold maxLen at hm1; omega
  clear hc1 hm1 hc2 hm2
  go_enter Try.func27, Try.ntmps27
  go_wp2_with fail
  obtain ⟨w1, hW⟩ : ∃ w1, w1 = ((w.alloc (Obj.cells #[.int .i64 s, .int .i64 r, .slice ao1 xs.length c1] 44)).alloc (Obj.cells #[.int .i64 s2, .int .i64 r2, .slice ao2 ys.length c2] 44)).alloc (Obj.cells #[.int .i64 0, .int .i64 0, .slice none 0 0] 44) := ⟨_, rfl⟩
  obtain ⟨NA, hA⟩ : ∃ NA, NA = w.heap.size := ⟨_, rfl⟩
  obtain ⟨NB, hB⟩ : ∃ NB, NB = NA + 1 := ⟨_, rfl⟩
  obtain ⟨NT, hT⟩ : ∃ NT, NT = NB + 1 := ⟨_, rfl⟩
  have st : Below w.heap.size w w1 ∧ w1.cell? ⟨NA, 0, none⟩ = some (.int .i64 s) ∧ w1.cell? ⟨NA, 1, none⟩ = some (.int .i64 r) ∧ w1.cell? ⟨NA, 2, none⟩ = some (.slice ao1 xs.length c1) ∧ w1.cell? ⟨NB, 0, none⟩ = some (.int .i64 s2) ∧ w1.cell? ⟨NB, 1, none⟩ = some (.int .i64 r2) ∧ w1.cell? ⟨NB, 2, none⟩ = some (.slice ao2 ys.length c2) ∧ w.heap.size ≤ w1.heap.size := by
    rw [hW, hB, hA]
    exact ⟨Go.Joins.below_alloc3 _ _ _ _, cell_keep (Go.Joins.below_alloc2 _ _ _) (by simp), cell_keep (Go.Joins.below_alloc2 _ _ _) (by simp), cell_keep (Go.Joins.below_alloc2 _ _ _) (by simp), cell_keep (below1 _ _) (by simp), cell_keep (below1 _ _) (by simp), cell_keep (below1 _ _) (by simp), by simp <;> omega⟩
  have kT : w1.heap[NT]? = some (Obj.cells #[.int .i64 0, .int .i64 0, .slice none 0 0] 44) := by rw [hW]; exact FNew.heap_top (by rw [hT, hB, hA]; simp)
  have HNT : Hid (w.heap.size ≤ NT) := by simp only [Hid]; omega
  simp only [← hW, ← hA, ← hB, ← hT]
  clear hW hA hB hT
  go_at_call 65
  refine (Two.spec (H1.out.keep st.1 (Nat.le_refl _)) st.2.1 st.2.2.1 st.2.2.2.1).mono ?_
  rw [HP.out]
  rintro e w2 ⟨rfl, hm2⟩
  have bel := Two.below_m hm2
  clear hm2
  replace st := next6_0 bel st
  replace kT := heap_keep bel kT
  clear bel
  go_wp2_with fail
  go_at_call 65
  refine (Two.spec (H2.out.keep st.1 (Nat.le_refl _)) st.2.2.2.2.1 st.2.2.2.2.2.1 st.2.2.2.2.2.2.1).mono ?_
  rw [HQ.out]
  rintro e w3 ⟨rfl, hm2⟩
  have bel := Two.below_m hm2
  clear hm2
  replace st := next6_0 bel st
  replace kT := heap_keep bel kT
  clear bel
  have HB := hid st.1
  have y0 : w3.cell? ⟨NT, 0, none⟩ = some (.int .i64 0) := Go.Joins.cell_of_block kT 0
  have y1 : w3.cell? ⟨NT, 1, none⟩ = some (.int .i64 0) := Go.Joins.cell_of_block kT 1
  have y2 : w3.cell? ⟨NT, 2, none⟩ = some (.slice none 0 0) := Go.Joins.cell_of_block kT 2
  have g0 : w3.frozen? ⟨NT, 0, none⟩ = false := Go.Joins.unfrozen_of_block kT 0
  have g1 : w3.frozen? ⟨NT, 1, none⟩ = false := Go.Joins.unfrozen_of_block kT 1
  have g2 : w3.frozen? ⟨NT, 2, none⟩ = false := Go.Joins.unfrozen_of_block kT 2
  have HKx := hid kT
  clear kT
  go_wp2
  obtain ⟨W5, hW⟩ : ∃ W5, W5 = (((w3.setCell ⟨NT, 0, none⟩ (.int .i64 0)).setCell ⟨NT, 1, none⟩ (.int .i64 0)).setCell ⟨NT, 2, none⟩ (.slice none 0 0)) := ⟨_, rfl⟩
  have q0 := (Go.Joins.block_setCell (i := 2) (Go.Joins.block_setCell (i := 1) (Go.Joins.block_setCell (i := 0) HKx.out (.int .i64 0)) (.int .i64 0)) (.slice none 0 0))
  rw [← hW] at q0
  have z0 : W5.cell? ⟨NT, 0, none⟩ = some (.int .i64 0) := Go.Joins.cell_of_block q0 0
  have z1 : W5.cell? ⟨NT, 1, none⟩ = some (.int .i64 0) := Go.Joins.cell_of_block q0 1
  have z2 : W5.cell? ⟨NT, 2, none⟩ = some (.slice none 0 0) := Go.Joins.cell_of_block q0 2
  have B5 : Below w.heap.size w W5 := by
    have h1 := HNT.out
    rw [hW]
    exact ((HB.out.setCell (by simp; omega) _).setCell (by simp; omega) _).setCell (by simp; omega) _
  simp only [← hW]
  clear hW q0
  simp [bodyPost, results, Try.results27, go_sem, z0, z1, z2]
  exact B5

set_option maxHeartbeats 4000000 in
set_option maxRecDepth 8000 in
theorem implNo2 {w : World} {s r s2 r2 pl : Int} {b1 b2 : Nat} {v1 v2 : Value} {xs ys : List Int} (h1 : Rd w b1 v1 xs) (h2 : Rd w b2 v2 ys) (hp : twoB s r xs = true) (hq : twoB s2 r2 ys = false) :
    Calls Try.prog 29 #[ruleV s r v1, ruleV s2 r2 v2, .int .i64 pl] w fun e w' => e = .returned (.tuple #[ruleV 0 0 (.slice none 0 0), .bool false]) ∧ Below w.heap.size w w' := by
  have HP := hid hp
  clear hp
  have HQ := hid hq
  clear hq
  have H1 := hid h1
  have H2 := hid h2
  obtain ⟨ao1, c1, rfl, hc1, hm1, _⟩ := h1
  obtain ⟨ao2, c2, rfl, hc2, hm2, _⟩ := h2
  have hm1' : xs.length ≤ c1 ∧ c1 ≤ 9223372036854775807 := by unfold maxLen at hm1; omega
  clear hc1 hm1 hc2 hm2
  go_enter Try.func29, Try.ntmps29
  go_wp2_with fail
  obtain ⟨w1, hW⟩ : ∃ w1, w1 = ((w.alloc (Obj.cells #[.int .i64 s, .int .i64 r, .slice ao1 xs.length c1] 44)).alloc (Obj.cells #[.int .i64 s2, .int .i64 r2, .slice ao2 ys.length c2] 44)).alloc (Obj.cells #[.int .i64 0, .int .i64 0, .slice none 0 0] 44) := ⟨_, rfl⟩
  obtain ⟨NA, hA⟩ : ∃ NA, NA = w.heap.size := ⟨_, rfl⟩
  obtain ⟨NB, hB⟩ : ∃ NB, NB = NA + 1 := ⟨_, rfl⟩
  obtain ⟨NT, hT⟩ : ∃ NT, NT = NB + 1 := ⟨_, rfl⟩
  have st : Below w.heap.size w w1 ∧ w1.cell? ⟨NA, 0, none⟩ = some (.int .i64 s) ∧ w1.cell? ⟨NA, 1, none⟩ = some (.int .i64 r) ∧ w1.cell? ⟨NA, 2, none⟩ = some (.slice ao1 xs.length c1) ∧ w1.cell? ⟨NB, 0, none⟩ = some (.int .i64 s2) ∧ w1.cell? ⟨NB, 1, none⟩ = some (.int .i64 r2) ∧ w1.cell? ⟨NB, 2, none⟩ = some (.slice ao2 ys.length c2) ∧ w.heap.size ≤ w1.heap.size := by
    rw [hW, hB, hA]
    exact ⟨Go.Joins.below_alloc3 _ _ _ _, cell_keep (Go.Joins.below_alloc2 _ _ _) (by simp), cell_keep (Go.Joins.below_alloc2 _ _ _) (by simp), cell_keep (Go.Joins.below_alloc2 _ _ _) (by simp), cell_keep (below1 _ _) (by simp), cell_keep (below1 _ _) (by simp), cell_keep (below1 _ _) (by simp), by simp <;> omega⟩
  have kT : w1.heap[NT]? = some (Obj.cells #[.int .i64 0, .int .i64 0, .slice none 0 0] 44) := by rw [hW]; exact FNew.heap_top (by rw [hT, hB, hA]; simp)
  have HNT : Hid (w.heap.size ≤ NT) := by simp only [Hid]; omega
  simp only [← hW, ← hA, ← hB, ← hT]
  clear hW hA hB hT
  go_at_call 67
  refine (Two.impl (H1.out.keep st.1 (Nat.le_refl _))).mono ?_
  rw [HP.out]
  rintro e w2 ⟨rfl, bel⟩
  replace st := next6_0 bel st
  replace kT := heap_keep bel kT
  clear bel
  go_wp2_with fail
  go_at_call 67
  refine (Two.impl (H2.out.keep st.1 (Nat.le_refl _))).mono ?_
  rw [HQ.out]
  rintro e w3 ⟨rfl, bel⟩
  replace st := next6_0 bel st
  replace kT := heap_keep bel kT
  clear bel
  have HB := hid st.1
  have y0 : w3.cell? ⟨NT, 0, none⟩ = some (.int .i64 0) := Go.Joins.cell_of_block kT 0
  have y1 : w3.cell? ⟨NT, 1, none⟩ = some (.int .i64 0) := Go.Joins.cell_of_block kT 1
  have y2 : w3.cell? ⟨NT, 2, none⟩ = some (.slice none 0 0) := Go.Joins.cell_of_block kT 2
  have g0 : w3.frozen? ⟨NT, 0, none⟩ = false := Go.Joins.unfrozen_of_block kT 0
  have g1 : w3.frozen? ⟨NT, 1, none⟩ = false := Go.Joins.unfrozen_of_block kT 1
  have g2 : w3.frozen? ⟨NT, 2, none⟩ = false := Go.Joins.unfrozen_of_block kT 2
  have HKx := hid kT
  clear kT
  go_wp2
  obtain ⟨W5, hW⟩ : ∃ W5, W5 = (((w3.setCell ⟨NT, 0, none⟩ (.int .i64 0)).setCell ⟨NT, 1, none⟩ (.int .i64 0)).setCell ⟨NT, 2, none⟩ (.slice none 0 0)) := ⟨_, rfl⟩
  have q0 := (Go.Joins.block_setCell (i := 2) (Go.Joins.block_setCell (i := 1) (Go.Joins.block_setCell (i := 0) HKx.out (.int .i64 0)) (.int .i64 0)) (.slice none 0 0))
  rw [← hW] at q0
  have z0 : W5.cell? ⟨NT, 0, none⟩ = some (.int .i64 0) := Go.Joins.cell_of_block q0 0
  have z1 : W5.cell? ⟨NT, 1, none⟩ = some (.int .i64 0) := Go.Joins.cell_of_block q0 1
  have z2 : W5.cell? ⟨NT, 2, none⟩ = some (.slice none 0 0) := Go.Joins.cell_of_block q0 2
  have B5 : Below w.heap.size w W5 := by
    have h1 := HNT.out
    rw [hW]
    exact ((HB.out.setCell (by simp; omega) _).setCell (by simp; omega) _).setCell (by simp; omega) _
  simp only [← hW]
  clear hW q0
  simp [bodyPost, results, Try.results29, go_sem, z0, z1, z2]
  exact B5

set_option maxHeartbeats 4000000 in
set_option maxRecDepth 8000 in
theorem specNo3 {w : World} {s r s2 r2 pl : Int} {b1 b2 : Nat} {v1 v2 : Value} {xs ys : List Int} (h1 : Rd w b1 v1 xs) (h2 : Rd w b2 v2 ys) (hp : twoB s r xs = true) (hq : twoB s2 r2 ys = true) (hr : ¬ r = r2) :
    Calls Try.prog 27 #[ruleV s r v1, ruleV s2 r2 v2, .int .i64 pl] w fun e w' => e = .returned (.tuple #[ruleV 0 0 (.slice none 0 0), .bool false]) ∧ Below w.heap.size w w' := by
  have HP := hid hp
  clear hp
  have HQ := hid hq
  clear hq
  have hne : (r == r2) = false := by simpa using hr
  have hne2 : (r != r2) = true := by simpa using hr
  have hne3 : ¬ r = r2 := hr
  clear hr
  have H1 := hid h1
  have H2 := hid h2
  obtain ⟨ao1, c1, rfl, hc1, hm1, _⟩ := h1
  obtain ⟨ao2, c2, rfl, hc2, hm2, _⟩ := h2
  have hm1' : xs.length ≤ c1 ∧ c1 ≤ 9223372036854775807 := by unfold maxLen at hm1; omega
  clear hc1 hm1 hc2 hm2
  go_enter Try.func27, Try.ntmps27
  go_wp2_with fail
  obtain ⟨w1, hW⟩ : ∃ w1, w1 = ((w.alloc (Obj.cells #[.int .i64 s, .int .i64 r, .slice ao1 xs.length c1] 44)).alloc (Obj.cells #[.int .i64 s2, .int .i64 r2, .slice ao2 ys.length c2] 44)).alloc (Obj.cells #[.int .i64 0, .int .i64 0, .slice none 0 0] 44) := ⟨_, rfl⟩
  obtain ⟨NA, hA⟩ : ∃ NA, NA = w.heap.size := ⟨_, rfl⟩
  obtain ⟨NB, hB⟩ : ∃ NB, NB = NA + 1 := ⟨_, rfl⟩
  obtain ⟨NT, hT⟩ : ∃ NT, NT = NB + 1 := ⟨_, rfl⟩
  have st : Below w.heap.size w w1 ∧ w1.cell? ⟨NA, 0, none⟩ = some (.int .i64 s) ∧ w1.cell? ⟨NA, 1, none⟩ = some (.int .i64 r) ∧ w1.cell? ⟨NA, 2, none⟩ = some (.slice ao1 xs.length c1) ∧ w1.cell? ⟨NB, 0, none⟩ = some (.int .i64 s2) ∧ w1.cell? ⟨NB, 1, none⟩ = some (.int .i64 r2) ∧ w1.cell? ⟨NB, 2, none⟩ = some (.slice ao2 ys.length c2) ∧ w.heap.size ≤ w1.heap.size := by
    rw [hW, hB, hA]
    exact ⟨Go.Joins.below_alloc3 _ _ _ _, cell_keep (Go.Joins.below_alloc2 _ _ _) (by simp), cell_keep (Go.Joins.below_alloc2 _ _ _) (by simp), cell_keep (Go.Joins.below_alloc2 _ _ _) (by simp), cell_keep (below1 _ _) (by simp), cell_keep (below1 _ _) (by simp), cell_keep (below1 _ _) (by simp), by simp <;> omega⟩
  have kT : w1.heap[NT]? = some (Obj.cells #[.int .i64 0, .int .i64 0, .slice none 0 0] 44) := by rw [hW]; exact FNew.heap_top (by rw [hT, hB, hA]; simp)
  have HNT : Hid (w.heap.size ≤ NT) := by simp only [Hid]; omega
  simp only [← hW, ← hA, ← hB, ← hT]
  clear hW hA hB hT
  go_at_call 65
  refine (Two.spec (H1.out.keep st.1 (Nat.le_refl _)) st.2.1 st.2.2.1 st.2.2.2.1).mono ?_
  rw [HP.out]
  rintro e w2 ⟨rfl, hm2⟩
  have bel := Two.below_m hm2
  clear hm2
  replace st := next6_0 bel st
  replace kT := heap_keep bel kT
  clear bel
  go_wp2_with fail
  go_at_call 65
  refine (Two.spec (H2.out.keep st.1 (Nat.le_refl _)) st.2.2.2.2.1 st.2.2.2.2.2.1 st.2.2.2.2.2.2.1).mono ?_
  rw [HQ.out]
  rintro e w3 ⟨rfl, hm2⟩
  have bel := Two.below_m hm2
  clear hm2
  replace st := next6_0 bel st
  replace kT := heap_keep bel kT
  clear bel
  have f0 := st.2.1
  have f1 := st.2.2.1
  have f2 := st.2.2.2.1
  have f3 := st.2.2.2.2.1
  have f4 := st.2.2.2.2.2.1
  have f5 := st.2.2.2.2.2.2.1
  have HB := hid st.1
  have y0 : w3.cell? ⟨NT, 0, none⟩ = some (.int .i64 0) := Go.Joins.cell_of_block kT 0
  have y1 : w3.cell? ⟨NT, 1, none⟩ = some (.int .i64 0) := Go.Joins.cell_of_block kT 1
  have y2 : w3.cell? ⟨NT, 2, none⟩ = some (.slice none 0 0) := Go.Joins.cell_of_block kT 2
  have g0 : w3.frozen? ⟨NT, 0, none⟩ = false := Go.Joins.unfrozen_of_block kT 0
  have g1 : w3.frozen? ⟨NT, 1, none⟩ = false := Go.Joins.unfrozen_of_block kT 1
  have g2 : w3.frozen? ⟨NT, 2, none⟩ = false := Go.Joins.unfrozen_of_block kT 2
  have HKx := hid kT
  clear kT
  go_wp2
  obtain ⟨W5, hW⟩ : ∃ W5, W5 = (((w3.setCell ⟨NT, 0, none⟩ (.int .i64 0)).setCell ⟨NT, 1, none⟩ (.int .i64 0)).setCell ⟨NT, 2, none⟩ (.slice none 0 0)) := ⟨_, rfl⟩
  have q0 := (Go.Joins.block_setCell (i := 2) (Go.Joins.block_setCell (i := 1) (Go.Joins.block_setCell (i := 0) HKx.out (.int .i64 0)) (.int .i64 0)) (.slice none 0 0))
  rw [← hW] at q0
  have z0 : W5.cell? ⟨NT, 0, none⟩ = some (.int .i64 0) := Go.Joins.cell_of_block q0 0
  have z1 : W5.cell? ⟨NT, 1, none⟩ = some (.int .i64 0) := Go.Joins.cell_of_block q0 1
  have z2 : W5.cell? ⟨NT, 2, none⟩ = some (.slice none 0 0) := Go.Joins.cell_of_block q0 2
  have B5 : Below w.heap.size w W5 := by
    have h1 := HNT.out
    rw [hW]
    exact ((HB.out.setCell (by simp; omega) _).setCell (by simp; omega) _).setCell (by simp; omega) _
  simp only [← hW]
  clear hW q0
  simp [bodyPost, results, Try.results27, go_sem, z0, z1, z2]
  exact B5

set_option maxHeartbeats 4000000 in
set_option maxRecDepth 8000 in
theorem implNo3 {w : World} {s r s2 r2 pl : Int} {b1 b2 : Nat} {v1 v2 : Value} {xs ys : List Int} (h1 : Rd w b1 v1 xs) (h2 : Rd w b2 v2 ys) (hp : twoB s r xs = true) (hq : twoB s2 r2 ys = true) (hr : ¬ r = r2) :
    Calls Try.prog 29 #[ruleV s r v1, ruleV s2 r2 v2, .int .i64 pl] w fun e w' => e = .returned (.tuple #[ruleV 0 0 (.slice none 0 0), .bool false]) ∧ Below w.heap.size w w' := by
  have HP := hid hp
  clear hp
  have HQ := hid hq
  clear hq
  have hne : (r == r2) = false := by simpa using hr
  have hne2 : (r != r2) = true := by simpa using hr
  have hne3 : ¬ r = r2 := hr
  clear hr
  have H1 := hid h1
  have H2 := hid h2
  obtain ⟨ao1, c1, rfl, hc1, hm1, _⟩ := h1
  obtain ⟨ao2, c2, rfl, hc2, hm2, _⟩ := h2
  have hm1' : xs.length ≤ c1 ∧ c1 ≤ 9223372036854775807 := by unfold maxLen at hm1; omega
  clear hc1 hm1 hc2 hm2
  go_enter Try.func29, Try.ntmps29
  go_wp2_with fail
  obtain ⟨w1, hW⟩ : ∃ w1, w1 = ((w.alloc (Obj.cells #[.int .i64 s, .int .i64 r, .slice ao1 xs.length c1] 44)).alloc (Obj.cells #[.int .i64 s2, .int .i64 r2, .slice ao2 ys.length c2] 44)).alloc (Obj.cells #[.int .i64 0, .int .i64 0, .slice none 0 0] 44) := ⟨_, rfl⟩
  obtain ⟨NA, hA⟩ : ∃ NA, NA = w.heap.size := ⟨_, rfl⟩
  obtain ⟨NB, hB⟩ : ∃ NB, NB = NA + 1 := ⟨_, rfl⟩
  obtain ⟨NT, hT⟩ : ∃ NT, NT = NB + 1 := ⟨_, rfl⟩
  have st : Below w.heap.size w w1 ∧ w1.cell? ⟨NA, 0, none⟩ = some (.int .i64 s) ∧ w1.cell? ⟨NA, 1, none⟩ = some (.int .i64 r) ∧ w1.cell? ⟨NA, 2, none⟩ = some (.slice ao1 xs.length c1) ∧ w1.cell? ⟨NB, 0, none⟩ = some (.int .i64 s2) ∧ w1.cell? ⟨NB, 1, none⟩ = some (.int .i64 r2) ∧ w1.cell? ⟨NB, 2, none⟩ = some (.slice ao2 ys.length c2) ∧ w.heap.size ≤ w1.heap.size := by
    rw [hW, hB, hA]
    exact ⟨Go.Joins.below_alloc3 _ _ _ _, cell_keep (Go.Joins.below_alloc2 _ _ _) (by simp), cell_keep (Go.Joins.below_alloc2 _ _ _) (by simp), cell_keep (Go.Joins.below_alloc2 _ _ _) (by simp), cell_keep (below1 _ _) (by simp), cell_keep (below1 _ _) (by simp), cell_keep (below1 _ _) (by simp), by simp <;> omega⟩
  have kT : w1.heap[NT]? = some (Obj.cells #[.int .i64 0, .int .i64 0, .slice none 0 0] 44) := by rw [hW]; exact FNew.heap_top (by rw [hT, hB, hA]; simp)
  have HNT : Hid (w.heap.size ≤ NT) := by simp only [Hid]; omega
  simp only [← hW, ← hA, ← hB, ← hT]
  clear hW hA hB hT
  go_at_call 67
  refine (Two.impl (H1.out.keep st.1 (Nat.le_refl _))).mono ?_
  rw [HP.out]
  rintro e w2 ⟨rfl, bel⟩
  replace st := next6_0 bel st
  replace kT := heap_keep bel kT
  clear bel
  go_wp2_with fail
  go_at_call 67
  refine (Two.impl (H2.out.keep st.1 (Nat.le_refl _))).mono ?_
  rw [HQ.out]
  rintro e w3 ⟨rfl, bel⟩
  replace st := next6_0 bel st
  replace kT := heap_keep bel kT
  clear bel
  have f0 := st.2.1
  have f1 := st.2.2.1
  have f2 := st.2.2.2.1
  have f3 := st.2.2.2.2.1
  have f4 := st.2.2.2.2.2.1
  have f5 := st.2.2.2.2.2.2.1
  have HB := hid st.1
  have y0 : w3.cell? ⟨NT, 0, none⟩ = some (.int .i64 0) := Go.Joins.cell_of_block kT 0
  have y1 : w3.cell? ⟨NT, 1, none⟩ = some (.int .i64 0) := Go.Joins.cell_of_block kT 1
  have y2 : w3.cell? ⟨NT, 2, none⟩ = some (.slice none 0 0) := Go.Joins.cell_of_block kT 2
  have g0 : w3.frozen? ⟨NT, 0, none⟩ = false := Go.Joins.unfrozen_of_block kT 0
  have g1 : w3.frozen? ⟨NT, 1, none⟩ = false := Go.Joins.unfrozen_of_block kT 1
  have g2 : w3.frozen? ⟨NT, 2, none⟩ = false := Go.Joins.unfrozen_of_block kT 2
  have HKx := hid kT
  clear kT
  go_wp2
  obtain ⟨W5, hW⟩ : ∃ W5, W5 = (((w3.setCell ⟨NT, 0, none⟩ (.int .i64 0)).setCell ⟨NT, 1, none⟩ (.int .i64 0)).setCell ⟨NT, 2, none⟩ (.slice none 0 0)) := ⟨_, rfl⟩
  have q0 := (Go.Joins.block_setCell (i := 2) (Go.Joins.block_setCell (i := 1) (Go.Joins.block_setCell (i := 0) HKx.out (.int .i64 0)) (.int .i64 0)) (.slice none 0 0))
  rw [← hW] at q0
  have z0 : W5.cell? ⟨NT, 0, none⟩ = some (.int .i64 0) := Go.Joins.cell_of_block q0 0
  have z1 : W5.cell? ⟨NT, 1, none⟩ = some (.int .i64 0) := Go.Joins.cell_of_block q0 1
  have z2 : W5.cell? ⟨NT, 2, none⟩ = some (.slice none 0 0) := Go.Joins.cell_of_block q0 2
  have B5 : Below w.heap.size w W5 := by
    have h1 := HNT.out
    rw [hW]
    exact ((HB.out.setCell (by simp; omega) _).setCell (by simp; omega) _).setCell (by simp; omega) _
  simp only [← hW]
  clear hW q0
  simp [bodyPost, results, Try.results29, go_sem, z0, z1, z2]
  exact B5

set_option maxHeartbeats 4000000 in
set_option maxRecDepth 8000 in
theorem specNo4 {w : World} {s r s2 r2 pl : Int} {b1 b2 : Nat} {v1 v2 : Value} {xs ys : List Int} (h1 : Rd w b1 v1 xs) (h2 : Rd w b2 v2 ys) (hp : twoB s r xs = true) (hq : twoB s2 r2 ys = true) (hr : r = r2) (hl : ¬ (0 ≤ pl ∧ pl ≤ (xs.length : Int))) :
    Calls Try.prog 27 #[ruleV s r v1, ruleV s2 r2 v2, .int .i64 pl] w fun e w' => e = .returned (.tuple #[ruleV 0 0 (.slice none 0 0), .bool false]) ∧ Below w.heap.size w w' := by
  have HP := hid hp
  clear hp
  have HQ := hid hq
  clear hq
  have hne : (r == r2) = true := by simpa using hr
  have hne2 : (r != r2) = false := by simpa using hr
  have HL : Hid (decide (0 ≤ pl ∧ pl ≤ (xs.length : Int)) = false) := decide_eq_false hl
  clear hl hr
  have H1 := hid h1
  have H2 := hid h2
  obtain ⟨ao1, c1, rfl, hc1, hm1, _⟩ := h1
  obtain ⟨ao2, c2, rfl, hc2, hm2, _⟩ := h2
  have hm1' : xs.length ≤ c1 ∧ c1 ≤ 9223372036854775807 := by unfold maxLen at hm1; omega
  clear hc1 hm1 hc2 hm2
  go_enter Try.func27, Try.ntmps27
  go_wp2_with fail
  obtain ⟨w1, hW⟩ : ∃ w1, w1 = ((w.alloc (Obj.cells #[.int .i64 s, .int .i64 r, .slice ao1 xs.length c1] 44)).alloc (Obj.cells #[.int .i64 s2, .int .i64 r2, .slice ao2 ys.length c2] 44)).alloc (Obj.cells #[.int .i64 0, .int .i64 0, .slice none 0 0] 44) := ⟨_, rfl⟩
  obtain ⟨NA, hA⟩ : ∃ NA, NA = w.heap.size := ⟨_, rfl⟩
  obtain ⟨NB, hB⟩ : ∃ NB, NB = NA + 1 := ⟨_, rfl⟩
  obtain ⟨NT, hT⟩ : ∃ NT, NT = NB + 1 := ⟨_, rfl⟩
  have st : Below w.heap.size w w1 ∧ w1.cell? ⟨NA, 0, none⟩ = some (.int .i64 s) ∧ w1.cell? ⟨NA, 1, none⟩ = some (.int .i64 r) ∧ w1.cell? ⟨NA, 2, none⟩ = some (.slice ao1 xs.length c1) ∧ w1.cell? ⟨NB, 0, none⟩ = some (.int .i64 s2) ∧ w1.cell? ⟨NB, 1, none⟩ = some (.int .i64 r2) ∧ w1.cell? ⟨NB, 2, none⟩ = some (.slice ao2 ys.length c2) ∧ w.heap.size ≤ w1.heap.size := by
    rw [hW, hB, hA]
    exact ⟨Go.Joins.below_alloc3 _ _ _ _, cell_keep (Go.Joins.below_alloc2 _ _ _) (by simp), cell_keep (Go.Joins.below_alloc2 _ _ _) (by simp), cell_keep (Go.Joins.below_alloc2 _ _ _) (by simp), cell_keep (below1 _ _) (by simp), cell_keep (below1 _ _) (by simp), cell_keep (below1 _ _) (by simp), by simp <;> omega⟩
  have kT : w1.heap[NT]? = some (Obj.cells #[.int .i64 0, .int .i64 0, .slice none 0 0] 44) := by rw [hW]; exact FNew.heap_top (by rw [hT, hB, hA]; simp)
  have HNT : Hid (w.heap.size ≤ NT) := by simp only [Hid]; omega
  simp only [← hW, ← hA, ← hB, ← hT]
  clear hW hA hB hT
  go_at_call 65
  refine (Two.spec (H1.out.keep st.1 (Nat.le_refl _)) st.2.1 st.2.2.1 st.2.2.2.1).mono ?_
  rw [HP.out]
  rintro e w2 ⟨rfl, hm2⟩
  have bel := Two.below_m hm2
  clear hm2
  replace st := next6_0 bel st
  replace kT := heap_keep bel kT
  clear bel
  go_wp2_with fail
  go_at_call 65
  refine (Two.spec (H2.out.keep st.1 (Nat.le_refl _)) st.2.2.2.2.1 st.2.2.2.2.2.1 st.2.2.2.2.2.2.1).mono ?_
  rw [HQ.out]
  rintro e w3 ⟨rfl, hm2⟩
  have bel := Two.below_m hm2
  clear hm2
  replace st := next6_0 bel st
  replace kT := heap_keep bel kT
  clear bel
  have f0 := st.2.1
  have f1 := st.2.2.1
  have f2 := st.2.2.2.1
  have f3 := st.2.2.2.2.1
  have f4 := st.2.2.2.2.2.1
  have f5 := st.2.2.2.2.2.2.1
  go_wp2_with fail
  go_at_call 55
  refine (inB (lo := 0) (hi := (xs.length : Int))).mono ?_
  rw [HL.out]
  rintro e w4 ⟨rfl, rfl⟩
  have HB := hid st.1
  have y0 : w3.cell? ⟨NT, 0, none⟩ = some (.int .i64 0) := Go.Joins.cell_of_block kT 0
  have y1 : w3.cell? ⟨NT, 1, none⟩ = some (.int .i64 0) := Go.Joins.cell_of_block kT 1
  have y2 : w3.cell? ⟨NT, 2, none⟩ = some (.slice none 0 0) := Go.Joins.cell_of_block kT 2
  have g0 : w3.frozen? ⟨NT, 0, none⟩ = false := Go.Joins.unfrozen_of_block kT 0
  have g1 : w3.frozen? ⟨NT, 1, none⟩ = false := Go.Joins.unfrozen_of_block kT 1
  have g2 : w3.frozen? ⟨NT, 2, none⟩ = false := Go.Joins.unfrozen_of_block kT 2
  have HKx := hid kT
  clear kT
  go_wp2
  obtain ⟨W5, hW⟩ : ∃ W5, W5 = (((w3.setCell ⟨NT, 0, none⟩ (.int .i64 0)).setCell ⟨NT, 1, none⟩ (.int .i64 0)).setCell ⟨NT, 2, none⟩ (.slice none 0 0)) := ⟨_, rfl⟩
  have q0 := (Go.Joins.block_setCell (i := 2) (Go.Joins.block_setCell (i := 1) (Go.Joins.block_setCell (i := 0) HKx.out (.int .i64 0)) (.int .i64 0)) (.slice none 0 0))
  rw [← hW] at q0
  have z0 : W5.cell? ⟨NT, 0, none⟩ = some (.int .i64 0) := Go.Joins.cell_of_block q0 0
  have z1 : W5.cell? ⟨NT, 1, none⟩ = some (.int .i64 0) := Go.Joins.cell_of_block q0 1
  have z2 : W5.cell? ⟨NT, 2, none⟩ = some (.slice none 0 0) := Go.Joins.cell_of_block q0 2
  have B5 : Below w.heap.size w W5 := by
    have h1 := HNT.out
    rw [hW]
    exact ((HB.out.setCell (by simp; omega) _).setCell (by simp; omega) _).setCell (by simp; omega) _
  simp only [← hW]
  clear hW q0
  simp [bodyPost, results, Try.results27, go_sem, z0, z1, z2]
  exact B5

set_option maxHeartbeats 4000000 in
set_option maxRecDepth 8000 in
theorem implNo4 {w : World} {s r s2 r2 pl : Int} {b1 b2 : Nat} {v1 v2 : Value} {xs ys : List Int} (h1 : Rd w b1 v1 xs) (h2 : Rd w b2 v2 ys) (hp : twoB s r xs = true) (hq : twoB s2 r2 ys = true) (hr : r = r2) (hl : ¬ (0 ≤ pl ∧ pl ≤ (xs.length : Int))) :
    Calls Try.prog 29 #[ruleV s r v1, ruleV s2 r2 v2, .int .i64 pl] w fun e w' => e = .returned (.tuple #[ruleV 0 0 (.slice none 0 0), .bool false]) ∧ Below w.heap.size w w' := by
  have HP := hid hp
  clear hp
  have HQ := hid hq
  clear hq
  have hne : (r == r2) = true := by simpa using hr
  have hne2 : (r != r2) = false := by simpa using hr
  have HL : Hid (decide (0 ≤ pl ∧ pl ≤ (xs.length : Int)) = false) := decide_eq_false hl
  clear hl hr
  have H1 := hid h1
  have H2 := hid h2
  obtain ⟨ao1, c1, rfl, hc1, hm1, _⟩ := h1
  obtain ⟨ao2, c2, rfl, hc2, hm2, _⟩ := h2
  have hm1' : xs.length ≤ c1 ∧ c1 ≤ 9223372036854775807 := by unfold maxLen at hm1; omega
  clear hc1 hm1 hc2 hm2
  go_enter Try.func29, Try.ntmps29
  go_wp2_with fail
  obtain ⟨w1, hW⟩ : ∃ w1, w1 = ((w.alloc (Obj.cells #[.int .i64 s, .int .i64 r, .slice ao1 xs.length c1] 44)).alloc (Obj.cells #[.int .i64 s2, .int .i64 r2, .slice ao2 ys.length c2] 44)).alloc (Obj.cells #[.int .i64 0, .int .i64 0, .slice none 0 0] 44) := ⟨_, rfl⟩
  obtain ⟨NA, hA⟩ : ∃ NA, NA = w.heap.size := ⟨_, rfl⟩
  obtain ⟨NB, hB⟩ : ∃ NB, NB = NA + 1 := ⟨_, rfl⟩
  obtain ⟨NT, hT⟩ : ∃ NT, NT = NB + 1 := ⟨_, rfl⟩
  have st : Below w.heap.size w w1 ∧ w1.cell? ⟨NA, 0, none⟩ = some (.int .i64 s) ∧ w1.cell? ⟨NA, 1, none⟩ = some (.int .i64 r) ∧ w1.cell? ⟨NA, 2, none⟩ = some (.slice ao1 xs.length c1) ∧ w1.cell? ⟨NB, 0, none⟩ = some (.int .i64 s2) ∧ w1.cell? ⟨NB, 1, none⟩ = some (.int .i64 r2) ∧ w1.cell? ⟨NB, 2, none⟩ = some (.slice ao2 ys.length c2) ∧ w.heap.size ≤ w1.heap.size := by
    rw [hW, hB, hA]
    exact ⟨Go.Joins.below_alloc3 _ _ _ _, cell_keep (Go.Joins.below_alloc2 _ _ _) (by simp), cell_keep (Go.Joins.below_alloc2 _ _ _) (by simp), cell_keep (Go.Joins.below_alloc2 _ _ _) (by simp), cell_keep (below1 _ _) (by simp), cell_keep (below1 _ _) (by simp), cell_keep (below1 _ _) (by simp), by simp <;> omega⟩
  have kT : w1.heap[NT]? = some (Obj.cells #[.int .i64 0, .int .i64 0, .slice none 0 0] 44) := by rw [hW]; exact FNew.heap_top (by rw [hT, hB, hA]; simp)
  have HNT : Hid (w.heap.size ≤ NT) := by simp only [Hid]; omega
  simp only [← hW, ← hA, ← hB, ← hT]
  clear hW hA hB hT
  go_at_call 67
  refine (Two.impl (H1.out.keep st.1 (Nat.le_refl _))).mono ?_
  rw [HP.out]
  rintro e w2 ⟨rfl, bel⟩
  replace st := next6_0 bel st
  replace kT := heap_keep bel kT
  clear bel
  go_wp2_with fail
  go_at_call 67
  refine (Two.impl (H2.out.keep st.1 (Nat.le_refl _))).mono ?_
  rw [HQ.out]
  rintro e w3 ⟨rfl, bel⟩
  replace st := next6_0 bel st
  replace kT := heap_keep bel kT
  clear bel
  have f0 := st.2.1
  have f1 := st.2.2.1
  have f2 := st.2.2.2.1
  have f3 := st.2.2.2.2.1
  have f4 := st.2.2.2.2.2.1
  have f5 := st.2.2.2.2.2.2.1
  go_wp2_with fail
  go_at_call 58
  refine (isCountB (hi := (xs.length : Int))).mono ?_
  rw [HL.out]
  rintro e w4 ⟨rfl, rfl⟩
  have HB := hid st.1
  have y0 : w3.cell? ⟨NT, 0, none⟩ = some (.int .i64 0) := Go.Joins.cell_of_block kT 0
  have y1 : w3.cell? ⟨NT, 1, none⟩ = some (.int .i64 0) := Go.Joins.cell_of_block kT 1
  have y2 : w3.cell? ⟨NT, 2, none⟩ = some (.slice none 0 0) := Go.Joins.cell_of_block kT 2
  have g0 : w3.frozen? ⟨NT, 0, none⟩ = false := Go.Joins.unfrozen_of_block kT 0
  have g1 : w3.frozen? ⟨NT, 1, none⟩ = false := Go.Joins.unfrozen_of_block kT 1
  have g2 : w3.frozen? ⟨NT, 2, none⟩ = false := Go.Joins.unfrozen_of_block kT 2
  have HKx := hid kT
  clear kT
  go_wp2
  obtain ⟨W5, hW⟩ : ∃ W5, W5 = (((w3.setCell ⟨NT, 0, none⟩ (.int .i64 0)).setCell ⟨NT, 1, none⟩ (.int .i64 0)).setCell ⟨NT, 2, none⟩ (.slice none 0 0)) := ⟨_, rfl⟩
  have q0 := (Go.Joins.block_setCell (i := 2) (Go.Joins.block_setCell (i := 1) (Go.Joins.block_setCell (i := 0) HKx.out (.int .i64 0)) (.int .i64 0)) (.slice none 0 0))
  rw [← hW] at q0
  have z0 : W5.cell? ⟨NT, 0, none⟩ = some (.int .i64 0) := Go.Joins.cell_of_block q0 0
  have z1 : W5.cell? ⟨NT, 1, none⟩ = some (.int .i64 0) := Go.Joins.cell_of_block q0 1
  have z2 : W5.cell? ⟨NT, 2, none⟩ = some (.slice none 0 0) := Go.Joins.cell_of_block q0 2
  have B5 : Below w.heap.size w W5 := by
    have h1 := HNT.out
    rw [hW]
    exact ((HB.out.setCell (by simp; omega) _).setCell (by simp; omega) _).setCell (by simp; omega) _
  simp only [← hW]
  clear hW q0
  simp [bodyPost, results, Try.results29, go_sem, z0, z1, z2]
  exact B5

set_option maxHeartbeats 4000000 in
set_option maxRecDepth 8000 in
theorem specOk {w : World} {s r s2 r2 : Int} {n p : Nat} {b1 b2 : Nat} {v1 v2 : Value} {xs ys : List Int} (h1 : Rd w b1 v1 xs) (h2 : Rd w b2 v2 ys) (hp : twoB s r xs = true) (hq : twoB s2 r2 ys = true) (hr : r = r2) (hx : xs.length = n) (hpn : p ≤ n) :
    Calls Try.prog 27 #[ruleV s r v1, ruleV s2 r2 v2, .int .i64 p] w fun e w' => ∃ b' k, e = .returned (.tuple #[ruleV 2 r (.slice (some ⟨b', 0, none⟩) n k), .bool true]) ∧ Own 2 w' b' (.slice (some ⟨b', 0, none⟩) n k) (crossL xs ys p) ∧ w.heap.size ≤ b' ∧ Below w.heap.size w w' := by
  have HP := hid hp
  have HQ := hid hq
  have h1p := two_parts hp
  have h2p := two_parts hq
  have HS : Hid (s = 2 ∧ s2 = 2 ∧ r = r2) := ⟨h1p.1, h2p.1, hr⟩
  have HX : Hid (xs.length = n) := hx
  have HY : Hid (ys.length = n) := by simp only [Hid]; rw [h2p.2.2.2.1, ← hx, h1p.2.2.2.1, hr]
  have HN : Hid (1 ≤ n ∧ n ≤ 1000) := by simp only [Hid]; have := h1p.2.2.1; omega
  have hne : (r == r2) = true := by simpa using hr
  have hne2 : (r != r2) = false := by simpa using hr
  have HL : Hid (decide (0 ≤ (p : Int) ∧ (p : Int) ≤ (xs.length : Int)) = true) := decide_eq_true (by omega)
  have HPN := hid hpn
  clear hp hq hr hx hpn h1p h2p
  have H1 := hid h1
  have H2 := hid h2
  obtain ⟨ao1, c1, rfl, hc1, hm1, _⟩ := h1
  obtain ⟨ao2, c2, rfl, hc2, hm2, _⟩ := h2
  have hm1' : xs.length ≤ c1 ∧ c1 ≤ 9223372036854775807 := by unfold maxLen at hm1; omega
  clear hc1 hm1 hc2 hm2
  go_enter Try.func27, Try.ntmps27
  go_wp2_with fail
  obtain ⟨w1, hW⟩ : ∃ w1, w1 = ((w.alloc (Obj.cells #[.int .i64 s, .int .i64 r, .slice ao1 xs.length c1] 44)).alloc (Obj.cells #[.int .i64 s2, .int .i64 r2, .slice ao2 ys.length c2] 44)).alloc (Obj.cells #[.int .i64 0, .int .i64 0, .slice none 0 0] 44) := ⟨_, rfl⟩
  obtain ⟨NA, hA⟩ : ∃ NA, NA = w.heap.size := ⟨_, rfl⟩
  obtain ⟨NB, hB⟩ : ∃ NB, NB = NA + 1 := ⟨_, rfl⟩
  obtain ⟨NT, hT⟩ : ∃ NT, NT = NB + 1 := ⟨_, rfl⟩
  have st : Below w.heap.size w w1 ∧ w1.cell? ⟨NA, 0, none⟩ = some (.int .i64 s) ∧ w1.cell? ⟨NA, 1, none⟩ = some (.int .i64 r) ∧ w1.cell? ⟨NA, 2, none⟩ = some (.slice ao1 xs.length c1) ∧ w1.cell? ⟨NB, 0, none⟩ = some (.int .i64 s2) ∧ w1.cell? ⟨NB, 1, none⟩ = some (.int .i64 r2) ∧ w1.cell? ⟨NB, 2, none⟩ = some (.slice ao2 ys.length c2) ∧ w.heap.size ≤ w1.heap.size := by
    rw [hW, hB, hA]
    exact ⟨Go.Joins.below_alloc3 _ _ _ _, cell_keep (Go.Joins.below_alloc2 _ _ _) (by simp), cell_keep (Go.Joins.below_alloc2 _ _ _) (by simp), cell_keep (Go.Joins.below_alloc2 _ _ _) (by simp), cell_keep (below1 _ _) (by simp), cell_keep (below1 _ _) (by simp), cell_keep (below1 _ _) (by simp), by simp <;> omega⟩
  have kT : w1.heap[NT]? = some (Obj.cells #[.int .i64 0, .int .i64 0, .slice none 0 0] 44) := by rw [hW]; exact FNew.heap_top (by rw [hT, hB, hA]; simp)
  have HNT : Hid (w.heap.size ≤ NT) := by simp only [Hid]; omega
  simp only [← hW, ← hA, ← hB, ← hT]
  clear hW hA hB hT
  go_at_call 65
  refine (Two.spec (H1.out.keep st.1 (Nat.le_refl _)) st.2.1 st.2.2.1 st.2.2.2.1).mono ?_
  rw [HP.out]
  rintro e w2 ⟨rfl, hm2⟩
  have bel := Two.below_m hm2
  clear hm2
  replace st := next6_0 bel st
  replace kT := heap_keep bel kT
  clear bel
  go_wp2_with fail
  go_at_call 65
  refine (Two.spec (H2.out.keep st.1 (Nat.le_refl _)) st.2.2.2.2.1 st.2.2.2.2.2.1 st.2.2.2.2.2.2.1).mono ?_
  rw [HQ.out]
  rintro e w3 ⟨rfl, hm2⟩
  have bel := Two.below_m hm2
  clear hm2
  replace st := next6_0 bel st
  replace kT := heap_keep bel kT
  clear bel
  have f0 := st.2.1
  have f1 := st.2.2.1
  have f2 := st.2.2.2.1
  have f3 := st.2.2.2.2.1
  have f4 := st.2.2.2.2.2.1
  have f5 := st.2.2.2.2.2.2.1
  go_wp2_with fail
  go_at_call 55
  refine (inB (lo := 0) (hi := (xs.length : Int))).mono ?_
  rw [HL.out]
  rintro e w4 ⟨rfl, rfl⟩
  go_wp2_with fail
  go_at_call 66
  refine (l07Cross (n := n) st.2.2.2.1 st.2.2.2.2.1 st.2.2.2.2.2.1 st.2.2.2.2.2.2.1 (H1.out.keep st.1 (Nat.le_refl _)) (H2.out.keep st.1 (Nat.le_refl _)) HX.out HY.out HN.out HPN.out).mono ?_
  rintro e w5 ⟨b', k, rfl, ow, lo, bel⟩
  have HNB : Hid (NT ≠ b') := Nat.ne_of_lt (Nat.lt_of_lt_of_le (heap_lt kT) lo)
  have HLo : Hid (w.heap.size ≤ b') := Nat.le_trans st.1.size lo
  replace kT := heap_keep bel kT
  have HB := hid (st.1.trans (bel.mono st.1.size))
  have HO := hid ow
  clear bel ow lo st f0 f1 f2 f3 f4 f5
  have y0 : w5.cell? ⟨NT, 0, none⟩ = some (.int .i64 0) := Go.Joins.cell_of_block kT 0
  have y1 : w5.cell? ⟨NT, 1, none⟩ = some (.int .i64 0) := Go.Joins.cell_of_block kT 1
  have y2 : w5.cell? ⟨NT, 2, none⟩ = some (.slice none 0 0) := Go.Joins.cell_of_block kT 2
  have g0 : w5.frozen? ⟨NT, 0, none⟩ = false := Go.Joins.unfrozen_of_block kT 0
  have g1 : w5.frozen? ⟨NT, 1, none⟩ = false := Go.Joins.unfrozen_of_block kT 1
  have g2 : w5.frozen? ⟨NT, 2, none⟩ = false := Go.Joins.unfrozen_of_block kT 2
  have HKx := hid kT
  clear kT
  go_wp2
  obtain ⟨W5, hW⟩ : ∃ W5, W5 = (((w5.setCell ⟨NT, 0, none⟩ (.int .i64 s2)).setCell ⟨NT, 1, none⟩ (.int .i64 r2)).setCell ⟨NT, 2, none⟩ (.slice (some ⟨b', 0, none⟩) n k)) := ⟨_, rfl⟩
  have q0 := (Go.Joins.block_setCell (i := 2) (Go.Joins.block_setCell (i := 1) (Go.Joins.block_setCell (i := 0) HKx.out (.int .i64 s2)) (.int .i64 r2)) (.slice (some ⟨b', 0, none⟩) n k))
  rw [← hW] at q0
  have z0 : W5.cell? ⟨NT, 0, none⟩ = some (.int .i64 s2) := Go.Joins.cell_of_block q0 0
  have z1 : W5.cell? ⟨NT, 1, none⟩ = some (.int .i64 r2) := Go.Joins.cell_of_block q0 1
  have z2 : W5.cell? ⟨NT, 2, none⟩ = some (.slice (some ⟨b', 0, none⟩) n k) := Go.Joins.cell_of_block q0 2
  have O5 := (own_set (own_set (own_set HO.out ⟨NT, 0, none⟩ (.int .i64 s2) HNB.out) ⟨NT, 1, none⟩ (.int .i64 r2) HNB.out) ⟨NT, 2, none⟩ (.slice (some ⟨b', 0, none⟩) n k) HNB.out)
  rw [← hW] at O5
  have B5 : Below w.heap.size w W5 := by
    have h1 := HNT.out
    rw [hW]
    exact ((HB.out.setCell (by simp; omega) _).setCell (by simp; omega) _).setCell (by simp; omega) _
  simp only [← hW]
  clear hW q0
  simp [bodyPost, results, Try.results27, go_sem, z0, z1, z2]
  refine ⟨b', k, ?_, O5, HLo.out, B5⟩
  rw [HS.out.2.1, ← HS.out.2.2]
  simp

set_option maxHeartbeats 4000000 in
set_option maxRecDepth 8000 in
theorem implOk {w : World} {s r s2 r2 : Int} {n p : Nat} {b1 b2 : Nat} {v1 v2 : Value} {xs ys : List Int} (h1 : Rd w b1 v1 xs) (h2 : Rd w b2 v2 ys) (hp : twoB s r xs = true) (hq : twoB s2 r2 ys = true) (hr : r = r2) (hx : xs.length = n) (hpn : p ≤ n) :
    Calls Try.prog 29 #[ruleV s r v1, ruleV s2 r2 v2, .int .i64 p] w fun e w' => ∃ b' k, e = .returned (.tuple #[ruleV 2 r (.slice (some ⟨b', 0, none⟩) n k), .bool true]) ∧ Own 2 w' b' (.slice (some ⟨b', 0, none⟩) n k) (crossL xs ys p) ∧ w.heap.size ≤ b' ∧ Below w.heap.size w w' := by
  have HP := hid hp
  have HQ := hid hq
  have h1p := two_parts hp
  have h2p := two_parts hq
  have HS : Hid (s = 2 ∧ s2 = 2 ∧ r = r2) := ⟨h1p.1, h2p.1, hr⟩
  have HX : Hid (xs.length = n) := hx
  have HY : Hid (ys.length = n) := by simp only [Hid]; rw [h2p.2.2.2.1, ← hx, h1p.2.2.2.1, hr]
  have HN : Hid (1 ≤ n ∧ n ≤ 1000) := by simp only [Hid]; have := h1p.2.2.1; omega
  have hne : (r == r2) = true := by simpa using hr
  have hne2 : (r != r2) = false := by simpa using hr
  have HL : Hid (decide (0 ≤ (p : Int) ∧ (p : Int) ≤ (xs.length : Int)) = true) := decide_eq_true (by omega)
  have HPN := hid hpn
  clear hp hq hr hx hpn h1p h2p
  have H1 := hid h1
  have H2 := hid h2
  obtain ⟨ao1, c1, rfl, hc1, hm1, _⟩ := h1
  obtain ⟨ao2, c2, rfl, hc2, hm2, _⟩ := h2
  have hm1' : xs.length ≤ c1 ∧ c1 ≤ 9223372036854775807 := by unfold maxLen at hm1; omega
  clear hc1 hm1 hc2 hm2
  go_enter Try.func29, Try.ntmps29
  go_wp2_with fail
  obtain ⟨w1, hW⟩ : ∃ w1, w1 = ((w.alloc (Obj.cells #[.int .i64 s, .int .i64 r, .slice ao1 xs.length c1] 44)).alloc (Obj.cells #[.int .i64 s2, .int .i64 r2, .slice ao2 ys.length c2] 44)).alloc (Obj.cells #[.int .i64 0, .int .i64 0, .slice none 0 0] 44) := ⟨_, rfl⟩
  obtain ⟨NA, hA⟩ : ∃ NA, NA = w.heap.size := ⟨_, rfl⟩
  obtain ⟨NB, hB⟩ : ∃ NB, NB = NA + 1 := ⟨_, rfl⟩
  obtain ⟨NT, hT⟩ : ∃ NT, NT = NB + 1 := ⟨_, rfl⟩
  have st : Below w.heap.size w w1 ∧ w1.cell? ⟨NA, 0, none⟩ = some (.int .i64 s) ∧ w1.cell? ⟨NA, 1, none⟩ = some (.int .i64 r) ∧ w1.cell? ⟨NA, 2, none⟩ = some (.slice ao1 xs.length c1) ∧ w1.cell? ⟨NB, 0, none⟩ = some (.int .i64 s2) ∧ w1.cell? ⟨NB, 1, none⟩ = some (.int .i64 r2) ∧ w1.cell? ⟨NB, 2, none⟩ = some (.slice ao2 ys.length c2) ∧ w.heap.size ≤ w1.heap.size := by
    rw [hW, hB, hA]
    exact ⟨Go.Joins.below_alloc3 _ _ _ _, cell_keep (Go.Joins.below_alloc2 _ _ _) (by simp), cell_keep (Go.Joins.below_alloc2 _ _ _) (by simp), cell_keep (Go.Joins.below_alloc2 _ _ _) (by simp), cell_keep (below1 _ _) (by simp), cell_keep (below1 _ _) (by simp), cell_keep (below1 _ _) (by simp), by simp <;> omega⟩
  have kT : w1.heap[NT]? = some (Obj.cells #[.int .i64 0, .int .i64 0, .slice none 0 0] 44) := by rw [hW]; exact FNew.heap_top (by rw [hT, hB, hA]; simp)
  have HNT : Hid (w.heap.size ≤ NT) := by simp only [Hid]; omega
  simp only [← hW, ← hA, ← hB, ← hT]
  clear hW hA hB hT
  go_at_call 67
  refine (Two.impl (H1.out.keep st.1 (Nat.le_refl _))).mono ?_
  rw [HP.out]
  rintro e w2 ⟨rfl, bel⟩
  replace st := next6_0 bel st
  replace kT := heap_keep bel kT
  clear bel
  go_wp2_with fail
  go_at_call 67
  refine (Two.impl (H2.out.keep st.1 (Nat.le_refl _))).mono ?_
  rw [HQ.out]
  rintro e w3 ⟨rfl, bel⟩
  replace st := next6_0 bel st
  replace kT := heap_keep bel kT
  clear bel
  have f0 := st.2.1
  have f1 := st.2.2.1
  have f2 := st.2.2.2.1
  have f3 := st.2.2.2.2.1
  have f4 := st.2.2.2.2.2.1
  have f5 := st.2.2.2.2.2.2.1
  go_wp2_with fail
  go_at_call 58
  refine (isCountB (hi := (xs.length : Int))).mono ?_
  rw [HL.out]
  rintro e w4 ⟨rfl, rfl⟩
  go_wp2_with fail
  go_at_call 68
  refine (crossed (n := n) (H1.out.keep st.1 (Nat.le_refl _)) (H2.out.keep st.1 (Nat.le_refl _)) HX.out HY.out HN.out HPN.out).mono ?_
  rintro e w5 ⟨b', k, rfl, ow, lo, bel⟩
  have HNB : Hid (NT ≠ b') := Nat.ne_of_lt (Nat.lt_of_lt_of_le (heap_lt kT) lo)
  have HLo : Hid (w.heap.size ≤ b') := Nat.le_trans st.1.size lo
  replace kT := heap_keep bel kT
  have HB := hid (st.1.trans (bel.mono st.1.size))
  have HO := hid ow
  clear bel ow lo st f0 f1 f2 f3 f4 f5
  have y0 : w5.cell? ⟨NT, 0, none⟩ = some (.int .i64 0) := Go.Joins.cell_of_block kT 0
  have y1 : w5.cell? ⟨NT, 1, none⟩ = some (.int .i64 0) := Go.Joins.cell_of_block kT 1
  have y2 : w5.cell? ⟨NT, 2, none⟩ = some (.slice none 0 0) := Go.Joins.cell_of_block kT 2
  have g0 : w5.frozen? ⟨NT, 0, none⟩ = false := Go.Joins.unfrozen_of_block kT 0
  have g1 : w5.frozen? ⟨NT, 1, none⟩ = false := Go.Joins.unfrozen_of_block kT 1
  have g2 : w5.frozen? ⟨NT, 2, none⟩ = false := Go.Joins.unfrozen_of_block kT 2
  have HKx := hid kT
  clear kT
  go_wp2
  obtain ⟨W5, hW⟩ : ∃ W5, W5 = (((w5.setCell ⟨NT, 0, none⟩ (.int .i64 s)).setCell ⟨NT, 1, none⟩ (.int .i64 r)).setCell ⟨NT, 2, none⟩ (.slice (some ⟨b', 0, none⟩) n k)) := ⟨_, rfl⟩
  have q0 := (Go.Joins.block_setCell (i := 2) (Go.Joins.block_setCell (i := 1) (Go.Joins.block_setCell (i := 0) HKx.out (.int .i64 s)) (.int .i64 r)) (.slice (some ⟨b', 0, none⟩) n k))
  rw [← hW] at q0
  have z0 : W5.cell? ⟨NT, 0, none⟩ = some (.int .i64 s) := Go.Joins.cell_of_block q0 0
  have z1 : W5.cell? ⟨NT, 1, none⟩ = some (.int .i64 r) := Go.Joins.cell_of_block q0 1
  have z2 : W5.cell? ⟨NT, 2, none⟩ = some (.slice (some ⟨b', 0, none⟩) n k) := Go.Joins.cell_of_block q0 2
  have O5 := (own_set (own_set (own_set HO.out ⟨NT, 0, none⟩ (.int .i64 s) HNB.out) ⟨NT, 1, none⟩ (.int .i64 r) HNB.out) ⟨NT, 2, none⟩ (.slice (some ⟨b', 0, none⟩) n k) HNB.out)
  rw [← hW] at O5
  have B5 : Below w.heap.size w W5 := by
    have h1 := HNT.out
    rw [hW]
    exact ((HB.out.setCell (by simp; omega) _).setCell (by simp; omega) _).setCell (by simp; omega) _
  simp only [← hW]
  clear hW q0
  simp [bodyPost, results, Try.results29, go_sem, z0, z1, z2]
  refine ⟨b', k, ?_, O5, HLo.out, B5⟩
  rw [HS.out.1]
  simp

theorem agree (s r : Int) (xs : List Int) (s2 r2 : Int) (ys : List Int) (pl : Int) : ∃ (qs qr : Int) (rs : List Int) (ok : Bool), rs.length ≤ 1000000 ∧
    (∀ (w : World) (b1 : Nat) (v1 : Value) (b2 : Nat) (v2 : Value), Rd w b1 v1 xs → Rd w b2 v2 ys → Calls Try.prog 27 #[ruleV s r v1, ruleV s2 r2 v2, .int .i64 pl] w fun e w' => ∃ ao c b', e = .returned (.tuple #[ruleV qs qr (.slice ao rs.length c), .bool ok]) ∧ Own 2 w' b' (.slice ao rs.length c) rs ∧ w.heap.size ≤ b' ∧ Below w.heap.size w w') ∧
    (∀ (w : World) (b1 : Nat) (v1 : Value) (b2 : Nat) (v2 : Value), Rd w b1 v1 xs → Rd w b2 v2 ys → Calls Try.prog 29 #[ruleV s r v1, ruleV s2 r2 v2, .int .i64 pl] w fun e w' => ∃ ao c b', e = .returned (.tuple #[ruleV qs qr (.slice ao rs.length c), .bool ok]) ∧ Own 2 w' b' (.slice ao rs.length c) rs ∧ w.heap.size ≤ b' ∧ Below w.heap.size w w') := by
  have none_ : (∀ (w : World) (b1 : Nat) (v1 : Value) (b2 : Nat) (v2 : Value), Rd w b1 v1 xs → Rd w b2 v2 ys → Calls Try.prog 27 #[ruleV s r v1, ruleV s2 r2 v2, .int .i64 pl] w fun e w' => e = .returned (.tuple #[ruleV 0 0 (.slice none 0 0), .bool false]) ∧ Below w.heap.size w w') → (∀ (w : World) (b1 : Nat) (v1 : Value) (b2 : Nat) (v2 : Value), Rd w b1 v1 xs → Rd w b2 v2 ys → Calls Try.prog 29 #[ruleV s r v1, ruleV s2 r2 v2, .int .i64 pl] w fun e w' => e = .returned (.tuple #[ruleV 0 0 (.slice none 0 0), .bool false]) ∧ Below w.heap.size w w') → ∃ (qs qr : Int) (rs : List Int) (ok : Bool), rs.length ≤ 1000000 ∧
    (∀ (w : World) (b1 : Nat) (v1 : Value) (b2 : Nat) (v2 : Value), Rd w b1 v1 xs → Rd w b2 v2 ys → Calls Try.prog 27 #[ruleV s r v1, ruleV s2 r2 v2, .int .i64 pl] w fun e w' => ∃ ao c b', e = .returned (.tuple #[ruleV qs qr (.slice ao rs.length c), .bool ok]) ∧ Own 2 w' b' (.slice ao rs.length c) rs ∧ w.heap.size ≤ b' ∧ Below w.heap.size w w') ∧
    (∀ (w : World) (b1 : Nat) (v1 : Value) (b2 : Nat) (v2 : Value), Rd w b1 v1 xs → Rd w b2 v2 ys → Calls Try.prog 29 #[ruleV s r v1, ruleV s2 r2 v2, .int .i64 pl] w fun e w' => ∃ ao c b', e = .returned (.tuple #[ruleV qs qr (.slice ao rs.length c), .bool ok]) ∧ Own 2 w' b' (.slice ao rs.length c) rs ∧ w.heap.size ≤ b' ∧ Below w.heap.size w w') := by
    intro h1 h2
    refine ⟨0, 0, [], false, by simp, fun w b1 v1 b2 v2 k1 k2 => (h1 w b1 v1 b2 v2 k1 k2).mono ?_, fun w b1 v1 b2 v2 k1 k2 => (h2 w b1 v1 b2 v2 k1 k2).mono ?_⟩
    · rintro e w' ⟨rfl, bel⟩
      exact ⟨none, 0, w.heap.size, rfl, Own.nil _ _ _, Nat.le_refl _, bel⟩
    · rintro e w' ⟨rfl, bel⟩
      exact ⟨none, 0, w.heap.size, rfl, Own.nil _ _ _, Nat.le_refl _, bel⟩
  cases hp : twoB s r xs with
  | false => exact none_ (fun w b1 v1 b2 v2 k1 k2 => specNo1 k1 k2 hp) (fun w b1 v1 b2 v2 k1 k2 => implNo1 k1 k2 hp)
  | true =>
    cases hq : twoB s2 r2 ys with
    | false => exact none_ (fun w b1 v1 b2 v2 k1 k2 => specNo2 k1 k2 hp hq) (fun w b1 v1 b2 v2 k1 k2 => implNo2 k1 k2 hp hq)
    | true =>
      by_cases hr : r = r2
      · by_cases hl : 0 ≤ pl ∧ pl ≤ (xs.length : Int)
        · obtain ⟨p, rfl⟩ := Int.eq_ofNat_of_zero_le hl.1
          have hpn : p ≤ xs.length := by omega
          have h1p := two_parts hp
          have hlen : (crossL xs ys p).length = xs.length := cross_len rfl (by rw [(two_parts hq).2.2.2.1, h1p.2.2.2.1, hr]) hpn
          have h3 := h1p.2.2.1
          refine ⟨2, r, crossL xs ys p, true, by omega, fun w b1 v1 b2 v2 k1 k2 => (specOk k1 k2 hp hq hr rfl hpn).mono ?_, fun w b1 v1 b2 v2 k1 k2 => (implOk k1 k2 hp hq hr rfl hpn).mono ?_⟩
          · rintro e w' ⟨b', c, rfl, ow, lo, bel⟩
            exact ⟨some ⟨b', 0, none⟩, c, b', by rw [hlen], by rw [hlen]; exact ow, lo, bel⟩
          · rintro e w' ⟨b', c, rfl, ow, lo, bel⟩
            exact ⟨some ⟨b', 0, none⟩, c, b', by rw [hlen], by rw [hlen]; exact ow, lo, bel⟩
        · exact none_ (fun w b1 v1 b2 v2 k1 k2 => specNo4 k1 k2 hp hq hr hl) (fun w b1 v1 b2 v2 k1 k2 => implNo4 k1 k2 hp hq hr hl)
      · exact none_ (fun w b1 v1 b2 v2 k1 k2 => specNo3 k1 k2 hp hq hr) (fun w b1 v1 b2 v2 k1 k2 => implNo3 k1 k2 hp hq hr)


end Go.Proofs.Ythcbhbdgbiiagaa.CrsA
