/- InnerStep of both sides. -/
import Derived.Test.YtmbimekndhcgaaaIn
namespace Go.Proofs.Ytmbimekndhcgaaa.InA
open Go.RowKit Go.Proofs.Ytmbimekndhcgaaa.Rd Go.Proofs.Ytmbimekndhcgaaa.Help Go.Proofs.Ytmbimekndhcgaaa.Ring Go.Proofs.Ytmbimekndhcgaaa.Small Go.Proofs.Ytmbimekndhcgaaa.FVal Go.Proofs.Ytmbimekndhcgaaa.Keep Go.Proofs.Ytmbimekndhcgaaa.Rule Go.Proofs.Ytmbimekndhcgaaa.Grow Go.Proofs.Ytmbimekndhcgaaa.Arr Go.Proofs.Ytmbimekndhcgaaa.Lf Go.Proofs.Ytmbimekndhcgaaa.FCut Go.Proofs.Ytmbimekndhcgaaa.In Go.Proofs.Ytmbimekndhcgaaa.Sq
set_option linter.unusedVariables false
set_option linter.unusedSimpArgs false

set_option maxHeartbeats 4000000 in
theorem specNo1 {w : World} {s r : Int} {b1 b2 b : Nat} {v1 v2 v : Value} {xs ys zs : List Int} (h1 : Rd w b1 v1 xs) (h2 : Rd w b2 v2 ys) (h : Rd w b v zs) (hl : LVal.lifeB xs ys = false) :
    Calls Try.prog 27 #[lifeV v1 v2, ruleV s r v] w fun e w' => e = .returned (.tuple #[ruleV 0 0 (.slice none 0 0), .bool false]) ∧ Below w.heap.size w w' := by
  have HLf := hid hl
  have H1 := hid h1
  have H2 := hid h2
  have HH := hid h
  obtain ⟨ao, cap, rfl, hc, hm, _⟩ := h
  obtain ⟨ao1, cap1, rfl, hc1, hm1, _⟩ := h1
  obtain ⟨ao2, cap2, rfl, hc2, hm2, _⟩ := h2
  clear hc hm hc1 hm1 hc2 hm2
  clear hl
  go_enter Try.func27, Try.ntmps27
  go_wp2_with fail
  obtain ⟨w1, hW⟩ : ∃ w1, w1 = (((w.alloc (Obj.cells #[.slice ao1 xs.length cap1, .slice ao2 ys.length cap2] 43)).alloc (Obj.cells #[.int .i64 s, .int .i64 r, .slice ao zs.length cap] 26)).alloc (Obj.cells #[.int .i64 0, .int .i64 0, .slice none 0 0] 26)) := ⟨_, rfl⟩
  obtain ⟨LB, hL⟩ : ∃ LB, LB = w.heap.size := ⟨_, rfl⟩
  obtain ⟨N, hN⟩ : ∃ N, N = LB + 1 := ⟨_, rfl⟩
  obtain ⟨NT, hT⟩ : ∃ NT, NT = N + 1 := ⟨_, rfl⟩
  have st : Below w.heap.size w w1 ∧ w1.cell? ⟨LB, 0, none⟩ = some (.slice ao1 xs.length cap1) ∧ w1.cell? ⟨LB, 1, none⟩ = some (.slice ao2 ys.length cap2) ∧ w1.cell? ⟨N, 0, none⟩ = some (.int .i64 s) ∧ w1.cell? ⟨N, 1, none⟩ = some (.int .i64 r) ∧ w1.cell? ⟨N, 2, none⟩ = some (.slice ao zs.length cap) ∧ w.heap.size ≤ w1.heap.size := by
    rw [hW, hN, hL]
    exact ⟨Go.Joins.below_alloc3 _ _ _ _, cell_keep (Go.Joins.below_alloc2 _ _ _) (by simp), cell_keep (Go.Joins.below_alloc2 _ _ _) (by simp), cell_keep (below1 _ _) (by simp), cell_keep (below1 _ _) (by simp), cell_keep (below1 _ _) (by simp), by simp <;> omega⟩
  have kT : w1.heap[NT]? = some (Obj.cells #[.int .i64 0, .int .i64 0, .slice none 0 0] 26) := by rw [hW]; exact FNew.heap_top (by rw [hT, hN, hL]; simp)
  have HNT : Hid (w.heap.size ≤ NT) := by simp only [Hid]; omega
  simp only [← hW, ← hL, ← hN, ← hT]
  clear hW hL hN hT
  go_at_call 63
  refine (LVal.l04Life st.2.1 st.2.2.1 (H1.out.keep st.1 (Nat.le_refl _)) (H2.out.keep st.1 (Nat.le_refl _))).mono ?_
  rw [HLf.out]
  rintro e w2 ⟨rfl, hm2⟩
  have bel := Can.below_m hm2
  clear hm2
  replace st := next5_0 bel st
  replace kT := (bel.block NT (Array.getElem?_eq_some_iff.1 kT).1).trans kT
  clear bel
  have HB := hid st.1
  have y0 : w2.cell? ⟨NT, 0, none⟩ = some (.int .i64 0) := Go.Joins.cell_of_block kT 0
  have y1 : w2.cell? ⟨NT, 1, none⟩ = some (.int .i64 0) := Go.Joins.cell_of_block kT 1
  have y2 : w2.cell? ⟨NT, 2, none⟩ = some (.slice none 0 0) := Go.Joins.cell_of_block kT 2
  have g0 : w2.frozen? ⟨NT, 0, none⟩ = false := Go.Joins.unfrozen_of_block kT 0
  have g1 : w2.frozen? ⟨NT, 1, none⟩ = false := Go.Joins.unfrozen_of_block kT 1
  have g2 : w2.frozen? ⟨NT, 2, none⟩ = false := Go.Joins.unfrozen_of_block kT 2
  have HKx := hid kT
  clear kT
  go_wp2
  obtain ⟨W5, hW⟩ : ∃ W5, W5 = (((w2.setCell ⟨NT, 0, none⟩ (.int .i64 0)).setCell ⟨NT, 1, none⟩ (.int .i64 0)).setCell ⟨NT, 2, none⟩ (.slice none 0 0)) := ⟨_, rfl⟩
  have q0 := (Go.Joins.block_setCell (i := 2) (Go.Joins.block_setCell (i := 1) (Go.Joins.block_setCell (i := 0) HKx.out (.int .i64 0)) (.int .i64 0)) (.slice none 0 0))
  rw [← hW] at q0
  have z0 : W5.cell? ⟨NT, 0, none⟩ = some (.int .i64 0) := Go.Joins.cell_of_block q0 0
  have z1 : W5.cell? ⟨NT, 1, none⟩ = some (.int .i64 0) := Go.Joins.cell_of_block q0 1
  have z2 : W5.cell? ⟨NT, 2, none⟩ = some (.slice none 0 0) := Go.Joins.cell_of_block q0 2
  have B5 : Below w.heap.size w W5 := by
    have h1 := HNT.out
    rw [hW]
    exact ((HB.out.setCell (by simp; omega) _).setCell (by simp; omega) _).setCell (by simp; omega) _
  simp only [← hW]
  clear hW q0
  simp [bodyPost, results, Try.results27, go_sem, z0, z1, z2]
  exact B5

set_option maxHeartbeats 4000000 in
theorem specNo2 {w : World} {s r : Int} {b1 b2 b : Nat} {v1 v2 v : Value} {xs ys zs : List Int} (h1 : Rd w b1 v1 xs) (h2 : Rd w b2 v2 ys) (h : Rd w b v zs) (hl : LVal.lifeB xs ys = true) (hs : sqB s r zs = false) :
    Calls Try.prog 27 #[lifeV v1 v2, ruleV s r v] w fun e w' => e = .returned (.tuple #[ruleV 0 0 (.slice none 0 0), .bool false]) ∧ Below w.heap.size w w' := by
  have HLf := hid hl
  have HSq := hid hs
  have H1 := hid h1
  have H2 := hid h2
  have HH := hid h
  obtain ⟨ao, cap, rfl, hc, hm, _⟩ := h
  obtain ⟨ao1, cap1, rfl, hc1, hm1, _⟩ := h1
  obtain ⟨ao2, cap2, rfl, hc2, hm2, _⟩ := h2
  clear hc hm hc1 hm1 hc2 hm2
  clear hl hs
  go_enter Try.func27, Try.ntmps27
  go_wp2_with fail
  obtain ⟨w1, hW⟩ : ∃ w1, w1 = (((w.alloc (Obj.cells #[.slice ao1 xs.length cap1, .slice ao2 ys.length cap2] 43)).alloc (Obj.cells #[.int .i64 s, .int .i64 r, .slice ao zs.length cap] 26)).alloc (Obj.cells #[.int .i64 0, .int .i64 0, .slice none 0 0] 26)) := ⟨_, rfl⟩
  obtain ⟨LB, hL⟩ : ∃ LB, LB = w.heap.size := ⟨_, rfl⟩
  obtain ⟨N, hN⟩ : ∃ N, N = LB + 1 := ⟨_, rfl⟩
  obtain ⟨NT, hT⟩ : ∃ NT, NT = N + 1 := ⟨_, rfl⟩
  have st : Below w.heap.size w w1 ∧ w1.cell? ⟨LB, 0, none⟩ = some (.slice ao1 xs.length cap1) ∧ w1.cell? ⟨LB, 1, none⟩ = some (.slice ao2 ys.length cap2) ∧ w1.cell? ⟨N, 0, none⟩ = some (.int .i64 s) ∧ w1.cell? ⟨N, 1, none⟩ = some (.int .i64 r) ∧ w1.cell? ⟨N, 2, none⟩ = some (.slice ao zs.length cap) ∧ w.heap.size ≤ w1.heap.size := by
    rw [hW, hN, hL]
    exact ⟨Go.Joins.below_alloc3 _ _ _ _, cell_keep (Go.Joins.below_alloc2 _ _ _) (by simp), cell_keep (Go.Joins.below_alloc2 _ _ _) (by simp), cell_keep (below1 _ _) (by simp), cell_keep (below1 _ _) (by simp), cell_keep (below1 _ _) (by simp), by simp <;> omega⟩
  have kT : w1.heap[NT]? = some (Obj.cells #[.int .i64 0, .int .i64 0, .slice none 0 0] 26) := by rw [hW]; exact FNew.heap_top (by rw [hT, hN, hL]; simp)
  have HNT : Hid (w.heap.size ≤ NT) := by simp only [Hid]; omega
  simp only [← hW, ← hL, ← hN, ← hT]
  clear hW hL hN hT
  go_at_call 63
  refine (LVal.l04Life st.2.1 st.2.2.1 (H1.out.keep st.1 (Nat.le_refl _)) (H2.out.keep st.1 (Nat.le_refl _))).mono ?_
  rw [HLf.out]
  rintro e w2 ⟨rfl, hm2⟩
  have bel := Can.below_m hm2
  clear hm2
  replace st := next5_0 bel st
  replace kT := (bel.block NT (Array.getElem?_eq_some_iff.1 kT).1).trans kT
  clear bel
  go_wp2_with fail
  go_at_call 64
  refine (Sq.l05Square st.2.2.2.1 st.2.2.2.2.1 st.2.2.2.2.2.1 (HH.out.keep st.1 (Nat.le_refl _))).mono ?_
  rw [HSq.out]
  rintro e w3 ⟨rfl, bel⟩
  replace st := next5_0 bel st
  replace kT := (bel.block NT (Array.getElem?_eq_some_iff.1 kT).1).trans kT
  clear bel
  have HB := hid st.1
  have y0 : w3.cell? ⟨NT, 0, none⟩ = some (.int .i64 0) := Go.Joins.cell_of_block kT 0
  have y1 : w3.cell? ⟨NT, 1, none⟩ = some (.int .i64 0) := Go.Joins.cell_of_block kT 1
  have y2 : w3.cell? ⟨NT, 2, none⟩ = some (.slice none 0 0) := Go.Joins.cell_of_block kT 2
  have g0 : w3.frozen? ⟨NT, 0, none⟩ = false := Go.Joins.unfrozen_of_block kT 0
  have g1 : w3.frozen? ⟨NT, 1, none⟩ = false := Go.Joins.unfrozen_of_block kT 1
  have g2 : w3.frozen? ⟨NT, 2, none⟩ = false := Go.Joins.unfrozen_of_block kT 2
  have HKx := hid kT
  clear kT
  go_wp2
  obtain ⟨W5, hW⟩ : ∃ W5, W5 = (((w3.setCell ⟨NT, 0, none⟩ (.int .i64 0)).setCell ⟨NT, 1, none⟩ (.int .i64 0)).setCell ⟨NT, 2, none⟩ (.slice none 0 0)) := ⟨_, rfl⟩
  have q0 := (Go.Joins.block_setCell (i := 2) (Go.Joins.block_setCell (i := 1) (Go.Joins.block_setCell (i := 0) HKx.out (.int .i64 0)) (.int .i64 0)) (.slice none 0 0))
  rw [← hW] at q0
  have z0 : W5.cell? ⟨NT, 0, none⟩ = some (.int .i64 0) := Go.Joins.cell_of_block q0 0
  have z1 : W5.cell? ⟨NT, 1, none⟩ = some (.int .i64 0) := Go.Joins.cell_of_block q0 1
  have z2 : W5.cell? ⟨NT, 2, none⟩ = some (.slice none 0 0) := Go.Joins.cell_of_block q0 2
  have B5 : Below w.heap.size w W5 := by
    have h1 := HNT.out
    rw [hW]
    exact ((HB.out.setCell (by simp; omega) _).setCell (by simp; omega) _).setCell (by simp; omega) _
  simp only [← hW]
  clear hW q0
  simp [bodyPost, results, Try.results27, go_sem, z0, z1, z2]
  exact B5

set_option maxHeartbeats 4000000 in
theorem implNo1 {w : World} {s r : Int} {b1 b2 b : Nat} {v1 v2 v : Value} {xs ys zs : List Int} (h1 : Rd w b1 v1 xs) (h2 : Rd w b2 v2 ys) (h : Rd w b v zs) (hl : LVal.lifeB xs ys = false) :
    Calls Try.prog 29 #[lifeV v1 v2, ruleV s r v] w fun e w' => e = .returned (.tuple #[ruleV 0 0 (.slice none 0 0), .bool false]) ∧ Below w.heap.size w w' := by
  have HLf := hid hl
  have H1 := hid h1
  have H2 := hid h2
  have HH := hid h
  obtain ⟨ao, cap, rfl, hc, hm, _⟩ := h
  obtain ⟨ao1, cap1, rfl, hc1, hm1, _⟩ := h1
  obtain ⟨ao2, cap2, rfl, hc2, hm2, _⟩ := h2
  clear hc hm hc1 hm1 hc2 hm2
  clear hl
  go_enter Try.func29, Try.ntmps29
  go_wp2_with fail
  obtain ⟨w1, hW⟩ : ∃ w1, w1 = (((w.alloc (Obj.cells #[.slice ao1 xs.length cap1, .slice ao2 ys.length cap2] 43)).alloc (Obj.cells #[.int .i64 s, .int .i64 r, .slice ao zs.length cap] 26)).alloc (Obj.cells #[.int .i64 0, .int .i64 0, .slice none 0 0] 26)) := ⟨_, rfl⟩
  obtain ⟨LB, hL⟩ : ∃ LB, LB = w.heap.size := ⟨_, rfl⟩
  obtain ⟨N, hN⟩ : ∃ N, N = LB + 1 := ⟨_, rfl⟩
  obtain ⟨NT, hT⟩ : ∃ NT, NT = N + 1 := ⟨_, rfl⟩
  have st : Below w.heap.size w w1 ∧ w1.cell? ⟨LB, 0, none⟩ = some (.slice ao1 xs.length cap1) ∧ w1.cell? ⟨LB, 1, none⟩ = some (.slice ao2 ys.length cap2) ∧ w1.cell? ⟨N, 0, none⟩ = some (.int .i64 s) ∧ w1.cell? ⟨N, 1, none⟩ = some (.int .i64 r) ∧ w1.cell? ⟨N, 2, none⟩ = some (.slice ao zs.length cap) ∧ w.heap.size ≤ w1.heap.size := by
    rw [hW, hN, hL]
    exact ⟨Go.Joins.below_alloc3 _ _ _ _, cell_keep (Go.Joins.below_alloc2 _ _ _) (by simp), cell_keep (Go.Joins.below_alloc2 _ _ _) (by simp), cell_keep (below1 _ _) (by simp), cell_keep (below1 _ _) (by simp), cell_keep (below1 _ _) (by simp), by simp <;> omega⟩
  have kT : w1.heap[NT]? = some (Obj.cells #[.int .i64 0, .int .i64 0, .slice none 0 0] 26) := by rw [hW]; exact FNew.heap_top (by rw [hT, hN, hL]; simp)
  have HNT : Hid (w.heap.size ≤ NT) := by simp only [Hid]; omega
  simp only [← hW, ← hL, ← hN, ← hT]
  clear hW hL hN hT
  go_at_call 66
  refine (LVal.implValid (H1.out.keep st.1 (Nat.le_refl _)) (H2.out.keep st.1 (Nat.le_refl _))).mono ?_
  rw [HLf.out]
  rintro e w2 ⟨rfl, bel⟩
  replace st := next5_0 bel st
  replace kT := (bel.block NT (Array.getElem?_eq_some_iff.1 kT).1).trans kT
  clear bel
  have HB := hid st.1
  have y0 : w2.cell? ⟨NT, 0, none⟩ = some (.int .i64 0) := Go.Joins.cell_of_block kT 0
  have y1 : w2.cell? ⟨NT, 1, none⟩ = some (.int .i64 0) := Go.Joins.cell_of_block kT 1
  have y2 : w2.cell? ⟨NT, 2, none⟩ = some (.slice none 0 0) := Go.Joins.cell_of_block kT 2
  have g0 : w2.frozen? ⟨NT, 0, none⟩ = false := Go.Joins.unfrozen_of_block kT 0
  have g1 : w2.frozen? ⟨NT, 1, none⟩ = false := Go.Joins.unfrozen_of_block kT 1
  have g2 : w2.frozen? ⟨NT, 2, none⟩ = false := Go.Joins.unfrozen_of_block kT 2
  have HKx := hid kT
  clear kT
  go_wp2
  obtain ⟨W5, hW⟩ : ∃ W5, W5 = (((w2.setCell ⟨NT, 0, none⟩ (.int .i64 0)).setCell ⟨NT, 1, none⟩ (.int .i64 0)).setCell ⟨NT, 2, none⟩ (.slice none 0 0)) := ⟨_, rfl⟩
  have q0 := (Go.Joins.block_setCell (i := 2) (Go.Joins.block_setCell (i := 1) (Go.Joins.block_setCell (i := 0) HKx.out (.int .i64 0)) (.int .i64 0)) (.slice none 0 0))
  rw [← hW] at q0
  have z0 : W5.cell? ⟨NT, 0, none⟩ = some (.int .i64 0) := Go.Joins.cell_of_block q0 0
  have z1 : W5.cell? ⟨NT, 1, none⟩ = some (.int .i64 0) := Go.Joins.cell_of_block q0 1
  have z2 : W5.cell? ⟨NT, 2, none⟩ = some (.slice none 0 0) := Go.Joins.cell_of_block q0 2
  have B5 : Below w.heap.size w W5 := by
    have h1 := HNT.out
    rw [hW]
    exact ((HB.out.setCell (by simp; omega) _).setCell (by simp; omega) _).setCell (by simp; omega) _
  simp only [← hW]
  clear hW q0
  simp [bodyPost, results, Try.results29, go_sem, z0, z1, z2]
  exact B5

set_option maxHeartbeats 4000000 in
theorem implNo2 {w : World} {s r : Int} {b1 b2 b : Nat} {v1 v2 v : Value} {xs ys zs : List Int} (h1 : Rd w b1 v1 xs) (h2 : Rd w b2 v2 ys) (h : Rd w b v zs) (hl : LVal.lifeB xs ys = true) (hs : sqB s r zs = false) :
    Calls Try.prog 29 #[lifeV v1 v2, ruleV s r v] w fun e w' => e = .returned (.tuple #[ruleV 0 0 (.slice none 0 0), .bool false]) ∧ Below w.heap.size w w' := by
  have HLf := hid hl
  have HSq := hid hs
  have H1 := hid h1
  have H2 := hid h2
  have HH := hid h
  obtain ⟨ao, cap, rfl, hc, hm, _⟩ := h
  obtain ⟨ao1, cap1, rfl, hc1, hm1, _⟩ := h1
  obtain ⟨ao2, cap2, rfl, hc2, hm2, _⟩ := h2
  clear hc hm hc1 hm1 hc2 hm2
  clear hl hs
  go_enter Try.func29, Try.ntmps29
  go_wp2_with fail
  obtain ⟨w1, hW⟩ : ∃ w1, w1 = (((w.alloc (Obj.cells #[.slice ao1 xs.length cap1, .slice ao2 ys.length cap2] 43)).alloc (Obj.cells #[.int .i64 s, .int .i64 r, .slice ao zs.length cap] 26)).alloc (Obj.cells #[.int .i64 0, .int .i64 0, .slice none 0 0] 26)) := ⟨_, rfl⟩
  obtain ⟨LB, hL⟩ : ∃ LB, LB = w.heap.size := ⟨_, rfl⟩
  obtain ⟨N, hN⟩ : ∃ N, N = LB + 1 := ⟨_, rfl⟩
  obtain ⟨NT, hT⟩ : ∃ NT, NT = N + 1 := ⟨_, rfl⟩
  have st : Below w.heap.size w w1 ∧ w1.cell? ⟨LB, 0, none⟩ = some (.slice ao1 xs.length cap1) ∧ w1.cell? ⟨LB, 1, none⟩ = some (.slice ao2 ys.length cap2) ∧ w1.cell? ⟨N, 0, none⟩ = some (.int .i64 s) ∧ w1.cell? ⟨N, 1, none⟩ = some (.int .i64 r) ∧ w1.cell? ⟨N, 2, none⟩ = some (.slice ao zs.length cap) ∧ w.heap.size ≤ w1.heap.size := by
    rw [hW, hN, hL]
    exact ⟨Go.Joins.below_alloc3 _ _ _ _, cell_keep (Go.Joins.below_alloc2 _ _ _) (by simp), cell_keep (Go.Joins.below_alloc2 _ _ _) (by simp), cell_keep (below1 _ _) (by simp), cell_keep (below1 _ _) (by simp), cell_keep (below1 _ _) (by simp), by simp <;> omega⟩
  have kT : w1.heap[NT]? = some (Obj.cells #[.int .i64 0, .int .i64 0, .slice none 0 0] 26) := by rw [hW]; exact FNew.heap_top (by rw [hT, hN, hL]; simp)
  have HNT : Hid (w.heap.size ≤ NT) := by simp only [Hid]; omega
  simp only [← hW, ← hL, ← hN, ← hT]
  clear hW hL hN hT
  go_at_call 66
  refine (LVal.implValid (H1.out.keep st.1 (Nat.le_refl _)) (H2.out.keep st.1 (Nat.le_refl _))).mono ?_
  rw [HLf.out]
  rintro e w2 ⟨rfl, bel⟩
  replace st := next5_0 bel st
  replace kT := (bel.block NT (Array.getElem?_eq_some_iff.1 kT).1).trans kT
  clear bel
  have c0 := st.2.2.2.1
  have c1 := st.2.2.2.2.1
  have c2 := st.2.2.2.2.2.1
  go_wp2_with fail
  go_at_call 67
  refine (Sq.isSquare (HH.out.keep st.1 (Nat.le_refl _))).mono ?_
  rw [HSq.out]
  rintro e w3 ⟨rfl, bel⟩
  clear c0 c1 c2
  replace st := next5_0 bel st
  replace kT := (bel.block NT (Array.getElem?_eq_some_iff.1 kT).1).trans kT
  clear bel
  have HB := hid st.1
  have y0 : w3.cell? ⟨NT, 0, none⟩ = some (.int .i64 0) := Go.Joins.cell_of_block kT 0
  have y1 : w3.cell? ⟨NT, 1, none⟩ = some (.int .i64 0) := Go.Joins.cell_of_block kT 1
  have y2 : w3.cell? ⟨NT, 2, none⟩ = some (.slice none 0 0) := Go.Joins.cell_of_block kT 2
  have g0 : w3.frozen? ⟨NT, 0, none⟩ = false := Go.Joins.unfrozen_of_block kT 0
  have g1 : w3.frozen? ⟨NT, 1, none⟩ = false := Go.Joins.unfrozen_of_block kT 1
  have g2 : w3.frozen? ⟨NT, 2, none⟩ = false := Go.Joins.unfrozen_of_block kT 2
  have HKx := hid kT
  clear kT
  go_wp2
  obtain ⟨W5, hW⟩ : ∃ W5, W5 = (((w3.setCell ⟨NT, 0, none⟩ (.int .i64 0)).setCell ⟨NT, 1, none⟩ (.int .i64 0)).setCell ⟨NT, 2, none⟩ (.slice none 0 0)) := ⟨_, rfl⟩
  have q0 := (Go.Joins.block_setCell (i := 2) (Go.Joins.block_setCell (i := 1) (Go.Joins.block_setCell (i := 0) HKx.out (.int .i64 0)) (.int .i64 0)) (.slice none 0 0))
  rw [← hW] at q0
  have z0 : W5.cell? ⟨NT, 0, none⟩ = some (.int .i64 0) := Go.Joins.cell_of_block q0 0
  have z1 : W5.cell? ⟨NT, 1, none⟩ = some (.int .i64 0) := Go.Joins.cell_of_block q0 1
  have z2 : W5.cell? ⟨NT, 2, none⟩ = some (.slice none 0 0) := Go.Joins.cell_of_block q0 2
  have B5 : Below w.heap.size w W5 := by
    have h1 := HNT.out
    rw [hW]
    exact ((HB.out.setCell (by simp; omega) _).setCell (by simp; omega) _).setCell (by simp; omega) _
  simp only [← hW]
  clear hW q0
  simp [bodyPost, results, Try.results29, go_sem, z0, z1, z2]
  exact B5

set_option maxHeartbeats 4000000 in
theorem specOk {w : World} {R C n mt : Nat} {b1 b2 b : Nat} {v1 v2 v : Value} {xs ys zs : List Int} (h1 : Rd w b1 v1 xs) (h2 : Rd w b2 v2 ys) (h : Rd w b v zs) (hl : LVal.lifeB xs ys = true) (hs : sqB R C zs = true) (hn : n = R * C) (hmt : mt = (R - 2) * (C - 2)) :
    Calls Try.prog 27 #[lifeV v1 v2, ruleV R C v] w fun e w' => ∃ b', e = .returned ((.tuple #[ruleV (R - 2 : Nat) (C - 2 : Nat) (.slice (some ⟨b', 0, none⟩) mt mt), .bool true])) ∧ Own 2 w' b' (.slice (some ⟨b', 0, none⟩) mt mt) (cutL (lifeL xs ys zs R C false) C 1 1 (R - 2) (C - 2)) ∧ w.heap.size ≤ b' ∧ Below w.heap.size w w' := by
  have hp := sq_parts hs
  have hf : fieldB R C zs = true := by have h1 := hp.1; simp only [Bool.and_eq_true] at h1; exact h1.1
  have hpl : plainB zs = true := by have h1 := hp.1; simp only [Bool.and_eq_true] at h1; rw [Can.plain_eq]; exact h1.2
  have h3 : 3 ≤ R ∧ 3 ≤ C := by have := hp.2; omega
  have hx : LVal.neighB xs = true ∧ LVal.neighB ys = true := by simpa [LVal.lifeB] using hl
  have HF := hid hf
  have HPL := hid hpl
  have H3 := hid h3
  have HX := hid hx
  have HN := hid hn
  have HM := hid hmt
  have HLf := hid hl
  have HSq := hid hs
  have H1 := hid h1
  have H2 := hid h2
  have HH := hid h
  obtain ⟨ao, cap, rfl, hc, hm, _⟩ := h
  obtain ⟨ao1, cap1, rfl, hc1, hm1, _⟩ := h1
  obtain ⟨ao2, cap2, rfl, hc2, hm2, _⟩ := h2
  clear hc hm hc1 hm1 hc2 hm2
  clear hl hs hn hmt hp hf hpl h3 hx
  go_enter Try.func27, Try.ntmps27
  go_wp2_with fail
  obtain ⟨w1, hW⟩ : ∃ w1, w1 = (((w.alloc (Obj.cells #[.slice ao1 xs.length cap1, .slice ao2 ys.length cap2] 43)).alloc (Obj.cells #[.int .i64 R, .int .i64 C, .slice ao zs.length cap] 26)).alloc (Obj.cells #[.int .i64 0, .int .i64 0, .slice none 0 0] 26)) := ⟨_, rfl⟩
  obtain ⟨LB, hL⟩ : ∃ LB, LB = w.heap.size := ⟨_, rfl⟩
  obtain ⟨N, hN⟩ : ∃ N, N = LB + 1 := ⟨_, rfl⟩
  obtain ⟨NT, hT⟩ : ∃ NT, NT = N + 1 := ⟨_, rfl⟩
  have st : Below w.heap.size w w1 ∧ w1.cell? ⟨LB, 0, none⟩ = some (.slice ao1 xs.length cap1) ∧ w1.cell? ⟨LB, 1, none⟩ = some (.slice ao2 ys.length cap2) ∧ w1.cell? ⟨N, 0, none⟩ = some (.int .i64 R) ∧ w1.cell? ⟨N, 1, none⟩ = some (.int .i64 C) ∧ w1.cell? ⟨N, 2, none⟩ = some (.slice ao zs.length cap) ∧ w.heap.size ≤ w1.heap.size := by
    rw [hW, hN, hL]
    exact ⟨Go.Joins.below_alloc3 _ _ _ _, cell_keep (Go.Joins.below_alloc2 _ _ _) (by simp), cell_keep (Go.Joins.below_alloc2 _ _ _) (by simp), cell_keep (below1 _ _) (by simp), cell_keep (below1 _ _) (by simp), cell_keep (below1 _ _) (by simp), by simp <;> omega⟩
  have kT : w1.heap[NT]? = some (Obj.cells #[.int .i64 0, .int .i64 0, .slice none 0 0] 26) := by rw [hW]; exact FNew.heap_top (by rw [hT, hN, hL]; simp)
  have HNT : Hid (w.heap.size ≤ NT) := by simp only [Hid]; omega
  simp only [← hW, ← hL, ← hN, ← hT]
  clear hW hL hN hT
  go_at_call 63
  refine (LVal.l04Life st.2.1 st.2.2.1 (H1.out.keep st.1 (Nat.le_refl _)) (H2.out.keep st.1 (Nat.le_refl _))).mono ?_
  rw [HLf.out]
  rintro e w2 ⟨rfl, hm2⟩
  have bel := Can.below_m hm2
  clear hm2
  replace st := next5_0 bel st
  replace kT := (bel.block NT (Array.getElem?_eq_some_iff.1 kT).1).trans kT
  clear bel
  go_wp2_with fail
  go_at_call 64
  refine (Sq.l05Square st.2.2.2.1 st.2.2.2.2.1 st.2.2.2.2.2.1 (HH.out.keep st.1 (Nat.le_refl _))).mono ?_
  rw [HSq.out]
  rintro e w3 ⟨rfl, bel⟩
  replace st := next5_0 bel st
  replace kT := (bel.block NT (Array.getElem?_eq_some_iff.1 kT).1).trans kT
  clear bel
  go_wp2_with fail
  go_at_call 65
  refine (In.l05Inner st.2.1 st.2.2.1 (H1.out.keep st.1 (Nat.le_refl _)) (H2.out.keep st.1 (Nat.le_refl _)) st.2.2.2.1 st.2.2.2.2.1 st.2.2.2.2.2.1 (HH.out.keep st.1 (Nat.le_refl _)) HF.out HN.out HPL.out H3.out HM.out).mono ?_
  rintro e w4 ⟨b', rfl, ow, lo, bel⟩
  have HNB : Hid (NT ≠ b') := Nat.ne_of_lt (Nat.lt_of_lt_of_le (Array.getElem?_eq_some_iff.1 kT).1 lo)
  have HLo : Hid (w.heap.size ≤ b') := Nat.le_trans st.1.size lo
  have HB := hid (st.1.trans (bel.mono st.1.size))
  replace kT := (bel.block NT (Array.getElem?_eq_some_iff.1 kT).1).trans kT
  have HO := hid ow
  clear st ow lo bel
  have y0 : w4.cell? ⟨NT, 0, none⟩ = some (.int .i64 0) := Go.Joins.cell_of_block kT 0
  have y1 : w4.cell? ⟨NT, 1, none⟩ = some (.int .i64 0) := Go.Joins.cell_of_block kT 1
  have y2 : w4.cell? ⟨NT, 2, none⟩ = some (.slice none 0 0) := Go.Joins.cell_of_block kT 2
  have g0 : w4.frozen? ⟨NT, 0, none⟩ = false := Go.Joins.unfrozen_of_block kT 0
  have g1 : w4.frozen? ⟨NT, 1, none⟩ = false := Go.Joins.unfrozen_of_block kT 1
  have g2 : w4.frozen? ⟨NT, 2, none⟩ = false := Go.Joins.unfrozen_of_block kT 2
  have HKx := hid kT
  clear kT
  go_wp2
  obtain ⟨W5, hW⟩ : ∃ W5, W5 = (((w4.setCell ⟨NT, 0, none⟩ (.int .i64 (R - 2 : Nat))).setCell ⟨NT, 1, none⟩ (.int .i64 (C - 2 : Nat))).setCell ⟨NT, 2, none⟩ (.slice (some ⟨b', 0, none⟩) mt mt)) := ⟨_, rfl⟩
  have q0 := (Go.Joins.block_setCell (i := 2) (Go.Joins.block_setCell (i := 1) (Go.Joins.block_setCell (i := 0) HKx.out (.int .i64 (R - 2 : Nat))) (.int .i64 (C - 2 : Nat))) (.slice (some ⟨b', 0, none⟩) mt mt))
  rw [← hW] at q0
  have z0 : W5.cell? ⟨NT, 0, none⟩ = some (.int .i64 (R - 2 : Nat)) := Go.Joins.cell_of_block q0 0
  have z1 : W5.cell? ⟨NT, 1, none⟩ = some (.int .i64 (C - 2 : Nat)) := Go.Joins.cell_of_block q0 1
  have z2 : W5.cell? ⟨NT, 2, none⟩ = some (.slice (some ⟨b', 0, none⟩) mt mt) := Go.Joins.cell_of_block q0 2
  have O5 := (own_set (own_set (own_set HO.out ⟨NT, 0, none⟩ (.int .i64 (R - 2 : Nat)) HNB.out) ⟨NT, 1, none⟩ (.int .i64 (C - 2 : Nat)) HNB.out) ⟨NT, 2, none⟩ (.slice (some ⟨b', 0, none⟩) mt mt) HNB.out)
  rw [← hW] at O5
  have B5 : Below w.heap.size w W5 := by
    have h1 := HNT.out
    rw [hW]
    exact ((HB.out.setCell (by simp; omega) _).setCell (by simp; omega) _).setCell (by simp; omega) _
  simp only [← hW]
  clear hW q0
  simp [bodyPost, results, Try.results27, go_sem, z0, z1, z2]
  exact ⟨O5, HLo.out, B5⟩

set_option maxHeartbeats 8000000 in
theorem implOk {w : World} {R C n mt : Nat} {b1 b2 b : Nat} {v1 v2 v : Value} {xs ys zs : List Int} (h1 : Rd w b1 v1 xs) (h2 : Rd w b2 v2 ys) (h : Rd w b v zs) (hl : LVal.lifeB xs ys = true) (hs : sqB R C zs = true) (hn : n = R * C) (hmt : mt = (R - 2) * (C - 2)) :
    Calls Try.prog 29 #[lifeV v1 v2, ruleV R C v] w fun e w' => ∃ b', e = .returned ((.tuple #[ruleV (R - 2 : Nat) (C - 2 : Nat) (.slice (some ⟨b', 0, none⟩) mt mt), .bool true])) ∧ Own 2 w' b' (.slice (some ⟨b', 0, none⟩) mt mt) (cutL (lifeL xs ys zs R C false) C 1 1 (R - 2) (C - 2)) ∧ w.heap.size ≤ b' ∧ Below w.heap.size w w' := by
  have hp := sq_parts hs
  have hf : fieldB R C zs = true := by have h1 := hp.1; simp only [Bool.and_eq_true] at h1; exact h1.1
  have hpl : plainB zs = true := by have h1 := hp.1; simp only [Bool.and_eq_true] at h1; rw [Can.plain_eq]; exact h1.2
  have h3 : 3 ≤ R ∧ 3 ≤ C := by have := hp.2; omega
  have hx : LVal.neighB xs = true ∧ LVal.neighB ys = true := by simpa [LVal.lifeB] using hl
  have HF := hid hf
  have HPL := hid hpl
  have H3 := hid h3
  have HX := hid hx
  have HN := hid hn
  have HM := hid hmt
  have HLf := hid hl
  have HSq := hid hs
  have H1 := hid h1
  have H2 := hid h2
  have HH := hid h
  obtain ⟨ao, cap, rfl, hc, hm, _⟩ := h
  obtain ⟨ao1, cap1, rfl, hc1, hm1, _⟩ := h1
  obtain ⟨ao2, cap2, rfl, hc2, hm2, _⟩ := h2
  clear hc hm hc1 hm1 hc2 hm2
  clear hl hs hn hmt hp hf hpl h3 hx
  go_enter Try.func29, Try.ntmps29
  go_wp2_with fail
  obtain ⟨w1, hW⟩ : ∃ w1, w1 = (((w.alloc (Obj.cells #[.slice ao1 xs.length cap1, .slice ao2 ys.length cap2] 43)).alloc (Obj.cells #[.int .i64 R, .int .i64 C, .slice ao zs.length cap] 26)).alloc (Obj.cells #[.int .i64 0, .int .i64 0, .slice none 0 0] 26)) := ⟨_, rfl⟩
  obtain ⟨LB, hL⟩ : ∃ LB, LB = w.heap.size := ⟨_, rfl⟩
  obtain ⟨N, hN⟩ : ∃ N, N = LB + 1 := ⟨_, rfl⟩
  obtain ⟨NT, hT⟩ : ∃ NT, NT = N + 1 := ⟨_, rfl⟩
  have st : Below w.heap.size w w1 ∧ w1.cell? ⟨LB, 0, none⟩ = some (.slice ao1 xs.length cap1) ∧ w1.cell? ⟨LB, 1, none⟩ = some (.slice ao2 ys.length cap2) ∧ w1.cell? ⟨N, 0, none⟩ = some (.int .i64 R) ∧ w1.cell? ⟨N, 1, none⟩ = some (.int .i64 C) ∧ w1.cell? ⟨N, 2, none⟩ = some (.slice ao zs.length cap) ∧ w.heap.size ≤ w1.heap.size := by
    rw [hW, hN, hL]
    exact ⟨Go.Joins.below_alloc3 _ _ _ _, cell_keep (Go.Joins.below_alloc2 _ _ _) (by simp), cell_keep (Go.Joins.below_alloc2 _ _ _) (by simp), cell_keep (below1 _ _) (by simp), cell_keep (below1 _ _) (by simp), cell_keep (below1 _ _) (by simp), by simp <;> omega⟩
  have kT : w1.heap[NT]? = some (Obj.cells #[.int .i64 0, .int .i64 0, .slice none 0 0] 26) := by rw [hW]; exact FNew.heap_top (by rw [hT, hN, hL]; simp)
  have HNT : Hid (w.heap.size ≤ NT) := by simp only [Hid]; omega
  have HNE : Hid (LB ≠ NT ∧ N ≠ NT) := ⟨by omega, by omega⟩
  simp only [← hW, ← hL, ← hN, ← hT]
  clear hW hL hN hT
  go_at_call 66
  refine (LVal.implValid (H1.out.keep st.1 (Nat.le_refl _)) (H2.out.keep st.1 (Nat.le_refl _))).mono ?_
  rw [HLf.out]
  rintro e w2 ⟨rfl, bel⟩
  replace st := next5_0 bel st
  replace kT := (bel.block NT (Array.getElem?_eq_some_iff.1 kT).1).trans kT
  clear bel
  have c0 := st.2.2.2.1
  have c1 := st.2.2.2.2.1
  have c2 := st.2.2.2.2.2.1
  go_wp2_with fail
  go_at_call 67
  refine (Sq.isSquare (HH.out.keep st.1 (Nat.le_refl _))).mono ?_
  rw [HSq.out]
  rintro e w3 ⟨rfl, bel⟩
  clear c0 c1 c2
  replace st := next5_0 bel st
  replace kT := (bel.block NT (Array.getElem?_eq_some_iff.1 kT).1).trans kT
  clear bel
  go_wp2_with fail
  refine wp_region_held_drew (S := (fun ww => Below w.heap.size w ww ∧ ww.cell? ⟨LB, 0, none⟩ = some (.slice ao1 xs.length cap1) ∧ ww.cell? ⟨LB, 1, none⟩ = some (.slice ao2 ys.length cap2) ∧ ww.cell? ⟨N, 0, none⟩ = some (.int .i64 R) ∧ ww.cell? ⟨N, 1, none⟩ = some (.int .i64 C) ∧ ww.cell? ⟨N, 2, none⟩ = some (.slice ao zs.length cap) ∧ w.heap.size ≤ ww.heap.size)) (by kernel_rfl) ?_ (fun hHeld => ?_)
  · ((try dsimp only); exact drew5_0 st)
  generalize hD : w3.drew = wD at hHeld ⊢
  replace kT : wD.heap[NT]? = some (Obj.cells #[.int .i64 0, .int .i64 0, .slice none 0 0] 26) := by rw [← hD]; exact kT
  clear hD st
  (refine wpAnyH_take (i := 0) (v := ?_) rfl ?_ ?_ ?_ (fun _ _ _ h => h) (Or.inl ⟨?_, ?_⟩) ?_ ?_; rotate_left 1; (focus decide +kernel); (focus decide +kernel); (focus decide +kernel); (focus rfl); (focus (intro w hSw; (try dsimp only at hSw); go_simp; (try (with_reducible rfl)); done)); (focus assumption); (try simp only [Act.put, List.setIfInBounds_toArray, List.set_cons_zero, List.set_cons_succ, List.getElem_toArray, List.getElem_cons_succ, List.getElem_cons_zero]))
  (refine wpAnyH_take (i := 2) (v := ?_) rfl ?_ ?_ ?_ (fun _ _ _ h => h) (Or.inl ⟨?_, ?_⟩) ?_ ?_; rotate_left 1; (focus decide +kernel); (focus decide +kernel); (focus decide +kernel); (focus rfl); (focus (intro w hSw; (try dsimp only at hSw); go_simp; (try (with_reducible rfl)); done)); (focus assumption); (try simp only [Act.put, List.setIfInBounds_toArray, List.set_cons_zero, List.set_cons_succ, List.getElem_toArray, List.getElem_cons_succ, List.getElem_cons_zero]))
  refine wpAnyH_ready (rs := [1]) ?_ (by simp) ?_
  · decide +kernel
  refine AllReadyH.cons rfl (fun K hK => ?_) AllReadyH.nil
  go_simp
  go_at_call 69
  refine (tableOfLife (H1.out.keep hHeld.1 (Nat.le_refl _)) (H2.out.keep hHeld.1 (Nat.le_refl _)) HX.out.1 HX.out.2).mono ?_
  rintro e wt ⟨rfl, bel⟩
  replace kT := (bel.block NT (Array.getElem?_eq_some_iff.1 kT).1).trans kT
  refine hK.out _ _ ?_ (fun hHeld2 => ?_)
  · (try dsimp only); exact next5_0 bel hHeld
  clear hK K hHeld bel
  have hHeld := hHeld2
  clear hHeld2
  (try simp only [Act.put, List.setIfInBounds_toArray, List.set_cons_zero, List.set_cons_succ, List.getElem_toArray, List.getElem_cons_succ, List.getElem_cons_zero])
  refine wpAnyH_ready (rs := [3]) ?_ (by simp) ?_
  · decide +kernel
  refine AllReadyH.cons rfl (fun K hK => ?_) AllReadyH.nil
  go_simp
  go_at_call 68
  refine (In.innerStep (HH.out.keep hHeld.1 (Nat.le_refl _)) HF.out HN.out HPL.out H3.out HM.out).mono ?_
  rintro e w5 ⟨b', rfl, ow, lo, bel⟩
  have HLo : Hid (w.heap.size ≤ b') := Nat.le_trans hHeld.1.size lo
  have HNB : Hid (NT ≠ b') := Nat.ne_of_lt (Nat.lt_of_lt_of_le (Array.getElem?_eq_some_iff.1 kT).1 lo)
  replace kT := (bel.block NT (Array.getElem?_eq_some_iff.1 kT).1).trans kT
  refine hK.out _ _ ?_ (fun hHeld2 => ?_)
  · (try dsimp only); exact next5_0 bel hHeld
  clear hK K hHeld bel lo
  have hHeld := hHeld2
  clear hHeld2
  (try simp only [Act.put, List.setIfInBounds_toArray, List.set_cons_zero, List.set_cons_succ, List.getElem_toArray, List.getElem_cons_succ, List.getElem_cons_zero])
  refine wpAnyH_ready (rs := [4]) ?_ (by simp) ?_
  · decide +kernel
  refine AllReadyH.cons rfl (fun K hK => ?_) AllReadyH.nil
  have y0 : w5.cell? ⟨NT, 0, none⟩ = some (.int .i64 0) := Go.Joins.cell_of_block kT 0
  have y1 : w5.cell? ⟨NT, 1, none⟩ = some (.int .i64 0) := Go.Joins.cell_of_block kT 1
  have y2 : w5.cell? ⟨NT, 2, none⟩ = some (.slice none 0 0) := Go.Joins.cell_of_block kT 2
  have g0 : w5.frozen? ⟨NT, 0, none⟩ = false := Go.Joins.unfrozen_of_block kT 0
  have g1 : w5.frozen? ⟨NT, 1, none⟩ = false := Go.Joins.unfrozen_of_block kT 1
  have g2 : w5.frozen? ⟨NT, 2, none⟩ = false := Go.Joins.unfrozen_of_block kT 2
  have HKT := hid kT
  clear kT
  go_simp
  clear y0 y1 y2 g0 g1 g2
  have q0 := (Go.Joins.block_setCell (i := 2) (Go.Joins.block_setCell (i := 1) (Go.Joins.block_setCell (i := 0) HKT.out (.int .i64 (R - 2 : Nat))) (.int .i64 (C - 2 : Nat))) (.slice (some ⟨b', 0, none⟩) mt mt))
  have oz := (own_set (own_set (own_set ow ⟨NT, 0, none⟩ (.int .i64 (R - 2 : Nat)) HNB.out) ⟨NT, 1, none⟩ (.int .i64 (C - 2 : Nat)) HNB.out) ⟨NT, 2, none⟩ (.slice (some ⟨b', 0, none⟩) mt mt) HNB.out)
  have bz := (((hHeld.1.setCell (p := ⟨NT, 0, none⟩) HNT.out (.int .i64 (R - 2 : Nat))).setCell (p := ⟨NT, 1, none⟩) HNT.out (.int .i64 (C - 2 : Nat))).setCell (p := ⟨NT, 2, none⟩) HNT.out (.slice (some ⟨b', 0, none⟩) mt mt))
  have LBN : LB ≠ NT ∧ N ≠ NT := HNE.out
  have cz : (((w5.setCell ⟨NT, 0, none⟩ (.int .i64 (R - 2 : Nat))).setCell ⟨NT, 1, none⟩ (.int .i64 (C - 2 : Nat))).setCell ⟨NT, 2, none⟩ (.slice (some ⟨b', 0, none⟩) mt mt)).cell? ⟨LB, 0, none⟩ = some (.slice ao1 xs.length cap1) ∧ (((w5.setCell ⟨NT, 0, none⟩ (.int .i64 (R - 2 : Nat))).setCell ⟨NT, 1, none⟩ (.int .i64 (C - 2 : Nat))).setCell ⟨NT, 2, none⟩ (.slice (some ⟨b', 0, none⟩) mt mt)).cell? ⟨LB, 1, none⟩ = some (.slice ao2 ys.length cap2) ∧ (((w5.setCell ⟨NT, 0, none⟩ (.int .i64 (R - 2 : Nat))).setCell ⟨NT, 1, none⟩ (.int .i64 (C - 2 : Nat))).setCell ⟨NT, 2, none⟩ (.slice (some ⟨b', 0, none⟩) mt mt)).cell? ⟨N, 0, none⟩ = some (.int .i64 R) ∧ (((w5.setCell ⟨NT, 0, none⟩ (.int .i64 (R - 2 : Nat))).setCell ⟨NT, 1, none⟩ (.int .i64 (C - 2 : Nat))).setCell ⟨NT, 2, none⟩ (.slice (some ⟨b', 0, none⟩) mt mt)).cell? ⟨N, 1, none⟩ = some (.int .i64 C) ∧ (((w5.setCell ⟨NT, 0, none⟩ (.int .i64 (R - 2 : Nat))).setCell ⟨NT, 1, none⟩ (.int .i64 (C - 2 : Nat))).setCell ⟨NT, 2, none⟩ (.slice (some ⟨b', 0, none⟩) mt mt)).cell? ⟨N, 2, none⟩ = some (.slice ao zs.length cap) := ⟨(FNew.set_cell (FNew.set_cell (FNew.set_cell hHeld.2.1 LBN.1) LBN.1) LBN.1), (FNew.set_cell (FNew.set_cell (FNew.set_cell hHeld.2.2.1 LBN.1) LBN.1) LBN.1), (FNew.set_cell (FNew.set_cell (FNew.set_cell hHeld.2.2.2.1 LBN.2) LBN.2) LBN.2), (FNew.set_cell (FNew.set_cell (FNew.set_cell hHeld.2.2.2.2.1 LBN.2) LBN.2) LBN.2), (FNew.set_cell (FNew.set_cell (FNew.set_cell hHeld.2.2.2.2.2.1 LBN.2) LBN.2) LBN.2)⟩
  obtain ⟨W5, hW5⟩ : ∃ W5, W5 = (((w5.setCell ⟨NT, 0, none⟩ (.int .i64 (R - 2 : Nat))).setCell ⟨NT, 1, none⟩ (.int .i64 (C - 2 : Nat))).setCell ⟨NT, 2, none⟩ (.slice (some ⟨b', 0, none⟩) mt mt)) := ⟨_, rfl⟩
  rw [← hW5] at q0 oz bz cz
  refine hK.out _ _ ?_ (fun hHeld2 => ?_)
  · (try dsimp only); rw [← hW5]; exact ⟨bz, cz.1, cz.2.1, cz.2.2.1, cz.2.2.2.1, cz.2.2.2.2, bz.size⟩
  clear hK K hHeld ow cz
  (try dsimp only at hHeld2)
  simp only [← hW5] at hHeld2 ⊢
  clear hW5
  have hHeld := hHeld2
  clear hHeld2
  (try simp only [Act.put, List.setIfInBounds_toArray, List.set_cons_zero, List.set_cons_succ, List.getElem_toArray, List.getElem_cons_succ, List.getElem_cons_zero])
  (refine wpAnyH_take (i := 5) (v := ?_) rfl ?_ ?_ ?_ (fun _ _ _ h => h) (Or.inl ⟨?_, ?_⟩) ?_ ?_; rotate_left 1; (focus decide +kernel); (focus decide +kernel); (focus decide +kernel); (focus rfl); (focus (intro w hSw; (try dsimp only at hSw); go_simp; (try (with_reducible rfl)); done)); (focus assumption); (try simp only [Act.put, List.setIfInBounds_toArray, List.set_cons_zero, List.set_cons_succ, List.getElem_toArray, List.getElem_cons_succ, List.getElem_cons_zero]))
  refine wpAnyH_done (by kernel_rfl) ?_ _
  have z0 : W5.cell? ⟨NT, 0, none⟩ = some (.int .i64 (R - 2 : Nat)) := Go.Joins.cell_of_block q0 0
  have z1 : W5.cell? ⟨NT, 1, none⟩ = some (.int .i64 (C - 2 : Nat)) := Go.Joins.cell_of_block q0 1
  have z2 : W5.cell? ⟨NT, 2, none⟩ = some (.slice (some ⟨b', 0, none⟩) mt mt) := Go.Joins.cell_of_block q0 2
  have HOZ := hid oz
  have HBZ := hid bz
  clear q0 oz bz hHeld
  go_wp2
  simp [bodyPost, results, Try.results29, go_sem, z0, z1, z2]
  exact ⟨HOZ.out, HLo.out, HBZ.out⟩

theorem agree (xs ys : List Int) (s r : Int) (zs : List Int) : ∃ (qs qr : Int) (rs : List Int) (ok : Bool), rs.length ≤ 1000000 ∧
    (∀ (w : World) (b1 : Nat) (v1 : Value) (b2 : Nat) (v2 : Value) (b : Nat) (v : Value), Rd w b1 v1 xs → Rd w b2 v2 ys → Rd w b v zs → Calls Try.prog 27 #[lifeV v1 v2, ruleV s r v] w fun e w' => ∃ ao c b', e = .returned (.tuple #[ruleV qs qr (.slice ao rs.length c), .bool ok]) ∧ Own 2 w' b' (.slice ao rs.length c) rs ∧ w.heap.size ≤ b' ∧ Below w.heap.size w w') ∧
    (∀ (w : World) (b1 : Nat) (v1 : Value) (b2 : Nat) (v2 : Value) (b : Nat) (v : Value), Rd w b1 v1 xs → Rd w b2 v2 ys → Rd w b v zs → Calls Try.prog 29 #[lifeV v1 v2, ruleV s r v] w fun e w' => ∃ ao c b', e = .returned (.tuple #[ruleV qs qr (.slice ao rs.length c), .bool ok]) ∧ Own 2 w' b' (.slice ao rs.length c) rs ∧ w.heap.size ≤ b' ∧ Below w.heap.size w w') := by
  have none_ : (∀ (w : World) (b1 : Nat) (v1 : Value) (b2 : Nat) (v2 : Value) (b : Nat) (v : Value), Rd w b1 v1 xs → Rd w b2 v2 ys → Rd w b v zs → Calls Try.prog 27 #[lifeV v1 v2, ruleV s r v] w fun e w' => e = .returned (.tuple #[ruleV 0 0 (.slice none 0 0), .bool false]) ∧ Below w.heap.size w w') → (∀ (w : World) (b1 : Nat) (v1 : Value) (b2 : Nat) (v2 : Value) (b : Nat) (v : Value), Rd w b1 v1 xs → Rd w b2 v2 ys → Rd w b v zs → Calls Try.prog 29 #[lifeV v1 v2, ruleV s r v] w fun e w' => e = .returned (.tuple #[ruleV 0 0 (.slice none 0 0), .bool false]) ∧ Below w.heap.size w w') → ∃ (qs qr : Int) (rs : List Int) (ok : Bool), rs.length ≤ 1000000 ∧
    (∀ (w : World) (b1 : Nat) (v1 : Value) (b2 : Nat) (v2 : Value) (b : Nat) (v : Value), Rd w b1 v1 xs → Rd w b2 v2 ys → Rd w b v zs → Calls Try.prog 27 #[lifeV v1 v2, ruleV s r v] w fun e w' => ∃ ao c b', e = .returned (.tuple #[ruleV qs qr (.slice ao rs.length c), .bool ok]) ∧ Own 2 w' b' (.slice ao rs.length c) rs ∧ w.heap.size ≤ b' ∧ Below w.heap.size w w') ∧
    (∀ (w : World) (b1 : Nat) (v1 : Value) (b2 : Nat) (v2 : Value) (b : Nat) (v : Value), Rd w b1 v1 xs → Rd w b2 v2 ys → Rd w b v zs → Calls Try.prog 29 #[lifeV v1 v2, ruleV s r v] w fun e w' => ∃ ao c b', e = .returned (.tuple #[ruleV qs qr (.slice ao rs.length c), .bool ok]) ∧ Own 2 w' b' (.slice ao rs.length c) rs ∧ w.heap.size ≤ b' ∧ Below w.heap.size w w') := by
    intro h1 h2
    refine ⟨0, 0, [], false, by simp, fun w b1 v1 b2 v2 b v k1 k2 k => (h1 w b1 v1 b2 v2 b v k1 k2 k).mono ?_, fun w b1 v1 b2 v2 b v k1 k2 k => (h2 w b1 v1 b2 v2 b v k1 k2 k).mono ?_⟩
    · rintro e w' ⟨rfl, bel⟩
      exact ⟨none, 0, w.heap.size, rfl, Own.nil _ _ _, Nat.le_refl _, bel⟩
    · rintro e w' ⟨rfl, bel⟩
      exact ⟨none, 0, w.heap.size, rfl, Own.nil _ _ _, Nat.le_refl _, bel⟩
  cases hl : LVal.lifeB xs ys with
  | false => exact none_ (fun w b1 v1 b2 v2 b v k1 k2 k => specNo1 k1 k2 k hl) (fun w b1 v1 b2 v2 b v k1 k2 k => implNo1 k1 k2 k hl)
  | true =>
    cases hs : sqB s r zs with
    | false => exact none_ (fun w b1 v1 b2 v2 b v k1 k2 k => specNo2 k1 k2 k hl hs) (fun w b1 v1 b2 v2 b v k1 k2 k => implNo2 k1 k2 k hl hs)
    | true =>
      have hp := (sq_parts hs).2
      obtain ⟨R, rfl⟩ := Int.eq_ofNat_of_zero_le (show 0 ≤ s by omega)
      obtain ⟨C, rfl⟩ := Int.eq_ofNat_of_zero_le (show 0 ≤ r by omega)
      have hlen : (cutL (lifeL xs ys zs R C false) C 1 1 (R - 2) (C - 2)).length = (R - 2) * (C - 2) := by unfold cutL; rw [grid_len]
      have hle : (R - 2) * (C - 2) ≤ 24 * 24 := Nat.mul_le_mul (by omega) (by omega)
      refine ⟨(R - 2 : Nat), (C - 2 : Nat), cutL (lifeL xs ys zs R C false) C 1 1 (R - 2) (C - 2), true, by omega, fun w b1 v1 b2 v2 b v k1 k2 k => (specOk k1 k2 k hl hs rfl rfl).mono ?_, fun w b1 v1 b2 v2 b v k1 k2 k => (implOk k1 k2 k hl hs rfl rfl).mono ?_⟩
      · rintro e w' ⟨b', rfl, ow, lo, bel⟩
        exact ⟨some ⟨b', 0, none⟩, _, b', by rw [hlen], by rw [hlen]; exact ow, lo, bel⟩
      · rintro e w' ⟨b', rfl, ow, lo, bel⟩
        exact ⟨some ⟨b', 0, none⟩, _, b', by rw [hlen], by rw [hlen]; exact ow, lo, bel⟩

end Go.Proofs.Ytmbimekndhcgaaa.InA
