/- RunAnt of the model. -/
import Derived.Test.YtmbimekndhcgaaaDoorRan
import Derived.Test.YtmbimekndhcgaaaDoorSOwn
namespace Go.Proofs.YtmbimekndhcgaaaDoor.Ras
open Go.RowKit Go.Proofs.YtmbimekndhcgaaaDoor.Rd Go.Proofs.YtmbimekndhcgaaaDoor.Help Go.Proofs.YtmbimekndhcgaaaDoor.Ring Go.Proofs.YtmbimekndhcgaaaDoor.Small Go.Proofs.YtmbimekndhcgaaaDoor.FVal Go.Proofs.YtmbimekndhcgaaaDoor.Keep Go.Proofs.YtmbimekndhcgaaaDoor.Rule Go.Proofs.YtmbimekndhcgaaaDoor.Grow Go.Proofs.YtmbimekndhcgaaaDoor.Bes Go.Proofs.YtmbimekndhcgaaaDoor.Box Go.Proofs.YtmbimekndhcgaaaDoor.Ant Go.Proofs.YtmbimekndhcgaaaDoor.Wlk
set_option linter.unusedVariables false
set_option linter.unusedSimpArgs false

theorem roundT {w : World} {g R C X Y T : Nat} {x y : Int} (c0 : w.cell? ⟨g, 0, none⟩ = some (.int .i64 R)) (c1 : w.cell? ⟨g, 1, none⟩ = some (.int .i64 C)) (hR : 1 ≤ R ∧ R ≤ 24) (hC : 1 ≤ C ∧ C ≤ 24) (hx : -1000000 ≤ x ∧ x ≤ 1000000) (hy : -1000000 ≤ y ∧ y ≤ 1000000) (hX : X = (x % (R : Int)).toNat) (hY : Y = (y % (C : Int)).toNat) (hT : T = X * C + Y) :
    Calls Tryd.prog 15 #[.pointer (some ⟨g, 0, none⟩), .int .i64 x, .int .i64 y] w fun e w' => e = .returned (.int .i64 (T : Int)) ∧ ∃ m, w' = w.drewN m := by
  subst hX; subst hY; subst hT
  exact Rnd.l04Round c0 c1 hR hC hx hy

theorem ld_r {w : World} {NA yn : Nat} (k : w.heap[NA]? = some (Obj.cells #[.int .i64 (-1), .int .i64 0, .int .i64 1, .int .i64 0] 2)) (h : yn < 4) : w.cell? ⟨NA, yn, none⟩ = some (.int .i64 (ddr (yn : Int))) := by
  rcases (show yn = 0 ∨ yn = 1 ∨ yn = 2 ∨ yn = 3 by omega) with rfl | rfl | rfl | rfl
  · exact Go.Joins.cell_of_block k 0
  · exact Go.Joins.cell_of_block k 1
  · exact Go.Joins.cell_of_block k 2
  · exact Go.Joins.cell_of_block k 3
theorem ld_c {w : World} {NA yn : Nat} (k : w.heap[NA]? = some (Obj.cells #[.int .i64 0, .int .i64 1, .int .i64 0, .int .i64 (-1)] 2)) (h : yn < 4) : w.cell? ⟨NA, yn, none⟩ = some (.int .i64 (ddc (yn : Int))) := by
  rcases (show yn = 0 ∨ yn = 1 ∨ yn = 2 ∨ yn = 3 by omega) with rfl | rfl | rfl | rfl
  · exact Go.Joins.cell_of_block k 0
  · exact Go.Joins.cell_of_block k 1
  · exact Go.Joins.cell_of_block k 2
  · exact Go.Joins.cell_of_block k 3
theorem dd_bd (y : Int) : -1 ≤ ddr y ∧ ddr y ≤ 1 ∧ -1 ≤ ddc y ∧ ddc y ≤ 1 := by
  unfold ddr ddc; split <;> split <;> (try split) <;> (try split) <;> omega

set_option maxHeartbeats 2000000 in
theorem specNo1 {w : World} {s r row col way steps : Int} {b : Nat} {v : Value} {zs : List Int} (h : Rd w b v zs) (h1 : (fieldB s r zs && allB zs 2) = false) :
    Calls Tryd.prog 5 #[ruleV s r v, .int .i64 row, .int .i64 col, .int .i64 way, .int .i64 steps] w fun e w' => e = .returned (.tuple #[ruleV 0 0 (.slice none 0 0), .int .i64 0, .int .i64 0, .int .i64 0, .bool false]) ∧ Below w.heap.size w w' := by
  have HH := hid h
  have HQ1 := hid h1
  obtain ⟨ao, cap, rfl, hc, hm, _⟩ := h
  clear hc hm h1
  go_enter Tryd.func5, Tryd.ntmps5
  go_wp2_with fail
  obtain ⟨w1, hW⟩ : ∃ w1, w1 = (w.alloc (Obj.cells #[.int .i64 s, .int .i64 r, .slice ao zs.length cap] 26)).alloc (Obj.cells #[.int .i64 0, .int .i64 0, .slice none 0 0] 26) := ⟨_, rfl⟩
  obtain ⟨N, hN⟩ : ∃ N, N = w.heap.size := ⟨_, rfl⟩
  obtain ⟨NT, hM⟩ : ∃ NT, NT = N + 1 := ⟨_, rfl⟩
  have st : Below w.heap.size w w1 ∧ w1.cell? ⟨N, 0, none⟩ = some (.int .i64 s) ∧ w1.cell? ⟨N, 1, none⟩ = some (.int .i64 r) ∧ w1.cell? ⟨N, 2, none⟩ = some (.slice ao zs.length cap) ∧ Rd w1 b (.slice ao zs.length cap) zs ∧ w.heap.size ≤ w1.heap.size := by
    rw [hW, hN]
    exact ⟨Go.Joins.below_alloc2 _ _ _, by simp, by simp, by simp, HH.out.keep (Go.Joins.below_alloc2 _ _ _) (Nat.le_refl _), by simp; omega⟩
  have kT : w1.heap[NT]? = some (Obj.cells #[.int .i64 0, .int .i64 0, .slice none 0 0] 26) := by rw [hW]; exact FNew.heap_top (by rw [hM, hN]; simp)
  have HNT : Hid (w.heap.size ≤ NT) := by simp only [Hid]; omega
  have HNN : Hid (NT = N + 1 ∧ N = w.heap.size) := ⟨hM, hN⟩
  simp only [← hW, ← hN, ← hM]
  clear hW hN hM
  go_at_call 12
  refine (Can.l04Plain (rd3_1_0 st) st.2.1 st.2.2.1 st.2.2.2.1).mono ?_
  rw [HQ1.out]
  rintro e w2 ⟨rfl, m, hw2⟩
  have bel : Below w1.heap.size w1 w2 := by rw [hw2]; exact FSpec.below_drewN' _ _ _
  clear hw2
  replace st := next3_1 bel st
  replace kT := (bel.block NT (Array.getElem?_eq_some_iff.1 kT).1).trans kT
  clear bel


  have HB := hid st.1
  have y0 : w2.cell? ⟨NT, 0, none⟩ = some (.int .i64 0) := Go.Joins.cell_of_block kT 0
  have y1 : w2.cell? ⟨NT, 1, none⟩ = some (.int .i64 0) := Go.Joins.cell_of_block kT 1
  have y2 : w2.cell? ⟨NT, 2, none⟩ = some (.slice none 0 0) := Go.Joins.cell_of_block kT 2
  have g0 : w2.frozen? ⟨NT, 0, none⟩ = false := Go.Joins.unfrozen_of_block kT 0
  have g1 : w2.frozen? ⟨NT, 1, none⟩ = false := Go.Joins.unfrozen_of_block kT 1
  have g2 : w2.frozen? ⟨NT, 2, none⟩ = false := Go.Joins.unfrozen_of_block kT 2
  have HKx := hid kT
  clear kT
  go_wp2
  obtain ⟨W5, hW⟩ : ∃ W5, W5 = (((w2.setCell ⟨NT, 0, none⟩ (.int .i64 0)).setCell ⟨NT, 1, none⟩ (.int .i64 0)).setCell ⟨NT, 2, none⟩ (.slice none 0 0)) := ⟨_, rfl⟩
  have q0 := (Go.Joins.block_setCell (i := 2) (Go.Joins.block_setCell (i := 1) (Go.Joins.block_setCell (i := 0) HKx.out (.int .i64 0)) (.int .i64 0)) (.slice none 0 0))
  rw [← hW] at q0
  have z0 : W5.cell? ⟨NT, 0, none⟩ = some (.int .i64 0) := Go.Joins.cell_of_block q0 0
  have z1 : W5.cell? ⟨NT, 1, none⟩ = some (.int .i64 0) := Go.Joins.cell_of_block q0 1
  have z2 : W5.cell? ⟨NT, 2, none⟩ = some (.slice none 0 0) := Go.Joins.cell_of_block q0 2
  have B5 : Below w.heap.size w W5 := by
    have h1 := HNT.out
    rw [hW]
    exact ((HB.out.setCell (by simp; omega) _).setCell (by simp; omega) _).setCell (by simp; omega) _
  simp only [← hW]
  clear hW q0
  simp [bodyPost, results, Tryd.results5, go_sem, z0, z1, z2]
  exact B5

set_option maxHeartbeats 2000000 in
theorem specNo2 {w : World} {s r row col way steps : Int} {b : Nat} {v : Value} {zs : List Int} (h : Rd w b v zs) (h1 : (fieldB s r zs && allB zs 2) = true) (h2 : decide (0 ≤ row ∧ row ≤ s - 1) = false) :
    Calls Tryd.prog 5 #[ruleV s r v, .int .i64 row, .int .i64 col, .int .i64 way, .int .i64 steps] w fun e w' => e = .returned (.tuple #[ruleV 0 0 (.slice none 0 0), .int .i64 0, .int .i64 0, .int .i64 0, .bool false]) ∧ Below w.heap.size w w' := by
  have HH := hid h
  have HQ1 := hid h1
  have HQ2 := hid h2
  have HSB : Hid ((1 ≤ s ∧ s ≤ 24) ∧ 1 ≤ r ∧ r ≤ 24) := by
    have h1 := HQ1.out
    simp only [fieldB, Bool.and_eq_true] at h1
    have := h1.1.1
    simp [sidesB] at this
    simp only [Hid]; omega
  have wrs : IntKind.i64.wrap (s - 1) = s - 1 := by have := HSB.out; rw [IntKind.wrap_i64]; omega
  have wrr : IntKind.i64.wrap (r - 1) = r - 1 := by have := HSB.out; rw [IntKind.wrap_i64]; omega
  obtain ⟨ao, cap, rfl, hc, hm, _⟩ := h
  clear hc hm h1 h2
  go_enter Tryd.func5, Tryd.ntmps5
  go_wp2_with fail
  obtain ⟨w1, hW⟩ : ∃ w1, w1 = (w.alloc (Obj.cells #[.int .i64 s, .int .i64 r, .slice ao zs.length cap] 26)).alloc (Obj.cells #[.int .i64 0, .int .i64 0, .slice none 0 0] 26) := ⟨_, rfl⟩
  obtain ⟨N, hN⟩ : ∃ N, N = w.heap.size := ⟨_, rfl⟩
  obtain ⟨NT, hM⟩ : ∃ NT, NT = N + 1 := ⟨_, rfl⟩
  have st : Below w.heap.size w w1 ∧ w1.cell? ⟨N, 0, none⟩ = some (.int .i64 s) ∧ w1.cell? ⟨N, 1, none⟩ = some (.int .i64 r) ∧ w1.cell? ⟨N, 2, none⟩ = some (.slice ao zs.length cap) ∧ Rd w1 b (.slice ao zs.length cap) zs ∧ w.heap.size ≤ w1.heap.size := by
    rw [hW, hN]
    exact ⟨Go.Joins.below_alloc2 _ _ _, by simp, by simp, by simp, HH.out.keep (Go.Joins.below_alloc2 _ _ _) (Nat.le_refl _), by simp; omega⟩
  have kT : w1.heap[NT]? = some (Obj.cells #[.int .i64 0, .int .i64 0, .slice none 0 0] 26) := by rw [hW]; exact FNew.heap_top (by rw [hM, hN]; simp)
  have HNT : Hid (w.heap.size ≤ NT) := by simp only [Hid]; omega
  have HNN : Hid (NT = N + 1 ∧ N = w.heap.size) := ⟨hM, hN⟩
  simp only [← hW, ← hN, ← hM]
  clear hW hN hM
  go_at_call 12
  refine (Can.l04Plain (rd3_1_0 st) st.2.1 st.2.2.1 st.2.2.2.1).mono ?_
  rw [HQ1.out]
  rintro e w2 ⟨rfl, m, hw2⟩
  have bel : Below w1.heap.size w1 w2 := by rw [hw2]; exact FSpec.below_drewN' _ _ _
  clear hw2
  replace st := next3_1 bel st
  replace kT := (bel.block NT (Array.getElem?_eq_some_iff.1 kT).1).trans kT
  clear bel

  have c0 := st.2.1
  have c1 := st.2.2.1
  go_wp2_with fail
  go_at_call 13
  refine (FSpec.quietIn HQ2.out).mono ?_
  rintro e w2 ⟨rfl, rfl⟩

  have HB := hid st.1
  have y0 : w2.cell? ⟨NT, 0, none⟩ = some (.int .i64 0) := Go.Joins.cell_of_block kT 0
  have y1 : w2.cell? ⟨NT, 1, none⟩ = some (.int .i64 0) := Go.Joins.cell_of_block kT 1
  have y2 : w2.cell? ⟨NT, 2, none⟩ = some (.slice none 0 0) := Go.Joins.cell_of_block kT 2
  have g0 : w2.frozen? ⟨NT, 0, none⟩ = false := Go.Joins.unfrozen_of_block kT 0
  have g1 : w2.frozen? ⟨NT, 1, none⟩ = false := Go.Joins.unfrozen_of_block kT 1
  have g2 : w2.frozen? ⟨NT, 2, none⟩ = false := Go.Joins.unfrozen_of_block kT 2
  have HKx := hid kT
  clear kT
  go_wp2
  obtain ⟨W5, hW⟩ : ∃ W5, W5 = (((w2.setCell ⟨NT, 0, none⟩ (.int .i64 0)).setCell ⟨NT, 1, none⟩ (.int .i64 0)).setCell ⟨NT, 2, none⟩ (.slice none 0 0)) := ⟨_, rfl⟩
  have q0 := (Go.Joins.block_setCell (i := 2) (Go.Joins.block_setCell (i := 1) (Go.Joins.block_setCell (i := 0) HKx.out (.int .i64 0)) (.int .i64 0)) (.slice none 0 0))
  rw [← hW] at q0
  have z0 : W5.cell? ⟨NT, 0, none⟩ = some (.int .i64 0) := Go.Joins.cell_of_block q0 0
  have z1 : W5.cell? ⟨NT, 1, none⟩ = some (.int .i64 0) := Go.Joins.cell_of_block q0 1
  have z2 : W5.cell? ⟨NT, 2, none⟩ = some (.slice none 0 0) := Go.Joins.cell_of_block q0 2
  have B5 : Below w.heap.size w W5 := by
    have h1 := HNT.out
    rw [hW]
    exact ((HB.out.setCell (by simp; omega) _).setCell (by simp; omega) _).setCell (by simp; omega) _
  simp only [← hW]
  clear hW q0
  simp [bodyPost, results, Tryd.results5, go_sem, z0, z1, z2]
  exact B5

set_option maxHeartbeats 2000000 in
theorem specNo3 {w : World} {s r row col way steps : Int} {b : Nat} {v : Value} {zs : List Int} (h : Rd w b v zs) (h1 : (fieldB s r zs && allB zs 2) = true) (h2 : decide (0 ≤ row ∧ row ≤ s - 1) = true) (h3 : decide (0 ≤ col ∧ col ≤ r - 1) = false) :
    Calls Tryd.prog 5 #[ruleV s r v, .int .i64 row, .int .i64 col, .int .i64 way, .int .i64 steps] w fun e w' => e = .returned (.tuple #[ruleV 0 0 (.slice none 0 0), .int .i64 0, .int .i64 0, .int .i64 0, .bool false]) ∧ Below w.heap.size w w' := by
  have HH := hid h
  have HQ1 := hid h1
  have HQ2 := hid h2
  have HQ3 := hid h3
  have HSB : Hid ((1 ≤ s ∧ s ≤ 24) ∧ 1 ≤ r ∧ r ≤ 24) := by
    have h1 := HQ1.out
    simp only [fieldB, Bool.and_eq_true] at h1
    have := h1.1.1
    simp [sidesB] at this
    simp only [Hid]; omega
  have wrs : IntKind.i64.wrap (s - 1) = s - 1 := by have := HSB.out; rw [IntKind.wrap_i64]; omega
  have wrr : IntKind.i64.wrap (r - 1) = r - 1 := by have := HSB.out; rw [IntKind.wrap_i64]; omega
  obtain ⟨ao, cap, rfl, hc, hm, _⟩ := h
  clear hc hm h1 h2 h3
  go_enter Tryd.func5, Tryd.ntmps5
  go_wp2_with fail
  obtain ⟨w1, hW⟩ : ∃ w1, w1 = (w.alloc (Obj.cells #[.int .i64 s, .int .i64 r, .slice ao zs.length cap] 26)).alloc (Obj.cells #[.int .i64 0, .int .i64 0, .slice none 0 0] 26) := ⟨_, rfl⟩
  obtain ⟨N, hN⟩ : ∃ N, N = w.heap.size := ⟨_, rfl⟩
  obtain ⟨NT, hM⟩ : ∃ NT, NT = N + 1 := ⟨_, rfl⟩
  have st : Below w.heap.size w w1 ∧ w1.cell? ⟨N, 0, none⟩ = some (.int .i64 s) ∧ w1.cell? ⟨N, 1, none⟩ = some (.int .i64 r) ∧ w1.cell? ⟨N, 2, none⟩ = some (.slice ao zs.length cap) ∧ Rd w1 b (.slice ao zs.length cap) zs ∧ w.heap.size ≤ w1.heap.size := by
    rw [hW, hN]
    exact ⟨Go.Joins.below_alloc2 _ _ _, by simp, by simp, by simp, HH.out.keep (Go.Joins.below_alloc2 _ _ _) (Nat.le_refl _), by simp; omega⟩
  have kT : w1.heap[NT]? = some (Obj.cells #[.int .i64 0, .int .i64 0, .slice none 0 0] 26) := by rw [hW]; exact FNew.heap_top (by rw [hM, hN]; simp)
  have HNT : Hid (w.heap.size ≤ NT) := by simp only [Hid]; omega
  have HNN : Hid (NT = N + 1 ∧ N = w.heap.size) := ⟨hM, hN⟩
  simp only [← hW, ← hN, ← hM]
  clear hW hN hM
  go_at_call 12
  refine (Can.l04Plain (rd3_1_0 st) st.2.1 st.2.2.1 st.2.2.2.1).mono ?_
  rw [HQ1.out]
  rintro e w2 ⟨rfl, m, hw2⟩
  have bel : Below w1.heap.size w1 w2 := by rw [hw2]; exact FSpec.below_drewN' _ _ _
  clear hw2
  replace st := next3_1 bel st
  replace kT := (bel.block NT (Array.getElem?_eq_some_iff.1 kT).1).trans kT
  clear bel

  have c0 := st.2.1
  have c1 := st.2.2.1
  go_wp2_with fail
  go_at_call 13
  refine (FSpec.quietIn HQ2.out).mono ?_
  rintro e w2 ⟨rfl, rfl⟩
  go_wp2_with fail
  go_at_call 13
  refine (FSpec.quietIn HQ3.out).mono ?_
  rintro e w2 ⟨rfl, rfl⟩

  have HB := hid st.1
  have y0 : w2.cell? ⟨NT, 0, none⟩ = some (.int .i64 0) := Go.Joins.cell_of_block kT 0
  have y1 : w2.cell? ⟨NT, 1, none⟩ = some (.int .i64 0) := Go.Joins.cell_of_block kT 1
  have y2 : w2.cell? ⟨NT, 2, none⟩ = some (.slice none 0 0) := Go.Joins.cell_of_block kT 2
  have g0 : w2.frozen? ⟨NT, 0, none⟩ = false := Go.Joins.unfrozen_of_block kT 0
  have g1 : w2.frozen? ⟨NT, 1, none⟩ = false := Go.Joins.unfrozen_of_block kT 1
  have g2 : w2.frozen? ⟨NT, 2, none⟩ = false := Go.Joins.unfrozen_of_block kT 2
  have HKx := hid kT
  clear kT
  go_wp2
  obtain ⟨W5, hW⟩ : ∃ W5, W5 = (((w2.setCell ⟨NT, 0, none⟩ (.int .i64 0)).setCell ⟨NT, 1, none⟩ (.int .i64 0)).setCell ⟨NT, 2, none⟩ (.slice none 0 0)) := ⟨_, rfl⟩
  have q0 := (Go.Joins.block_setCell (i := 2) (Go.Joins.block_setCell (i := 1) (Go.Joins.block_setCell (i := 0) HKx.out (.int .i64 0)) (.int .i64 0)) (.slice none 0 0))
  rw [← hW] at q0
  have z0 : W5.cell? ⟨NT, 0, none⟩ = some (.int .i64 0) := Go.Joins.cell_of_block q0 0
  have z1 : W5.cell? ⟨NT, 1, none⟩ = some (.int .i64 0) := Go.Joins.cell_of_block q0 1
  have z2 : W5.cell? ⟨NT, 2, none⟩ = some (.slice none 0 0) := Go.Joins.cell_of_block q0 2
  have B5 : Below w.heap.size w W5 := by
    have h1 := HNT.out
    rw [hW]
    exact ((HB.out.setCell (by simp; omega) _).setCell (by simp; omega) _).setCell (by simp; omega) _
  simp only [← hW]
  clear hW q0
  simp [bodyPost, results, Tryd.results5, go_sem, z0, z1, z2]
  exact B5

set_option maxHeartbeats 2000000 in
theorem specNo4 {w : World} {s r row col way steps : Int} {b : Nat} {v : Value} {zs : List Int} (h : Rd w b v zs) (h1 : (fieldB s r zs && allB zs 2) = true) (h2 : decide (0 ≤ row ∧ row ≤ s - 1) = true) (h3 : decide (0 ≤ col ∧ col ≤ r - 1) = true) (h4 : decide (0 ≤ way ∧ way ≤ 3) = false) :
    Calls Tryd.prog 5 #[ruleV s r v, .int .i64 row, .int .i64 col, .int .i64 way, .int .i64 steps] w fun e w' => e = .returned (.tuple #[ruleV 0 0 (.slice none 0 0), .int .i64 0, .int .i64 0, .int .i64 0, .bool false]) ∧ Below w.heap.size w w' := by
  have HH := hid h
  have HQ1 := hid h1
  have HQ2 := hid h2
  have HQ3 := hid h3
  have HQ4 := hid h4
  have HSB : Hid ((1 ≤ s ∧ s ≤ 24) ∧ 1 ≤ r ∧ r ≤ 24) := by
    have h1 := HQ1.out
    simp only [fieldB, Bool.and_eq_true] at h1
    have := h1.1.1
    simp [sidesB] at this
    simp only [Hid]; omega
  have wrs : IntKind.i64.wrap (s - 1) = s - 1 := by have := HSB.out; rw [IntKind.wrap_i64]; omega
  have wrr : IntKind.i64.wrap (r - 1) = r - 1 := by have := HSB.out; rw [IntKind.wrap_i64]; omega
  obtain ⟨ao, cap, rfl, hc, hm, _⟩ := h
  clear hc hm h1 h2 h3 h4
  go_enter Tryd.func5, Tryd.ntmps5
  go_wp2_with fail
  obtain ⟨w1, hW⟩ : ∃ w1, w1 = (w.alloc (Obj.cells #[.int .i64 s, .int .i64 r, .slice ao zs.length cap] 26)).alloc (Obj.cells #[.int .i64 0, .int .i64 0, .slice none 0 0] 26) := ⟨_, rfl⟩
  obtain ⟨N, hN⟩ : ∃ N, N = w.heap.size := ⟨_, rfl⟩
  obtain ⟨NT, hM⟩ : ∃ NT, NT = N + 1 := ⟨_, rfl⟩
  have st : Below w.heap.size w w1 ∧ w1.cell? ⟨N, 0, none⟩ = some (.int .i64 s) ∧ w1.cell? ⟨N, 1, none⟩ = some (.int .i64 r) ∧ w1.cell? ⟨N, 2, none⟩ = some (.slice ao zs.length cap) ∧ Rd w1 b (.slice ao zs.length cap) zs ∧ w.heap.size ≤ w1.heap.size := by
    rw [hW, hN]
    exact ⟨Go.Joins.below_alloc2 _ _ _, by simp, by simp, by simp, HH.out.keep (Go.Joins.below_alloc2 _ _ _) (Nat.le_refl _), by simp; omega⟩
  have kT : w1.heap[NT]? = some (Obj.cells #[.int .i64 0, .int .i64 0, .slice none 0 0] 26) := by rw [hW]; exact FNew.heap_top (by rw [hM, hN]; simp)
  have HNT : Hid (w.heap.size ≤ NT) := by simp only [Hid]; omega
  have HNN : Hid (NT = N + 1 ∧ N = w.heap.size) := ⟨hM, hN⟩
  simp only [← hW, ← hN, ← hM]
  clear hW hN hM
  go_at_call 12
  refine (Can.l04Plain (rd3_1_0 st) st.2.1 st.2.2.1 st.2.2.2.1).mono ?_
  rw [HQ1.out]
  rintro e w2 ⟨rfl, m, hw2⟩
  have bel : Below w1.heap.size w1 w2 := by rw [hw2]; exact FSpec.below_drewN' _ _ _
  clear hw2
  replace st := next3_1 bel st
  replace kT := (bel.block NT (Array.getElem?_eq_some_iff.1 kT).1).trans kT
  clear bel

  have c0 := st.2.1
  have c1 := st.2.2.1
  go_wp2_with fail
  go_at_call 13
  refine (FSpec.quietIn HQ2.out).mono ?_
  rintro e w2 ⟨rfl, rfl⟩
  go_wp2_with fail
  go_at_call 13
  refine (FSpec.quietIn HQ3.out).mono ?_
  rintro e w2 ⟨rfl, rfl⟩
  go_wp2_with fail
  go_at_call 13
  refine (FSpec.quietIn HQ4.out).mono ?_
  rintro e w2 ⟨rfl, rfl⟩

  have HB := hid st.1
  have y0 : w2.cell? ⟨NT, 0, none⟩ = some (.int .i64 0) := Go.Joins.cell_of_block kT 0
  have y1 : w2.cell? ⟨NT, 1, none⟩ = some (.int .i64 0) := Go.Joins.cell_of_block kT 1
  have y2 : w2.cell? ⟨NT, 2, none⟩ = some (.slice none 0 0) := Go.Joins.cell_of_block kT 2
  have g0 : w2.frozen? ⟨NT, 0, none⟩ = false := Go.Joins.unfrozen_of_block kT 0
  have g1 : w2.frozen? ⟨NT, 1, none⟩ = false := Go.Joins.unfrozen_of_block kT 1
  have g2 : w2.frozen? ⟨NT, 2, none⟩ = false := Go.Joins.unfrozen_of_block kT 2
  have HKx := hid kT
  clear kT
  go_wp2
  obtain ⟨W5, hW⟩ : ∃ W5, W5 = (((w2.setCell ⟨NT, 0, none⟩ (.int .i64 0)).setCell ⟨NT, 1, none⟩ (.int .i64 0)).setCell ⟨NT, 2, none⟩ (.slice none 0 0)) := ⟨_, rfl⟩
  have q0 := (Go.Joins.block_setCell (i := 2) (Go.Joins.block_setCell (i := 1) (Go.Joins.block_setCell (i := 0) HKx.out (.int .i64 0)) (.int .i64 0)) (.slice none 0 0))
  rw [← hW] at q0
  have z0 : W5.cell? ⟨NT, 0, none⟩ = some (.int .i64 0) := Go.Joins.cell_of_block q0 0
  have z1 : W5.cell? ⟨NT, 1, none⟩ = some (.int .i64 0) := Go.Joins.cell_of_block q0 1
  have z2 : W5.cell? ⟨NT, 2, none⟩ = some (.slice none 0 0) := Go.Joins.cell_of_block q0 2
  have B5 : Below w.heap.size w W5 := by
    have h1 := HNT.out
    rw [hW]
    exact ((HB.out.setCell (by simp; omega) _).setCell (by simp; omega) _).setCell (by simp; omega) _
  simp only [← hW]
  clear hW q0
  simp [bodyPost, results, Tryd.results5, go_sem, z0, z1, z2]
  exact B5

set_option maxHeartbeats 2000000 in
theorem specNo5 {w : World} {s r row col way steps : Int} {b : Nat} {v : Value} {zs : List Int} (h : Rd w b v zs) (h1 : (fieldB s r zs && allB zs 2) = true) (h2 : decide (0 ≤ row ∧ row ≤ s - 1) = true) (h3 : decide (0 ≤ col ∧ col ≤ r - 1) = true) (h4 : decide (0 ≤ way ∧ way ≤ 3) = true) (h5 : decide (0 ≤ steps ∧ steps ≤ 4096) = false) :
    Calls Tryd.prog 5 #[ruleV s r v, .int .i64 row, .int .i64 col, .int .i64 way, .int .i64 steps] w fun e w' => e = .returned (.tuple #[ruleV 0 0 (.slice none 0 0), .int .i64 0, .int .i64 0, .int .i64 0, .bool false]) ∧ Below w.heap.size w w' := by
  have HH := hid h
  have HQ1 := hid h1
  have HQ2 := hid h2
  have HQ3 := hid h3
  have HQ4 := hid h4
  have HQ5 := hid h5
  have HSB : Hid ((1 ≤ s ∧ s ≤ 24) ∧ 1 ≤ r ∧ r ≤ 24) := by
    have h1 := HQ1.out
    simp only [fieldB, Bool.and_eq_true] at h1
    have := h1.1.1
    simp [sidesB] at this
    simp only [Hid]; omega
  have wrs : IntKind.i64.wrap (s - 1) = s - 1 := by have := HSB.out; rw [IntKind.wrap_i64]; omega
  have wrr : IntKind.i64.wrap (r - 1) = r - 1 := by have := HSB.out; rw [IntKind.wrap_i64]; omega
  obtain ⟨ao, cap, rfl, hc, hm, _⟩ := h
  clear hc hm h1 h2 h3 h4 h5
  go_enter Tryd.func5, Tryd.ntmps5
  go_wp2_with fail
  obtain ⟨w1, hW⟩ : ∃ w1, w1 = (w.alloc (Obj.cells #[.int .i64 s, .int .i64 r, .slice ao zs.length cap] 26)).alloc (Obj.cells #[.int .i64 0, .int .i64 0, .slice none 0 0] 26) := ⟨_, rfl⟩
  obtain ⟨N, hN⟩ : ∃ N, N = w.heap.size := ⟨_, rfl⟩
  obtain ⟨NT, hM⟩ : ∃ NT, NT = N + 1 := ⟨_, rfl⟩
  have st : Below w.heap.size w w1 ∧ w1.cell? ⟨N, 0, none⟩ = some (.int .i64 s) ∧ w1.cell? ⟨N, 1, none⟩ = some (.int .i64 r) ∧ w1.cell? ⟨N, 2, none⟩ = some (.slice ao zs.length cap) ∧ Rd w1 b (.slice ao zs.length cap) zs ∧ w.heap.size ≤ w1.heap.size := by
    rw [hW, hN]
    exact ⟨Go.Joins.below_alloc2 _ _ _, by simp, by simp, by simp, HH.out.keep (Go.Joins.below_alloc2 _ _ _) (Nat.le_refl _), by simp; omega⟩
  have kT : w1.heap[NT]? = some (Obj.cells #[.int .i64 0, .int .i64 0, .slice none 0 0] 26) := by rw [hW]; exact FNew.heap_top (by rw [hM, hN]; simp)
  have HNT : Hid (w.heap.size ≤ NT) := by simp only [Hid]; omega
  have HNN : Hid (NT = N + 1 ∧ N = w.heap.size) := ⟨hM, hN⟩
  simp only [← hW, ← hN, ← hM]
  clear hW hN hM
  go_at_call 12
  refine (Can.l04Plain (rd3_1_0 st) st.2.1 st.2.2.1 st.2.2.2.1).mono ?_
  rw [HQ1.out]
  rintro e w2 ⟨rfl, m, hw2⟩
  have bel : Below w1.heap.size w1 w2 := by rw [hw2]; exact FSpec.below_drewN' _ _ _
  clear hw2
  replace st := next3_1 bel st
  replace kT := (bel.block NT (Array.getElem?_eq_some_iff.1 kT).1).trans kT
  clear bel

  have c0 := st.2.1
  have c1 := st.2.2.1
  go_wp2_with fail
  go_at_call 13
  refine (FSpec.quietIn HQ2.out).mono ?_
  rintro e w2 ⟨rfl, rfl⟩
  go_wp2_with fail
  go_at_call 13
  refine (FSpec.quietIn HQ3.out).mono ?_
  rintro e w2 ⟨rfl, rfl⟩
  go_wp2_with fail
  go_at_call 13
  refine (FSpec.quietIn HQ4.out).mono ?_
  rintro e w2 ⟨rfl, rfl⟩
  go_wp2_with fail
  go_at_call 13
  refine (FSpec.quietIn HQ5.out).mono ?_
  rintro e w2 ⟨rfl, rfl⟩

  have HB := hid st.1
  have y0 : w2.cell? ⟨NT, 0, none⟩ = some (.int .i64 0) := Go.Joins.cell_of_block kT 0
  have y1 : w2.cell? ⟨NT, 1, none⟩ = some (.int .i64 0) := Go.Joins.cell_of_block kT 1
  have y2 : w2.cell? ⟨NT, 2, none⟩ = some (.slice none 0 0) := Go.Joins.cell_of_block kT 2
  have g0 : w2.frozen? ⟨NT, 0, none⟩ = false := Go.Joins.unfrozen_of_block kT 0
  have g1 : w2.frozen? ⟨NT, 1, none⟩ = false := Go.Joins.unfrozen_of_block kT 1
  have g2 : w2.frozen? ⟨NT, 2, none⟩ = false := Go.Joins.unfrozen_of_block kT 2
  have HKx := hid kT
  clear kT
  go_wp2
  obtain ⟨W5, hW⟩ : ∃ W5, W5 = (((w2.setCell ⟨NT, 0, none⟩ (.int .i64 0)).setCell ⟨NT, 1, none⟩ (.int .i64 0)).setCell ⟨NT, 2, none⟩ (.slice none 0 0)) := ⟨_, rfl⟩
  have q0 := (Go.Joins.block_setCell (i := 2) (Go.Joins.block_setCell (i := 1) (Go.Joins.block_setCell (i := 0) HKx.out (.int .i64 0)) (.int .i64 0)) (.slice none 0 0))
  rw [← hW] at q0
  have z0 : W5.cell? ⟨NT, 0, none⟩ = some (.int .i64 0) := Go.Joins.cell_of_block q0 0
  have z1 : W5.cell? ⟨NT, 1, none⟩ = some (.int .i64 0) := Go.Joins.cell_of_block q0 1
  have z2 : W5.cell? ⟨NT, 2, none⟩ = some (.slice none 0 0) := Go.Joins.cell_of_block q0 2
  have B5 : Below w.heap.size w W5 := by
    have h1 := HNT.out
    rw [hW]
    exact ((HB.out.setCell (by simp; omega) _).setCell (by simp; omega) _).setCell (by simp; omega) _
  simp only [← hW]
  clear hW q0
  simp [bodyPost, results, Tryd.results5, go_sem, z0, z1, z2]
  exact B5

set_option maxHeartbeats 16000000 in
theorem specOk {w : World} {R C n r0 k0 S : Nat} {y0 : Int} {b : Nat} {v : Value} {zs : List Int} (h : Rd w b v zs) (h1 : (fieldB R C zs && allB zs 2) = true) (hn : n = R * C) (hr : r0 < R) (hc0 : k0 < C) (hy : 0 ≤ y0 ∧ y0 ≤ 3) (hS : S ≤ 4096) (hok : okS R C n ⟨zs, r0, k0, y0⟩) :
    Calls Tryd.prog 5 #[ruleV R C v, .int .i64 (r0 : Int), .int .i64 (k0 : Int), .int .i64 y0, .int .i64 (S : Int)] w fun e w' => ∃ b' k, e = .returned (.tuple #[ruleV R C (.slice (some ⟨b', 0, none⟩) n k), .int .i64 (run R C ⟨zs, r0, k0, y0⟩ S).r, .int .i64 (run R C ⟨zs, r0, k0, y0⟩ S).c, .int .i64 (run R C ⟨zs, r0, k0, y0⟩ S).y, .bool true]) ∧ Rd.Own 2 w' b' (.slice (some ⟨b', 0, none⟩) n k) (run R C ⟨zs, r0, k0, y0⟩ S).z ∧ w.heap.size ≤ b' ∧ Below w.heap.size w w' := by
  have hf : fieldB R C zs = true := by simp only [Bool.and_eq_true] at h1; exact h1.1
  obtain ⟨hR, hC, hl, hle⟩ := field_nat hf
  rw [← hn] at hl hle
  have HL0 := hid hl
  have HZ : Hid (1 ≤ zs.length ∧ zs.length ≤ 1048576) := by
    have : 0 < n := by rw [hn]; exact Nat.mul_pos hR.1 hC.1
    simp only [Hid]; omega
  have HRC := hid (And.intro hR hC)
  have wrs : IntKind.i64.wrap ((R : Int) - 1) = (R : Int) - 1 := by rw [IntKind.wrap_i64]; omega
  have wrr : IntKind.i64.wrap ((C : Int) - 1) = (C : Int) - 1 := by rw [IntKind.wrap_i64]; omega
  have HQ1 := hid h1
  have HQ2 : Hid (decide (0 ≤ (r0 : Int) ∧ (r0 : Int) ≤ (R : Int) - 1) = true) := by simp only [Hid, decide_eq_true_eq]; omega
  have HQ3 : Hid (decide (0 ≤ (k0 : Int) ∧ (k0 : Int) ≤ (C : Int) - 1) = true) := by simp only [Hid, decide_eq_true_eq]; omega
  have HQ4 : Hid (decide (0 ≤ y0 ∧ y0 ≤ 3) = true) := decide_eq_true hy
  have HQ5 : Hid (decide (0 ≤ (S : Int) ∧ (S : Int) ≤ 4096) = true) := by simp only [Hid, decide_eq_true_eq]; omega
  have HH := hid h
  have HN := hid hn
  have HLE := hid hle
  have HOK := hid (ok_run hn hok)
  have HSS := hid hS
  obtain ⟨ao, cap, rfl, hc, hm, _⟩ := h
  clear hc hm h1 hf hR hC hl hle hn hr hc0 hy hok hS
  go_enter Tryd.func5, Tryd.ntmps5
  go_wp2_with fail
  obtain ⟨w1, hW⟩ : ∃ w1, w1 = (w.alloc (Obj.cells #[.int .i64 R, .int .i64 C, .slice ao zs.length cap] 26)).alloc (Obj.cells #[.int .i64 0, .int .i64 0, .slice none 0 0] 26) := ⟨_, rfl⟩
  obtain ⟨N, hN⟩ : ∃ N, N = w.heap.size := ⟨_, rfl⟩
  obtain ⟨NT, hM⟩ : ∃ NT, NT = N + 1 := ⟨_, rfl⟩
  have st : Below w.heap.size w w1 ∧ w1.cell? ⟨N, 0, none⟩ = some (.int .i64 R) ∧ w1.cell? ⟨N, 1, none⟩ = some (.int .i64 C) ∧ w1.cell? ⟨N, 2, none⟩ = some (.slice ao zs.length cap) ∧ Rd w1 b (.slice ao zs.length cap) zs ∧ w.heap.size ≤ w1.heap.size := by
    rw [hW, hN]
    exact ⟨Go.Joins.below_alloc2 _ _ _, by simp, by simp, by simp, HH.out.keep (Go.Joins.below_alloc2 _ _ _) (Nat.le_refl _), by simp; omega⟩
  have kT : w1.heap[NT]? = some (Obj.cells #[.int .i64 0, .int .i64 0, .slice none 0 0] 26) := by rw [hW]; exact FNew.heap_top (by rw [hM, hN]; simp)
  have HNT : Hid (w.heap.size ≤ NT) := by simp only [Hid]; omega
  have HNN : Hid (NT = N + 1 ∧ N = w.heap.size) := ⟨hM, hN⟩
  simp only [← hW, ← hN, ← hM]
  clear hW hN hM
  go_at_call 12
  refine (Can.l04Plain (rd3_1_0 st) st.2.1 st.2.2.1 st.2.2.2.1).mono ?_
  rw [HQ1.out]
  rintro e w2 ⟨rfl, m, hw2⟩
  have bel : Below w1.heap.size w1 w2 := by rw [hw2]; exact FSpec.below_drewN' _ _ _
  clear hw2
  replace st := next3_1 bel st
  replace kT := (bel.block NT (Array.getElem?_eq_some_iff.1 kT).1).trans kT
  clear bel

  have c0 := st.2.1
  have c1 := st.2.2.1
  go_wp2_with fail
  go_at_call 13
  refine (FSpec.quietIn HQ2.out).mono ?_
  rintro e w2 ⟨rfl, rfl⟩
  go_wp2_with fail
  go_at_call 13
  refine (FSpec.quietIn HQ3.out).mono ?_
  rintro e w2 ⟨rfl, rfl⟩
  go_wp2_with fail
  go_at_call 13
  refine (FSpec.quietIn HQ4.out).mono ?_
  rintro e w2 ⟨rfl, rfl⟩
  go_wp2_with fail
  go_at_call 13
  refine (FSpec.quietIn HQ5.out).mono ?_
  rintro e w2 ⟨rfl, rfl⟩

  clear wrs wrr c0 c1
  go_wp2_with fail
  go_at_call 14
  refine (SOwn.l04Own st.2.1 st.2.2.1 st.2.2.2.1 (rd3_1_0 st) HZ.out).mono ?_
  rw [HL0.out]
  rintro e w3 ⟨b', k, rfl, ow, lo, hk1, hk2, bel⟩
  have HLO : Hid (w.heap.size ≤ b') := Nat.le_trans st.1.size lo
  have HNB : Hid (NT ≠ b') := Nat.ne_of_lt (Nat.lt_of_lt_of_le (heap_lt kT) lo)
  have HW4N : Hid (N ≠ b') := Nat.ne_of_lt (Nat.lt_of_lt_of_le (World.block_lt_of_cell? _ _ st.2.1) lo)
  replace kT := heap_keep bel kT
  replace st := next3_1 bel st
  clear bel lo hk1 hk2
  go_wp2_with fail
  obtain ⟨w4, hW⟩ : ∃ w4, w4 = w3.alloc (Obj.cells #[.int .i64 R, .int .i64 C, .slice (some ⟨b', 0, none⟩) n k] 26) := ⟨_, rfl⟩
  obtain ⟨NX, hN⟩ : ∃ NX, NX = w3.heap.size := ⟨_, rfl⟩
  have bel : Below w3.heap.size w3 w4 := by rw [hW]; exact below1 _ _
  have HKX : Hid (w4.heap[NX]? = some (Obj.cells #[.int .i64 R, .int .i64 C, .slice (some ⟨b', 0, none⟩) n k] 26)) := by simp only [Hid]; rw [hW]; exact FNew.heap_top hN
  have HWb : Hid (NX ≠ b') := by simp only [Hid]; rw [hN]; exact Nat.ne_of_gt ow.lt
  have HKT := hid (heap_keep bel kT)
  have HOW4 := hid (ow.keep bel)
  replace st := next3_1 bel st
  have HB4 := hid st.1
  have HNb2 : Hid True := trivial
  have HN0 := hid (And.intro st.2.1 st.2.2.1)
  simp only [← hW, ← hN]
  clear hW hN bel kT ow
  clear st
  go_loopw [1, 2, 3, 4] (fun a1 a2 a3 a4 wr => ∃ j : Nat, j ≤ S ∧ a1 = .int .i64 ((run R C ⟨zs, r0, k0, y0⟩ j).r : Int) ∧ a2 = .int .i64 ((run R C ⟨zs, r0, k0, y0⟩ j).c : Int) ∧ a3 = .int .i64 (run R C ⟨zs, r0, k0, y0⟩ j).y ∧ a4 = .int .i64 ((S : Int) - (j : Int)) ∧ w4.grownBy wr (some b') ∧ Rd.Own 2 wr b' (.slice (some ⟨b', 0, none⟩) n k) (run R C ⟨zs, r0, k0, y0⟩ j).z) (fun _ _ _ a4 _ => (intOf a4).toNat)
  case atStart => exact ⟨0, Nat.zero_le _, rfl, rfl, rfl, by simp, g_refl _ _, HOW4.out⟩
  case round =>
    obtain ⟨j, hj, rfl, rfl, rfl, rfl, hg, ho⟩ := hrel
    have HB := hid (g_below HB4.out hg HLO.out)
    have HG := hid hg
    clear hg
    obtain ⟨s1, hs1⟩ : ∃ s1, s1 = run R C ⟨zs, r0, k0, y0⟩ j := ⟨_, rfl⟩
    have hok := HOK.out j
    rw [← hs1] at ho hok ⊢
    obtain ⟨r, hr⟩ : ∃ r, r = s1.r := ⟨_, rfl⟩
    obtain ⟨c, hc⟩ : ∃ c, c = s1.c := ⟨_, rfl⟩
    obtain ⟨y, hy⟩ : ∃ y, y = s1.y := ⟨_, rfl⟩
    obtain ⟨z, hz⟩ : ∃ z, z = s1.z := ⟨_, rfl⟩
    have HS1 : Hid ((⟨z, r, c, y⟩ : St) = run R C ⟨zs, r0, k0, y0⟩ j) := by simp only [Hid]; rw [← hs1, hr, hc, hy, hz]
    unfold okS at hok
    rw [← hr, ← hc, ← hy, ← hz] at hok
    rw [← hz] at ho
    rw [← hr, ← hc, ← hy]
    clear hr hc hy hz hs1
    obtain ⟨h1, h2, h3, h4, h5, h6⟩ := hok
    have HOW := hid ho
    clear ho
    by_cases hlt : j < S
    · have hgt : (0 : Int) < (S : Int) - (j : Int) := by omega
      have hRC := HRC.out
      obtain ⟨L, hL⟩ : ∃ L, L = r * C := ⟨_, rfl⟩
      obtain ⟨P, hP⟩ : ∃ P, P = L + c := ⟨_, rfl⟩
      have hpn : P < n := by rw [hP, hL, HN.out]; exact pos_bd h3 h4
      have hle := HLE.out
      have e1 : IntKind.i64.wrap ((r : Int) * (C : Int)) = (L : Int) := by rw [hL]; exact (wrap_pos (k := c) (by omega)).1
      have e2 : IntKind.i64.wrap ((L : Int) + (c : Int)) = (P : Int) := by rw [IntKind.wrap_i64]; omega
      have e3 : IntKind.i64.wrap ((S : Int) - (j : Int) - 1) = (S : Int) - (j : Int) - 1 := by have := HSS.out; rw [IntKind.wrap_i64]; omega
      have hpi : (P : Int) < (n : Int) := by omega
      have HPL : Hid (P < z.length) := by simp only [Hid]; rw [h1]; exact hpn
      have hx2 := h2 P
      have HL := hid hL
      have HPP := hid hP
      have oc0 : wr.cell? ⟨b', P, none⟩ = some (.int .i64 (z.getD P 0)) := HOW.out.cell HPL.out
      have x2 : wr.cell? ⟨NX, 2, none⟩ = some (.slice (some ⟨b', 0, none⟩) n k) := g_cell HG.out (Go.Joins.cell_of_block HKX.out 2) HWb.out
      have c1 : wr.cell? ⟨N, 1, none⟩ = some (.int .i64 (C : Int)) := g_cell HG.out HN0.out.2 HW4N.out
      have hyb : 0 ≤ y ∧ y ≤ 3 := ⟨h5, h6⟩
      clear h2 hL hP h5 h6
      rcases hx2 with hx | hx
      · obtain ⟨yn, hyn⟩ : ∃ yn : Nat, (y + 1) % 4 = (yn : Int) := ⟨((y + 1) % 4).toNat, by omega⟩
        have HYN : Hid (yn < 4) := by simp only [Hid]; omega
        have HTR : Hid (trn 0 y = (yn : Int)) := by simp only [Hid, trn]; rw [← hyn]; simp
        have wy : IntKind.i64.wrap (y + 1) = y + 1 := by rw [IntKind.wrap_i64]; omega
        have hyt : (y + 1).tmod 4 = (yn : Int) := by rw [Int.tmod_eq_emod_of_nonneg (by omega)]; exact hyn
        have hdb := dd_bd (yn : Int)
        have HXb : Hid ((-1000000 ≤ (r : Int) + ddr (yn : Int) ∧ (r : Int) + ddr (yn : Int) ≤ 1000000) ∧ -1000000 ≤ (c : Int) + ddc (yn : Int) ∧ (c : Int) + ddc (yn : Int) ≤ 1000000) := by simp only [Hid]; omega
        have wr1 : IntKind.i64.wrap ((r : Int) + ddr (yn : Int)) = (r : Int) + ddr (yn : Int) := by rw [IntKind.wrap_i64]; omega
        have wr2 : IntKind.i64.wrap ((c : Int) + ddc (yn : Int)) = (c : Int) + ddc (yn : Int) := by rw [IntKind.wrap_i64]; omega
        have hyi : (yn : Int) < 4 := by have := HYN.out; omega
        have HXV := hid hx
        clear hx oc0
        have oc : wr.cell? ⟨b', P, none⟩ = some (.int .i64 0) := by rw [← HXV.out]; exact HOW.out.cell HPL.out
        have of := HOW.out.free P
        go_upto_region 10 with fail
        (try simp only [hyt])
        go_still_tail 10, (by kernel_rfl)
        change wpList _ _ _ _ _ wr.drew
        have ocd : wr.drew.cell? ⟨b', P, none⟩ = some (.int .i64 0) := oc
        have ofd : wr.drew.frozen? ⟨b', P, none⟩ = false := of
        obtain ⟨wd, hwd⟩ : ∃ wd, wd = wr.drew := ⟨_, rfl⟩
        have HGd : Hid (w4.grownBy wd (some b')) := by simp only [Hid]; rw [hwd]; exact g_drew HG.out
        have HOd : Hid (Rd.Own 2 wd b' (.slice (some ⟨b', 0, none⟩) n k) z) := by simp only [Hid]; rw [hwd]; exact HOW.out
        rw [← hwd] at ocd ofd ⊢
        clear hwd oc of x2 c1
        go_wp2_with fail
        obtain ⟨ws, hws⟩ : ∃ ws, ws = wd.setCell ⟨b', P, none⟩ (.int .i64 1) := ⟨_, rfl⟩
        have HGS : Hid (w4.grownBy ws (some b')) := by simp only [Hid]; rw [hws]; exact g_set HGd.out P _
        have HOS : Hid (Rd.Own 2 ws b' (.slice (some ⟨b', 0, none⟩) n k) (z.set P 1)) := by simp only [Hid]; rw [hws]; exact HOd.out.set P 1
        simp only [← hws]
        clear hws ocd ofd HGd HOd hyn hyt wy hdb hyb
        obtain ⟨X, hX⟩ : ∃ X, X = (((r : Int) + ddr (yn : Int)) % (R : Int)).toNat := ⟨_, rfl⟩
        obtain ⟨Y, hY⟩ : ∃ Y, Y = (((c : Int) + ddc (yn : Int)) % (C : Int)).toNat := ⟨_, rfl⟩
        have hXb : X < R := by rw [hX]; exact (Rnd.rnd_lt _ HRC.out.1.1).2
        have hYb : Y < C := by rw [hY]; exact (Rnd.rnd_lt _ HRC.out.2.1).2
        obtain ⟨T, hT⟩ : ∃ T, T = X * C + Y := ⟨_, rfl⟩
        have eq : (T : Int) / (C : Int) = (X : Int) := by rw [hT, ← Int.natCast_ediv, (pos_div hYb).1]
        have em : (T : Int) % (C : Int) = (Y : Int) := by rw [hT, ← Int.natCast_emod, (pos_div hYb).2]
        have hC0 : ¬ (C : Int) = 0 := by have := HRC.out; omega
        have HXX := hid (And.intro hX hY)
        have HTT := hid hT
        clear hX hY hT
        (try refine Box.wp_noPanic ?_)
        refine wp_region_held_drew (S := (fun ww => Below w.heap.size w ww ∧ ww.cell? ⟨N, 0, none⟩ = some (.int .i64 (R : Int)) ∧ ww.cell? ⟨N, 1, none⟩ = some (.int .i64 (C : Int)) ∧ w.heap.size ≤ ww.heap.size)) (by kernel_rfl) ?_ (fun hHeld => ?_)
        · ((try dsimp only); exact ⟨g_below HB4.out (g_drew HGS.out) HLO.out, g_cell (g_drew HGS.out) HN0.out.1 HW4N.out, g_cell (g_drew HGS.out) HN0.out.2 HW4N.out, (g_below HB4.out (g_drew HGS.out) HLO.out).size⟩)
        obtain ⟨wD, hDr⟩ : ∃ wD, wD = ws.drew := ⟨_, rfl⟩
        have oO : Rd.Own 2 wD b' (.slice (some ⟨b', 0, none⟩) n k) (z.set P 1) := by rw [hDr]; exact HOS.out
        have HGD : Hid (w4.grownBy wD (some b')) := by simp only [Hid]; rw [hDr]; exact g_drew HGS.out
        simp only [← hDr] at hHeld ⊢
        clear hDr
        (try dsimp only at hHeld)
        have HD0 := hid hHeld
        have belD : Below wD.heap.size wD wD := Below.refl _ _
        (refine wpAnyH_take (i := 0) (v := ?_) rfl ?_ ?_ ?_ (fun _ _ _ h => h) (Or.inl ⟨?_, ?_⟩) ?_ ?_; rotate_left 1; (focus decide +kernel); (focus decide +kernel); (focus decide +kernel); (focus rfl); (focus (intro w hSw; (try dsimp only at hSw); go_simp; (try (with_reducible rfl)); done)); (focus assumption); (try simp only [Act.put, List.setIfInBounds_toArray, List.set_cons_zero, List.set_cons_succ, List.getElem_toArray, List.getElem_cons_succ, List.getElem_cons_zero]))
        (refine wpAnyH_take (i := 2) (v := ?_) rfl ?_ ?_ ?_ (fun _ _ _ h => h) (Or.inl ⟨?_, ?_⟩) ?_ ?_; rotate_left 1; (focus decide +kernel); (focus decide +kernel); (focus decide +kernel); (focus rfl); (focus (intro w hSw; (try dsimp only at hSw); go_simp; (try (with_reducible rfl)); done)); (focus assumption); (try simp only [Act.put, List.setIfInBounds_toArray, List.set_cons_zero, List.set_cons_succ, List.getElem_toArray, List.getElem_cons_succ, List.getElem_cons_zero]))
        (refine wpAnyH_take (i := 6) (v := ?_) rfl ?_ ?_ ?_ (fun _ _ _ h => h) (Or.inl ⟨?_, ?_⟩) ?_ ?_; rotate_left 1; (focus decide +kernel); (focus decide +kernel); (focus decide +kernel); (focus rfl); (focus (intro w hSw; (try dsimp only at hSw); go_simp; (try (with_reducible rfl)); done)); (focus assumption); (try simp only [Act.put, List.setIfInBounds_toArray, List.set_cons_zero, List.set_cons_succ, List.getElem_toArray, List.getElem_cons_succ, List.getElem_cons_zero]))
        (refine wpAnyH_take (i := 8) (v := ?_) rfl ?_ ?_ ?_ (fun _ _ _ h => h) (Or.inl ⟨?_, ?_⟩) ?_ ?_; rotate_left 1; (focus decide +kernel); (focus decide +kernel); (focus decide +kernel); (focus rfl); (focus (intro w hSw; (try dsimp only at hSw); go_simp; (try (with_reducible rfl)); done)); (focus assumption); (try simp only [Act.put, List.setIfInBounds_toArray, List.set_cons_zero, List.set_cons_succ, List.getElem_toArray, List.getElem_cons_succ, List.getElem_cons_zero]))
        refine wpAnyH_ready (rs := [1, 7]) ?_ (by simp) ?_
        · decide +kernel
        refine AllReadyH.cons rfl (fun K hK => ?_) (AllReadyH.cons rfl (fun K hK => ?_) AllReadyH.nil)
        · go_simp
          have bel := below1 wD (Obj.cells #[.int .i64 (-1), .int .i64 0, .int .i64 1, .int .i64 0] 2)
          have lmS := belD.size
          have ltO := (oO.lt)
          replace belD := belD.trans (bel.mono belD.size)
          replace oO := oO.keep bel
          refine hK.out _ _ ?_ (fun hHeld2 => ?_)
          · (try dsimp only); exact next2_0 belD HD0.out
          clear hK K hHeld bel
          obtain ⟨wa1, hWa⟩ : ∃ wa1, wa1 = wD.alloc (Obj.cells #[.int .i64 (-1), .int .i64 0, .int .i64 1, .int .i64 0] 2) := ⟨_, rfl⟩
          obtain ⟨NA, hNa⟩ : ∃ NA, NA = wD.heap.size := ⟨_, rfl⟩
          have kA : wa1.heap[NA]? = some (Obj.cells #[.int .i64 (-1), .int .i64 0, .int .i64 1, .int .i64 0] 2) := by rw [hWa]; exact FNew.heap_top hNa
          have lmA : wD.heap.size ≤ NA := by rw [hNa]; exact lmS
          clear lmS
          have nO_A : b' ≠ NA := by rw [hNa]; exact Nat.ne_of_lt ltO
          clear ltO
          rw [← hWa] at belD oO
          (try dsimp only at hHeld2)
          simp only [← hWa, ← hNa] at hHeld2 ⊢
          clear hWa hNa
          have hHeld := hHeld2
          clear hHeld2
          (try simp only [Act.put, List.setIfInBounds_toArray, List.set_cons_zero, List.set_cons_succ, List.getElem_toArray, List.getElem_cons_succ, List.getElem_cons_zero])
          (refine wpAnyH_take (i := 3) (v := ?_) rfl ?_ ?_ ?_ (fun _ _ _ h => h) (Or.inl ⟨?_, ?_⟩) ?_ ?_; rotate_left 1; (focus decide +kernel); (focus decide +kernel); (focus decide +kernel); (focus rfl); (focus (intro w hSw; (try dsimp only at hSw); go_simp; (try (with_reducible rfl)); done)); (focus assumption); (try simp only [Act.put, List.setIfInBounds_toArray, List.set_cons_zero, List.set_cons_succ, List.getElem_toArray, List.getElem_cons_succ, List.getElem_cons_zero]))
          refine wpAnyH_ready (rs := [4, 7]) ?_ (by simp) ?_
          · decide +kernel
          refine AllReadyH.cons rfl (fun K hK => ?_) (AllReadyH.cons rfl (fun K hK => ?_) AllReadyH.nil)
          · have kv : wa1.cell? ⟨NA, yn, none⟩ = some (.int .i64 (ddr (yn : Int))) := ld_r kA HYN.out
            go_simp
            refine hK.out _ _ ?_ (fun hHeld2 => ?_)
            · (try dsimp only); exact hHeld
            clear hK K hHeld kv
            have hHeld := hHeld2
            clear hHeld2
            (try simp only [Act.put, List.setIfInBounds_toArray, List.set_cons_zero, List.set_cons_succ, List.getElem_toArray, List.getElem_cons_succ, List.getElem_cons_zero])
            (refine wpAnyH_take (i := 5) (v := ?_) rfl ?_ ?_ ?_ (fun _ _ _ h => h) (Or.inl ⟨?_, ?_⟩) ?_ ?_; rotate_left 1; (focus decide +kernel); (focus decide +kernel); (focus decide +kernel); (focus rfl); (focus (intro w hSw; (try dsimp only at hSw); go_simp; (try (with_reducible rfl)); done)); (focus assumption); (try simp only [Act.put, List.setIfInBounds_toArray, List.set_cons_zero, List.set_cons_succ, List.getElem_toArray, List.getElem_cons_succ, List.getElem_cons_zero]))
            refine wpAnyH_ready (rs := [7]) ?_ (by simp) ?_
            · decide +kernel
            refine AllReadyH.cons rfl (fun K hK => ?_) AllReadyH.nil
            go_simp
            have bel := below1 wa1 (Obj.cells #[.int .i64 0, .int .i64 1, .int .i64 0, .int .i64 (-1)] 2)
            have lmS := belD.size
            have ltO := (oO.lt)
            have ltA := (heap_lt kA)
            replace belD := belD.trans (bel.mono belD.size)
            replace oO := oO.keep bel
            replace kA := heap_keep bel kA
            refine hK.out _ _ ?_ (fun hHeld2 => ?_)
            · (try dsimp only); exact next2_0 belD HD0.out
            clear hK K hHeld bel
            obtain ⟨wa2, hWa⟩ : ∃ wa2, wa2 = wa1.alloc (Obj.cells #[.int .i64 0, .int .i64 1, .int .i64 0, .int .i64 (-1)] 2) := ⟨_, rfl⟩
            obtain ⟨NBx, hNa⟩ : ∃ NBx, NBx = wa1.heap.size := ⟨_, rfl⟩
            have kB : wa2.heap[NBx]? = some (Obj.cells #[.int .i64 0, .int .i64 1, .int .i64 0, .int .i64 (-1)] 2) := by rw [hWa]; exact FNew.heap_top hNa
            have lmB : wD.heap.size ≤ NBx := by rw [hNa]; exact lmS
            clear lmS
            have nO_B : b' ≠ NBx := by rw [hNa]; exact Nat.ne_of_lt ltO
            clear ltO
            have nA_B : NA ≠ NBx := by rw [hNa]; exact Nat.ne_of_lt ltA
            clear ltA
            rw [← hWa] at belD oO kA
            (try dsimp only at hHeld2)
            simp only [← hWa, ← hNa] at hHeld2 ⊢
            clear hWa hNa
            have hHeld := hHeld2
            clear hHeld2
            (try simp only [Act.put, List.setIfInBounds_toArray, List.set_cons_zero, List.set_cons_succ, List.getElem_toArray, List.getElem_cons_succ, List.getElem_cons_zero])
            (refine wpAnyH_take (i := 9) (v := ?_) rfl ?_ ?_ ?_ (fun _ _ _ h => h) (Or.inl ⟨?_, ?_⟩) ?_ ?_; rotate_left 1; (focus decide +kernel); (focus decide +kernel); (focus decide +kernel); (focus rfl); (focus (intro w hSw; (try dsimp only at hSw); go_simp; (try (with_reducible rfl)); done)); (focus assumption); (try simp only [Act.put, List.setIfInBounds_toArray, List.set_cons_zero, List.set_cons_succ, List.getElem_toArray, List.getElem_cons_succ, List.getElem_cons_zero]))
            refine wpAnyH_ready (rs := [10]) ?_ (by simp) ?_
            · decide +kernel
            refine AllReadyH.cons rfl (fun K hK => ?_) AllReadyH.nil
            have kv : wa2.cell? ⟨NBx, yn, none⟩ = some (.int .i64 (ddc (yn : Int))) := ld_c kB HYN.out
            go_simp
            refine hK.out _ _ ?_ (fun hHeld2 => ?_)
            · (try dsimp only); exact hHeld
            clear hK K hHeld kv
            have hHeld := hHeld2
            clear hHeld2
            (try simp only [Act.put, List.setIfInBounds_toArray, List.set_cons_zero, List.set_cons_succ, List.getElem_toArray, List.getElem_cons_succ, List.getElem_cons_zero])
            (refine wpAnyH_take (i := 11) (v := ?_) rfl ?_ ?_ ?_ (fun _ _ _ h => h) (Or.inl ⟨?_, ?_⟩) ?_ ?_; rotate_left 1; (focus decide +kernel); (focus decide +kernel); (focus decide +kernel); (focus rfl); (focus (intro w hSw; (try dsimp only at hSw); go_simp; (try (with_reducible rfl)); done)); (focus assumption); (try simp only [Act.put, List.setIfInBounds_toArray, List.set_cons_zero, List.set_cons_succ, List.getElem_toArray, List.getElem_cons_succ, List.getElem_cons_zero]))
            refine wpAnyH_ready (rs := [12]) ?_ (by simp) ?_
            · decide +kernel
            refine AllReadyH.cons rfl (fun K hK => ?_) AllReadyH.nil
            go_simp
            go_at_call 15
            refine (roundT hHeld.2.1 hHeld.2.2.1 HRC.out.1 HRC.out.2 HXb.out.1 HXb.out.2 HXX.out.1 HXX.out.2 HTT.out).mono ?_
            rintro e wq ⟨rfl, m, hm⟩
            have bel : Below wa2.heap.size wa2 wq := by rw [hm]; exact FSpec.below_drewN' _ _ _
            clear hm
            replace belD := belD.trans (bel.mono belD.size)
            replace oO := oO.keep bel
            replace kA := heap_keep bel kA
            replace kB := heap_keep bel kB
            refine hK.out _ _ ?_ (fun hHeld2 => ?_)
            · (try dsimp only); exact next2_0 belD HD0.out
            clear hK K hHeld bel
            have hHeld := hHeld2
            clear hHeld2
            (try simp only [Act.put, List.setIfInBounds_toArray, List.set_cons_zero, List.set_cons_succ, List.getElem_toArray, List.getElem_cons_succ, List.getElem_cons_zero])
            (refine wpAnyH_take (i := 13) (v := ?_) rfl ?_ ?_ ?_ (fun _ _ _ h => h) (Or.inl ⟨?_, ?_⟩) ?_ ?_; rotate_left 1; (focus decide +kernel); (focus decide +kernel); (focus decide +kernel); (focus rfl); (focus (intro w hSw; (try dsimp only at hSw); go_simp; (try (with_reducible rfl)); done)); (focus assumption); (try simp only [Act.put, List.setIfInBounds_toArray, List.set_cons_zero, List.set_cons_succ, List.getElem_toArray, List.getElem_cons_succ, List.getElem_cons_zero]))
            refine wpAnyH_done (by kernel_rfl) ?_ _
            have HGq := hid (g_bel HGD.out belD)
            have HOq := hid oO
            have c1 := hHeld.2.2.1
            clear hHeld belD oO kA kB
            go_wp2
            go_roundw
            case rel =>
              refine ⟨j + 1, by omega, ?_, ?_, ?_, by go_num, HGq.out, ?_⟩
              · simp only [run, stp]; rw [← HS1.out, ← HL.out, ← HPP.out, HXV.out, HTR.out, HXX.out.1]
              · simp only [run, stp]; rw [← HS1.out, ← HL.out, ← HPP.out, HXV.out, HTR.out, em, HXX.out.2]
              · simp only [run, stp]; rw [← HS1.out, ← HL.out, ← HPP.out, HXV.out, HTR.out]
              · simp only [run, stp]; rw [← HS1.out, ← HL.out, ← HPP.out, HXV.out]; exact HOq.out
            case measure => simp [intOf]; omega
          · go_simp
            have bel := below1 wa1 (Obj.cells #[.int .i64 0, .int .i64 1, .int .i64 0, .int .i64 (-1)] 2)
            have lmS := belD.size
            have ltO := (oO.lt)
            have ltA := (heap_lt kA)
            replace belD := belD.trans (bel.mono belD.size)
            replace oO := oO.keep bel
            replace kA := heap_keep bel kA
            refine hK.out _ _ ?_ (fun hHeld2 => ?_)
            · (try dsimp only); exact next2_0 belD HD0.out
            clear hK K hHeld bel
            obtain ⟨wa2, hWa⟩ : ∃ wa2, wa2 = wa1.alloc (Obj.cells #[.int .i64 0, .int .i64 1, .int .i64 0, .int .i64 (-1)] 2) := ⟨_, rfl⟩
            obtain ⟨NBx, hNa⟩ : ∃ NBx, NBx = wa1.heap.size := ⟨_, rfl⟩
            have kB : wa2.heap[NBx]? = some (Obj.cells #[.int .i64 0, .int .i64 1, .int .i64 0, .int .i64 (-1)] 2) := by rw [hWa]; exact FNew.heap_top hNa
            have lmB : wD.heap.size ≤ NBx := by rw [hNa]; exact lmS
            clear lmS
            have nO_B : b' ≠ NBx := by rw [hNa]; exact Nat.ne_of_lt ltO
            clear ltO
            have nA_B : NA ≠ NBx := by rw [hNa]; exact Nat.ne_of_lt ltA
            clear ltA
            rw [← hWa] at belD oO kA
            (try dsimp only at hHeld2)
            simp only [← hWa, ← hNa] at hHeld2 ⊢
            clear hWa hNa
            have hHeld := hHeld2
            clear hHeld2
            (try simp only [Act.put, List.setIfInBounds_toArray, List.set_cons_zero, List.set_cons_succ, List.getElem_toArray, List.getElem_cons_succ, List.getElem_cons_zero])
            (refine wpAnyH_take (i := 9) (v := ?_) rfl ?_ ?_ ?_ (fun _ _ _ h => h) (Or.inl ⟨?_, ?_⟩) ?_ ?_; rotate_left 1; (focus decide +kernel); (focus decide +kernel); (focus decide +kernel); (focus rfl); (focus (intro w hSw; (try dsimp only at hSw); go_simp; (try (with_reducible rfl)); done)); (focus assumption); (try simp only [Act.put, List.setIfInBounds_toArray, List.set_cons_zero, List.set_cons_succ, List.getElem_toArray, List.getElem_cons_succ, List.getElem_cons_zero]))
            refine wpAnyH_ready (rs := [4, 10]) ?_ (by simp) ?_
            · decide +kernel
            refine AllReadyH.cons rfl (fun K hK => ?_) (AllReadyH.cons rfl (fun K hK => ?_) AllReadyH.nil)
            · have kv : wa2.cell? ⟨NA, yn, none⟩ = some (.int .i64 (ddr (yn : Int))) := ld_r kA HYN.out
              go_simp
              refine hK.out _ _ ?_ (fun hHeld2 => ?_)
              · (try dsimp only); exact hHeld
              clear hK K hHeld kv
              have hHeld := hHeld2
              clear hHeld2
              (try simp only [Act.put, List.setIfInBounds_toArray, List.set_cons_zero, List.set_cons_succ, List.getElem_toArray, List.getElem_cons_succ, List.getElem_cons_zero])
              (refine wpAnyH_take (i := 5) (v := ?_) rfl ?_ ?_ ?_ (fun _ _ _ h => h) (Or.inl ⟨?_, ?_⟩) ?_ ?_; rotate_left 1; (focus decide +kernel); (focus decide +kernel); (focus decide +kernel); (focus rfl); (focus (intro w hSw; (try dsimp only at hSw); go_simp; (try (with_reducible rfl)); done)); (focus assumption); (try simp only [Act.put, List.setIfInBounds_toArray, List.set_cons_zero, List.set_cons_succ, List.getElem_toArray, List.getElem_cons_succ, List.getElem_cons_zero]))
              refine wpAnyH_ready (rs := [10]) ?_ (by simp) ?_
              · decide +kernel
              refine AllReadyH.cons rfl (fun K hK => ?_) AllReadyH.nil
              have kv : wa2.cell? ⟨NBx, yn, none⟩ = some (.int .i64 (ddc (yn : Int))) := ld_c kB HYN.out
              go_simp
              refine hK.out _ _ ?_ (fun hHeld2 => ?_)
              · (try dsimp only); exact hHeld
              clear hK K hHeld kv
              have hHeld := hHeld2
              clear hHeld2
              (try simp only [Act.put, List.setIfInBounds_toArray, List.set_cons_zero, List.set_cons_succ, List.getElem_toArray, List.getElem_cons_succ, List.getElem_cons_zero])
              (refine wpAnyH_take (i := 11) (v := ?_) rfl ?_ ?_ ?_ (fun _ _ _ h => h) (Or.inl ⟨?_, ?_⟩) ?_ ?_; rotate_left 1; (focus decide +kernel); (focus decide +kernel); (focus decide +kernel); (focus rfl); (focus (intro w hSw; (try dsimp only at hSw); go_simp; (try (with_reducible rfl)); done)); (focus assumption); (try simp only [Act.put, List.setIfInBounds_toArray, List.set_cons_zero, List.set_cons_succ, List.getElem_toArray, List.getElem_cons_succ, List.getElem_cons_zero]))
              refine wpAnyH_ready (rs := [12]) ?_ (by simp) ?_
              · decide +kernel
              refine AllReadyH.cons rfl (fun K hK => ?_) AllReadyH.nil
              go_simp
              go_at_call 15
              refine (roundT hHeld.2.1 hHeld.2.2.1 HRC.out.1 HRC.out.2 HXb.out.1 HXb.out.2 HXX.out.1 HXX.out.2 HTT.out).mono ?_
              rintro e wq ⟨rfl, m, hm⟩
              have bel : Below wa2.heap.size wa2 wq := by rw [hm]; exact FSpec.below_drewN' _ _ _
              clear hm
              replace belD := belD.trans (bel.mono belD.size)
              replace oO := oO.keep bel
              replace kA := heap_keep bel kA
              replace kB := heap_keep bel kB
              refine hK.out _ _ ?_ (fun hHeld2 => ?_)
              · (try dsimp only); exact next2_0 belD HD0.out
              clear hK K hHeld bel
              have hHeld := hHeld2
              clear hHeld2
              (try simp only [Act.put, List.setIfInBounds_toArray, List.set_cons_zero, List.set_cons_succ, List.getElem_toArray, List.getElem_cons_succ, List.getElem_cons_zero])
              (refine wpAnyH_take (i := 13) (v := ?_) rfl ?_ ?_ ?_ (fun _ _ _ h => h) (Or.inl ⟨?_, ?_⟩) ?_ ?_; rotate_left 1; (focus decide +kernel); (focus decide +kernel); (focus decide +kernel); (focus rfl); (focus (intro w hSw; (try dsimp only at hSw); go_simp; (try (with_reducible rfl)); done)); (focus assumption); (try simp only [Act.put, List.setIfInBounds_toArray, List.set_cons_zero, List.set_cons_succ, List.getElem_toArray, List.getElem_cons_succ, List.getElem_cons_zero]))
              refine wpAnyH_done (by kernel_rfl) ?_ _
              have HGq := hid (g_bel HGD.out belD)
              have HOq := hid oO
              have c1 := hHeld.2.2.1
              clear hHeld belD oO kA kB
              go_wp2
              go_roundw
              case rel =>
                refine ⟨j + 1, by omega, ?_, ?_, ?_, by go_num, HGq.out, ?_⟩
                · simp only [run, stp]; rw [← HS1.out, ← HL.out, ← HPP.out, HXV.out, HTR.out, HXX.out.1]
                · simp only [run, stp]; rw [← HS1.out, ← HL.out, ← HPP.out, HXV.out, HTR.out, em, HXX.out.2]
                · simp only [run, stp]; rw [← HS1.out, ← HL.out, ← HPP.out, HXV.out, HTR.out]
                · simp only [run, stp]; rw [← HS1.out, ← HL.out, ← HPP.out, HXV.out]; exact HOq.out
              case measure => simp [intOf]; omega
            · have kv : wa2.cell? ⟨NBx, yn, none⟩ = some (.int .i64 (ddc (yn : Int))) := ld_c kB HYN.out
              go_simp
              refine hK.out _ _ ?_ (fun hHeld2 => ?_)
              · (try dsimp only); exact hHeld
              clear hK K hHeld kv
              have hHeld := hHeld2
              clear hHeld2
              (try simp only [Act.put, List.setIfInBounds_toArray, List.set_cons_zero, List.set_cons_succ, List.getElem_toArray, List.getElem_cons_succ, List.getElem_cons_zero])
              (refine wpAnyH_take (i := 11) (v := ?_) rfl ?_ ?_ ?_ (fun _ _ _ h => h) (Or.inl ⟨?_, ?_⟩) ?_ ?_; rotate_left 1; (focus decide +kernel); (focus decide +kernel); (focus decide +kernel); (focus rfl); (focus (intro w hSw; (try dsimp only at hSw); go_simp; (try (with_reducible rfl)); done)); (focus assumption); (try simp only [Act.put, List.setIfInBounds_toArray, List.set_cons_zero, List.set_cons_succ, List.getElem_toArray, List.getElem_cons_succ, List.getElem_cons_zero]))
              refine wpAnyH_ready (rs := [4]) ?_ (by simp) ?_
              · decide +kernel
              refine AllReadyH.cons rfl (fun K hK => ?_) AllReadyH.nil
              have kv : wa2.cell? ⟨NA, yn, none⟩ = some (.int .i64 (ddr (yn : Int))) := ld_r kA HYN.out
              go_simp
              refine hK.out _ _ ?_ (fun hHeld2 => ?_)
              · (try dsimp only); exact hHeld
              clear hK K hHeld kv
              have hHeld := hHeld2
              clear hHeld2
              (try simp only [Act.put, List.setIfInBounds_toArray, List.set_cons_zero, List.set_cons_succ, List.getElem_toArray, List.getElem_cons_succ, List.getElem_cons_zero])
              (refine wpAnyH_take (i := 5) (v := ?_) rfl ?_ ?_ ?_ (fun _ _ _ h => h) (Or.inl ⟨?_, ?_⟩) ?_ ?_; rotate_left 1; (focus decide +kernel); (focus decide +kernel); (focus decide +kernel); (focus rfl); (focus (intro w hSw; (try dsimp only at hSw); go_simp; (try (with_reducible rfl)); done)); (focus assumption); (try simp only [Act.put, List.setIfInBounds_toArray, List.set_cons_zero, List.set_cons_succ, List.getElem_toArray, List.getElem_cons_succ, List.getElem_cons_zero]))
              refine wpAnyH_ready (rs := [12]) ?_ (by simp) ?_
              · decide +kernel
              refine AllReadyH.cons rfl (fun K hK => ?_) AllReadyH.nil
              go_simp
              go_at_call 15
              refine (roundT hHeld.2.1 hHeld.2.2.1 HRC.out.1 HRC.out.2 HXb.out.1 HXb.out.2 HXX.out.1 HXX.out.2 HTT.out).mono ?_
              rintro e wq ⟨rfl, m, hm⟩
              have bel : Below wa2.heap.size wa2 wq := by rw [hm]; exact FSpec.below_drewN' _ _ _
              clear hm
              replace belD := belD.trans (bel.mono belD.size)
              replace oO := oO.keep bel
              replace kA := heap_keep bel kA
              replace kB := heap_keep bel kB
              refine hK.out _ _ ?_ (fun hHeld2 => ?_)
              · (try dsimp only); exact next2_0 belD HD0.out
              clear hK K hHeld bel
              have hHeld := hHeld2
              clear hHeld2
              (try simp only [Act.put, List.setIfInBounds_toArray, List.set_cons_zero, List.set_cons_succ, List.getElem_toArray, List.getElem_cons_succ, List.getElem_cons_zero])
              (refine wpAnyH_take (i := 13) (v := ?_) rfl ?_ ?_ ?_ (fun _ _ _ h => h) (Or.inl ⟨?_, ?_⟩) ?_ ?_; rotate_left 1; (focus decide +kernel); (focus decide +kernel); (focus decide +kernel); (focus rfl); (focus (intro w hSw; (try dsimp only at hSw); go_simp; (try (with_reducible rfl)); done)); (focus assumption); (try simp only [Act.put, List.setIfInBounds_toArray, List.set_cons_zero, List.set_cons_succ, List.getElem_toArray, List.getElem_cons_succ, List.getElem_cons_zero]))
              refine wpAnyH_done (by kernel_rfl) ?_ _
              have HGq := hid (g_bel HGD.out belD)
              have HOq := hid oO
              have c1 := hHeld.2.2.1
              clear hHeld belD oO kA kB
              go_wp2
              go_roundw
              case rel =>
                refine ⟨j + 1, by omega, ?_, ?_, ?_, by go_num, HGq.out, ?_⟩
                · simp only [run, stp]; rw [← HS1.out, ← HL.out, ← HPP.out, HXV.out, HTR.out, HXX.out.1]
                · simp only [run, stp]; rw [← HS1.out, ← HL.out, ← HPP.out, HXV.out, HTR.out, em, HXX.out.2]
                · simp only [run, stp]; rw [← HS1.out, ← HL.out, ← HPP.out, HXV.out, HTR.out]
                · simp only [run, stp]; rw [← HS1.out, ← HL.out, ← HPP.out, HXV.out]; exact HOq.out
              case measure => simp [intOf]; omega
        · go_simp
          have bel := below1 wD (Obj.cells #[.int .i64 0, .int .i64 1, .int .i64 0, .int .i64 (-1)] 2)
          have lmS := belD.size
          have ltO := (oO.lt)
          replace belD := belD.trans (bel.mono belD.size)
          replace oO := oO.keep bel
          refine hK.out _ _ ?_ (fun hHeld2 => ?_)
          · (try dsimp only); exact next2_0 belD HD0.out
          clear hK K hHeld bel
          obtain ⟨wa1, hWa⟩ : ∃ wa1, wa1 = wD.alloc (Obj.cells #[.int .i64 0, .int .i64 1, .int .i64 0, .int .i64 (-1)] 2) := ⟨_, rfl⟩
          obtain ⟨NBx, hNa⟩ : ∃ NBx, NBx = wD.heap.size := ⟨_, rfl⟩
          have kB : wa1.heap[NBx]? = some (Obj.cells #[.int .i64 0, .int .i64 1, .int .i64 0, .int .i64 (-1)] 2) := by rw [hWa]; exact FNew.heap_top hNa
          have lmB : wD.heap.size ≤ NBx := by rw [hNa]; exact lmS
          clear lmS
          have nO_B : b' ≠ NBx := by rw [hNa]; exact Nat.ne_of_lt ltO
          clear ltO
          rw [← hWa] at belD oO
          (try dsimp only at hHeld2)
          simp only [← hWa, ← hNa] at hHeld2 ⊢
          clear hWa hNa
          have hHeld := hHeld2
          clear hHeld2
          (try simp only [Act.put, List.setIfInBounds_toArray, List.set_cons_zero, List.set_cons_succ, List.getElem_toArray, List.getElem_cons_succ, List.getElem_cons_zero])
          (refine wpAnyH_take (i := 9) (v := ?_) rfl ?_ ?_ ?_ (fun _ _ _ h => h) (Or.inl ⟨?_, ?_⟩) ?_ ?_; rotate_left 1; (focus decide +kernel); (focus decide +kernel); (focus decide +kernel); (focus rfl); (focus (intro w hSw; (try dsimp only at hSw); go_simp; (try (with_reducible rfl)); done)); (focus assumption); (try simp only [Act.put, List.setIfInBounds_toArray, List.set_cons_zero, List.set_cons_succ, List.getElem_toArray, List.getElem_cons_succ, List.getElem_cons_zero]))
          refine wpAnyH_ready (rs := [1, 10]) ?_ (by simp) ?_
          · decide +kernel
          refine AllReadyH.cons rfl (fun K hK => ?_) (AllReadyH.cons rfl (fun K hK => ?_) AllReadyH.nil)
          · go_simp
            have bel := below1 wa1 (Obj.cells #[.int .i64 (-1), .int .i64 0, .int .i64 1, .int .i64 0] 2)
            have lmS := belD.size
            have ltO := (oO.lt)
            have ltB := (heap_lt kB)
            replace belD := belD.trans (bel.mono belD.size)
            replace oO := oO.keep bel
            replace kB := heap_keep bel kB
            refine hK.out _ _ ?_ (fun hHeld2 => ?_)
            · (try dsimp only); exact next2_0 belD HD0.out
            clear hK K hHeld bel
            obtain ⟨wa2, hWa⟩ : ∃ wa2, wa2 = wa1.alloc (Obj.cells #[.int .i64 (-1), .int .i64 0, .int .i64 1, .int .i64 0] 2) := ⟨_, rfl⟩
            obtain ⟨NA, hNa⟩ : ∃ NA, NA = wa1.heap.size := ⟨_, rfl⟩
            have kA : wa2.heap[NA]? = some (Obj.cells #[.int .i64 (-1), .int .i64 0, .int .i64 1, .int .i64 0] 2) := by rw [hWa]; exact FNew.heap_top hNa
            have lmA : wD.heap.size ≤ NA := by rw [hNa]; exact lmS
            clear lmS
            have nO_A : b' ≠ NA := by rw [hNa]; exact Nat.ne_of_lt ltO
            clear ltO
            have nB_A : NBx ≠ NA := by rw [hNa]; exact Nat.ne_of_lt ltB
            clear ltB
            rw [← hWa] at belD oO kB
            (try dsimp only at hHeld2)
            simp only [← hWa, ← hNa] at hHeld2 ⊢
            clear hWa hNa
            have hHeld := hHeld2
            clear hHeld2
            (try simp only [Act.put, List.setIfInBounds_toArray, List.set_cons_zero, List.set_cons_succ, List.getElem_toArray, List.getElem_cons_succ, List.getElem_cons_zero])
            (refine wpAnyH_take (i := 3) (v := ?_) rfl ?_ ?_ ?_ (fun _ _ _ h => h) (Or.inl ⟨?_, ?_⟩) ?_ ?_; rotate_left 1; (focus decide +kernel); (focus decide +kernel); (focus decide +kernel); (focus rfl); (focus (intro w hSw; (try dsimp only at hSw); go_simp; (try (with_reducible rfl)); done)); (focus assumption); (try simp only [Act.put, List.setIfInBounds_toArray, List.set_cons_zero, List.set_cons_succ, List.getElem_toArray, List.getElem_cons_succ, List.getElem_cons_zero]))
            refine wpAnyH_ready (rs := [4, 10]) ?_ (by simp) ?_
            · decide +kernel
            refine AllReadyH.cons rfl (fun K hK => ?_) (AllReadyH.cons rfl (fun K hK => ?_) AllReadyH.nil)
            · have kv : wa2.cell? ⟨NA, yn, none⟩ = some (.int .i64 (ddr (yn : Int))) := ld_r kA HYN.out
              go_simp
              refine hK.out _ _ ?_ (fun hHeld2 => ?_)
              · (try dsimp only); exact hHeld
              clear hK K hHeld kv
              have hHeld := hHeld2
              clear hHeld2
              (try simp only [Act.put, List.setIfInBounds_toArray, List.set_cons_zero, List.set_cons_succ, List.getElem_toArray, List.getElem_cons_succ, List.getElem_cons_zero])
              (refine wpAnyH_take (i := 5) (v := ?_) rfl ?_ ?_ ?_ (fun _ _ _ h => h) (Or.inl ⟨?_, ?_⟩) ?_ ?_; rotate_left 1; (focus decide +kernel); (focus decide +kernel); (focus decide +kernel); (focus rfl); (focus (intro w hSw; (try dsimp only at hSw); go_simp; (try (with_reducible rfl)); done)); (focus assumption); (try simp only [Act.put, List.setIfInBounds_toArray, List.set_cons_zero, List.set_cons_succ, List.getElem_toArray, List.getElem_cons_succ, List.getElem_cons_zero]))
              refine wpAnyH_ready (rs := [10]) ?_ (by simp) ?_
              · decide +kernel
              refine AllReadyH.cons rfl (fun K hK => ?_) AllReadyH.nil
              have kv : wa2.cell? ⟨NBx, yn, none⟩ = some (.int .i64 (ddc (yn : Int))) := ld_c kB HYN.out
              go_simp
              refine hK.out _ _ ?_ (fun hHeld2 => ?_)
              · (try dsimp only); exact hHeld
              clear hK K hHeld kv
              have hHeld := hHeld2
              clear hHeld2
              (try simp only [Act.put, List.setIfInBounds_toArray, List.set_cons_zero, List.set_cons_succ, List.getElem_toArray, List.getElem_cons_succ, List.getElem_cons_zero])
              (refine wpAnyH_take (i := 11) (v := ?_) rfl ?_ ?_ ?_ (fun _ _ _ h => h) (Or.inl ⟨?_, ?_⟩) ?_ ?_; rotate_left 1; (focus decide +kernel); (focus decide +kernel); (focus decide +kernel); (focus rfl); (focus (intro w hSw; (try dsimp only at hSw); go_simp; (try (with_reducible rfl)); done)); (focus assumption); (try simp only [Act.put, List.setIfInBounds_toArray, List.set_cons_zero, List.set_cons_succ, List.getElem_toArray, List.getElem_cons_succ, List.getElem_cons_zero]))
              refine wpAnyH_ready (rs := [12]) ?_ (by simp) ?_
              · decide +kernel
              refine AllReadyH.cons rfl (fun K hK => ?_) AllReadyH.nil
              go_simp
              go_at_call 15
              refine (roundT hHeld.2.1 hHeld.2.2.1 HRC.out.1 HRC.out.2 HXb.out.1 HXb.out.2 HXX.out.1 HXX.out.2 HTT.out).mono ?_
              rintro e wq ⟨rfl, m, hm⟩
              have bel : Below wa2.heap.size wa2 wq := by rw [hm]; exact FSpec.below_drewN' _ _ _
              clear hm
              replace belD := belD.trans (bel.mono belD.size)
              replace oO := oO.keep bel
              replace kB := heap_keep bel kB
              replace kA := heap_keep bel kA
              refine hK.out _ _ ?_ (fun hHeld2 => ?_)
              · (try dsimp only); exact next2_0 belD HD0.out
              clear hK K hHeld bel
              have hHeld := hHeld2
              clear hHeld2
              (try simp only [Act.put, List.setIfInBounds_toArray, List.set_cons_zero, List.set_cons_succ, List.getElem_toArray, List.getElem_cons_succ, List.getElem_cons_zero])
              (refine wpAnyH_take (i := 13) (v := ?_) rfl ?_ ?_ ?_ (fun _ _ _ h => h) (Or.inl ⟨?_, ?_⟩) ?_ ?_; rotate_left 1; (focus decide +kernel); (focus decide +kernel); (focus decide +kernel); (focus rfl); (focus (intro w hSw; (try dsimp only at hSw); go_simp; (try (with_reducible rfl)); done)); (focus assumption); (try simp only [Act.put, List.setIfInBounds_toArray, List.set_cons_zero, List.set_cons_succ, List.getElem_toArray, List.getElem_cons_succ, List.getElem_cons_zero]))
              refine wpAnyH_done (by kernel_rfl) ?_ _
              have HGq := hid (g_bel HGD.out belD)
              have HOq := hid oO
              have c1 := hHeld.2.2.1
              clear hHeld belD oO kA kB
              go_wp2
              go_roundw
              case rel =>
                refine ⟨j + 1, by omega, ?_, ?_, ?_, by go_num, HGq.out, ?_⟩
                · simp only [run, stp]; rw [← HS1.out, ← HL.out, ← HPP.out, HXV.out, HTR.out, HXX.out.1]
                · simp only [run, stp]; rw [← HS1.out, ← HL.out, ← HPP.out, HXV.out, HTR.out, em, HXX.out.2]
                · simp only [run, stp]; rw [← HS1.out, ← HL.out, ← HPP.out, HXV.out, HTR.out]
                · simp only [run, stp]; rw [← HS1.out, ← HL.out, ← HPP.out, HXV.out]; exact HOq.out
              case measure => simp [intOf]; omega
            · have kv : wa2.cell? ⟨NBx, yn, none⟩ = some (.int .i64 (ddc (yn : Int))) := ld_c kB HYN.out
              go_simp
              refine hK.out _ _ ?_ (fun hHeld2 => ?_)
              · (try dsimp only); exact hHeld
              clear hK K hHeld kv
              have hHeld := hHeld2
              clear hHeld2
              (try simp only [Act.put, List.setIfInBounds_toArray, List.set_cons_zero, List.set_cons_succ, List.getElem_toArray, List.getElem_cons_succ, List.getElem_cons_zero])
              (refine wpAnyH_take (i := 11) (v := ?_) rfl ?_ ?_ ?_ (fun _ _ _ h => h) (Or.inl ⟨?_, ?_⟩) ?_ ?_; rotate_left 1; (focus decide +kernel); (focus decide +kernel); (focus decide +kernel); (focus rfl); (focus (intro w hSw; (try dsimp only at hSw); go_simp; (try (with_reducible rfl)); done)); (focus assumption); (try simp only [Act.put, List.setIfInBounds_toArray, List.set_cons_zero, List.set_cons_succ, List.getElem_toArray, List.getElem_cons_succ, List.getElem_cons_zero]))
              refine wpAnyH_ready (rs := [4]) ?_ (by simp) ?_
              · decide +kernel
              refine AllReadyH.cons rfl (fun K hK => ?_) AllReadyH.nil
              have kv : wa2.cell? ⟨NA, yn, none⟩ = some (.int .i64 (ddr (yn : Int))) := ld_r kA HYN.out
              go_simp
              refine hK.out _ _ ?_ (fun hHeld2 => ?_)
              · (try dsimp only); exact hHeld
              clear hK K hHeld kv
              have hHeld := hHeld2
              clear hHeld2
              (try simp only [Act.put, List.setIfInBounds_toArray, List.set_cons_zero, List.set_cons_succ, List.getElem_toArray, List.getElem_cons_succ, List.getElem_cons_zero])
              (refine wpAnyH_take (i := 5) (v := ?_) rfl ?_ ?_ ?_ (fun _ _ _ h => h) (Or.inl ⟨?_, ?_⟩) ?_ ?_; rotate_left 1; (focus decide +kernel); (focus decide +kernel); (focus decide +kernel); (focus rfl); (focus (intro w hSw; (try dsimp only at hSw); go_simp; (try (with_reducible rfl)); done)); (focus assumption); (try simp only [Act.put, List.setIfInBounds_toArray, List.set_cons_zero, List.set_cons_succ, List.getElem_toArray, List.getElem_cons_succ, List.getElem_cons_zero]))
              refine wpAnyH_ready (rs := [12]) ?_ (by simp) ?_
              · decide +kernel
              refine AllReadyH.cons rfl (fun K hK => ?_) AllReadyH.nil
              go_simp
              go_at_call 15
              refine (roundT hHeld.2.1 hHeld.2.2.1 HRC.out.1 HRC.out.2 HXb.out.1 HXb.out.2 HXX.out.1 HXX.out.2 HTT.out).mono ?_
              rintro e wq ⟨rfl, m, hm⟩
              have bel : Below wa2.heap.size wa2 wq := by rw [hm]; exact FSpec.below_drewN' _ _ _
              clear hm
              replace belD := belD.trans (bel.mono belD.size)
              replace oO := oO.keep bel
              replace kB := heap_keep bel kB
              replace kA := heap_keep bel kA
              refine hK.out _ _ ?_ (fun hHeld2 => ?_)
              · (try dsimp only); exact next2_0 belD HD0.out
              clear hK K hHeld bel
              have hHeld := hHeld2
              clear hHeld2
              (try simp only [Act.put, List.setIfInBounds_toArray, List.set_cons_zero, List.set_cons_succ, List.getElem_toArray, List.getElem_cons_succ, List.getElem_cons_zero])
              (refine wpAnyH_take (i := 13) (v := ?_) rfl ?_ ?_ ?_ (fun _ _ _ h => h) (Or.inl ⟨?_, ?_⟩) ?_ ?_; rotate_left 1; (focus decide +kernel); (focus decide +kernel); (focus decide +kernel); (focus rfl); (focus (intro w hSw; (try dsimp only at hSw); go_simp; (try (with_reducible rfl)); done)); (focus assumption); (try simp only [Act.put, List.setIfInBounds_toArray, List.set_cons_zero, List.set_cons_succ, List.getElem_toArray, List.getElem_cons_succ, List.getElem_cons_zero]))
              refine wpAnyH_done (by kernel_rfl) ?_ _
              have HGq := hid (g_bel HGD.out belD)
              have HOq := hid oO
              have c1 := hHeld.2.2.1
              clear hHeld belD oO kA kB
              go_wp2
              go_roundw
              case rel =>
                refine ⟨j + 1, by omega, ?_, ?_, ?_, by go_num, HGq.out, ?_⟩
                · simp only [run, stp]; rw [← HS1.out, ← HL.out, ← HPP.out, HXV.out, HTR.out, HXX.out.1]
                · simp only [run, stp]; rw [← HS1.out, ← HL.out, ← HPP.out, HXV.out, HTR.out, em, HXX.out.2]
                · simp only [run, stp]; rw [← HS1.out, ← HL.out, ← HPP.out, HXV.out, HTR.out]
                · simp only [run, stp]; rw [← HS1.out, ← HL.out, ← HPP.out, HXV.out]; exact HOq.out
              case measure => simp [intOf]; omega
          · have kv : wa1.cell? ⟨NBx, yn, none⟩ = some (.int .i64 (ddc (yn : Int))) := ld_c kB HYN.out
            go_simp
            refine hK.out _ _ ?_ (fun hHeld2 => ?_)
            · (try dsimp only); exact hHeld
            clear hK K hHeld kv
            have hHeld := hHeld2
            clear hHeld2
            (try simp only [Act.put, List.setIfInBounds_toArray, List.set_cons_zero, List.set_cons_succ, List.getElem_toArray, List.getElem_cons_succ, List.getElem_cons_zero])
            (refine wpAnyH_take (i := 11) (v := ?_) rfl ?_ ?_ ?_ (fun _ _ _ h => h) (Or.inl ⟨?_, ?_⟩) ?_ ?_; rotate_left 1; (focus decide +kernel); (focus decide +kernel); (focus decide +kernel); (focus rfl); (focus (intro w hSw; (try dsimp only at hSw); go_simp; (try (with_reducible rfl)); done)); (focus assumption); (try simp only [Act.put, List.setIfInBounds_toArray, List.set_cons_zero, List.set_cons_succ, List.getElem_toArray, List.getElem_cons_succ, List.getElem_cons_zero]))
            refine wpAnyH_ready (rs := [1]) ?_ (by simp) ?_
            · decide +kernel
            refine AllReadyH.cons rfl (fun K hK => ?_) AllReadyH.nil
            go_simp
            have bel := below1 wa1 (Obj.cells #[.int .i64 (-1), .int .i64 0, .int .i64 1, .int .i64 0] 2)
            have lmS := belD.size
            have ltO := (oO.lt)
            have ltB := (heap_lt kB)
            replace belD := belD.trans (bel.mono belD.size)
            replace oO := oO.keep bel
            replace kB := heap_keep bel kB
            refine hK.out _ _ ?_ (fun hHeld2 => ?_)
            · (try dsimp only); exact next2_0 belD HD0.out
            clear hK K hHeld bel
            obtain ⟨wa2, hWa⟩ : ∃ wa2, wa2 = wa1.alloc (Obj.cells #[.int .i64 (-1), .int .i64 0, .int .i64 1, .int .i64 0] 2) := ⟨_, rfl⟩
            obtain ⟨NA, hNa⟩ : ∃ NA, NA = wa1.heap.size := ⟨_, rfl⟩
            have kA : wa2.heap[NA]? = some (Obj.cells #[.int .i64 (-1), .int .i64 0, .int .i64 1, .int .i64 0] 2) := by rw [hWa]; exact FNew.heap_top hNa
            have lmA : wD.heap.size ≤ NA := by rw [hNa]; exact lmS
            clear lmS
            have nO_A : b' ≠ NA := by rw [hNa]; exact Nat.ne_of_lt ltO
            clear ltO
            have nB_A : NBx ≠ NA := by rw [hNa]; exact Nat.ne_of_lt ltB
            clear ltB
            rw [← hWa] at belD oO kB
            (try dsimp only at hHeld2)
            simp only [← hWa, ← hNa] at hHeld2 ⊢
            clear hWa hNa
            have hHeld := hHeld2
            clear hHeld2
            (try simp only [Act.put, List.setIfInBounds_toArray, List.set_cons_zero, List.set_cons_succ, List.getElem_toArray, List.getElem_cons_succ, List.getElem_cons_zero])
            (refine wpAnyH_take (i := 3) (v := ?_) rfl ?_ ?_ ?_ (fun _ _ _ h => h) (Or.inl ⟨?_, ?_⟩) ?_ ?_; rotate_left 1; (focus decide +kernel); (focus decide +kernel); (focus decide +kernel); (focus rfl); (focus (intro w hSw; (try dsimp only at hSw); go_simp; (try (with_reducible rfl)); done)); (focus assumption); (try simp only [Act.put, List.setIfInBounds_toArray, List.set_cons_zero, List.set_cons_succ, List.getElem_toArray, List.getElem_cons_succ, List.getElem_cons_zero]))
            refine wpAnyH_ready (rs := [4]) ?_ (by simp) ?_
            · decide +kernel
            refine AllReadyH.cons rfl (fun K hK => ?_) AllReadyH.nil
            have kv : wa2.cell? ⟨NA, yn, none⟩ = some (.int .i64 (ddr (yn : Int))) := ld_r kA HYN.out
            go_simp
            refine hK.out _ _ ?_ (fun hHeld2 => ?_)
            · (try dsimp only); exact hHeld
            clear hK K hHeld kv
            have hHeld := hHeld2
            clear hHeld2
            (try simp only [Act.put, List.setIfInBounds_toArray, List.set_cons_zero, List.set_cons_succ, List.getElem_toArray, List.getElem_cons_succ, List.getElem_cons_zero])
            (refine wpAnyH_take (i := 5) (v := ?_) rfl ?_ ?_ ?_ (fun _ _ _ h => h) (Or.inl ⟨?_, ?_⟩) ?_ ?_; rotate_left 1; (focus decide +kernel); (focus decide +kernel); (focus decide +kernel); (focus rfl); (focus (intro w hSw; (try dsimp only at hSw); go_simp; (try (with_reducible rfl)); done)); (focus assumption); (try simp only [Act.put, List.setIfInBounds_toArray, List.set_cons_zero, List.set_cons_succ, List.getElem_toArray, List.getElem_cons_succ, List.getElem_cons_zero]))
            refine wpAnyH_ready (rs := [12]) ?_ (by simp) ?_
            · decide +kernel
            refine AllReadyH.cons rfl (fun K hK => ?_) AllReadyH.nil
            go_simp
            go_at_call 15
            refine (roundT hHeld.2.1 hHeld.2.2.1 HRC.out.1 HRC.out.2 HXb.out.1 HXb.out.2 HXX.out.1 HXX.out.2 HTT.out).mono ?_
            rintro e wq ⟨rfl, m, hm⟩
            have bel : Below wa2.heap.size wa2 wq := by rw [hm]; exact FSpec.below_drewN' _ _ _
            clear hm
            replace belD := belD.trans (bel.mono belD.size)
            replace oO := oO.keep bel
            replace kB := heap_keep bel kB
            replace kA := heap_keep bel kA
            refine hK.out _ _ ?_ (fun hHeld2 => ?_)
            · (try dsimp only); exact next2_0 belD HD0.out
            clear hK K hHeld bel
            have hHeld := hHeld2
            clear hHeld2
            (try simp only [Act.put, List.setIfInBounds_toArray, List.set_cons_zero, List.set_cons_succ, List.getElem_toArray, List.getElem_cons_succ, List.getElem_cons_zero])
            (refine wpAnyH_take (i := 13) (v := ?_) rfl ?_ ?_ ?_ (fun _ _ _ h => h) (Or.inl ⟨?_, ?_⟩) ?_ ?_; rotate_left 1; (focus decide +kernel); (focus decide +kernel); (focus decide +kernel); (focus rfl); (focus (intro w hSw; (try dsimp only at hSw); go_simp; (try (with_reducible rfl)); done)); (focus assumption); (try simp only [Act.put, List.setIfInBounds_toArray, List.set_cons_zero, List.set_cons_succ, List.getElem_toArray, List.getElem_cons_succ, List.getElem_cons_zero]))
            refine wpAnyH_done (by kernel_rfl) ?_ _
            have HGq := hid (g_bel HGD.out belD)
            have HOq := hid oO
            have c1 := hHeld.2.2.1
            clear hHeld belD oO kA kB
            go_wp2
            go_roundw
            case rel =>
              refine ⟨j + 1, by omega, ?_, ?_, ?_, by go_num, HGq.out, ?_⟩
              · simp only [run, stp]; rw [← HS1.out, ← HL.out, ← HPP.out, HXV.out, HTR.out, HXX.out.1]
              · simp only [run, stp]; rw [← HS1.out, ← HL.out, ← HPP.out, HXV.out, HTR.out, em, HXX.out.2]
              · simp only [run, stp]; rw [← HS1.out, ← HL.out, ← HPP.out, HXV.out, HTR.out]
              · simp only [run, stp]; rw [← HS1.out, ← HL.out, ← HPP.out, HXV.out]; exact HOq.out
            case measure => simp [intOf]; omega
      · obtain ⟨yn, hyn⟩ : ∃ yn : Nat, (y + 3) % 4 = (yn : Int) := ⟨((y + 3) % 4).toNat, by omega⟩
        have HYN : Hid (yn < 4) := by simp only [Hid]; omega
        have HTR : Hid (trn 1 y = (yn : Int)) := by simp only [Hid, trn]; rw [← hyn]; simp
        have wy : IntKind.i64.wrap (y + 3) = y + 3 := by rw [IntKind.wrap_i64]; omega
        have hyt : (y + 3).tmod 4 = (yn : Int) := by rw [Int.tmod_eq_emod_of_nonneg (by omega)]; exact hyn
        have hdb := dd_bd (yn : Int)
        have HXb : Hid ((-1000000 ≤ (r : Int) + ddr (yn : Int) ∧ (r : Int) + ddr (yn : Int) ≤ 1000000) ∧ -1000000 ≤ (c : Int) + ddc (yn : Int) ∧ (c : Int) + ddc (yn : Int) ≤ 1000000) := by simp only [Hid]; omega
        have wr1 : IntKind.i64.wrap ((r : Int) + ddr (yn : Int)) = (r : Int) + ddr (yn : Int) := by rw [IntKind.wrap_i64]; omega
        have wr2 : IntKind.i64.wrap ((c : Int) + ddc (yn : Int)) = (c : Int) + ddc (yn : Int) := by rw [IntKind.wrap_i64]; omega
        have hyi : (yn : Int) < 4 := by have := HYN.out; omega
        have HXV := hid hx
        clear hx oc0
        have oc : wr.cell? ⟨b', P, none⟩ = some (.int .i64 1) := by rw [← HXV.out]; exact HOW.out.cell HPL.out
        have of := HOW.out.free P
        go_upto_region 10 with fail
        (try simp only [hyt])
        go_still_tail 10, (by kernel_rfl)
        change wpList _ _ _ _ _ wr.drew
        have ocd : wr.drew.cell? ⟨b', P, none⟩ = some (.int .i64 1) := oc
        have ofd : wr.drew.frozen? ⟨b', P, none⟩ = false := of
        obtain ⟨wd, hwd⟩ : ∃ wd, wd = wr.drew := ⟨_, rfl⟩
        have HGd : Hid (w4.grownBy wd (some b')) := by simp only [Hid]; rw [hwd]; exact g_drew HG.out
        have HOd : Hid (Rd.Own 2 wd b' (.slice (some ⟨b', 0, none⟩) n k) z) := by simp only [Hid]; rw [hwd]; exact HOW.out
        rw [← hwd] at ocd ofd ⊢
        clear hwd oc of x2 c1
        go_wp2_with fail
        obtain ⟨ws, hws⟩ : ∃ ws, ws = wd.setCell ⟨b', P, none⟩ (.int .i64 0) := ⟨_, rfl⟩
        have HGS : Hid (w4.grownBy ws (some b')) := by simp only [Hid]; rw [hws]; exact g_set HGd.out P _
        have HOS : Hid (Rd.Own 2 ws b' (.slice (some ⟨b', 0, none⟩) n k) (z.set P 0)) := by simp only [Hid]; rw [hws]; exact HOd.out.set P 0
        simp only [← hws]
        clear hws ocd ofd HGd HOd hyn hyt wy hdb hyb
        obtain ⟨X, hX⟩ : ∃ X, X = (((r : Int) + ddr (yn : Int)) % (R : Int)).toNat := ⟨_, rfl⟩
        obtain ⟨Y, hY⟩ : ∃ Y, Y = (((c : Int) + ddc (yn : Int)) % (C : Int)).toNat := ⟨_, rfl⟩
        have hXb : X < R := by rw [hX]; exact (Rnd.rnd_lt _ HRC.out.1.1).2
        have hYb : Y < C := by rw [hY]; exact (Rnd.rnd_lt _ HRC.out.2.1).2
        obtain ⟨T, hT⟩ : ∃ T, T = X * C + Y := ⟨_, rfl⟩
        have eq : (T : Int) / (C : Int) = (X : Int) := by rw [hT, ← Int.natCast_ediv, (pos_div hYb).1]
        have em : (T : Int) % (C : Int) = (Y : Int) := by rw [hT, ← Int.natCast_emod, (pos_div hYb).2]
        have hC0 : ¬ (C : Int) = 0 := by have := HRC.out; omega
        have HXX := hid (And.intro hX hY)
        have HTT := hid hT
        clear hX hY hT
        (try refine Box.wp_noPanic ?_)
        refine wp_region_held_drew (S := (fun ww => Below w.heap.size w ww ∧ ww.cell? ⟨N, 0, none⟩ = some (.int .i64 (R : Int)) ∧ ww.cell? ⟨N, 1, none⟩ = some (.int .i64 (C : Int)) ∧ w.heap.size ≤ ww.heap.size)) (by kernel_rfl) ?_ (fun hHeld => ?_)
        · ((try dsimp only); exact ⟨g_below HB4.out (g_drew HGS.out) HLO.out, g_cell (g_drew HGS.out) HN0.out.1 HW4N.out, g_cell (g_drew HGS.out) HN0.out.2 HW4N.out, (g_below HB4.out (g_drew HGS.out) HLO.out).size⟩)
        obtain ⟨wD, hDr⟩ : ∃ wD, wD = ws.drew := ⟨_, rfl⟩
        have oO : Rd.Own 2 wD b' (.slice (some ⟨b', 0, none⟩) n k) (z.set P 0) := by rw [hDr]; exact HOS.out
        have HGD : Hid (w4.grownBy wD (some b')) := by simp only [Hid]; rw [hDr]; exact g_drew HGS.out
        simp only [← hDr] at hHeld ⊢
        clear hDr
        (try dsimp only at hHeld)
        have HD0 := hid hHeld
        have belD : Below wD.heap.size wD wD := Below.refl _ _
        (refine wpAnyH_take (i := 0) (v := ?_) rfl ?_ ?_ ?_ (fun _ _ _ h => h) (Or.inl ⟨?_, ?_⟩) ?_ ?_; rotate_left 1; (focus decide +kernel); (focus decide +kernel); (focus decide +kernel); (focus rfl); (focus (intro w hSw; (try dsimp only at hSw); go_simp; (try (with_reducible rfl)); done)); (focus assumption); (try simp only [Act.put, List.setIfInBounds_toArray, List.set_cons_zero, List.set_cons_succ, List.getElem_toArray, List.getElem_cons_succ, List.getElem_cons_zero]))
        (refine wpAnyH_take (i := 2) (v := ?_) rfl ?_ ?_ ?_ (fun _ _ _ h => h) (Or.inl ⟨?_, ?_⟩) ?_ ?_; rotate_left 1; (focus decide +kernel); (focus decide +kernel); (focus decide +kernel); (focus rfl); (focus (intro w hSw; (try dsimp only at hSw); go_simp; (try (with_reducible rfl)); done)); (focus assumption); (try simp only [Act.put, List.setIfInBounds_toArray, List.set_cons_zero, List.set_cons_succ, List.getElem_toArray, List.getElem_cons_succ, List.getElem_cons_zero]))
        (refine wpAnyH_take (i := 6) (v := ?_) rfl ?_ ?_ ?_ (fun _ _ _ h => h) (Or.inl ⟨?_, ?_⟩) ?_ ?_; rotate_left 1; (focus decide +kernel); (focus decide +kernel); (focus decide +kernel); (focus rfl); (focus (intro w hSw; (try dsimp only at hSw); go_simp; (try (with_reducible rfl)); done)); (focus assumption); (try simp only [Act.put, List.setIfInBounds_toArray, List.set_cons_zero, List.set_cons_succ, List.getElem_toArray, List.getElem_cons_succ, List.getElem_cons_zero]))
        (refine wpAnyH_take (i := 8) (v := ?_) rfl ?_ ?_ ?_ (fun _ _ _ h => h) (Or.inl ⟨?_, ?_⟩) ?_ ?_; rotate_left 1; (focus decide +kernel); (focus decide +kernel); (focus decide +kernel); (focus rfl); (focus (intro w hSw; (try dsimp only at hSw); go_simp; (try (with_reducible rfl)); done)); (focus assumption); (try simp only [Act.put, List.setIfInBounds_toArray, List.set_cons_zero, List.set_cons_succ, List.getElem_toArray, List.getElem_cons_succ, List.getElem_cons_zero]))
        refine wpAnyH_ready (rs := [1, 7]) ?_ (by simp) ?_
        · decide +kernel
        refine AllReadyH.cons rfl (fun K hK => ?_) (AllReadyH.cons rfl (fun K hK => ?_) AllReadyH.nil)
        · go_simp
          have bel := below1 wD (Obj.cells #[.int .i64 (-1), .int .i64 0, .int .i64 1, .int .i64 0] 2)
          have lmS := belD.size
          have ltO := (oO.lt)
          replace belD := belD.trans (bel.mono belD.size)
          replace oO := oO.keep bel
          refine hK.out _ _ ?_ (fun hHeld2 => ?_)
          · (try dsimp only); exact next2_0 belD HD0.out
          clear hK K hHeld bel
          obtain ⟨wa1, hWa⟩ : ∃ wa1, wa1 = wD.alloc (Obj.cells #[.int .i64 (-1), .int .i64 0, .int .i64 1, .int .i64 0] 2) := ⟨_, rfl⟩
          obtain ⟨NA, hNa⟩ : ∃ NA, NA = wD.heap.size := ⟨_, rfl⟩
          have kA : wa1.heap[NA]? = some (Obj.cells #[.int .i64 (-1), .int .i64 0, .int .i64 1, .int .i64 0] 2) := by rw [hWa]; exact FNew.heap_top hNa
          have lmA : wD.heap.size ≤ NA := by rw [hNa]; exact lmS
          clear lmS
          have nO_A : b' ≠ NA := by rw [hNa]; exact Nat.ne_of_lt ltO
          clear ltO
          rw [← hWa] at belD oO
          (try dsimp only at hHeld2)
          simp only [← hWa, ← hNa] at hHeld2 ⊢
          clear hWa hNa
          have hHeld := hHeld2
          clear hHeld2
          (try simp only [Act.put, List.setIfInBounds_toArray, List.set_cons_zero, List.set_cons_succ, List.getElem_toArray, List.getElem_cons_succ, List.getElem_cons_zero])
          (refine wpAnyH_take (i := 3) (v := ?_) rfl ?_ ?_ ?_ (fun _ _ _ h => h) (Or.inl ⟨?_, ?_⟩) ?_ ?_; rotate_left 1; (focus decide +kernel); (focus decide +kernel); (focus decide +kernel); (focus rfl); (focus (intro w hSw; (try dsimp only at hSw); go_simp; (try (with_reducible rfl)); done)); (focus assumption); (try simp only [Act.put, List.setIfInBounds_toArray, List.set_cons_zero, List.set_cons_succ, List.getElem_toArray, List.getElem_cons_succ, List.getElem_cons_zero]))
          refine wpAnyH_ready (rs := [4, 7]) ?_ (by simp) ?_
          · decide +kernel
          refine AllReadyH.cons rfl (fun K hK => ?_) (AllReadyH.cons rfl (fun K hK => ?_) AllReadyH.nil)
          · have kv : wa1.cell? ⟨NA, yn, none⟩ = some (.int .i64 (ddr (yn : Int))) := ld_r kA HYN.out
            go_simp
            refine hK.out _ _ ?_ (fun hHeld2 => ?_)
            · (try dsimp only); exact hHeld
            clear hK K hHeld kv
            have hHeld := hHeld2
            clear hHeld2
            (try simp only [Act.put, List.setIfInBounds_toArray, List.set_cons_zero, List.set_cons_succ, List.getElem_toArray, List.getElem_cons_succ, List.getElem_cons_zero])
            (refine wpAnyH_take (i := 5) (v := ?_) rfl ?_ ?_ ?_ (fun _ _ _ h => h) (Or.inl ⟨?_, ?_⟩) ?_ ?_; rotate_left 1; (focus decide +kernel); (focus decide +kernel); (focus decide +kernel); (focus rfl); (focus (intro w hSw; (try dsimp only at hSw); go_simp; (try (with_reducible rfl)); done)); (focus assumption); (try simp only [Act.put, List.setIfInBounds_toArray, List.set_cons_zero, List.set_cons_succ, List.getElem_toArray, List.getElem_cons_succ, List.getElem_cons_zero]))
            refine wpAnyH_ready (rs := [7]) ?_ (by simp) ?_
            · decide +kernel
            refine AllReadyH.cons rfl (fun K hK => ?_) AllReadyH.nil
            go_simp
            have bel := below1 wa1 (Obj.cells #[.int .i64 0, .int .i64 1, .int .i64 0, .int .i64 (-1)] 2)
            have lmS := belD.size
            have ltO := (oO.lt)
            have ltA := (heap_lt kA)
            replace belD := belD.trans (bel.mono belD.size)
            replace oO := oO.keep bel
            replace kA := heap_keep bel kA
            refine hK.out _ _ ?_ (fun hHeld2 => ?_)
            · (try dsimp only); exact next2_0 belD HD0.out
            clear hK K hHeld bel
            obtain ⟨wa2, hWa⟩ : ∃ wa2, wa2 = wa1.alloc (Obj.cells #[.int .i64 0, .int .i64 1, .int .i64 0, .int .i64 (-1)] 2) := ⟨_, rfl⟩
            obtain ⟨NBx, hNa⟩ : ∃ NBx, NBx = wa1.heap.size := ⟨_, rfl⟩
            have kB : wa2.heap[NBx]? = some (Obj.cells #[.int .i64 0, .int .i64 1, .int .i64 0, .int .i64 (-1)] 2) := by rw [hWa]; exact FNew.heap_top hNa
            have lmB : wD.heap.size ≤ NBx := by rw [hNa]; exact lmS
            clear lmS
            have nO_B : b' ≠ NBx := by rw [hNa]; exact Nat.ne_of_lt ltO
            clear ltO
            have nA_B : NA ≠ NBx := by rw [hNa]; exact Nat.ne_of_lt ltA
            clear ltA
            rw [← hWa] at belD oO kA
            (try dsimp only at hHeld2)
            simp only [← hWa, ← hNa] at hHeld2 ⊢
            clear hWa hNa
            have hHeld := hHeld2
            clear hHeld2
            (try simp only [Act.put, List.setIfInBounds_toArray, List.set_cons_zero, List.set_cons_succ, List.getElem_toArray, List.getElem_cons_succ, List.getElem_cons_zero])
            (refine wpAnyH_take (i := 9) (v := ?_) rfl ?_ ?_ ?_ (fun _ _ _ h => h) (Or.inl ⟨?_, ?_⟩) ?_ ?_; rotate_left 1; (focus decide +kernel); (focus decide +kernel); (focus decide +kernel); (focus rfl); (focus (intro w hSw; (try dsimp only at hSw); go_simp; (try (with_reducible rfl)); done)); (focus assumption); (try simp only [Act.put, List.setIfInBounds_toArray, List.set_cons_zero, List.set_cons_succ, List.getElem_toArray, List.getElem_cons_succ, List.getElem_cons_zero]))
            refine wpAnyH_ready (rs := [10]) ?_ (by simp) ?_
            · decide +kernel
            refine AllReadyH.cons rfl (fun K hK => ?_) AllReadyH.nil
            have kv : wa2.cell? ⟨NBx, yn, none⟩ = some (.int .i64 (ddc (yn : Int))) := ld_c kB HYN.out
            go_simp
            refine hK.out _ _ ?_ (fun hHeld2 => ?_)
            · (try dsimp only); exact hHeld
            clear hK K hHeld kv
            have hHeld := hHeld2
            clear hHeld2
            (try simp only [Act.put, List.setIfInBounds_toArray, List.set_cons_zero, List.set_cons_succ, List.getElem_toArray, List.getElem_cons_succ, List.getElem_cons_zero])
            (refine wpAnyH_take (i := 11) (v := ?_) rfl ?_ ?_ ?_ (fun _ _ _ h => h) (Or.inl ⟨?_, ?_⟩) ?_ ?_; rotate_left 1; (focus decide +kernel); (focus decide +kernel); (focus decide +kernel); (focus rfl); (focus (intro w hSw; (try dsimp only at hSw); go_simp; (try (with_reducible rfl)); done)); (focus assumption); (try simp only [Act.put, List.setIfInBounds_toArray, List.set_cons_zero, List.set_cons_succ, List.getElem_toArray, List.getElem_cons_succ, List.getElem_cons_zero]))
            refine wpAnyH_ready (rs := [12]) ?_ (by simp) ?_
            · decide +kernel
            refine AllReadyH.cons rfl (fun K hK => ?_) AllReadyH.nil
            go_simp
            go_at_call 15
            refine (roundT hHeld.2.1 hHeld.2.2.1 HRC.out.1 HRC.out.2 HXb.out.1 HXb.out.2 HXX.out.1 HXX.out.2 HTT.out).mono ?_
            rintro e wq ⟨rfl, m, hm⟩
            have bel : Below wa2.heap.size wa2 wq := by rw [hm]; exact FSpec.below_drewN' _ _ _
            clear hm
            replace belD := belD.trans (bel.mono belD.size)
            replace oO := oO.keep bel
            replace kA := heap_keep bel kA
            replace kB := heap_keep bel kB
            refine hK.out _ _ ?_ (fun hHeld2 => ?_)
            · (try dsimp only); exact next2_0 belD HD0.out
            clear hK K hHeld bel
            have hHeld := hHeld2
            clear hHeld2
            (try simp only [Act.put, List.setIfInBounds_toArray, List.set_cons_zero, List.set_cons_succ, List.getElem_toArray, List.getElem_cons_succ, List.getElem_cons_zero])
            (refine wpAnyH_take (i := 13) (v := ?_) rfl ?_ ?_ ?_ (fun _ _ _ h => h) (Or.inl ⟨?_, ?_⟩) ?_ ?_; rotate_left 1; (focus decide +kernel); (focus decide +kernel); (focus decide +kernel); (focus rfl); (focus (intro w hSw; (try dsimp only at hSw); go_simp; (try (with_reducible rfl)); done)); (focus assumption); (try simp only [Act.put, List.setIfInBounds_toArray, List.set_cons_zero, List.set_cons_succ, List.getElem_toArray, List.getElem_cons_succ, List.getElem_cons_zero]))
            refine wpAnyH_done (by kernel_rfl) ?_ _
            have HGq := hid (g_bel HGD.out belD)
            have HOq := hid oO
            have c1 := hHeld.2.2.1
            clear hHeld belD oO kA kB
            go_wp2
            go_roundw
            case rel =>
              refine ⟨j + 1, by omega, ?_, ?_, ?_, by go_num, HGq.out, ?_⟩
              · simp only [run, stp]; rw [← HS1.out, ← HL.out, ← HPP.out, HXV.out, HTR.out, HXX.out.1]
              · simp only [run, stp]; rw [← HS1.out, ← HL.out, ← HPP.out, HXV.out, HTR.out, em, HXX.out.2]
              · simp only [run, stp]; rw [← HS1.out, ← HL.out, ← HPP.out, HXV.out, HTR.out]
              · simp only [run, stp]; rw [← HS1.out, ← HL.out, ← HPP.out, HXV.out]; exact HOq.out
            case measure => simp [intOf]; omega
          · go_simp
            have bel := below1 wa1 (Obj.cells #[.int .i64 0, .int .i64 1, .int .i64 0, .int .i64 (-1)] 2)
            have lmS := belD.size
            have ltO := (oO.lt)
            have ltA := (heap_lt kA)
            replace belD := belD.trans (bel.mono belD.size)
            replace oO := oO.keep bel
            replace kA := heap_keep bel kA
            refine hK.out _ _ ?_ (fun hHeld2 => ?_)
            · (try dsimp only); exact next2_0 belD HD0.out
            clear hK K hHeld bel
            obtain ⟨wa2, hWa⟩ : ∃ wa2, wa2 = wa1.alloc (Obj.cells #[.int .i64 0, .int .i64 1, .int .i64 0, .int .i64 (-1)] 2) := ⟨_, rfl⟩
            obtain ⟨NBx, hNa⟩ : ∃ NBx, NBx = wa1.heap.size := ⟨_, rfl⟩
            have kB : wa2.heap[NBx]? = some (Obj.cells #[.int .i64 0, .int .i64 1, .int .i64 0, .int .i64 (-1)] 2) := by rw [hWa]; exact FNew.heap_top hNa
            have lmB : wD.heap.size ≤ NBx := by rw [hNa]; exact lmS
            clear lmS
            have nO_B : b' ≠ NBx := by rw [hNa]; exact Nat.ne_of_lt ltO
            clear ltO
            have nA_B : NA ≠ NBx := by rw [hNa]; exact Nat.ne_of_lt ltA
            clear ltA
            rw [← hWa] at belD oO kA
            (try dsimp only at hHeld2)
            simp only [← hWa, ← hNa] at hHeld2 ⊢
            clear hWa hNa
            have hHeld := hHeld2
            clear hHeld2
            (try simp only [Act.put, List.setIfInBounds_toArray, List.set_cons_zero, List.set_cons_succ, List.getElem_toArray, List.getElem_cons_succ, List.getElem_cons_zero])
            (refine wpAnyH_take (i := 9) (v := ?_) rfl ?_ ?_ ?_ (fun _ _ _ h => h) (Or.inl ⟨?_, ?_⟩) ?_ ?_; rotate_left 1; (focus decide +kernel); (focus decide +kernel); (focus decide +kernel); (focus rfl); (focus (intro w hSw; (try dsimp only at hSw); go_simp; (try (with_reducible rfl)); done)); (focus assumption); (try simp only [Act.put, List.setIfInBounds_toArray, List.set_cons_zero, List.set_cons_succ, List.getElem_toArray, List.getElem_cons_succ, List.getElem_cons_zero]))
            refine wpAnyH_ready (rs := [4, 10]) ?_ (by simp) ?_
            · decide +kernel
            refine AllReadyH.cons rfl (fun K hK => ?_) (AllReadyH.cons rfl (fun K hK => ?_) AllReadyH.nil)
            · have kv : wa2.cell? ⟨NA, yn, none⟩ = some (.int .i64 (ddr (yn : Int))) := ld_r kA HYN.out
              go_simp
              refine hK.out _ _ ?_ (fun hHeld2 => ?_)
              · (try dsimp only); exact hHeld
              clear hK K hHeld kv
              have hHeld := hHeld2
              clear hHeld2
              (try simp only [Act.put, List.setIfInBounds_toArray, List.set_cons_zero, List.set_cons_succ, List.getElem_toArray, List.getElem_cons_succ, List.getElem_cons_zero])
              (refine wpAnyH_take (i := 5) (v := ?_) rfl ?_ ?_ ?_ (fun _ _ _ h => h) (Or.inl ⟨?_, ?_⟩) ?_ ?_; rotate_left 1; (focus decide +kernel); (focus decide +kernel); (focus decide +kernel); (focus rfl); (focus (intro w hSw; (try dsimp only at hSw); go_simp; (try (with_reducible rfl)); done)); (focus assumption); (try simp only [Act.put, List.setIfInBounds_toArray, List.set_cons_zero, List.set_cons_succ, List.getElem_toArray, List.getElem_cons_succ, List.getElem_cons_zero]))
              refine wpAnyH_ready (rs := [10]) ?_ (by simp) ?_
              · decide +kernel
              refine AllReadyH.cons rfl (fun K hK => ?_) AllReadyH.nil
              have kv : wa2.cell? ⟨NBx, yn, none⟩ = some (.int .i64 (ddc (yn : Int))) := ld_c kB HYN.out
              go_simp
              refine hK.out _ _ ?_ (fun hHeld2 => ?_)
              · (try dsimp only); exact hHeld
              clear hK K hHeld kv
              have hHeld := hHeld2
              clear hHeld2
              (try simp only [Act.put, List.setIfInBounds_toArray, List.set_cons_zero, List.set_cons_succ, List.getElem_toArray, List.getElem_cons_succ, List.getElem_cons_zero])
              (refine wpAnyH_take (i := 11) (v := ?_) rfl ?_ ?_ ?_ (fun _ _ _ h => h) (Or.inl ⟨?_, ?_⟩) ?_ ?_; rotate_left 1; (focus decide +kernel); (focus decide +kernel); (focus decide +kernel); (focus rfl); (focus (intro w hSw; (try dsimp only at hSw); go_simp; (try (with_reducible rfl)); done)); (focus assumption); (try simp only [Act.put, List.setIfInBounds_toArray, List.set_cons_zero, List.set_cons_succ, List.getElem_toArray, List.getElem_cons_succ, List.getElem_cons_zero]))
              refine wpAnyH_ready (rs := [12]) ?_ (by simp) ?_
              · decide +kernel
              refine AllReadyH.cons rfl (fun K hK => ?_) AllReadyH.nil
              go_simp
              go_at_call 15
              refine (roundT hHeld.2.1 hHeld.2.2.1 HRC.out.1 HRC.out.2 HXb.out.1 HXb.out.2 HXX.out.1 HXX.out.2 HTT.out).mono ?_
              rintro e wq ⟨rfl, m, hm⟩
              have bel : Below wa2.heap.size wa2 wq := by rw [hm]; exact FSpec.below_drewN' _ _ _
              clear hm
              replace belD := belD.trans (bel.mono belD.size)
              replace oO := oO.keep bel
              replace kA := heap_keep bel kA
              replace kB := heap_keep bel kB
              refine hK.out _ _ ?_ (fun hHeld2 => ?_)
              · (try dsimp only); exact next2_0 belD HD0.out
              clear hK K hHeld bel
              have hHeld := hHeld2
              clear hHeld2
              (try simp only [Act.put, List.setIfInBounds_toArray, List.set_cons_zero, List.set_cons_succ, List.getElem_toArray, List.getElem_cons_succ, List.getElem_cons_zero])
              (refine wpAnyH_take (i := 13) (v := ?_) rfl ?_ ?_ ?_ (fun _ _ _ h => h) (Or.inl ⟨?_, ?_⟩) ?_ ?_; rotate_left 1; (focus decide +kernel); (focus decide +kernel); (focus decide +kernel); (focus rfl); (focus (intro w hSw; (try dsimp only at hSw); go_simp; (try (with_reducible rfl)); done)); (focus assumption); (try simp only [Act.put, List.setIfInBounds_toArray, List.set_cons_zero, List.set_cons_succ, List.getElem_toArray, List.getElem_cons_succ, List.getElem_cons_zero]))
              refine wpAnyH_done (by kernel_rfl) ?_ _
              have HGq := hid (g_bel HGD.out belD)
              have HOq := hid oO
              have c1 := hHeld.2.2.1
              clear hHeld belD oO kA kB
              go_wp2
              go_roundw
              case rel =>
                refine ⟨j + 1, by omega, ?_, ?_, ?_, by go_num, HGq.out, ?_⟩
                · simp only [run, stp]; rw [← HS1.out, ← HL.out, ← HPP.out, HXV.out, HTR.out, HXX.out.1]
                · simp only [run, stp]; rw [← HS1.out, ← HL.out, ← HPP.out, HXV.out, HTR.out, em, HXX.out.2]
                · simp only [run, stp]; rw [← HS1.out, ← HL.out, ← HPP.out, HXV.out, HTR.out]
                · simp only [run, stp]; rw [← HS1.out, ← HL.out, ← HPP.out, HXV.out]; exact HOq.out
              case measure => simp [intOf]; omega
            · have kv : wa2.cell? ⟨NBx, yn, none⟩ = some (.int .i64 (ddc (yn : Int))) := ld_c kB HYN.out
              go_simp
              refine hK.out _ _ ?_ (fun hHeld2 => ?_)
              · (try dsimp only); exact hHeld
              clear hK K hHeld kv
              have hHeld := hHeld2
              clear hHeld2
              (try simp only [Act.put, List.setIfInBounds_toArray, List.set_cons_zero, List.set_cons_succ, List.getElem_toArray, List.getElem_cons_succ, List.getElem_cons_zero])
              (refine wpAnyH_take (i := 11) (v := ?_) rfl ?_ ?_ ?_ (fun _ _ _ h => h) (Or.inl ⟨?_, ?_⟩) ?_ ?_; rotate_left 1; (focus decide +kernel); (focus decide +kernel); (focus decide +kernel); (focus rfl); (focus (intro w hSw; (try dsimp only at hSw); go_simp; (try (with_reducible rfl)); done)); (focus assumption); (try simp only [Act.put, List.setIfInBounds_toArray, List.set_cons_zero, List.set_cons_succ, List.getElem_toArray, List.getElem_cons_succ, List.getElem_cons_zero]))
              refine wpAnyH_ready (rs := [4]) ?_ (by simp) ?_
              · decide +kernel
              refine AllReadyH.cons rfl (fun K hK => ?_) AllReadyH.nil
              have kv : wa2.cell? ⟨NA, yn, none⟩ = some (.int .i64 (ddr (yn : Int))) := ld_r kA HYN.out
              go_simp
              refine hK.out _ _ ?_ (fun hHeld2 => ?_)
              · (try dsimp only); exact hHeld
              clear hK K hHeld kv
              have hHeld := hHeld2
              clear hHeld2
              (try simp only [Act.put, List.setIfInBounds_toArray, List.set_cons_zero, List.set_cons_succ, List.getElem_toArray, List.getElem_cons_succ, List.getElem_cons_zero])
              (refine wpAnyH_take (i := 5) (v := ?_) rfl ?_ ?_ ?_ (fun _ _ _ h => h) (Or.inl ⟨?_, ?_⟩) ?_ ?_; rotate_left 1; (focus decide +kernel); (focus decide +kernel); (focus decide +kernel); (focus rfl); (focus (intro w hSw; (try dsimp only at hSw); go_simp; (try (with_reducible rfl)); done)); (focus assumption); (try simp only [Act.put, List.setIfInBounds_toArray, List.set_cons_zero, List.set_cons_succ, List.getElem_toArray, List.getElem_cons_succ, List.getElem_cons_zero]))
              refine wpAnyH_ready (rs := [12]) ?_ (by simp) ?_
              · decide +kernel
              refine AllReadyH.cons rfl (fun K hK => ?_) AllReadyH.nil
              go_simp
              go_at_call 15
              refine (roundT hHeld.2.1 hHeld.2.2.1 HRC.out.1 HRC.out.2 HXb.out.1 HXb.out.2 HXX.out.1 HXX.out.2 HTT.out).mono ?_
              rintro e wq ⟨rfl, m, hm⟩
              have bel : Below wa2.heap.size wa2 wq := by rw [hm]; exact FSpec.below_drewN' _ _ _
              clear hm
              replace belD := belD.trans (bel.mono belD.size)
              replace oO := oO.keep bel
              replace kA := heap_keep bel kA
              replace kB := heap_keep bel kB
              refine hK.out _ _ ?_ (fun hHeld2 => ?_)
              · (try dsimp only); exact next2_0 belD HD0.out
              clear hK K hHeld bel
              have hHeld := hHeld2
              clear hHeld2
              (try simp only [Act.put, List.setIfInBounds_toArray, List.set_cons_zero, List.set_cons_succ, List.getElem_toArray, List.getElem_cons_succ, List.getElem_cons_zero])
              (refine wpAnyH_take (i := 13) (v := ?_) rfl ?_ ?_ ?_ (fun _ _ _ h => h) (Or.inl ⟨?_, ?_⟩) ?_ ?_; rotate_left 1; (focus decide +kernel); (focus decide +kernel); (focus decide +kernel); (focus rfl); (focus (intro w hSw; (try dsimp only at hSw); go_simp; (try (with_reducible rfl)); done)); (focus assumption); (try simp only [Act.put, List.setIfInBounds_toArray, List.set_cons_zero, List.set_cons_succ, List.getElem_toArray, List.getElem_cons_succ, List.getElem_cons_zero]))
              refine wpAnyH_done (by kernel_rfl) ?_ _
              have HGq := hid (g_bel HGD.out belD)
              have HOq := hid oO
              have c1 := hHeld.2.2.1
              clear hHeld belD oO kA kB
              go_wp2
              go_roundw
              case rel =>
                refine ⟨j + 1, by omega, ?_, ?_, ?_, by go_num, HGq.out, ?_⟩
                · simp only [run, stp]; rw [← HS1.out, ← HL.out, ← HPP.out, HXV.out, HTR.out, HXX.out.1]
                · simp only [run, stp]; rw [← HS1.out, ← HL.out, ← HPP.out, HXV.out, HTR.out, em, HXX.out.2]
                · simp only [run, stp]; rw [← HS1.out, ← HL.out, ← HPP.out, HXV.out, HTR.out]
                · simp only [run, stp]; rw [← HS1.out, ← HL.out, ← HPP.out, HXV.out]; exact HOq.out
              case measure => simp [intOf]; omega
        · go_simp
          have bel := below1 wD (Obj.cells #[.int .i64 0, .int .i64 1, .int .i64 0, .int .i64 (-1)] 2)
          have lmS := belD.size
          have ltO := (oO.lt)
          replace belD := belD.trans (bel.mono belD.size)
          replace oO := oO.keep bel
          refine hK.out _ _ ?_ (fun hHeld2 => ?_)
          · (try dsimp only); exact next2_0 belD HD0.out
          clear hK K hHeld bel
          obtain ⟨wa1, hWa⟩ : ∃ wa1, wa1 = wD.alloc (Obj.cells #[.int .i64 0, .int .i64 1, .int .i64 0, .int .i64 (-1)] 2) := ⟨_, rfl⟩
          obtain ⟨NBx, hNa⟩ : ∃ NBx, NBx = wD.heap.size := ⟨_, rfl⟩
          have kB : wa1.heap[NBx]? = some (Obj.cells #[.int .i64 0, .int .i64 1, .int .i64 0, .int .i64 (-1)] 2) := by rw [hWa]; exact FNew.heap_top hNa
          have lmB : wD.heap.size ≤ NBx := by rw [hNa]; exact lmS
          clear lmS
          have nO_B : b' ≠ NBx := by rw [hNa]; exact Nat.ne_of_lt ltO
          clear ltO
          rw [← hWa] at belD oO
          (try dsimp only at hHeld2)
          simp only [← hWa, ← hNa] at hHeld2 ⊢
          clear hWa hNa
          have hHeld := hHeld2
          clear hHeld2
          (try simp only [Act.put, List.setIfInBounds_toArray, List.set_cons_zero, List.set_cons_succ, List.getElem_toArray, List.getElem_cons_succ, List.getElem_cons_zero])
          (refine wpAnyH_take (i := 9) (v := ?_) rfl ?_ ?_ ?_ (fun _ _ _ h => h) (Or.inl ⟨?_, ?_⟩) ?_ ?_; rotate_left 1; (focus decide +kernel); (focus decide +kernel); (focus decide +kernel); (focus rfl); (focus (intro w hSw; (try dsimp only at hSw); go_simp; (try (with_reducible rfl)); done)); (focus assumption); (try simp only [Act.put, List.setIfInBounds_toArray, List.set_cons_zero, List.set_cons_succ, List.getElem_toArray, List.getElem_cons_succ, List.getElem_cons_zero]))
          refine wpAnyH_ready (rs := [1, 10]) ?_ (by simp) ?_
          · decide +kernel
          refine AllReadyH.cons rfl (fun K hK => ?_) (AllReadyH.cons rfl (fun K hK => ?_) AllReadyH.nil)
          · go_simp
            have bel := below1 wa1 (Obj.cells #[.int .i64 (-1), .int .i64 0, .int .i64 1, .int .i64 0] 2)
            have lmS := belD.size
            have ltO := (oO.lt)
            have ltB := (heap_lt kB)
            replace belD := belD.trans (bel.mono belD.size)
            replace oO := oO.keep bel
            replace kB := heap_keep bel kB
            refine hK.out _ _ ?_ (fun hHeld2 => ?_)
            · (try dsimp only); exact next2_0 belD HD0.out
            clear hK K hHeld bel
            obtain ⟨wa2, hWa⟩ : ∃ wa2, wa2 = wa1.alloc (Obj.cells #[.int .i64 (-1), .int .i64 0, .int .i64 1, .int .i64 0] 2) := ⟨_, rfl⟩
            obtain ⟨NA, hNa⟩ : ∃ NA, NA = wa1.heap.size := ⟨_, rfl⟩
            have kA : wa2.heap[NA]? = some (Obj.cells #[.int .i64 (-1), .int .i64 0, .int .i64 1, .int .i64 0] 2) := by rw [hWa]; exact FNew.heap_top hNa
            have lmA : wD.heap.size ≤ NA := by rw [hNa]; exact lmS
            clear lmS
            have nO_A : b' ≠ NA := by rw [hNa]; exact Nat.ne_of_lt ltO
            clear ltO
            have nB_A : NBx ≠ NA := by rw [hNa]; exact Nat.ne_of_lt ltB
            clear ltB
            rw [← hWa] at belD oO kB
            (try dsimp only at hHeld2)
            simp only [← hWa, ← hNa] at hHeld2 ⊢
            clear hWa hNa
            have hHeld := hHeld2
            clear hHeld2
            (try simp only [Act.put, List.setIfInBounds_toArray, List.set_cons_zero, List.set_cons_succ, List.getElem_toArray, List.getElem_cons_succ, List.getElem_cons_zero])
            (refine wpAnyH_take (i := 3) (v := ?_) rfl ?_ ?_ ?_ (fun _ _ _ h => h) (Or.inl ⟨?_, ?_⟩) ?_ ?_; rotate_left 1; (focus decide +kernel); (focus decide +kernel); (focus decide +kernel); (focus rfl); (focus (intro w hSw; (try dsimp only at hSw); go_simp; (try (with_reducible rfl)); done)); (focus assumption); (try simp only [Act.put, List.setIfInBounds_toArray, List.set_cons_zero, List.set_cons_succ, List.getElem_toArray, List.getElem_cons_succ, List.getElem_cons_zero]))
            refine wpAnyH_ready (rs := [4, 10]) ?_ (by simp) ?_
            · decide +kernel
            refine AllReadyH.cons rfl (fun K hK => ?_) (AllReadyH.cons rfl (fun K hK => ?_) AllReadyH.nil)
            · have kv : wa2.cell? ⟨NA, yn, none⟩ = some (.int .i64 (ddr (yn : Int))) := ld_r kA HYN.out
              go_simp
              refine hK.out _ _ ?_ (fun hHeld2 => ?_)
              · (try dsimp only); exact hHeld
              clear hK K hHeld kv
              have hHeld := hHeld2
              clear hHeld2
              (try simp only [Act.put, List.setIfInBounds_toArray, List.set_cons_zero, List.set_cons_succ, List.getElem_toArray, List.getElem_cons_succ, List.getElem_cons_zero])
              (refine wpAnyH_take (i := 5) (v := ?_) rfl ?_ ?_ ?_ (fun _ _ _ h => h) (Or.inl ⟨?_, ?_⟩) ?_ ?_; rotate_left 1; (focus decide +kernel); (focus decide +kernel); (focus decide +kernel); (focus rfl); (focus (intro w hSw; (try dsimp only at hSw); go_simp; (try (with_reducible rfl)); done)); (focus assumption); (try simp only [Act.put, List.setIfInBounds_toArray, List.set_cons_zero, List.set_cons_succ, List.getElem_toArray, List.getElem_cons_succ, List.getElem_cons_zero]))
              refine wpAnyH_ready (rs := [10]) ?_ (by simp) ?_
              · decide +kernel
              refine AllReadyH.cons rfl (fun K hK => ?_) AllReadyH.nil
              have kv : wa2.cell? ⟨NBx, yn, none⟩ = some (.int .i64 (ddc (yn : Int))) := ld_c kB HYN.out
              go_simp
              refine hK.out _ _ ?_ (fun hHeld2 => ?_)
              · (try dsimp only); exact hHeld
              clear hK K hHeld kv
              have hHeld := hHeld2
              clear hHeld2
              (try simp only [Act.put, List.setIfInBounds_toArray, List.set_cons_zero, List.set_cons_succ, List.getElem_toArray, List.getElem_cons_succ, List.getElem_cons_zero])
              (refine wpAnyH_take (i := 11) (v := ?_) rfl ?_ ?_ ?_ (fun _ _ _ h => h) (Or.inl ⟨?_, ?_⟩) ?_ ?_; rotate_left 1; (focus decide +kernel); (focus decide +kernel); (focus decide +kernel); (focus rfl); (focus (intro w hSw; (try dsimp only at hSw); go_simp; (try (with_reducible rfl)); done)); (focus assumption); (try simp only [Act.put, List.setIfInBounds_toArray, List.set_cons_zero, List.set_cons_succ, List.getElem_toArray, List.getElem_cons_succ, List.getElem_cons_zero]))
              refine wpAnyH_ready (rs := [12]) ?_ (by simp) ?_
              · decide +kernel
              refine AllReadyH.cons rfl (fun K hK => ?_) AllReadyH.nil
              go_simp
              go_at_call 15
              refine (roundT hHeld.2.1 hHeld.2.2.1 HRC.out.1 HRC.out.2 HXb.out.1 HXb.out.2 HXX.out.1 HXX.out.2 HTT.out).mono ?_
              rintro e wq ⟨rfl, m, hm⟩
              have bel : Below wa2.heap.size wa2 wq := by rw [hm]; exact FSpec.below_drewN' _ _ _
              clear hm
              replace belD := belD.trans (bel.mono belD.size)
              replace oO := oO.keep bel
              replace kB := heap_keep bel kB
              replace kA := heap_keep bel kA
              refine hK.out _ _ ?_ (fun hHeld2 => ?_)
              · (try dsimp only); exact next2_0 belD HD0.out
              clear hK K hHeld bel
              have hHeld := hHeld2
              clear hHeld2
              (try simp only [Act.put, List.setIfInBounds_toArray, List.set_cons_zero, List.set_cons_succ, List.getElem_toArray, List.getElem_cons_succ, List.getElem_cons_zero])
              (refine wpAnyH_take (i := 13) (v := ?_) rfl ?_ ?_ ?_ (fun _ _ _ h => h) (Or.inl ⟨?_, ?_⟩) ?_ ?_; rotate_left 1; (focus decide +kernel); (focus decide +kernel); (focus decide +kernel); (focus rfl); (focus (intro w hSw; (try dsimp only at hSw); go_simp; (try (with_reducible rfl)); done)); (focus assumption); (try simp only [Act.put, List.setIfInBounds_toArray, List.set_cons_zero, List.set_cons_succ, List.getElem_toArray, List.getElem_cons_succ, List.getElem_cons_zero]))
              refine wpAnyH_done (by kernel_rfl) ?_ _
              have HGq := hid (g_bel HGD.out belD)
              have HOq := hid oO
              have c1 := hHeld.2.2.1
              clear hHeld belD oO kA kB
              go_wp2
              go_roundw
              case rel =>
                refine ⟨j + 1, by omega, ?_, ?_, ?_, by go_num, HGq.out, ?_⟩
                · simp only [run, stp]; rw [← HS1.out, ← HL.out, ← HPP.out, HXV.out, HTR.out, HXX.out.1]
                · simp only [run, stp]; rw [← HS1.out, ← HL.out, ← HPP.out, HXV.out, HTR.out, em, HXX.out.2]
                · simp only [run, stp]; rw [← HS1.out, ← HL.out, ← HPP.out, HXV.out, HTR.out]
                · simp only [run, stp]; rw [← HS1.out, ← HL.out, ← HPP.out, HXV.out]; exact HOq.out
              case measure => simp [intOf]; omega
            · have kv : wa2.cell? ⟨NBx, yn, none⟩ = some (.int .i64 (ddc (yn : Int))) := ld_c kB HYN.out
              go_simp
              refine hK.out _ _ ?_ (fun hHeld2 => ?_)
              · (try dsimp only); exact hHeld
              clear hK K hHeld kv
              have hHeld := hHeld2
              clear hHeld2
              (try simp only [Act.put, List.setIfInBounds_toArray, List.set_cons_zero, List.set_cons_succ, List.getElem_toArray, List.getElem_cons_succ, List.getElem_cons_zero])
              (refine wpAnyH_take (i := 11) (v := ?_) rfl ?_ ?_ ?_ (fun _ _ _ h => h) (Or.inl ⟨?_, ?_⟩) ?_ ?_; rotate_left 1; (focus decide +kernel); (focus decide +kernel); (focus decide +kernel); (focus rfl); (focus (intro w hSw; (try dsimp only at hSw); go_simp; (try (with_reducible rfl)); done)); (focus assumption); (try simp only [Act.put, List.setIfInBounds_toArray, List.set_cons_zero, List.set_cons_succ, List.getElem_toArray, List.getElem_cons_succ, List.getElem_cons_zero]))
              refine wpAnyH_ready (rs := [4]) ?_ (by simp) ?_
              · decide +kernel
              refine AllReadyH.cons rfl (fun K hK => ?_) AllReadyH.nil
              have kv : wa2.cell? ⟨NA, yn, none⟩ = some (.int .i64 (ddr (yn : Int))) := ld_r kA HYN.out
              go_simp
              refine hK.out _ _ ?_ (fun hHeld2 => ?_)
              · (try dsimp only); exact hHeld
              clear hK K hHeld kv
              have hHeld := hHeld2
              clear hHeld2
              (try simp only [Act.put, List.setIfInBounds_toArray, List.set_cons_zero, List.set_cons_succ, List.getElem_toArray, List.getElem_cons_succ, List.getElem_cons_zero])
              (refine wpAnyH_take (i := 5) (v := ?_) rfl ?_ ?_ ?_ (fun _ _ _ h => h) (Or.inl ⟨?_, ?_⟩) ?_ ?_; rotate_left 1; (focus decide +kernel); (focus decide +kernel); (focus decide +kernel); (focus rfl); (focus (intro w hSw; (try dsimp only at hSw); go_simp; (try (with_reducible rfl)); done)); (focus assumption); (try simp only [Act.put, List.setIfInBounds_toArray, List.set_cons_zero, List.set_cons_succ, List.getElem_toArray, List.getElem_cons_succ, List.getElem_cons_zero]))
              refine wpAnyH_ready (rs := [12]) ?_ (by simp) ?_
              · decide +kernel
              refine AllReadyH.cons rfl (fun K hK => ?_) AllReadyH.nil
              go_simp
              go_at_call 15
              refine (roundT hHeld.2.1 hHeld.2.2.1 HRC.out.1 HRC.out.2 HXb.out.1 HXb.out.2 HXX.out.1 HXX.out.2 HTT.out).mono ?_
              rintro e wq ⟨rfl, m, hm⟩
              have bel : Below wa2.heap.size wa2 wq := by rw [hm]; exact FSpec.below_drewN' _ _ _
              clear hm
              replace belD := belD.trans (bel.mono belD.size)
              replace oO := oO.keep bel
              replace kB := heap_keep bel kB
              replace kA := heap_keep bel kA
              refine hK.out _ _ ?_ (fun hHeld2 => ?_)
              · (try dsimp only); exact next2_0 belD HD0.out
              clear hK K hHeld bel
              have hHeld := hHeld2
              clear hHeld2
              (try simp only [Act.put, List.setIfInBounds_toArray, List.set_cons_zero, List.set_cons_succ, List.getElem_toArray, List.getElem_cons_succ, List.getElem_cons_zero])
              (refine wpAnyH_take (i := 13) (v := ?_) rfl ?_ ?_ ?_ (fun _ _ _ h => h) (Or.inl ⟨?_, ?_⟩) ?_ ?_; rotate_left 1; (focus decide +kernel); (focus decide +kernel); (focus decide +kernel); (focus rfl); (focus (intro w hSw; (try dsimp only at hSw); go_simp; (try (with_reducible rfl)); done)); (focus assumption); (try simp only [Act.put, List.setIfInBounds_toArray, List.set_cons_zero, List.set_cons_succ, List.getElem_toArray, List.getElem_cons_succ, List.getElem_cons_zero]))
              refine wpAnyH_done (by kernel_rfl) ?_ _
              have HGq := hid (g_bel HGD.out belD)
              have HOq := hid oO
              have c1 := hHeld.2.2.1
              clear hHeld belD oO kA kB
              go_wp2
              go_roundw
              case rel =>
                refine ⟨j + 1, by omega, ?_, ?_, ?_, by go_num, HGq.out, ?_⟩
                · simp only [run, stp]; rw [← HS1.out, ← HL.out, ← HPP.out, HXV.out, HTR.out, HXX.out.1]
                · simp only [run, stp]; rw [← HS1.out, ← HL.out, ← HPP.out, HXV.out, HTR.out, em, HXX.out.2]
                · simp only [run, stp]; rw [← HS1.out, ← HL.out, ← HPP.out, HXV.out, HTR.out]
                · simp only [run, stp]; rw [← HS1.out, ← HL.out, ← HPP.out, HXV.out]; exact HOq.out
              case measure => simp [intOf]; omega
          · have kv : wa1.cell? ⟨NBx, yn, none⟩ = some (.int .i64 (ddc (yn : Int))) := ld_c kB HYN.out
            go_simp
            refine hK.out _ _ ?_ (fun hHeld2 => ?_)
            · (try dsimp only); exact hHeld
            clear hK K hHeld kv
            have hHeld := hHeld2
            clear hHeld2
            (try simp only [Act.put, List.setIfInBounds_toArray, List.set_cons_zero, List.set_cons_succ, List.getElem_toArray, List.getElem_cons_succ, List.getElem_cons_zero])
            (refine wpAnyH_take (i := 11) (v := ?_) rfl ?_ ?_ ?_ (fun _ _ _ h => h) (Or.inl ⟨?_, ?_⟩) ?_ ?_; rotate_left 1; (focus decide +kernel); (focus decide +kernel); (focus decide +kernel); (focus rfl); (focus (intro w hSw; (try dsimp only at hSw); go_simp; (try (with_reducible rfl)); done)); (focus assumption); (try simp only [Act.put, List.setIfInBounds_toArray, List.set_cons_zero, List.set_cons_succ, List.getElem_toArray, List.getElem_cons_succ, List.getElem_cons_zero]))
            refine wpAnyH_ready (rs := [1]) ?_ (by simp) ?_
            · decide +kernel
            refine AllReadyH.cons rfl (fun K hK => ?_) AllReadyH.nil
            go_simp
            have bel := below1 wa1 (Obj.cells #[.int .i64 (-1), .int .i64 0, .int .i64 1, .int .i64 0] 2)
            have lmS := belD.size
            have ltO := (oO.lt)
            have ltB := (heap_lt kB)
            replace belD := belD.trans (bel.mono belD.size)
            replace oO := oO.keep bel
            replace kB := heap_keep bel kB
            refine hK.out _ _ ?_ (fun hHeld2 => ?_)
            · (try dsimp only); exact next2_0 belD HD0.out
            clear hK K hHeld bel
            obtain ⟨wa2, hWa⟩ : ∃ wa2, wa2 = wa1.alloc (Obj.cells #[.int .i64 (-1), .int .i64 0, .int .i64 1, .int .i64 0] 2) := ⟨_, rfl⟩
            obtain ⟨NA, hNa⟩ : ∃ NA, NA = wa1.heap.size := ⟨_, rfl⟩
            have kA : wa2.heap[NA]? = some (Obj.cells #[.int .i64 (-1), .int .i64 0, .int .i64 1, .int .i64 0] 2) := by rw [hWa]; exact FNew.heap_top hNa
            have lmA : wD.heap.size ≤ NA := by rw [hNa]; exact lmS
            clear lmS
            have nO_A : b' ≠ NA := by rw [hNa]; exact Nat.ne_of_lt ltO
            clear ltO
            have nB_A : NBx ≠ NA := by rw [hNa]; exact Nat.ne_of_lt ltB
            clear ltB
            rw [← hWa] at belD oO kB
            (try dsimp only at hHeld2)
            simp only [← hWa, ← hNa] at hHeld2 ⊢
            clear hWa hNa
            have hHeld := hHeld2
            clear hHeld2
            (try simp only [Act.put, List.setIfInBounds_toArray, List.set_cons_zero, List.set_cons_succ, List.getElem_toArray, List.getElem_cons_succ, List.getElem_cons_zero])
            (refine wpAnyH_take (i := 3) (v := ?_) rfl ?_ ?_ ?_ (fun _ _ _ h => h) (Or.inl ⟨?_, ?_⟩) ?_ ?_; rotate_left 1; (focus decide +kernel); (focus decide +kernel); (focus decide +kernel); (focus rfl); (focus (intro w hSw; (try dsimp only at hSw); go_simp; (try (with_reducible rfl)); done)); (focus assumption); (try simp only [Act.put, List.setIfInBounds_toArray, List.set_cons_zero, List.set_cons_succ, List.getElem_toArray, List.getElem_cons_succ, List.getElem_cons_zero]))
            refine wpAnyH_ready (rs := [4]) ?_ (by simp) ?_
            · decide +kernel
            refine AllReadyH.cons rfl (fun K hK => ?_) AllReadyH.nil
            have kv : wa2.cell? ⟨NA, yn, none⟩ = some (.int .i64 (ddr (yn : Int))) := ld_r kA HYN.out
            go_simp
            refine hK.out _ _ ?_ (fun hHeld2 => ?_)
            · (try dsimp only); exact hHeld
            clear hK K hHeld kv
            have hHeld := hHeld2
            clear hHeld2
            (try simp only [Act.put, List.setIfInBounds_toArray, List.set_cons_zero, List.set_cons_succ, List.getElem_toArray, List.getElem_cons_succ, List.getElem_cons_zero])
            (refine wpAnyH_take (i := 5) (v := ?_) rfl ?_ ?_ ?_ (fun _ _ _ h => h) (Or.inl ⟨?_, ?_⟩) ?_ ?_; rotate_left 1; (focus decide +kernel); (focus decide +kernel); (focus decide +kernel); (focus rfl); (focus (intro w hSw; (try dsimp only at hSw); go_simp; (try (with_reducible rfl)); done)); (focus assumption); (try simp only [Act.put, List.setIfInBounds_toArray, List.set_cons_zero, List.set_cons_succ, List.getElem_toArray, List.getElem_cons_succ, List.getElem_cons_zero]))
            refine wpAnyH_ready (rs := [12]) ?_ (by simp) ?_
            · decide +kernel
            refine AllReadyH.cons rfl (fun K hK => ?_) AllReadyH.nil
            go_simp
            go_at_call 15
            refine (roundT hHeld.2.1 hHeld.2.2.1 HRC.out.1 HRC.out.2 HXb.out.1 HXb.out.2 HXX.out.1 HXX.out.2 HTT.out).mono ?_
            rintro e wq ⟨rfl, m, hm⟩
            have bel : Below wa2.heap.size wa2 wq := by rw [hm]; exact FSpec.below_drewN' _ _ _
            clear hm
            replace belD := belD.trans (bel.mono belD.size)
            replace oO := oO.keep bel
            replace kB := heap_keep bel kB
            replace kA := heap_keep bel kA
            refine hK.out _ _ ?_ (fun hHeld2 => ?_)
            · (try dsimp only); exact next2_0 belD HD0.out
            clear hK K hHeld bel
            have hHeld := hHeld2
            clear hHeld2
            (try simp only [Act.put, List.setIfInBounds_toArray, List.set_cons_zero, List.set_cons_succ, List.getElem_toArray, List.getElem_cons_succ, List.getElem_cons_zero])
            (refine wpAnyH_take (i := 13) (v := ?_) rfl ?_ ?_ ?_ (fun _ _ _ h => h) (Or.inl ⟨?_, ?_⟩) ?_ ?_; rotate_left 1; (focus decide +kernel); (focus decide +kernel); (focus decide +kernel); (focus rfl); (focus (intro w hSw; (try dsimp only at hSw); go_simp; (try (with_reducible rfl)); done)); (focus assumption); (try simp only [Act.put, List.setIfInBounds_toArray, List.set_cons_zero, List.set_cons_succ, List.getElem_toArray, List.getElem_cons_succ, List.getElem_cons_zero]))
            refine wpAnyH_done (by kernel_rfl) ?_ _
            have HGq := hid (g_bel HGD.out belD)
            have HOq := hid oO
            have c1 := hHeld.2.2.1
            clear hHeld belD oO kA kB
            go_wp2
            go_roundw
            case rel =>
              refine ⟨j + 1, by omega, ?_, ?_, ?_, by go_num, HGq.out, ?_⟩
              · simp only [run, stp]; rw [← HS1.out, ← HL.out, ← HPP.out, HXV.out, HTR.out, HXX.out.1]
              · simp only [run, stp]; rw [← HS1.out, ← HL.out, ← HPP.out, HXV.out, HTR.out, em, HXX.out.2]
              · simp only [run, stp]; rw [← HS1.out, ← HL.out, ← HPP.out, HXV.out, HTR.out]
              · simp only [run, stp]; rw [← HS1.out, ← HL.out, ← HPP.out, HXV.out]; exact HOq.out
            case measure => simp [intOf]; omega
    · have hjS : j = S := by omega
      subst hjS
      have hge : ¬ (0 : Int) < (j : Int) - (j : Int) := by omega
      have x0 : wr.cell? ⟨NX, 0, none⟩ = some (.int .i64 (R : Int)) := g_cell HG.out (Go.Joins.cell_of_block HKX.out 0) HWb.out
      have x1 : wr.cell? ⟨NX, 1, none⟩ = some (.int .i64 (C : Int)) := g_cell HG.out (Go.Joins.cell_of_block HKX.out 1) HWb.out
      have x2 : wr.cell? ⟨NX, 2, none⟩ = some (.slice (some ⟨b', 0, none⟩) n k) := g_cell HG.out (Go.Joins.cell_of_block HKX.out 2) HWb.out
      have kT := g_heap HG.out HKT.out HNB.out
      have y0 : wr.cell? ⟨NT, 0, none⟩ = some (.int .i64 0) := Go.Joins.cell_of_block kT 0
      have y1 : wr.cell? ⟨NT, 1, none⟩ = some (.int .i64 0) := Go.Joins.cell_of_block kT 1
      have y2 : wr.cell? ⟨NT, 2, none⟩ = some (.slice none 0 0) := Go.Joins.cell_of_block kT 2
      have g0 : wr.frozen? ⟨NT, 0, none⟩ = false := Go.Joins.unfrozen_of_block kT 0
      have g1 : wr.frozen? ⟨NT, 1, none⟩ = false := Go.Joins.unfrozen_of_block kT 1
      have g2 : wr.frozen? ⟨NT, 2, none⟩ = false := Go.Joins.unfrozen_of_block kT 2
      have HKx := hid kT
      clear kT
      go_wp2
      obtain ⟨W5, hW⟩ : ∃ W5, W5 = (((wr.setCell ⟨NT, 0, none⟩ (.int .i64 R)).setCell ⟨NT, 1, none⟩ (.int .i64 C)).setCell ⟨NT, 2, none⟩ (.slice (some ⟨b', 0, none⟩) n k)) := ⟨_, rfl⟩
      have q0 := (Go.Joins.block_setCell (i := 2) (Go.Joins.block_setCell (i := 1) (Go.Joins.block_setCell (i := 0) HKx.out (.int .i64 R)) (.int .i64 C)) (.slice (some ⟨b', 0, none⟩) n k))
      rw [← hW] at q0
      have z0 : W5.cell? ⟨NT, 0, none⟩ = some (.int .i64 R) := Go.Joins.cell_of_block q0 0
      have z1 : W5.cell? ⟨NT, 1, none⟩ = some (.int .i64 C) := Go.Joins.cell_of_block q0 1
      have z2 : W5.cell? ⟨NT, 2, none⟩ = some (.slice (some ⟨b', 0, none⟩) n k) := Go.Joins.cell_of_block q0 2
      have O5 := (own_set (own_set (own_set HOW.out ⟨NT, 0, none⟩ (.int .i64 R) HNB.out) ⟨NT, 1, none⟩ (.int .i64 C) HNB.out) ⟨NT, 2, none⟩ (.slice (some ⟨b', 0, none⟩) n k) HNB.out)
      rw [← hW] at O5
      have B5 : Below w.heap.size w W5 := by
        have h1 := HNT.out
        rw [hW]
        exact ((HB.out.setCell (by simp; omega) _).setCell (by simp; omega) _).setCell (by simp; omega) _
      simp only [← hW]
      clear hW q0
      simp [bodyPost, results, Tryd.results5, go_sem, z0, z1, z2]
      rw [← HS1.out]; exact ⟨b', k, ⟨⟨rfl, rfl⟩, rfl, rfl, rfl⟩, O5, HLO.out, B5⟩

end Go.Proofs.YtmbimekndhcgaaaDoor.Ras
