/- DrawField of both sides: the functions. -/
import Derived.Test.YtlecpilgimiaaaaDrf
namespace Go.Proofs.Ytlecpilgimiaaaa.Drg
open Go.RowKit Go.Proofs.Ytlecpilgimiaaaa.Rd Go.Proofs.Ytlecpilgimiaaaa.Help Go.Proofs.Ytlecpilgimiaaaa.Ring Go.Proofs.Ytlecpilgimiaaaa.Small Go.Proofs.Ytlecpilgimiaaaa.FVal Go.Proofs.Ytlecpilgimiaaaa.Keep Go.Proofs.Ytlecpilgimiaaaa.Rule Go.Proofs.Ytlecpilgimiaaaa.FNew Go.Proofs.Ytlecpilgimiaaaa.Fl Go.Proofs.Ytlecpilgimiaaaa.Drf
set_option linter.unusedVariables false
set_option linter.unusedSimpArgs false

set_option maxHeartbeats 2000000 in
theorem specNo1 {w : World} {a b sd : Int} {X : Nat} {x : Option Nat} (IX : Is .f32 X x) (hq : sidesB a b = false) :
    Calls Try.prog 4 #[.int .i64 a, .int .i64 b, .float .f32 X, .int .i64 sd] w fun e w' => e = .returned (.tuple #[ruleV 0 0 (.slice none 0 0), .int .i64 0, .bool false]) ∧ Below w.heap.size w w' := by
  have HQ := hid hq
  clear hq
  go_enter Try.func4, Try.ntmps4
  go_wp2_with fail
  obtain ⟨w1, hW⟩ : ∃ w1, w1 = w.alloc (Obj.cells #[.int .i64 0, .int .i64 0, .slice none 0 0] 25) := ⟨_, rfl⟩
  obtain ⟨NT, hN⟩ : ∃ NT, NT = w.heap.size := ⟨_, rfl⟩
  have b1 : Below w.heap.size w w1 := by rw [hW]; exact below1 _ _
  have kb : w1.heap[NT]? = some (Obj.cells #[.int .i64 0, .int .i64 0, .slice none 0 0] 25) := by rw [hW]; exact heap_top hN
  have HNT : Hid (w.heap.size ≤ NT) := by simp only [Hid]; omega
  simp only [← hW, ← hN]
  clear hW hN
  go_at_call 9
  refine FSpec.l04Sides.mono ?_
  rw [HQ.out]
  rintro e w2 ⟨rfl, hw2⟩
  subst hw2
  have w2e : True := trivial
  have HB := hid b1
  have y0 : w1.cell? ⟨NT, 0, none⟩ = some (.int .i64 0) := Go.Joins.cell_of_block kb 0
  have y1 : w1.cell? ⟨NT, 1, none⟩ = some (.int .i64 0) := Go.Joins.cell_of_block kb 1
  have y2 : w1.cell? ⟨NT, 2, none⟩ = some (.slice none 0 0) := Go.Joins.cell_of_block kb 2
  have g0 : w1.frozen? ⟨NT, 0, none⟩ = false := Go.Joins.unfrozen_of_block kb 0
  have g1 : w1.frozen? ⟨NT, 1, none⟩ = false := Go.Joins.unfrozen_of_block kb 1
  have g2 : w1.frozen? ⟨NT, 2, none⟩ = false := Go.Joins.unfrozen_of_block kb 2
  have HKx := hid kb
  clear kb
  go_wp2
  obtain ⟨W5, hW⟩ : ∃ W5, W5 = (((w1.setCell ⟨NT, 0, none⟩ (.int .i64 0)).setCell ⟨NT, 1, none⟩ (.int .i64 0)).setCell ⟨NT, 2, none⟩ (.slice none 0 0)) := ⟨_, rfl⟩
  have q0 := (Go.Joins.block_setCell (i := 2) (Go.Joins.block_setCell (i := 1) (Go.Joins.block_setCell (i := 0) HKx.out (.int .i64 0)) (.int .i64 0)) (.slice none 0 0))
  rw [← hW] at q0
  have z0 : W5.cell? ⟨NT, 0, none⟩ = some (.int .i64 0) := Go.Joins.cell_of_block q0 0
  have z1 : W5.cell? ⟨NT, 1, none⟩ = some (.int .i64 0) := Go.Joins.cell_of_block q0 1
  have z2 : W5.cell? ⟨NT, 2, none⟩ = some (.slice none 0 0) := Go.Joins.cell_of_block q0 2
  have B5 : Below w.heap.size w W5 := by
    have h1 := HNT.out
    rw [hW]
    exact ((HB.out.setCell (by simp; omega) _).setCell (by simp; omega) _).setCell (by simp; omega) _
  simp only [← hW]
  clear hW q0
  simp [bodyPost, results, Try.results4, go_sem, z0, z1, z2]
  exact B5

set_option maxHeartbeats 2000000 in
theorem specNo2 {w : World} {a b sd : Int} {X : Nat} {x : Option Nat} (IX : Is .f32 X x) (hq : sidesB a b = true) (hsh : shareB x = false) :
    Calls Try.prog 4 #[.int .i64 a, .int .i64 b, .float .f32 X, .int .i64 sd] w fun e w' => e = .returned (.tuple #[ruleV 0 0 (.slice none 0 0), .int .i64 0, .bool false]) ∧ Below w.heap.size w w' := by
  have HQ := hid hq
  have HSH := hid hsh
  clear hq hsh
  go_enter Try.func4, Try.ntmps4
  go_wp2_with fail
  obtain ⟨w1, hW⟩ : ∃ w1, w1 = w.alloc (Obj.cells #[.int .i64 0, .int .i64 0, .slice none 0 0] 25) := ⟨_, rfl⟩
  obtain ⟨NT, hN⟩ : ∃ NT, NT = w.heap.size := ⟨_, rfl⟩
  have b1 : Below w.heap.size w w1 := by rw [hW]; exact below1 _ _
  have kb : w1.heap[NT]? = some (Obj.cells #[.int .i64 0, .int .i64 0, .slice none 0 0] 25) := by rw [hW]; exact heap_top hN
  have HNT : Hid (w.heap.size ≤ NT) := by simp only [Hid]; omega
  simp only [← hW, ← hN]
  clear hW hN
  go_at_call 9
  refine FSpec.l04Sides.mono ?_
  rw [HQ.out]
  rintro e w2 ⟨rfl, hw2⟩
  subst hw2
  go_wp2_with fail
  go_at_call 10
  refine (specShare IX).mono ?_
  rw [HSH.out]
  rintro e w2 ⟨rfl, hw2⟩
  subst hw2
  have w2e : True := trivial
  have HB := hid b1
  have y0 : w1.cell? ⟨NT, 0, none⟩ = some (.int .i64 0) := Go.Joins.cell_of_block kb 0
  have y1 : w1.cell? ⟨NT, 1, none⟩ = some (.int .i64 0) := Go.Joins.cell_of_block kb 1
  have y2 : w1.cell? ⟨NT, 2, none⟩ = some (.slice none 0 0) := Go.Joins.cell_of_block kb 2
  have g0 : w1.frozen? ⟨NT, 0, none⟩ = false := Go.Joins.unfrozen_of_block kb 0
  have g1 : w1.frozen? ⟨NT, 1, none⟩ = false := Go.Joins.unfrozen_of_block kb 1
  have g2 : w1.frozen? ⟨NT, 2, none⟩ = false := Go.Joins.unfrozen_of_block kb 2
  have HKx := hid kb
  clear kb
  go_wp2
  obtain ⟨W5, hW⟩ : ∃ W5, W5 = (((w1.setCell ⟨NT, 0, none⟩ (.int .i64 0)).setCell ⟨NT, 1, none⟩ (.int .i64 0)).setCell ⟨NT, 2, none⟩ (.slice none 0 0)) := ⟨_, rfl⟩
  have q0 := (Go.Joins.block_setCell (i := 2) (Go.Joins.block_setCell (i := 1) (Go.Joins.block_setCell (i := 0) HKx.out (.int .i64 0)) (.int .i64 0)) (.slice none 0 0))
  rw [← hW] at q0
  have z0 : W5.cell? ⟨NT, 0, none⟩ = some (.int .i64 0) := Go.Joins.cell_of_block q0 0
  have z1 : W5.cell? ⟨NT, 1, none⟩ = some (.int .i64 0) := Go.Joins.cell_of_block q0 1
  have z2 : W5.cell? ⟨NT, 2, none⟩ = some (.slice none 0 0) := Go.Joins.cell_of_block q0 2
  have B5 : Below w.heap.size w W5 := by
    have h1 := HNT.out
    rw [hW]
    exact ((HB.out.setCell (by simp; omega) _).setCell (by simp; omega) _).setCell (by simp; omega) _
  simp only [← hW]
  clear hW q0
  simp [bodyPost, results, Try.results4, go_sem, z0, z1, z2]
  exact B5

set_option maxHeartbeats 2000000 in
theorem specNo3 {w : World} {a b sd : Int} {X : Nat} {x : Option Nat} (IX : Is .f32 X x) (hq : sidesB a b = true) (hsh : shareB x = true) (hse : seedB sd = false) :
    Calls Try.prog 4 #[.int .i64 a, .int .i64 b, .float .f32 X, .int .i64 sd] w fun e w' => e = .returned (.tuple #[ruleV 0 0 (.slice none 0 0), .int .i64 0, .bool false]) ∧ Below w.heap.size w w' := by
  have HQ := hid hq
  have HSH := hid hsh
  have HSE : Hid (decide (0 ≤ sd ∧ sd ≤ 4294967295) = false) := hse
  clear hq hsh hse
  go_enter Try.func4, Try.ntmps4
  go_wp2_with fail
  obtain ⟨w1, hW⟩ : ∃ w1, w1 = w.alloc (Obj.cells #[.int .i64 0, .int .i64 0, .slice none 0 0] 25) := ⟨_, rfl⟩
  obtain ⟨NT, hN⟩ : ∃ NT, NT = w.heap.size := ⟨_, rfl⟩
  have b1 : Below w.heap.size w w1 := by rw [hW]; exact below1 _ _
  have kb : w1.heap[NT]? = some (Obj.cells #[.int .i64 0, .int .i64 0, .slice none 0 0] 25) := by rw [hW]; exact heap_top hN
  have HNT : Hid (w.heap.size ≤ NT) := by simp only [Hid]; omega
  simp only [← hW, ← hN]
  clear hW hN
  go_at_call 9
  refine FSpec.l04Sides.mono ?_
  rw [HQ.out]
  rintro e w2 ⟨rfl, hw2⟩
  subst hw2
  go_wp2_with fail
  go_at_call 10
  refine (specShare IX).mono ?_
  rw [HSH.out]
  rintro e w2 ⟨rfl, hw2⟩
  subst hw2
  go_wp2_with fail
  go_at_call 11
  refine inB.mono ?_
  rw [HSE.out]
  rintro e w2 ⟨rfl, hw2⟩
  subst hw2
  have w2e : True := trivial
  have HB := hid b1
  have y0 : w1.cell? ⟨NT, 0, none⟩ = some (.int .i64 0) := Go.Joins.cell_of_block kb 0
  have y1 : w1.cell? ⟨NT, 1, none⟩ = some (.int .i64 0) := Go.Joins.cell_of_block kb 1
  have y2 : w1.cell? ⟨NT, 2, none⟩ = some (.slice none 0 0) := Go.Joins.cell_of_block kb 2
  have g0 : w1.frozen? ⟨NT, 0, none⟩ = false := Go.Joins.unfrozen_of_block kb 0
  have g1 : w1.frozen? ⟨NT, 1, none⟩ = false := Go.Joins.unfrozen_of_block kb 1
  have g2 : w1.frozen? ⟨NT, 2, none⟩ = false := Go.Joins.unfrozen_of_block kb 2
  have HKx := hid kb
  clear kb
  go_wp2
  obtain ⟨W5, hW⟩ : ∃ W5, W5 = (((w1.setCell ⟨NT, 0, none⟩ (.int .i64 0)).setCell ⟨NT, 1, none⟩ (.int .i64 0)).setCell ⟨NT, 2, none⟩ (.slice none 0 0)) := ⟨_, rfl⟩
  have q0 := (Go.Joins.block_setCell (i := 2) (Go.Joins.block_setCell (i := 1) (Go.Joins.block_setCell (i := 0) HKx.out (.int .i64 0)) (.int .i64 0)) (.slice none 0 0))
  rw [← hW] at q0
  have z0 : W5.cell? ⟨NT, 0, none⟩ = some (.int .i64 0) := Go.Joins.cell_of_block q0 0
  have z1 : W5.cell? ⟨NT, 1, none⟩ = some (.int .i64 0) := Go.Joins.cell_of_block q0 1
  have z2 : W5.cell? ⟨NT, 2, none⟩ = some (.slice none 0 0) := Go.Joins.cell_of_block q0 2
  have B5 : Below w.heap.size w W5 := by
    have h1 := HNT.out
    rw [hW]
    exact ((HB.out.setCell (by simp; omega) _).setCell (by simp; omega) _).setCell (by simp; omega) _
  simp only [← hW]
  clear hW q0
  simp [bodyPost, results, Try.results4, go_sem, z0, z1, z2]
  exact B5

set_option maxHeartbeats 2000000 in
theorem implNo1 {w : World} {a b sd : Int} {X : Nat} {x : Option Nat} (IX : Is .f32 X x) (hq : sidesB a b = false) :
    Calls Try.prog 5 #[.int .i64 a, .int .i64 b, .float .f32 X, .int .i64 sd] w fun e w' => e = .returned (.tuple #[ruleV 0 0 (.slice none 0 0), .int .i64 0, .bool false]) ∧ Below w.heap.size w w' := by
  have HQ := hid hq
  clear hq
  go_enter Try.func5, Try.ntmps5
  go_wp2_with fail
  obtain ⟨w1, hW⟩ : ∃ w1, w1 = (w.alloc (Obj.cells #[.int .i64 0, .int .i64 0, .slice none 0 0] 25)).alloc (Obj.cells #[.int .i64 a, .int .i64 b] 36) := ⟨_, rfl⟩
  obtain ⟨NT, hN⟩ : ∃ NT, NT = w.heap.size := ⟨_, rfl⟩
  have b1 : Below w.heap.size w w1 := by rw [hW]; exact Go.Joins.below_alloc2 _ _ _
  have kb : w1.heap[NT]? = some (Obj.cells #[.int .i64 0, .int .i64 0, .slice none 0 0] 25) := by rw [hW]; exact heap_old (heap_top hN)
  have HNT : Hid (w.heap.size ≤ NT) := by simp only [Hid]; omega
  obtain ⟨NE, hE⟩ : ∃ NE, NE = NT + 1 := ⟨_, rfl⟩
  have e0 : w1.cell? ⟨NE, 0, none⟩ = some (.int .i64 a) := by rw [hW, hE, hN]; simp
  have e1 : w1.cell? ⟨NE, 1, none⟩ = some (.int .i64 b) := by rw [hW, hE, hN]; simp
  simp only [← hW, ← hN, ← hE]
  clear hW hN hE
  go_at_call 13
  refine isExtent.mono ?_
  rw [HQ.out]
  rintro e w2 ⟨rfl, bel⟩
  replace e0 := cell_keep bel e0
  replace e1 := cell_keep bel e1
  replace kb := (bel.block NT (Array.getElem?_eq_some_iff.1 kb).1).trans kb
  replace b1 := b1.trans (bel.mono b1.size)
  clear bel
  have HB := hid b1
  have y0 : w2.cell? ⟨NT, 0, none⟩ = some (.int .i64 0) := Go.Joins.cell_of_block kb 0
  have y1 : w2.cell? ⟨NT, 1, none⟩ = some (.int .i64 0) := Go.Joins.cell_of_block kb 1
  have y2 : w2.cell? ⟨NT, 2, none⟩ = some (.slice none 0 0) := Go.Joins.cell_of_block kb 2
  have g0 : w2.frozen? ⟨NT, 0, none⟩ = false := Go.Joins.unfrozen_of_block kb 0
  have g1 : w2.frozen? ⟨NT, 1, none⟩ = false := Go.Joins.unfrozen_of_block kb 1
  have g2 : w2.frozen? ⟨NT, 2, none⟩ = false := Go.Joins.unfrozen_of_block kb 2
  have HKx := hid kb
  clear kb
  go_wp2
  obtain ⟨W5, hW⟩ : ∃ W5, W5 = (((w2.setCell ⟨NT, 0, none⟩ (.int .i64 0)).setCell ⟨NT, 1, none⟩ (.int .i64 0)).setCell ⟨NT, 2, none⟩ (.slice none 0 0)) := ⟨_, rfl⟩
  have q0 := (Go.Joins.block_setCell (i := 2) (Go.Joins.block_setCell (i := 1) (Go.Joins.block_setCell (i := 0) HKx.out (.int .i64 0)) (.int .i64 0)) (.slice none 0 0))
  rw [← hW] at q0
  have z0 : W5.cell? ⟨NT, 0, none⟩ = some (.int .i64 0) := Go.Joins.cell_of_block q0 0
  have z1 : W5.cell? ⟨NT, 1, none⟩ = some (.int .i64 0) := Go.Joins.cell_of_block q0 1
  have z2 : W5.cell? ⟨NT, 2, none⟩ = some (.slice none 0 0) := Go.Joins.cell_of_block q0 2
  have B5 : Below w.heap.size w W5 := by
    have h1 := HNT.out
    rw [hW]
    exact ((HB.out.setCell (by simp; omega) _).setCell (by simp; omega) _).setCell (by simp; omega) _
  simp only [← hW]
  clear hW q0
  simp [bodyPost, results, Try.results5, go_sem, z0, z1, z2]
  exact B5

set_option maxHeartbeats 2000000 in
theorem implNo2 {w : World} {a b sd : Int} {X : Nat} {x : Option Nat} (IX : Is .f32 X x) (hq : sidesB a b = true) (hsh : shareB x = false) :
    Calls Try.prog 5 #[.int .i64 a, .int .i64 b, .float .f32 X, .int .i64 sd] w fun e w' => e = .returned (.tuple #[ruleV 0 0 (.slice none 0 0), .int .i64 0, .bool false]) ∧ Below w.heap.size w w' := by
  have HQ := hid hq
  have HSH := hid hsh
  clear hq hsh
  go_enter Try.func5, Try.ntmps5
  go_wp2_with fail
  obtain ⟨w1, hW⟩ : ∃ w1, w1 = (w.alloc (Obj.cells #[.int .i64 0, .int .i64 0, .slice none 0 0] 25)).alloc (Obj.cells #[.int .i64 a, .int .i64 b] 36) := ⟨_, rfl⟩
  obtain ⟨NT, hN⟩ : ∃ NT, NT = w.heap.size := ⟨_, rfl⟩
  have b1 : Below w.heap.size w w1 := by rw [hW]; exact Go.Joins.below_alloc2 _ _ _
  have kb : w1.heap[NT]? = some (Obj.cells #[.int .i64 0, .int .i64 0, .slice none 0 0] 25) := by rw [hW]; exact heap_old (heap_top hN)
  have HNT : Hid (w.heap.size ≤ NT) := by simp only [Hid]; omega
  obtain ⟨NE, hE⟩ : ∃ NE, NE = NT + 1 := ⟨_, rfl⟩
  have e0 : w1.cell? ⟨NE, 0, none⟩ = some (.int .i64 a) := by rw [hW, hE, hN]; simp
  have e1 : w1.cell? ⟨NE, 1, none⟩ = some (.int .i64 b) := by rw [hW, hE, hN]; simp
  simp only [← hW, ← hN, ← hE]
  clear hW hN hE
  go_at_call 13
  refine isExtent.mono ?_
  rw [HQ.out]
  rintro e w2 ⟨rfl, bel⟩
  replace e0 := cell_keep bel e0
  replace e1 := cell_keep bel e1
  replace kb := (bel.block NT (Array.getElem?_eq_some_iff.1 kb).1).trans kb
  replace b1 := b1.trans (bel.mono b1.size)
  clear bel
  go_wp2_with fail
  go_at_call 14
  refine (implShare IX).mono ?_
  rw [HSH.out]
  rintro e w3 ⟨rfl, hw2⟩
  subst hw2
  have HB := hid b1
  have y0 : w2.cell? ⟨NT, 0, none⟩ = some (.int .i64 0) := Go.Joins.cell_of_block kb 0
  have y1 : w2.cell? ⟨NT, 1, none⟩ = some (.int .i64 0) := Go.Joins.cell_of_block kb 1
  have y2 : w2.cell? ⟨NT, 2, none⟩ = some (.slice none 0 0) := Go.Joins.cell_of_block kb 2
  have g0 : w2.frozen? ⟨NT, 0, none⟩ = false := Go.Joins.unfrozen_of_block kb 0
  have g1 : w2.frozen? ⟨NT, 1, none⟩ = false := Go.Joins.unfrozen_of_block kb 1
  have g2 : w2.frozen? ⟨NT, 2, none⟩ = false := Go.Joins.unfrozen_of_block kb 2
  have HKx := hid kb
  clear kb
  go_wp2
  obtain ⟨W5, hW⟩ : ∃ W5, W5 = (((w2.setCell ⟨NT, 0, none⟩ (.int .i64 0)).setCell ⟨NT, 1, none⟩ (.int .i64 0)).setCell ⟨NT, 2, none⟩ (.slice none 0 0)) := ⟨_, rfl⟩
  have q0 := (Go.Joins.block_setCell (i := 2) (Go.Joins.block_setCell (i := 1) (Go.Joins.block_setCell (i := 0) HKx.out (.int .i64 0)) (.int .i64 0)) (.slice none 0 0))
  rw [← hW] at q0
  have z0 : W5.cell? ⟨NT, 0, none⟩ = some (.int .i64 0) := Go.Joins.cell_of_block q0 0
  have z1 : W5.cell? ⟨NT, 1, none⟩ = some (.int .i64 0) := Go.Joins.cell_of_block q0 1
  have z2 : W5.cell? ⟨NT, 2, none⟩ = some (.slice none 0 0) := Go.Joins.cell_of_block q0 2
  have B5 : Below w.heap.size w W5 := by
    have h1 := HNT.out
    rw [hW]
    exact ((HB.out.setCell (by simp; omega) _).setCell (by simp; omega) _).setCell (by simp; omega) _
  simp only [← hW]
  clear hW q0
  simp [bodyPost, results, Try.results5, go_sem, z0, z1, z2]
  exact B5

set_option maxHeartbeats 2000000 in
theorem implNo3 {w : World} {a b sd : Int} {X : Nat} {x : Option Nat} (IX : Is .f32 X x) (hq : sidesB a b = true) (hsh : shareB x = true) (hse : seedB sd = false) :
    Calls Try.prog 5 #[.int .i64 a, .int .i64 b, .float .f32 X, .int .i64 sd] w fun e w' => e = .returned (.tuple #[ruleV 0 0 (.slice none 0 0), .int .i64 0, .bool false]) ∧ Below w.heap.size w w' := by
  have HQ := hid hq
  have HSH := hid hsh
  have HSE := hid hse
  clear hq hsh hse
  go_enter Try.func5, Try.ntmps5
  go_wp2_with fail
  obtain ⟨w1, hW⟩ : ∃ w1, w1 = (w.alloc (Obj.cells #[.int .i64 0, .int .i64 0, .slice none 0 0] 25)).alloc (Obj.cells #[.int .i64 a, .int .i64 b] 36) := ⟨_, rfl⟩
  obtain ⟨NT, hN⟩ : ∃ NT, NT = w.heap.size := ⟨_, rfl⟩
  have b1 : Below w.heap.size w w1 := by rw [hW]; exact Go.Joins.below_alloc2 _ _ _
  have kb : w1.heap[NT]? = some (Obj.cells #[.int .i64 0, .int .i64 0, .slice none 0 0] 25) := by rw [hW]; exact heap_old (heap_top hN)
  have HNT : Hid (w.heap.size ≤ NT) := by simp only [Hid]; omega
  obtain ⟨NE, hE⟩ : ∃ NE, NE = NT + 1 := ⟨_, rfl⟩
  have e0 : w1.cell? ⟨NE, 0, none⟩ = some (.int .i64 a) := by rw [hW, hE, hN]; simp
  have e1 : w1.cell? ⟨NE, 1, none⟩ = some (.int .i64 b) := by rw [hW, hE, hN]; simp
  simp only [← hW, ← hN, ← hE]
  clear hW hN hE
  go_at_call 13
  refine isExtent.mono ?_
  rw [HQ.out]
  rintro e w2 ⟨rfl, bel⟩
  replace e0 := cell_keep bel e0
  replace e1 := cell_keep bel e1
  replace kb := (bel.block NT (Array.getElem?_eq_some_iff.1 kb).1).trans kb
  replace b1 := b1.trans (bel.mono b1.size)
  clear bel
  go_wp2_with fail
  go_at_call 14
  refine (implShare IX).mono ?_
  rw [HSH.out]
  rintro e w3 ⟨rfl, hw2⟩
  subst hw2
  go_wp2_with fail
  go_at_call 15
  refine isSeed.mono ?_
  rw [HSE.out]
  rintro e w3 ⟨rfl, hw2⟩
  subst hw2
  have HB := hid b1
  have y0 : w2.cell? ⟨NT, 0, none⟩ = some (.int .i64 0) := Go.Joins.cell_of_block kb 0
  have y1 : w2.cell? ⟨NT, 1, none⟩ = some (.int .i64 0) := Go.Joins.cell_of_block kb 1
  have y2 : w2.cell? ⟨NT, 2, none⟩ = some (.slice none 0 0) := Go.Joins.cell_of_block kb 2
  have g0 : w2.frozen? ⟨NT, 0, none⟩ = false := Go.Joins.unfrozen_of_block kb 0
  have g1 : w2.frozen? ⟨NT, 1, none⟩ = false := Go.Joins.unfrozen_of_block kb 1
  have g2 : w2.frozen? ⟨NT, 2, none⟩ = false := Go.Joins.unfrozen_of_block kb 2
  have HKx := hid kb
  clear kb
  go_wp2
  obtain ⟨W5, hW⟩ : ∃ W5, W5 = (((w2.setCell ⟨NT, 0, none⟩ (.int .i64 0)).setCell ⟨NT, 1, none⟩ (.int .i64 0)).setCell ⟨NT, 2, none⟩ (.slice none 0 0)) := ⟨_, rfl⟩
  have q0 := (Go.Joins.block_setCell (i := 2) (Go.Joins.block_setCell (i := 1) (Go.Joins.block_setCell (i := 0) HKx.out (.int .i64 0)) (.int .i64 0)) (.slice none 0 0))
  rw [← hW] at q0
  have z0 : W5.cell? ⟨NT, 0, none⟩ = some (.int .i64 0) := Go.Joins.cell_of_block q0 0
  have z1 : W5.cell? ⟨NT, 1, none⟩ = some (.int .i64 0) := Go.Joins.cell_of_block q0 1
  have z2 : W5.cell? ⟨NT, 2, none⟩ = some (.slice none 0 0) := Go.Joins.cell_of_block q0 2
  have B5 : Below w.heap.size w W5 := by
    have h1 := HNT.out
    rw [hW]
    exact ((HB.out.setCell (by simp; omega) _).setCell (by simp; omega) _).setCell (by simp; omega) _
  simp only [← hW]
  clear hW q0
  simp [bodyPost, results, Try.results5, go_sem, z0, z1, z2]
  exact B5

set_option maxHeartbeats 8000000 in
set_option maxRecDepth 100000 in
theorem specOk {w : World} {R C n : Nat} {sd : Int} {X : Nat} {x : Option Nat} (IX : Is .f32 X x) (hq : sidesB R C = true) (hn : n = R * C) (hle : n ≤ 576) (hsh : shareB x = true) (hse : seedB sd = true) :
    Calls Try.prog 4 #[.int .i64 R, .int .i64 C, .float .f32 X, .int .i64 sd] w fun e w' => ∃ b', e = .returned (.tuple #[ruleV R C (.slice (some ⟨b', 0, none⟩) n n), .int .i64 (seedAt sd n), .bool true]) ∧ Own 2 w' b' (.slice (some ⟨b', 0, none⟩) n n) (sbits x sd n) ∧ w.heap.size ≤ b' ∧ Below w.heap.size w w' := by
  have HQ := hid hq
  have HN := hid hn
  have HSH := hid hsh
  have HSD : Hid (0 ≤ sd ∧ sd ≤ 4294967295) := by simp only [Hid]; simpa [seedB] using hse
  have HSE : Hid (decide (0 ≤ sd ∧ sd ≤ 4294967295) = true) := hse
  clear hq hn hsh hse
  go_enter Try.func4, Try.ntmps4
  go_wp2_with fail
  obtain ⟨w1, hW⟩ : ∃ w1, w1 = w.alloc (Obj.cells #[.int .i64 0, .int .i64 0, .slice none 0 0] 25) := ⟨_, rfl⟩
  obtain ⟨NT, hN⟩ : ∃ NT, NT = w.heap.size := ⟨_, rfl⟩
  have b1 : Below w.heap.size w w1 := by rw [hW]; exact below1 _ _
  have kb : w1.heap[NT]? = some (Obj.cells #[.int .i64 0, .int .i64 0, .slice none 0 0] 25) := by rw [hW]; exact heap_top hN
  have HNT : Hid (w.heap.size ≤ NT) := by simp only [Hid]; omega
  simp only [← hW, ← hN]
  clear hW hN
  go_at_call 9
  refine FSpec.l04Sides.mono ?_
  rw [HQ.out]
  rintro e w2 ⟨rfl, hw2⟩
  subst hw2
  go_wp2_with fail
  go_at_call 10
  refine (specShare IX).mono ?_
  rw [HSH.out]
  rintro e w2 ⟨rfl, hw2⟩
  subst hw2
  go_wp2_with fail
  go_at_call 11
  refine inB.mono ?_
  rw [HSE.out]
  rintro e w2 ⟨rfl, hw2⟩
  subst hw2
  have w2e : True := trivial
  have HB1 := hid b1
  have HK1 := hid kb
  clear b1 kb
  go_wp2_with fail
  go_at_call 12
  refine (l04New HN.out hle).mono ?_
  rintro e w3 ⟨b', rfl, ow, lo, bel⟩
  have kb3 := (bel.block NT (Array.getElem?_eq_some_iff.1 HK1.out).1).trans HK1.out
  have HB3 := hid (HB1.out.trans (bel.mono HB1.out.size))
  have HNB : Hid (NT ≠ b') := Nat.ne_of_lt (Nat.lt_of_lt_of_le (Array.getElem?_eq_some_iff.1 HK1.out).1 lo)
  have HLo : Hid (w.heap.size ≤ b') := Nat.le_trans HB1.out.size lo
  have HO3 := hid ow
  have HK3 := hid kb3
  have hni : (n : Int) ≤ 576 := by omega
  clear ow lo bel kb3
  go_wp2
  obtain ⟨w4, hW⟩ : ∃ w4, w4 = w3.alloc (Obj.cells #[.int .i64 R, .int .i64 C, .slice (some ⟨b', 0, none⟩) n n] 25) := ⟨_, rfl⟩
  obtain ⟨NO, hNO⟩ : ∃ NO, NO = w3.heap.size := ⟨_, rfl⟩
  have kO : w4.heap[NO]? = some (Obj.cells #[.int .i64 R, .int .i64 C, .slice (some ⟨b', 0, none⟩) n n] 25) := by rw [hW]; exact heap_top hNO
  have kT : w4.heap[NT]? = some (Obj.cells #[.int .i64 0, .int .i64 0, .slice none 0 0] 25) := by rw [hW]; exact heap_old HK3.out
  have o4 : Own 2 w4 b' (.slice (some ⟨b', 0, none⟩) n n) (List.replicate n 0) := by rw [hW]; exact HO3.out.keep (below1 _ _)
  have B4 : Below w.heap.size w w4 := by rw [hW]; exact HB3.out.trans ((below1 _ _).mono HB3.out.size)
  have HNE : Hid (NO ≠ b') := by have := HO3.out.lt; simp only [Hid]; omega
  simp only [← hW, ← hNO]
  clear hW hNO
  go_loopw [3, 12] (fun s i wr => ∃ k : Nat, k ≤ n ∧ i = .int .i64 k ∧ s = .int .i64 (seedAt sd k) ∧ Own 2 wr b' (.slice (some ⟨b', 0, none⟩) n n) (sbits x sd k ++ List.replicate (n - k) 0) ∧ wr.heap[NO]? = some (Obj.cells #[.int .i64 R, .int .i64 C, .slice (some ⟨b', 0, none⟩) n n] 25) ∧ wr.heap[NT]? = some (Obj.cells #[.int .i64 0, .int .i64 0, .slice none 0 0] 25) ∧ Below w.heap.size w wr) (fun _ i _ => n - (intOf i).toNat)
  case atStart => exact ⟨0, Nat.zero_le _, rfl, rfl, by simpa [sbits] using o4, kO, kT, B4⟩
  case round =>
    clear o4 kO kT B4
    obtain ⟨k, hk, rfl, rfl, hown, kO, kT, bel⟩ := hrel
    have c2 : wr.cell? ⟨NO, 2, none⟩ = some (.slice (some ⟨b', 0, none⟩) n n) := Go.Joins.cell_of_block kO 2
    by_cases hlt : k < n
    · have hki : (k : Int) < (n : Int) := by omega
      have hsb := seedAt_bd HSD.out k
      have hsb1 := seedAt_bd HSD.out (k + 1)
      have hnx : seedAt sd (k + 1) = nxt (seedAt sd k) := rfl
      have hbit : sbit x sd k = if fcmp .lss .f32 (shV (seedAt sd (k + 1))) x = true then 1 else 0 := rfl
      obtain ⟨S, hS⟩ : ∃ S, S = seedAt sd k := ⟨_, rfl⟩
      obtain ⟨S1, hS1⟩ : ∃ S1, S1 = seedAt sd (k + 1) := ⟨_, rfl⟩
      have HS1 := hid hS1
      rw [← hS] at hsb hnx ⊢
      rw [← hS1] at hsb1 hnx hbit
      have hst := seed_step hsb
      rw [← hnx] at hst
      have e1 : IntKind.i64.wrap (1664525 * S) = 1664525 * S := by rw [IntKind.wrap_i64]; omega
      have e2 : IntKind.i64.wrap (1664525 * S + 1013904223) = 1664525 * S + 1013904223 := by rw [IntKind.wrap_i64]; omega
      rw [e1, e2] at hst
      obtain ⟨m, hm⟩ : ∃ m : Nat, (m : Int) = S1 / 256 := ⟨(S1 / 256).toNat, by omega⟩
      have ht : S1.tdiv 256 = (m : Int) := by rw [Int.tdiv_eq_ediv_of_nonneg hsb1.1, hm]
      have hwm : wrap64 (m : Int) = (m : Int) := wrap_id (by omega) (by omega)
      have hws : wrap64 S1 = S1 := wrap_id (by omega) (by omega)
      have HV : Hid (shV S1 = fop .quo .f32 (some (floatOfInt .f32 (m : Int))) (some 1266679808)) := by simp only [Hid]; unfold shV; rw [← hm, Int.toNat_natCast]
      have HI := int_is m
      have HG := big_is
      have hs3 : (Try.prog.underlying 2).isSome = true := by kernel_rfl
      have hd3 := Try.underlying22
      have HSB := hid hsb
      have HSB1 := hid hsb1
      have HNX := hid hnx
      have HBi := hid hbit
      have HkO := hid kO
      have HkT := hid kT
      have HBel := hid bel
      have HOw := hid hown
      cases hc : fcmp .lss .f32 (shV S1) x with
      | true =>
        have HC := hid hc
        have HB1' : Hid (sbit x sd k = 1) := by simp only [Hid]; rw [HBi.out, hc]; rfl
        have hox := hown.cell (i := k) (by simp [sbits_length]; omega)
        have hof := hown.free k
        have hoxn : ∀ q, (wr.drewN q).cell? ⟨b', k, none⟩ = wr.cell? ⟨b', k, none⟩ := fun q => rfl
        have hofn : ∀ q, (wr.drewN q).frozen? ⟨b', k, none⟩ = wr.frozen? ⟨b', k, none⟩ := fun q => rfl
        have c2n : ∀ q, (wr.drewN q).cell? ⟨NO, 2, none⟩ = some (.slice (some ⟨b', 0, none⟩) n n) := fun q => c2
        clear hc hS hS1 hm hbit hnx hsb hsb1 hown kO kT bel
        go_wp2_with (first | (refine wpList_fop rfl .quo _ _ _ _ rfl _ _ _ rfl rfl rfl HI HG ?_; intro r1 m1 h1; rw [← HV.out] at h1) | (refine wpList_fcmp rfl .lss _ _ _ _ rfl _ _ _ rfl rfl rfl h1 IX ?_; rw [HC.out]))
        go_roundw
        case rel =>
          refine ⟨k + 1, by omega, by go_num, by rw [← HS1.out], ?_, ?_, ?_, ?_⟩
          · have ho := (show Own 2 (wr.drewN m1) b' (.slice (some ⟨b', 0, none⟩) n n) (sbits x sd k ++ List.replicate (n - k) 0) from HOw.out).set k 1
            rw [← HB1'.out, sbits_set x sd hlt, HB1'.out] at ho
            exact ho
          · exact (Below.heap_setCell (wr.drewN m1) ⟨b', k, none⟩ _ _ HNE.out).trans HkO.out
          · exact (Below.heap_setCell (wr.drewN m1) ⟨b', k, none⟩ _ _ HNB.out).trans HkT.out
          · exact (HBel.out.trans ⟨rfl, rfl, rfl, Nat.le_refl _, fun _ _ => rfl⟩ : Below w.heap.size w (wr.drewN m1)).setCell HLo.out _
        case measure => simp [intOf]; omega
      | false =>
        have HC := hid hc
        have HB0 : Hid (sbit x sd k = 0) := by simp only [Hid]; rw [HBi.out, hc]; rfl
        clear hc hS hS1 hm hbit hnx hsb hsb1 hown kO kT bel
        go_wp2_with (first | (refine wpList_fop rfl .quo _ _ _ _ rfl _ _ _ rfl rfl rfl HI HG ?_; intro r1 m1 h1; rw [← HV.out] at h1) | (refine wpList_fcmp rfl .lss _ _ _ _ rfl _ _ _ rfl rfl rfl h1 IX ?_; rw [HC.out]))
        go_roundw
        case rel =>
          refine ⟨k + 1, by omega, by go_num, by rw [← HS1.out], ?_, HkO.out, HkT.out, HBel.out.trans ⟨rfl, rfl, rfl, Nat.le_refl _, fun _ _ => rfl⟩⟩
          have ho := HOw.out
          rw [sbits_zero x sd hlt HB0.out] at ho
          exact ho
        case measure => simp [intOf]; omega
    · have hkn : k = n := by omega
      subst hkn
      have x0 : wr.cell? ⟨NO, 0, none⟩ = some (.int .i64 R) := Go.Joins.cell_of_block kO 0
      have x1 : wr.cell? ⟨NO, 1, none⟩ = some (.int .i64 C) := Go.Joins.cell_of_block kO 1
      have HO : Hid (Own 2 wr b' (.slice (some ⟨b', 0, none⟩) k k) (sbits x sd k)) := by simp only [Hid]; simpa using hown
      have HB := hid bel
      have kb := kT
      clear hown bel kT kO
      have y0 : wr.cell? ⟨NT, 0, none⟩ = some (.int .i64 0) := Go.Joins.cell_of_block kb 0
      have y1 : wr.cell? ⟨NT, 1, none⟩ = some (.int .i64 0) := Go.Joins.cell_of_block kb 1
      have y2 : wr.cell? ⟨NT, 2, none⟩ = some (.slice none 0 0) := Go.Joins.cell_of_block kb 2
      have g0 : wr.frozen? ⟨NT, 0, none⟩ = false := Go.Joins.unfrozen_of_block kb 0
      have g1 : wr.frozen? ⟨NT, 1, none⟩ = false := Go.Joins.unfrozen_of_block kb 1
      have g2 : wr.frozen? ⟨NT, 2, none⟩ = false := Go.Joins.unfrozen_of_block kb 2
      have HKx := hid kb
      clear kb
      go_wp2
      obtain ⟨W5, hW⟩ : ∃ W5, W5 = (((wr.setCell ⟨NT, 0, none⟩ (.int .i64 R)).setCell ⟨NT, 1, none⟩ (.int .i64 C)).setCell ⟨NT, 2, none⟩ (.slice (some ⟨b', 0, none⟩) k k)) := ⟨_, rfl⟩
      have q0 := (Go.Joins.block_setCell (i := 2) (Go.Joins.block_setCell (i := 1) (Go.Joins.block_setCell (i := 0) HKx.out (.int .i64 R)) (.int .i64 C)) (.slice (some ⟨b', 0, none⟩) k k))
      rw [← hW] at q0
      have z0 : W5.cell? ⟨NT, 0, none⟩ = some (.int .i64 R) := Go.Joins.cell_of_block q0 0
      have z1 : W5.cell? ⟨NT, 1, none⟩ = some (.int .i64 C) := Go.Joins.cell_of_block q0 1
      have z2 : W5.cell? ⟨NT, 2, none⟩ = some (.slice (some ⟨b', 0, none⟩) k k) := Go.Joins.cell_of_block q0 2
      have O5 := (own_set (own_set (own_set HO.out ⟨NT, 0, none⟩ (.int .i64 R) HNB.out) ⟨NT, 1, none⟩ (.int .i64 C) HNB.out) ⟨NT, 2, none⟩ (.slice (some ⟨b', 0, none⟩) k k) HNB.out)
      rw [← hW] at O5
      have B5 : Below w.heap.size w W5 := by
        have h1 := HNT.out
        rw [hW]
        exact ((HB.out.setCell (by simp; omega) _).setCell (by simp; omega) _).setCell (by simp; omega) _
      simp only [← hW]
      clear hW q0
      simp [bodyPost, results, Try.results4, go_sem, z0, z1, z2]
      exact ⟨O5, HLo.out, B5⟩

set_option maxHeartbeats 8000000 in
set_option maxRecDepth 100000 in
theorem implOk {w : World} {R C n : Nat} {sd : Int} {X : Nat} {x : Option Nat} (IX : Is .f32 X x) (hq : sidesB R C = true) (hn : n = R * C) (hle : n ≤ 576) (hsh : shareB x = true) (hse : seedB sd = true) :
    Calls Try.prog 5 #[.int .i64 R, .int .i64 C, .float .f32 X, .int .i64 sd] w fun e w' => ∃ b', e = .returned (.tuple #[ruleV R C (.slice (some ⟨b', 0, none⟩) n n), .int .i64 (seedAt sd n), .bool true]) ∧ Own 2 w' b' (.slice (some ⟨b', 0, none⟩) n n) (sbits x sd n) ∧ w.heap.size ≤ b' ∧ Below w.heap.size w w' := by
  have HQ := hid hq
  have HN := hid hn
  have HSH := hid hsh
  have HSD : Hid (0 ≤ sd ∧ sd ≤ 4294967295) := by simp only [Hid]; simpa [seedB] using hse
  have HSE : Hid (seedB sd = true) := hse
  clear hq hn hsh hse
  go_enter Try.func5, Try.ntmps5
  go_wp2_with fail
  obtain ⟨w1, hW⟩ : ∃ w1, w1 = (w.alloc (Obj.cells #[.int .i64 0, .int .i64 0, .slice none 0 0] 25)).alloc (Obj.cells #[.int .i64 R, .int .i64 C] 36) := ⟨_, rfl⟩
  obtain ⟨NT, hN⟩ : ∃ NT, NT = w.heap.size := ⟨_, rfl⟩
  have b1 : Below w.heap.size w w1 := by rw [hW]; exact Go.Joins.below_alloc2 _ _ _
  have kb : w1.heap[NT]? = some (Obj.cells #[.int .i64 0, .int .i64 0, .slice none 0 0] 25) := by rw [hW]; exact heap_old (heap_top hN)
  have HNT : Hid (w.heap.size ≤ NT) := by simp only [Hid]; omega
  obtain ⟨NE, hE⟩ : ∃ NE, NE = NT + 1 := ⟨_, rfl⟩
  have e0 : w1.cell? ⟨NE, 0, none⟩ = some (.int .i64 R) := by rw [hW, hE, hN]; simp
  have e1 : w1.cell? ⟨NE, 1, none⟩ = some (.int .i64 C) := by rw [hW, hE, hN]; simp
  simp only [← hW, ← hN, ← hE]
  clear hW hN hE
  go_at_call 13
  refine isExtent.mono ?_
  rw [HQ.out]
  rintro e w2 ⟨rfl, bel⟩
  replace e0 := cell_keep bel e0
  replace e1 := cell_keep bel e1
  replace kb := (bel.block NT (Array.getElem?_eq_some_iff.1 kb).1).trans kb
  replace b1 := b1.trans (bel.mono b1.size)
  clear bel
  go_wp2_with fail
  go_at_call 14
  refine (implShare IX).mono ?_
  rw [HSH.out]
  rintro e w3 ⟨rfl, hw2⟩
  subst hw2
  go_wp2_with fail
  go_at_call 15
  refine isSeed.mono ?_
  rw [HSE.out]
  rintro e w3 ⟨rfl, hw2⟩
  subst hw2
  have HB1 := hid b1
  have HK1 := hid kb
  clear b1 kb
  go_wp2_with fail
  go_at_call 16
  refine (FNew.emptyField HN.out hle).mono ?_
  rintro e w3 ⟨b', rfl, ow, lo, bel⟩
  have kb3 := (bel.block NT (Array.getElem?_eq_some_iff.1 HK1.out).1).trans HK1.out
  have HB3 := hid (HB1.out.trans (bel.mono HB1.out.size))
  have HNB : Hid (NT ≠ b') := Nat.ne_of_lt (Nat.lt_of_lt_of_le (Array.getElem?_eq_some_iff.1 HK1.out).1 lo)
  have HLo : Hid (w.heap.size ≤ b') := Nat.le_trans HB1.out.size lo
  have HO3 := hid ow
  have HK3 := hid kb3
  have hni : (n : Int) ≤ 576 := by omega
  clear ow lo bel kb3
  go_wp2
  obtain ⟨w4, hW⟩ : ∃ w4, w4 = w3.alloc (Obj.cells #[.int .i64 R, .int .i64 C, .slice (some ⟨b', 0, none⟩) n n] 25) := ⟨_, rfl⟩
  obtain ⟨NO, hNO⟩ : ∃ NO, NO = w3.heap.size := ⟨_, rfl⟩
  have kO : w4.heap[NO]? = some (Obj.cells #[.int .i64 R, .int .i64 C, .slice (some ⟨b', 0, none⟩) n n] 25) := by rw [hW]; exact heap_top hNO
  have kT : w4.heap[NT]? = some (Obj.cells #[.int .i64 0, .int .i64 0, .slice none 0 0] 25) := by rw [hW]; exact heap_old HK3.out
  have o4 : Own 2 w4 b' (.slice (some ⟨b', 0, none⟩) n n) (List.replicate n 0) := by rw [hW]; exact HO3.out.keep (below1 _ _)
  have B4 : Below w.heap.size w w4 := by rw [hW]; exact HB3.out.trans ((below1 _ _).mono HB3.out.size)
  have HNE : Hid (NO ≠ b') := by have := HO3.out.lt; simp only [Hid]; omega
  simp only [← hW, ← hNO]
  clear hW hNO
  go_loopw [3, 13, 36] (fun s j i wr => ∃ k : Nat, k ≤ n ∧ i = .int .i64 k ∧ s = .int .i64 (seedAt sd k) ∧ Own 2 wr b' (.slice (some ⟨b', 0, none⟩) n n) (sbits x sd k ++ List.replicate (n - k) 0) ∧ wr.heap[NO]? = some (Obj.cells #[.int .i64 R, .int .i64 C, .slice (some ⟨b', 0, none⟩) n n] 25) ∧ wr.heap[NT]? = some (Obj.cells #[.int .i64 0, .int .i64 0, .slice none 0 0] 25) ∧ Below w.heap.size w wr) (fun _ _ i _ => n - (intOf i).toNat)
  case atStart => exact ⟨0, Nat.zero_le _, rfl, rfl, by simpa [sbits] using o4, kO, kT, B4⟩
  case round =>
    clear o4 kO kT B4
    obtain ⟨k, hk, rfl, rfl, hown, kO, kT, bel⟩ := hrel
    have c2 : wr.cell? ⟨NO, 2, none⟩ = some (.slice (some ⟨b', 0, none⟩) n n) := Go.Joins.cell_of_block kO 2
    by_cases hlt : k < n
    · have hki : (k : Int) < (n : Int) := by omega
      have hsb := seedAt_bd HSD.out k
      have hsb1 := seedAt_bd HSD.out (k + 1)
      have hnx : seedAt sd (k + 1) = nxt (seedAt sd k) := rfl
      have hbit : sbit x sd k = if fcmp .lss .f32 (shV (seedAt sd (k + 1))) x = true then 1 else 0 := rfl
      obtain ⟨S, hS⟩ : ∃ S, S = seedAt sd k := ⟨_, rfl⟩
      obtain ⟨S1, hS1⟩ : ∃ S1, S1 = seedAt sd (k + 1) := ⟨_, rfl⟩
      have HS1 := hid hS1
      rw [← hS] at hsb hnx ⊢
      rw [← hS1] at hsb1 hnx hbit
      have hst := seed_step hsb
      rw [← hnx] at hst
      have e1 : IntKind.i64.wrap (1664525 * S) = 1664525 * S := by rw [IntKind.wrap_i64]; omega
      have e2 : IntKind.i64.wrap (1664525 * S + 1013904223) = 1664525 * S + 1013904223 := by rw [IntKind.wrap_i64]; omega
      rw [e1, e2] at hst
      obtain ⟨m, hm⟩ : ∃ m : Nat, (m : Int) = S1 / 256 := ⟨(S1 / 256).toNat, by omega⟩
      have ht : S1.tdiv 256 = (m : Int) := by rw [Int.tdiv_eq_ediv_of_nonneg hsb1.1, hm]
      have hwm : wrap64 (m : Int) = (m : Int) := wrap_id (by omega) (by omega)
      have hws : wrap64 S1 = S1 := wrap_id (by omega) (by omega)
      have HV : Hid (shV S1 = fop .quo .f32 (some (floatOfInt .f32 (m : Int))) (some 1266679808)) := by simp only [Hid]; unfold shV; rw [← hm, Int.toNat_natCast]
      have HI := int_is m
      have HG := big_is
      have hs3 : (Try.prog.underlying 2).isSome = true := by kernel_rfl
      have hd3 := Try.underlying22
      have HSB := hid hsb
      have HSB1 := hid hsb1
      have HNX := hid hnx
      have HBi := hid hbit
      have HkO := hid kO
      have HkT := hid kT
      have HBel := hid bel
      have HOw := hid hown
      cases hc : fcmp .lss .f32 (shV S1) x with
      | true =>
        have HC := hid hc
        have HB1' : Hid (sbit x sd k = 1) := by simp only [Hid]; rw [HBi.out, hc]; rfl
        have hox := hown.cell (i := k) (by simp [sbits_length]; omega)
        have hof := hown.free k
        have hoxn : ∀ q, (wr.drewN q).cell? ⟨b', k, none⟩ = wr.cell? ⟨b', k, none⟩ := fun q => rfl
        have hofn : ∀ q, (wr.drewN q).frozen? ⟨b', k, none⟩ = wr.frozen? ⟨b', k, none⟩ := fun q => rfl
        have c2n : ∀ q, (wr.drewN q).cell? ⟨NO, 2, none⟩ = some (.slice (some ⟨b', 0, none⟩) n n) := fun q => c2
        clear hc hS hS1 hm hbit hnx hsb hsb1 hown kO kT bel
        go_wp2_with (first | (go_at_call 17; refine (nextSeed HSB.out).mono ?_; rw [← HNX.out]; rintro e w' ⟨rfl, hw'⟩; subst hw') | (go_at_call 18; refine (shareOfSeed HSB1.out).mono ?_; rintro e w' ⟨r1, m1, rfl, h1, rfl⟩) | (refine wpList_fcmp rfl .lss _ _ _ _ rfl _ _ _ rfl rfl rfl h1 IX ?_; rw [HC.out]))
        go_roundw
        case rel =>
          refine ⟨k + 1, by omega, by go_num, by rw [← HS1.out], ?_, ?_, ?_, ?_⟩
          · have ho := (show Own 2 (wr.drewN m1) b' (.slice (some ⟨b', 0, none⟩) n n) (sbits x sd k ++ List.replicate (n - k) 0) from HOw.out).set k 1
            rw [← HB1'.out, sbits_set x sd hlt, HB1'.out] at ho
            exact ho
          · exact (Below.heap_setCell (wr.drewN m1) ⟨b', k, none⟩ _ _ HNE.out).trans HkO.out
          · exact (Below.heap_setCell (wr.drewN m1) ⟨b', k, none⟩ _ _ HNB.out).trans HkT.out
          · exact (HBel.out.trans ⟨rfl, rfl, rfl, Nat.le_refl _, fun _ _ => rfl⟩ : Below w.heap.size w (wr.drewN m1)).setCell HLo.out _
        case measure => simp [intOf]; omega
      | false =>
        have HC := hid hc
        have HB0 : Hid (sbit x sd k = 0) := by simp only [Hid]; rw [HBi.out, hc]; rfl
        clear hc hS hS1 hm hbit hnx hsb hsb1 hown kO kT bel
        go_wp2_with (first | (go_at_call 17; refine (nextSeed HSB.out).mono ?_; rw [← HNX.out]; rintro e w' ⟨rfl, hw'⟩; subst hw') | (go_at_call 18; refine (shareOfSeed HSB1.out).mono ?_; rintro e w' ⟨r1, m1, rfl, h1, rfl⟩) | (refine wpList_fcmp rfl .lss _ _ _ _ rfl _ _ _ rfl rfl rfl h1 IX ?_; rw [HC.out]))
        go_roundw
        case rel =>
          refine ⟨k + 1, by omega, by go_num, by rw [← HS1.out], ?_, HkO.out, HkT.out, HBel.out.trans ⟨rfl, rfl, rfl, Nat.le_refl _, fun _ _ => rfl⟩⟩
          have ho := HOw.out
          rw [sbits_zero x sd hlt HB0.out] at ho
          exact ho
        case measure => simp [intOf]; omega
    · have hkn : k = n := by omega
      subst hkn
      have x0 : wr.cell? ⟨NO, 0, none⟩ = some (.int .i64 R) := Go.Joins.cell_of_block kO 0
      have x1 : wr.cell? ⟨NO, 1, none⟩ = some (.int .i64 C) := Go.Joins.cell_of_block kO 1
      have HO : Hid (Own 2 wr b' (.slice (some ⟨b', 0, none⟩) k k) (sbits x sd k)) := by simp only [Hid]; simpa using hown
      have HB := hid bel
      have kb := kT
      clear hown bel kT kO
      have y0 : wr.cell? ⟨NT, 0, none⟩ = some (.int .i64 0) := Go.Joins.cell_of_block kb 0
      have y1 : wr.cell? ⟨NT, 1, none⟩ = some (.int .i64 0) := Go.Joins.cell_of_block kb 1
      have y2 : wr.cell? ⟨NT, 2, none⟩ = some (.slice none 0 0) := Go.Joins.cell_of_block kb 2
      have g0 : wr.frozen? ⟨NT, 0, none⟩ = false := Go.Joins.unfrozen_of_block kb 0
      have g1 : wr.frozen? ⟨NT, 1, none⟩ = false := Go.Joins.unfrozen_of_block kb 1
      have g2 : wr.frozen? ⟨NT, 2, none⟩ = false := Go.Joins.unfrozen_of_block kb 2
      have HKx := hid kb
      clear kb
      go_wp2
      obtain ⟨W5, hW⟩ : ∃ W5, W5 = (((wr.setCell ⟨NT, 0, none⟩ (.int .i64 R)).setCell ⟨NT, 1, none⟩ (.int .i64 C)).setCell ⟨NT, 2, none⟩ (.slice (some ⟨b', 0, none⟩) k k)) := ⟨_, rfl⟩
      have q0 := (Go.Joins.block_setCell (i := 2) (Go.Joins.block_setCell (i := 1) (Go.Joins.block_setCell (i := 0) HKx.out (.int .i64 R)) (.int .i64 C)) (.slice (some ⟨b', 0, none⟩) k k))
      rw [← hW] at q0
      have z0 : W5.cell? ⟨NT, 0, none⟩ = some (.int .i64 R) := Go.Joins.cell_of_block q0 0
      have z1 : W5.cell? ⟨NT, 1, none⟩ = some (.int .i64 C) := Go.Joins.cell_of_block q0 1
      have z2 : W5.cell? ⟨NT, 2, none⟩ = some (.slice (some ⟨b', 0, none⟩) k k) := Go.Joins.cell_of_block q0 2
      have O5 := (own_set (own_set (own_set HO.out ⟨NT, 0, none⟩ (.int .i64 R) HNB.out) ⟨NT, 1, none⟩ (.int .i64 C) HNB.out) ⟨NT, 2, none⟩ (.slice (some ⟨b', 0, none⟩) k k) HNB.out)
      rw [← hW] at O5
      have B5 : Below w.heap.size w W5 := by
        have h1 := HNT.out
        rw [hW]
        exact ((HB.out.setCell (by simp; omega) _).setCell (by simp; omega) _).setCell (by simp; omega) _
      simp only [← hW]
      clear hW q0
      simp [bodyPost, results, Try.results5, go_sem, z0, z1, z2]
      exact ⟨O5, HLo.out, B5⟩

theorem agree (a b : Int) (X : Nat) (hX : X < 2 ^ 32) (sd : Int) : ∃ (qs qr : Int) (rs : List Int) (q1 : Int) (q2 : Bool), rs.length ≤ 1000000 ∧ (∀ (w : World), Calls Try.prog 4 #[.int .i64 a, .int .i64 b, .float .f32 X, .int .i64 sd] w fun e w' => ∃ ao c b', e = .returned (.tuple #[ruleV qs qr (.slice ao rs.length c), .int .i64 q1, .bool q2]) ∧ Own 2 w' b' (.slice ao rs.length c) rs ∧ w.heap.size ≤ b' ∧ Below w.heap.size w w') ∧ (∀ (w : World), Calls Try.prog 5 #[.int .i64 a, .int .i64 b, .float .f32 X, .int .i64 sd] w fun e w' => ∃ ao c b', e = .returned (.tuple #[ruleV qs qr (.slice ao rs.length c), .int .i64 q1, .bool q2]) ∧ Own 2 w' b' (.slice ao rs.length c) rs ∧ w.heap.size ≤ b' ∧ Below w.heap.size w w') := by
  have IX : Is .f32 X (cn .f32 X) := ⟨rfl, hX⟩
  have none_ : (∀ (w : World), Calls Try.prog 4 #[.int .i64 a, .int .i64 b, .float .f32 X, .int .i64 sd] w fun e w' => e = .returned (.tuple #[ruleV 0 0 (.slice none 0 0), .int .i64 0, .bool false]) ∧ Below w.heap.size w w') → (∀ (w : World), Calls Try.prog 5 #[.int .i64 a, .int .i64 b, .float .f32 X, .int .i64 sd] w fun e w' => e = .returned (.tuple #[ruleV 0 0 (.slice none 0 0), .int .i64 0, .bool false]) ∧ Below w.heap.size w w') → ∃ (qs qr : Int) (rs : List Int) (q1 : Int) (q2 : Bool), rs.length ≤ 1000000 ∧ (∀ (w : World), Calls Try.prog 4 #[.int .i64 a, .int .i64 b, .float .f32 X, .int .i64 sd] w fun e w' => ∃ ao c b', e = .returned (.tuple #[ruleV qs qr (.slice ao rs.length c), .int .i64 q1, .bool q2]) ∧ Own 2 w' b' (.slice ao rs.length c) rs ∧ w.heap.size ≤ b' ∧ Below w.heap.size w w') ∧ (∀ (w : World), Calls Try.prog 5 #[.int .i64 a, .int .i64 b, .float .f32 X, .int .i64 sd] w fun e w' => ∃ ao c b', e = .returned (.tuple #[ruleV qs qr (.slice ao rs.length c), .int .i64 q1, .bool q2]) ∧ Own 2 w' b' (.slice ao rs.length c) rs ∧ w.heap.size ≤ b' ∧ Below w.heap.size w w') := by
    intro h1 h2
    refine ⟨0, 0, [], 0, false, by simp, fun w => (h1 w).mono ?_, fun w => (h2 w).mono ?_⟩
    · rintro e w' ⟨rfl, bel⟩
      exact ⟨none, 0, w.heap.size, rfl, Own.nil _ _ _, Nat.le_refl _, bel⟩
    · rintro e w' ⟨rfl, bel⟩
      exact ⟨none, 0, w.heap.size, rfl, Own.nil _ _ _, Nat.le_refl _, bel⟩
  cases hq : sidesB a b with
  | false => exact none_ (fun w => specNo1 IX hq) (fun w => implNo1 IX hq)
  | true =>
    cases hsh : shareB (cn .f32 X) with
    | false => exact none_ (fun w => specNo2 IX hq hsh) (fun w => implNo2 IX hq hsh)
    | true =>
      cases hse : seedB sd with
      | false => exact none_ (fun w => specNo3 IX hq hsh hse) (fun w => implNo3 IX hq hsh hse)
      | true =>
        have hs : (1 ≤ a ∧ a ≤ 24) ∧ 1 ≤ b ∧ b ≤ 24 := by simp [sidesB] at hq; omega
        obtain ⟨R, rfl⟩ := Int.eq_ofNat_of_zero_le (show 0 ≤ a by omega)
        obtain ⟨C, rfl⟩ := Int.eq_ofNat_of_zero_le (show 0 ≤ b by omega)
        have hle : R * C ≤ 576 := Nat.le_trans (Nat.mul_le_mul (show R ≤ 24 by omega) (show C ≤ 24 by omega)) (by decide)
        have hlen : (sbits (cn .f32 X) sd (R * C)).length = R * C := sbits_length _ _ _
        refine ⟨R, C, sbits (cn .f32 X) sd (R * C), seedAt sd (R * C), true, by rw [hlen]; omega, fun w => (specOk IX hq rfl hle hsh hse).mono ?_, fun w => (implOk IX hq rfl hle hsh hse).mono ?_⟩
        · rintro e w' ⟨b', rfl, ow, lo, bel⟩
          exact ⟨some ⟨b', 0, none⟩, R * C, b', by rw [hlen], by rw [hlen]; exact ow, lo, bel⟩
        · rintro e w' ⟨b', rfl, ow, lo, bel⟩
          exact ⟨some ⟨b', 0, none⟩, R * C, b', by rw [hlen], by rw [hlen]; exact ow, lo, bel⟩

end Go.Proofs.Ytlecpilgimiaaaa.Drg
