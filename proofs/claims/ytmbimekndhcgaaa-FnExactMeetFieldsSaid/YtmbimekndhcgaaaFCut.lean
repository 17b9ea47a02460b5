/- CutField of both sides. -/
import Derived.Test.YtmbimekndhcgaaaGrow
import Derived.Test.YtmbimekndhcgaaaCopy
namespace Go.Proofs.Ytmbimekndhcgaaa.FCut
open Go.RowKit Go.Proofs.Ytmbimekndhcgaaa.Rd Go.Proofs.Ytmbimekndhcgaaa.Help Go.Proofs.Ytmbimekndhcgaaa.Ring Go.Proofs.Ytmbimekndhcgaaa.Small Go.Proofs.Ytmbimekndhcgaaa.FVal Go.Proofs.Ytmbimekndhcgaaa.Keep Go.Proofs.Ytmbimekndhcgaaa.Rule Go.Proofs.Ytmbimekndhcgaaa.Grow Go.Proofs.Ytmbimekndhcgaaa.Copy
set_option linter.unusedVariables false
set_option linter.unusedSimpArgs false

/-- A part of x rows and y columns from a row and a column on is within a field. -/
def cutB (R C row col x y : Int) : Bool := decide (0 ≤ row ∧ 0 ≤ col ∧ 1 ≤ x ∧ 1 ≤ y ∧ row + x ≤ R ∧ col + y ≤ C)

set_option maxHeartbeats 1000000 in
theorem has {w : World} {R C row col : Int} (hR : 1 ≤ R ∧ R ≤ 24) (hC : 1 ≤ C ∧ C ≤ 24) :
    Calls Try.prog 104 #[shapeV R C, .int .i64 row, .int .i64 col] w fun e w' => e = .returned (.bool (decide (0 ≤ row ∧ row ≤ R - 1) && decide (0 ≤ col ∧ col ≤ C - 1))) ∧ Below w.heap.size w w' := by
  have e0 : IntKind.i64.wrap (R - 1) = R - 1 := by rw [IntKind.wrap_i64]; omega
  have e1 : IntKind.i64.wrap (C - 1) = C - 1 := by rw [IntKind.wrap_i64]; omega
  by_cases h1 : 0 ≤ row ∧ row ≤ R - 1
  · obtain ⟨qq, hq⟩ : ∃ qq, qq = decide (0 ≤ col ∧ col ≤ C - 1) := ⟨_, rfl⟩
    rw [decide_eq_true h1, Bool.true_and, ← hq]
    have H1 : Hid (decide (0 ≤ row ∧ row ≤ R - 1) = true) := decide_eq_true h1
    have HQ := hid hq
    clear hq h1 hR hC
    go_enter Try.func104, Try.ntmps104
    go_wp2_with fail
    go_at_call 54
    refine isCountB.mono ?_
    rw [H1.out]
    rintro e w' ⟨rfl, rfl⟩
    go_wp2_with fail
    go_at_call 54
    refine isCountB.mono ?_
    rw [← HQ.out]
    rintro e w' ⟨rfl, rfl⟩
    go_wp2
    go_ret
    exact ⟨rfl, below1 _ _⟩
  · rw [decide_eq_false h1, Bool.false_and]
    have H1 : Hid (decide (0 ≤ row ∧ row ≤ R - 1) = false) := decide_eq_false h1
    clear h1 hR hC
    go_enter Try.func104, Try.ntmps104
    go_wp2_with fail
    go_at_call 54
    refine isCountB.mono ?_
    rw [H1.out]
    rintro e w' ⟨rfl, rfl⟩
    go_wp2
    go_ret
    exact ⟨rfl, below1 _ _⟩

set_option maxHeartbeats 2000000 in
theorem isWithin {w : World} {R C row col x y : Int} {ao : Option Addr} {n cap : Nat} (hR : 1 ≤ R ∧ R ≤ 24) (hC : 1 ≤ C ∧ C ≤ 24) :
    Calls Try.prog 86 #[ruleV R C (.slice ao n cap), .int .i64 row, .int .i64 col, shapeV x y] w fun e w' => e = .returned (.bool (cutB R C row col x y)) ∧ Below w.heap.size w w' := by
  have HR := hid hR
  have HC := hid hC
  by_cases hh : (0 ≤ row ∧ row ≤ R - 1) ∧ 0 ≤ col ∧ col ≤ C - 1
  · have HH : Hid ((decide (0 ≤ row ∧ row ≤ R - 1) && decide (0 ≤ col ∧ col ≤ C - 1)) = true) := by simp only [Hid]; rw [decide_eq_true hh.1, decide_eq_true hh.2]; rfl
    have e0 : IntKind.i64.wrap (R - row) = R - row := by rw [IntKind.wrap_i64]; omega
    have e1 : IntKind.i64.wrap (C - col) = C - col := by rw [IntKind.wrap_i64]; omega
    by_cases h1 : 1 ≤ x ∧ x ≤ R - row
    · obtain ⟨qq, hq⟩ : ∃ qq, qq = decide (1 ≤ y ∧ y ≤ C - col) := ⟨_, rfl⟩
      have e : cutB R C row col x y = qq := by rw [hq]; exact decide_eq_decide.2 (by omega)
      rw [e]
      have H1 : Hid (decide (1 ≤ x ∧ x ≤ R - row) = true) := decide_eq_true h1
      have HQ := hid hq
      clear e hh hq h1 hR hC
      go_enter Try.func86, Try.ntmps86
      go_wp2_with fail
      obtain ⟨w1, hW⟩ : ∃ w1, w1 = (w.alloc (Obj.cells #[.int .i64 R, .int .i64 C, .slice ao n cap] 26)).alloc (Obj.cells #[.int .i64 x, .int .i64 y] 96) := ⟨_, rfl⟩
      obtain ⟨N, hN⟩ : ∃ N, N = w.heap.size := ⟨_, rfl⟩
      obtain ⟨M, hM⟩ : ∃ M, M = N + 1 := ⟨_, rfl⟩
      have st : Below w.heap.size w w1 ∧ w1.cell? ⟨N, 0, none⟩ = some (.int .i64 R) ∧ w1.cell? ⟨N, 1, none⟩ = some (.int .i64 C) ∧ w1.cell? ⟨M, 0, none⟩ = some (.int .i64 x) ∧ w1.cell? ⟨M, 1, none⟩ = some (.int .i64 y) ∧ w.heap.size ≤ w1.heap.size := by
        rw [hW, hM, hN]
        exact ⟨Go.Joins.below_alloc2 _ _ _, by simp, by simp, by simp, by simp, by simp; omega⟩
      simp only [← hW, ← hN, ← hM]
      clear hW hN hM
      go_at_call 79
      refine extentOf.mono ?_
      rintro e w2 ⟨rfl, bel⟩
      replace st := next4_0 bel st
      clear bel
      go_wp2_with fail
      go_at_call 104
      refine (has HR.out HC.out).mono ?_
      rw [HH.out]
      rintro e w3 ⟨rfl, bel⟩
      replace st := next4_0 bel st
      clear bel
      go_wp2_with fail
      go_at_call 101
      refine isFromB.mono ?_
      rw [H1.out]
      rintro e w' ⟨rfl, rfl⟩
      go_wp2_with fail
      go_at_call 101
      refine isFromB.mono ?_
      rw [← HQ.out]
      rintro e w' ⟨rfl, rfl⟩
      go_wp2
      go_ret
      exact ⟨rfl, st.1⟩
    · have e : cutB R C row col x y = false := decide_eq_false (fun h => h1 (by omega))
      rw [e]
      have H1 : Hid (decide (1 ≤ x ∧ x ≤ R - row) = false) := decide_eq_false h1
      clear e hh h1 hR hC
      go_enter Try.func86, Try.ntmps86
      go_wp2_with fail
      obtain ⟨w1, hW⟩ : ∃ w1, w1 = (w.alloc (Obj.cells #[.int .i64 R, .int .i64 C, .slice ao n cap] 26)).alloc (Obj.cells #[.int .i64 x, .int .i64 y] 96) := ⟨_, rfl⟩
      obtain ⟨N, hN⟩ : ∃ N, N = w.heap.size := ⟨_, rfl⟩
      obtain ⟨M, hM⟩ : ∃ M, M = N + 1 := ⟨_, rfl⟩
      have st : Below w.heap.size w w1 ∧ w1.cell? ⟨N, 0, none⟩ = some (.int .i64 R) ∧ w1.cell? ⟨N, 1, none⟩ = some (.int .i64 C) ∧ w1.cell? ⟨M, 0, none⟩ = some (.int .i64 x) ∧ w1.cell? ⟨M, 1, none⟩ = some (.int .i64 y) ∧ w.heap.size ≤ w1.heap.size := by
        rw [hW, hM, hN]
        exact ⟨Go.Joins.below_alloc2 _ _ _, by simp, by simp, by simp, by simp, by simp; omega⟩
      simp only [← hW, ← hN, ← hM]
      clear hW hN hM
      go_at_call 79
      refine extentOf.mono ?_
      rintro e w2 ⟨rfl, bel⟩
      replace st := next4_0 bel st
      clear bel
      go_wp2_with fail
      go_at_call 104
      refine (has HR.out HC.out).mono ?_
      rw [HH.out]
      rintro e w3 ⟨rfl, bel⟩
      replace st := next4_0 bel st
      clear bel
      go_wp2_with fail
      go_at_call 101
      refine isFromB.mono ?_
      rw [H1.out]
      rintro e w' ⟨rfl, rfl⟩
      go_wp2
      go_ret
      exact ⟨rfl, st.1⟩
  · have e : cutB R C row col x y = false := decide_eq_false (fun h => hh (by omega))
    rw [e]
    have HH : Hid ((decide (0 ≤ row ∧ row ≤ R - 1) && decide (0 ≤ col ∧ col ≤ C - 1)) = false) := by
      simp only [Hid]
      by_cases k : 0 ≤ row ∧ row ≤ R - 1
      · rw [decide_eq_false (fun h => hh ⟨k, h⟩), Bool.and_false]
      · rw [decide_eq_false k, Bool.false_and]
    clear e hh hR hC
    go_enter Try.func86, Try.ntmps86
    go_wp2_with fail
    obtain ⟨w1, hW⟩ : ∃ w1, w1 = (w.alloc (Obj.cells #[.int .i64 R, .int .i64 C, .slice ao n cap] 26)).alloc (Obj.cells #[.int .i64 x, .int .i64 y] 96) := ⟨_, rfl⟩
    obtain ⟨N, hN⟩ : ∃ N, N = w.heap.size := ⟨_, rfl⟩
    obtain ⟨M, hM⟩ : ∃ M, M = N + 1 := ⟨_, rfl⟩
    have st : Below w.heap.size w w1 ∧ w1.cell? ⟨N, 0, none⟩ = some (.int .i64 R) ∧ w1.cell? ⟨N, 1, none⟩ = some (.int .i64 C) ∧ w1.cell? ⟨M, 0, none⟩ = some (.int .i64 x) ∧ w1.cell? ⟨M, 1, none⟩ = some (.int .i64 y) ∧ w.heap.size ≤ w1.heap.size := by
      rw [hW, hM, hN]
      exact ⟨Go.Joins.below_alloc2 _ _ _, by simp, by simp, by simp, by simp, by simp; omega⟩
    simp only [← hW, ← hN, ← hM]
    clear hW hN hM
    go_at_call 79
    refine extentOf.mono ?_
    rintro e w2 ⟨rfl, bel⟩
    replace st := next4_0 bel st
    clear bel
    go_wp2_with fail
    go_at_call 104
    refine (has HR.out HC.out).mono ?_
    rw [HH.out]
    rintro e w3 ⟨rfl, bel⟩
    replace st := next4_0 bel st
    clear bel
    go_wp2
    go_ret
    exact ⟨rfl, st.1⟩

/-- The cells of a part of a field. -/
def cutL (zs : List Int) (C ra rb rc rd : Nat) : List Int := grid rc rd fun i k => zs.getD ((ra + i) * C + (rb + k)) 0

set_option maxHeartbeats 2000000 in
theorem implNo1 {w : World} {s r row col x y : Int} {b : Nat} {v : Value} {zs : List Int} (h : Rd w b v zs) (hq : fieldB s r zs = false) :
    Calls Try.prog 91 #[ruleV s r v, .int .i64 row, .int .i64 col, .int .i64 x, .int .i64 y] w fun e w' => e = .returned (.tuple #[ruleV 0 0 (.slice none 0 0), .bool false]) ∧ Below w.heap.size w w' := by
  have HH := hid h
  have HQ := hid hq
  have HSR : Hid (fieldB s r zs = true → (1 ≤ s ∧ s ≤ 24) ∧ 1 ≤ r ∧ r ≤ 24) := by
    intro hq2
    simp only [fieldB, Bool.and_eq_true] at hq2
    have := hq2.1
    simp [sidesB] at this; omega
  obtain ⟨ao, cap, rfl, hc, hm, _⟩ := h
  clear hc hm hq
  go_enter Try.func91, Try.ntmps91
  go_wp2_with fail
  obtain ⟨w1, hW⟩ : ∃ w1, w1 = ((w.alloc (Obj.cells #[.int .i64 s, .int .i64 r, .slice ao zs.length cap] 26)).alloc (Obj.cells #[.int .i64 0, .int .i64 0, .slice none 0 0] 26)).alloc (Obj.cells #[.int .i64 x, .int .i64 y] 96) := ⟨_, rfl⟩
  obtain ⟨N, hN⟩ : ∃ N, N = w.heap.size := ⟨_, rfl⟩
  obtain ⟨NT, hM⟩ : ∃ NT, NT = N + 1 := ⟨_, rfl⟩
  obtain ⟨NE, hE⟩ : ∃ NE, NE = NT + 1 := ⟨_, rfl⟩
  have st : Below w.heap.size w w1 ∧ w1.cell? ⟨N, 0, none⟩ = some (.int .i64 s) ∧ w1.cell? ⟨N, 1, none⟩ = some (.int .i64 r) ∧ w1.cell? ⟨N, 2, none⟩ = some (.slice ao zs.length cap) ∧ w1.cell? ⟨NE, 0, none⟩ = some (.int .i64 x) ∧ w1.cell? ⟨NE, 1, none⟩ = some (.int .i64 y) ∧ Rd w1 b (.slice ao zs.length cap) zs ∧ w.heap.size ≤ w1.heap.size := by
    rw [hW, hE, hM, hN]
    exact ⟨Go.Joins.below_alloc3 _ _ _ _, Go.Joins.cell_of_block (FNew.heap_old (FNew.heap_old (FNew.heap_top rfl))) 0, Go.Joins.cell_of_block (FNew.heap_old (FNew.heap_old (FNew.heap_top rfl))) 1, Go.Joins.cell_of_block (FNew.heap_old (FNew.heap_old (FNew.heap_top rfl))) 2, Go.Joins.cell_of_block (FNew.heap_top (by simp)) 0, Go.Joins.cell_of_block (FNew.heap_top (by simp)) 1, HH.out.keep (Go.Joins.below_alloc3 _ _ _ _) (Nat.le_refl _), by simp; omega⟩
  have kT : w1.heap[NT]? = some (Obj.cells #[.int .i64 0, .int .i64 0, .slice none 0 0] 26) := by rw [hW]; exact FNew.heap_old (FNew.heap_top (by rw [hM, hN]; simp))
  have HNT : Hid (w.heap.size ≤ NT) := by simp only [Hid]; omega
  have HNN : Hid (NT = N + 1 ∧ N = w.heap.size) := ⟨hM, hN⟩
  simp only [← hW, ← hN, ← hM, ← hE]
  clear hW hN hM hE
  go_at_call 46
  refine (implValid (rd5_1_0 st)).mono ?_
  rw [HQ.out]
  rintro e w2 ⟨rfl, bel⟩
  replace st := next5_1 bel st
  replace kT := (bel.block NT (Array.getElem?_eq_some_iff.1 kT).1).trans kT
  clear bel
  have HB := hid st.1
  have y0 : w2.cell? ⟨NT, 0, none⟩ = some (.int .i64 0) := Go.Joins.cell_of_block kT 0
  have y1 : w2.cell? ⟨NT, 1, none⟩ = some (.int .i64 0) := Go.Joins.cell_of_block kT 1
  have y2 : w2.cell? ⟨NT, 2, none⟩ = some (.slice none 0 0) := Go.Joins.cell_of_block kT 2
  have g0 : w2.frozen? ⟨NT, 0, none⟩ = false := Go.Joins.unfrozen_of_block kT 0
  have g1 : w2.frozen? ⟨NT, 1, none⟩ = false := Go.Joins.unfrozen_of_block kT 1
  have g2 : w2.frozen? ⟨NT, 2, none⟩ = false := Go.Joins.unfrozen_of_block kT 2
  have HKx := hid kT
  clear kT
  go_wp2
  obtain ⟨W5, hW⟩ : ∃ W5, W5 = (((w2.setCell ⟨NT, 0, none⟩ (.int .i64 0)).setCell ⟨NT, 1, none⟩ (.int .i64 0)).setCell ⟨NT, 2, none⟩ (.slice none 0 0)) := ⟨_, rfl⟩
  have q0 := (Go.Joins.block_setCell (i := 2) (Go.Joins.block_setCell (i := 1) (Go.Joins.block_setCell (i := 0) HKx.out (.int .i64 0)) (.int .i64 0)) (.slice none 0 0))
  rw [← hW] at q0
  have z0 : W5.cell? ⟨NT, 0, none⟩ = some (.int .i64 0) := Go.Joins.cell_of_block q0 0
  have z1 : W5.cell? ⟨NT, 1, none⟩ = some (.int .i64 0) := Go.Joins.cell_of_block q0 1
  have z2 : W5.cell? ⟨NT, 2, none⟩ = some (.slice none 0 0) := Go.Joins.cell_of_block q0 2
  have B5 : Below w.heap.size w W5 := by
    have h1 := HNT.out
    rw [hW]
    exact ((HB.out.setCell (by simp; omega) _).setCell (by simp; omega) _).setCell (by simp; omega) _
  simp only [← hW]
  clear hW q0
  simp [bodyPost, results, Try.results91, go_sem, z0, z1, z2]
  exact B5

set_option maxHeartbeats 2000000 in
theorem implNo2 {w : World} {s r row col x y : Int} {b : Nat} {v : Value} {zs : List Int} (h : Rd w b v zs) (hq : fieldB s r zs = true) (hk : cutB s r row col x y = false) :
    Calls Try.prog 91 #[ruleV s r v, .int .i64 row, .int .i64 col, .int .i64 x, .int .i64 y] w fun e w' => e = .returned (.tuple #[ruleV 0 0 (.slice none 0 0), .bool false]) ∧ Below w.heap.size w w' := by
  have HH := hid h
  have HQ := hid hq
  have HSR : Hid (fieldB s r zs = true → (1 ≤ s ∧ s ≤ 24) ∧ 1 ≤ r ∧ r ≤ 24) := by
    intro hq2
    simp only [fieldB, Bool.and_eq_true] at hq2
    have := hq2.1
    simp [sidesB] at this; omega
  obtain ⟨ao, cap, rfl, hc, hm, _⟩ := h
  have HK := hid hk
  clear hc hm hq hk
  go_enter Try.func91, Try.ntmps91
  go_wp2_with fail
  obtain ⟨w1, hW⟩ : ∃ w1, w1 = ((w.alloc (Obj.cells #[.int .i64 s, .int .i64 r, .slice ao zs.length cap] 26)).alloc (Obj.cells #[.int .i64 0, .int .i64 0, .slice none 0 0] 26)).alloc (Obj.cells #[.int .i64 x, .int .i64 y] 96) := ⟨_, rfl⟩
  obtain ⟨N, hN⟩ : ∃ N, N = w.heap.size := ⟨_, rfl⟩
  obtain ⟨NT, hM⟩ : ∃ NT, NT = N + 1 := ⟨_, rfl⟩
  obtain ⟨NE, hE⟩ : ∃ NE, NE = NT + 1 := ⟨_, rfl⟩
  have st : Below w.heap.size w w1 ∧ w1.cell? ⟨N, 0, none⟩ = some (.int .i64 s) ∧ w1.cell? ⟨N, 1, none⟩ = some (.int .i64 r) ∧ w1.cell? ⟨N, 2, none⟩ = some (.slice ao zs.length cap) ∧ w1.cell? ⟨NE, 0, none⟩ = some (.int .i64 x) ∧ w1.cell? ⟨NE, 1, none⟩ = some (.int .i64 y) ∧ Rd w1 b (.slice ao zs.length cap) zs ∧ w.heap.size ≤ w1.heap.size := by
    rw [hW, hE, hM, hN]
    exact ⟨Go.Joins.below_alloc3 _ _ _ _, Go.Joins.cell_of_block (FNew.heap_old (FNew.heap_old (FNew.heap_top rfl))) 0, Go.Joins.cell_of_block (FNew.heap_old (FNew.heap_old (FNew.heap_top rfl))) 1, Go.Joins.cell_of_block (FNew.heap_old (FNew.heap_old (FNew.heap_top rfl))) 2, Go.Joins.cell_of_block (FNew.heap_top (by simp)) 0, Go.Joins.cell_of_block (FNew.heap_top (by simp)) 1, HH.out.keep (Go.Joins.below_alloc3 _ _ _ _) (Nat.le_refl _), by simp; omega⟩
  have kT : w1.heap[NT]? = some (Obj.cells #[.int .i64 0, .int .i64 0, .slice none 0 0] 26) := by rw [hW]; exact FNew.heap_old (FNew.heap_top (by rw [hM, hN]; simp))
  have HNT : Hid (w.heap.size ≤ NT) := by simp only [Hid]; omega
  have HNN : Hid (NT = N + 1 ∧ N = w.heap.size) := ⟨hM, hN⟩
  simp only [← hW, ← hN, ← hM, ← hE]
  clear hW hN hM hE
  go_at_call 46
  refine (implValid (rd5_1_0 st)).mono ?_
  rw [HQ.out]
  rintro e w2 ⟨rfl, bel⟩
  replace st := next5_1 bel st
  replace kT := (bel.block NT (Array.getElem?_eq_some_iff.1 kT).1).trans kT
  clear bel
  go_wp2_with fail
  go_at_call 86
  refine (isWithin (HSR.out HQ.out).1 (HSR.out HQ.out).2).mono ?_
  rw [HK.out]
  rintro e w5 ⟨rfl, bel⟩
  replace st := next5_1 bel st
  replace kT := (bel.block NT (Array.getElem?_eq_some_iff.1 kT).1).trans kT
  clear bel
  have HB := hid st.1
  have y0 : w5.cell? ⟨NT, 0, none⟩ = some (.int .i64 0) := Go.Joins.cell_of_block kT 0
  have y1 : w5.cell? ⟨NT, 1, none⟩ = some (.int .i64 0) := Go.Joins.cell_of_block kT 1
  have y2 : w5.cell? ⟨NT, 2, none⟩ = some (.slice none 0 0) := Go.Joins.cell_of_block kT 2
  have g0 : w5.frozen? ⟨NT, 0, none⟩ = false := Go.Joins.unfrozen_of_block kT 0
  have g1 : w5.frozen? ⟨NT, 1, none⟩ = false := Go.Joins.unfrozen_of_block kT 1
  have g2 : w5.frozen? ⟨NT, 2, none⟩ = false := Go.Joins.unfrozen_of_block kT 2
  have HKx := hid kT
  clear kT
  go_wp2
  obtain ⟨W5, hW⟩ : ∃ W5, W5 = (((w5.setCell ⟨NT, 0, none⟩ (.int .i64 0)).setCell ⟨NT, 1, none⟩ (.int .i64 0)).setCell ⟨NT, 2, none⟩ (.slice none 0 0)) := ⟨_, rfl⟩
  have q0 := (Go.Joins.block_setCell (i := 2) (Go.Joins.block_setCell (i := 1) (Go.Joins.block_setCell (i := 0) HKx.out (.int .i64 0)) (.int .i64 0)) (.slice none 0 0))
  rw [← hW] at q0
  have z0 : W5.cell? ⟨NT, 0, none⟩ = some (.int .i64 0) := Go.Joins.cell_of_block q0 0
  have z1 : W5.cell? ⟨NT, 1, none⟩ = some (.int .i64 0) := Go.Joins.cell_of_block q0 1
  have z2 : W5.cell? ⟨NT, 2, none⟩ = some (.slice none 0 0) := Go.Joins.cell_of_block q0 2
  have B5 : Below w.heap.size w W5 := by
    have h1 := HNT.out
    rw [hW]
    exact ((HB.out.setCell (by simp; omega) _).setCell (by simp; omega) _).setCell (by simp; omega) _
  simp only [← hW]
  clear hW q0
  simp [bodyPost, results, Try.results91, go_sem, z0, z1, z2]
  exact B5

theorem gTrans {w0 w w' : World} {b : Nat} (g : w0.grownBy w (some b)) (h : w.grownBy w' (some b)) : w0.grownBy w' (some b) :=
  ⟨h.os.trans g.os, h.tape.trans g.tape, h.output.trans g.output, Nat.le_trans g.size h.size, fun k hk hne => (h.block k (Nat.lt_of_lt_of_le hk g.size) hne).trans (g.block k hk hne)⟩

set_option maxHeartbeats 16000000 in
theorem implOk {w : World} {R C n ra rb rc rd mt : Nat} {b : Nat} {v : Value} {zs : List Int} (h : Rd w b v zs) (hq : fieldB R C zs = true) (hn : n = R * C) (hk : ra + rc ≤ R ∧ rb + rd ≤ C ∧ 1 ≤ rc ∧ 1 ≤ rd) (hmt : mt = rc * rd) :
    Calls Try.prog 91 #[ruleV R C v, .int .i64 ra, .int .i64 rb, .int .i64 rc, .int .i64 rd] w fun e w' => ∃ b', e = .returned ((.tuple #[ruleV rc rd (.slice (some ⟨b', 0, none⟩) mt mt), .bool true])) ∧ Own 2 w' b' (.slice (some ⟨b', 0, none⟩) mt mt) (cutL zs C ra rb rc rd) ∧ w.heap.size ≤ b' ∧ Below w.heap.size w w' := by
  obtain ⟨hR, hC, hl, hle⟩ := field_nat hq
  have HH := hid h
  have HQ := hid hq
  obtain ⟨ao, cap, rfl, hc, hm, h4⟩ := h
  rw [← hn] at hle
  have hpos : 0 < zs.length := by rw [hl]; exact Nat.mul_pos hR.1 hC.1
  obtain ⟨off, rfl, hb, hcell⟩ := h4 hpos
  have hln : zs.length = n := by rw [hn]; exact hl
  rw [hln] at HH hc hcell ⊢
  have hsz : n ≤ cap ∧ cap ≤ 9223372036854775807 := by unfold maxLen at hm; omega
  have HCap := hid (show n ≤ cap ∧ cap ≤ maxLen from ⟨hc, hm⟩)
  have HL : Hid (zs.length = n) := by simp only [Hid]; rw [hn]; exact hl
  have HN := hid hn
  have HR := hid hR
  have HC := hid hC
  have HB0 := hid hb
  have HCell := hid hcell
  have HLE := hid hle
  clear hc hm h4 hq hn hl hpos hb hcell hln
  have HM := hid hmt
  have HK := hid hk
  have HW1 : Hid (cutB R C ra rb rc rd = true) := decide_eq_true (by omega)
  have HLE2 : Hid (rc * rd ≤ 576) := by
    have h1 : rc * rd ≤ 24 * 24 := Nat.mul_le_mul (by have := HR.out; omega) (by have := HC.out; omega)
    simp only [Hid]; omega
  have HLE3 : Hid (mt ≤ 576) := by have := HLE2.out; have := HM.out; simp only [Hid]; omega
  have HRI : Hid (1 ≤ (R : Int) ∧ (R : Int) ≤ 24) := by have := HR.out; simp only [Hid]; omega
  have HCI : Hid (1 ≤ (C : Int) ∧ (C : Int) ≤ 24) := by have := HC.out; simp only [Hid]; omega
  have hB4 : rc ≤ 24 ∧ rd ≤ 24 := by have := HR.out; have := HC.out; omega
  clear hmt hk
  have HD : Hid (1 ≤ rd ∧ rd ≤ 24) := by have := HK.out; simp only [Hid]; omega
  go_enter Try.func91, Try.ntmps91
  go_wp2_with fail
  obtain ⟨w1, hW⟩ : ∃ w1, w1 = ((w.alloc (Obj.cells #[.int .i64 R, .int .i64 C, .slice (some ⟨b, off, none⟩) n cap] 26)).alloc (Obj.cells #[.int .i64 0, .int .i64 0, .slice none 0 0] 26)).alloc (Obj.cells #[.int .i64 rc, .int .i64 rd] 96) := ⟨_, rfl⟩
  obtain ⟨N, hN⟩ : ∃ N, N = w.heap.size := ⟨_, rfl⟩
  obtain ⟨NT, hM⟩ : ∃ NT, NT = N + 1 := ⟨_, rfl⟩
  obtain ⟨NE, hE⟩ : ∃ NE, NE = NT + 1 := ⟨_, rfl⟩
  have st : Below w.heap.size w w1 ∧ w1.cell? ⟨N, 0, none⟩ = some (.int .i64 R) ∧ w1.cell? ⟨N, 1, none⟩ = some (.int .i64 C) ∧ w1.cell? ⟨N, 2, none⟩ = some (.slice (some ⟨b, off, none⟩) n cap) ∧ w1.cell? ⟨NE, 0, none⟩ = some (.int .i64 rc) ∧ w1.cell? ⟨NE, 1, none⟩ = some (.int .i64 rd) ∧ Rd w1 b (.slice (some ⟨b, off, none⟩) n cap) zs ∧ w.heap.size ≤ w1.heap.size := by
    rw [hW, hE, hM, hN]
    exact ⟨Go.Joins.below_alloc3 _ _ _ _, Go.Joins.cell_of_block (FNew.heap_old (FNew.heap_old (FNew.heap_top rfl))) 0, Go.Joins.cell_of_block (FNew.heap_old (FNew.heap_old (FNew.heap_top rfl))) 1, Go.Joins.cell_of_block (FNew.heap_old (FNew.heap_old (FNew.heap_top rfl))) 2, Go.Joins.cell_of_block (FNew.heap_top (by simp)) 0, Go.Joins.cell_of_block (FNew.heap_top (by simp)) 1, HH.out.keep (Go.Joins.below_alloc3 _ _ _ _) (Nat.le_refl _), by simp; omega⟩
  have kT : w1.heap[NT]? = some (Obj.cells #[.int .i64 0, .int .i64 0, .slice none 0 0] 26) := by rw [hW]; exact FNew.heap_old (FNew.heap_top (by rw [hM, hN]; simp))
  have HNT : Hid (w.heap.size ≤ NT) := by simp only [Hid]; omega
  have HNN : Hid (NT = N + 1 ∧ N = w.heap.size) := ⟨hM, hN⟩
  simp only [← hW, ← hN, ← hM, ← hE]
  clear hW hN hM hE
  go_at_call 46
  refine (implValid (rd5_1_0 st)).mono ?_
  rw [HQ.out]
  rintro e w2 ⟨rfl, bel⟩
  replace st := next5_1 bel st
  replace kT := (bel.block NT (Array.getElem?_eq_some_iff.1 kT).1).trans kT
  clear bel
  go_wp2_with fail
  go_at_call 86
  refine (isWithin HRI.out HCI.out).mono ?_
  rw [HW1.out]
  rintro e w5 ⟨rfl, bel⟩
  replace st := next5_1 bel st
  replace kT := (bel.block NT (Array.getElem?_eq_some_iff.1 kT).1).trans kT
  clear bel
  go_wp2_with fail
  go_at_call 83
  refine (FNew.emptyField HM.out HLE3.out).mono ?_
  rintro e w3 ⟨b', rfl, ow, lo, bel⟩
  have hNTb : NT < b' := Nat.lt_of_lt_of_le (Array.getElem?_eq_some_iff.1 kT).1 lo
  have lob : w.heap.size ≤ b' := Nat.le_trans st.1.size lo
  replace st := next5_1 bel st
  replace kT := (bel.block NT (Array.getElem?_eq_some_iff.1 kT).1).trans kT
  have hb3 : b' < w3.heap.size := ow.lt
  clear bel lo
  obtain ⟨w4, hW⟩ : ∃ w4, w4 = w3.alloc (Obj.cells #[.int .i64 rc, .int .i64 rd, .slice (some ⟨b', 0, none⟩) mt mt] 26) := ⟨_, rfl⟩
  obtain ⟨NO, hO⟩ : ∃ NO, NO = w3.heap.size := ⟨_, rfl⟩
  have bel : Below w3.heap.size w3 w4 := by rw [hW]; exact below1 _ _
  replace st := next5_1 bel st
  have hTO : NT < NO := by rw [hO]; exact (Array.getElem?_eq_some_iff.1 kT).1
  replace kT := (bel.block NT (Array.getElem?_eq_some_iff.1 kT).1).trans kT
  replace ow := ow.keep bel
  have kO : w4.heap[NO]? = some (Obj.cells #[.int .i64 rc, .int .i64 rd, .slice (some ⟨b', 0, none⟩) mt mt] 26) := by rw [hW]; exact FNew.heap_top hO
  have hbO : b' < NO := by rw [hO]; exact hb3
  have hNb : N < b' := by have := HNN.out; omega
  have HSX := hid st
  have HOW := hid ow
  have HKT := hid kT
  have HKO := hid kO
  have HAp := hid (show N < NT ∧ NT < b' ∧ b' < NO ∧ w.heap.size ≤ b' from ⟨by have := HNN.out; omega, hNTb, hbO, lob⟩)
  clear st ow kT kO bel hb3 hNTb hTO hbO hNb lob
  go_wp2
  simp only [← hW, ← hO]
  clear hW hO
  have HCLX : Hid (∀ i, i < n → w4.cell? ⟨b, off + i, none⟩ = some (.int .i64 (zs.getD i 0))) := fun i hi => (HSX.out.1.cell (p := ⟨b, off + i, none⟩) HB0.out).trans (HCell.out i hi)
  go_loopw [14, 33] (fun i0 i wr => ∃ p : Nat, p ≤ rc ∧ i = .int .i64 p ∧ ∃ ys, AtG ys rc rd (upTo (fun i k => zs.getD ((ra + i) * C + (rb + k)) 0) (fun _ _ => 0) p) ∧ Own 2 wr b' (.slice (some ⟨b', 0, none⟩) mt mt) ys ∧ w4.grownBy wr (some b')) (fun _ i _ => rc - (intOf i).toNat)
  case atStart => exact ⟨0, Nat.zero_le _, rfl, List.replicate mt 0, rows_start (by rw [List.length_replicate, HM.out]) (fun i k _ _ => zeros_get), HOW.out, g_refl _ _⟩
  case round =>
    obtain ⟨p, hp, rfl, ys, hat, hown, hg⟩ := hrel
    have c0 := g_cell hg HSX.out.2.1 (Nat.ne_of_lt (Nat.lt_trans HAp.out.1 HAp.out.2.1))
    have c1 := g_cell hg HSX.out.2.2.1 (Nat.ne_of_lt (Nat.lt_trans HAp.out.1 HAp.out.2.1))
    have c2 := g_cell hg HSX.out.2.2.2.1 (Nat.ne_of_lt (Nat.lt_trans HAp.out.1 HAp.out.2.1))
    have d0 := g_cell hg (Go.Joins.cell_of_block HKO.out 0) (Nat.ne_of_gt HAp.out.2.2.1)
    have d1 := g_cell hg (Go.Joins.cell_of_block HKO.out 1) (Nat.ne_of_gt HAp.out.2.2.1)
    have d2 := g_cell hg (Go.Joins.cell_of_block HKO.out 2) (Nat.ne_of_gt HAp.out.2.2.1)
    by_cases hlt : p < rc
    · obtain ⟨P1, hP1⟩ : ∃ P1, P1 = (ra + p) * C := ⟨_, rfl⟩
      obtain ⟨P2, hP2⟩ : ∃ P2, P2 = p * rd := ⟨_, rfl⟩
      obtain ⟨XS, hXS⟩ : ∃ XS, XS = (List.range rd).map (fun k => zs.getD (P1 + (rb + k)) 0) := ⟨_, rfl⟩
      have HXL : Hid (XS.length = rd) := by simp only [Hid]; rw [hXS]; simp
      have HXG : Hid (∀ k, k < rd → XS.getD k 0 = zs.getD (P1 + (rb + k)) 0) := by intro k hk; rw [hXS]; simp [List.getD, hk]
      have HIN : Hid (P1 + C ≤ n) := by simp only [Hid]; rw [hP1, HN.out]; exact Row.row_in (C := C) (show ra + p < R by have := HK.out; omega)
      have HIN2 : Hid (P2 + rd ≤ mt) := by simp only [Hid]; rw [hP2, HM.out]; exact Row.row_in (C := rd) hlt
      have HYL : Hid (ys.length = mt) := by simp only [Hid]; rw [hat.1, HM.out]
      have e0 : IntKind.i64.wrap ((ra : Int) + (p : Int)) = ((ra + p : Nat) : Int) := by have := HK.out; have := HR.out; rw [IntKind.wrap_i64]; omega
      have s1 : rb ≤ C := by have := HK.out; omega
      have s2 : ¬ C = rb := by have := HK.out; omega
      have HBW := g_below HSX.out.1 hg HAp.out.2.2.2
      have hx1 : N ≠ b' := Nat.ne_of_lt (Nat.lt_trans HAp.out.1 HAp.out.2.1)
      have hx2 : NO ≠ b' := Nat.ne_of_gt HAp.out.2.2.1
      have HAT := hid hat
      have HO1 := hid hown
      have HG1 := hid hg
      have HP1 := hid hP1
      have HP2 := hid hP2
      have hpi : (p : Int) < (rc : Int) := by omega
      clear hXS hat hown hg hP1 hP2
      go_wp2_with fail
      refine wp_region_held_drew (S := (fun ww => Below w.heap.size w ww ∧ ww.cell? ⟨N, 0, none⟩ = some (.int .i64 R) ∧ ww.cell? ⟨N, 1, none⟩ = some (.int .i64 C) ∧ ww.cell? ⟨N, 2, none⟩ = some (.slice (some ⟨b, off, none⟩) n cap) ∧ ww.cell? ⟨NO, 0, none⟩ = some (.int .i64 rc) ∧ ww.cell? ⟨NO, 1, none⟩ = some (.int .i64 rd) ∧ ww.cell? ⟨NO, 2, none⟩ = some (.slice (some ⟨b', 0, none⟩) mt mt) ∧ w.heap.size ≤ ww.heap.size)) (by kernel_rfl) ?_ (fun hHeld => ?_)
      · ((try dsimp only); exact ⟨HBW.drew, c0, c1, c2, d0, d1, d2, Nat.le_trans HSX.out.2.2.2.2.2.2.2 HG1.out.size⟩)
      have ow : Own 2 wr.drew b' (.slice (some ⟨b', 0, none⟩) mt mt) ys := HO1.out
      have g : w4.grownBy wr.drew (some b') := g_drew HG1.out
      clear c0 c1 c2 d0 d1 d2 HBW
      (refine wpAnyH_take (i := 0) (v := ?_) rfl ?_ ?_ ?_ (fun _ _ _ h => h) (Or.inl ⟨?_, ?_⟩) ?_ ?_; rotate_left 1; (focus decide +kernel); (focus decide +kernel); (focus decide +kernel); (focus rfl); (focus (intro w hSw; (try dsimp only at hSw); go_simp; (try (with_reducible rfl)); done)); (focus assumption); (try simp only [Act.put, List.setIfInBounds_toArray, List.set_cons_zero, List.set_cons_succ, List.getElem_toArray, List.getElem_cons_succ, List.getElem_cons_zero]))
      (refine wpAnyH_take (i := 1) (v := ?_) rfl ?_ ?_ ?_ (fun _ _ _ h => h) (Or.inl ⟨?_, ?_⟩) ?_ ?_; rotate_left 1; (focus decide +kernel); (focus decide +kernel); (focus decide +kernel); (focus rfl); (focus (intro w hSw; (try dsimp only at hSw); go_simp; (try (with_reducible rfl)); done)); (focus assumption); (try simp only [Act.put, List.setIfInBounds_toArray, List.set_cons_zero, List.set_cons_succ, List.getElem_toArray, List.getElem_cons_succ, List.getElem_cons_zero]))
      (refine wpAnyH_take (i := 3) (v := ?_) rfl ?_ ?_ ?_ (fun _ _ _ h => h) (Or.inl ⟨?_, ?_⟩) ?_ ?_; rotate_left 1; (focus decide +kernel); (focus decide +kernel); (focus decide +kernel); (focus rfl); (focus (intro w hSw; (try dsimp only at hSw); go_simp; (try (with_reducible rfl)); done)); (focus assumption); (try simp only [Act.put, List.setIfInBounds_toArray, List.set_cons_zero, List.set_cons_succ, List.getElem_toArray, List.getElem_cons_succ, List.getElem_cons_zero]))
      (refine wpAnyH_take (i := 4) (v := ?_) rfl ?_ ?_ ?_ (fun _ _ _ h => h) (Or.inl ⟨?_, ?_⟩) ?_ ?_; rotate_left 1; (focus decide +kernel); (focus decide +kernel); (focus decide +kernel); (focus rfl); (focus (intro w hSw; (try dsimp only at hSw); go_simp; (try (with_reducible rfl)); done)); (focus assumption); (try simp only [Act.put, List.setIfInBounds_toArray, List.set_cons_zero, List.set_cons_succ, List.getElem_toArray, List.getElem_cons_succ, List.getElem_cons_zero]))
      (refine wpAnyH_take (i := 5) (v := ?_) rfl ?_ ?_ ?_ (fun _ _ _ h => h) (Or.inl ⟨?_, ?_⟩) ?_ ?_; rotate_left 1; (focus decide +kernel); (focus decide +kernel); (focus decide +kernel); (focus rfl); (focus (intro w hSw; (try dsimp only at hSw); go_simp; (try (with_reducible rfl)); done)); (focus assumption); (try simp only [Act.put, List.setIfInBounds_toArray, List.set_cons_zero, List.set_cons_succ, List.getElem_toArray, List.getElem_cons_succ, List.getElem_cons_zero]))
      (refine wpAnyH_take (i := 6) (v := ?_) rfl ?_ ?_ ?_ (fun _ _ _ h => h) (Or.inl ⟨?_, ?_⟩) ?_ ?_; rotate_left 1; (focus decide +kernel); (focus decide +kernel); (focus decide +kernel); (focus rfl); (focus (intro w hSw; (try dsimp only at hSw); go_simp; (try (with_reducible rfl)); done)); (focus assumption); (try simp only [Act.put, List.setIfInBounds_toArray, List.set_cons_zero, List.set_cons_succ, List.getElem_toArray, List.getElem_cons_succ, List.getElem_cons_zero]))
      (refine wpAnyH_take (i := 8) (v := ?_) rfl ?_ ?_ ?_ (fun _ _ _ h => h) (Or.inl ⟨?_, ?_⟩) ?_ ?_; rotate_left 1; (focus decide +kernel); (focus decide +kernel); (focus decide +kernel); (focus rfl); (focus (intro w hSw; (try dsimp only at hSw); go_simp; (try (with_reducible rfl)); done)); (focus assumption); (try simp only [Act.put, List.setIfInBounds_toArray, List.set_cons_zero, List.set_cons_succ, List.getElem_toArray, List.getElem_cons_succ, List.getElem_cons_zero]))
      refine wpAnyH_ready (rs := [2]) ?_ (by simp) ?_
      · decide +kernel
      refine AllReadyH.cons rfl (fun K hK => ?_) AllReadyH.nil
      go_simp
      go_at_call 62
      refine (rowOf0 HP2.out HM.out HLE3.out hlt (by omega) HD.out (Nat.le_refl _) (by have := HLE3.out; unfold maxLen; omega)).mono ?_
      rintro e wa ⟨rfl, bel⟩
      replace ow := ow.keep bel
      replace g := g_bel g bel
      refine hK.out _ _ ?_ (fun hHeld2 => ?_)
      · (try dsimp only); exact next6_0 bel hHeld
      clear hK K hHeld bel
      have hHeld := hHeld2
      clear hHeld2
      (try simp only [Act.put, List.setIfInBounds_toArray, List.set_cons_zero, List.set_cons_succ, List.getElem_toArray, List.getElem_cons_succ, List.getElem_cons_zero])
      refine wpAnyH_ready (rs := [7]) ?_ (by simp) ?_
      · decide +kernel
      refine AllReadyH.cons rfl (fun K hK => ?_) AllReadyH.nil
      go_simp
      go_at_call 62
      refine (rowOfP (row := ra + p) HP1.out HN.out HLE.out (by have := HK.out; omega) HR.out.2 HC.out HCap.out.1 HCap.out.2).mono ?_
      rintro e wb ⟨rfl, bel⟩
      replace ow := ow.keep bel
      replace g := g_bel g bel
      refine hK.out _ _ ?_ (fun hHeld2 => ?_)
      · (try dsimp only); exact next6_0 bel hHeld
      clear hK K hHeld bel
      have hHeld := hHeld2
      clear hHeld2
      (try simp only [Act.put, List.setIfInBounds_toArray, List.set_cons_zero, List.set_cons_succ, List.getElem_toArray, List.getElem_cons_succ, List.getElem_cons_zero])
      (refine wpAnyH_take (i := 9) (v := ?_) rfl ?_ ?_ ?_ (fun _ _ _ h => h) (Or.inl ⟨?_, ?_⟩) ?_ ?_; rotate_left 1; (focus decide +kernel); (focus decide +kernel); (focus decide +kernel); (focus rfl); (focus (intro w hSw; (try dsimp only at hSw); go_simp; (try (with_reducible rfl)); done)); (focus assumption); (try simp only [Act.put, List.setIfInBounds_toArray, List.set_cons_zero, List.set_cons_succ, List.getElem_toArray, List.getElem_cons_succ, List.getElem_cons_zero]))
      refine wpAnyH_ready (rs := [10]) ?_ (by simp) ?_
      · decide +kernel
      refine AllReadyH.cons rfl (fun K hK => ?_) AllReadyH.nil
      refine step_copy (xs := XS) rfl _ _ rfl ow HYL.out P2 rd rd b (off + P1 + rb) (C - rb) (C - rb) rfl rfl ?c1 ?c2 ?c3 ?_
      case c1 => rw [HXL.out]; have := HK.out; show rd = min (C - rb) rd; omega
      case c2 => intro i hi; rw [HXL.out] at hi; rw [HXG.out i hi, show off + P1 + rb + i = off + (P1 + (rb + i)) by omega]; exact g_cell g (HCLX.out (P1 + (rb + i)) (by have := HIN.out; have := HK.out; omega)) (Nat.ne_of_lt (Nat.lt_of_lt_of_le HB0.out HAp.out.2.2.2))
      case c3 => rw [HXL.out]; have := HIN2.out; omega
      intro w9 ow9 g9
      have hgg := gTrans g g9
      refine hK.out _ _ ?_ (fun hHeld5 => ?_)
      · (try dsimp only); obtain ⟨h0, h1, h2, h3, h4, h5, h6, h7⟩ := hHeld; exact ⟨g_below h0 g9 HAp.out.2.2.2, g_cell g9 h1 hx1, g_cell g9 h2 hx1, g_cell g9 h3 hx1, g_cell g9 h4 hx2, g_cell g9 h5 hx2, g_cell g9 h6 hx2, Nat.le_trans h7 g9.size⟩
      clear hK K hHeld5 hHeld g9 g ow
      (try simp only [Act.put, List.setIfInBounds_toArray, List.set_cons_zero, List.set_cons_succ, List.getElem_toArray, List.getElem_cons_succ, List.getElem_cons_zero])
      refine wpAnyH_done (by kernel_rfl) ?_ _
      have HO3 := hid ow9
      have HG3 := hid hgg
      clear ow9 hgg
      go_wp2
      go_roundw
      case rel =>
        refine ⟨p + 1, by omega, by go_num, _, row_step (p := p) hlt HAT.out HXL.out (fun k hk => ?_), ?_, HG3.out⟩
        · rw [HXG.out k hk, HP1.out]
        · rw [← HP2.out]; exact HO3.out
      case measure => simp [intOf]; omega
    · have hpC : rc = p := by omega
      subst hpC
      rw [rows_end hat] at hown
      have hg2 := hg
      have kTr := g_heap hg HKT.out (Nat.ne_of_lt HAp.out.2.1)
      have HB := hid (g_below HSX.out.1 hg HAp.out.2.2.2)
      have HLo : Hid (w.heap.size ≤ b') := HAp.out.2.2.2
      have HNB : Hid (NT ≠ b') := Nat.ne_of_lt HAp.out.2.1
      have HO := hid hown
      clear hown hg hg2
      have y0 : wr.cell? ⟨NT, 0, none⟩ = some (.int .i64 0) := Go.Joins.cell_of_block kTr 0
      have y1 : wr.cell? ⟨NT, 1, none⟩ = some (.int .i64 0) := Go.Joins.cell_of_block kTr 1
      have y2 : wr.cell? ⟨NT, 2, none⟩ = some (.slice none 0 0) := Go.Joins.cell_of_block kTr 2
      have g0 : wr.frozen? ⟨NT, 0, none⟩ = false := Go.Joins.unfrozen_of_block kTr 0
      have g1 : wr.frozen? ⟨NT, 1, none⟩ = false := Go.Joins.unfrozen_of_block kTr 1
      have g2 : wr.frozen? ⟨NT, 2, none⟩ = false := Go.Joins.unfrozen_of_block kTr 2
      have HKx := hid kTr
      clear kTr
      go_wp2
      obtain ⟨W5, hW⟩ : ∃ W5, W5 = (((wr.setCell ⟨NT, 0, none⟩ (.int .i64 rc)).setCell ⟨NT, 1, none⟩ (.int .i64 rd)).setCell ⟨NT, 2, none⟩ (.slice (some ⟨b', 0, none⟩) mt mt)) := ⟨_, rfl⟩
      have q0 := (Go.Joins.block_setCell (i := 2) (Go.Joins.block_setCell (i := 1) (Go.Joins.block_setCell (i := 0) HKx.out (.int .i64 rc)) (.int .i64 rd)) (.slice (some ⟨b', 0, none⟩) mt mt))
      rw [← hW] at q0
      have z0 : W5.cell? ⟨NT, 0, none⟩ = some (.int .i64 rc) := Go.Joins.cell_of_block q0 0
      have z1 : W5.cell? ⟨NT, 1, none⟩ = some (.int .i64 rd) := Go.Joins.cell_of_block q0 1
      have z2 : W5.cell? ⟨NT, 2, none⟩ = some (.slice (some ⟨b', 0, none⟩) mt mt) := Go.Joins.cell_of_block q0 2
      have O5 := (own_set (own_set (own_set HO.out ⟨NT, 0, none⟩ (.int .i64 rc) HNB.out) ⟨NT, 1, none⟩ (.int .i64 rd) HNB.out) ⟨NT, 2, none⟩ (.slice (some ⟨b', 0, none⟩) mt mt) HNB.out)
      rw [← hW] at O5
      have B5 : Below w.heap.size w W5 := by
        have h1 := HNT.out
        rw [hW]
        exact ((HB.out.setCell (by simp; omega) _).setCell (by simp; omega) _).setCell (by simp; omega) _
      simp only [← hW]
      clear hW q0
      simp [bodyPost, results, Try.results91, go_sem, z0, z1, z2]
      exact ⟨O5, HLo.out, B5⟩

end Go.Proofs.Ytmbimekndhcgaaa.FCut
