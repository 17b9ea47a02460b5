/- l02Give. -/
import Derived.Test.YtiijabiijkdhcaaTell
import Derived.Test.YtiijabiijkdhcaaSpec
import Derived.Test.YtiijabiijkdhcaaWeigh
import Derived.Test.YtiijabiijkdhcaaAl
namespace Go.Proofs.Ytiijabiijkdhcaa.Give
open Go.RowKit Go.Proofs.Ytiijabiijkdhcaa.Rd Go.Proofs.Ytiijabiijkdhcaa.Help Go.Proofs.Ytiijabiijkdhcaa.Ring Go.Proofs.Ytiijabiijkdhcaa.Small Go.Proofs.Ytiijabiijkdhcaa.Num Go.Proofs.Ytiijabiijkdhcaa.Keep Go.Proofs.Ytiijabiijkdhcaa.Rule Go.Proofs.Ytiijabiijkdhcaa.Dig Go.Proofs.Ytiijabiijkdhcaa.DigP Go.Proofs.Ytiijabiijkdhcaa.Tell
set_option linter.unusedVariables false
set_option linter.unusedSimpArgs false


set_option maxHeartbeats 4000000 in
theorem giveNo {w : World} {s r : Int} {bt : Nat} {vt : Value} {tbl : List Int} (h : Rd w bt vt tbl) (hv : validB s r tbl = false) :
    Calls Try.prog 65 #[ruleV s r vt] w fun e w' => e = .returned (.tuple #[ruleV 0 0 (.slice none 0 0), .bool false]) ∧ Below w.heap.size w w' := by
  have HRd := hid h
  have HV := hid hv
  clear hv
  obtain ⟨ao, cap, rfl, _, _, _⟩ := h
  go_enter Try.func65, Try.ntmps65
  go_wp2_with fail
  obtain ⟨w1, hW⟩ : ∃ w1, w1 = (w.alloc (Obj.cells #[.int .i64 s, .int .i64 r, (Value.slice ao tbl.length cap)] 24)).alloc (Obj.cells #[Value.int IntKind.i64 0, Value.int IntKind.i64 0, Value.slice none 0 0] 24) := ⟨_, rfl⟩
  obtain ⟨NR, hN⟩ : ∃ NR, NR = w.heap.size := ⟨_, rfl⟩
  obtain ⟨NT, hN1⟩ : ∃ NT, NT = NR + 1 := ⟨_, rfl⟩
  have b1 : Below w.heap.size w w1 := by rw [hW]; exact Go.Joins.below_alloc2 _ _ _
  have st : Below w1.heap.size w1 w1 ∧ w1.cell? ⟨NR, 0, none⟩ = some (.int .i64 s) ∧ w1.cell? ⟨NR, 1, none⟩ = some (.int .i64 r) ∧ w1.cell? ⟨NR, 2, none⟩ = some (Value.slice ao tbl.length cap) ∧ Rd w1 bt (Value.slice ao tbl.length cap) tbl ∧ w1.heap.size ≤ w1.heap.size := by
    refine ⟨Below.refl _ _, ?_, ?_, ?_, HRd.out.keep b1 (Nat.le_refl _), Nat.le_refl _⟩
    · rw [hW]; exact cell_old (cell_top hN rfl)
    · rw [hW]; exact cell_old (cell_top hN rfl)
    · rw [hW]; exact cell_old (cell_top hN rfl)
  have kb : w1.heap[NT]? = some (Obj.cells #[.int .i64 0, .int .i64 0, .slice none 0 0] 24) := by rw [hW]; exact heap_top (by simp; omega)
  have HNT : Hid (w.heap.size ≤ NT) := by simp only [Hid]; omega
  have HRT : Hid (NR < NT) := by simp only [Hid]; omega
  have HNR : Hid (w.heap.size ≤ NR) := by simp only [Hid]; omega
  have HB1 := hid b1
  have HKB := hid kb
  simp only [← hW, ← hN, ← hN1]
  clear hW hN hN1 b1 kb
  go_at_call 74
  refine (Spec.is (rd3_1_0 st) st.2.1 st.2.2.1 st.2.2.2.1).mono ?_
  rw [HV.out]
  rintro e w2 ⟨rfl, mm, hw2⟩
  have bel : Below w1.heap.size w1 w2 := by rw [hw2]; exact Spec.below_drewN' _ _ _
  replace st := next3_1 bel st
  clear bel hw2
  have kb2 := (st.1.block _ (Array.getElem?_eq_some_iff.1 HKB.out).1).trans HKB.out
  have HB := hid (HB1.out.trans (st.1.mono HB1.out.size))
  have y0 : w2.cell? ⟨NT, 0, none⟩ = some (.int .i64 0) := Go.Joins.cell_of_block kb2 0
  have y1 : w2.cell? ⟨NT, 1, none⟩ = some (.int .i64 0) := Go.Joins.cell_of_block kb2 1
  have y2 : w2.cell? ⟨NT, 2, none⟩ = some (.slice none 0 0) := Go.Joins.cell_of_block kb2 2
  have g0 : w2.frozen? ⟨NT, 0, none⟩ = false := Go.Joins.unfrozen_of_block kb2 0
  have g1 : w2.frozen? ⟨NT, 1, none⟩ = false := Go.Joins.unfrozen_of_block kb2 1
  have g2 : w2.frozen? ⟨NT, 2, none⟩ = false := Go.Joins.unfrozen_of_block kb2 2
  have HKx := hid kb2
  clear kb2
  go_wp2
  obtain ⟨W5, hW⟩ : ∃ W5, W5 = (((w2.setCell ⟨NT, 0, none⟩ (.int .i64 0)).setCell ⟨NT, 1, none⟩ (.int .i64 0)).setCell ⟨NT, 2, none⟩ (.slice none 0 0)) := ⟨_, rfl⟩
  have q0 := (Go.Joins.block_setCell (i := 2) (Go.Joins.block_setCell (i := 1) (Go.Joins.block_setCell (i := 0) HKx.out (.int .i64 0)) (.int .i64 0)) (.slice none 0 0))
  rw [← hW] at q0
  have z0 : W5.cell? ⟨NT, 0, none⟩ = some (.int .i64 0) := Go.Joins.cell_of_block q0 0
  have z1 : W5.cell? ⟨NT, 1, none⟩ = some (.int .i64 0) := Go.Joins.cell_of_block q0 1
  have z2 : W5.cell? ⟨NT, 2, none⟩ = some (.slice none 0 0) := Go.Joins.cell_of_block q0 2
  have B5 : Below w.heap.size w W5 := by
    have h1 := HNT.out
    rw [hW]
    exact ((HB.out.setCell (by simp; omega) _).setCell (by simp; omega) _).setCell (by simp; omega) _
  simp only [← hW]
  clear hW q0
  simp [bodyPost, results, Try.results65, go_sem, z0, z1, z2]
  exact B5

set_option maxHeartbeats 4000000 in
theorem giveOk {w : World} {s r : Int} {bt : Nat} {vt : Value} {tbl : List Int} (h0 : Own 2 w bt vt tbl) (hbt : bt < w.heap.size) (hv : validB s r tbl = true) :
    Calls Try.prog 65 #[ruleV s r vt] w fun e w' => e = .returned (.tuple #[ruleV s r vt, .bool true]) ∧ Own 2 w' bt vt tbl ∧ Below w.heap.size w w' := by
  have HOw := hid h0
  have h := h0.rd
  have HRd := hid h
  have HV := hid hv
  have HBt := hid hbt
  clear hv hbt h0
  obtain ⟨ao, cap, rfl, _, _, _⟩ := h
  go_enter Try.func65, Try.ntmps65
  go_wp2_with fail
  obtain ⟨w1, hW⟩ : ∃ w1, w1 = (w.alloc (Obj.cells #[.int .i64 s, .int .i64 r, (Value.slice ao tbl.length cap)] 24)).alloc (Obj.cells #[Value.int IntKind.i64 0, Value.int IntKind.i64 0, Value.slice none 0 0] 24) := ⟨_, rfl⟩
  obtain ⟨NR, hN⟩ : ∃ NR, NR = w.heap.size := ⟨_, rfl⟩
  obtain ⟨NT, hN1⟩ : ∃ NT, NT = NR + 1 := ⟨_, rfl⟩
  have b1 : Below w.heap.size w w1 := by rw [hW]; exact Go.Joins.below_alloc2 _ _ _
  have st : Below w1.heap.size w1 w1 ∧ w1.cell? ⟨NR, 0, none⟩ = some (.int .i64 s) ∧ w1.cell? ⟨NR, 1, none⟩ = some (.int .i64 r) ∧ w1.cell? ⟨NR, 2, none⟩ = some (Value.slice ao tbl.length cap) ∧ Rd w1 bt (Value.slice ao tbl.length cap) tbl ∧ w1.heap.size ≤ w1.heap.size := by
    refine ⟨Below.refl _ _, ?_, ?_, ?_, HRd.out.keep b1 (Nat.le_refl _), Nat.le_refl _⟩
    · rw [hW]; exact cell_old (cell_top hN rfl)
    · rw [hW]; exact cell_old (cell_top hN rfl)
    · rw [hW]; exact cell_old (cell_top hN rfl)
  have kb : w1.heap[NT]? = some (Obj.cells #[.int .i64 0, .int .i64 0, .slice none 0 0] 24) := by rw [hW]; exact heap_top (by simp; omega)
  have HNT : Hid (w.heap.size ≤ NT) := by simp only [Hid]; omega
  have HRT : Hid (NR < NT) := by simp only [Hid]; omega
  have HNR : Hid (w.heap.size ≤ NR) := by simp only [Hid]; omega
  have HB1 := hid b1
  have HKB := hid kb
  simp only [← hW, ← hN, ← hN1]
  clear hW hN hN1 b1 kb
  go_at_call 74
  refine (Spec.is (rd3_1_0 st) st.2.1 st.2.2.1 st.2.2.2.1).mono ?_
  rw [HV.out]
  rintro e w2 ⟨rfl, mm, hw2⟩
  have bel : Below w1.heap.size w1 w2 := by rw [hw2]; exact Spec.below_drewN' _ _ _
  replace st := next3_1 bel st
  clear bel hw2

  obtain ⟨bel1, c0, c1, c2, _, _⟩ := st
  have kb2 := (bel1.block _ (Array.getElem?_eq_some_iff.1 HKB.out).1).trans HKB.out
  have HB := hid (HB1.out.trans (bel1.mono HB1.out.size))
  have HO := hid (HOw.out.keep HB.out)
  have HNB : Hid (NT ≠ bt) := by have h1 := HBt.out; have h2 := HNT.out; simp only [Hid]; omega
  clear bel1
  have y0 : w2.cell? ⟨NT, 0, none⟩ = some (.int .i64 0) := Go.Joins.cell_of_block kb2 0
  have y1 : w2.cell? ⟨NT, 1, none⟩ = some (.int .i64 0) := Go.Joins.cell_of_block kb2 1
  have y2 : w2.cell? ⟨NT, 2, none⟩ = some (.slice none 0 0) := Go.Joins.cell_of_block kb2 2
  have g0 : w2.frozen? ⟨NT, 0, none⟩ = false := Go.Joins.unfrozen_of_block kb2 0
  have g1 : w2.frozen? ⟨NT, 1, none⟩ = false := Go.Joins.unfrozen_of_block kb2 1
  have g2 : w2.frozen? ⟨NT, 2, none⟩ = false := Go.Joins.unfrozen_of_block kb2 2
  have HKx := hid kb2
  clear kb2
  go_wp2
  obtain ⟨W5, hW⟩ : ∃ W5, W5 = (((w2.setCell ⟨NT, 0, none⟩ (.int .i64 s)).setCell ⟨NT, 1, none⟩ (.int .i64 r)).setCell ⟨NT, 2, none⟩ (.slice ao tbl.length cap)) := ⟨_, rfl⟩
  have q0 := (Go.Joins.block_setCell (i := 2) (Go.Joins.block_setCell (i := 1) (Go.Joins.block_setCell (i := 0) HKx.out (.int .i64 s)) (.int .i64 r)) (.slice ao tbl.length cap))
  rw [← hW] at q0
  have z0 : W5.cell? ⟨NT, 0, none⟩ = some (.int .i64 s) := Go.Joins.cell_of_block q0 0
  have z1 : W5.cell? ⟨NT, 1, none⟩ = some (.int .i64 r) := Go.Joins.cell_of_block q0 1
  have z2 : W5.cell? ⟨NT, 2, none⟩ = some (.slice ao tbl.length cap) := Go.Joins.cell_of_block q0 2
  have O5 := (own_set (own_set (own_set HO.out ⟨NT, 0, none⟩ (.int .i64 s) HNB.out) ⟨NT, 1, none⟩ (.int .i64 r) HNB.out) ⟨NT, 2, none⟩ (.slice ao tbl.length cap) HNB.out)
  rw [← hW] at O5
  have B5 : Below w.heap.size w W5 := by
    have h1 := HNT.out
    rw [hW]
    exact ((HB.out.setCell (by simp; omega) _).setCell (by simp; omega) _).setCell (by simp; omega) _
  simp only [← hW]
  clear hW q0
  simp [bodyPost, results, Try.results65, go_sem, z0, z1, z2]
  exact ⟨O5, B5⟩

end Go.Proofs.Ytiijabiijkdhcaa.Give
