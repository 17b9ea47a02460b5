/- CollideGas of both sides. -/
import Derived.Test.YtnpjhhkhdeomcaaCldB
namespace Go.Proofs.Ytnpjhhkhdeomcaa.Cld
open Go.RowKit Go.Proofs.Ytnpjhhkhdeomcaa.Rd Go.Proofs.Ytnpjhhkhdeomcaa.Rdb Go.Proofs.Ytnpjhhkhdeomcaa.Help Go.Proofs.Ytnpjhhkhdeomcaa.Ring Go.Proofs.Ytnpjhhkhdeomcaa.Small Go.Proofs.Ytnpjhhkhdeomcaa.FVal Go.Proofs.Ytnpjhhkhdeomcaa.Keep Go.Proofs.Ytnpjhhkhdeomcaa.Rule Go.Proofs.Ytnpjhhkhdeomcaa.GVal Go.Proofs.Ytnpjhhkhdeomcaa.GOwn Go.Proofs.Ytnpjhhkhdeomcaa.Trn Go.Proofs.Ytnpjhhkhdeomcaa.Rev
set_option linter.unusedVariables false
set_option linter.unusedSimpArgs false
set_option maxHeartbeats 4000000 in
theorem specNo {w : World} {g s r : Int} {b1 b2 : Nat} {v1 v2 : Value} {xs : List Int} {ys : List Bool} {left : Bool} (h1 : Rd w b1 v1 xs) (h2 : RdB w b2 v2 ys) (hq : gasB g s r xs ys = false) :
    Calls Try.prog 27 #[gasV g s r v1 v2, .bool left] w fun e w' => e = .returned (.tuple #[gasV 0 0 0 (.slice none 0 0) (.slice none 0 0), .bool false]) ∧ Below w.heap.size w w' := by
  have H1 := hid h1
  have H2 := hid h2
  have HQ := hid hq
  obtain ⟨ao1, cap1, rfl, _, _, _⟩ := h1
  obtain ⟨ao2, cap2, rfl, _, _, _⟩ := h2
  clear hq
  go_enter Try.func27, Try.ntmps27
  go_wp2_with fail
  obtain ⟨w1, hW⟩ : ∃ w1, w1 = (w.alloc (Obj.cells #[.int .i64 g, .int .i64 s, .int .i64 r, (Value.slice ao1 xs.length cap1), (Value.slice ao2 ys.length cap2)] 31)).alloc (Obj.cells #[.int .i64 0, .int .i64 0, .int .i64 0, .slice none 0 0, .slice none 0 0] 31) := ⟨_, rfl⟩
  obtain ⟨N, hN⟩ : ∃ N, N = w.heap.size := ⟨_, rfl⟩
  obtain ⟨NT, hM⟩ : ∃ NT, NT = N + 1 := ⟨_, rfl⟩
  have st : Below w.heap.size w w1 ∧ w1.cell? ⟨N, 0, none⟩ = some (.int .i64 g) ∧ w1.cell? ⟨N, 1, none⟩ = some (.int .i64 s) ∧ w1.cell? ⟨N, 2, none⟩ = some (.int .i64 r) ∧ w1.cell? ⟨N, 3, none⟩ = some ((Value.slice ao1 xs.length cap1)) ∧ w1.cell? ⟨N, 4, none⟩ = some ((Value.slice ao2 ys.length cap2)) ∧ Rd w1 b1 (Value.slice ao1 xs.length cap1) xs ∧ RdB w1 b2 (Value.slice ao2 ys.length cap2) ys ∧ w.heap.size ≤ w1.heap.size := by
    rw [hW, hN]
    exact ⟨Go.Joins.below_alloc2 _ _ _, by simp, by simp, by simp, by simp, by simp, H1.out.keep (Go.Joins.below_alloc2 _ _ _) (Nat.le_refl _), H2.out.keep (Go.Joins.below_alloc2 _ _ _) (Nat.le_refl _), by simp; omega⟩
  have kT : w1.heap[NT]? = some (Obj.cells #[.int .i64 0, .int .i64 0, .int .i64 0, .slice none 0 0, .slice none 0 0] 31) := by rw [hW]; exact FNew.heap_top (by rw [hM, hN]; simp)
  have HNT : Hid (w.heap.size ≤ NT) := by simp only [Hid]; omega
  have HNN : Hid (NT = N + 1 ∧ N = w.heap.size) := ⟨hM, hN⟩
  simp only [← hW, ← hN, ← hM]
  clear hW hN hM
  go_at_call 39
  refine (GVal.l06Is st.2.1 st.2.2.1 st.2.2.2.1 st.2.2.2.2.1 st.2.2.2.2.2.1 (rdx5_IB_0 st) (rdx5_IB_1 st)).mono ?_
  rw [HQ.out]
  rintro e w2 ⟨rfl, hm⟩
  have bel : Below w1.heap.size w1 w2 := by obtain ⟨m, hm⟩ := hm; rw [hm]; exact Help.below_drewN _ _ _
  clear hm
  replace st := nx5_IB bel st
  replace kT := (bel.block NT (Array.getElem?_eq_some_iff.1 kT).1).trans kT
  clear bel
  have HB := hid st.1
  have y0 : w2.cell? ⟨NT, 0, none⟩ = some (.int .i64 0) := Go.Joins.cell_of_block kT 0
  have y1 : w2.cell? ⟨NT, 1, none⟩ = some (.int .i64 0) := Go.Joins.cell_of_block kT 1
  have y2 : w2.cell? ⟨NT, 2, none⟩ = some (.int .i64 0) := Go.Joins.cell_of_block kT 2
  have y3 : w2.cell? ⟨NT, 3, none⟩ = some (.slice none 0 0) := Go.Joins.cell_of_block kT 3
  have y4 : w2.cell? ⟨NT, 4, none⟩ = some (.slice none 0 0) := Go.Joins.cell_of_block kT 4
  have g0 : w2.frozen? ⟨NT, 0, none⟩ = false := Go.Joins.unfrozen_of_block kT 0
  have g1 : w2.frozen? ⟨NT, 1, none⟩ = false := Go.Joins.unfrozen_of_block kT 1
  have g2 : w2.frozen? ⟨NT, 2, none⟩ = false := Go.Joins.unfrozen_of_block kT 2
  have g3 : w2.frozen? ⟨NT, 3, none⟩ = false := Go.Joins.unfrozen_of_block kT 3
  have g4 : w2.frozen? ⟨NT, 4, none⟩ = false := Go.Joins.unfrozen_of_block kT 4
  have HKx := hid kT
  clear kT
  go_wp2
  have q0 := (Go.Joins.block_setCell (i := 4) (Go.Joins.block_setCell (i := 3) (Go.Joins.block_setCell (i := 2) (Go.Joins.block_setCell (i := 1) (Go.Joins.block_setCell (i := 0) HKx.out (.int .i64 0)) (.int .i64 0)) (.int .i64 0)) (.slice none 0 0)) (.slice none 0 0))
  have B5 := (((((HB.out.setCell (p := ⟨NT, 0, none⟩) HNT.out (.int .i64 0)).setCell (p := ⟨NT, 1, none⟩) HNT.out (.int .i64 0)).setCell (p := ⟨NT, 2, none⟩) HNT.out (.int .i64 0)).setCell (p := ⟨NT, 3, none⟩) HNT.out (.slice none 0 0)).setCell (p := ⟨NT, 4, none⟩) HNT.out (.slice none 0 0))
  obtain ⟨W5, hW⟩ : ∃ W5, W5 = (((((w2.setCell ⟨NT, 0, none⟩ (.int .i64 0)).setCell ⟨NT, 1, none⟩ (.int .i64 0)).setCell ⟨NT, 2, none⟩ (.int .i64 0)).setCell ⟨NT, 3, none⟩ (.slice none 0 0)).setCell ⟨NT, 4, none⟩ (.slice none 0 0)) := ⟨_, rfl⟩
  rw [← hW] at q0 B5
  have z0 : W5.cell? ⟨NT, 0, none⟩ = some (.int .i64 0) := Go.Joins.cell_of_block q0 0
  have z1 : W5.cell? ⟨NT, 1, none⟩ = some (.int .i64 0) := Go.Joins.cell_of_block q0 1
  have z2 : W5.cell? ⟨NT, 2, none⟩ = some (.int .i64 0) := Go.Joins.cell_of_block q0 2
  have z3 : W5.cell? ⟨NT, 3, none⟩ = some (.slice none 0 0) := Go.Joins.cell_of_block q0 3
  have z4 : W5.cell? ⟨NT, 4, none⟩ = some (.slice none 0 0) := Go.Joins.cell_of_block q0 4
  simp only [← hW]
  clear hW q0
  simp [bodyPost, results, Try.results27, go_sem, z0, z1, z2, z3, z4]
  exact B5

set_option maxHeartbeats 4000000 in
theorem implNo {w : World} {g s r : Int} {b1 b2 : Nat} {v1 v2 : Value} {xs : List Int} {ys : List Bool} {left : Bool} (h1 : Rd w b1 v1 xs) (h2 : RdB w b2 v2 ys) (hq : gasB g s r xs ys = false) :
    Calls Try.prog 28 #[gasV g s r v1 v2, .bool left] w fun e w' => e = .returned (.tuple #[gasV 0 0 0 (.slice none 0 0) (.slice none 0 0), .bool false]) ∧ Below w.heap.size w w' := by
  have H1 := hid h1
  have H2 := hid h2
  have HQ := hid hq
  obtain ⟨ao1, cap1, rfl, _, _, _⟩ := h1
  obtain ⟨ao2, cap2, rfl, _, _, _⟩ := h2
  clear hq
  go_enter Try.func28, Try.ntmps28
  go_wp2_with fail
  obtain ⟨w1, hW⟩ : ∃ w1, w1 = (w.alloc (Obj.cells #[.int .i64 g, .int .i64 s, .int .i64 r, (Value.slice ao1 xs.length cap1), (Value.slice ao2 ys.length cap2)] 31)).alloc (Obj.cells #[.int .i64 0, .int .i64 0, .int .i64 0, .slice none 0 0, .slice none 0 0] 31) := ⟨_, rfl⟩
  obtain ⟨N, hN⟩ : ∃ N, N = w.heap.size := ⟨_, rfl⟩
  obtain ⟨NT, hM⟩ : ∃ NT, NT = N + 1 := ⟨_, rfl⟩
  have st : Below w.heap.size w w1 ∧ w1.cell? ⟨N, 0, none⟩ = some (.int .i64 g) ∧ w1.cell? ⟨N, 1, none⟩ = some (.int .i64 s) ∧ w1.cell? ⟨N, 2, none⟩ = some (.int .i64 r) ∧ w1.cell? ⟨N, 3, none⟩ = some ((Value.slice ao1 xs.length cap1)) ∧ w1.cell? ⟨N, 4, none⟩ = some ((Value.slice ao2 ys.length cap2)) ∧ Rd w1 b1 (Value.slice ao1 xs.length cap1) xs ∧ RdB w1 b2 (Value.slice ao2 ys.length cap2) ys ∧ w.heap.size ≤ w1.heap.size := by
    rw [hW, hN]
    exact ⟨Go.Joins.below_alloc2 _ _ _, by simp, by simp, by simp, by simp, by simp, H1.out.keep (Go.Joins.below_alloc2 _ _ _) (Nat.le_refl _), H2.out.keep (Go.Joins.below_alloc2 _ _ _) (Nat.le_refl _), by simp; omega⟩
  have kT : w1.heap[NT]? = some (Obj.cells #[.int .i64 0, .int .i64 0, .int .i64 0, .slice none 0 0, .slice none 0 0] 31) := by rw [hW]; exact FNew.heap_top (by rw [hM, hN]; simp)
  have HNT : Hid (w.heap.size ≤ NT) := by simp only [Hid]; omega
  have HNN : Hid (NT = N + 1 ∧ N = w.heap.size) := ⟨hM, hN⟩
  simp only [← hW, ← hN, ← hM]
  clear hW hN hM
  go_at_call 17
  refine (IsW.implValidGas (rdx5_IB_0 st) (rdx5_IB_1 st)).mono ?_
  rw [HQ.out]
  rintro e w2 ⟨rfl, bel⟩
  replace st := nx5_IB bel st
  replace kT := (bel.block NT (Array.getElem?_eq_some_iff.1 kT).1).trans kT
  clear bel
  have HB := hid st.1
  have y0 : w2.cell? ⟨NT, 0, none⟩ = some (.int .i64 0) := Go.Joins.cell_of_block kT 0
  have y1 : w2.cell? ⟨NT, 1, none⟩ = some (.int .i64 0) := Go.Joins.cell_of_block kT 1
  have y2 : w2.cell? ⟨NT, 2, none⟩ = some (.int .i64 0) := Go.Joins.cell_of_block kT 2
  have y3 : w2.cell? ⟨NT, 3, none⟩ = some (.slice none 0 0) := Go.Joins.cell_of_block kT 3
  have y4 : w2.cell? ⟨NT, 4, none⟩ = some (.slice none 0 0) := Go.Joins.cell_of_block kT 4
  have g0 : w2.frozen? ⟨NT, 0, none⟩ = false := Go.Joins.unfrozen_of_block kT 0
  have g1 : w2.frozen? ⟨NT, 1, none⟩ = false := Go.Joins.unfrozen_of_block kT 1
  have g2 : w2.frozen? ⟨NT, 2, none⟩ = false := Go.Joins.unfrozen_of_block kT 2
  have g3 : w2.frozen? ⟨NT, 3, none⟩ = false := Go.Joins.unfrozen_of_block kT 3
  have g4 : w2.frozen? ⟨NT, 4, none⟩ = false := Go.Joins.unfrozen_of_block kT 4
  have HKx := hid kT
  clear kT
  go_wp2
  have q0 := (Go.Joins.block_setCell (i := 4) (Go.Joins.block_setCell (i := 3) (Go.Joins.block_setCell (i := 2) (Go.Joins.block_setCell (i := 1) (Go.Joins.block_setCell (i := 0) HKx.out (.int .i64 0)) (.int .i64 0)) (.int .i64 0)) (.slice none 0 0)) (.slice none 0 0))
  have B5 := (((((HB.out.setCell (p := ⟨NT, 0, none⟩) HNT.out (.int .i64 0)).setCell (p := ⟨NT, 1, none⟩) HNT.out (.int .i64 0)).setCell (p := ⟨NT, 2, none⟩) HNT.out (.int .i64 0)).setCell (p := ⟨NT, 3, none⟩) HNT.out (.slice none 0 0)).setCell (p := ⟨NT, 4, none⟩) HNT.out (.slice none 0 0))
  obtain ⟨W5, hW⟩ : ∃ W5, W5 = (((((w2.setCell ⟨NT, 0, none⟩ (.int .i64 0)).setCell ⟨NT, 1, none⟩ (.int .i64 0)).setCell ⟨NT, 2, none⟩ (.int .i64 0)).setCell ⟨NT, 3, none⟩ (.slice none 0 0)).setCell ⟨NT, 4, none⟩ (.slice none 0 0)) := ⟨_, rfl⟩
  rw [← hW] at q0 B5
  have z0 : W5.cell? ⟨NT, 0, none⟩ = some (.int .i64 0) := Go.Joins.cell_of_block q0 0
  have z1 : W5.cell? ⟨NT, 1, none⟩ = some (.int .i64 0) := Go.Joins.cell_of_block q0 1
  have z2 : W5.cell? ⟨NT, 2, none⟩ = some (.int .i64 0) := Go.Joins.cell_of_block q0 2
  have z3 : W5.cell? ⟨NT, 3, none⟩ = some (.slice none 0 0) := Go.Joins.cell_of_block q0 3
  have z4 : W5.cell? ⟨NT, 4, none⟩ = some (.slice none 0 0) := Go.Joins.cell_of_block q0 4
  simp only [← hW]
  clear hW q0
  simp [bodyPost, results, Try.results28, go_sem, z0, z1, z2, z3, z4]
  exact B5

set_option maxHeartbeats 4000000 in
theorem specOk4 {w : World} {s r : Int} {b1 b2 : Nat} {v1 v2 : Value} {xs : List Int} {ys : List Bool} {left : Bool} (h1 : Rd w b1 v1 xs) (h2 : RdB w b2 v2 ys) (hq : gasB 4 s r xs ys = true) :
    Calls Try.prog 27 #[gasV 4 s r v1 v2, .bool left] w fun e w' => ∃ p kp q kq, e = .returned (.tuple #[gasV 4 s r (.slice (some ⟨p, 0, none⟩) xs.length kp) (.slice (some ⟨q, 0, none⟩) ys.length kq), .bool true]) ∧ Own 2 w' p (.slice (some ⟨p, 0, none⟩) xs.length kp) (colL 4 left xs ys) ∧ OwnB 4 w' q (.slice (some ⟨q, 0, none⟩) ys.length kq) ys ∧ w.heap.size ≤ p ∧ p < q ∧ Below w.heap.size w w' := by
  have H1 := hid h1
  have H2 := hid h2
  have HQ := hid hq
  obtain ⟨ao1, cap1, rfl, _, _, _⟩ := h1
  obtain ⟨ao2, cap2, rfl, _, _, _⟩ := h2
  clear hq
  go_enter Try.func27, Try.ntmps27
  go_wp2_with fail
  obtain ⟨w1, hW⟩ : ∃ w1, w1 = (w.alloc (Obj.cells #[.int .i64 4, .int .i64 s, .int .i64 r, (Value.slice ao1 xs.length cap1), (Value.slice ao2 ys.length cap2)] 31)).alloc (Obj.cells #[.int .i64 0, .int .i64 0, .int .i64 0, .slice none 0 0, .slice none 0 0] 31) := ⟨_, rfl⟩
  obtain ⟨N, hN⟩ : ∃ N, N = w.heap.size := ⟨_, rfl⟩
  obtain ⟨NT, hM⟩ : ∃ NT, NT = N + 1 := ⟨_, rfl⟩
  have st : Below w.heap.size w w1 ∧ w1.cell? ⟨N, 0, none⟩ = some (.int .i64 4) ∧ w1.cell? ⟨N, 1, none⟩ = some (.int .i64 s) ∧ w1.cell? ⟨N, 2, none⟩ = some (.int .i64 r) ∧ w1.cell? ⟨N, 3, none⟩ = some ((Value.slice ao1 xs.length cap1)) ∧ w1.cell? ⟨N, 4, none⟩ = some ((Value.slice ao2 ys.length cap2)) ∧ Rd w1 b1 (Value.slice ao1 xs.length cap1) xs ∧ RdB w1 b2 (Value.slice ao2 ys.length cap2) ys ∧ w.heap.size ≤ w1.heap.size := by
    rw [hW, hN]
    exact ⟨Go.Joins.below_alloc2 _ _ _, by simp, by simp, by simp, by simp, by simp, H1.out.keep (Go.Joins.below_alloc2 _ _ _) (Nat.le_refl _), H2.out.keep (Go.Joins.below_alloc2 _ _ _) (Nat.le_refl _), by simp; omega⟩
  have kT : w1.heap[NT]? = some (Obj.cells #[.int .i64 0, .int .i64 0, .int .i64 0, .slice none 0 0, .slice none 0 0] 31) := by rw [hW]; exact FNew.heap_top (by rw [hM, hN]; simp)
  have HNT : Hid (w.heap.size ≤ NT) := by simp only [Hid]; omega
  have HNN : Hid (NT = N + 1 ∧ N = w.heap.size) := ⟨hM, hN⟩
  simp only [← hW, ← hN, ← hM]
  clear hW hN hM
  go_at_call 39
  refine (GVal.l06Is st.2.1 st.2.2.1 st.2.2.2.1 st.2.2.2.2.1 st.2.2.2.2.2.1 (rdx5_IB_0 st) (rdx5_IB_1 st)).mono ?_
  rw [HQ.out]
  rintro e w2 ⟨rfl, hm⟩
  have bel : Below w1.heap.size w1 w2 := by obtain ⟨m, hm⟩ := hm; rw [hm]; exact Help.below_drewN _ _ _
  clear hm
  replace st := nx5_IB bel st
  replace kT := (bel.block NT (Array.getElem?_eq_some_iff.1 kT).1).trans kT
  clear bel
  go_wp2_with fail
  go_at_call 56
  refine (specCollide4 st.2.1 st.2.2.1 st.2.2.2.1 st.2.2.2.2.1 st.2.2.2.2.2.1 (rdx5_IB_0 st) (rdx5_IB_1 st) HQ.out).mono ?_
  rintro e w3 ⟨p, kp, q, kq, rfl, op, oq, lop, lpq, hkp, hkm, bel⟩
  have HNp : Hid (NT < p) := Nat.lt_of_lt_of_le (Array.getElem?_eq_some_iff.1 kT).1 lop
  have kT3 := (bel.block NT (Array.getElem?_eq_some_iff.1 kT).1).trans kT
  have HB := hid (st.1.trans (bel.mono st.1.size))
  have HLo := hid (Nat.le_trans st.1.size lop)
  have HPQ := hid lpq
  have HO := hid op
  have HQ3 := hid oq
  clear kT bel op oq lop lpq hkp hkm st
  have y0 : w3.cell? ⟨NT, 0, none⟩ = some (.int .i64 0) := Go.Joins.cell_of_block kT3 0
  have y1 : w3.cell? ⟨NT, 1, none⟩ = some (.int .i64 0) := Go.Joins.cell_of_block kT3 1
  have y2 : w3.cell? ⟨NT, 2, none⟩ = some (.int .i64 0) := Go.Joins.cell_of_block kT3 2
  have y3 : w3.cell? ⟨NT, 3, none⟩ = some (.slice none 0 0) := Go.Joins.cell_of_block kT3 3
  have y4 : w3.cell? ⟨NT, 4, none⟩ = some (.slice none 0 0) := Go.Joins.cell_of_block kT3 4
  have g0 : w3.frozen? ⟨NT, 0, none⟩ = false := Go.Joins.unfrozen_of_block kT3 0
  have g1 : w3.frozen? ⟨NT, 1, none⟩ = false := Go.Joins.unfrozen_of_block kT3 1
  have g2 : w3.frozen? ⟨NT, 2, none⟩ = false := Go.Joins.unfrozen_of_block kT3 2
  have g3 : w3.frozen? ⟨NT, 3, none⟩ = false := Go.Joins.unfrozen_of_block kT3 3
  have g4 : w3.frozen? ⟨NT, 4, none⟩ = false := Go.Joins.unfrozen_of_block kT3 4
  have HKx := hid kT3
  clear kT3
  go_wp2
  have q0 := (Go.Joins.block_setCell (i := 4) (Go.Joins.block_setCell (i := 3) (Go.Joins.block_setCell (i := 2) (Go.Joins.block_setCell (i := 1) (Go.Joins.block_setCell (i := 0) HKx.out (.int .i64 4)) (.int .i64 s)) (.int .i64 r)) ((Value.slice (some ⟨p, 0, none⟩) xs.length kp))) ((Value.slice (some ⟨q, 0, none⟩) ys.length kq)))
  have B5 := (((((HB.out.setCell (p := ⟨NT, 0, none⟩) HNT.out (.int .i64 4)).setCell (p := ⟨NT, 1, none⟩) HNT.out (.int .i64 s)).setCell (p := ⟨NT, 2, none⟩) HNT.out (.int .i64 r)).setCell (p := ⟨NT, 3, none⟩) HNT.out ((Value.slice (some ⟨p, 0, none⟩) xs.length kp))).setCell (p := ⟨NT, 4, none⟩) HNT.out ((Value.slice (some ⟨q, 0, none⟩) ys.length kq)))
  have O0 := (own_set (own_set (own_set (own_set (own_set HO.out ⟨NT, 0, none⟩ (.int .i64 4) (Nat.ne_of_lt HNp.out)) ⟨NT, 1, none⟩ (.int .i64 s) (Nat.ne_of_lt HNp.out)) ⟨NT, 2, none⟩ (.int .i64 r) (Nat.ne_of_lt HNp.out)) ⟨NT, 3, none⟩ ((Value.slice (some ⟨p, 0, none⟩) xs.length kp)) (Nat.ne_of_lt HNp.out)) ⟨NT, 4, none⟩ ((Value.slice (some ⟨q, 0, none⟩) ys.length kq)) (Nat.ne_of_lt HNp.out))
  have O1 := (ownB_set (ownB_set (ownB_set (ownB_set (ownB_set HQ3.out ⟨NT, 0, none⟩ (.int .i64 4) (Nat.ne_of_lt (Nat.lt_trans HNp.out HPQ.out))) ⟨NT, 1, none⟩ (.int .i64 s) (Nat.ne_of_lt (Nat.lt_trans HNp.out HPQ.out))) ⟨NT, 2, none⟩ (.int .i64 r) (Nat.ne_of_lt (Nat.lt_trans HNp.out HPQ.out))) ⟨NT, 3, none⟩ ((Value.slice (some ⟨p, 0, none⟩) xs.length kp)) (Nat.ne_of_lt (Nat.lt_trans HNp.out HPQ.out))) ⟨NT, 4, none⟩ ((Value.slice (some ⟨q, 0, none⟩) ys.length kq)) (Nat.ne_of_lt (Nat.lt_trans HNp.out HPQ.out)))
  obtain ⟨W5, hW⟩ : ∃ W5, W5 = (((((w3.setCell ⟨NT, 0, none⟩ (.int .i64 4)).setCell ⟨NT, 1, none⟩ (.int .i64 s)).setCell ⟨NT, 2, none⟩ (.int .i64 r)).setCell ⟨NT, 3, none⟩ ((Value.slice (some ⟨p, 0, none⟩) xs.length kp))).setCell ⟨NT, 4, none⟩ ((Value.slice (some ⟨q, 0, none⟩) ys.length kq))) := ⟨_, rfl⟩
  rw [← hW] at q0 B5 O0 O1
  have z0 : W5.cell? ⟨NT, 0, none⟩ = some (.int .i64 4) := Go.Joins.cell_of_block q0 0
  have z1 : W5.cell? ⟨NT, 1, none⟩ = some (.int .i64 s) := Go.Joins.cell_of_block q0 1
  have z2 : W5.cell? ⟨NT, 2, none⟩ = some (.int .i64 r) := Go.Joins.cell_of_block q0 2
  have z3 : W5.cell? ⟨NT, 3, none⟩ = some ((Value.slice (some ⟨p, 0, none⟩) xs.length kp)) := Go.Joins.cell_of_block q0 3
  have z4 : W5.cell? ⟨NT, 4, none⟩ = some ((Value.slice (some ⟨q, 0, none⟩) ys.length kq)) := Go.Joins.cell_of_block q0 4
  simp only [← hW]
  clear hW q0
  simp [bodyPost, results, Try.results27, go_sem, z0, z1, z2, z3, z4]
  exact ⟨p, kp, q, kq, by simp, O0, O1, HLo.out, HPQ.out, B5⟩


set_option maxHeartbeats 4000000 in
theorem specOk6 {w : World} {s r : Int} {b1 b2 : Nat} {v1 v2 : Value} {xs : List Int} {ys : List Bool} {left : Bool} (h1 : Rd w b1 v1 xs) (h2 : RdB w b2 v2 ys) (hq : gasB 6 s r xs ys = true) :
    Calls Try.prog 27 #[gasV 6 s r v1 v2, .bool left] w fun e w' => ∃ p kp q kq, e = .returned (.tuple #[gasV 6 s r (.slice (some ⟨p, 0, none⟩) xs.length kp) (.slice (some ⟨q, 0, none⟩) ys.length kq), .bool true]) ∧ Own 2 w' p (.slice (some ⟨p, 0, none⟩) xs.length kp) (colL 6 left xs ys) ∧ OwnB 4 w' q (.slice (some ⟨q, 0, none⟩) ys.length kq) ys ∧ w.heap.size ≤ p ∧ p < q ∧ Below w.heap.size w w' := by
  have H1 := hid h1
  have H2 := hid h2
  have HQ := hid hq
  obtain ⟨ao1, cap1, rfl, _, _, _⟩ := h1
  obtain ⟨ao2, cap2, rfl, _, _, _⟩ := h2
  clear hq
  go_enter Try.func27, Try.ntmps27
  go_wp2_with fail
  obtain ⟨w1, hW⟩ : ∃ w1, w1 = (w.alloc (Obj.cells #[.int .i64 6, .int .i64 s, .int .i64 r, (Value.slice ao1 xs.length cap1), (Value.slice ao2 ys.length cap2)] 31)).alloc (Obj.cells #[.int .i64 0, .int .i64 0, .int .i64 0, .slice none 0 0, .slice none 0 0] 31) := ⟨_, rfl⟩
  obtain ⟨N, hN⟩ : ∃ N, N = w.heap.size := ⟨_, rfl⟩
  obtain ⟨NT, hM⟩ : ∃ NT, NT = N + 1 := ⟨_, rfl⟩
  have st : Below w.heap.size w w1 ∧ w1.cell? ⟨N, 0, none⟩ = some (.int .i64 6) ∧ w1.cell? ⟨N, 1, none⟩ = some (.int .i64 s) ∧ w1.cell? ⟨N, 2, none⟩ = some (.int .i64 r) ∧ w1.cell? ⟨N, 3, none⟩ = some ((Value.slice ao1 xs.length cap1)) ∧ w1.cell? ⟨N, 4, none⟩ = some ((Value.slice ao2 ys.length cap2)) ∧ Rd w1 b1 (Value.slice ao1 xs.length cap1) xs ∧ RdB w1 b2 (Value.slice ao2 ys.length cap2) ys ∧ w.heap.size ≤ w1.heap.size := by
    rw [hW, hN]
    exact ⟨Go.Joins.below_alloc2 _ _ _, by simp, by simp, by simp, by simp, by simp, H1.out.keep (Go.Joins.below_alloc2 _ _ _) (Nat.le_refl _), H2.out.keep (Go.Joins.below_alloc2 _ _ _) (Nat.le_refl _), by simp; omega⟩
  have kT : w1.heap[NT]? = some (Obj.cells #[.int .i64 0, .int .i64 0, .int .i64 0, .slice none 0 0, .slice none 0 0] 31) := by rw [hW]; exact FNew.heap_top (by rw [hM, hN]; simp)
  have HNT : Hid (w.heap.size ≤ NT) := by simp only [Hid]; omega
  have HNN : Hid (NT = N + 1 ∧ N = w.heap.size) := ⟨hM, hN⟩
  simp only [← hW, ← hN, ← hM]
  clear hW hN hM
  go_at_call 39
  refine (GVal.l06Is st.2.1 st.2.2.1 st.2.2.2.1 st.2.2.2.2.1 st.2.2.2.2.2.1 (rdx5_IB_0 st) (rdx5_IB_1 st)).mono ?_
  rw [HQ.out]
  rintro e w2 ⟨rfl, hm⟩
  have bel : Below w1.heap.size w1 w2 := by obtain ⟨m, hm⟩ := hm; rw [hm]; exact Help.below_drewN _ _ _
  clear hm
  replace st := nx5_IB bel st
  replace kT := (bel.block NT (Array.getElem?_eq_some_iff.1 kT).1).trans kT
  clear bel
  go_wp2_with fail
  go_at_call 56
  refine (specCollide6 st.2.1 st.2.2.1 st.2.2.2.1 st.2.2.2.2.1 st.2.2.2.2.2.1 (rdx5_IB_0 st) (rdx5_IB_1 st) HQ.out).mono ?_
  rintro e w3 ⟨p, kp, q, kq, rfl, op, oq, lop, lpq, hkp, hkm, bel⟩
  have HNp : Hid (NT < p) := Nat.lt_of_lt_of_le (Array.getElem?_eq_some_iff.1 kT).1 lop
  have kT3 := (bel.block NT (Array.getElem?_eq_some_iff.1 kT).1).trans kT
  have HB := hid (st.1.trans (bel.mono st.1.size))
  have HLo := hid (Nat.le_trans st.1.size lop)
  have HPQ := hid lpq
  have HO := hid op
  have HQ3 := hid oq
  clear kT bel op oq lop lpq hkp hkm st
  have y0 : w3.cell? ⟨NT, 0, none⟩ = some (.int .i64 0) := Go.Joins.cell_of_block kT3 0
  have y1 : w3.cell? ⟨NT, 1, none⟩ = some (.int .i64 0) := Go.Joins.cell_of_block kT3 1
  have y2 : w3.cell? ⟨NT, 2, none⟩ = some (.int .i64 0) := Go.Joins.cell_of_block kT3 2
  have y3 : w3.cell? ⟨NT, 3, none⟩ = some (.slice none 0 0) := Go.Joins.cell_of_block kT3 3
  have y4 : w3.cell? ⟨NT, 4, none⟩ = some (.slice none 0 0) := Go.Joins.cell_of_block kT3 4
  have g0 : w3.frozen? ⟨NT, 0, none⟩ = false := Go.Joins.unfrozen_of_block kT3 0
  have g1 : w3.frozen? ⟨NT, 1, none⟩ = false := Go.Joins.unfrozen_of_block kT3 1
  have g2 : w3.frozen? ⟨NT, 2, none⟩ = false := Go.Joins.unfrozen_of_block kT3 2
  have g3 : w3.frozen? ⟨NT, 3, none⟩ = false := Go.Joins.unfrozen_of_block kT3 3
  have g4 : w3.frozen? ⟨NT, 4, none⟩ = false := Go.Joins.unfrozen_of_block kT3 4
  have HKx := hid kT3
  clear kT3
  go_wp2
  have q0 := (Go.Joins.block_setCell (i := 4) (Go.Joins.block_setCell (i := 3) (Go.Joins.block_setCell (i := 2) (Go.Joins.block_setCell (i := 1) (Go.Joins.block_setCell (i := 0) HKx.out (.int .i64 6)) (.int .i64 s)) (.int .i64 r)) ((Value.slice (some ⟨p, 0, none⟩) xs.length kp))) ((Value.slice (some ⟨q, 0, none⟩) ys.length kq)))
  have B5 := (((((HB.out.setCell (p := ⟨NT, 0, none⟩) HNT.out (.int .i64 6)).setCell (p := ⟨NT, 1, none⟩) HNT.out (.int .i64 s)).setCell (p := ⟨NT, 2, none⟩) HNT.out (.int .i64 r)).setCell (p := ⟨NT, 3, none⟩) HNT.out ((Value.slice (some ⟨p, 0, none⟩) xs.length kp))).setCell (p := ⟨NT, 4, none⟩) HNT.out ((Value.slice (some ⟨q, 0, none⟩) ys.length kq)))
  have O0 := (own_set (own_set (own_set (own_set (own_set HO.out ⟨NT, 0, none⟩ (.int .i64 6) (Nat.ne_of_lt HNp.out)) ⟨NT, 1, none⟩ (.int .i64 s) (Nat.ne_of_lt HNp.out)) ⟨NT, 2, none⟩ (.int .i64 r) (Nat.ne_of_lt HNp.out)) ⟨NT, 3, none⟩ ((Value.slice (some ⟨p, 0, none⟩) xs.length kp)) (Nat.ne_of_lt HNp.out)) ⟨NT, 4, none⟩ ((Value.slice (some ⟨q, 0, none⟩) ys.length kq)) (Nat.ne_of_lt HNp.out))
  have O1 := (ownB_set (ownB_set (ownB_set (ownB_set (ownB_set HQ3.out ⟨NT, 0, none⟩ (.int .i64 6) (Nat.ne_of_lt (Nat.lt_trans HNp.out HPQ.out))) ⟨NT, 1, none⟩ (.int .i64 s) (Nat.ne_of_lt (Nat.lt_trans HNp.out HPQ.out))) ⟨NT, 2, none⟩ (.int .i64 r) (Nat.ne_of_lt (Nat.lt_trans HNp.out HPQ.out))) ⟨NT, 3, none⟩ ((Value.slice (some ⟨p, 0, none⟩) xs.length kp)) (Nat.ne_of_lt (Nat.lt_trans HNp.out HPQ.out))) ⟨NT, 4, none⟩ ((Value.slice (some ⟨q, 0, none⟩) ys.length kq)) (Nat.ne_of_lt (Nat.lt_trans HNp.out HPQ.out)))
  obtain ⟨W5, hW⟩ : ∃ W5, W5 = (((((w3.setCell ⟨NT, 0, none⟩ (.int .i64 6)).setCell ⟨NT, 1, none⟩ (.int .i64 s)).setCell ⟨NT, 2, none⟩ (.int .i64 r)).setCell ⟨NT, 3, none⟩ ((Value.slice (some ⟨p, 0, none⟩) xs.length kp))).setCell ⟨NT, 4, none⟩ ((Value.slice (some ⟨q, 0, none⟩) ys.length kq))) := ⟨_, rfl⟩
  rw [← hW] at q0 B5 O0 O1
  have z0 : W5.cell? ⟨NT, 0, none⟩ = some (.int .i64 6) := Go.Joins.cell_of_block q0 0
  have z1 : W5.cell? ⟨NT, 1, none⟩ = some (.int .i64 s) := Go.Joins.cell_of_block q0 1
  have z2 : W5.cell? ⟨NT, 2, none⟩ = some (.int .i64 r) := Go.Joins.cell_of_block q0 2
  have z3 : W5.cell? ⟨NT, 3, none⟩ = some ((Value.slice (some ⟨p, 0, none⟩) xs.length kp)) := Go.Joins.cell_of_block q0 3
  have z4 : W5.cell? ⟨NT, 4, none⟩ = some ((Value.slice (some ⟨q, 0, none⟩) ys.length kq)) := Go.Joins.cell_of_block q0 4
  simp only [← hW]
  clear hW q0
  simp [bodyPost, results, Try.results27, go_sem, z0, z1, z2, z3, z4]
  exact ⟨p, kp, q, kq, by simp, O0, O1, HLo.out, HPQ.out, B5⟩


set_option maxHeartbeats 4000000 in
theorem implOk4 {w : World} {s r : Int} {b1 b2 : Nat} {v1 v2 : Value} {xs : List Int} {ys : List Bool} {left : Bool} (h1 : Rd w b1 v1 xs) (h2 : RdB w b2 v2 ys) (hq : gasB 4 s r xs ys = true) :
    Calls Try.prog 28 #[gasV 4 s r v1 v2, .bool left] w fun e w' => ∃ p kp q kq, e = .returned (.tuple #[gasV 4 s r (.slice (some ⟨p, 0, none⟩) xs.length kp) (.slice (some ⟨q, 0, none⟩) ys.length kq), .bool true]) ∧ Own 2 w' p (.slice (some ⟨p, 0, none⟩) xs.length kp) (colL 4 left xs ys) ∧ OwnB 4 w' q (.slice (some ⟨q, 0, none⟩) ys.length kq) ys ∧ w.heap.size ≤ p ∧ p < q ∧ Below w.heap.size w w' := by
  have H1 := hid h1
  have H2 := hid h2
  have HQ := hid hq
  obtain ⟨ao1, cap1, rfl, _, _, _⟩ := h1
  obtain ⟨ao2, cap2, rfl, _, _, _⟩ := h2
  clear hq
  go_enter Try.func28, Try.ntmps28
  go_wp2_with fail
  obtain ⟨w1, hW⟩ : ∃ w1, w1 = (w.alloc (Obj.cells #[.int .i64 4, .int .i64 s, .int .i64 r, (Value.slice ao1 xs.length cap1), (Value.slice ao2 ys.length cap2)] 31)).alloc (Obj.cells #[.int .i64 0, .int .i64 0, .int .i64 0, .slice none 0 0, .slice none 0 0] 31) := ⟨_, rfl⟩
  obtain ⟨N, hN⟩ : ∃ N, N = w.heap.size := ⟨_, rfl⟩
  obtain ⟨NT, hM⟩ : ∃ NT, NT = N + 1 := ⟨_, rfl⟩
  have st : Below w.heap.size w w1 ∧ w1.cell? ⟨N, 0, none⟩ = some (.int .i64 4) ∧ w1.cell? ⟨N, 1, none⟩ = some (.int .i64 s) ∧ w1.cell? ⟨N, 2, none⟩ = some (.int .i64 r) ∧ w1.cell? ⟨N, 3, none⟩ = some ((Value.slice ao1 xs.length cap1)) ∧ w1.cell? ⟨N, 4, none⟩ = some ((Value.slice ao2 ys.length cap2)) ∧ Rd w1 b1 (Value.slice ao1 xs.length cap1) xs ∧ RdB w1 b2 (Value.slice ao2 ys.length cap2) ys ∧ w.heap.size ≤ w1.heap.size := by
    rw [hW, hN]
    exact ⟨Go.Joins.below_alloc2 _ _ _, by simp, by simp, by simp, by simp, by simp, H1.out.keep (Go.Joins.below_alloc2 _ _ _) (Nat.le_refl _), H2.out.keep (Go.Joins.below_alloc2 _ _ _) (Nat.le_refl _), by simp; omega⟩
  have kT : w1.heap[NT]? = some (Obj.cells #[.int .i64 0, .int .i64 0, .int .i64 0, .slice none 0 0, .slice none 0 0] 31) := by rw [hW]; exact FNew.heap_top (by rw [hM, hN]; simp)
  have HNT : Hid (w.heap.size ≤ NT) := by simp only [Hid]; omega
  have HNN : Hid (NT = N + 1 ∧ N = w.heap.size) := ⟨hM, hN⟩
  simp only [← hW, ← hN, ← hM]
  clear hW hN hM
  go_at_call 17
  refine (IsW.implValidGas (rdx5_IB_0 st) (rdx5_IB_1 st)).mono ?_
  rw [HQ.out]
  rintro e w2 ⟨rfl, bel⟩
  replace st := nx5_IB bel st
  replace kT := (bel.block NT (Array.getElem?_eq_some_iff.1 kT).1).trans kT
  clear bel
  go_wp2_with fail
  go_at_call 57
  refine (implCollided4 (rdx5_IB_0 st) (rdx5_IB_1 st) HQ.out).mono ?_
  rintro e w3 ⟨p, kp, q, kq, rfl, op, oq, lop, lpq, hkp, hkm, bel⟩
  have HNp : Hid (NT < p) := Nat.lt_of_lt_of_le (Array.getElem?_eq_some_iff.1 kT).1 lop
  have kT3 := (bel.block NT (Array.getElem?_eq_some_iff.1 kT).1).trans kT
  have HB := hid (st.1.trans (bel.mono st.1.size))
  have HLo := hid (Nat.le_trans st.1.size lop)
  have HPQ := hid lpq
  have HO := hid op
  have HQ3 := hid oq
  clear kT bel op oq lop lpq hkp hkm st
  have y0 : w3.cell? ⟨NT, 0, none⟩ = some (.int .i64 0) := Go.Joins.cell_of_block kT3 0
  have y1 : w3.cell? ⟨NT, 1, none⟩ = some (.int .i64 0) := Go.Joins.cell_of_block kT3 1
  have y2 : w3.cell? ⟨NT, 2, none⟩ = some (.int .i64 0) := Go.Joins.cell_of_block kT3 2
  have y3 : w3.cell? ⟨NT, 3, none⟩ = some (.slice none 0 0) := Go.Joins.cell_of_block kT3 3
  have y4 : w3.cell? ⟨NT, 4, none⟩ = some (.slice none 0 0) := Go.Joins.cell_of_block kT3 4
  have g0 : w3.frozen? ⟨NT, 0, none⟩ = false := Go.Joins.unfrozen_of_block kT3 0
  have g1 : w3.frozen? ⟨NT, 1, none⟩ = false := Go.Joins.unfrozen_of_block kT3 1
  have g2 : w3.frozen? ⟨NT, 2, none⟩ = false := Go.Joins.unfrozen_of_block kT3 2
  have g3 : w3.frozen? ⟨NT, 3, none⟩ = false := Go.Joins.unfrozen_of_block kT3 3
  have g4 : w3.frozen? ⟨NT, 4, none⟩ = false := Go.Joins.unfrozen_of_block kT3 4
  have HKx := hid kT3
  clear kT3
  go_wp2
  have q0 := (Go.Joins.block_setCell (i := 4) (Go.Joins.block_setCell (i := 3) (Go.Joins.block_setCell (i := 2) (Go.Joins.block_setCell (i := 1) (Go.Joins.block_setCell (i := 0) HKx.out (.int .i64 4)) (.int .i64 s)) (.int .i64 r)) ((Value.slice (some ⟨p, 0, none⟩) xs.length kp))) ((Value.slice (some ⟨q, 0, none⟩) ys.length kq)))
  have B5 := (((((HB.out.setCell (p := ⟨NT, 0, none⟩) HNT.out (.int .i64 4)).setCell (p := ⟨NT, 1, none⟩) HNT.out (.int .i64 s)).setCell (p := ⟨NT, 2, none⟩) HNT.out (.int .i64 r)).setCell (p := ⟨NT, 3, none⟩) HNT.out ((Value.slice (some ⟨p, 0, none⟩) xs.length kp))).setCell (p := ⟨NT, 4, none⟩) HNT.out ((Value.slice (some ⟨q, 0, none⟩) ys.length kq)))
  have O0 := (own_set (own_set (own_set (own_set (own_set HO.out ⟨NT, 0, none⟩ (.int .i64 4) (Nat.ne_of_lt HNp.out)) ⟨NT, 1, none⟩ (.int .i64 s) (Nat.ne_of_lt HNp.out)) ⟨NT, 2, none⟩ (.int .i64 r) (Nat.ne_of_lt HNp.out)) ⟨NT, 3, none⟩ ((Value.slice (some ⟨p, 0, none⟩) xs.length kp)) (Nat.ne_of_lt HNp.out)) ⟨NT, 4, none⟩ ((Value.slice (some ⟨q, 0, none⟩) ys.length kq)) (Nat.ne_of_lt HNp.out))
  have O1 := (ownB_set (ownB_set (ownB_set (ownB_set (ownB_set HQ3.out ⟨NT, 0, none⟩ (.int .i64 4) (Nat.ne_of_lt (Nat.lt_trans HNp.out HPQ.out))) ⟨NT, 1, none⟩ (.int .i64 s) (Nat.ne_of_lt (Nat.lt_trans HNp.out HPQ.out))) ⟨NT, 2, none⟩ (.int .i64 r) (Nat.ne_of_lt (Nat.lt_trans HNp.out HPQ.out))) ⟨NT, 3, none⟩ ((Value.slice (some ⟨p, 0, none⟩) xs.length kp)) (Nat.ne_of_lt (Nat.lt_trans HNp.out HPQ.out))) ⟨NT, 4, none⟩ ((Value.slice (some ⟨q, 0, none⟩) ys.length kq)) (Nat.ne_of_lt (Nat.lt_trans HNp.out HPQ.out)))
  obtain ⟨W5, hW⟩ : ∃ W5, W5 = (((((w3.setCell ⟨NT, 0, none⟩ (.int .i64 4)).setCell ⟨NT, 1, none⟩ (.int .i64 s)).setCell ⟨NT, 2, none⟩ (.int .i64 r)).setCell ⟨NT, 3, none⟩ ((Value.slice (some ⟨p, 0, none⟩) xs.length kp))).setCell ⟨NT, 4, none⟩ ((Value.slice (some ⟨q, 0, none⟩) ys.length kq))) := ⟨_, rfl⟩
  rw [← hW] at q0 B5 O0 O1
  have z0 : W5.cell? ⟨NT, 0, none⟩ = some (.int .i64 4) := Go.Joins.cell_of_block q0 0
  have z1 : W5.cell? ⟨NT, 1, none⟩ = some (.int .i64 s) := Go.Joins.cell_of_block q0 1
  have z2 : W5.cell? ⟨NT, 2, none⟩ = some (.int .i64 r) := Go.Joins.cell_of_block q0 2
  have z3 : W5.cell? ⟨NT, 3, none⟩ = some ((Value.slice (some ⟨p, 0, none⟩) xs.length kp)) := Go.Joins.cell_of_block q0 3
  have z4 : W5.cell? ⟨NT, 4, none⟩ = some ((Value.slice (some ⟨q, 0, none⟩) ys.length kq)) := Go.Joins.cell_of_block q0 4
  simp only [← hW]
  clear hW q0
  simp [bodyPost, results, Try.results28, go_sem, z0, z1, z2, z3, z4]
  exact ⟨p, kp, q, kq, by simp, O0, O1, HLo.out, HPQ.out, B5⟩


set_option maxHeartbeats 4000000 in
theorem implOk6 {w : World} {s r : Int} {b1 b2 : Nat} {v1 v2 : Value} {xs : List Int} {ys : List Bool} (h1 : Rd w b1 v1 xs) (h2 : RdB w b2 v2 ys) (hq : gasB 6 s r xs ys = true) :
    Calls Try.prog 28 #[gasV 6 s r v1 v2, .bool true] w fun e w' => ∃ p kp q kq, e = .returned (.tuple #[gasV 6 s r (.slice (some ⟨p, 0, none⟩) xs.length kp) (.slice (some ⟨q, 0, none⟩) ys.length kq), .bool true]) ∧ Own 2 w' p (.slice (some ⟨p, 0, none⟩) xs.length kp) (colL 6 true xs ys) ∧ OwnB 4 w' q (.slice (some ⟨q, 0, none⟩) ys.length kq) ys ∧ w.heap.size ≤ p ∧ p < q ∧ Below w.heap.size w w' := by
  have H1 := hid h1
  have H2 := hid h2
  have HQ := hid hq
  obtain ⟨ao1, cap1, rfl, _, _, _⟩ := h1
  obtain ⟨ao2, cap2, rfl, _, _, _⟩ := h2
  clear hq
  go_enter Try.func28, Try.ntmps28
  go_wp2_with fail
  obtain ⟨w1, hW⟩ : ∃ w1, w1 = (w.alloc (Obj.cells #[.int .i64 6, .int .i64 s, .int .i64 r, (Value.slice ao1 xs.length cap1), (Value.slice ao2 ys.length cap2)] 31)).alloc (Obj.cells #[.int .i64 0, .int .i64 0, .int .i64 0, .slice none 0 0, .slice none 0 0] 31) := ⟨_, rfl⟩
  obtain ⟨N, hN⟩ : ∃ N, N = w.heap.size := ⟨_, rfl⟩
  obtain ⟨NT, hM⟩ : ∃ NT, NT = N + 1 := ⟨_, rfl⟩
  have st : Below w.heap.size w w1 ∧ w1.cell? ⟨N, 0, none⟩ = some (.int .i64 6) ∧ w1.cell? ⟨N, 1, none⟩ = some (.int .i64 s) ∧ w1.cell? ⟨N, 2, none⟩ = some (.int .i64 r) ∧ w1.cell? ⟨N, 3, none⟩ = some ((Value.slice ao1 xs.length cap1)) ∧ w1.cell? ⟨N, 4, none⟩ = some ((Value.slice ao2 ys.length cap2)) ∧ Rd w1 b1 (Value.slice ao1 xs.length cap1) xs ∧ RdB w1 b2 (Value.slice ao2 ys.length cap2) ys ∧ w.heap.size ≤ w1.heap.size := by
    rw [hW, hN]
    exact ⟨Go.Joins.below_alloc2 _ _ _, by simp, by simp, by simp, by simp, by simp, H1.out.keep (Go.Joins.below_alloc2 _ _ _) (Nat.le_refl _), H2.out.keep (Go.Joins.below_alloc2 _ _ _) (Nat.le_refl _), by simp; omega⟩
  have kT : w1.heap[NT]? = some (Obj.cells #[.int .i64 0, .int .i64 0, .int .i64 0, .slice none 0 0, .slice none 0 0] 31) := by rw [hW]; exact FNew.heap_top (by rw [hM, hN]; simp)
  have HNT : Hid (w.heap.size ≤ NT) := by simp only [Hid]; omega
  have HNN : Hid (NT = N + 1 ∧ N = w.heap.size) := ⟨hM, hN⟩
  simp only [← hW, ← hN, ← hM]
  clear hW hN hM
  go_at_call 17
  refine (IsW.implValidGas (rdx5_IB_0 st) (rdx5_IB_1 st)).mono ?_
  rw [HQ.out]
  rintro e w2 ⟨rfl, bel⟩
  replace st := nx5_IB bel st
  replace kT := (bel.block NT (Array.getElem?_eq_some_iff.1 kT).1).trans kT
  clear bel
  go_wp2_with fail
  go_at_call 57
  refine (implCollided6 (rdx5_IB_0 st) (rdx5_IB_1 st) HQ.out).mono ?_
  rintro e w3 ⟨p, kp, q, kq, rfl, op, oq, lop, lpq, hkp, hkm, bel⟩
  have HNp : Hid (NT < p) := Nat.lt_of_lt_of_le (Array.getElem?_eq_some_iff.1 kT).1 lop
  have kT3 := (bel.block NT (Array.getElem?_eq_some_iff.1 kT).1).trans kT
  have HB := hid (st.1.trans (bel.mono st.1.size))
  have HLo := hid (Nat.le_trans st.1.size lop)
  have HPQ := hid lpq
  have HO := hid op
  have HQ3 := hid oq
  clear kT bel op oq lop lpq hkp hkm st
  have y0 : w3.cell? ⟨NT, 0, none⟩ = some (.int .i64 0) := Go.Joins.cell_of_block kT3 0
  have y1 : w3.cell? ⟨NT, 1, none⟩ = some (.int .i64 0) := Go.Joins.cell_of_block kT3 1
  have y2 : w3.cell? ⟨NT, 2, none⟩ = some (.int .i64 0) := Go.Joins.cell_of_block kT3 2
  have y3 : w3.cell? ⟨NT, 3, none⟩ = some (.slice none 0 0) := Go.Joins.cell_of_block kT3 3
  have y4 : w3.cell? ⟨NT, 4, none⟩ = some (.slice none 0 0) := Go.Joins.cell_of_block kT3 4
  have g0 : w3.frozen? ⟨NT, 0, none⟩ = false := Go.Joins.unfrozen_of_block kT3 0
  have g1 : w3.frozen? ⟨NT, 1, none⟩ = false := Go.Joins.unfrozen_of_block kT3 1
  have g2 : w3.frozen? ⟨NT, 2, none⟩ = false := Go.Joins.unfrozen_of_block kT3 2
  have g3 : w3.frozen? ⟨NT, 3, none⟩ = false := Go.Joins.unfrozen_of_block kT3 3
  have g4 : w3.frozen? ⟨NT, 4, none⟩ = false := Go.Joins.unfrozen_of_block kT3 4
  have HKx := hid kT3
  clear kT3
  go_wp2
  have q0 := (Go.Joins.block_setCell (i := 4) (Go.Joins.block_setCell (i := 3) (Go.Joins.block_setCell (i := 2) (Go.Joins.block_setCell (i := 1) (Go.Joins.block_setCell (i := 0) HKx.out (.int .i64 6)) (.int .i64 s)) (.int .i64 r)) ((Value.slice (some ⟨p, 0, none⟩) xs.length kp))) ((Value.slice (some ⟨q, 0, none⟩) ys.length kq)))
  have B5 := (((((HB.out.setCell (p := ⟨NT, 0, none⟩) HNT.out (.int .i64 6)).setCell (p := ⟨NT, 1, none⟩) HNT.out (.int .i64 s)).setCell (p := ⟨NT, 2, none⟩) HNT.out (.int .i64 r)).setCell (p := ⟨NT, 3, none⟩) HNT.out ((Value.slice (some ⟨p, 0, none⟩) xs.length kp))).setCell (p := ⟨NT, 4, none⟩) HNT.out ((Value.slice (some ⟨q, 0, none⟩) ys.length kq)))
  have O0 := (own_set (own_set (own_set (own_set (own_set HO.out ⟨NT, 0, none⟩ (.int .i64 6) (Nat.ne_of_lt HNp.out)) ⟨NT, 1, none⟩ (.int .i64 s) (Nat.ne_of_lt HNp.out)) ⟨NT, 2, none⟩ (.int .i64 r) (Nat.ne_of_lt HNp.out)) ⟨NT, 3, none⟩ ((Value.slice (some ⟨p, 0, none⟩) xs.length kp)) (Nat.ne_of_lt HNp.out)) ⟨NT, 4, none⟩ ((Value.slice (some ⟨q, 0, none⟩) ys.length kq)) (Nat.ne_of_lt HNp.out))
  have O1 := (ownB_set (ownB_set (ownB_set (ownB_set (ownB_set HQ3.out ⟨NT, 0, none⟩ (.int .i64 6) (Nat.ne_of_lt (Nat.lt_trans HNp.out HPQ.out))) ⟨NT, 1, none⟩ (.int .i64 s) (Nat.ne_of_lt (Nat.lt_trans HNp.out HPQ.out))) ⟨NT, 2, none⟩ (.int .i64 r) (Nat.ne_of_lt (Nat.lt_trans HNp.out HPQ.out))) ⟨NT, 3, none⟩ ((Value.slice (some ⟨p, 0, none⟩) xs.length kp)) (Nat.ne_of_lt (Nat.lt_trans HNp.out HPQ.out))) ⟨NT, 4, none⟩ ((Value.slice (some ⟨q, 0, none⟩) ys.length kq)) (Nat.ne_of_lt (Nat.lt_trans HNp.out HPQ.out)))
  obtain ⟨W5, hW⟩ : ∃ W5, W5 = (((((w3.setCell ⟨NT, 0, none⟩ (.int .i64 6)).setCell ⟨NT, 1, none⟩ (.int .i64 s)).setCell ⟨NT, 2, none⟩ (.int .i64 r)).setCell ⟨NT, 3, none⟩ ((Value.slice (some ⟨p, 0, none⟩) xs.length kp))).setCell ⟨NT, 4, none⟩ ((Value.slice (some ⟨q, 0, none⟩) ys.length kq))) := ⟨_, rfl⟩
  rw [← hW] at q0 B5 O0 O1
  have z0 : W5.cell? ⟨NT, 0, none⟩ = some (.int .i64 6) := Go.Joins.cell_of_block q0 0
  have z1 : W5.cell? ⟨NT, 1, none⟩ = some (.int .i64 s) := Go.Joins.cell_of_block q0 1
  have z2 : W5.cell? ⟨NT, 2, none⟩ = some (.int .i64 r) := Go.Joins.cell_of_block q0 2
  have z3 : W5.cell? ⟨NT, 3, none⟩ = some ((Value.slice (some ⟨p, 0, none⟩) xs.length kp)) := Go.Joins.cell_of_block q0 3
  have z4 : W5.cell? ⟨NT, 4, none⟩ = some ((Value.slice (some ⟨q, 0, none⟩) ys.length kq)) := Go.Joins.cell_of_block q0 4
  simp only [← hW]
  clear hW q0
  simp [bodyPost, results, Try.results28, go_sem, z0, z1, z2, z3, z4]
  exact ⟨p, kp, q, kq, by simp, O0, O1, HLo.out, HPQ.out, B5⟩


set_option maxHeartbeats 4000000 in
theorem implOk6m {w : World} {s r : Int} {b1 b2 : Nat} {v1 v2 : Value} {xs : List Int} {ys : List Bool} (h1 : Rd w b1 v1 xs) (h2 : RdB w b2 v2 ys) (hq : gasB 6 s r xs ys = true) :
    Calls Try.prog 28 #[gasV 6 s r v1 v2, .bool false] w fun e w' => ∃ p kp q kq, e = .returned (.tuple #[gasV 6 s r (.slice (some ⟨p, 0, none⟩) xs.length kp) (.slice (some ⟨q, 0, none⟩) ys.length kq), .bool true]) ∧ Own 2 w' p (.slice (some ⟨p, 0, none⟩) xs.length kp) (colL 6 false xs ys) ∧ OwnB 4 w' q (.slice (some ⟨q, 0, none⟩) ys.length kq) ys ∧ w.heap.size ≤ p ∧ p < q ∧ Below w.heap.size w w' := by
  have H1 := hid h1
  have H2 := hid h2
  have HQ := hid hq
  obtain ⟨ao1, cap1, rfl, _, _, _⟩ := h1
  obtain ⟨ao2, cap2, rfl, _, _, _⟩ := h2
  clear hq
  go_enter Try.func28, Try.ntmps28
  go_wp2_with fail
  obtain ⟨w1, hW⟩ : ∃ w1, w1 = (w.alloc (Obj.cells #[.int .i64 6, .int .i64 s, .int .i64 r, (Value.slice ao1 xs.length cap1), (Value.slice ao2 ys.length cap2)] 31)).alloc (Obj.cells #[.int .i64 0, .int .i64 0, .int .i64 0, .slice none 0 0, .slice none 0 0] 31) := ⟨_, rfl⟩
  obtain ⟨N, hN⟩ : ∃ N, N = w.heap.size := ⟨_, rfl⟩
  obtain ⟨NT, hM⟩ : ∃ NT, NT = N + 1 := ⟨_, rfl⟩
  have st : Below w.heap.size w w1 ∧ w1.cell? ⟨N, 0, none⟩ = some (.int .i64 6) ∧ w1.cell? ⟨N, 1, none⟩ = some (.int .i64 s) ∧ w1.cell? ⟨N, 2, none⟩ = some (.int .i64 r) ∧ w1.cell? ⟨N, 3, none⟩ = some ((Value.slice ao1 xs.length cap1)) ∧ w1.cell? ⟨N, 4, none⟩ = some ((Value.slice ao2 ys.length cap2)) ∧ Rd w1 b1 (Value.slice ao1 xs.length cap1) xs ∧ RdB w1 b2 (Value.slice ao2 ys.length cap2) ys ∧ w.heap.size ≤ w1.heap.size := by
    rw [hW, hN]
    exact ⟨Go.Joins.below_alloc2 _ _ _, by simp, by simp, by simp, by simp, by simp, H1.out.keep (Go.Joins.below_alloc2 _ _ _) (Nat.le_refl _), H2.out.keep (Go.Joins.below_alloc2 _ _ _) (Nat.le_refl _), by simp; omega⟩
  have kT : w1.heap[NT]? = some (Obj.cells #[.int .i64 0, .int .i64 0, .int .i64 0, .slice none 0 0, .slice none 0 0] 31) := by rw [hW]; exact FNew.heap_top (by rw [hM, hN]; simp)
  have HNT : Hid (w.heap.size ≤ NT) := by simp only [Hid]; omega
  have HNN : Hid (NT = N + 1 ∧ N = w.heap.size) := ⟨hM, hN⟩
  simp only [← hW, ← hN, ← hM]
  clear hW hN hM
  go_at_call 17
  refine (IsW.implValidGas (rdx5_IB_0 st) (rdx5_IB_1 st)).mono ?_
  rw [HQ.out]
  rintro e w2 ⟨rfl, bel⟩
  replace st := nx5_IB bel st
  replace kT := (bel.block NT (Array.getElem?_eq_some_iff.1 kT).1).trans kT
  clear bel
  go_wp2_with fail
  go_at_call 57
  refine (implCollided6m (rdx5_IB_0 st) (rdx5_IB_1 st) HQ.out).mono ?_
  rintro e w3 ⟨p, kp, q, kq, rfl, op, oq, lop, lpq, hkp, hkm, bel⟩
  have HNp : Hid (NT < p) := Nat.lt_of_lt_of_le (Array.getElem?_eq_some_iff.1 kT).1 lop
  have kT3 := (bel.block NT (Array.getElem?_eq_some_iff.1 kT).1).trans kT
  have HB := hid (st.1.trans (bel.mono st.1.size))
  have HLo := hid (Nat.le_trans st.1.size lop)
  have HPQ := hid lpq
  have HO := hid op
  have HQ3 := hid oq
  clear kT bel op oq lop lpq hkp hkm st
  have y0 : w3.cell? ⟨NT, 0, none⟩ = some (.int .i64 0) := Go.Joins.cell_of_block kT3 0
  have y1 : w3.cell? ⟨NT, 1, none⟩ = some (.int .i64 0) := Go.Joins.cell_of_block kT3 1
  have y2 : w3.cell? ⟨NT, 2, none⟩ = some (.int .i64 0) := Go.Joins.cell_of_block kT3 2
  have y3 : w3.cell? ⟨NT, 3, none⟩ = some (.slice none 0 0) := Go.Joins.cell_of_block kT3 3
  have y4 : w3.cell? ⟨NT, 4, none⟩ = some (.slice none 0 0) := Go.Joins.cell_of_block kT3 4
  have g0 : w3.frozen? ⟨NT, 0, none⟩ = false := Go.Joins.unfrozen_of_block kT3 0
  have g1 : w3.frozen? ⟨NT, 1, none⟩ = false := Go.Joins.unfrozen_of_block kT3 1
  have g2 : w3.frozen? ⟨NT, 2, none⟩ = false := Go.Joins.unfrozen_of_block kT3 2
  have g3 : w3.frozen? ⟨NT, 3, none⟩ = false := Go.Joins.unfrozen_of_block kT3 3
  have g4 : w3.frozen? ⟨NT, 4, none⟩ = false := Go.Joins.unfrozen_of_block kT3 4
  have HKx := hid kT3
  clear kT3
  go_wp2
  have q0 := (Go.Joins.block_setCell (i := 4) (Go.Joins.block_setCell (i := 3) (Go.Joins.block_setCell (i := 2) (Go.Joins.block_setCell (i := 1) (Go.Joins.block_setCell (i := 0) HKx.out (.int .i64 6)) (.int .i64 s)) (.int .i64 r)) ((Value.slice (some ⟨p, 0, none⟩) xs.length kp))) ((Value.slice (some ⟨q, 0, none⟩) ys.length kq)))
  have B5 := (((((HB.out.setCell (p := ⟨NT, 0, none⟩) HNT.out (.int .i64 6)).setCell (p := ⟨NT, 1, none⟩) HNT.out (.int .i64 s)).setCell (p := ⟨NT, 2, none⟩) HNT.out (.int .i64 r)).setCell (p := ⟨NT, 3, none⟩) HNT.out ((Value.slice (some ⟨p, 0, none⟩) xs.length kp))).setCell (p := ⟨NT, 4, none⟩) HNT.out ((Value.slice (some ⟨q, 0, none⟩) ys.length kq)))
  have O0 := (own_set (own_set (own_set (own_set (own_set HO.out ⟨NT, 0, none⟩ (.int .i64 6) (Nat.ne_of_lt HNp.out)) ⟨NT, 1, none⟩ (.int .i64 s) (Nat.ne_of_lt HNp.out)) ⟨NT, 2, none⟩ (.int .i64 r) (Nat.ne_of_lt HNp.out)) ⟨NT, 3, none⟩ ((Value.slice (some ⟨p, 0, none⟩) xs.length kp)) (Nat.ne_of_lt HNp.out)) ⟨NT, 4, none⟩ ((Value.slice (some ⟨q, 0, none⟩) ys.length kq)) (Nat.ne_of_lt HNp.out))
  have O1 := (ownB_set (ownB_set (ownB_set (ownB_set (ownB_set HQ3.out ⟨NT, 0, none⟩ (.int .i64 6) (Nat.ne_of_lt (Nat.lt_trans HNp.out HPQ.out))) ⟨NT, 1, none⟩ (.int .i64 s) (Nat.ne_of_lt (Nat.lt_trans HNp.out HPQ.out))) ⟨NT, 2, none⟩ (.int .i64 r) (Nat.ne_of_lt (Nat.lt_trans HNp.out HPQ.out))) ⟨NT, 3, none⟩ ((Value.slice (some ⟨p, 0, none⟩) xs.length kp)) (Nat.ne_of_lt (Nat.lt_trans HNp.out HPQ.out))) ⟨NT, 4, none⟩ ((Value.slice (some ⟨q, 0, none⟩) ys.length kq)) (Nat.ne_of_lt (Nat.lt_trans HNp.out HPQ.out)))
  obtain ⟨W5, hW⟩ : ∃ W5, W5 = (((((w3.setCell ⟨NT, 0, none⟩ (.int .i64 6)).setCell ⟨NT, 1, none⟩ (.int .i64 s)).setCell ⟨NT, 2, none⟩ (.int .i64 r)).setCell ⟨NT, 3, none⟩ ((Value.slice (some ⟨p, 0, none⟩) xs.length kp))).setCell ⟨NT, 4, none⟩ ((Value.slice (some ⟨q, 0, none⟩) ys.length kq))) := ⟨_, rfl⟩
  rw [← hW] at q0 B5 O0 O1
  have z0 : W5.cell? ⟨NT, 0, none⟩ = some (.int .i64 6) := Go.Joins.cell_of_block q0 0
  have z1 : W5.cell? ⟨NT, 1, none⟩ = some (.int .i64 s) := Go.Joins.cell_of_block q0 1
  have z2 : W5.cell? ⟨NT, 2, none⟩ = some (.int .i64 r) := Go.Joins.cell_of_block q0 2
  have z3 : W5.cell? ⟨NT, 3, none⟩ = some ((Value.slice (some ⟨p, 0, none⟩) xs.length kp)) := Go.Joins.cell_of_block q0 3
  have z4 : W5.cell? ⟨NT, 4, none⟩ = some ((Value.slice (some ⟨q, 0, none⟩) ys.length kq)) := Go.Joins.cell_of_block q0 4
  simp only [← hW]
  clear hW q0
  simp [bodyPost, results, Try.results28, go_sem, z0, z1, z2, z3, z4]
  exact ⟨p, kp, q, kq, by simp, O0, O1, HLo.out, HPQ.out, B5⟩


end Go.Proofs.Ytnpjhhkhdeomcaa.Cld
