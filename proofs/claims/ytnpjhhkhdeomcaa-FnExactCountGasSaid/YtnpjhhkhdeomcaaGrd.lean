/- newGrid. -/
import Derived.Test.YtnpjhhkhdeomcaaFNew
namespace Go.Proofs.Ytnpjhhkhdeomcaa.Grd
open Go.RowKit Go.Proofs.Ytnpjhhkhdeomcaa.Rd Go.Proofs.Ytnpjhhkhdeomcaa.Help Go.Proofs.Ytnpjhhkhdeomcaa.FVal Go.Proofs.Ytnpjhhkhdeomcaa.Keep Go.Proofs.Ytnpjhhkhdeomcaa.Rule
set_option linter.unusedVariables false
set_option linter.unusedSimpArgs false

set_option maxHeartbeats 4000000 in
theorem newGrid {w : World} {H W M : Nat} (hM : M = H * W) (hM6 : M ≤ 256) :
    Calls Try.prog 59 #[shapeV H W] w fun e w' => ∃ p, e = .returned (.agg #[.int .i64 H, .int .i64 W, .slice (some ⟨p, 0, none⟩) M M]) ∧ Own 2 w' p (.slice (some ⟨p, 0, none⟩) M M) (List.replicate M 0) ∧ w.heap.size ≤ p ∧ Below w.heap.size w w' := by
  have HMM := hid hM
  have HM6 := hid hM6
  have hmk := run_make_row' (P := Try.prog) 22 2 (.int .i64 0) 8 Try.underlying22 infoI rfl .i64 .i64 M (show 8 * M ≤ 281474976710656 from Nat.le_trans (Nat.mul_le_mul_left 8 HM6.out) (by decide)) (show M ≤ 9223372036854775807 from Nat.le_trans HM6.out (by decide))
  clear hM hM6
  go_enter Try.func59, Try.ntmps59
  go_wp2_with fail
  obtain ⟨w1, hW⟩ : ∃ w1, w1 = (w.alloc (Obj.cells #[.int .i64 H, .int .i64 W] 57)).alloc (Obj.cells #[.int .i64 0, .int .i64 0, .slice none 0 0] 68) := ⟨_, rfl⟩
  obtain ⟨N, hN⟩ : ∃ N, N = w.heap.size := ⟨_, rfl⟩
  obtain ⟨NT, hT⟩ : ∃ NT, NT = N + 1 := ⟨_, rfl⟩
  have st : Below w.heap.size w w1 ∧ w1.cell? ⟨N, 0, none⟩ = some (.int .i64 H) ∧ w1.cell? ⟨N, 1, none⟩ = some (.int .i64 W) ∧ w.heap.size ≤ w1.heap.size := by
    rw [hW, hN]
    exact ⟨Go.Joins.below_alloc2 _ _ _, by simp, by simp, by simp; omega⟩
  have kT : w1.heap[NT]? = some (Obj.cells #[.int .i64 0, .int .i64 0, .slice none 0 0] 68) := by rw [hW]; exact FNew.heap_top (by rw [hT, hN]; simp)
  have HNT : Hid (w.heap.size ≤ NT) := by simp only [Hid]; omega
  have HNN : Hid (N ≠ NT) := by simp only [Hid]; omega
  simp only [← hW, ← hN, ← hT]
  clear hW hN hT
  refine wp_region_held_drew (S := (fun ww => Below w.heap.size w ww ∧ ww.cell? ⟨N, 0, none⟩ = some (.int .i64 H) ∧ ww.cell? ⟨N, 1, none⟩ = some (.int .i64 W) ∧ w.heap.size ≤ ww.heap.size)) (by kernel_rfl) ?_ (fun hHeld => ?_)
  · ((try dsimp only); exact drew2_0 st)
  replace kT : w1.drew.heap[NT]? = some (Obj.cells #[.int .i64 0, .int .i64 0, .slice none 0 0] 68) := kT
  generalize hD : w1.drew = wD at hHeld kT ⊢
  clear hD st
  (refine wpAnyH_take (i := 0) (v := ?_) rfl ?_ ?_ ?_ (fun _ _ _ h => h) (Or.inl ⟨?_, ?_⟩) ?_ ?_; rotate_left 1; (focus decide +kernel); (focus decide +kernel); (focus decide +kernel); (focus rfl); (focus (intro w hSw; (try dsimp only at hSw); go_simp; (try (with_reducible rfl)); done)); (focus assumption); (try simp only [Act.put, List.setIfInBounds_toArray, List.set_cons_zero, List.set_cons_succ, List.getElem_toArray, List.getElem_cons_succ, List.getElem_cons_zero]))
  (refine wpAnyH_take (i := 1) (v := ?_) rfl ?_ ?_ ?_ (fun _ _ _ h => h) (Or.inl ⟨?_, ?_⟩) ?_ ?_; rotate_left 1; (focus decide +kernel); (focus decide +kernel); (focus decide +kernel); (focus rfl); (focus (intro w hSw; (try dsimp only at hSw); go_simp; (try (with_reducible rfl)); done)); (focus assumption); (try simp only [Act.put, List.setIfInBounds_toArray, List.set_cons_zero, List.set_cons_succ, List.getElem_toArray, List.getElem_cons_succ, List.getElem_cons_zero]))
  refine wpAnyH_ready (rs := [2]) ?_ (by simp) ?_
  · decide +kernel
  refine AllReadyH.cons rfl (fun K hK => ?_) AllReadyH.nil
  go_simp
  go_at_call 64
  refine (FNew.sizeN HMM.out (Nat.le_trans HM6.out (by decide))).mono ?_
  rintro e wa ⟨rfl, bel⟩
  replace kT := (bel.block NT (Array.getElem?_eq_some_iff.1 kT).1).trans kT
  refine hK.out _ _ ?_ (fun hHeld2 => ?_)
  · (try dsimp only); exact next2_0 bel hHeld
  clear hK K hHeld bel
  have hHeld := hHeld2
  clear hHeld2
  (try simp only [Act.put, List.setIfInBounds_toArray, List.set_cons_zero, List.set_cons_succ, List.getElem_toArray, List.getElem_cons_succ, List.getElem_cons_zero])
  refine wpAnyH_ready (rs := [3]) ?_ (by simp) ?_
  · decide +kernel
  refine AllReadyH.cons rfl (fun K hK => ?_) AllReadyH.nil
  go_simp
  refine hK.out _ _ ?_ (fun hHeld2 => ?_)
  · (try dsimp only); exact next2_0 (below1 _ _) hHeld
  clear hK K
  obtain ⟨wb, hWb⟩ : ∃ wb, wb = (wa.alloc (.cells (madeCells #[.int .i64 0] M) 2)) := ⟨_, rfl⟩
  obtain ⟨p, hp⟩ : ∃ p, p = wa.heap.size := ⟨_, rfl⟩
  have bel : Below wa.heap.size wa wb := by rw [hWb]; exact below1 _ _
  have op : Own 2 wb p (.slice (some ⟨p, 0, none⟩) M M) (List.replicate M 0) := by rw [hWb, hp]; exact Own.made 2 wa M (Nat.le_trans HM6.out (by decide))
  have hNTp : NT < p := by rw [hp]; exact (Array.getElem?_eq_some_iff.1 kT).1
  have lop : w.heap.size ≤ p := by rw [hp]; exact hHeld.1.size
  replace kT := (bel.block NT (Array.getElem?_eq_some_iff.1 kT).1).trans kT
  rw [← hWb] at hHeld2
  simp only [← hWb, ← hp]
  clear hHeld bel hWb hp
  have hHeld := hHeld2
  clear hHeld2
  (try simp only [Act.put, List.setIfInBounds_toArray, List.set_cons_zero, List.set_cons_succ, List.getElem_toArray, List.getElem_cons_succ, List.getElem_cons_zero])
  (refine wpAnyH_take (i := 4) (v := ?_) rfl ?_ ?_ ?_ (fun _ _ _ h => h) (Or.inl ⟨?_, ?_⟩) ?_ ?_; rotate_left 1; (focus decide +kernel); (focus decide +kernel); (focus decide +kernel); (focus rfl); (focus (intro w hSw; (try dsimp only at hSw); go_simp; (try (with_reducible rfl)); done)); (focus assumption); (try simp only [Act.put, List.setIfInBounds_toArray, List.set_cons_zero, List.set_cons_succ, List.getElem_toArray, List.getElem_cons_succ, List.getElem_cons_zero]))
  refine wpAnyH_ready (rs := [5]) ?_ (by simp) ?_
  · decide +kernel
  refine AllReadyH.cons rfl (fun K hK => ?_) AllReadyH.nil
  have y0 : wb.cell? ⟨NT, 0, none⟩ = some (.int .i64 0) := Go.Joins.cell_of_block kT 0
  have y1 : wb.cell? ⟨NT, 1, none⟩ = some (.int .i64 0) := Go.Joins.cell_of_block kT 1
  have y2 : wb.cell? ⟨NT, 2, none⟩ = some (.slice none 0 0) := Go.Joins.cell_of_block kT 2
  have g0 : wb.frozen? ⟨NT, 0, none⟩ = false := Go.Joins.unfrozen_of_block kT 0
  have g1 : wb.frozen? ⟨NT, 1, none⟩ = false := Go.Joins.unfrozen_of_block kT 1
  have g2 : wb.frozen? ⟨NT, 2, none⟩ = false := Go.Joins.unfrozen_of_block kT 2
  have HKx := hid kT
  have HHx := hid hHeld
  have HAx := hid (And.intro hNTp lop)
  have HOx := hid op
  clear kT op hNTp lop
  go_simp
  have q0 := (Go.Joins.block_setCell (i := 2) (Go.Joins.block_setCell (i := 1) (Go.Joins.block_setCell (i := 0) HKx.out (.int .i64 H)) (.int .i64 W)) ((Value.slice (some ⟨p, 0, none⟩) M M)))
  have O5 := (own_set (own_set (own_set HOx.out ⟨NT, 0, none⟩ (.int .i64 H) (Nat.ne_of_lt HAx.out.1)) ⟨NT, 1, none⟩ (.int .i64 W) (Nat.ne_of_lt HAx.out.1)) ⟨NT, 2, none⟩ ((Value.slice (some ⟨p, 0, none⟩) M M)) (Nat.ne_of_lt HAx.out.1))
  have B5 := (((HHx.out.1.setCell (p := ⟨NT, 0, none⟩) HNT.out (.int .i64 H)).setCell (p := ⟨NT, 1, none⟩) HNT.out (.int .i64 W)).setCell (p := ⟨NT, 2, none⟩) HNT.out ((Value.slice (some ⟨p, 0, none⟩) M M)))
  obtain ⟨W5, hW⟩ : ∃ W5, W5 = (((wb.setCell ⟨NT, 0, none⟩ (.int .i64 H)).setCell ⟨NT, 1, none⟩ (.int .i64 W)).setCell ⟨NT, 2, none⟩ ((Value.slice (some ⟨p, 0, none⟩) M M))) := ⟨_, rfl⟩
  rw [← hW] at q0 O5 B5
  have z0 : W5.cell? ⟨NT, 0, none⟩ = some (.int .i64 H) := Go.Joins.cell_of_block q0 0
  have z1 : W5.cell? ⟨NT, 1, none⟩ = some (.int .i64 W) := Go.Joins.cell_of_block q0 1
  have z2 : W5.cell? ⟨NT, 2, none⟩ = some ((Value.slice (some ⟨p, 0, none⟩) M M)) := Go.Joins.cell_of_block q0 2
  have m0 : W5.cell? ⟨N, 0, none⟩ = some (.int .i64 H) := by rw [hW]; exact (FNew.set_cell (FNew.set_cell (FNew.set_cell HHx.out.2.1 HNN.out) HNN.out) HNN.out)
  have m1 : W5.cell? ⟨N, 1, none⟩ = some (.int .i64 W) := by rw [hW]; exact (FNew.set_cell (FNew.set_cell (FNew.set_cell HHx.out.2.2.1 HNN.out) HNN.out) HNN.out)
  refine hK.out _ _ ?_ (fun hHeld5 => ?_)
  · (try dsimp only); rw [← hW]; exact ⟨B5, m0, m1, B5.size⟩
  clear hK K hHeld5 hHeld m0 m1
  simp only [← hW]
  clear hW q0 y0 y1 y2 g0 g1 g2
  (try simp only [Act.put, List.setIfInBounds_toArray, List.set_cons_zero, List.set_cons_succ, List.getElem_toArray, List.getElem_cons_succ, List.getElem_cons_zero])
  refine wpAnyH_done (by kernel_rfl) ?_ _
  go_wp2
  simp [bodyPost, results, Try.results59, go_sem, z0, z1, z2]
  exact ⟨O5, HAx.out.2, B5⟩

end Go.Proofs.Ytnpjhhkhdeomcaa.Grd
