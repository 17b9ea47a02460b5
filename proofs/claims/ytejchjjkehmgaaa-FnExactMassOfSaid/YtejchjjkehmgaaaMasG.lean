/- MassOf of the program: the grid of the parts. -/
import Derived.Test.YtejchjjkehmgaaaMasI
import Derived.Test.YtejchjjkehmgaaaWIs
import Derived.Test.YtejchjjkehmgaaaFNew
namespace Go.Proofs.Ytejchjjkehmgaaa.MasG
open Go.RowKit Go.Proofs.Ytejchjjkehmgaaa.Rd Go.Proofs.Ytejchjjkehmgaaa.Rdb Go.Proofs.Ytejchjjkehmgaaa.Rdf Go.Proofs.Ytejchjjkehmgaaa.Fl Go.Proofs.Ytejchjjkehmgaaa.Help Go.Proofs.Ytejchjjkehmgaaa.Ring Go.Proofs.Ytejchjjkehmgaaa.Small Go.Proofs.Ytejchjjkehmgaaa.FVal Go.Proofs.Ytejchjjkehmgaaa.Keep Go.Proofs.Ytejchjjkehmgaaa.Rule Go.Proofs.Ytejchjjkehmgaaa.WVal Go.Proofs.Ytejchjjkehmgaaa.MasS
open Go.Proofs.Ytejchjjkehmgaaa.Fsm (accF sumG is_word is_zero)
set_option linter.unusedVariables false
set_option linter.unusedSimpArgs false

theorem made9 (w : World) (e : TypeId) (n : Nat) : (w.alloc (.cells (madeCells #[.float .f32 0, .float .f32 0, .float .f32 0, .float .f32 0, .float .f32 0, .float .f32 0, .float .f32 0, .float .f32 0, .float .f32 0] n) e)).rowIs w.heap.size e n (fun _ => .float .f32 0) := by
  refine ⟨_, Deep.blk_alloc_new _ _, size_madeCells _ _, fun i hi => ?_⟩
  have h9 : i % 9 < 9 := Nat.mod_lt _ (by decide)
  obtain ⟨q, hq⟩ : ∃ q, q = i % 9 := ⟨_, rfl⟩
  have e : (madeCells #[.float .f32 0, .float .f32 0, .float .f32 0, .float .f32 0, .float .f32 0, .float .f32 0, .float .f32 0, .float .f32 0, .float .f32 0] n)[i]? = some ((#[.float .f32 0, .float .f32 0, .float .f32 0, .float .f32 0, .float .f32 0, .float .f32 0, .float .f32 0, .float .f32 0, .float .f32 0] : Array Value)[i % 9]!) := by simp [madeCells, hi]
  rw [e, ← hq]
  rw [← hq] at h9
  rcases (show q = 0 ∨ q = 1 ∨ q = 2 ∨ q = 3 ∨ q = 4 ∨ q = 5 ∨ q = 6 ∨ q = 7 ∨ q = 8 by omega) with rfl | rfl | rfl | rfl | rfl | rfl | rfl | rfl | rfl <;> rfl
theorem info9 : (Try.prog.info? 96).map (fun i => (i.zero, i.size, i.bytes)) = some (some (.agg #[.float .f32 0, .float .f32 0, .float .f32 0, .float .f32 0, .float .f32 0, .float .f32 0, .float .f32 0, .float .f32 0, .float .f32 0]), 9, 36) := by kernel_rfl
theorem make9 {n : Nat} (hn : n ≤ 100000) (w : World) :
    (Instr.makeSlice 91 (.int .i64 (n : Int)) (.int .i64 (n : Int))).run Try.prog w = .ok (.slice (some ⟨w.heap.size, 0, none⟩) n n) (w.alloc (.cells (madeCells #[.float .f32 0, .float .f32 0, .float .f32 0, .float .f32 0, .float .f32 0, .float .f32 0, .float .f32 0, .float .f32 0, .float .f32 0] (n * 9)) 96)) := by
  obtain ⟨i, hi, hzz⟩ := Option.map_eq_some_iff.1 info9
  simp only [Prod.mk.injEq] at hzz
  obtain ⟨hz, hs, hb⟩ := hzz
  have hr := run_make (P := Try.prog) w 91 96 i (.agg #[.float .f32 0, .float .f32 0, .float .f32 0, .float .f32 0, .float .f32 0, .float .f32 0, .float .f32 0, .float .f32 0, .float .f32 0]) Try.underlying91 hi hz .i64 .i64 n n (by omega) (Int.le_refl _) (by rw [hb]; omega) (by omega)
  simp only [Int.toNat_natCast, hs] at hr
  exact hr

set_option maxHeartbeats 4000000 in
set_option maxRecDepth 100000 in
theorem newGrid {w : World} {s r : Int} {M : Nat} (h : sd16 s r = true) (hM : (M : Int) = s * r) (hM6 : M ≤ 256) :
    Calls Try.prog 128 #[shapeV s r] w fun e w' => ∃ p, e = .returned (.agg #[.int .i64 s, .int .i64 r, .slice (some ⟨p, 0, none⟩) M M]) ∧ w'.rowIs p 96 (M * 9) (fun _ => .float .f32 0) ∧ w.heap.size ≤ p ∧ Below w.heap.size w w' := by
  have HMM := hid hM
  have HSD := hid h
  have hmk := make9 (n := M) (by omega)
  clear hM hM6 h
  go_enter Try.func128, Try.ntmps128
  go_wp2_with fail
  obtain ⟨w1, hW⟩ : ∃ w1, w1 = (w.alloc (Obj.cells #[.int .i64 s, .int .i64 r] 90)).alloc (Obj.cells #[.int .i64 0, .int .i64 0, .slice none 0 0] 93) := ⟨_, rfl⟩
  obtain ⟨N, hN⟩ : ∃ N, N = w.heap.size := ⟨_, rfl⟩
  obtain ⟨NT, hT⟩ : ∃ NT, NT = N + 1 := ⟨_, rfl⟩
  have st : Below w.heap.size w w1 ∧ w1.cell? ⟨N, 0, none⟩ = some (.int .i64 s) ∧ w1.cell? ⟨N, 1, none⟩ = some (.int .i64 r) ∧ w.heap.size ≤ w1.heap.size := by
    rw [hW, hN]
    exact ⟨Go.Joins.below_alloc2 _ _ _, by simp, by simp, by simp; omega⟩
  have kT : w1.heap[NT]? = some (Obj.cells #[.int .i64 0, .int .i64 0, .slice none 0 0] 93) := by rw [hW]; exact FNew.heap_top (by rw [hT, hN]; simp)
  have HNT : Hid (w.heap.size ≤ NT) := by simp only [Hid]; omega
  have HNN : Hid (N ≠ NT) := by simp only [Hid]; omega
  simp only [← hW, ← hN, ← hT]
  clear hW hN hT
  refine wp_region_held_drew (S := (fun ww => Below w.heap.size w ww ∧ ww.cell? ⟨N, 0, none⟩ = some (.int .i64 s) ∧ ww.cell? ⟨N, 1, none⟩ = some (.int .i64 r) ∧ w.heap.size ≤ ww.heap.size)) (by kernel_rfl) ?_ (fun hHeld => ?_)
  · ((try dsimp only); exact drew2_0 st)
  replace kT : w1.drew.heap[NT]? = some (Obj.cells #[.int .i64 0, .int .i64 0, .slice none 0 0] 93) := kT
  generalize hD : w1.drew = wD at hHeld kT ⊢
  clear hD st
  (refine wpAnyH_take (i := 0) (v := ?_) rfl ?_ ?_ ?_ (fun _ _ _ h => h) (Or.inl ⟨?_, ?_⟩) ?_ ?_; rotate_left 1; (focus decide +kernel); (focus decide +kernel); (focus decide +kernel); (focus rfl); (focus (intro w hSw; (try dsimp only at hSw); go_simp; (try (with_reducible rfl)); done)); (focus assumption); (try simp only [Act.put, List.setIfInBounds_toArray, List.set_cons_zero, List.set_cons_succ, List.getElem_toArray, List.getElem_cons_succ, List.getElem_cons_zero]))
  (refine wpAnyH_take (i := 1) (v := ?_) rfl ?_ ?_ ?_ (fun _ _ _ h => h) (Or.inl ⟨?_, ?_⟩) ?_ ?_; rotate_left 1; (focus decide +kernel); (focus decide +kernel); (focus decide +kernel); (focus rfl); (focus (intro w hSw; (try dsimp only at hSw); go_simp; (try (with_reducible rfl)); done)); (focus assumption); (try simp only [Act.put, List.setIfInBounds_toArray, List.set_cons_zero, List.set_cons_succ, List.getElem_toArray, List.getElem_cons_succ, List.getElem_cons_zero]))
  refine wpAnyH_ready (rs := [2]) ?_ (by simp) ?_
  · decide +kernel
  refine AllReadyH.cons rfl (fun K hK => ?_) AllReadyH.nil
  go_simp
  go_at_call 129
  refine (WIs.size16 HSD.out HMM.out).mono ?_
  rintro e wa ⟨rfl, bel⟩
  replace kT := (bel.block NT (Array.getElem?_eq_some_iff.1 kT).1).trans kT
  refine hK.out _ _ ?_ (fun hHeld2 => ?_)
  · (try dsimp only); exact next2_0 bel hHeld
  clear hK K hHeld bel
  have hHeld := hHeld2
  clear hHeld2
  (try simp only [Act.put, List.setIfInBounds_toArray, List.set_cons_zero, List.set_cons_succ, List.getElem_toArray, List.getElem_cons_succ, List.getElem_cons_zero])
  refine wpAnyH_ready (rs := [3]) ?_ (by simp) ?_
  · decide +kernel
  refine AllReadyH.cons rfl (fun K hK => ?_) AllReadyH.nil
  go_simp
  refine hK.out _ _ ?_ (fun hHeld2 => ?_)
  · (try dsimp only); exact next2_0 (below1 _ _) hHeld
  clear hK K
  obtain ⟨wb, hWb⟩ : ∃ wb, wb = (wa.alloc (.cells (madeCells #[.float .f32 0, .float .f32 0, .float .f32 0, .float .f32 0, .float .f32 0, .float .f32 0, .float .f32 0, .float .f32 0, .float .f32 0] (M * 9)) 96)) := ⟨_, rfl⟩
  obtain ⟨p, hp⟩ : ∃ p, p = wa.heap.size := ⟨_, rfl⟩
  have bel : Below wa.heap.size wa wb := by rw [hWb]; exact below1 _ _
  have op : wb.rowIs p 96 (M * 9) (fun _ => .float .f32 0) := by rw [hWb, hp]; exact made9 wa 96 (M * 9)
  have hNTp : NT < p := by rw [hp]; exact (Array.getElem?_eq_some_iff.1 kT).1
  have lop : w.heap.size ≤ p := by rw [hp]; exact hHeld.1.size
  replace kT := (bel.block NT (Array.getElem?_eq_some_iff.1 kT).1).trans kT
  rw [← hWb] at hHeld2
  simp only [← hWb, ← hp]
  clear hHeld bel hWb hp
  have hHeld := hHeld2
  clear hHeld2
  (try simp only [Act.put, List.setIfInBounds_toArray, List.set_cons_zero, List.set_cons_succ, List.getElem_toArray, List.getElem_cons_succ, List.getElem_cons_zero])
  (refine wpAnyH_take (i := 4) (v := ?_) rfl ?_ ?_ ?_ (fun _ _ _ h => h) (Or.inl ⟨?_, ?_⟩) ?_ ?_; rotate_left 1; (focus decide +kernel); (focus decide +kernel); (focus decide +kernel); (focus rfl); (focus (intro w hSw; (try dsimp only at hSw); go_simp; (try (with_reducible rfl)); done)); (focus assumption); (try simp only [Act.put, List.setIfInBounds_toArray, List.set_cons_zero, List.set_cons_succ, List.getElem_toArray, List.getElem_cons_succ, List.getElem_cons_zero]))
  refine wpAnyH_ready (rs := [5]) ?_ (by simp) ?_
  · decide +kernel
  refine AllReadyH.cons rfl (fun K hK => ?_) AllReadyH.nil
  have y0 : wb.cell? ⟨NT, 0, none⟩ = some (.int .i64 0) := Go.Joins.cell_of_block kT 0
  have y1 : wb.cell? ⟨NT, 1, none⟩ = some (.int .i64 0) := Go.Joins.cell_of_block kT 1
  have y2 : wb.cell? ⟨NT, 2, none⟩ = some (.slice none 0 0) := Go.Joins.cell_of_block kT 2
  have g0 : wb.frozen? ⟨NT, 0, none⟩ = false := Go.Joins.unfrozen_of_block kT 0
  have g1 : wb.frozen? ⟨NT, 1, none⟩ = false := Go.Joins.unfrozen_of_block kT 1
  have g2 : wb.frozen? ⟨NT, 2, none⟩ = false := Go.Joins.unfrozen_of_block kT 2
  have HKx := hid kT
  have HHx := hid hHeld
  have HAx := hid (And.intro hNTp lop)
  have HOx := hid op
  clear kT op hNTp lop
  go_simp
  have q0 := (Go.Joins.block_setCell (i := 2) (Go.Joins.block_setCell (i := 1) (Go.Joins.block_setCell (i := 0) HKx.out (.int .i64 s)) (.int .i64 r)) ((Value.slice (some ⟨p, 0, none⟩) M M)))
  have O5 := (World.rowIs.setOther (World.rowIs.setOther (World.rowIs.setOther HOx.out (a := ⟨NT, 0, none⟩) (Nat.ne_of_gt HAx.out.1) (.int .i64 s)) (a := ⟨NT, 1, none⟩) (Nat.ne_of_gt HAx.out.1) (.int .i64 r)) (a := ⟨NT, 2, none⟩) (Nat.ne_of_gt HAx.out.1) ((Value.slice (some ⟨p, 0, none⟩) M M)))
  have B5 := (((HHx.out.1.setCell (p := ⟨NT, 0, none⟩) HNT.out (.int .i64 s)).setCell (p := ⟨NT, 1, none⟩) HNT.out (.int .i64 r)).setCell (p := ⟨NT, 2, none⟩) HNT.out ((Value.slice (some ⟨p, 0, none⟩) M M)))
  obtain ⟨W5, hW⟩ : ∃ W5, W5 = (((wb.setCell ⟨NT, 0, none⟩ (.int .i64 s)).setCell ⟨NT, 1, none⟩ (.int .i64 r)).setCell ⟨NT, 2, none⟩ ((Value.slice (some ⟨p, 0, none⟩) M M))) := ⟨_, rfl⟩
  rw [← hW] at q0 O5 B5
  have z0 : W5.cell? ⟨NT, 0, none⟩ = some (.int .i64 s) := Go.Joins.cell_of_block q0 0
  have z1 : W5.cell? ⟨NT, 1, none⟩ = some (.int .i64 r) := Go.Joins.cell_of_block q0 1
  have z2 : W5.cell? ⟨NT, 2, none⟩ = some ((Value.slice (some ⟨p, 0, none⟩) M M)) := Go.Joins.cell_of_block q0 2
  have m0 : W5.cell? ⟨N, 0, none⟩ = some (.int .i64 s) := by rw [hW]; exact (FNew.set_cell (FNew.set_cell (FNew.set_cell HHx.out.2.1 HNN.out) HNN.out) HNN.out)
  have m1 : W5.cell? ⟨N, 1, none⟩ = some (.int .i64 r) := by rw [hW]; exact (FNew.set_cell (FNew.set_cell (FNew.set_cell HHx.out.2.2.1 HNN.out) HNN.out) HNN.out)
  refine hK.out _ _ ?_ (fun hHeld5 => ?_)
  · (try dsimp only); rw [← hW]; exact ⟨B5, m0, m1, B5.size⟩
  clear hK K hHeld5 hHeld m0 m1
  simp only [← hW]
  clear hW q0 y0 y1 y2 g0 g1 g2
  (try simp only [Act.put, List.setIfInBounds_toArray, List.set_cons_zero, List.set_cons_succ, List.getElem_toArray, List.getElem_cons_succ, List.getElem_cons_zero])
  refine wpAnyH_done (by kernel_rfl) ?_ _
  go_wp2
  simp [bodyPost, results, Try.results128, go_sem, z0, z1, z2]
  exact ⟨O5, HAx.out.2, B5⟩

end Go.Proofs.Ytejchjjkehmgaaa.MasG
