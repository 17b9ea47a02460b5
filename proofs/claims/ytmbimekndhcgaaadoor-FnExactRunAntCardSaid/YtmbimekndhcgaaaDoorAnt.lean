/- The ant of impl.RunAnt: its turns and its steps. -/
import Derived.Test.YtmbimekndhcgaaaDoorBes
import Derived.Test.YtmbimekndhcgaaaDoorBox
import Derived.Test.YtmbimekndhcgaaaDoorRnd
import Derived.Test.YtmbimekndhcgaaaDoorFMir
import Derived.StillTailTactics
namespace Go.Proofs.YtmbimekndhcgaaaDoor.Ant
open Go.RowKit Go.Proofs.YtmbimekndhcgaaaDoor.Rd Go.Proofs.YtmbimekndhcgaaaDoor.Help Go.Proofs.YtmbimekndhcgaaaDoor.Small Go.Proofs.YtmbimekndhcgaaaDoor.FVal Go.Proofs.YtmbimekndhcgaaaDoor.Keep Go.Proofs.YtmbimekndhcgaaaDoor.Rule Go.Proofs.YtmbimekndhcgaaaDoor.Grow Go.Proofs.YtmbimekndhcgaaaDoor.Bes Go.Proofs.YtmbimekndhcgaaaDoor.Round
set_option linter.unusedVariables false
set_option linter.unusedSimpArgs false

/-- The box of a walker. -/
def antO (R C : Int) (v : Value) (row col way : Int) : Obj := Obj.cells #[.int .i64 R, .int .i64 C, v, .int .i64 row, .int .i64 col, .int .i64 way] 47
theorem ant_cells {w : World} {NW : Nat} {R C row col way : Int} {v : Value} (k : w.heap[NW]? = some (antO R C v row col way)) :
    w.cell? ⟨NW, 0, none⟩ = some (.int .i64 R) ∧ w.cell? ⟨NW, 1, none⟩ = some (.int .i64 C) ∧ w.cell? ⟨NW, 2, none⟩ = some v ∧ w.cell? ⟨NW, 3, none⟩ = some (.int .i64 row) ∧ w.cell? ⟨NW, 4, none⟩ = some (.int .i64 col) ∧ w.cell? ⟨NW, 5, none⟩ = some (.int .i64 way) :=
  ⟨Go.Joins.cell_of_block k 0, Go.Joins.cell_of_block k 1, Go.Joins.cell_of_block k 2, Go.Joins.cell_of_block k 3, Go.Joins.cell_of_block k 4, Go.Joins.cell_of_block k 5⟩
theorem ant_free {w : World} {NW : Nat} {R C row col way : Int} {v : Value} (k : w.heap[NW]? = some (antO R C v row col way)) (i : Nat) : w.frozen? ⟨NW, i, none⟩ = false := Go.Joins.unfrozen_of_block k i
theorem ant_way {w : World} {NW : Nat} {R C row col way : Int} {v : Value} (k : w.heap[NW]? = some (antO R C v row col way)) (x : Int) : (w.setCell ⟨NW, 5, none⟩ (.int .i64 x)).heap[NW]? = some (antO R C v row col x) := Go.Joins.block_setCell (i := 5) k (.int .i64 x)
theorem ant_row {w : World} {NW : Nat} {R C row col way : Int} {v : Value} (k : w.heap[NW]? = some (antO R C v row col way)) (x : Int) : (w.setCell ⟨NW, 3, none⟩ (.int .i64 x)).heap[NW]? = some (antO R C v x col way) := Go.Joins.block_setCell (i := 3) k (.int .i64 x)
theorem ant_col {w : World} {NW : Nat} {R C row col way : Int} {v : Value} (k : w.heap[NW]? = some (antO R C v row col way)) (x : Int) : (w.setCell ⟨NW, 4, none⟩ (.int .i64 x)).heap[NW]? = some (antO R C v row x way) := Go.Joins.block_setCell (i := 4) k (.int .i64 x)

set_option maxHeartbeats 1000000 in
theorem toRight {w : World} {NW : Nat} {R C row col way : Int} {v : Value} (k : w.heap[NW]? = some (antO R C v row col way)) (hw : 0 ≤ way ∧ way ≤ 3) :
    Calls Tryd.prog 30 #[.pointer (some ⟨NW, 0, none⟩)] w fun e w' => (∃ x, e = .returned x) ∧ w'.heap[NW]? = some (antO R C v row col ((way + 1) % 4)) ∧ w.grownBy w' (some NW) := by
  have HK := hid k
  have k5 := (ant_cells k).2.2.2.2.2
  have f5 := ant_free k 5
  clear k
  go_enter Tryd.func30, Tryd.ntmps30
  go_wp2_with fail
  go_at_call 37
  refine (onRoundI (by omega) (by omega)).mono ?_
  rintro e w2 ⟨rfl, rfl⟩
  go_wp2
  go_end0
  exact ⟨⟨_, rfl⟩, ant_way HK.out _, g_set (g_refl _ _) 5 _⟩
set_option maxHeartbeats 1000000 in
theorem toLeft {w : World} {NW : Nat} {R C row col way : Int} {v : Value} (k : w.heap[NW]? = some (antO R C v row col way)) (hw : 0 ≤ way ∧ way ≤ 3) :
    Calls Tryd.prog 31 #[.pointer (some ⟨NW, 0, none⟩)] w fun e w' => (∃ x, e = .returned x) ∧ w'.heap[NW]? = some (antO R C v row col ((way + 3) % 4)) ∧ w.grownBy w' (some NW) := by
  have HE : Hid ((way - 1) % 4 = (way + 3) % 4) := by simp only [Hid]; omega
  have HK := hid k
  have k5 := (ant_cells k).2.2.2.2.2
  have f5 := ant_free k 5
  clear k
  go_enter Tryd.func31, Tryd.ntmps31
  go_wp2_with fail
  go_at_call 37
  refine (onRoundI (by omega) (by omega)).mono ?_
  rintro e w2 ⟨rfl, rfl⟩
  go_wp2
  go_end0
  rw [← HE.out]
  exact ⟨⟨_, rfl⟩, ant_way HK.out _, g_set (g_refl _ _) 5 _⟩

set_option maxHeartbeats 2000000 in
theorem goOn0 {w : World} {NW : Nat} {R C : Nat} {row col : Int} {v : Value} (k : w.heap[NW]? = some (antO R C v row col 0)) (hg : GW w) (hR : 1 ≤ R ∧ R ≤ 24) (hC : 1 ≤ C ∧ C ≤ 24) (hr : 0 ≤ row ∧ row ≤ 24) (hc : 0 ≤ col ∧ col ≤ 24) :
    Calls Tryd.prog 33 #[.pointer (some ⟨NW, 0, none⟩)] w fun e w' => (∃ x, e = .returned x) ∧ w'.heap[NW]? = some (antO R C v ((row + (-1)) % (R : Int)) ((col) % (C : Int)) 0) ∧ w.grownBy w' (some NW) := by
  have HK := hid k
  have hNl := (Array.getElem?_eq_some_iff.1 k).1
  have k5 := (ant_cells k).2.2.2.2.2
  obtain ⟨t, fr, hG⟩ := hg
  have d0 : w.cell? ⟨0, 0, none⟩ = some (.int .i64 (-1)) := Go.Joins.cell_of_block hG 0
  have d1 : w.cell? ⟨0, 1, none⟩ = some (.int .i64 0) := Go.Joins.cell_of_block hG 1
  have wr1 : IntKind.i64.wrap (row + (-1)) = row + (-1) := by rw [IntKind.wrap_i64]; omega
  have wr2 : IntKind.i64.wrap (col) = col := by rw [IntKind.wrap_i64]; omega
  clear k hG
  go_enter Tryd.func33, Tryd.ntmps33
  go_wp2_with fail
  obtain ⟨w1, hW⟩ : ∃ w1, w1 = w.alloc (Obj.cells #[.int .i64 (-1), .int .i64 0] 42) := ⟨_, rfl⟩
  obtain ⟨NB, hN⟩ : ∃ NB, NB = w.heap.size := ⟨_, rfl⟩
  have bel : Below w.heap.size w w1 := by rw [hW]; exact below1 _ _
  have HBw1 : Hid (w1.heap[NB]? = some (Obj.cells #[.int .i64 (-1), .int .i64 0] 42)) := by simp only [Hid]; rw [hW]; exact FNew.heap_top hN
  have HKw1 := hid (Box.heap_keep bel HK.out)
  have HNWB : Hid (NW ≠ NB) := by simp only [Hid]; omega
  have HGw1 := hid (g_bel (g_refl w NW) bel)
  simp only [← hW, ← hN]
  clear hW hN bel hNl k5 d0 d1
  (try refine Box.wp_noPanic ?_)
  refine wp_region_held_drew (S := (fun ww => ww.cell? ⟨NW, 0, none⟩ = some (.int .i64 (R : Int)) ∧ ww.cell? ⟨NB, 0, none⟩ = some (.int .i64 (-1)))) (by kernel_rfl) ?_ (fun hHeld => ?_)
  · ((try dsimp only); exact ⟨(ant_cells HKw1.out).1, Go.Joins.cell_of_block HBw1.out 0⟩)
  obtain ⟨wD, hDr⟩ : ∃ wD, wD = w1.drew := ⟨_, rfl⟩
  have HKD : Hid (wD.heap[NW]? = some (antO R C v row col 0)) := by simp only [Hid]; rw [hDr]; exact HKw1.out
  have HBD : Hid (wD.heap[NB]? = some (Obj.cells #[.int .i64 (-1), .int .i64 0] 42)) := by simp only [Hid]; rw [hDr]; exact HBw1.out
  have HGD : Hid (w.grownBy wD (some NW)) := by simp only [Hid]; rw [hDr]; exact g_drew HGw1.out
  simp only [← hDr] at hHeld ⊢
  clear hDr
  have cv := (ant_cells HKD.out).2.2.2.1
  have cf := ant_free HKD.out 3
  (try dsimp only at hHeld)
  (refine wpAnyH_take (i := 0) (v := ?_) rfl ?_ ?_ ?_ (fun _ _ _ h => h) (Or.inl ⟨?_, ?_⟩) ?_ ?_; rotate_left 1; (focus decide +kernel); (focus decide +kernel); (focus decide +kernel); (focus rfl); (focus (intro w hSw; (try dsimp only at hSw); go_simp; (try (with_reducible rfl)); done)); (focus assumption); (try simp only [Act.put, List.setIfInBounds_toArray, List.set_cons_zero, List.set_cons_succ, List.getElem_toArray, List.getElem_cons_succ, List.getElem_cons_zero]))
  (refine wpAnyH_take (i := 1) (v := ?_) rfl ?_ ?_ ?_ (fun _ _ _ h => h) (Or.inl ⟨?_, ?_⟩) ?_ ?_; rotate_left 1; (focus decide +kernel); (focus decide +kernel); (focus decide +kernel); (focus rfl); (focus (intro w hSw; (try dsimp only at hSw); go_simp; (try (with_reducible rfl)); done)); (focus assumption); (try simp only [Act.put, List.setIfInBounds_toArray, List.set_cons_zero, List.set_cons_succ, List.getElem_toArray, List.getElem_cons_succ, List.getElem_cons_zero]))
  (refine wpAnyH_take (i := 2) (v := ?_) rfl ?_ ?_ ?_ (fun _ _ _ h => h) (Or.inl ⟨?_, ?_⟩) ?_ ?_; rotate_left 1; (focus decide +kernel); (focus decide +kernel); (focus decide +kernel); (focus rfl); (focus (intro w hSw; (try dsimp only at hSw); go_simp; (try (with_reducible rfl)); done)); (focus assumption); (try simp only [Act.put, List.setIfInBounds_toArray, List.set_cons_zero, List.set_cons_succ, List.getElem_toArray, List.getElem_cons_succ, List.getElem_cons_zero]))
  (refine wpAnyH_take (i := 3) (v := ?_) rfl ?_ ?_ ?_ (fun _ _ _ h => h) (Or.inl ⟨?_, ?_⟩) ?_ ?_; rotate_left 1; (focus decide +kernel); (focus decide +kernel); (focus decide +kernel); (focus rfl); (focus (intro w hSw; (try dsimp only at hSw); go_simp; (try (with_reducible rfl)); done)); (focus assumption); (try simp only [Act.put, List.setIfInBounds_toArray, List.set_cons_zero, List.set_cons_succ, List.getElem_toArray, List.getElem_cons_succ, List.getElem_cons_zero]))
  (refine wpAnyH_take (i := 5) (v := ?_) rfl ?_ ?_ ?_ (fun _ _ _ h => h) (Or.inl ⟨?_, ?_⟩) ?_ ?_; rotate_left 1; (focus decide +kernel); (focus decide +kernel); (focus decide +kernel); (focus rfl); (focus (intro w hSw; (try dsimp only at hSw); go_simp; (try (with_reducible rfl)); done)); (focus assumption); (try simp only [Act.put, List.setIfInBounds_toArray, List.set_cons_zero, List.set_cons_succ, List.getElem_toArray, List.getElem_cons_succ, List.getElem_cons_zero]))
  (refine wpAnyH_take (i := 6) (v := ?_) rfl ?_ ?_ ?_ (fun _ _ _ h => h) (Or.inl ⟨?_, ?_⟩) ?_ ?_; rotate_left 1; (focus decide +kernel); (focus decide +kernel); (focus decide +kernel); (focus rfl); (focus (intro w hSw; (try dsimp only at hSw); go_simp; (try (with_reducible rfl)); done)); (focus assumption); (try simp only [Act.put, List.setIfInBounds_toArray, List.set_cons_zero, List.set_cons_succ, List.getElem_toArray, List.getElem_cons_succ, List.getElem_cons_zero]))
  (refine wpAnyH_take (i := 8) (v := ?_) rfl ?_ ?_ ?_ (fun _ _ _ h => h) (Or.inl ⟨?_, ?_⟩) ?_ ?_; rotate_left 1; (focus decide +kernel); (focus decide +kernel); (focus decide +kernel); (focus rfl); (focus (intro w hSw; (try dsimp only at hSw); go_simp; (try (with_reducible rfl)); done)); (focus assumption); (try simp only [Act.put, List.setIfInBounds_toArray, List.set_cons_zero, List.set_cons_succ, List.getElem_toArray, List.getElem_cons_succ, List.getElem_cons_zero]))
  (refine wpAnyH_take (i := 9) (v := ?_) rfl ?_ ?_ ?_ (fun _ _ _ h => h) (Or.inl ⟨?_, ?_⟩) ?_ ?_; rotate_left 1; (focus decide +kernel); (focus decide +kernel); (focus decide +kernel); (focus rfl); (focus (intro w hSw; (try dsimp only at hSw); go_simp; (try (with_reducible rfl)); done)); (focus assumption); (try simp only [Act.put, List.setIfInBounds_toArray, List.set_cons_zero, List.set_cons_succ, List.getElem_toArray, List.getElem_cons_succ, List.getElem_cons_zero]))
  (refine wpAnyH_take (i := 10) (v := ?_) rfl ?_ ?_ ?_ (fun _ _ _ h => h) (Or.inl ⟨?_, ?_⟩) ?_ ?_; rotate_left 1; (focus decide +kernel); (focus decide +kernel); (focus decide +kernel); (focus rfl); (focus (intro w hSw; (try dsimp only at hSw); go_simp; (try (with_reducible rfl)); done)); (focus assumption); (try simp only [Act.put, List.setIfInBounds_toArray, List.set_cons_zero, List.set_cons_succ, List.getElem_toArray, List.getElem_cons_succ, List.getElem_cons_zero]))
  (refine wpAnyH_take (i := 11) (v := ?_) rfl ?_ ?_ ?_ (fun _ _ _ h => h) (Or.inl ⟨?_, ?_⟩) ?_ ?_; rotate_left 1; (focus decide +kernel); (focus decide +kernel); (focus decide +kernel); (focus rfl); (focus (intro w hSw; (try dsimp only at hSw); go_simp; (try (with_reducible rfl)); done)); (focus assumption); (try simp only [Act.put, List.setIfInBounds_toArray, List.set_cons_zero, List.set_cons_succ, List.getElem_toArray, List.getElem_cons_succ, List.getElem_cons_zero]))
  (refine wpAnyH_take (i := 12) (v := ?_) rfl ?_ ?_ ?_ (fun _ _ _ h => h) (Or.inl ⟨?_, ?_⟩) ?_ ?_; rotate_left 1; (focus decide +kernel); (focus decide +kernel); (focus decide +kernel); (focus rfl); (focus (intro w hSw; (try dsimp only at hSw); go_simp; (try (with_reducible rfl)); done)); (focus assumption); (try simp only [Act.put, List.setIfInBounds_toArray, List.set_cons_zero, List.set_cons_succ, List.getElem_toArray, List.getElem_cons_succ, List.getElem_cons_zero]))
  refine wpAnyH_ready (rs := [4]) ?_ (by simp) ?_
  · decide +kernel
  refine AllReadyH.cons rfl (fun K hK => ?_) AllReadyH.nil
  go_simp
  refine hK.out _ _ ?_ (fun hHeld2 => ?_)
  · (try dsimp only); exact hHeld
  clear hK K hHeld2
  (try simp only [Act.put, List.setIfInBounds_toArray, List.set_cons_zero, List.set_cons_succ, List.getElem_toArray, List.getElem_cons_succ, List.getElem_cons_zero])
  (refine wpAnyH_take (i := 7) (v := ?_) rfl ?_ ?_ ?_ (fun _ _ _ h => h) (Or.inl ⟨?_, ?_⟩) ?_ ?_; rotate_left 1; (focus decide +kernel); (focus decide +kernel); (focus decide +kernel); (focus rfl); (focus (intro w hSw; (try dsimp only at hSw); go_simp; (try (with_reducible rfl)); done)); (focus assumption); (try simp only [Act.put, List.setIfInBounds_toArray, List.set_cons_zero, List.set_cons_succ, List.getElem_toArray, List.getElem_cons_succ, List.getElem_cons_zero]))
  refine wpAnyH_ready (rs := [13]) ?_ (by simp) ?_
  · decide +kernel
  refine AllReadyH.cons rfl (fun K hK => ?_) AllReadyH.nil
  go_simp
  go_at_call 37
  refine (onRoundI (by omega) (by omega)).mono ?_
  rintro e w2 ⟨rfl, rfl⟩
  refine hK.out _ _ ?_ (fun hHeld2 => ?_)
  · (try dsimp only); exact hHeld
  clear hK K hHeld2
  (try simp only [Act.put, List.setIfInBounds_toArray, List.set_cons_zero, List.set_cons_succ, List.getElem_toArray, List.getElem_cons_succ, List.getElem_cons_zero])
  (refine wpAnyH_take (i := 14) (v := ?_) rfl ?_ ?_ ?_ (fun _ _ _ h => h) (Or.inl ⟨?_, ?_⟩) ?_ ?_; rotate_left 1; (focus decide +kernel); (focus decide +kernel); (focus decide +kernel); (focus rfl); (focus (intro w hSw; (try dsimp only at hSw); go_simp; (try (with_reducible rfl)); done)); (focus assumption); (try simp only [Act.put, List.setIfInBounds_toArray, List.set_cons_zero, List.set_cons_succ, List.getElem_toArray, List.getElem_cons_succ, List.getElem_cons_zero]))
  (refine wpAnyH_take (i := 15) (v := ?_) rfl ?_ ?_ ?_ (fun _ _ _ h => h) (Or.inl ⟨?_, ?_⟩) ?_ ?_; rotate_left 1; (focus decide +kernel); (focus decide +kernel); (focus decide +kernel); (focus rfl); (focus (intro w hSw; (try dsimp only at hSw); go_simp; (try (with_reducible rfl)); done)); (focus assumption); (try simp only [Act.put, List.setIfInBounds_toArray, List.set_cons_zero, List.set_cons_succ, List.getElem_toArray, List.getElem_cons_succ, List.getElem_cons_zero]))
  refine wpAnyH_ready (rs := [16]) ?_ (by simp) ?_
  · decide +kernel
  refine AllReadyH.cons rfl (fun K hK => ?_) AllReadyH.nil
  go_simp
  refine hK.out _ _ ?_ (fun hHeld2 => ?_)
  · (try dsimp only); exact ⟨(ant_cells (ant_row HKD.out _)).1, set_cell hHeld.2 HNWB.out.symm⟩
  clear hK K hHeld2
  (try simp only [Act.put, List.setIfInBounds_toArray, List.set_cons_zero, List.set_cons_succ, List.getElem_toArray, List.getElem_cons_succ, List.getElem_cons_zero])
  refine wpAnyH_done (by kernel_rfl) ?_ _
  obtain ⟨w3, hWn⟩ : ∃ w3, w3 = wD.setCell ⟨NW, 3, none⟩ (.int .i64 ((row + (-1)) % (R : Int))) := ⟨_, rfl⟩
  have HKw3 : Hid (w3.heap[NW]? = some (antO R C v ((row + (-1)) % (R : Int)) col 0)) := by simp only [Hid]; rw [hWn]; exact ant_row HKD.out _
  have HBw3 : Hid (w3.heap[NB]? = some (Obj.cells #[.int .i64 (-1), .int .i64 0] 42)) := by simp only [Hid]; rw [hWn]; exact (Below.heap_setCell _ ⟨NW, 3, none⟩ _ _ HNWB.out.symm).trans HBD.out
  have HGw3 : Hid (w.grownBy w3 (some NW)) := by simp only [Hid]; rw [hWn]; exact g_set HGD.out 3 _
  simp only [← hWn]
  clear hWn hHeld cv cf HKD HBD HGD
  go_wp2_with fail
  (try refine Box.wp_noPanic ?_)
  refine wp_region_held_drew (S := (fun ww => ww.cell? ⟨NW, 1, none⟩ = some (.int .i64 (C : Int)) ∧ ww.cell? ⟨NB, 1, none⟩ = some (.int .i64 0))) (by kernel_rfl) ?_ (fun hHeld => ?_)
  · ((try dsimp only); exact ⟨(ant_cells HKw3.out).2.1, Go.Joins.cell_of_block HBw3.out 1⟩)
  obtain ⟨wD, hDr⟩ : ∃ wD, wD = w3.drew := ⟨_, rfl⟩
  have HKD : Hid (wD.heap[NW]? = some (antO R C v ((row + (-1)) % (R : Int)) col 0)) := by simp only [Hid]; rw [hDr]; exact HKw3.out
  have HBD : Hid (wD.heap[NB]? = some (Obj.cells #[.int .i64 (-1), .int .i64 0] 42)) := by simp only [Hid]; rw [hDr]; exact HBw3.out
  have HGD : Hid (w.grownBy wD (some NW)) := by simp only [Hid]; rw [hDr]; exact g_drew HGw3.out
  simp only [← hDr] at hHeld ⊢
  clear hDr
  have cv := (ant_cells HKD.out).2.2.2.2.1
  have cf := ant_free HKD.out 4
  (try dsimp only at hHeld)
  (refine wpAnyH_take (i := 0) (v := ?_) rfl ?_ ?_ ?_ (fun _ _ _ h => h) (Or.inl ⟨?_, ?_⟩) ?_ ?_; rotate_left 1; (focus decide +kernel); (focus decide +kernel); (focus decide +kernel); (focus rfl); (focus (intro w hSw; (try dsimp only at hSw); go_simp; (try (with_reducible rfl)); done)); (focus assumption); (try simp only [Act.put, List.setIfInBounds_toArray, List.set_cons_zero, List.set_cons_succ, List.getElem_toArray, List.getElem_cons_succ, List.getElem_cons_zero]))
  (refine wpAnyH_take (i := 1) (v := ?_) rfl ?_ ?_ ?_ (fun _ _ _ h => h) (Or.inl ⟨?_, ?_⟩) ?_ ?_; rotate_left 1; (focus decide +kernel); (focus decide +kernel); (focus decide +kernel); (focus rfl); (focus (intro w hSw; (try dsimp only at hSw); go_simp; (try (with_reducible rfl)); done)); (focus assumption); (try simp only [Act.put, List.setIfInBounds_toArray, List.set_cons_zero, List.set_cons_succ, List.getElem_toArray, List.getElem_cons_succ, List.getElem_cons_zero]))
  (refine wpAnyH_take (i := 2) (v := ?_) rfl ?_ ?_ ?_ (fun _ _ _ h => h) (Or.inl ⟨?_, ?_⟩) ?_ ?_; rotate_left 1; (focus decide +kernel); (focus decide +kernel); (focus decide +kernel); (focus rfl); (focus (intro w hSw; (try dsimp only at hSw); go_simp; (try (with_reducible rfl)); done)); (focus assumption); (try simp only [Act.put, List.setIfInBounds_toArray, List.set_cons_zero, List.set_cons_succ, List.getElem_toArray, List.getElem_cons_succ, List.getElem_cons_zero]))
  (refine wpAnyH_take (i := 3) (v := ?_) rfl ?_ ?_ ?_ (fun _ _ _ h => h) (Or.inl ⟨?_, ?_⟩) ?_ ?_; rotate_left 1; (focus decide +kernel); (focus decide +kernel); (focus decide +kernel); (focus rfl); (focus (intro w hSw; (try dsimp only at hSw); go_simp; (try (with_reducible rfl)); done)); (focus assumption); (try simp only [Act.put, List.setIfInBounds_toArray, List.set_cons_zero, List.set_cons_succ, List.getElem_toArray, List.getElem_cons_succ, List.getElem_cons_zero]))
  (refine wpAnyH_take (i := 5) (v := ?_) rfl ?_ ?_ ?_ (fun _ _ _ h => h) (Or.inl ⟨?_, ?_⟩) ?_ ?_; rotate_left 1; (focus decide +kernel); (focus decide +kernel); (focus decide +kernel); (focus rfl); (focus (intro w hSw; (try dsimp only at hSw); go_simp; (try (with_reducible rfl)); done)); (focus assumption); (try simp only [Act.put, List.setIfInBounds_toArray, List.set_cons_zero, List.set_cons_succ, List.getElem_toArray, List.getElem_cons_succ, List.getElem_cons_zero]))
  (refine wpAnyH_take (i := 6) (v := ?_) rfl ?_ ?_ ?_ (fun _ _ _ h => h) (Or.inl ⟨?_, ?_⟩) ?_ ?_; rotate_left 1; (focus decide +kernel); (focus decide +kernel); (focus decide +kernel); (focus rfl); (focus (intro w hSw; (try dsimp only at hSw); go_simp; (try (with_reducible rfl)); done)); (focus assumption); (try simp only [Act.put, List.setIfInBounds_toArray, List.set_cons_zero, List.set_cons_succ, List.getElem_toArray, List.getElem_cons_succ, List.getElem_cons_zero]))
  (refine wpAnyH_take (i := 8) (v := ?_) rfl ?_ ?_ ?_ (fun _ _ _ h => h) (Or.inl ⟨?_, ?_⟩) ?_ ?_; rotate_left 1; (focus decide +kernel); (focus decide +kernel); (focus decide +kernel); (focus rfl); (focus (intro w hSw; (try dsimp only at hSw); go_simp; (try (with_reducible rfl)); done)); (focus assumption); (try simp only [Act.put, List.setIfInBounds_toArray, List.set_cons_zero, List.set_cons_succ, List.getElem_toArray, List.getElem_cons_succ, List.getElem_cons_zero]))
  (refine wpAnyH_take (i := 9) (v := ?_) rfl ?_ ?_ ?_ (fun _ _ _ h => h) (Or.inl ⟨?_, ?_⟩) ?_ ?_; rotate_left 1; (focus decide +kernel); (focus decide +kernel); (focus decide +kernel); (focus rfl); (focus (intro w hSw; (try dsimp only at hSw); go_simp; (try (with_reducible rfl)); done)); (focus assumption); (try simp only [Act.put, List.setIfInBounds_toArray, List.set_cons_zero, List.set_cons_succ, List.getElem_toArray, List.getElem_cons_succ, List.getElem_cons_zero]))
  (refine wpAnyH_take (i := 10) (v := ?_) rfl ?_ ?_ ?_ (fun _ _ _ h => h) (Or.inl ⟨?_, ?_⟩) ?_ ?_; rotate_left 1; (focus decide +kernel); (focus decide +kernel); (focus decide +kernel); (focus rfl); (focus (intro w hSw; (try dsimp only at hSw); go_simp; (try (with_reducible rfl)); done)); (focus assumption); (try simp only [Act.put, List.setIfInBounds_toArray, List.set_cons_zero, List.set_cons_succ, List.getElem_toArray, List.getElem_cons_succ, List.getElem_cons_zero]))
  (refine wpAnyH_take (i := 11) (v := ?_) rfl ?_ ?_ ?_ (fun _ _ _ h => h) (Or.inl ⟨?_, ?_⟩) ?_ ?_; rotate_left 1; (focus decide +kernel); (focus decide +kernel); (focus decide +kernel); (focus rfl); (focus (intro w hSw; (try dsimp only at hSw); go_simp; (try (with_reducible rfl)); done)); (focus assumption); (try simp only [Act.put, List.setIfInBounds_toArray, List.set_cons_zero, List.set_cons_succ, List.getElem_toArray, List.getElem_cons_succ, List.getElem_cons_zero]))
  (refine wpAnyH_take (i := 12) (v := ?_) rfl ?_ ?_ ?_ (fun _ _ _ h => h) (Or.inl ⟨?_, ?_⟩) ?_ ?_; rotate_left 1; (focus decide +kernel); (focus decide +kernel); (focus decide +kernel); (focus rfl); (focus (intro w hSw; (try dsimp only at hSw); go_simp; (try (with_reducible rfl)); done)); (focus assumption); (try simp only [Act.put, List.setIfInBounds_toArray, List.set_cons_zero, List.set_cons_succ, List.getElem_toArray, List.getElem_cons_succ, List.getElem_cons_zero]))
  refine wpAnyH_ready (rs := [4]) ?_ (by simp) ?_
  · decide +kernel
  refine AllReadyH.cons rfl (fun K hK => ?_) AllReadyH.nil
  go_simp
  refine hK.out _ _ ?_ (fun hHeld2 => ?_)
  · (try dsimp only); exact hHeld
  clear hK K hHeld2
  (try simp only [Act.put, List.setIfInBounds_toArray, List.set_cons_zero, List.set_cons_succ, List.getElem_toArray, List.getElem_cons_succ, List.getElem_cons_zero])
  (refine wpAnyH_take (i := 7) (v := ?_) rfl ?_ ?_ ?_ (fun _ _ _ h => h) (Or.inl ⟨?_, ?_⟩) ?_ ?_; rotate_left 1; (focus decide +kernel); (focus decide +kernel); (focus decide +kernel); (focus rfl); (focus (intro w hSw; (try dsimp only at hSw); go_simp; (try (with_reducible rfl)); done)); (focus assumption); (try simp only [Act.put, List.setIfInBounds_toArray, List.set_cons_zero, List.set_cons_succ, List.getElem_toArray, List.getElem_cons_succ, List.getElem_cons_zero]))
  refine wpAnyH_ready (rs := [13]) ?_ (by simp) ?_
  · decide +kernel
  refine AllReadyH.cons rfl (fun K hK => ?_) AllReadyH.nil
  go_simp
  go_at_call 37
  refine (onRoundI (by omega) (by omega)).mono ?_
  rintro e w2 ⟨rfl, rfl⟩
  refine hK.out _ _ ?_ (fun hHeld2 => ?_)
  · (try dsimp only); exact hHeld
  clear hK K hHeld2
  (try simp only [Act.put, List.setIfInBounds_toArray, List.set_cons_zero, List.set_cons_succ, List.getElem_toArray, List.getElem_cons_succ, List.getElem_cons_zero])
  (refine wpAnyH_take (i := 14) (v := ?_) rfl ?_ ?_ ?_ (fun _ _ _ h => h) (Or.inl ⟨?_, ?_⟩) ?_ ?_; rotate_left 1; (focus decide +kernel); (focus decide +kernel); (focus decide +kernel); (focus rfl); (focus (intro w hSw; (try dsimp only at hSw); go_simp; (try (with_reducible rfl)); done)); (focus assumption); (try simp only [Act.put, List.setIfInBounds_toArray, List.set_cons_zero, List.set_cons_succ, List.getElem_toArray, List.getElem_cons_succ, List.getElem_cons_zero]))
  (refine wpAnyH_take (i := 15) (v := ?_) rfl ?_ ?_ ?_ (fun _ _ _ h => h) (Or.inl ⟨?_, ?_⟩) ?_ ?_; rotate_left 1; (focus decide +kernel); (focus decide +kernel); (focus decide +kernel); (focus rfl); (focus (intro w hSw; (try dsimp only at hSw); go_simp; (try (with_reducible rfl)); done)); (focus assumption); (try simp only [Act.put, List.setIfInBounds_toArray, List.set_cons_zero, List.set_cons_succ, List.getElem_toArray, List.getElem_cons_succ, List.getElem_cons_zero]))
  refine wpAnyH_ready (rs := [16]) ?_ (by simp) ?_
  · decide +kernel
  refine AllReadyH.cons rfl (fun K hK => ?_) AllReadyH.nil
  go_simp
  refine hK.out _ _ ?_ (fun hHeld2 => ?_)
  · (try dsimp only); exact ⟨(ant_cells (ant_col HKD.out _)).2.1, set_cell hHeld.2 HNWB.out.symm⟩
  clear hK K hHeld2
  (try simp only [Act.put, List.setIfInBounds_toArray, List.set_cons_zero, List.set_cons_succ, List.getElem_toArray, List.getElem_cons_succ, List.getElem_cons_zero])
  refine wpAnyH_done (by kernel_rfl) ?_ _
  obtain ⟨w5, hWn⟩ : ∃ w5, w5 = wD.setCell ⟨NW, 4, none⟩ (.int .i64 ((col) % (C : Int))) := ⟨_, rfl⟩
  have HKw5 : Hid (w5.heap[NW]? = some (antO R C v ((row + (-1)) % (R : Int)) ((col) % (C : Int)) 0)) := by simp only [Hid]; rw [hWn]; exact ant_col HKD.out _
  have HBw5 : Hid (w5.heap[NB]? = some (Obj.cells #[.int .i64 (-1), .int .i64 0] 42)) := by simp only [Hid]; rw [hWn]; exact (Below.heap_setCell _ ⟨NW, 4, none⟩ _ _ HNWB.out.symm).trans HBD.out
  have HGw5 : Hid (w.grownBy w5 (some NW)) := by simp only [Hid]; rw [hWn]; exact g_set HGD.out 4 _
  simp only [← hWn]
  clear hWn hHeld cv cf HKD HBD HGD
  go_wp2
  go_end0
  exact ⟨⟨_, rfl⟩, HKw5.out, HGw5.out⟩

set_option maxHeartbeats 2000000 in
theorem goOn1 {w : World} {NW : Nat} {R C : Nat} {row col : Int} {v : Value} (k : w.heap[NW]? = some (antO R C v row col 1)) (hg : GW w) (hR : 1 ≤ R ∧ R ≤ 24) (hC : 1 ≤ C ∧ C ≤ 24) (hr : 0 ≤ row ∧ row ≤ 24) (hc : 0 ≤ col ∧ col ≤ 24) :
    Calls Tryd.prog 33 #[.pointer (some ⟨NW, 0, none⟩)] w fun e w' => (∃ x, e = .returned x) ∧ w'.heap[NW]? = some (antO R C v ((row) % (R : Int)) ((col + 1) % (C : Int)) 1) ∧ w.grownBy w' (some NW) := by
  have HK := hid k
  have hNl := (Array.getElem?_eq_some_iff.1 k).1
  have k5 := (ant_cells k).2.2.2.2.2
  obtain ⟨t, fr, hG⟩ := hg
  have d0 : w.cell? ⟨0, 2, none⟩ = some (.int .i64 0) := Go.Joins.cell_of_block hG 2
  have d1 : w.cell? ⟨0, 3, none⟩ = some (.int .i64 1) := Go.Joins.cell_of_block hG 3
  have wr1 : IntKind.i64.wrap (row) = row := by rw [IntKind.wrap_i64]; omega
  have wr2 : IntKind.i64.wrap (col + 1) = col + 1 := by rw [IntKind.wrap_i64]; omega
  clear k hG
  go_enter Tryd.func33, Tryd.ntmps33
  go_wp2_with fail
  obtain ⟨w1, hW⟩ : ∃ w1, w1 = w.alloc (Obj.cells #[.int .i64 0, .int .i64 1] 42) := ⟨_, rfl⟩
  obtain ⟨NB, hN⟩ : ∃ NB, NB = w.heap.size := ⟨_, rfl⟩
  have bel : Below w.heap.size w w1 := by rw [hW]; exact below1 _ _
  have HBw1 : Hid (w1.heap[NB]? = some (Obj.cells #[.int .i64 0, .int .i64 1] 42)) := by simp only [Hid]; rw [hW]; exact FNew.heap_top hN
  have HKw1 := hid (Box.heap_keep bel HK.out)
  have HNWB : Hid (NW ≠ NB) := by simp only [Hid]; omega
  have HGw1 := hid (g_bel (g_refl w NW) bel)
  simp only [← hW, ← hN]
  clear hW hN bel hNl k5 d0 d1
  (try refine Box.wp_noPanic ?_)
  refine wp_region_held_drew (S := (fun ww => ww.cell? ⟨NW, 0, none⟩ = some (.int .i64 (R : Int)) ∧ ww.cell? ⟨NB, 0, none⟩ = some (.int .i64 0))) (by kernel_rfl) ?_ (fun hHeld => ?_)
  · ((try dsimp only); exact ⟨(ant_cells HKw1.out).1, Go.Joins.cell_of_block HBw1.out 0⟩)
  obtain ⟨wD, hDr⟩ : ∃ wD, wD = w1.drew := ⟨_, rfl⟩
  have HKD : Hid (wD.heap[NW]? = some (antO R C v row col 1)) := by simp only [Hid]; rw [hDr]; exact HKw1.out
  have HBD : Hid (wD.heap[NB]? = some (Obj.cells #[.int .i64 0, .int .i64 1] 42)) := by simp only [Hid]; rw [hDr]; exact HBw1.out
  have HGD : Hid (w.grownBy wD (some NW)) := by simp only [Hid]; rw [hDr]; exact g_drew HGw1.out
  simp only [← hDr] at hHeld ⊢
  clear hDr
  have cv := (ant_cells HKD.out).2.2.2.1
  have cf := ant_free HKD.out 3
  (try dsimp only at hHeld)
  (refine wpAnyH_take (i := 0) (v := ?_) rfl ?_ ?_ ?_ (fun _ _ _ h => h) (Or.inl ⟨?_, ?_⟩) ?_ ?_; rotate_left 1; (focus decide +kernel); (focus decide +kernel); (focus decide +kernel); (focus rfl); (focus (intro w hSw; (try dsimp only at hSw); go_simp; (try (with_reducible rfl)); done)); (focus assumption); (try simp only [Act.put, List.setIfInBounds_toArray, List.set_cons_zero, List.set_cons_succ, List.getElem_toArray, List.getElem_cons_succ, List.getElem_cons_zero]))
  (refine wpAnyH_take (i := 1) (v := ?_) rfl ?_ ?_ ?_ (fun _ _ _ h => h) (Or.inl ⟨?_, ?_⟩) ?_ ?_; rotate_left 1; (focus decide +kernel); (focus decide +kernel); (focus decide +kernel); (focus rfl); (focus (intro w hSw; (try dsimp only at hSw); go_simp; (try (with_reducible rfl)); done)); (focus assumption); (try simp only [Act.put, List.setIfInBounds_toArray, List.set_cons_zero, List.set_cons_succ, List.getElem_toArray, List.getElem_cons_succ, List.getElem_cons_zero]))
  (refine wpAnyH_take (i := 2) (v := ?_) rfl ?_ ?_ ?_ (fun _ _ _ h => h) (Or.inl ⟨?_, ?_⟩) ?_ ?_; rotate_left 1; (focus decide +kernel); (focus decide +kernel); (focus decide +kernel); (focus rfl); (focus (intro w hSw; (try dsimp only at hSw); go_simp; (try (with_reducible rfl)); done)); (focus assumption); (try simp only [Act.put, List.setIfInBounds_toArray, List.set_cons_zero, List.set_cons_succ, List.getElem_toArray, List.getElem_cons_succ, List.getElem_cons_zero]))
  (refine wpAnyH_take (i := 3) (v := ?_) rfl ?_ ?_ ?_ (fun _ _ _ h => h) (Or.inl ⟨?_, ?_⟩) ?_ ?_; rotate_left 1; (focus decide +kernel); (focus decide +kernel); (focus decide +kernel); (focus rfl); (focus (intro w hSw; (try dsimp only at hSw); go_simp; (try (with_reducible rfl)); done)); (focus assumption); (try simp only [Act.put, List.setIfInBounds_toArray, List.set_cons_zero, List.set_cons_succ, List.getElem_toArray, List.getElem_cons_succ, List.getElem_cons_zero]))
  (refine wpAnyH_take (i := 5) (v := ?_) rfl ?_ ?_ ?_ (fun _ _ _ h => h) (Or.inl ⟨?_, ?_⟩) ?_ ?_; rotate_left 1; (focus decide +kernel); (focus decide +kernel); (focus decide +kernel); (focus rfl); (focus (intro w hSw; (try dsimp only at hSw); go_simp; (try (with_reducible rfl)); done)); (focus assumption); (try simp only [Act.put, List.setIfInBounds_toArray, List.set_cons_zero, List.set_cons_succ, List.getElem_toArray, List.getElem_cons_succ, List.getElem_cons_zero]))
  (refine wpAnyH_take (i := 6) (v := ?_) rfl ?_ ?_ ?_ (fun _ _ _ h => h) (Or.inl ⟨?_, ?_⟩) ?_ ?_; rotate_left 1; (focus decide +kernel); (focus decide +kernel); (focus decide +kernel); (focus rfl); (focus (intro w hSw; (try dsimp only at hSw); go_simp; (try (with_reducible rfl)); done)); (focus assumption); (try simp only [Act.put, List.setIfInBounds_toArray, List.set_cons_zero, List.set_cons_succ, List.getElem_toArray, List.getElem_cons_succ, List.getElem_cons_zero]))
  (refine wpAnyH_take (i := 8) (v := ?_) rfl ?_ ?_ ?_ (fun _ _ _ h => h) (Or.inl ⟨?_, ?_⟩) ?_ ?_; rotate_left 1; (focus decide +kernel); (focus decide +kernel); (focus decide +kernel); (focus rfl); (focus (intro w hSw; (try dsimp only at hSw); go_simp; (try (with_reducible rfl)); done)); (focus assumption); (try simp only [Act.put, List.setIfInBounds_toArray, List.set_cons_zero, List.set_cons_succ, List.getElem_toArray, List.getElem_cons_succ, List.getElem_cons_zero]))
  (refine wpAnyH_take (i := 9) (v := ?_) rfl ?_ ?_ ?_ (fun _ _ _ h => h) (Or.inl ⟨?_, ?_⟩) ?_ ?_; rotate_left 1; (focus decide +kernel); (focus decide +kernel); (focus decide +kernel); (focus rfl); (focus (intro w hSw; (try dsimp only at hSw); go_simp; (try (with_reducible rfl)); done)); (focus assumption); (try simp only [Act.put, List.setIfInBounds_toArray, List.set_cons_zero, List.set_cons_succ, List.getElem_toArray, List.getElem_cons_succ, List.getElem_cons_zero]))
  (refine wpAnyH_take (i := 10) (v := ?_) rfl ?_ ?_ ?_ (fun _ _ _ h => h) (Or.inl ⟨?_, ?_⟩) ?_ ?_; rotate_left 1; (focus decide +kernel); (focus decide +kernel); (focus decide +kernel); (focus rfl); (focus (intro w hSw; (try dsimp only at hSw); go_simp; (try (with_reducible rfl)); done)); (focus assumption); (try simp only [Act.put, List.setIfInBounds_toArray, List.set_cons_zero, List.set_cons_succ, List.getElem_toArray, List.getElem_cons_succ, List.getElem_cons_zero]))
  (refine wpAnyH_take (i := 11) (v := ?_) rfl ?_ ?_ ?_ (fun _ _ _ h => h) (Or.inl ⟨?_, ?_⟩) ?_ ?_; rotate_left 1; (focus decide +kernel); (focus decide +kernel); (focus decide +kernel); (focus rfl); (focus (intro w hSw; (try dsimp only at hSw); go_simp; (try (with_reducible rfl)); done)); (focus assumption); (try simp only [Act.put, List.setIfInBounds_toArray, List.set_cons_zero, List.set_cons_succ, List.getElem_toArray, List.getElem_cons_succ, List.getElem_cons_zero]))
  (refine wpAnyH_take (i := 12) (v := ?_) rfl ?_ ?_ ?_ (fun _ _ _ h => h) (Or.inl ⟨?_, ?_⟩) ?_ ?_; rotate_left 1; (focus decide +kernel); (focus decide +kernel); (focus decide +kernel); (focus rfl); (focus (intro w hSw; (try dsimp only at hSw); go_simp; (try (with_reducible rfl)); done)); (focus assumption); (try simp only [Act.put, List.setIfInBounds_toArray, List.set_cons_zero, List.set_cons_succ, List.getElem_toArray, List.getElem_cons_succ, List.getElem_cons_zero]))
  refine wpAnyH_ready (rs := [4]) ?_ (by simp) ?_
  · decide +kernel
  refine AllReadyH.cons rfl (fun K hK => ?_) AllReadyH.nil
  go_simp
  refine hK.out _ _ ?_ (fun hHeld2 => ?_)
  · (try dsimp only); exact hHeld
  clear hK K hHeld2
  (try simp only [Act.put, List.setIfInBounds_toArray, List.set_cons_zero, List.set_cons_succ, List.getElem_toArray, List.getElem_cons_succ, List.getElem_cons_zero])
  (refine wpAnyH_take (i := 7) (v := ?_) rfl ?_ ?_ ?_ (fun _ _ _ h => h) (Or.inl ⟨?_, ?_⟩) ?_ ?_; rotate_left 1; (focus decide +kernel); (focus decide +kernel); (focus decide +kernel); (focus rfl); (focus (intro w hSw; (try dsimp only at hSw); go_simp; (try (with_reducible rfl)); done)); (focus assumption); (try simp only [Act.put, List.setIfInBounds_toArray, List.set_cons_zero, List.set_cons_succ, List.getElem_toArray, List.getElem_cons_succ, List.getElem_cons_zero]))
  refine wpAnyH_ready (rs := [13]) ?_ (by simp) ?_
  · decide +kernel
  refine AllReadyH.cons rfl (fun K hK => ?_) AllReadyH.nil
  go_simp
  go_at_call 37
  refine (onRoundI (by omega) (by omega)).mono ?_
  rintro e w2 ⟨rfl, rfl⟩
  refine hK.out _ _ ?_ (fun hHeld2 => ?_)
  · (try dsimp only); exact hHeld
  clear hK K hHeld2
  (try simp only [Act.put, List.setIfInBounds_toArray, List.set_cons_zero, List.set_cons_succ, List.getElem_toArray, List.getElem_cons_succ, List.getElem_cons_zero])
  (refine wpAnyH_take (i := 14) (v := ?_) rfl ?_ ?_ ?_ (fun _ _ _ h => h) (Or.inl ⟨?_, ?_⟩) ?_ ?_; rotate_left 1; (focus decide +kernel); (focus decide +kernel); (focus decide +kernel); (focus rfl); (focus (intro w hSw; (try dsimp only at hSw); go_simp; (try (with_reducible rfl)); done)); (focus assumption); (try simp only [Act.put, List.setIfInBounds_toArray, List.set_cons_zero, List.set_cons_succ, List.getElem_toArray, List.getElem_cons_succ, List.getElem_cons_zero]))
  (refine wpAnyH_take (i := 15) (v := ?_) rfl ?_ ?_ ?_ (fun _ _ _ h => h) (Or.inl ⟨?_, ?_⟩) ?_ ?_; rotate_left 1; (focus decide +kernel); (focus decide +kernel); (focus decide +kernel); (focus rfl); (focus (intro w hSw; (try dsimp only at hSw); go_simp; (try (with_reducible rfl)); done)); (focus assumption); (try simp only [Act.put, List.setIfInBounds_toArray, List.set_cons_zero, List.set_cons_succ, List.getElem_toArray, List.getElem_cons_succ, List.getElem_cons_zero]))
  refine wpAnyH_ready (rs := [16]) ?_ (by simp) ?_
  · decide +kernel
  refine AllReadyH.cons rfl (fun K hK => ?_) AllReadyH.nil
  go_simp
  refine hK.out _ _ ?_ (fun hHeld2 => ?_)
  · (try dsimp only); exact ⟨(ant_cells (ant_row HKD.out _)).1, set_cell hHeld.2 HNWB.out.symm⟩
  clear hK K hHeld2
  (try simp only [Act.put, List.setIfInBounds_toArray, List.set_cons_zero, List.set_cons_succ, List.getElem_toArray, List.getElem_cons_succ, List.getElem_cons_zero])
  refine wpAnyH_done (by kernel_rfl) ?_ _
  obtain ⟨w3, hWn⟩ : ∃ w3, w3 = wD.setCell ⟨NW, 3, none⟩ (.int .i64 ((row) % (R : Int))) := ⟨_, rfl⟩
  have HKw3 : Hid (w3.heap[NW]? = some (antO R C v ((row) % (R : Int)) col 1)) := by simp only [Hid]; rw [hWn]; exact ant_row HKD.out _
  have HBw3 : Hid (w3.heap[NB]? = some (Obj.cells #[.int .i64 0, .int .i64 1] 42)) := by simp only [Hid]; rw [hWn]; exact (Below.heap_setCell _ ⟨NW, 3, none⟩ _ _ HNWB.out.symm).trans HBD.out
  have HGw3 : Hid (w.grownBy w3 (some NW)) := by simp only [Hid]; rw [hWn]; exact g_set HGD.out 3 _
  simp only [← hWn]
  clear hWn hHeld cv cf HKD HBD HGD
  go_wp2_with fail
  (try refine Box.wp_noPanic ?_)
  refine wp_region_held_drew (S := (fun ww => ww.cell? ⟨NW, 1, none⟩ = some (.int .i64 (C : Int)) ∧ ww.cell? ⟨NB, 1, none⟩ = some (.int .i64 1))) (by kernel_rfl) ?_ (fun hHeld => ?_)
  · ((try dsimp only); exact ⟨(ant_cells HKw3.out).2.1, Go.Joins.cell_of_block HBw3.out 1⟩)
  obtain ⟨wD, hDr⟩ : ∃ wD, wD = w3.drew := ⟨_, rfl⟩
  have HKD : Hid (wD.heap[NW]? = some (antO R C v ((row) % (R : Int)) col 1)) := by simp only [Hid]; rw [hDr]; exact HKw3.out
  have HBD : Hid (wD.heap[NB]? = some (Obj.cells #[.int .i64 0, .int .i64 1] 42)) := by simp only [Hid]; rw [hDr]; exact HBw3.out
  have HGD : Hid (w.grownBy wD (some NW)) := by simp only [Hid]; rw [hDr]; exact g_drew HGw3.out
  simp only [← hDr] at hHeld ⊢
  clear hDr
  have cv := (ant_cells HKD.out).2.2.2.2.1
  have cf := ant_free HKD.out 4
  (try dsimp only at hHeld)
  (refine wpAnyH_take (i := 0) (v := ?_) rfl ?_ ?_ ?_ (fun _ _ _ h => h) (Or.inl ⟨?_, ?_⟩) ?_ ?_; rotate_left 1; (focus decide +kernel); (focus decide +kernel); (focus decide +kernel); (focus rfl); (focus (intro w hSw; (try dsimp only at hSw); go_simp; (try (with_reducible rfl)); done)); (focus assumption); (try simp only [Act.put, List.setIfInBounds_toArray, List.set_cons_zero, List.set_cons_succ, List.getElem_toArray, List.getElem_cons_succ, List.getElem_cons_zero]))
  (refine wpAnyH_take (i := 1) (v := ?_) rfl ?_ ?_ ?_ (fun _ _ _ h => h) (Or.inl ⟨?_, ?_⟩) ?_ ?_; rotate_left 1; (focus decide +kernel); (focus decide +kernel); (focus decide +kernel); (focus rfl); (focus (intro w hSw; (try dsimp only at hSw); go_simp; (try (with_reducible rfl)); done)); (focus assumption); (try simp only [Act.put, List.setIfInBounds_toArray, List.set_cons_zero, List.set_cons_succ, List.getElem_toArray, List.getElem_cons_succ, List.getElem_cons_zero]))
  (refine wpAnyH_take (i := 2) (v := ?_) rfl ?_ ?_ ?_ (fun _ _ _ h => h) (Or.inl ⟨?_, ?_⟩) ?_ ?_; rotate_left 1; (focus decide +kernel); (focus decide +kernel); (focus decide +kernel); (focus rfl); (focus (intro w hSw; (try dsimp only at hSw); go_simp; (try (with_reducible rfl)); done)); (focus assumption); (try simp only [Act.put, List.setIfInBounds_toArray, List.set_cons_zero, List.set_cons_succ, List.getElem_toArray, List.getElem_cons_succ, List.getElem_cons_zero]))
  (refine wpAnyH_take (i := 3) (v := ?_) rfl ?_ ?_ ?_ (fun _ _ _ h => h) (Or.inl ⟨?_, ?_⟩) ?_ ?_; rotate_left 1; (focus decide +kernel); (focus decide +kernel); (focus decide +kernel); (focus rfl); (focus (intro w hSw; (try dsimp only at hSw); go_simp; (try (with_reducible rfl)); done)); (focus assumption); (try simp only [Act.put, List.setIfInBounds_toArray, List.set_cons_zero, List.set_cons_succ, List.getElem_toArray, List.getElem_cons_succ, List.getElem_cons_zero]))
  (refine wpAnyH_take (i := 5) (v := ?_) rfl ?_ ?_ ?_ (fun _ _ _ h => h) (Or.inl ⟨?_, ?_⟩) ?_ ?_; rotate_left 1; (focus decide +kernel); (focus decide +kernel); (focus decide +kernel); (focus rfl); (focus (intro w hSw; (try dsimp only at hSw); go_simp; (try (with_reducible rfl)); done)); (focus assumption); (try simp only [Act.put, List.setIfInBounds_toArray, List.set_cons_zero, List.set_cons_succ, List.getElem_toArray, List.getElem_cons_succ, List.getElem_cons_zero]))
  (refine wpAnyH_take (i := 6) (v := ?_) rfl ?_ ?_ ?_ (fun _ _ _ h => h) (Or.inl ⟨?_, ?_⟩) ?_ ?_; rotate_left 1; (focus decide +kernel); (focus decide +kernel); (focus decide +kernel); (focus rfl); (focus (intro w hSw; (try dsimp only at hSw); go_simp; (try (with_reducible rfl)); done)); (focus assumption); (try simp only [Act.put, List.setIfInBounds_toArray, List.set_cons_zero, List.set_cons_succ, List.getElem_toArray, List.getElem_cons_succ, List.getElem_cons_zero]))
  (refine wpAnyH_take (i := 8) (v := ?_) rfl ?_ ?_ ?_ (fun _ _ _ h => h) (Or.inl ⟨?_, ?_⟩) ?_ ?_; rotate_left 1; (focus decide +kernel); (focus decide +kernel); (focus decide +kernel); (focus rfl); (focus (intro w hSw; (try dsimp only at hSw); go_simp; (try (with_reducible rfl)); done)); (focus assumption); (try simp only [Act.put, List.setIfInBounds_toArray, List.set_cons_zero, List.set_cons_succ, List.getElem_toArray, List.getElem_cons_succ, List.getElem_cons_zero]))
  (refine wpAnyH_take (i := 9) (v := ?_) rfl ?_ ?_ ?_ (fun _ _ _ h => h) (Or.inl ⟨?_, ?_⟩) ?_ ?_; rotate_left 1; (focus decide +kernel); (focus decide +kernel); (focus decide +kernel); (focus rfl); (focus (intro w hSw; (try dsimp only at hSw); go_simp; (try (with_reducible rfl)); done)); (focus assumption); (try simp only [Act.put, List.setIfInBounds_toArray, List.set_cons_zero, List.set_cons_succ, List.getElem_toArray, List.getElem_cons_succ, List.getElem_cons_zero]))
  (refine wpAnyH_take (i := 10) (v := ?_) rfl ?_ ?_ ?_ (fun _ _ _ h => h) (Or.inl ⟨?_, ?_⟩) ?_ ?_; rotate_left 1; (focus decide +kernel); (focus decide +kernel); (focus decide +kernel); (focus rfl); (focus (intro w hSw; (try dsimp only at hSw); go_simp; (try (with_reducible rfl)); done)); (focus assumption); (try simp only [Act.put, List.setIfInBounds_toArray, List.set_cons_zero, List.set_cons_succ, List.getElem_toArray, List.getElem_cons_succ, List.getElem_cons_zero]))
  (refine wpAnyH_take (i := 11) (v := ?_) rfl ?_ ?_ ?_ (fun _ _ _ h => h) (Or.inl ⟨?_, ?_⟩) ?_ ?_; rotate_left 1; (focus decide +kernel); (focus decide +kernel); (focus decide +kernel); (focus rfl); (focus (intro w hSw; (try dsimp only at hSw); go_simp; (try (with_reducible rfl)); done)); (focus assumption); (try simp only [Act.put, List.setIfInBounds_toArray, List.set_cons_zero, List.set_cons_succ, List.getElem_toArray, List.getElem_cons_succ, List.getElem_cons_zero]))
  (refine wpAnyH_take (i := 12) (v := ?_) rfl ?_ ?_ ?_ (fun _ _ _ h => h) (Or.inl ⟨?_, ?_⟩) ?_ ?_; rotate_left 1; (focus decide +kernel); (focus decide +kernel); (focus decide +kernel); (focus rfl); (focus (intro w hSw; (try dsimp only at hSw); go_simp; (try (with_reducible rfl)); done)); (focus assumption); (try simp only [Act.put, List.setIfInBounds_toArray, List.set_cons_zero, List.set_cons_succ, List.getElem_toArray, List.getElem_cons_succ, List.getElem_cons_zero]))
  refine wpAnyH_ready (rs := [4]) ?_ (by simp) ?_
  · decide +kernel
  refine AllReadyH.cons rfl (fun K hK => ?_) AllReadyH.nil
  go_simp
  refine hK.out _ _ ?_ (fun hHeld2 => ?_)
  · (try dsimp only); exact hHeld
  clear hK K hHeld2
  (try simp only [Act.put, List.setIfInBounds_toArray, List.set_cons_zero, List.set_cons_succ, List.getElem_toArray, List.getElem_cons_succ, List.getElem_cons_zero])
  (refine wpAnyH_take (i := 7) (v := ?_) rfl ?_ ?_ ?_ (fun _ _ _ h => h) (Or.inl ⟨?_, ?_⟩) ?_ ?_; rotate_left 1; (focus decide +kernel); (focus decide +kernel); (focus decide +kernel); (focus rfl); (focus (intro w hSw; (try dsimp only at hSw); go_simp; (try (with_reducible rfl)); done)); (focus assumption); (try simp only [Act.put, List.setIfInBounds_toArray, List.set_cons_zero, List.set_cons_succ, List.getElem_toArray, List.getElem_cons_succ, List.getElem_cons_zero]))
  refine wpAnyH_ready (rs := [13]) ?_ (by simp) ?_
  · decide +kernel
  refine AllReadyH.cons rfl (fun K hK => ?_) AllReadyH.nil
  go_simp
  go_at_call 37
  refine (onRoundI (by omega) (by omega)).mono ?_
  rintro e w2 ⟨rfl, rfl⟩
  refine hK.out _ _ ?_ (fun hHeld2 => ?_)
  · (try dsimp only); exact hHeld
  clear hK K hHeld2
  (try simp only [Act.put, List.setIfInBounds_toArray, List.set_cons_zero, List.set_cons_succ, List.getElem_toArray, List.getElem_cons_succ, List.getElem_cons_zero])
  (refine wpAnyH_take (i := 14) (v := ?_) rfl ?_ ?_ ?_ (fun _ _ _ h => h) (Or.inl ⟨?_, ?_⟩) ?_ ?_; rotate_left 1; (focus decide +kernel); (focus decide +kernel); (focus decide +kernel); (focus rfl); (focus (intro w hSw; (try dsimp only at hSw); go_simp; (try (with_reducible rfl)); done)); (focus assumption); (try simp only [Act.put, List.setIfInBounds_toArray, List.set_cons_zero, List.set_cons_succ, List.getElem_toArray, List.getElem_cons_succ, List.getElem_cons_zero]))
  (refine wpAnyH_take (i := 15) (v := ?_) rfl ?_ ?_ ?_ (fun _ _ _ h => h) (Or.inl ⟨?_, ?_⟩) ?_ ?_; rotate_left 1; (focus decide +kernel); (focus decide +kernel); (focus decide +kernel); (focus rfl); (focus (intro w hSw; (try dsimp only at hSw); go_simp; (try (with_reducible rfl)); done)); (focus assumption); (try simp only [Act.put, List.setIfInBounds_toArray, List.set_cons_zero, List.set_cons_succ, List.getElem_toArray, List.getElem_cons_succ, List.getElem_cons_zero]))
  refine wpAnyH_ready (rs := [16]) ?_ (by simp) ?_
  · decide +kernel
  refine AllReadyH.cons rfl (fun K hK => ?_) AllReadyH.nil
  go_simp
  refine hK.out _ _ ?_ (fun hHeld2 => ?_)
  · (try dsimp only); exact ⟨(ant_cells (ant_col HKD.out _)).2.1, set_cell hHeld.2 HNWB.out.symm⟩
  clear hK K hHeld2
  (try simp only [Act.put, List.setIfInBounds_toArray, List.set_cons_zero, List.set_cons_succ, List.getElem_toArray, List.getElem_cons_succ, List.getElem_cons_zero])
  refine wpAnyH_done (by kernel_rfl) ?_ _
  obtain ⟨w5, hWn⟩ : ∃ w5, w5 = wD.setCell ⟨NW, 4, none⟩ (.int .i64 ((col + 1) % (C : Int))) := ⟨_, rfl⟩
  have HKw5 : Hid (w5.heap[NW]? = some (antO R C v ((row) % (R : Int)) ((col + 1) % (C : Int)) 1)) := by simp only [Hid]; rw [hWn]; exact ant_col HKD.out _
  have HBw5 : Hid (w5.heap[NB]? = some (Obj.cells #[.int .i64 0, .int .i64 1] 42)) := by simp only [Hid]; rw [hWn]; exact (Below.heap_setCell _ ⟨NW, 4, none⟩ _ _ HNWB.out.symm).trans HBD.out
  have HGw5 : Hid (w.grownBy w5 (some NW)) := by simp only [Hid]; rw [hWn]; exact g_set HGD.out 4 _
  simp only [← hWn]
  clear hWn hHeld cv cf HKD HBD HGD
  go_wp2
  go_end0
  exact ⟨⟨_, rfl⟩, HKw5.out, HGw5.out⟩

set_option maxHeartbeats 2000000 in
theorem goOn2 {w : World} {NW : Nat} {R C : Nat} {row col : Int} {v : Value} (k : w.heap[NW]? = some (antO R C v row col 2)) (hg : GW w) (hR : 1 ≤ R ∧ R ≤ 24) (hC : 1 ≤ C ∧ C ≤ 24) (hr : 0 ≤ row ∧ row ≤ 24) (hc : 0 ≤ col ∧ col ≤ 24) :
    Calls Tryd.prog 33 #[.pointer (some ⟨NW, 0, none⟩)] w fun e w' => (∃ x, e = .returned x) ∧ w'.heap[NW]? = some (antO R C v ((row + 1) % (R : Int)) ((col) % (C : Int)) 2) ∧ w.grownBy w' (some NW) := by
  have HK := hid k
  have hNl := (Array.getElem?_eq_some_iff.1 k).1
  have k5 := (ant_cells k).2.2.2.2.2
  obtain ⟨t, fr, hG⟩ := hg
  have d0 : w.cell? ⟨0, 4, none⟩ = some (.int .i64 1) := Go.Joins.cell_of_block hG 4
  have d1 : w.cell? ⟨0, 5, none⟩ = some (.int .i64 0) := Go.Joins.cell_of_block hG 5
  have wr1 : IntKind.i64.wrap (row + 1) = row + 1 := by rw [IntKind.wrap_i64]; omega
  have wr2 : IntKind.i64.wrap (col) = col := by rw [IntKind.wrap_i64]; omega
  clear k hG
  go_enter Tryd.func33, Tryd.ntmps33
  go_wp2_with fail
  obtain ⟨w1, hW⟩ : ∃ w1, w1 = w.alloc (Obj.cells #[.int .i64 1, .int .i64 0] 42) := ⟨_, rfl⟩
  obtain ⟨NB, hN⟩ : ∃ NB, NB = w.heap.size := ⟨_, rfl⟩
  have bel : Below w.heap.size w w1 := by rw [hW]; exact below1 _ _
  have HBw1 : Hid (w1.heap[NB]? = some (Obj.cells #[.int .i64 1, .int .i64 0] 42)) := by simp only [Hid]; rw [hW]; exact FNew.heap_top hN
  have HKw1 := hid (Box.heap_keep bel HK.out)
  have HNWB : Hid (NW ≠ NB) := by simp only [Hid]; omega
  have HGw1 := hid (g_bel (g_refl w NW) bel)
  simp only [← hW, ← hN]
  clear hW hN bel hNl k5 d0 d1
  (try refine Box.wp_noPanic ?_)
  refine wp_region_held_drew (S := (fun ww => ww.cell? ⟨NW, 0, none⟩ = some (.int .i64 (R : Int)) ∧ ww.cell? ⟨NB, 0, none⟩ = some (.int .i64 1))) (by kernel_rfl) ?_ (fun hHeld => ?_)
  · ((try dsimp only); exact ⟨(ant_cells HKw1.out).1, Go.Joins.cell_of_block HBw1.out 0⟩)
  obtain ⟨wD, hDr⟩ : ∃ wD, wD = w1.drew := ⟨_, rfl⟩
  have HKD : Hid (wD.heap[NW]? = some (antO R C v row col 2)) := by simp only [Hid]; rw [hDr]; exact HKw1.out
  have HBD : Hid (wD.heap[NB]? = some (Obj.cells #[.int .i64 1, .int .i64 0] 42)) := by simp only [Hid]; rw [hDr]; exact HBw1.out
  have HGD : Hid (w.grownBy wD (some NW)) := by simp only [Hid]; rw [hDr]; exact g_drew HGw1.out
  simp only [← hDr] at hHeld ⊢
  clear hDr
  have cv := (ant_cells HKD.out).2.2.2.1
  have cf := ant_free HKD.out 3
  (try dsimp only at hHeld)
  (refine wpAnyH_take (i := 0) (v := ?_) rfl ?_ ?_ ?_ (fun _ _ _ h => h) (Or.inl ⟨?_, ?_⟩) ?_ ?_; rotate_left 1; (focus decide +kernel); (focus decide +kernel); (focus decide +kernel); (focus rfl); (focus (intro w hSw; (try dsimp only at hSw); go_simp; (try (with_reducible rfl)); done)); (focus assumption); (try simp only [Act.put, List.setIfInBounds_toArray, List.set_cons_zero, List.set_cons_succ, List.getElem_toArray, List.getElem_cons_succ, List.getElem_cons_zero]))
  (refine wpAnyH_take (i := 1) (v := ?_) rfl ?_ ?_ ?_ (fun _ _ _ h => h) (Or.inl ⟨?_, ?_⟩) ?_ ?_; rotate_left 1; (focus decide +kernel); (focus decide +kernel); (focus decide +kernel); (focus rfl); (focus (intro w hSw; (try dsimp only at hSw); go_simp; (try (with_reducible rfl)); done)); (focus assumption); (try simp only [Act.put, List.setIfInBounds_toArray, List.set_cons_zero, List.set_cons_succ, List.getElem_toArray, List.getElem_cons_succ, List.getElem_cons_zero]))
  (refine wpAnyH_take (i := 2) (v := ?_) rfl ?_ ?_ ?_ (fun _ _ _ h => h) (Or.inl ⟨?_, ?_⟩) ?_ ?_; rotate_left 1; (focus decide +kernel); (focus decide +kernel); (focus decide +kernel); (focus rfl); (focus (intro w hSw; (try dsimp only at hSw); go_simp; (try (with_reducible rfl)); done)); (focus assumption); (try simp only [Act.put, List.setIfInBounds_toArray, List.set_cons_zero, List.set_cons_succ, List.getElem_toArray, List.getElem_cons_succ, List.getElem_cons_zero]))
  (refine wpAnyH_take (i := 3) (v := ?_) rfl ?_ ?_ ?_ (fun _ _ _ h => h) (Or.inl ⟨?_, ?_⟩) ?_ ?_; rotate_left 1; (focus decide +kernel); (focus decide +kernel); (focus decide +kernel); (focus rfl); (focus (intro w hSw; (try dsimp only at hSw); go_simp; (try (with_reducible rfl)); done)); (focus assumption); (try simp only [Act.put, List.setIfInBounds_toArray, List.set_cons_zero, List.set_cons_succ, List.getElem_toArray, List.getElem_cons_succ, List.getElem_cons_zero]))
  (refine wpAnyH_take (i := 5) (v := ?_) rfl ?_ ?_ ?_ (fun _ _ _ h => h) (Or.inl ⟨?_, ?_⟩) ?_ ?_; rotate_left 1; (focus decide +kernel); (focus decide +kernel); (focus decide +kernel); (focus rfl); (focus (intro w hSw; (try dsimp only at hSw); go_simp; (try (with_reducible rfl)); done)); (focus assumption); (try simp only [Act.put, List.setIfInBounds_toArray, List.set_cons_zero, List.set_cons_succ, List.getElem_toArray, List.getElem_cons_succ, List.getElem_cons_zero]))
  (refine wpAnyH_take (i := 6) (v := ?_) rfl ?_ ?_ ?_ (fun _ _ _ h => h) (Or.inl ⟨?_, ?_⟩) ?_ ?_; rotate_left 1; (focus decide +kernel); (focus decide +kernel); (focus decide +kernel); (focus rfl); (focus (intro w hSw; (try dsimp only at hSw); go_simp; (try (with_reducible rfl)); done)); (focus assumption); (try simp only [Act.put, List.setIfInBounds_toArray, List.set_cons_zero, List.set_cons_succ, List.getElem_toArray, List.getElem_cons_succ, List.getElem_cons_zero]))
  (refine wpAnyH_take (i := 8) (v := ?_) rfl ?_ ?_ ?_ (fun _ _ _ h => h) (Or.inl ⟨?_, ?_⟩) ?_ ?_; rotate_left 1; (focus decide +kernel); (focus decide +kernel); (focus decide +kernel); (focus rfl); (focus (intro w hSw; (try dsimp only at hSw); go_simp; (try (with_reducible rfl)); done)); (focus assumption); (try simp only [Act.put, List.setIfInBounds_toArray, List.set_cons_zero, List.set_cons_succ, List.getElem_toArray, List.getElem_cons_succ, List.getElem_cons_zero]))
  (refine wpAnyH_take (i := 9) (v := ?_) rfl ?_ ?_ ?_ (fun _ _ _ h => h) (Or.inl ⟨?_, ?_⟩) ?_ ?_; rotate_left 1; (focus decide +kernel); (focus decide +kernel); (focus decide +kernel); (focus rfl); (focus (intro w hSw; (try dsimp only at hSw); go_simp; (try (with_reducible rfl)); done)); (focus assumption); (try simp only [Act.put, List.setIfInBounds_toArray, List.set_cons_zero, List.set_cons_succ, List.getElem_toArray, List.getElem_cons_succ, List.getElem_cons_zero]))
  (refine wpAnyH_take (i := 10) (v := ?_) rfl ?_ ?_ ?_ (fun _ _ _ h => h) (Or.inl ⟨?_, ?_⟩) ?_ ?_; rotate_left 1; (focus decide +kernel); (focus decide +kernel); (focus decide +kernel); (focus rfl); (focus (intro w hSw; (try dsimp only at hSw); go_simp; (try (with_reducible rfl)); done)); (focus assumption); (try simp only [Act.put, List.setIfInBounds_toArray, List.set_cons_zero, List.set_cons_succ, List.getElem_toArray, List.getElem_cons_succ, List.getElem_cons_zero]))
  (refine wpAnyH_take (i := 11) (v := ?_) rfl ?_ ?_ ?_ (fun _ _ _ h => h) (Or.inl ⟨?_, ?_⟩) ?_ ?_; rotate_left 1; (focus decide +kernel); (focus decide +kernel); (focus decide +kernel); (focus rfl); (focus (intro w hSw; (try dsimp only at hSw); go_simp; (try (with_reducible rfl)); done)); (focus assumption); (try simp only [Act.put, List.setIfInBounds_toArray, List.set_cons_zero, List.set_cons_succ, List.getElem_toArray, List.getElem_cons_succ, List.getElem_cons_zero]))
  (refine wpAnyH_take (i := 12) (v := ?_) rfl ?_ ?_ ?_ (fun _ _ _ h => h) (Or.inl ⟨?_, ?_⟩) ?_ ?_; rotate_left 1; (focus decide +kernel); (focus decide +kernel); (focus decide +kernel); (focus rfl); (focus (intro w hSw; (try dsimp only at hSw); go_simp; (try (with_reducible rfl)); done)); (focus assumption); (try simp only [Act.put, List.setIfInBounds_toArray, List.set_cons_zero, List.set_cons_succ, List.getElem_toArray, List.getElem_cons_succ, List.getElem_cons_zero]))
  refine wpAnyH_ready (rs := [4]) ?_ (by simp) ?_
  · decide +kernel
  refine AllReadyH.cons rfl (fun K hK => ?_) AllReadyH.nil
  go_simp
  refine hK.out _ _ ?_ (fun hHeld2 => ?_)
  · (try dsimp only); exact hHeld
  clear hK K hHeld2
  (try simp only [Act.put, List.setIfInBounds_toArray, List.set_cons_zero, List.set_cons_succ, List.getElem_toArray, List.getElem_cons_succ, List.getElem_cons_zero])
  (refine wpAnyH_take (i := 7) (v := ?_) rfl ?_ ?_ ?_ (fun _ _ _ h => h) (Or.inl ⟨?_, ?_⟩) ?_ ?_; rotate_left 1; (focus decide +kernel); (focus decide +kernel); (focus decide +kernel); (focus rfl); (focus (intro w hSw; (try dsimp only at hSw); go_simp; (try (with_reducible rfl)); done)); (focus assumption); (try simp only [Act.put, List.setIfInBounds_toArray, List.set_cons_zero, List.set_cons_succ, List.getElem_toArray, List.getElem_cons_succ, List.getElem_cons_zero]))
  refine wpAnyH_ready (rs := [13]) ?_ (by simp) ?_
  · decide +kernel
  refine AllReadyH.cons rfl (fun K hK => ?_) AllReadyH.nil
  go_simp
  go_at_call 37
  refine (onRoundI (by omega) (by omega)).mono ?_
  rintro e w2 ⟨rfl, rfl⟩
  refine hK.out _ _ ?_ (fun hHeld2 => ?_)
  · (try dsimp only); exact hHeld
  clear hK K hHeld2
  (try simp only [Act.put, List.setIfInBounds_toArray, List.set_cons_zero, List.set_cons_succ, List.getElem_toArray, List.getElem_cons_succ, List.getElem_cons_zero])
  (refine wpAnyH_take (i := 14) (v := ?_) rfl ?_ ?_ ?_ (fun _ _ _ h => h) (Or.inl ⟨?_, ?_⟩) ?_ ?_; rotate_left 1; (focus decide +kernel); (focus decide +kernel); (focus decide +kernel); (focus rfl); (focus (intro w hSw; (try dsimp only at hSw); go_simp; (try (with_reducible rfl)); done)); (focus assumption); (try simp only [Act.put, List.setIfInBounds_toArray, List.set_cons_zero, List.set_cons_succ, List.getElem_toArray, List.getElem_cons_succ, List.getElem_cons_zero]))
  (refine wpAnyH_take (i := 15) (v := ?_) rfl ?_ ?_ ?_ (fun _ _ _ h => h) (Or.inl ⟨?_, ?_⟩) ?_ ?_; rotate_left 1; (focus decide +kernel); (focus decide +kernel); (focus decide +kernel); (focus rfl); (focus (intro w hSw; (try dsimp only at hSw); go_simp; (try (with_reducible rfl)); done)); (focus assumption); (try simp only [Act.put, List.setIfInBounds_toArray, List.set_cons_zero, List.set_cons_succ, List.getElem_toArray, List.getElem_cons_succ, List.getElem_cons_zero]))
  refine wpAnyH_ready (rs := [16]) ?_ (by simp) ?_
  · decide +kernel
  refine AllReadyH.cons rfl (fun K hK => ?_) AllReadyH.nil
  go_simp
  refine hK.out _ _ ?_ (fun hHeld2 => ?_)
  · (try dsimp only); exact ⟨(ant_cells (ant_row HKD.out _)).1, set_cell hHeld.2 HNWB.out.symm⟩
  clear hK K hHeld2
  (try simp only [Act.put, List.setIfInBounds_toArray, List.set_cons_zero, List.set_cons_succ, List.getElem_toArray, List.getElem_cons_succ, List.getElem_cons_zero])
  refine wpAnyH_done (by kernel_rfl) ?_ _
  obtain ⟨w3, hWn⟩ : ∃ w3, w3 = wD.setCell ⟨NW, 3, none⟩ (.int .i64 ((row + 1) % (R : Int))) := ⟨_, rfl⟩
  have HKw3 : Hid (w3.heap[NW]? = some (antO R C v ((row + 1) % (R : Int)) col 2)) := by simp only [Hid]; rw [hWn]; exact ant_row HKD.out _
  have HBw3 : Hid (w3.heap[NB]? = some (Obj.cells #[.int .i64 1, .int .i64 0] 42)) := by simp only [Hid]; rw [hWn]; exact (Below.heap_setCell _ ⟨NW, 3, none⟩ _ _ HNWB.out.symm).trans HBD.out
  have HGw3 : Hid (w.grownBy w3 (some NW)) := by simp only [Hid]; rw [hWn]; exact g_set HGD.out 3 _
  simp only [← hWn]
  clear hWn hHeld cv cf HKD HBD HGD
  go_wp2_with fail
  (try refine Box.wp_noPanic ?_)
  refine wp_region_held_drew (S := (fun ww => ww.cell? ⟨NW, 1, none⟩ = some (.int .i64 (C : Int)) ∧ ww.cell? ⟨NB, 1, none⟩ = some (.int .i64 0))) (by kernel_rfl) ?_ (fun hHeld => ?_)
  · ((try dsimp only); exact ⟨(ant_cells HKw3.out).2.1, Go.Joins.cell_of_block HBw3.out 1⟩)
  obtain ⟨wD, hDr⟩ : ∃ wD, wD = w3.drew := ⟨_, rfl⟩
  have HKD : Hid (wD.heap[NW]? = some (antO R C v ((row + 1) % (R : Int)) col 2)) := by simp only [Hid]; rw [hDr]; exact HKw3.out
  have HBD : Hid (wD.heap[NB]? = some (Obj.cells #[.int .i64 1, .int .i64 0] 42)) := by simp only [Hid]; rw [hDr]; exact HBw3.out
  have HGD : Hid (w.grownBy wD (some NW)) := by simp only [Hid]; rw [hDr]; exact g_drew HGw3.out
  simp only [← hDr] at hHeld ⊢
  clear hDr
  have cv := (ant_cells HKD.out).2.2.2.2.1
  have cf := ant_free HKD.out 4
  (try dsimp only at hHeld)
  (refine wpAnyH_take (i := 0) (v := ?_) rfl ?_ ?_ ?_ (fun _ _ _ h => h) (Or.inl ⟨?_, ?_⟩) ?_ ?_; rotate_left 1; (focus decide +kernel); (focus decide +kernel); (focus decide +kernel); (focus rfl); (focus (intro w hSw; (try dsimp only at hSw); go_simp; (try (with_reducible rfl)); done)); (focus assumption); (try simp only [Act.put, List.setIfInBounds_toArray, List.set_cons_zero, List.set_cons_succ, List.getElem_toArray, List.getElem_cons_succ, List.getElem_cons_zero]))
  (refine wpAnyH_take (i := 1) (v := ?_) rfl ?_ ?_ ?_ (fun _ _ _ h => h) (Or.inl ⟨?_, ?_⟩) ?_ ?_; rotate_left 1; (focus decide +kernel); (focus decide +kernel); (focus decide +kernel); (focus rfl); (focus (intro w hSw; (try dsimp only at hSw); go_simp; (try (with_reducible rfl)); done)); (focus assumption); (try simp only [Act.put, List.setIfInBounds_toArray, List.set_cons_zero, List.set_cons_succ, List.getElem_toArray, List.getElem_cons_succ, List.getElem_cons_zero]))
  (refine wpAnyH_take (i := 2) (v := ?_) rfl ?_ ?_ ?_ (fun _ _ _ h => h) (Or.inl ⟨?_, ?_⟩) ?_ ?_; rotate_left 1; (focus decide +kernel); (focus decide +kernel); (focus decide +kernel); (focus rfl); (focus (intro w hSw; (try dsimp only at hSw); go_simp; (try (with_reducible rfl)); done)); (focus assumption); (try simp only [Act.put, List.setIfInBounds_toArray, List.set_cons_zero, List.set_cons_succ, List.getElem_toArray, List.getElem_cons_succ, List.getElem_cons_zero]))
  (refine wpAnyH_take (i := 3) (v := ?_) rfl ?_ ?_ ?_ (fun _ _ _ h => h) (Or.inl ⟨?_, ?_⟩) ?_ ?_; rotate_left 1; (focus decide +kernel); (focus decide +kernel); (focus decide +kernel); (focus rfl); (focus (intro w hSw; (try dsimp only at hSw); go_simp; (try (with_reducible rfl)); done)); (focus assumption); (try simp only [Act.put, List.setIfInBounds_toArray, List.set_cons_zero, List.set_cons_succ, List.getElem_toArray, List.getElem_cons_succ, List.getElem_cons_zero]))
  (refine wpAnyH_take (i := 5) (v := ?_) rfl ?_ ?_ ?_ (fun _ _ _ h => h) (Or.inl ⟨?_, ?_⟩) ?_ ?_; rotate_left 1; (focus decide +kernel); (focus decide +kernel); (focus decide +kernel); (focus rfl); (focus (intro w hSw; (try dsimp only at hSw); go_simp; (try (with_reducible rfl)); done)); (focus assumption); (try simp only [Act.put, List.setIfInBounds_toArray, List.set_cons_zero, List.set_cons_succ, List.getElem_toArray, List.getElem_cons_succ, List.getElem_cons_zero]))
  (refine wpAnyH_take (i := 6) (v := ?_) rfl ?_ ?_ ?_ (fun _ _ _ h => h) (Or.inl ⟨?_, ?_⟩) ?_ ?_; rotate_left 1; (focus decide +kernel); (focus decide +kernel); (focus decide +kernel); (focus rfl); (focus (intro w hSw; (try dsimp only at hSw); go_simp; (try (with_reducible rfl)); done)); (focus assumption); (try simp only [Act.put, List.setIfInBounds_toArray, List.set_cons_zero, List.set_cons_succ, List.getElem_toArray, List.getElem_cons_succ, List.getElem_cons_zero]))
  (refine wpAnyH_take (i := 8) (v := ?_) rfl ?_ ?_ ?_ (fun _ _ _ h => h) (Or.inl ⟨?_, ?_⟩) ?_ ?_; rotate_left 1; (focus decide +kernel); (focus decide +kernel); (focus decide +kernel); (focus rfl); (focus (intro w hSw; (try dsimp only at hSw); go_simp; (try (with_reducible rfl)); done)); (focus assumption); (try simp only [Act.put, List.setIfInBounds_toArray, List.set_cons_zero, List.set_cons_succ, List.getElem_toArray, List.getElem_cons_succ, List.getElem_cons_zero]))
  (refine wpAnyH_take (i := 9) (v := ?_) rfl ?_ ?_ ?_ (fun _ _ _ h => h) (Or.inl ⟨?_, ?_⟩) ?_ ?_; rotate_left 1; (focus decide +kernel); (focus decide +kernel); (focus decide +kernel); (focus rfl); (focus (intro w hSw; (try dsimp only at hSw); go_simp; (try (with_reducible rfl)); done)); (focus assumption); (try simp only [Act.put, List.setIfInBounds_toArray, List.set_cons_zero, List.set_cons_succ, List.getElem_toArray, List.getElem_cons_succ, List.getElem_cons_zero]))
  (refine wpAnyH_take (i := 10) (v := ?_) rfl ?_ ?_ ?_ (fun _ _ _ h => h) (Or.inl ⟨?_, ?_⟩) ?_ ?_; rotate_left 1; (focus decide +kernel); (focus decide +kernel); (focus decide +kernel); (focus rfl); (focus (intro w hSw; (try dsimp only at hSw); go_simp; (try (with_reducible rfl)); done)); (focus assumption); (try simp only [Act.put, List.setIfInBounds_toArray, List.set_cons_zero, List.set_cons_succ, List.getElem_toArray, List.getElem_cons_succ, List.getElem_cons_zero]))
  (refine wpAnyH_take (i := 11) (v := ?_) rfl ?_ ?_ ?_ (fun _ _ _ h => h) (Or.inl ⟨?_, ?_⟩) ?_ ?_; rotate_left 1; (focus decide +kernel); (focus decide +kernel); (focus decide +kernel); (focus rfl); (focus (intro w hSw; (try dsimp only at hSw); go_simp; (try (with_reducible rfl)); done)); (focus assumption); (try simp only [Act.put, List.setIfInBounds_toArray, List.set_cons_zero, List.set_cons_succ, List.getElem_toArray, List.getElem_cons_succ, List.getElem_cons_zero]))
  (refine wpAnyH_take (i := 12) (v := ?_) rfl ?_ ?_ ?_ (fun _ _ _ h => h) (Or.inl ⟨?_, ?_⟩) ?_ ?_; rotate_left 1; (focus decide +kernel); (focus decide +kernel); (focus decide +kernel); (focus rfl); (focus (intro w hSw; (try dsimp only at hSw); go_simp; (try (with_reducible rfl)); done)); (focus assumption); (try simp only [Act.put, List.setIfInBounds_toArray, List.set_cons_zero, List.set_cons_succ, List.getElem_toArray, List.getElem_cons_succ, List.getElem_cons_zero]))
  refine wpAnyH_ready (rs := [4]) ?_ (by simp) ?_
  · decide +kernel
  refine AllReadyH.cons rfl (fun K hK => ?_) AllReadyH.nil
  go_simp
  refine hK.out _ _ ?_ (fun hHeld2 => ?_)
  · (try dsimp only); exact hHeld
  clear hK K hHeld2
  (try simp only [Act.put, List.setIfInBounds_toArray, List.set_cons_zero, List.set_cons_succ, List.getElem_toArray, List.getElem_cons_succ, List.getElem_cons_zero])
  (refine wpAnyH_take (i := 7) (v := ?_) rfl ?_ ?_ ?_ (fun _ _ _ h => h) (Or.inl ⟨?_, ?_⟩) ?_ ?_; rotate_left 1; (focus decide +kernel); (focus decide +kernel); (focus decide +kernel); (focus rfl); (focus (intro w hSw; (try dsimp only at hSw); go_simp; (try (with_reducible rfl)); done)); (focus assumption); (try simp only [Act.put, List.setIfInBounds_toArray, List.set_cons_zero, List.set_cons_succ, List.getElem_toArray, List.getElem_cons_succ, List.getElem_cons_zero]))
  refine wpAnyH_ready (rs := [13]) ?_ (by simp) ?_
  · decide +kernel
  refine AllReadyH.cons rfl (fun K hK => ?_) AllReadyH.nil
  go_simp
  go_at_call 37
  refine (onRoundI (by omega) (by omega)).mono ?_
  rintro e w2 ⟨rfl, rfl⟩
  refine hK.out _ _ ?_ (fun hHeld2 => ?_)
  · (try dsimp only); exact hHeld
  clear hK K hHeld2
  (try simp only [Act.put, List.setIfInBounds_toArray, List.set_cons_zero, List.set_cons_succ, List.getElem_toArray, List.getElem_cons_succ, List.getElem_cons_zero])
  (refine wpAnyH_take (i := 14) (v := ?_) rfl ?_ ?_ ?_ (fun _ _ _ h => h) (Or.inl ⟨?_, ?_⟩) ?_ ?_; rotate_left 1; (focus decide +kernel); (focus decide +kernel); (focus decide +kernel); (focus rfl); (focus (intro w hSw; (try dsimp only at hSw); go_simp; (try (with_reducible rfl)); done)); (focus assumption); (try simp only [Act.put, List.setIfInBounds_toArray, List.set_cons_zero, List.set_cons_succ, List.getElem_toArray, List.getElem_cons_succ, List.getElem_cons_zero]))
  (refine wpAnyH_take (i := 15) (v := ?_) rfl ?_ ?_ ?_ (fun _ _ _ h => h) (Or.inl ⟨?_, ?_⟩) ?_ ?_; rotate_left 1; (focus decide +kernel); (focus decide +kernel); (focus decide +kernel); (focus rfl); (focus (intro w hSw; (try dsimp only at hSw); go_simp; (try (with_reducible rfl)); done)); (focus assumption); (try simp only [Act.put, List.setIfInBounds_toArray, List.set_cons_zero, List.set_cons_succ, List.getElem_toArray, List.getElem_cons_succ, List.getElem_cons_zero]))
  refine wpAnyH_ready (rs := [16]) ?_ (by simp) ?_
  · decide +kernel
  refine AllReadyH.cons rfl (fun K hK => ?_) AllReadyH.nil
  go_simp
  refine hK.out _ _ ?_ (fun hHeld2 => ?_)
  · (try dsimp only); exact ⟨(ant_cells (ant_col HKD.out _)).2.1, set_cell hHeld.2 HNWB.out.symm⟩
  clear hK K hHeld2
  (try simp only [Act.put, List.setIfInBounds_toArray, List.set_cons_zero, List.set_cons_succ, List.getElem_toArray, List.getElem_cons_succ, List.getElem_cons_zero])
  refine wpAnyH_done (by kernel_rfl) ?_ _
  obtain ⟨w5, hWn⟩ : ∃ w5, w5 = wD.setCell ⟨NW, 4, none⟩ (.int .i64 ((col) % (C : Int))) := ⟨_, rfl⟩
  have HKw5 : Hid (w5.heap[NW]? = some (antO R C v ((row + 1) % (R : Int)) ((col) % (C : Int)) 2)) := by simp only [Hid]; rw [hWn]; exact ant_col HKD.out _
  have HBw5 : Hid (w5.heap[NB]? = some (Obj.cells #[.int .i64 1, .int .i64 0] 42)) := by simp only [Hid]; rw [hWn]; exact (Below.heap_setCell _ ⟨NW, 4, none⟩ _ _ HNWB.out.symm).trans HBD.out
  have HGw5 : Hid (w.grownBy w5 (some NW)) := by simp only [Hid]; rw [hWn]; exact g_set HGD.out 4 _
  simp only [← hWn]
  clear hWn hHeld cv cf HKD HBD HGD
  go_wp2
  go_end0
  exact ⟨⟨_, rfl⟩, HKw5.out, HGw5.out⟩

set_option maxHeartbeats 2000000 in
theorem goOn3 {w : World} {NW : Nat} {R C : Nat} {row col : Int} {v : Value} (k : w.heap[NW]? = some (antO R C v row col 3)) (hg : GW w) (hR : 1 ≤ R ∧ R ≤ 24) (hC : 1 ≤ C ∧ C ≤ 24) (hr : 0 ≤ row ∧ row ≤ 24) (hc : 0 ≤ col ∧ col ≤ 24) :
    Calls Tryd.prog 33 #[.pointer (some ⟨NW, 0, none⟩)] w fun e w' => (∃ x, e = .returned x) ∧ w'.heap[NW]? = some (antO R C v ((row) % (R : Int)) ((col + (-1)) % (C : Int)) 3) ∧ w.grownBy w' (some NW) := by
  have HK := hid k
  have hNl := (Array.getElem?_eq_some_iff.1 k).1
  have k5 := (ant_cells k).2.2.2.2.2
  obtain ⟨t, fr, hG⟩ := hg
  have d0 : w.cell? ⟨0, 6, none⟩ = some (.int .i64 0) := Go.Joins.cell_of_block hG 6
  have d1 : w.cell? ⟨0, 7, none⟩ = some (.int .i64 (-1)) := Go.Joins.cell_of_block hG 7
  have wr1 : IntKind.i64.wrap (row) = row := by rw [IntKind.wrap_i64]; omega
  have wr2 : IntKind.i64.wrap (col + (-1)) = col + (-1) := by rw [IntKind.wrap_i64]; omega
  clear k hG
  go_enter Tryd.func33, Tryd.ntmps33
  go_wp2_with fail
  obtain ⟨w1, hW⟩ : ∃ w1, w1 = w.alloc (Obj.cells #[.int .i64 0, .int .i64 (-1)] 42) := ⟨_, rfl⟩
  obtain ⟨NB, hN⟩ : ∃ NB, NB = w.heap.size := ⟨_, rfl⟩
  have bel : Below w.heap.size w w1 := by rw [hW]; exact below1 _ _
  have HBw1 : Hid (w1.heap[NB]? = some (Obj.cells #[.int .i64 0, .int .i64 (-1)] 42)) := by simp only [Hid]; rw [hW]; exact FNew.heap_top hN
  have HKw1 := hid (Box.heap_keep bel HK.out)
  have HNWB : Hid (NW ≠ NB) := by simp only [Hid]; omega
  have HGw1 := hid (g_bel (g_refl w NW) bel)
  simp only [← hW, ← hN]
  clear hW hN bel hNl k5 d0 d1
  (try refine Box.wp_noPanic ?_)
  refine wp_region_held_drew (S := (fun ww => ww.cell? ⟨NW, 0, none⟩ = some (.int .i64 (R : Int)) ∧ ww.cell? ⟨NB, 0, none⟩ = some (.int .i64 0))) (by kernel_rfl) ?_ (fun hHeld => ?_)
  · ((try dsimp only); exact ⟨(ant_cells HKw1.out).1, Go.Joins.cell_of_block HBw1.out 0⟩)
  obtain ⟨wD, hDr⟩ : ∃ wD, wD = w1.drew := ⟨_, rfl⟩
  have HKD : Hid (wD.heap[NW]? = some (antO R C v row col 3)) := by simp only [Hid]; rw [hDr]; exact HKw1.out
  have HBD : Hid (wD.heap[NB]? = some (Obj.cells #[.int .i64 0, .int .i64 (-1)] 42)) := by simp only [Hid]; rw [hDr]; exact HBw1.out
  have HGD : Hid (w.grownBy wD (some NW)) := by simp only [Hid]; rw [hDr]; exact g_drew HGw1.out
  simp only [← hDr] at hHeld ⊢
  clear hDr
  have cv := (ant_cells HKD.out).2.2.2.1
  have cf := ant_free HKD.out 3
  (try dsimp only at hHeld)
  (refine wpAnyH_take (i := 0) (v := ?_) rfl ?_ ?_ ?_ (fun _ _ _ h => h) (Or.inl ⟨?_, ?_⟩) ?_ ?_; rotate_left 1; (focus decide +kernel); (focus decide +kernel); (focus decide +kernel); (focus rfl); (focus (intro w hSw; (try dsimp only at hSw); go_simp; (try (with_reducible rfl)); done)); (focus assumption); (try simp only [Act.put, List.setIfInBounds_toArray, List.set_cons_zero, List.set_cons_succ, List.getElem_toArray, List.getElem_cons_succ, List.getElem_cons_zero]))
  (refine wpAnyH_take (i := 1) (v := ?_) rfl ?_ ?_ ?_ (fun _ _ _ h => h) (Or.inl ⟨?_, ?_⟩) ?_ ?_; rotate_left 1; (focus decide +kernel); (focus decide +kernel); (focus decide +kernel); (focus rfl); (focus (intro w hSw; (try dsimp only at hSw); go_simp; (try (with_reducible rfl)); done)); (focus assumption); (try simp only [Act.put, List.setIfInBounds_toArray, List.set_cons_zero, List.set_cons_succ, List.getElem_toArray, List.getElem_cons_succ, List.getElem_cons_zero]))
  (refine wpAnyH_take (i := 2) (v := ?_) rfl ?_ ?_ ?_ (fun _ _ _ h => h) (Or.inl ⟨?_, ?_⟩) ?_ ?_; rotate_left 1; (focus decide +kernel); (focus decide +kernel); (focus decide +kernel); (focus rfl); (focus (intro w hSw; (try dsimp only at hSw); go_simp; (try (with_reducible rfl)); done)); (focus assumption); (try simp only [Act.put, List.setIfInBounds_toArray, List.set_cons_zero, List.set_cons_succ, List.getElem_toArray, List.getElem_cons_succ, List.getElem_cons_zero]))
  (refine wpAnyH_take (i := 3) (v := ?_) rfl ?_ ?_ ?_ (fun _ _ _ h => h) (Or.inl ⟨?_, ?_⟩) ?_ ?_; rotate_left 1; (focus decide +kernel); (focus decide +kernel); (focus decide +kernel); (focus rfl); (focus (intro w hSw; (try dsimp only at hSw); go_simp; (try (with_reducible rfl)); done)); (focus assumption); (try simp only [Act.put, List.setIfInBounds_toArray, List.set_cons_zero, List.set_cons_succ, List.getElem_toArray, List.getElem_cons_succ, List.getElem_cons_zero]))
  (refine wpAnyH_take (i := 5) (v := ?_) rfl ?_ ?_ ?_ (fun _ _ _ h => h) (Or.inl ⟨?_, ?_⟩) ?_ ?_; rotate_left 1; (focus decide +kernel); (focus decide +kernel); (focus decide +kernel); (focus rfl); (focus (intro w hSw; (try dsimp only at hSw); go_simp; (try (with_reducible rfl)); done)); (focus assumption); (try simp only [Act.put, List.setIfInBounds_toArray, List.set_cons_zero, List.set_cons_succ, List.getElem_toArray, List.getElem_cons_succ, List.getElem_cons_zero]))
  (refine wpAnyH_take (i := 6) (v := ?_) rfl ?_ ?_ ?_ (fun _ _ _ h => h) (Or.inl ⟨?_, ?_⟩) ?_ ?_; rotate_left 1; (focus decide +kernel); (focus decide +kernel); (focus decide +kernel); (focus rfl); (focus (intro w hSw; (try dsimp only at hSw); go_simp; (try (with_reducible rfl)); done)); (focus assumption); (try simp only [Act.put, List.setIfInBounds_toArray, List.set_cons_zero, List.set_cons_succ, List.getElem_toArray, List.getElem_cons_succ, List.getElem_cons_zero]))
  (refine wpAnyH_take (i := 8) (v := ?_) rfl ?_ ?_ ?_ (fun _ _ _ h => h) (Or.inl ⟨?_, ?_⟩) ?_ ?_; rotate_left 1; (focus decide +kernel); (focus decide +kernel); (focus decide +kernel); (focus rfl); (focus (intro w hSw; (try dsimp only at hSw); go_simp; (try (with_reducible rfl)); done)); (focus assumption); (try simp only [Act.put, List.setIfInBounds_toArray, List.set_cons_zero, List.set_cons_succ, List.getElem_toArray, List.getElem_cons_succ, List.getElem_cons_zero]))
  (refine wpAnyH_take (i := 9) (v := ?_) rfl ?_ ?_ ?_ (fun _ _ _ h => h) (Or.inl ⟨?_, ?_⟩) ?_ ?_; rotate_left 1; (focus decide +kernel); (focus decide +kernel); (focus decide +kernel); (focus rfl); (focus (intro w hSw; (try dsimp only at hSw); go_simp; (try (with_reducible rfl)); done)); (focus assumption); (try simp only [Act.put, List.setIfInBounds_toArray, List.set_cons_zero, List.set_cons_succ, List.getElem_toArray, List.getElem_cons_succ, List.getElem_cons_zero]))
  (refine wpAnyH_take (i := 10) (v := ?_) rfl ?_ ?_ ?_ (fun _ _ _ h => h) (Or.inl ⟨?_, ?_⟩) ?_ ?_; rotate_left 1; (focus decide +kernel); (focus decide +kernel); (focus decide +kernel); (focus rfl); (focus (intro w hSw; (try dsimp only at hSw); go_simp; (try (with_reducible rfl)); done)); (focus assumption); (try simp only [Act.put, List.setIfInBounds_toArray, List.set_cons_zero, List.set_cons_succ, List.getElem_toArray, List.getElem_cons_succ, List.getElem_cons_zero]))
  (refine wpAnyH_take (i := 11) (v := ?_) rfl ?_ ?_ ?_ (fun _ _ _ h => h) (Or.inl ⟨?_, ?_⟩) ?_ ?_; rotate_left 1; (focus decide +kernel); (focus decide +kernel); (focus decide +kernel); (focus rfl); (focus (intro w hSw; (try dsimp only at hSw); go_simp; (try (with_reducible rfl)); done)); (focus assumption); (try simp only [Act.put, List.setIfInBounds_toArray, List.set_cons_zero, List.set_cons_succ, List.getElem_toArray, List.getElem_cons_succ, List.getElem_cons_zero]))
  (refine wpAnyH_take (i := 12) (v := ?_) rfl ?_ ?_ ?_ (fun _ _ _ h => h) (Or.inl ⟨?_, ?_⟩) ?_ ?_; rotate_left 1; (focus decide +kernel); (focus decide +kernel); (focus decide +kernel); (focus rfl); (focus (intro w hSw; (try dsimp only at hSw); go_simp; (try (with_reducible rfl)); done)); (focus assumption); (try simp only [Act.put, List.setIfInBounds_toArray, List.set_cons_zero, List.set_cons_succ, List.getElem_toArray, List.getElem_cons_succ, List.getElem_cons_zero]))
  refine wpAnyH_ready (rs := [4]) ?_ (by simp) ?_
  · decide +kernel
  refine AllReadyH.cons rfl (fun K hK => ?_) AllReadyH.nil
  go_simp
  refine hK.out _ _ ?_ (fun hHeld2 => ?_)
  · (try dsimp only); exact hHeld
  clear hK K hHeld2
  (try simp only [Act.put, List.setIfInBounds_toArray, List.set_cons_zero, List.set_cons_succ, List.getElem_toArray, List.getElem_cons_succ, List.getElem_cons_zero])
  (refine wpAnyH_take (i := 7) (v := ?_) rfl ?_ ?_ ?_ (fun _ _ _ h => h) (Or.inl ⟨?_, ?_⟩) ?_ ?_; rotate_left 1; (focus decide +kernel); (focus decide +kernel); (focus decide +kernel); (focus rfl); (focus (intro w hSw; (try dsimp only at hSw); go_simp; (try (with_reducible rfl)); done)); (focus assumption); (try simp only [Act.put, List.setIfInBounds_toArray, List.set_cons_zero, List.set_cons_succ, List.getElem_toArray, List.getElem_cons_succ, List.getElem_cons_zero]))
  refine wpAnyH_ready (rs := [13]) ?_ (by simp) ?_
  · decide +kernel
  refine AllReadyH.cons rfl (fun K hK => ?_) AllReadyH.nil
  go_simp
  go_at_call 37
  refine (onRoundI (by omega) (by omega)).mono ?_
  rintro e w2 ⟨rfl, rfl⟩
  refine hK.out _ _ ?_ (fun hHeld2 => ?_)
  · (try dsimp only); exact hHeld
  clear hK K hHeld2
  (try simp only [Act.put, List.setIfInBounds_toArray, List.set_cons_zero, List.set_cons_succ, List.getElem_toArray, List.getElem_cons_succ, List.getElem_cons_zero])
  (refine wpAnyH_take (i := 14) (v := ?_) rfl ?_ ?_ ?_ (fun _ _ _ h => h) (Or.inl ⟨?_, ?_⟩) ?_ ?_; rotate_left 1; (focus decide +kernel); (focus decide +kernel); (focus decide +kernel); (focus rfl); (focus (intro w hSw; (try dsimp only at hSw); go_simp; (try (with_reducible rfl)); done)); (focus assumption); (try simp only [Act.put, List.setIfInBounds_toArray, List.set_cons_zero, List.set_cons_succ, List.getElem_toArray, List.getElem_cons_succ, List.getElem_cons_zero]))
  (refine wpAnyH_take (i := 15) (v := ?_) rfl ?_ ?_ ?_ (fun _ _ _ h => h) (Or.inl ⟨?_, ?_⟩) ?_ ?_; rotate_left 1; (focus decide +kernel); (focus decide +kernel); (focus decide +kernel); (focus rfl); (focus (intro w hSw; (try dsimp only at hSw); go_simp; (try (with_reducible rfl)); done)); (focus assumption); (try simp only [Act.put, List.setIfInBounds_toArray, List.set_cons_zero, List.set_cons_succ, List.getElem_toArray, List.getElem_cons_succ, List.getElem_cons_zero]))
  refine wpAnyH_ready (rs := [16]) ?_ (by simp) ?_
  · decide +kernel
  refine AllReadyH.cons rfl (fun K hK => ?_) AllReadyH.nil
  go_simp
  refine hK.out _ _ ?_ (fun hHeld2 => ?_)
  · (try dsimp only); exact ⟨(ant_cells (ant_row HKD.out _)).1, set_cell hHeld.2 HNWB.out.symm⟩
  clear hK K hHeld2
  (try simp only [Act.put, List.setIfInBounds_toArray, List.set_cons_zero, List.set_cons_succ, List.getElem_toArray, List.getElem_cons_succ, List.getElem_cons_zero])
  refine wpAnyH_done (by kernel_rfl) ?_ _
  obtain ⟨w3, hWn⟩ : ∃ w3, w3 = wD.setCell ⟨NW, 3, none⟩ (.int .i64 ((row) % (R : Int))) := ⟨_, rfl⟩
  have HKw3 : Hid (w3.heap[NW]? = some (antO R C v ((row) % (R : Int)) col 3)) := by simp only [Hid]; rw [hWn]; exact ant_row HKD.out _
  have HBw3 : Hid (w3.heap[NB]? = some (Obj.cells #[.int .i64 0, .int .i64 (-1)] 42)) := by simp only [Hid]; rw [hWn]; exact (Below.heap_setCell _ ⟨NW, 3, none⟩ _ _ HNWB.out.symm).trans HBD.out
  have HGw3 : Hid (w.grownBy w3 (some NW)) := by simp only [Hid]; rw [hWn]; exact g_set HGD.out 3 _
  simp only [← hWn]
  clear hWn hHeld cv cf HKD HBD HGD
  go_wp2_with fail
  (try refine Box.wp_noPanic ?_)
  refine wp_region_held_drew (S := (fun ww => ww.cell? ⟨NW, 1, none⟩ = some (.int .i64 (C : Int)) ∧ ww.cell? ⟨NB, 1, none⟩ = some (.int .i64 (-1)))) (by kernel_rfl) ?_ (fun hHeld => ?_)
  · ((try dsimp only); exact ⟨(ant_cells HKw3.out).2.1, Go.Joins.cell_of_block HBw3.out 1⟩)
  obtain ⟨wD, hDr⟩ : ∃ wD, wD = w3.drew := ⟨_, rfl⟩
  have HKD : Hid (wD.heap[NW]? = some (antO R C v ((row) % (R : Int)) col 3)) := by simp only [Hid]; rw [hDr]; exact HKw3.out
  have HBD : Hid (wD.heap[NB]? = some (Obj.cells #[.int .i64 0, .int .i64 (-1)] 42)) := by simp only [Hid]; rw [hDr]; exact HBw3.out
  have HGD : Hid (w.grownBy wD (some NW)) := by simp only [Hid]; rw [hDr]; exact g_drew HGw3.out
  simp only [← hDr] at hHeld ⊢
  clear hDr
  have cv := (ant_cells HKD.out).2.2.2.2.1
  have cf := ant_free HKD.out 4
  (try dsimp only at hHeld)
  (refine wpAnyH_take (i := 0) (v := ?_) rfl ?_ ?_ ?_ (fun _ _ _ h => h) (Or.inl ⟨?_, ?_⟩) ?_ ?_; rotate_left 1; (focus decide +kernel); (focus decide +kernel); (focus decide +kernel); (focus rfl); (focus (intro w hSw; (try dsimp only at hSw); go_simp; (try (with_reducible rfl)); done)); (focus assumption); (try simp only [Act.put, List.setIfInBounds_toArray, List.set_cons_zero, List.set_cons_succ, List.getElem_toArray, List.getElem_cons_succ, List.getElem_cons_zero]))
  (refine wpAnyH_take (i := 1) (v := ?_) rfl ?_ ?_ ?_ (fun _ _ _ h => h) (Or.inl ⟨?_, ?_⟩) ?_ ?_; rotate_left 1; (focus decide +kernel); (focus decide +kernel); (focus decide +kernel); (focus rfl); (focus (intro w hSw; (try dsimp only at hSw); go_simp; (try (with_reducible rfl)); done)); (focus assumption); (try simp only [Act.put, List.setIfInBounds_toArray, List.set_cons_zero, List.set_cons_succ, List.getElem_toArray, List.getElem_cons_succ, List.getElem_cons_zero]))
  (refine wpAnyH_take (i := 2) (v := ?_) rfl ?_ ?_ ?_ (fun _ _ _ h => h) (Or.inl ⟨?_, ?_⟩) ?_ ?_; rotate_left 1; (focus decide +kernel); (focus decide +kernel); (focus decide +kernel); (focus rfl); (focus (intro w hSw; (try dsimp only at hSw); go_simp; (try (with_reducible rfl)); done)); (focus assumption); (try simp only [Act.put, List.setIfInBounds_toArray, List.set_cons_zero, List.set_cons_succ, List.getElem_toArray, List.getElem_cons_succ, List.getElem_cons_zero]))
  (refine wpAnyH_take (i := 3) (v := ?_) rfl ?_ ?_ ?_ (fun _ _ _ h => h) (Or.inl ⟨?_, ?_⟩) ?_ ?_; rotate_left 1; (focus decide +kernel); (focus decide +kernel); (focus decide +kernel); (focus rfl); (focus (intro w hSw; (try dsimp only at hSw); go_simp; (try (with_reducible rfl)); done)); (focus assumption); (try simp only [Act.put, List.setIfInBounds_toArray, List.set_cons_zero, List.set_cons_succ, List.getElem_toArray, List.getElem_cons_succ, List.getElem_cons_zero]))
  (refine wpAnyH_take (i := 5) (v := ?_) rfl ?_ ?_ ?_ (fun _ _ _ h => h) (Or.inl ⟨?_, ?_⟩) ?_ ?_; rotate_left 1; (focus decide +kernel); (focus decide +kernel); (focus decide +kernel); (focus rfl); (focus (intro w hSw; (try dsimp only at hSw); go_simp; (try (with_reducible rfl)); done)); (focus assumption); (try simp only [Act.put, List.setIfInBounds_toArray, List.set_cons_zero, List.set_cons_succ, List.getElem_toArray, List.getElem_cons_succ, List.getElem_cons_zero]))
  (refine wpAnyH_take (i := 6) (v := ?_) rfl ?_ ?_ ?_ (fun _ _ _ h => h) (Or.inl ⟨?_, ?_⟩) ?_ ?_; rotate_left 1; (focus decide +kernel); (focus decide +kernel); (focus decide +kernel); (focus rfl); (focus (intro w hSw; (try dsimp only at hSw); go_simp; (try (with_reducible rfl)); done)); (focus assumption); (try simp only [Act.put, List.setIfInBounds_toArray, List.set_cons_zero, List.set_cons_succ, List.getElem_toArray, List.getElem_cons_succ, List.getElem_cons_zero]))
  (refine wpAnyH_take (i := 8) (v := ?_) rfl ?_ ?_ ?_ (fun _ _ _ h => h) (Or.inl ⟨?_, ?_⟩) ?_ ?_; rotate_left 1; (focus decide +kernel); (focus decide +kernel); (focus decide +kernel); (focus rfl); (focus (intro w hSw; (try dsimp only at hSw); go_simp; (try (with_reducible rfl)); done)); (focus assumption); (try simp only [Act.put, List.setIfInBounds_toArray, List.set_cons_zero, List.set_cons_succ, List.getElem_toArray, List.getElem_cons_succ, List.getElem_cons_zero]))
  (refine wpAnyH_take (i := 9) (v := ?_) rfl ?_ ?_ ?_ (fun _ _ _ h => h) (Or.inl ⟨?_, ?_⟩) ?_ ?_; rotate_left 1; (focus decide +kernel); (focus decide +kernel); (focus decide +kernel); (focus rfl); (focus (intro w hSw; (try dsimp only at hSw); go_simp; (try (with_reducible rfl)); done)); (focus assumption); (try simp only [Act.put, List.setIfInBounds_toArray, List.set_cons_zero, List.set_cons_succ, List.getElem_toArray, List.getElem_cons_succ, List.getElem_cons_zero]))
  (refine wpAnyH_take (i := 10) (v := ?_) rfl ?_ ?_ ?_ (fun _ _ _ h => h) (Or.inl ⟨?_, ?_⟩) ?_ ?_; rotate_left 1; (focus decide +kernel); (focus decide +kernel); (focus decide +kernel); (focus rfl); (focus (intro w hSw; (try dsimp only at hSw); go_simp; (try (with_reducible rfl)); done)); (focus assumption); (try simp only [Act.put, List.setIfInBounds_toArray, List.set_cons_zero, List.set_cons_succ, List.getElem_toArray, List.getElem_cons_succ, List.getElem_cons_zero]))
  (refine wpAnyH_take (i := 11) (v := ?_) rfl ?_ ?_ ?_ (fun _ _ _ h => h) (Or.inl ⟨?_, ?_⟩) ?_ ?_; rotate_left 1; (focus decide +kernel); (focus decide +kernel); (focus decide +kernel); (focus rfl); (focus (intro w hSw; (try dsimp only at hSw); go_simp; (try (with_reducible rfl)); done)); (focus assumption); (try simp only [Act.put, List.setIfInBounds_toArray, List.set_cons_zero, List.set_cons_succ, List.getElem_toArray, List.getElem_cons_succ, List.getElem_cons_zero]))
  (refine wpAnyH_take (i := 12) (v := ?_) rfl ?_ ?_ ?_ (fun _ _ _ h => h) (Or.inl ⟨?_, ?_⟩) ?_ ?_; rotate_left 1; (focus decide +kernel); (focus decide +kernel); (focus decide +kernel); (focus rfl); (focus (intro w hSw; (try dsimp only at hSw); go_simp; (try (with_reducible rfl)); done)); (focus assumption); (try simp only [Act.put, List.setIfInBounds_toArray, List.set_cons_zero, List.set_cons_succ, List.getElem_toArray, List.getElem_cons_succ, List.getElem_cons_zero]))
  refine wpAnyH_ready (rs := [4]) ?_ (by simp) ?_
  · decide +kernel
  refine AllReadyH.cons rfl (fun K hK => ?_) AllReadyH.nil
  go_simp
  refine hK.out _ _ ?_ (fun hHeld2 => ?_)
  · (try dsimp only); exact hHeld
  clear hK K hHeld2
  (try simp only [Act.put, List.setIfInBounds_toArray, List.set_cons_zero, List.set_cons_succ, List.getElem_toArray, List.getElem_cons_succ, List.getElem_cons_zero])
  (refine wpAnyH_take (i := 7) (v := ?_) rfl ?_ ?_ ?_ (fun _ _ _ h => h) (Or.inl ⟨?_, ?_⟩) ?_ ?_; rotate_left 1; (focus decide +kernel); (focus decide +kernel); (focus decide +kernel); (focus rfl); (focus (intro w hSw; (try dsimp only at hSw); go_simp; (try (with_reducible rfl)); done)); (focus assumption); (try simp only [Act.put, List.setIfInBounds_toArray, List.set_cons_zero, List.set_cons_succ, List.getElem_toArray, List.getElem_cons_succ, List.getElem_cons_zero]))
  refine wpAnyH_ready (rs := [13]) ?_ (by simp) ?_
  · decide +kernel
  refine AllReadyH.cons rfl (fun K hK => ?_) AllReadyH.nil
  go_simp
  go_at_call 37
  refine (onRoundI (by omega) (by omega)).mono ?_
  rintro e w2 ⟨rfl, rfl⟩
  refine hK.out _ _ ?_ (fun hHeld2 => ?_)
  · (try dsimp only); exact hHeld
  clear hK K hHeld2
  (try simp only [Act.put, List.setIfInBounds_toArray, List.set_cons_zero, List.set_cons_succ, List.getElem_toArray, List.getElem_cons_succ, List.getElem_cons_zero])
  (refine wpAnyH_take (i := 14) (v := ?_) rfl ?_ ?_ ?_ (fun _ _ _ h => h) (Or.inl ⟨?_, ?_⟩) ?_ ?_; rotate_left 1; (focus decide +kernel); (focus decide +kernel); (focus decide +kernel); (focus rfl); (focus (intro w hSw; (try dsimp only at hSw); go_simp; (try (with_reducible rfl)); done)); (focus assumption); (try simp only [Act.put, List.setIfInBounds_toArray, List.set_cons_zero, List.set_cons_succ, List.getElem_toArray, List.getElem_cons_succ, List.getElem_cons_zero]))
  (refine wpAnyH_take (i := 15) (v := ?_) rfl ?_ ?_ ?_ (fun _ _ _ h => h) (Or.inl ⟨?_, ?_⟩) ?_ ?_; rotate_left 1; (focus decide +kernel); (focus decide +kernel); (focus decide +kernel); (focus rfl); (focus (intro w hSw; (try dsimp only at hSw); go_simp; (try (with_reducible rfl)); done)); (focus assumption); (try simp only [Act.put, List.setIfInBounds_toArray, List.set_cons_zero, List.set_cons_succ, List.getElem_toArray, List.getElem_cons_succ, List.getElem_cons_zero]))
  refine wpAnyH_ready (rs := [16]) ?_ (by simp) ?_
  · decide +kernel
  refine AllReadyH.cons rfl (fun K hK => ?_) AllReadyH.nil
  go_simp
  refine hK.out _ _ ?_ (fun hHeld2 => ?_)
  · (try dsimp only); exact ⟨(ant_cells (ant_col HKD.out _)).2.1, set_cell hHeld.2 HNWB.out.symm⟩
  clear hK K hHeld2
  (try simp only [Act.put, List.setIfInBounds_toArray, List.set_cons_zero, List.set_cons_succ, List.getElem_toArray, List.getElem_cons_succ, List.getElem_cons_zero])
  refine wpAnyH_done (by kernel_rfl) ?_ _
  obtain ⟨w5, hWn⟩ : ∃ w5, w5 = wD.setCell ⟨NW, 4, none⟩ (.int .i64 ((col + (-1)) % (C : Int))) := ⟨_, rfl⟩
  have HKw5 : Hid (w5.heap[NW]? = some (antO R C v ((row) % (R : Int)) ((col + (-1)) % (C : Int)) 3)) := by simp only [Hid]; rw [hWn]; exact ant_col HKD.out _
  have HBw5 : Hid (w5.heap[NB]? = some (Obj.cells #[.int .i64 0, .int .i64 (-1)] 42)) := by simp only [Hid]; rw [hWn]; exact (Below.heap_setCell _ ⟨NW, 4, none⟩ _ _ HNWB.out.symm).trans HBD.out
  have HGw5 : Hid (w.grownBy w5 (some NW)) := by simp only [Hid]; rw [hWn]; exact g_set HGD.out 4 _
  simp only [← hWn]
  clear hWn hHeld cv cf HKD HBD HGD
  go_wp2
  go_end0
  exact ⟨⟨_, rfl⟩, HKw5.out, HGw5.out⟩

def ddr (way : Int) : Int := if way = 0 then -1 else if way = 2 then 1 else 0
def ddc (way : Int) : Int := if way = 1 then 1 else if way = 3 then -1 else 0
theorem goOn {w : World} {NW : Nat} {R C : Nat} {row col way : Int} {v : Value} (k : w.heap[NW]? = some (antO R C v row col way)) (hg : GW w) (hw : 0 ≤ way ∧ way ≤ 3) (hR : 1 ≤ R ∧ R ≤ 24) (hC : 1 ≤ C ∧ C ≤ 24) (hr : 0 ≤ row ∧ row ≤ 24) (hc : 0 ≤ col ∧ col ≤ 24) :
    Calls Tryd.prog 33 #[.pointer (some ⟨NW, 0, none⟩)] w fun e w' => (∃ x, e = .returned x) ∧ w'.heap[NW]? = some (antO R C v ((row + ddr way) % (R : Int)) ((col + ddc way) % (C : Int)) way) ∧ w.grownBy w' (some NW) := by
  have h4 : way = 0 ∨ way = 1 ∨ way = 2 ∨ way = 3 := by omega
  rcases h4 with rfl | rfl | rfl | rfl
  · have h := goOn0 k hg hR hC hr hc
    simpa [ddr, ddc] using h
  · have h := goOn1 k hg hR hC hr hc
    simpa [ddr, ddc] using h
  · have h := goOn2 k hg hR hC hr hc
    simpa [ddr, ddc] using h
  · have h := goOn3 k hg hR hC hr hc
    simpa [ddr, ddc] using h

end Go.Proofs.YtmbimekndhcgaaaDoor.Ant
