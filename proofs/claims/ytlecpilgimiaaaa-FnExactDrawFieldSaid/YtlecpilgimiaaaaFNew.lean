/- New fields: l04New, emptyField, NewField of both sides. -/
import Derived.Test.YtlecpilgimiaaaaKit0
import Derived.Test.YtlecpilgimiaaaaFSpec
namespace Go.Proofs.Ytlecpilgimiaaaa.FNew
open Go.RowKit Go.Proofs.Ytlecpilgimiaaaa.Rd Go.Proofs.Ytlecpilgimiaaaa.Help Go.Proofs.Ytlecpilgimiaaaa.Ring Go.Proofs.Ytlecpilgimiaaaa.Small Go.Proofs.Ytlecpilgimiaaaa.FVal Go.Proofs.Ytlecpilgimiaaaa.Keep Go.Proofs.Ytlecpilgimiaaaa.Rule
set_option linter.unusedVariables false
set_option linter.unusedSimpArgs false

theorem heap_top {w : World} {o : Obj} {n : Nat} (hn : n = w.heap.size) : (w.alloc o).heap[n]? = some o := by
  subst hn; exact heap_alloc_new w o
theorem heap_old {w : World} {o o' : Obj} {n : Nat} (h : w.heap[n]? = some o) : (w.alloc o').heap[n]? = some o := by
  have hl : n < w.heap.size := (Array.getElem?_eq_some_iff.1 h).1
  rw [Below.heap_alloc _ _ _ (by omega)]; exact h
theorem set_cell {w : World} {a : Addr} {u c : Value} {g i : Nat} (h : w.cell? ⟨g, i, none⟩ = some c) (hne : g ≠ a.block) : (w.setCell a u).cell? ⟨g, i, none⟩ = some c :=
  (World.cell?_of_block (w := w) (Below.heap_setCell w a u g (by first | exact hne | exact Ne.symm hne))).trans h
theorem natmul {R C n : Nat} (hn : n = R * C) : (R : Int) * (C : Int) = (n : Int) := by rw [hn]; simp

set_option maxHeartbeats 1000000 in
theorem l04New {w : World} {R C n : Nat} (hn : n = R * C) (h : n ≤ 576) :
    Calls Try.prog 12 #[.int .i64 R, .int .i64 C] w fun e w' => ∃ b', e = .returned (ruleV R C (.slice (some ⟨b', 0, none⟩) n n)) ∧ Own 2 w' b' (.slice (some ⟨b', 0, none⟩) n n) (List.replicate n 0) ∧ w.heap.size ≤ b' ∧ Below w.heap.size w w' := by
  have hw : IntKind.i64.wrap ((R : Int) * (C : Int)) = (n : Int) := by rw [natmul hn, IntKind.wrap_i64]; omega
  have hmk := run_make_row' (P := Try.prog) 23 2 (.int .i64 0) 8 Try.underlying23 infoI rfl .i64 .i64 n (by omega) (by omega)
  clear hn
  go_enter Try.func12, Try.ntmps12
  go_wp2
  simp [bodyPost, results, Try.results12, go_sem]
  refine ⟨?_, Go.Joins.below_alloc2 _ _ _⟩
  have ow := Own.made 2 (w.alloc (Obj.cells #[Value.int IntKind.i64 R, Value.int IntKind.i64 C, Value.slice (some { block := w.heap.size + 1, off := 0 }) n n] 25)) n (by unfold maxLen; omega)
  have hs : (w.alloc (Obj.cells #[Value.int IntKind.i64 R, Value.int IntKind.i64 C, Value.slice (some { block := w.heap.size + 1, off := 0 }) n n] 25)).heap.size = w.heap.size + 1 := by simp
  rw [hs] at ow
  exact ow

theorem sizeN {w : World} {R C n : Nat} (hn : n = R * C) (h : n ≤ 576) :
    Calls Try.prog 24 #[shapeV R C] w fun e w' => e = .returned (.int .i64 n) ∧ Below w.heap.size w w' := by
  have hw : IntKind.i64.wrap ((R : Int) * (C : Int)) = (n : Int) := by rw [natmul hn, IntKind.wrap_i64]; omega
  clear hn
  go_enter Try.func24, Try.ntmps24
  go_wp2_with fail
  go_ret
  exact ⟨rfl, below1 _ _⟩

set_option maxHeartbeats 4000000 in
theorem emptyField {w : World} {R C n : Nat} (hn : n = R * C) (h : n ≤ 576) :
    Calls Try.prog 16 #[shapeV R C] w fun e w' => ∃ b', e = .returned (ruleV R C (.slice (some ⟨b', 0, none⟩) n n)) ∧ Own 2 w' b' (.slice (some ⟨b', 0, none⟩) n n) (List.replicate n 0) ∧ w.heap.size ≤ b' ∧ Below w.heap.size w w' := by
  have HN := hid hn
  have hmk := run_make_row' (P := Try.prog) 23 2 (.int .i64 0) 8 Try.underlying23 infoI rfl .i64 .i64 n (by omega) (by omega)
  clear hn
  go_enter Try.func16, Try.ntmps16
  go_wp2_with fail
  obtain ⟨w1, hW⟩ : ∃ w1, w1 = (w.alloc (Obj.cells #[.int .i64 R, .int .i64 C] 36)).alloc (Obj.cells #[.int .i64 0, .int .i64 0, .slice none 0 0] 25) := ⟨_, rfl⟩
  obtain ⟨N, hN⟩ : ∃ N, N = w.heap.size := ⟨_, rfl⟩
  obtain ⟨NT, hM⟩ : ∃ NT, NT = N + 1 := ⟨_, rfl⟩
  have st : Below w.heap.size w w1 ∧ w1.cell? ⟨N, 0, none⟩ = some (.int .i64 R) ∧ w1.cell? ⟨N, 1, none⟩ = some (.int .i64 C) ∧ w.heap.size ≤ w1.heap.size := by
    rw [hW, hN]
    exact ⟨Go.Joins.below_alloc2 _ _ _, by simp, by simp, by simp; omega⟩
  have kT : w1.heap[NT]? = some (Obj.cells #[.int .i64 0, .int .i64 0, .slice none 0 0] 25) := by rw [hW]; exact heap_top (by rw [hM, hN]; simp)
  have HNT : Hid (w.heap.size ≤ NT) := by simp only [Hid]; omega
  have HNN : Hid (NT = N + 1) := hM
  simp only [← hW, ← hN, ← hM]
  clear hW hN hM
  refine wp_region_held_drew (S := (fun ww => Below w.heap.size w ww ∧ ww.cell? ⟨N, 0, none⟩ = some (.int .i64 R) ∧ ww.cell? ⟨N, 1, none⟩ = some (.int .i64 C) ∧ w.heap.size ≤ ww.heap.size)) (by kernel_rfl) ?_ (fun hHeld => ?_)
  · ((try dsimp only); exact drew2_0 st)
  clear st
  (refine wpAnyH_take (i := 0) (v := ?_) rfl ?_ ?_ ?_ (fun _ _ _ h => h) (Or.inl ⟨?_, ?_⟩) ?_ ?_; rotate_left 1; (focus decide +kernel); (focus decide +kernel); (focus decide +kernel); (focus rfl); (focus (intro w hSw; (try dsimp only at hSw); go_simp; (try (with_reducible rfl)); done)); (focus assumption); (try simp only [Act.put, List.setIfInBounds_toArray, List.set_cons_zero, List.set_cons_succ, List.getElem_toArray, List.getElem_cons_succ, List.getElem_cons_zero]))
  (refine wpAnyH_take (i := 1) (v := ?_) rfl ?_ ?_ ?_ (fun _ _ _ h => h) (Or.inl ⟨?_, ?_⟩) ?_ ?_; rotate_left 1; (focus decide +kernel); (focus decide +kernel); (focus decide +kernel); (focus rfl); (focus (intro w hSw; (try dsimp only at hSw); go_simp; (try (with_reducible rfl)); done)); (focus assumption); (try simp only [Act.put, List.setIfInBounds_toArray, List.set_cons_zero, List.set_cons_succ, List.getElem_toArray, List.getElem_cons_succ, List.getElem_cons_zero]))
  (refine wpAnyH_take (i := 2) (v := ?_) rfl ?_ ?_ ?_ (fun _ _ _ h => h) (Or.inl ⟨?_, ?_⟩) ?_ ?_; rotate_left 1; (focus decide +kernel); (focus decide +kernel); (focus decide +kernel); (focus rfl); (focus (intro w hSw; (try dsimp only at hSw); go_simp; (try (with_reducible rfl)); done)); (focus assumption); (try simp only [Act.put, List.setIfInBounds_toArray, List.set_cons_zero, List.set_cons_succ, List.getElem_toArray, List.getElem_cons_succ, List.getElem_cons_zero]))
  (refine wpAnyH_take (i := 3) (v := ?_) rfl ?_ ?_ ?_ (fun _ _ _ h => h) (Or.inl ⟨?_, ?_⟩) ?_ ?_; rotate_left 1; (focus decide +kernel); (focus decide +kernel); (focus decide +kernel); (focus rfl); (focus (intro w hSw; (try dsimp only at hSw); go_simp; (try (with_reducible rfl)); done)); (focus assumption); (try simp only [Act.put, List.setIfInBounds_toArray, List.set_cons_zero, List.set_cons_succ, List.getElem_toArray, List.getElem_cons_succ, List.getElem_cons_zero]))
  (refine wpAnyH_take (i := 4) (v := ?_) rfl ?_ ?_ ?_ (fun _ _ _ h => h) (Or.inl ⟨?_, ?_⟩) ?_ ?_; rotate_left 1; (focus decide +kernel); (focus decide +kernel); (focus decide +kernel); (focus rfl); (focus (intro w hSw; (try dsimp only at hSw); go_simp; (try (with_reducible rfl)); done)); (focus assumption); (try simp only [Act.put, List.setIfInBounds_toArray, List.set_cons_zero, List.set_cons_succ, List.getElem_toArray, List.getElem_cons_succ, List.getElem_cons_zero]))
  refine wpAnyH_ready (rs := [5]) ?_ (by simp) ?_
  · decide +kernel
  refine AllReadyH.cons rfl (fun K hK => ?_) AllReadyH.nil
  go_simp
  go_at_call 24
  refine (sizeN HN.out h).mono ?_
  rintro e w3 ⟨rfl, bel⟩
  have kT3 := (bel.block NT (Array.getElem?_eq_some_iff.1 kT).1).trans kT
  refine hK.out _ _ ?_ (fun hHeld3 => ?_)
  · (try dsimp only); exact next2_0 bel hHeld
  clear hK K hHeld kT bel
  (try simp only [Act.put, List.setIfInBounds_toArray, List.set_cons_zero, List.set_cons_succ, List.getElem_toArray, List.getElem_cons_succ, List.getElem_cons_zero])
  refine wpAnyH_ready (rs := [6]) ?_ (by simp) ?_
  · decide +kernel
  refine AllReadyH.cons rfl (fun K hK => ?_) AllReadyH.nil
  go_simp
  refine hK.out _ _ ?_ (fun hHeld4 => ?_)
  · (try dsimp only); exact next2_0 (below1 _ _) hHeld3
  clear hK K
  have ow := Own.made 2 w3 n (by unfold maxLen; omega)
  have kT4 := heap_old (o' := Obj.cells (madeCells #[Value.int IntKind.i64 0] n) 2) kT3
  have hNb : NT < w3.heap.size := (Array.getElem?_eq_some_iff.1 kT3).1
  obtain ⟨b5, hb5⟩ : ∃ b5, b5 = w3.heap.size := ⟨_, rfl⟩
  obtain ⟨w4, hW4⟩ : ∃ w4, w4 = w3.alloc (Obj.cells (madeCells #[Value.int IntKind.i64 0] n) 2) := ⟨_, rfl⟩
  rw [← hb5, ← hW4] at ow
  rw [← hW4] at kT4 hHeld4
  rw [← hb5] at hNb
  have HLo : Hid (w.heap.size ≤ b5) := by have := hHeld3.2.2.2; simp only [Hid]; omega
  have HNB : Hid (NT ≠ b5) := Nat.ne_of_lt hNb
  have HO := hid ow
  simp only [← hW4, ← hb5]
  clear hW4 hb5 kT3 hHeld3 ow hNb
  (try simp only [Act.put, List.setIfInBounds_toArray, List.set_cons_zero, List.set_cons_succ, List.getElem_toArray, List.getElem_cons_succ, List.getElem_cons_zero])
  (refine wpAnyH_take (i := 7) (v := ?_) rfl ?_ ?_ ?_ (fun _ _ _ h => h) (Or.inl ⟨?_, ?_⟩) ?_ ?_; rotate_left 1; (focus decide +kernel); (focus decide +kernel); (focus decide +kernel); (focus rfl); (focus (intro w hSw; (try dsimp only at hSw); go_simp; (try (with_reducible rfl)); done)); (focus assumption); (try simp only [Act.put, List.setIfInBounds_toArray, List.set_cons_zero, List.set_cons_succ, List.getElem_toArray, List.getElem_cons_succ, List.getElem_cons_zero]))
  refine wpAnyH_ready (rs := [8]) ?_ (by simp) ?_
  · decide +kernel
  refine AllReadyH.cons rfl (fun K hK => ?_) AllReadyH.nil
  have y0 : w4.cell? ⟨NT, 0, none⟩ = some (.int .i64 0) := Go.Joins.cell_of_block kT4 0
  have y1 : w4.cell? ⟨NT, 1, none⟩ = some (.int .i64 0) := Go.Joins.cell_of_block kT4 1
  have y2 : w4.cell? ⟨NT, 2, none⟩ = some (.slice none 0 0) := Go.Joins.cell_of_block kT4 2
  have g0 : w4.frozen? ⟨NT, 0, none⟩ = false := Go.Joins.unfrozen_of_block kT4 0
  have g1 : w4.frozen? ⟨NT, 1, none⟩ = false := Go.Joins.unfrozen_of_block kT4 1
  have g2 : w4.frozen? ⟨NT, 2, none⟩ = false := Go.Joins.unfrozen_of_block kT4 2
  have HKx := hid kT4
  clear kT4
  have HH4 := hid hHeld4
  go_simp
  obtain ⟨W5, hW⟩ : ∃ W5, W5 = (((w4.setCell ⟨NT, 0, none⟩ (.int .i64 R)).setCell ⟨NT, 1, none⟩ (.int .i64 C)).setCell ⟨NT, 2, none⟩ (.slice (some ⟨b5, 0, none⟩) n n)) := ⟨_, rfl⟩
  have q0 := (Go.Joins.block_setCell (i := 2) (Go.Joins.block_setCell (i := 1) (Go.Joins.block_setCell (i := 0) HKx.out (.int .i64 R)) (.int .i64 C)) (.slice (some ⟨b5, 0, none⟩) n n))
  rw [← hW] at q0
  have z0 : W5.cell? ⟨NT, 0, none⟩ = some (.int .i64 R) := Go.Joins.cell_of_block q0 0
  have z1 : W5.cell? ⟨NT, 1, none⟩ = some (.int .i64 C) := Go.Joins.cell_of_block q0 1
  have z2 : W5.cell? ⟨NT, 2, none⟩ = some (.slice (some ⟨b5, 0, none⟩) n n) := Go.Joins.cell_of_block q0 2
  have O5 := (own_set (own_set (own_set HO.out ⟨NT, 0, none⟩ (.int .i64 R) HNB.out) ⟨NT, 1, none⟩ (.int .i64 C) HNB.out) ⟨NT, 2, none⟩ (.slice (some ⟨b5, 0, none⟩) n n) HNB.out)
  rw [← hW] at O5
  have B5 : Below w.heap.size w W5 := by
    have h1 := HNT.out
    rw [hW]
    exact ((HH4.out.1.setCell (by simp; omega) _).setCell (by simp; omega) _).setCell (by simp; omega) _
  have m0 : W5.cell? ⟨N, 0, none⟩ = some (.int .i64 R) := by rw [hW]; have hx := HNN.out; exact set_cell (set_cell (set_cell HH4.out.2.1 (by simp; omega)) (by simp; omega)) (by simp; omega)
  have m1 : W5.cell? ⟨N, 1, none⟩ = some (.int .i64 C) := by rw [hW]; have hx := HNN.out; exact set_cell (set_cell (set_cell HH4.out.2.2.1 (by simp; omega)) (by simp; omega)) (by simp; omega)
  have m2 : w.heap.size ≤ W5.heap.size := B5.size
  refine hK.out _ _ ?_ (fun hHeld5 => ?_)
  · (try dsimp only); rw [← hW]; exact ⟨B5, m0, m1, m2⟩
  clear hK K
  simp only [← hW] at hHeld5 ⊢
  clear hW q0 y0 y1 y2 g0 g1 g2 hHeld4
  (try simp only [Act.put, List.setIfInBounds_toArray, List.set_cons_zero, List.set_cons_succ, List.getElem_toArray, List.getElem_cons_succ, List.getElem_cons_zero])
  refine wpAnyH_done (by kernel_rfl) ?_ _
  go_wp2
  simp [bodyPost, results, Try.results16, go_sem, z0, z1, z2]
  exact ⟨O5, HLo.out, B5⟩

end Go.Proofs.Ytlecpilgimiaaaa.FNew
