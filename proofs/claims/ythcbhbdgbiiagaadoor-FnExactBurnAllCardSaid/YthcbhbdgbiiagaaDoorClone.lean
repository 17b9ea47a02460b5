/- slices.Clone of a list that is not empty; copyOf. -/
import Derived.Test.YthcbhbdgbiiagaaDoorGrow
import Derived.WalkSpells
import Derived.Lib.LazyBuf
namespace Go.Proofs.YthcbhbdgbiiagaaDoor.Clone
open Go.RowKit Go.Proofs.YthcbhbdgbiiagaaDoor.Rd Go.Proofs.YthcbhbdgbiiagaaDoor.Help Go.Proofs.YthcbhbdgbiiagaaDoor.FVal Go.Proofs.YthcbhbdgbiiagaaDoor.Keep Go.Proofs.YthcbhbdgbiiagaaDoor.Rule
set_option linter.unusedVariables false
set_option linter.unusedSimpArgs false

theorem appendAll {ops : Array Oper} {rest : List Oper} {o : Oper} {a : Act} {Q : Exit → Act → World → Prop} {W : World} (hgd : o.guard = none) (s x : Operand)
    (ho : o.op = .call { callee := .builtin .append, args := #[s, x], argTypes := #[22, 22] })
    (base : Nat) (v : Value) (hs : a.eval s = v) (hown : W.ownsRow base 2 1 v 0 []) (b off c : Nat) (zs : List Int)
    (hx : a.eval x = .slice (some ⟨b, off, none⟩) zs.length c) (hc : ∀ i, i < zs.length → W.cell? ⟨b, off + i, none⟩ = some (.int .i64 (zs.getD i 0))) (hlen : zs.length ≤ 1000000000) (hbase : base ≤ W.heap.size)
    (h : ∀ v' w', w'.ownsRow base 2 1 v' zs.length (zs.map (Value.int .i64)) → Below base W w' → wpList Tryd.prog ops Q rest (a.put o.dst v') w') :
    wpList Tryd.prog ops Q (o :: rest) a W := by
  obtain ⟨i, hi, hz0, hz1, hz2⟩ := info_parts infoI
  refine wpList_append_own W hgd s x 22 ho base 2 i (.int .i64 0) 1 8 Tryd.underlying22 hi hz0 hz1 hz2 rfl (by decide) v 0 [] hs hown ⟨b, off, none⟩ zs.length c (zs.map (Value.int .i64)) hx (by simp) ?_ ?_ ?_ ?_ hbase ?_
  · intro j u hj
    have hjl : j < zs.length := by have := (List.getElem?_eq_some_iff.1 hj).1; simpa using this
    rw [Go.WideShapes.add_plain, hc j hjl]
    simp [hjl] at hj
    simp [List.getD, hjl, hj]
  · intro u hu
    simp at hu
    obtain ⟨n, _, rfl⟩ := hu
    rfl
  · unfold maxLen; omega
  · omega
  · intro v' w' h1 hg _
    exact h v' w' (by simpa using h1) ((Below.refl base W).grown hg hbase (fun k hk => (hown.lt k hk).1))

set_option maxHeartbeats 1000000 in
theorem clone {w : World} {b : Nat} {v : Value} {zs : List Int} (h : Rd w b v zs) (hn : 1 ≤ zs.length ∧ zs.length ≤ 1048576) :
    Calls Tryd.prog 45 #[v] w fun e w' => ∃ v' b', e = .returned v' ∧ Own 2 w' b' v' zs ∧ w.heap.size ≤ b' ∧ Below w.heap.size w w' := by
  obtain ⟨ao, cap, rfl, hc, hm, h4⟩ := h
  obtain ⟨off, rfl, hb, hcell⟩ := h4 (by omega)
  have hnil : ∀ w : World, (binOp .eql 22 (.slice (some ⟨b, off, none⟩) zs.length cap) (.slice none 0 0)).run Tryd.prog w = .ok (.bool false) w := fun w => Lib.run_eql_slice_nil w _ _ _ _ _ _ _ Tryd.underlying22
  have HC := hid hcell
  clear hcell h4
  go_enter Tryd.func45, Tryd.ntmps45
  go_wp2_with (first | (at_builtin; refine appendAll rfl _ _ rfl w.heap.size _ rfl (World.ownsRow_lit (base := w.heap.size) (e := 2) (size := 1) w #[] 0 (Nat.le_refl _) (by simp) (by simp)) b off cap zs rfl (fun i hi => cell_keep (below1 _ _) (HC.out i hi)) ?c1 ?c2 ?_) | go_in)
  case c1 => omega
  case c2 => simp
  · intro v' w1 hown hbel
    have HO := hid hown
    have HB := hid (((Below.refl w.heap.size w).alloc (Nat.le_refl _) _).trans hbel)
    clear hown hbel
    go_wp2
    go_ret
    obtain ⟨b', hb', ho⟩ := Own.of HO.out
    exact ⟨_, b', rfl, ho, hb', HB.out⟩

set_option maxHeartbeats 4000000 in
theorem copyOf {w : World} {s r : Int} {b : Nat} {v : Value} {zs : List Int} (h : Rd w b v zs) (hz : 1 ≤ zs.length ∧ zs.length ≤ 1048576) :
    Calls Tryd.prog 32 #[ruleV s r v] w fun e w' => ∃ b' k, e = .returned (ruleV s r (.slice (some ⟨b', 0, none⟩) zs.length k)) ∧ Own 2 w' b' (.slice (some ⟨b', 0, none⟩) zs.length k) zs ∧ w.heap.size ≤ b' ∧ zs.length ≤ k ∧ k ≤ maxLen ∧ Below w.heap.size w w' := by
  have HH0 := hid h
  have HZ := hid hz
  obtain ⟨ao, cap, rfl, hc, hm, _⟩ := h
  clear hc hm hz
  go_enter Tryd.func32, Tryd.ntmps32
  go_wp2_with fail
  obtain ⟨w1, hW⟩ : ∃ w1, w1 = (w.alloc (Obj.cells #[.int .i64 s, .int .i64 r, .slice ao zs.length cap] 26)).alloc (Obj.cells #[.int .i64 0, .int .i64 0, .slice none 0 0] 26) := ⟨_, rfl⟩
  obtain ⟨N, hN⟩ : ∃ N, N = w.heap.size := ⟨_, rfl⟩
  obtain ⟨NT, hM⟩ : ∃ NT, NT = N + 1 := ⟨_, rfl⟩
  have st : Below w.heap.size w w1 ∧ w1.cell? ⟨N, 0, none⟩ = some (.int .i64 s) ∧ w1.cell? ⟨N, 1, none⟩ = some (.int .i64 r) ∧ w1.cell? ⟨N, 2, none⟩ = some (.slice ao zs.length cap) ∧ Rd w1 b (.slice ao zs.length cap) zs ∧ w.heap.size ≤ w1.heap.size := by
    rw [hW, hN]
    exact ⟨Go.Joins.below_alloc2 _ _ _, by simp, by simp, by simp, HH0.out.keep (Go.Joins.below_alloc2 _ _ _) (Nat.le_refl _), by simp; omega⟩
  have kT : w1.heap[NT]? = some (Obj.cells #[.int .i64 0, .int .i64 0, .slice none 0 0] 26) := by rw [hW]; exact FNew.heap_top (by rw [hM, hN]; simp)
  have HNT : Hid (w.heap.size ≤ NT) := by simp only [Hid]; omega
  have HNN : Hid (NT = N + 1) := hM
  simp only [← hW, ← hN, ← hM]
  clear hW hN hM
  refine wp_region_held_drew (S := (fun ww => Below w.heap.size w ww ∧ ww.cell? ⟨N, 0, none⟩ = some (.int .i64 s) ∧ ww.cell? ⟨N, 1, none⟩ = some (.int .i64 r) ∧ ww.cell? ⟨N, 2, none⟩ = some (.slice ao zs.length cap) ∧ Rd ww b (.slice ao zs.length cap) zs ∧ w.heap.size ≤ ww.heap.size)) (by kernel_rfl) ?_ (fun hHeld => ?_)
  · ((try dsimp only); exact drew3_1 st)
  clear st
  (refine wpAnyH_take (i := 0) (v := ?_) rfl ?_ ?_ ?_ (fun _ _ _ h => h) (Or.inl ⟨?_, ?_⟩) ?_ ?_; rotate_left 1; (focus decide +kernel); (focus decide +kernel); (focus decide +kernel); (focus rfl); (focus (intro w hSw; (try dsimp only at hSw); go_simp; (try (with_reducible rfl)); done)); (focus assumption); (try simp only [Act.put, List.setIfInBounds_toArray, List.set_cons_zero, List.set_cons_succ, List.getElem_toArray, List.getElem_cons_succ, List.getElem_cons_zero]))
  (refine wpAnyH_take (i := 1) (v := ?_) rfl ?_ ?_ ?_ (fun _ _ _ h => h) (Or.inl ⟨?_, ?_⟩) ?_ ?_; rotate_left 1; (focus decide +kernel); (focus decide +kernel); (focus decide +kernel); (focus rfl); (focus (intro w hSw; (try dsimp only at hSw); go_simp; (try (with_reducible rfl)); done)); (focus assumption); (try simp only [Act.put, List.setIfInBounds_toArray, List.set_cons_zero, List.set_cons_succ, List.getElem_toArray, List.getElem_cons_succ, List.getElem_cons_zero]))
  (refine wpAnyH_take (i := 2) (v := ?_) rfl ?_ ?_ ?_ (fun _ _ _ h => h) (Or.inl ⟨?_, ?_⟩) ?_ ?_; rotate_left 1; (focus decide +kernel); (focus decide +kernel); (focus decide +kernel); (focus rfl); (focus (intro w hSw; (try dsimp only at hSw); go_simp; (try (with_reducible rfl)); done)); (focus assumption); (try simp only [Act.put, List.setIfInBounds_toArray, List.set_cons_zero, List.set_cons_succ, List.getElem_toArray, List.getElem_cons_succ, List.getElem_cons_zero]))
  (refine wpAnyH_take (i := 3) (v := ?_) rfl ?_ ?_ ?_ (fun _ _ _ h => h) (Or.inl ⟨?_, ?_⟩) ?_ ?_; rotate_left 1; (focus decide +kernel); (focus decide +kernel); (focus decide +kernel); (focus rfl); (focus (intro w hSw; (try dsimp only at hSw); go_simp; (try (with_reducible rfl)); done)); (focus assumption); (try simp only [Act.put, List.setIfInBounds_toArray, List.set_cons_zero, List.set_cons_succ, List.getElem_toArray, List.getElem_cons_succ, List.getElem_cons_zero]))
  (refine wpAnyH_take (i := 4) (v := ?_) rfl ?_ ?_ ?_ (fun _ _ _ h => h) (Or.inl ⟨?_, ?_⟩) ?_ ?_; rotate_left 1; (focus decide +kernel); (focus decide +kernel); (focus decide +kernel); (focus rfl); (focus (intro w hSw; (try dsimp only at hSw); go_simp; (try (with_reducible rfl)); done)); (focus assumption); (try simp only [Act.put, List.setIfInBounds_toArray, List.set_cons_zero, List.set_cons_succ, List.getElem_toArray, List.getElem_cons_succ, List.getElem_cons_zero]))
  (refine wpAnyH_take (i := 5) (v := ?_) rfl ?_ ?_ ?_ (fun _ _ _ h => h) (Or.inl ⟨?_, ?_⟩) ?_ ?_; rotate_left 1; (focus decide +kernel); (focus decide +kernel); (focus decide +kernel); (focus rfl); (focus (intro w hSw; (try dsimp only at hSw); go_simp; (try (with_reducible rfl)); done)); (focus assumption); (try simp only [Act.put, List.setIfInBounds_toArray, List.set_cons_zero, List.set_cons_succ, List.getElem_toArray, List.getElem_cons_succ, List.getElem_cons_zero]))
  refine wpAnyH_ready (rs := [6]) ?_ (by simp) ?_
  · decide +kernel
  refine AllReadyH.cons rfl (fun K hK => ?_) AllReadyH.nil
  go_simp
  go_at_call 45
  refine (clone (rd3_1_0 hHeld) HZ.out).mono ?_
  rintro e w3 ⟨v', b5, rfl, ow, lo, bel⟩
  rcases ow.form with ⟨_, he⟩ | ⟨k, rfl, hk1, hk2, _⟩
  · exact absurd he (by intro e; have := HZ.out.1; rw [e] at this; simp at this)
  have kT3 := (bel.block NT (Array.getElem?_eq_some_iff.1 kT).1).trans kT
  have HNB : Hid (NT ≠ b5) := Nat.ne_of_lt (Nat.lt_of_lt_of_le (Array.getElem?_eq_some_iff.1 kT).1 lo)
  have HLo : Hid (w.heap.size ≤ b5) := Nat.le_trans hHeld.2.2.2.2.2 lo
  have HKB := hid (And.intro hk1 hk2)
  have HO := hid ow
  refine hK.out _ _ ?_ (fun hHeld3 => ?_)
  · (try dsimp only); exact next3_1 bel hHeld
  clear hK K hHeld kT bel ow lo hk1 hk2
  (try simp only [Act.put, List.setIfInBounds_toArray, List.set_cons_zero, List.set_cons_succ, List.getElem_toArray, List.getElem_cons_succ, List.getElem_cons_zero])
  (refine wpAnyH_take (i := 7) (v := ?_) rfl ?_ ?_ ?_ (fun _ _ _ h => h) (Or.inl ⟨?_, ?_⟩) ?_ ?_; rotate_left 1; (focus decide +kernel); (focus decide +kernel); (focus decide +kernel); (focus rfl); (focus (intro w hSw; (try dsimp only at hSw); go_simp; (try (with_reducible rfl)); done)); (focus assumption); (try simp only [Act.put, List.setIfInBounds_toArray, List.set_cons_zero, List.set_cons_succ, List.getElem_toArray, List.getElem_cons_succ, List.getElem_cons_zero]))
  refine wpAnyH_ready (rs := [8]) ?_ (by simp) ?_
  · decide +kernel
  refine AllReadyH.cons rfl (fun K hK => ?_) AllReadyH.nil
  have y0 : w3.cell? ⟨NT, 0, none⟩ = some (.int .i64 0) := Go.Joins.cell_of_block kT3 0
  have y1 : w3.cell? ⟨NT, 1, none⟩ = some (.int .i64 0) := Go.Joins.cell_of_block kT3 1
  have y2 : w3.cell? ⟨NT, 2, none⟩ = some (.slice none 0 0) := Go.Joins.cell_of_block kT3 2
  have g0 : w3.frozen? ⟨NT, 0, none⟩ = false := Go.Joins.unfrozen_of_block kT3 0
  have g1 : w3.frozen? ⟨NT, 1, none⟩ = false := Go.Joins.unfrozen_of_block kT3 1
  have g2 : w3.frozen? ⟨NT, 2, none⟩ = false := Go.Joins.unfrozen_of_block kT3 2
  have HKx := hid kT3
  clear kT3
  have HH4 := hid hHeld3
  go_simp
  obtain ⟨W5, hW⟩ : ∃ W5, W5 = (((w3.setCell ⟨NT, 0, none⟩ (.int .i64 s)).setCell ⟨NT, 1, none⟩ (.int .i64 r)).setCell ⟨NT, 2, none⟩ (.slice (some ⟨b5, 0, none⟩) zs.length k)) := ⟨_, rfl⟩
  have q0 := (Go.Joins.block_setCell (i := 2) (Go.Joins.block_setCell (i := 1) (Go.Joins.block_setCell (i := 0) HKx.out (.int .i64 s)) (.int .i64 r)) (.slice (some ⟨b5, 0, none⟩) zs.length k))
  rw [← hW] at q0
  have z0 : W5.cell? ⟨NT, 0, none⟩ = some (.int .i64 s) := Go.Joins.cell_of_block q0 0
  have z1 : W5.cell? ⟨NT, 1, none⟩ = some (.int .i64 r) := Go.Joins.cell_of_block q0 1
  have z2 : W5.cell? ⟨NT, 2, none⟩ = some (.slice (some ⟨b5, 0, none⟩) zs.length k) := Go.Joins.cell_of_block q0 2
  have O5 := (own_set (own_set (own_set HO.out ⟨NT, 0, none⟩ (.int .i64 s) HNB.out) ⟨NT, 1, none⟩ (.int .i64 r) HNB.out) ⟨NT, 2, none⟩ (.slice (some ⟨b5, 0, none⟩) zs.length k) HNB.out)
  rw [← hW] at O5
  have B5 : Below w.heap.size w W5 := by
    have h1 := HNT.out
    rw [hW]
    exact ((HH4.out.1.setCell (by simp; omega) _).setCell (by simp; omega) _).setCell (by simp; omega) _
  have hx := HNN.out
  have m0 : W5.cell? ⟨N, 0, none⟩ = some (.int .i64 s) := by rw [hW]; exact Grow.set_cell (Grow.set_cell (Grow.set_cell HH4.out.2.1 (by simp; omega)) (by simp; omega)) (by simp; omega)
  have m1 : W5.cell? ⟨N, 1, none⟩ = some (.int .i64 r) := by rw [hW]; exact Grow.set_cell (Grow.set_cell (Grow.set_cell HH4.out.2.2.1 (by simp; omega)) (by simp; omega)) (by simp; omega)
  have m2 : W5.cell? ⟨N, 2, none⟩ = some (.slice ao zs.length cap) := by rw [hW]; exact Grow.set_cell (Grow.set_cell (Grow.set_cell HH4.out.2.2.2.1 (by simp; omega)) (by simp; omega)) (by simp; omega)
  have mr : Rd W5 b (.slice ao zs.length cap) zs := HH0.out.keep B5 (Nat.le_refl _)
  refine hK.out _ _ ?_ (fun hHeld5 => ?_)
  · (try dsimp only); rw [← hW]; exact ⟨B5, m0, m1, m2, mr, B5.size⟩
  clear hK K
  simp only [← hW] at hHeld5 ⊢
  clear hW q0 y0 y1 y2 g0 g1 g2 hHeld3 m0 m1 m2 mr
  (try simp only [Act.put, List.setIfInBounds_toArray, List.set_cons_zero, List.set_cons_succ, List.getElem_toArray, List.getElem_cons_succ, List.getElem_cons_zero])
  refine wpAnyH_done (by kernel_rfl) ?_ _
  go_wp2
  simp [bodyPost, results, Tryd.results32, go_sem, z0, z1, z2]
  exact ⟨b5, k, by simp, O5, HLo.out, HKB.out.1, HKB.out.2, B5⟩

end Go.Proofs.YthcbhbdgbiiagaaDoor.Clone
