/- spec.l04Own: a copy of a field. -/
import Derived.Test.YthcbhbdgbiiagaaDoorClone
namespace Go.Proofs.YthcbhbdgbiiagaaDoor.SOwn
open Go.RowKit Go.Proofs.YthcbhbdgbiiagaaDoor.Rd Go.Proofs.YthcbhbdgbiiagaaDoor.Help Go.Proofs.YthcbhbdgbiiagaaDoor.FVal Go.Proofs.YthcbhbdgbiiagaaDoor.Keep Go.Proofs.YthcbhbdgbiiagaaDoor.Rule Go.Proofs.YthcbhbdgbiiagaaDoor.Grow
set_option linter.unusedVariables false
set_option linter.unusedSimpArgs false

theorem op_appendAll {ops : Array Oper} {o : Oper} {a : Act} {K : Act → World → Prop} {Q : Exit → Act → World → Prop} {X : Prop} {W : World} (hgd : o.guard = none) (s x : Operand)
    (ho : o.op = .call { callee := .builtin .append, args := #[s, x], argTypes := #[22, 22] })
    (base : Nat) (v : Value) (hs : a.eval s = v) (hown : W.ownsRow base 2 1 v 0 []) (b off c : Nat) (zs : List Int)
    (hx : a.eval x = .slice (some ⟨b, off, none⟩) zs.length c) (hc : ∀ i, i < zs.length → W.cell? ⟨b, off + i, none⟩ = some (.int .i64 (zs.getD i 0))) (hlen : zs.length ≤ 1000000000) (hbase : base ≤ W.heap.size)
    (h : ∀ v' w', w'.ownsRow base 2 1 v' zs.length (zs.map (Value.int .i64)) → Below base W w' → K (a.put o.dst v') w') :
    if Region.wanted o (yielded ops a.tmps) = true then Oper.wp Tryd.prog o a W K Q else X := by
  have hw : Region.wanted o (yielded ops a.tmps) = true := by simp [Region.wanted, hgd]
  rw [if_pos hw]
  obtain ⟨i, hi, hz0, hz1, hz2⟩ := info_parts infoI
  obtain ⟨v', w', hr, h2, h3, h4, h5⟩ := run_append_own_at (P := Tryd.prog) (w := W) base 22 o.type 2 i (.int .i64 0) 1 8 Tryd.underlying22 hi hz0 hz1 hz2 rfl (by decide) v 0 [] hown ⟨b, off, none⟩ zs.length c (zs.map (Value.int .i64)) (by simp)
    (by
      intro j u hj
      have hjl : j < zs.length := by have := (List.getElem?_eq_some_iff.1 hj).1; simpa using this
      rw [Go.WideShapes.add_plain, hc j hjl]
      simp [hjl] at hj
      simp [List.getD, hjl, hj])
    (by intro u hu; simp at hu; obtain ⟨x, _, rfl⟩ := hu; rfl) (by unfold maxLen; omega) (by omega) hbase
  unfold Oper.wp execOp
  simp only [ho, resolve, invoke, builtin, Sem.run_bind, Sem.run_pure, Result.andThen_ok, List.map_toArray, List.map_cons, List.map_nil, hs, hx, hr]
  refine h v' w' (by simpa using h2) ((Below.refl base W).grown h3 hbase (fun k hk => (hown.lt k hk).1))

set_option maxHeartbeats 4000000 in
theorem l04Own {w : World} {N : Nat} {s r : Int} {b : Nat} {v : Value} {zs : List Int} (k0 : w.cell? ⟨N, 0, none⟩ = some (.int .i64 s)) (k1 : w.cell? ⟨N, 1, none⟩ = some (.int .i64 r)) (k2 : w.cell? ⟨N, 2, none⟩ = some v) (h : Rd w b v zs) (hz : 1 ≤ zs.length ∧ zs.length ≤ 1048576) :
    Calls Tryd.prog 28 #[.pointer (some ⟨N, 0, none⟩)] w fun e w' => ∃ b' k, e = .returned (ruleV s r (.slice (some ⟨b', 0, none⟩) zs.length k)) ∧ Own 2 w' b' (.slice (some ⟨b', 0, none⟩) zs.length k) zs ∧ w.heap.size ≤ b' ∧ zs.length ≤ k ∧ k ≤ maxLen ∧ Below w.heap.size w w' := by
  have HZ := hid hz
  obtain ⟨ao, cap, rfl, hc, hm, h4⟩ := h
  obtain ⟨off, rfl, hb, hcell⟩ := h4 (by omega)
  have HB0 := hid hb
  have HCell := hid hcell
  have HK := hid (And.intro k0 (And.intro k1 k2))
  have hNw : N < w.heap.size := World.block_lt_of_cell? w _ k0
  clear hc hm hz h4 hb hcell k0 k1 k2
  go_enter Tryd.func28, Tryd.ntmps28
  go_wp2_with fail
  obtain ⟨w1, hW⟩ : ∃ w1, w1 = w.alloc (Obj.cells #[.int .i64 0, .int .i64 0, .slice none 0 0] 26) := ⟨_, rfl⟩
  obtain ⟨NT, hM⟩ : ∃ NT, NT = w.heap.size := ⟨_, rfl⟩
  have bw : Below w.heap.size w w1 := by rw [hW]; exact below1 _ _
  have kt : w1.heap[NT]? = some (Obj.cells #[.int .i64 0, .int .i64 0, .slice none 0 0] 26) := by rw [hW]; exact FNew.heap_top hM
  have HNT : Hid (w.heap.size ≤ NT) := by simp only [Hid]; omega
  simp only [← hW, ← hM]
  clear hW hM hNw
  refine wp_region_held_drew (S := (fun ww => Below w.heap.size w ww ∧ ww.cell? ⟨N, 0, none⟩ = some (.int .i64 s) ∧ ww.cell? ⟨N, 1, none⟩ = some (.int .i64 r) ∧ ww.cell? ⟨N, 2, none⟩ = some (.slice (some ⟨b, off, none⟩) zs.length cap) ∧ w.heap.size ≤ ww.heap.size)) (by kernel_rfl) ?_ (fun hHeld => ?_)
  · ((try dsimp only); exact (show _ from by have B := bw.drew; exact ⟨B, cell_keep B HK.out.1, cell_keep B HK.out.2.1, cell_keep B HK.out.2.2, B.size⟩))
  generalize hD : w1.drew = wD at hHeld ⊢
  replace kt : wD.heap[NT]? = some (Obj.cells #[.int .i64 0, .int .i64 0, .slice none 0 0] 26) := by rw [← hD]; exact kt
  have ktl := (Array.getElem?_eq_some_iff.1 kt).1
  clear hD bw
  (refine wpAnyH_take (i := 0) (v := ?_) rfl ?_ ?_ ?_ (fun _ _ _ h => h) (Or.inl ⟨?_, ?_⟩) ?_ ?_; rotate_left 1; (focus decide +kernel); (focus decide +kernel); (focus decide +kernel); (focus rfl); (focus (intro w hSw; (try dsimp only at hSw); go_simp; (try (with_reducible rfl)); done)); (focus assumption); (try simp only [Act.put, List.setIfInBounds_toArray, List.set_cons_zero, List.set_cons_succ, List.getElem_toArray, List.getElem_cons_succ, List.getElem_cons_zero]))
  (refine wpAnyH_take (i := 1) (v := ?_) rfl ?_ ?_ ?_ (fun _ _ _ h => h) (Or.inl ⟨?_, ?_⟩) ?_ ?_; rotate_left 1; (focus decide +kernel); (focus decide +kernel); (focus decide +kernel); (focus rfl); (focus (intro w hSw; (try dsimp only at hSw); go_simp; (try (with_reducible rfl)); done)); (focus assumption); (try simp only [Act.put, List.setIfInBounds_toArray, List.set_cons_zero, List.set_cons_succ, List.getElem_toArray, List.getElem_cons_succ, List.getElem_cons_zero]))
  (refine wpAnyH_take (i := 2) (v := ?_) rfl ?_ ?_ ?_ (fun _ _ _ h => h) (Or.inl ⟨?_, ?_⟩) ?_ ?_; rotate_left 1; (focus decide +kernel); (focus decide +kernel); (focus decide +kernel); (focus rfl); (focus (intro w hSw; (try dsimp only at hSw); go_simp; (try (with_reducible rfl)); done)); (focus assumption); (try simp only [Act.put, List.setIfInBounds_toArray, List.set_cons_zero, List.set_cons_succ, List.getElem_toArray, List.getElem_cons_succ, List.getElem_cons_zero]))
  (refine wpAnyH_take (i := 3) (v := ?_) rfl ?_ ?_ ?_ (fun _ _ _ h => h) (Or.inl ⟨?_, ?_⟩) ?_ ?_; rotate_left 1; (focus decide +kernel); (focus decide +kernel); (focus decide +kernel); (focus rfl); (focus (intro w hSw; (try dsimp only at hSw); go_simp; (try (with_reducible rfl)); done)); (focus assumption); (try simp only [Act.put, List.setIfInBounds_toArray, List.set_cons_zero, List.set_cons_succ, List.getElem_toArray, List.getElem_cons_succ, List.getElem_cons_zero]))
  (refine wpAnyH_take (i := 4) (v := ?_) rfl ?_ ?_ ?_ (fun _ _ _ h => h) (Or.inl ⟨?_, ?_⟩) ?_ ?_; rotate_left 1; (focus decide +kernel); (focus decide +kernel); (focus decide +kernel); (focus rfl); (focus (intro w hSw; (try dsimp only at hSw); go_simp; (try (with_reducible rfl)); done)); (focus assumption); (try simp only [Act.put, List.setIfInBounds_toArray, List.set_cons_zero, List.set_cons_succ, List.getElem_toArray, List.getElem_cons_succ, List.getElem_cons_zero]))
  (refine wpAnyH_take (i := 5) (v := ?_) rfl ?_ ?_ ?_ (fun _ _ _ h => h) (Or.inl ⟨?_, ?_⟩) ?_ ?_; rotate_left 1; (focus decide +kernel); (focus decide +kernel); (focus decide +kernel); (focus rfl); (focus (intro w hSw; (try dsimp only at hSw); go_simp; (try (with_reducible rfl)); done)); (focus assumption); (try simp only [Act.put, List.setIfInBounds_toArray, List.set_cons_zero, List.set_cons_succ, List.getElem_toArray, List.getElem_cons_succ, List.getElem_cons_zero]))
  (refine wpAnyH_take (i := 6) (v := ?_) rfl ?_ ?_ ?_ (fun _ _ _ h => h) (Or.inl ⟨?_, ?_⟩) ?_ ?_; rotate_left 1; (focus decide +kernel); (focus decide +kernel); (focus decide +kernel); (focus rfl); (focus (intro w hSw; (try dsimp only at hSw); go_simp; (try (with_reducible rfl)); done)); (focus assumption); (try simp only [Act.put, List.setIfInBounds_toArray, List.set_cons_zero, List.set_cons_succ, List.getElem_toArray, List.getElem_cons_succ, List.getElem_cons_zero]))
  (refine wpAnyH_take (i := 7) (v := ?_) rfl ?_ ?_ ?_ (fun _ _ _ h => h) (Or.inl ⟨?_, ?_⟩) ?_ ?_; rotate_left 1; (focus decide +kernel); (focus decide +kernel); (focus decide +kernel); (focus rfl); (focus (intro w hSw; (try dsimp only at hSw); go_simp; (try (with_reducible rfl)); done)); (focus assumption); (try simp only [Act.put, List.setIfInBounds_toArray, List.set_cons_zero, List.set_cons_succ, List.getElem_toArray, List.getElem_cons_succ, List.getElem_cons_zero]))
  (refine wpAnyH_take (i := 9) (v := ?_) rfl ?_ ?_ ?_ (fun _ _ _ h => h) (Or.inl ⟨?_, ?_⟩) ?_ ?_; rotate_left 1; (focus decide +kernel); (focus decide +kernel); (focus decide +kernel); (focus rfl); (focus (intro w hSw; (try dsimp only at hSw); go_simp; (try (with_reducible rfl)); done)); (focus assumption); (try simp only [Act.put, List.setIfInBounds_toArray, List.set_cons_zero, List.set_cons_succ, List.getElem_toArray, List.getElem_cons_succ, List.getElem_cons_zero]))
  (refine wpAnyH_take (i := 10) (v := ?_) rfl ?_ ?_ ?_ (fun _ _ _ h => h) (Or.inl ⟨?_, ?_⟩) ?_ ?_; rotate_left 1; (focus decide +kernel); (focus decide +kernel); (focus decide +kernel); (focus rfl); (focus (intro w hSw; (try dsimp only at hSw); go_simp; (try (with_reducible rfl)); done)); (focus assumption); (try simp only [Act.put, List.setIfInBounds_toArray, List.set_cons_zero, List.set_cons_succ, List.getElem_toArray, List.getElem_cons_succ, List.getElem_cons_zero]))
  (refine wpAnyH_take (i := 11) (v := ?_) rfl ?_ ?_ ?_ (fun _ _ _ h => h) (Or.inl ⟨?_, ?_⟩) ?_ ?_; rotate_left 1; (focus decide +kernel); (focus decide +kernel); (focus decide +kernel); (focus rfl); (focus (intro w hSw; (try dsimp only at hSw); go_simp; (try (with_reducible rfl)); done)); (focus assumption); (try simp only [Act.put, List.setIfInBounds_toArray, List.set_cons_zero, List.set_cons_succ, List.getElem_toArray, List.getElem_cons_succ, List.getElem_cons_zero]))
  (refine wpAnyH_take (i := 12) (v := ?_) rfl ?_ ?_ ?_ (fun _ _ _ h => h) (Or.inl ⟨?_, ?_⟩) ?_ ?_; rotate_left 1; (focus decide +kernel); (focus decide +kernel); (focus decide +kernel); (focus rfl); (focus (intro w hSw; (try dsimp only at hSw); go_simp; (try (with_reducible rfl)); done)); (focus assumption); (try simp only [Act.put, List.setIfInBounds_toArray, List.set_cons_zero, List.set_cons_succ, List.getElem_toArray, List.getElem_cons_succ, List.getElem_cons_zero]))
  refine wpAnyH_ready (rs := [8]) ?_ (by simp) ?_
  · decide +kernel
  refine AllReadyH.cons rfl (fun K hK => ?_) AllReadyH.nil
  go_simp
  refine hK.out _ _ ?_ (fun hHeld2 => ?_)
  · (try dsimp only); exact next3_0 (below1 _ _) hHeld
  clear hK K
  have hrow := World.ownsRow_lit (base := wD.heap.size) (e := 2) (size := 1) wD #[] 0 (Nat.le_refl _) (by simp) (by simp)
  obtain ⟨w3, hW3⟩ : ∃ w3, w3 = wD.alloc (Obj.cells #[] 2) := ⟨_, rfl⟩
  obtain ⟨NB, hNB⟩ : ∃ NB, NB = wD.heap.size := ⟨_, rfl⟩
  have bel : Below wD.heap.size wD w3 := by rw [hW3]; exact below1 _ _
  replace kt := (bel.block NT (Array.getElem?_eq_some_iff.1 kt).1).trans kt
  have hTB : NT < NB := by rw [hNB]; exact ktl
  have hBs : NB ≤ w3.heap.size := by rw [hNB]; exact bel.size
  have hwB : w.heap.size ≤ NB := by rw [hNB]; exact hHeld.1.size
  rw [← hW3] at hrow hHeld2
  rw [← hNB] at hrow
  simp only [← hW3, ← hNB]
  clear hHeld bel hW3 hNB ktl
  have hHeld := hHeld2
  clear hHeld2
  (try simp only [Act.put, List.setIfInBounds_toArray, List.set_cons_zero, List.set_cons_succ, List.getElem_toArray, List.getElem_cons_succ, List.getElem_cons_zero])
  refine wpAnyH_ready (rs := [13]) ?_ (by simp) ?_
  · decide +kernel
  refine AllReadyH.cons rfl (fun K hK => ?_) AllReadyH.nil
  refine op_appendAll rfl _ _ rfl NB _ rfl hrow b off cap zs rfl ?c1 ?c2 ?c3 ?_
  case c1 => intro i hi; exact (hHeld.1.cell (p := ⟨b, off + i, none⟩) HB0.out).trans (HCell.out i hi)
  case c2 => have := HZ.out; omega
  case c3 => exact hBs
  intro v' w5 hown5 hbel5
  refine hK.out _ _ ?_ (fun hHeld3 => ?_)
  · (try dsimp only); exact (show _ from by have B := hHeld.1.trans (hbel5.mono hwB); exact ⟨B, cell_keep B HK.out.1, cell_keep B HK.out.2.1, cell_keep B HK.out.2.2, B.size⟩)
  clear hK K
  have kT5 := (hbel5.block NT hTB).trans kt
  obtain ⟨b5, hb5, ow⟩ := Own.of hown5
  rcases ow.form with ⟨_, he⟩ | ⟨k, rfl, hk1, hk2, _⟩
  · exact absurd he (by intro e; have := HZ.out.1; rw [e] at this; simp at this)
  have HNB : Hid (NT ≠ b5) := Nat.ne_of_lt (Nat.lt_of_lt_of_le hTB hb5)
  have HLo : Hid (w.heap.size ≤ b5) := Nat.le_trans hwB hb5
  have HKB := hid (And.intro hk1 hk2)
  have HO := hid ow
  clear hrow kt hTB hBs hwB hHeld hown5 hbel5 hb5 ow hk1 hk2
  (try simp only [Act.put, List.setIfInBounds_toArray, List.set_cons_zero, List.set_cons_succ, List.getElem_toArray, List.getElem_cons_succ, List.getElem_cons_zero])
  (refine wpAnyH_take (i := 14) (v := ?_) rfl ?_ ?_ ?_ (fun _ _ _ h => h) (Or.inl ⟨?_, ?_⟩) ?_ ?_; rotate_left 1; (focus decide +kernel); (focus decide +kernel); (focus decide +kernel); (focus rfl); (focus (intro w hSw; (try dsimp only at hSw); go_simp; (try (with_reducible rfl)); done)); (focus assumption); (try simp only [Act.put, List.setIfInBounds_toArray, List.set_cons_zero, List.set_cons_succ, List.getElem_toArray, List.getElem_cons_succ, List.getElem_cons_zero]))
  refine wpAnyH_ready (rs := [15]) ?_ (by simp) ?_
  · decide +kernel
  refine AllReadyH.cons rfl (fun K hK => ?_) AllReadyH.nil
  have y0 : w5.cell? ⟨NT, 0, none⟩ = some (.int .i64 0) := Go.Joins.cell_of_block kT5 0
  have y1 : w5.cell? ⟨NT, 1, none⟩ = some (.int .i64 0) := Go.Joins.cell_of_block kT5 1
  have y2 : w5.cell? ⟨NT, 2, none⟩ = some (.slice none 0 0) := Go.Joins.cell_of_block kT5 2
  have g0 : w5.frozen? ⟨NT, 0, none⟩ = false := Go.Joins.unfrozen_of_block kT5 0
  have g1 : w5.frozen? ⟨NT, 1, none⟩ = false := Go.Joins.unfrozen_of_block kT5 1
  have g2 : w5.frozen? ⟨NT, 2, none⟩ = false := Go.Joins.unfrozen_of_block kT5 2
  have HKx := hid kT5
  clear kT5
  have HH4 := hid hHeld3
  go_simp
  obtain ⟨W5, hW⟩ : ∃ W5, W5 = (((w5.setCell ⟨NT, 0, none⟩ (.int .i64 s)).setCell ⟨NT, 1, none⟩ (.int .i64 r)).setCell ⟨NT, 2, none⟩ (.slice (some ⟨b5, 0, none⟩) zs.length k)) := ⟨_, rfl⟩
  have q0 := (Go.Joins.block_setCell (i := 2) (Go.Joins.block_setCell (i := 1) (Go.Joins.block_setCell (i := 0) HKx.out (.int .i64 s)) (.int .i64 r)) (.slice (some ⟨b5, 0, none⟩) zs.length k))
  rw [← hW] at q0
  have z0 : W5.cell? ⟨NT, 0, none⟩ = some (.int .i64 s) := Go.Joins.cell_of_block q0 0
  have z1 : W5.cell? ⟨NT, 1, none⟩ = some (.int .i64 r) := Go.Joins.cell_of_block q0 1
  have z2 : W5.cell? ⟨NT, 2, none⟩ = some (.slice (some ⟨b5, 0, none⟩) zs.length k) := Go.Joins.cell_of_block q0 2
  have O5 := (own_set (own_set (own_set HO.out ⟨NT, 0, none⟩ (.int .i64 s) HNB.out) ⟨NT, 1, none⟩ (.int .i64 r) HNB.out) ⟨NT, 2, none⟩ (.slice (some ⟨b5, 0, none⟩) zs.length k) HNB.out)
  rw [← hW] at O5
  have B5 : Below w.heap.size w W5 := by
    have h1 := HNT.out
    rw [hW]
    exact ((HH4.out.1.setCell (by simp; omega) _).setCell (by simp; omega) _).setCell (by simp; omega) _
  refine hK.out _ _ ?_ (fun hHeld5 => ?_)
  · (try dsimp only); rw [← hW]; exact ⟨B5, cell_keep B5 HK.out.1, cell_keep B5 HK.out.2.1, cell_keep B5 HK.out.2.2, B5.size⟩
  clear hK K
  simp only [← hW] at hHeld5 ⊢
  clear hW q0 y0 y1 y2 g0 g1 g2 hHeld3
  (try simp only [Act.put, List.setIfInBounds_toArray, List.set_cons_zero, List.set_cons_succ, List.getElem_toArray, List.getElem_cons_succ, List.getElem_cons_zero])
  refine wpAnyH_done (by kernel_rfl) ?_ _
  go_wp2
  simp [bodyPost, results, Tryd.results28, go_sem, z0, z1, z2]
  exact ⟨b5, k, by simp, O5, HLo.out, HKB.out.1, HKB.out.2, B5⟩

end Go.Proofs.YthcbhbdgbiiagaaDoor.SOwn
