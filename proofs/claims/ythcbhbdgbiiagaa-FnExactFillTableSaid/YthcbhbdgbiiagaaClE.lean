/- slices.Clone of a list without numbers; copyOfRule of a rule with such a table. -/
import Derived.Test.YthcbhbdgbiiagaaRCopy
namespace Go.Proofs.Ythcbhbdgbiiagaa.ClE
open Go.RowKit Go.Proofs.Ythcbhbdgbiiagaa.Rd Go.Proofs.Ythcbhbdgbiiagaa.Help Go.Proofs.Ythcbhbdgbiiagaa.FVal Go.Proofs.Ythcbhbdgbiiagaa.Keep Go.Proofs.Ythcbhbdgbiiagaa.Rule Go.Proofs.Ythcbhbdgbiiagaa.Clone
set_option linter.unusedVariables false
set_option linter.unusedSimpArgs false

set_option maxHeartbeats 1000000 in
theorem cloneE0 {w : World} {ao : Option Addr} {cap : Nat} :
    Calls Try.prog 104 #[.slice ao 0 cap] w fun e w' => ∃ ao' c, e = .returned (.slice ao' 0 c) ∧ c ≤ maxLen ∧ Below w.heap.size w w' := by
  cases ao with
  | none =>
    have hnil : ∀ w : World, (binOp .eql 22 (.slice none 0 cap) (.slice none 0 0)).run Try.prog w = .ok (.bool true) w := fun w => Lib.run_eql_slice_nil w _ _ none _ _ _ _ Try.underlying22
    go_enter Try.func104, Try.ntmps104
    go_wp2
    go_ret
    exact ⟨none, 0, rfl, Nat.zero_le _, Below.refl _ _⟩
  | some a =>
    have hnil : ∀ w : World, (binOp .eql 22 (.slice (some a) 0 cap) (.slice none 0 0)).run Try.prog w = .ok (.bool false) w := fun w => Lib.run_eql_slice_nil w _ _ _ _ _ _ _ Try.underlying22
    obtain ⟨i, hi, hz0, hz1, hz2⟩ := info_parts infoI
    have HI := hid (And.intro hi (And.intro hz0 (And.intro hz1 hz2)))
    clear hi hz0 hz1 hz2
    go_enter Try.func104, Try.ntmps104
    go_wp2_with (first | (at_builtin; refine wpList_append_own _ rfl _ _ 22 rfl w.heap.size 2 i (.int .i64 0) 1 8 Try.underlying22 HI.out.1 HI.out.2.1 HI.out.2.2.1 HI.out.2.2.2 rfl (by decide) _ 0 [] rfl (World.ownsRow_lit (base := w.heap.size) (e := 2) (size := 1) w #[] 0 (Nat.le_refl _) (by simp) (by simp)) a 0 cap [] rfl rfl (by simp) (by simp) ?c1 ?c2 ?c3 ?_) | go_in)
    case c1 => unfold maxLen; omega
    case c2 => omega
    case c3 => simp
    · intro v' w1 hown hg _
      have hbel := ((Below.refl w.heap.size (w.alloc (Obj.cells #[] 2))).grown hg (by simp) (fun k hk => ((World.ownsRow_lit (base := w.heap.size) (e := 2) (size := 1) w #[] 0 (Nat.le_refl _) (by simp) (by simp)).lt k hk).1))
      have HB := hid (((Below.refl w.heap.size w).alloc (Nat.le_refl _) _).trans hbel)
      obtain ⟨b', hb', ho⟩ := Own.of (zs := []) hown
      rcases ho.form with ⟨rfl, _⟩ | ⟨k, rfl, _, hkm, _⟩
      · clear hown hg hbel ho
        go_wp2
        go_ret
        exact ⟨none, 0, rfl, Nat.zero_le _, HB.out⟩
      · have HKM := hid hkm
        clear hown hg hbel ho hkm
        go_wp2
        go_ret
        exact ⟨_, _, rfl, HKM.out, HB.out⟩

theorem cloneE {w : World} {ao : Option Addr} {n cap : Nat} (hn : n = 0) :
    Calls Try.prog 104 #[.slice ao n cap] w fun e w' => ∃ ao' c, e = .returned (.slice ao' n c) ∧ c ≤ maxLen ∧ Below w.heap.size w w' := by
  subst hn; exact cloneE0

set_option maxHeartbeats 4000000 in
theorem copyE {w : World} {s r : Int} {b : Nat} {v : Value} {zs : List Int} (h : Rd w b v zs) (hz : zs.length = 0) :
    Calls Try.prog 71 #[ruleV s r v] w fun e w' => ∃ ao' k, e = .returned (ruleV s r (.slice ao' zs.length k)) ∧ k ≤ maxLen ∧ Below w.heap.size w w' := by
  have HH0 := hid h
  have HZ := hid hz
  obtain ⟨ao, cap, rfl, hc, hm, _⟩ := h
  clear hc hm hz
  go_enter Try.func71, Try.ntmps71
  go_wp2_with fail
  obtain ⟨w1, hW⟩ : ∃ w1, w1 = (w.alloc (Obj.cells #[.int .i64 s, .int .i64 r, .slice ao zs.length cap] 44)).alloc (Obj.cells #[.int .i64 0, .int .i64 0, .slice none 0 0] 44) := ⟨_, rfl⟩
  obtain ⟨N, hN⟩ : ∃ N, N = w.heap.size := ⟨_, rfl⟩
  obtain ⟨NT, hM⟩ : ∃ NT, NT = N + 1 := ⟨_, rfl⟩
  have st : Below w.heap.size w w1 ∧ w1.cell? ⟨N, 0, none⟩ = some (.int .i64 s) ∧ w1.cell? ⟨N, 1, none⟩ = some (.int .i64 r) ∧ w1.cell? ⟨N, 2, none⟩ = some (.slice ao zs.length cap) ∧ Rd w1 b (.slice ao zs.length cap) zs ∧ w.heap.size ≤ w1.heap.size := by
    rw [hW, hN]
    exact ⟨Go.Joins.below_alloc2 _ _ _, by simp, by simp, by simp, HH0.out.keep (Go.Joins.below_alloc2 _ _ _) (Nat.le_refl _), by simp; omega⟩
  have kT : w1.heap[NT]? = some (Obj.cells #[.int .i64 0, .int .i64 0, .slice none 0 0] 44) := by rw [hW]; exact FNew.heap_top (by rw [hM, hN]; simp)
  have HNT : Hid (w.heap.size ≤ NT) := by simp only [Hid]; omega
  have HNN : Hid (NT = N + 1) := hM
  simp only [← hW, ← hN, ← hM]
  clear hW hN hM
  refine wp_region_held_drew (S := (fun ww => Below w.heap.size w ww ∧ ww.cell? ⟨N, 0, none⟩ = some (.int .i64 s) ∧ ww.cell? ⟨N, 1, none⟩ = some (.int .i64 r) ∧ ww.cell? ⟨N, 2, none⟩ = some (.slice ao zs.length cap) ∧ Rd ww b (.slice ao zs.length cap) zs ∧ w.heap.size ≤ ww.heap.size)) (by kernel_rfl) ?_ (fun hHeld => ?_)
  · ((try dsimp only); exact drew3_1 st)
  clear st
  (refine wpAnyH_take (i := 0) (v := ?_) rfl ?_ ?_ ?_ (fun _ _ _ h => h) (Or.inl ⟨?_, ?_⟩) ?_ ?_; rotate_left 1; (focus decide +kernel); (focus decide +kernel); (focus decide +kernel); (focus rfl); (focus (intro w hSw; (try dsimp only at hSw); go_simp; (try (with_reducible rfl)); done)); (focus assumption); (try simp only [Act.put, List.setIfInBounds_toArray, List.set_cons_zero, List.set_cons_succ, List.getElem_toArray, List.getElem_cons_succ, List.getElem_cons_zero]))
  (refine wpAnyH_take (i := 1) (v := ?_) rfl ?_ ?_ ?_ (fun _ _ _ h => h) (Or.inl ⟨?_, ?_⟩) ?_ ?_; rotate_left 1; (focus decide +kernel); (focus decide +kernel); (focus decide +kernel); (focus rfl); (focus (intro w hSw; (try dsimp only at hSw); go_simp; (try (with_reducible rfl)); done)); (focus assumption); (try simp only [Act.put, List.setIfInBounds_toArray, List.set_cons_zero, List.set_cons_succ, List.getElem_toArray, List.getElem_cons_succ, List.getElem_cons_zero]))
  (refine wpAnyH_take (i := 2) (v := ?_) rfl ?_ ?_ ?_ (fun _ _ _ h => h) (Or.inl ⟨?_, ?_⟩) ?_ ?_; rotate_left 1; (focus decide +kernel); (focus decide +kernel); (focus decide +kernel); (focus rfl); (focus (intro w hSw; (try dsimp only at hSw); go_simp; (try (with_reducible rfl)); done)); (focus assumption); (try simp only [Act.put, List.setIfInBounds_toArray, List.set_cons_zero, List.set_cons_succ, List.getElem_toArray, List.getElem_cons_succ, List.getElem_cons_zero]))
  (refine wpAnyH_take (i := 3) (v := ?_) rfl ?_ ?_ ?_ (fun _ _ _ h => h) (Or.inl ⟨?_, ?_⟩) ?_ ?_; rotate_left 1; (focus decide +kernel); (focus decide +kernel); (focus decide +kernel); (focus rfl); (focus (intro w hSw; (try dsimp only at hSw); go_simp; (try (with_reducible rfl)); done)); (focus assumption); (try simp only [Act.put, List.setIfInBounds_toArray, List.set_cons_zero, List.set_cons_succ, List.getElem_toArray, List.getElem_cons_succ, List.getElem_cons_zero]))
  (refine wpAnyH_take (i := 4) (v := ?_) rfl ?_ ?_ ?_ (fun _ _ _ h => h) (Or.inl ⟨?_, ?_⟩) ?_ ?_; rotate_left 1; (focus decide +kernel); (focus decide +kernel); (focus decide +kernel); (focus rfl); (focus (intro w hSw; (try dsimp only at hSw); go_simp; (try (with_reducible rfl)); done)); (focus assumption); (try simp only [Act.put, List.setIfInBounds_toArray, List.set_cons_zero, List.set_cons_succ, List.getElem_toArray, List.getElem_cons_succ, List.getElem_cons_zero]))
  (refine wpAnyH_take (i := 5) (v := ?_) rfl ?_ ?_ ?_ (fun _ _ _ h => h) (Or.inl ⟨?_, ?_⟩) ?_ ?_; rotate_left 1; (focus decide +kernel); (focus decide +kernel); (focus decide +kernel); (focus rfl); (focus (intro w hSw; (try dsimp only at hSw); go_simp; (try (with_reducible rfl)); done)); (focus assumption); (try simp only [Act.put, List.setIfInBounds_toArray, List.set_cons_zero, List.set_cons_succ, List.getElem_toArray, List.getElem_cons_succ, List.getElem_cons_zero]))
  refine wpAnyH_ready (rs := [6]) ?_ (by simp) ?_
  · decide +kernel
  refine AllReadyH.cons rfl (fun K hK => ?_) AllReadyH.nil
  go_simp
  go_at_call 104
  refine (cloneE HZ.out).mono ?_
  rintro e w3 ⟨ao5, k, rfl, hkm, bel⟩
  have HKM := hid hkm
  have kT3 := (bel.block NT (Array.getElem?_eq_some_iff.1 kT).1).trans kT
  refine hK.out _ _ ?_ (fun hHeld3 => ?_)
  · (try dsimp only); exact next3_1 bel hHeld
  clear hK K hHeld kT bel
  (try simp only [Act.put, List.setIfInBounds_toArray, List.set_cons_zero, List.set_cons_succ, List.getElem_toArray, List.getElem_cons_succ, List.getElem_cons_zero])
  (refine wpAnyH_take (i := 7) (v := ?_) rfl ?_ ?_ ?_ (fun _ _ _ h => h) (Or.inl ⟨?_, ?_⟩) ?_ ?_; rotate_left 1; (focus decide +kernel); (focus decide +kernel); (focus decide +kernel); (focus rfl); (focus (intro w hSw; (try dsimp only at hSw); go_simp; (try (with_reducible rfl)); done)); (focus assumption); (try simp only [Act.put, List.setIfInBounds_toArray, List.set_cons_zero, List.set_cons_succ, List.getElem_toArray, List.getElem_cons_succ, List.getElem_cons_zero]))
  refine wpAnyH_ready (rs := [8]) ?_ (by simp) ?_
  · decide +kernel
  refine AllReadyH.cons rfl (fun K hK => ?_) AllReadyH.nil
  have y0 : w3.cell? ⟨NT, 0, none⟩ = some (.int .i64 0) := Go.Joins.cell_of_block kT3 0
  have y1 : w3.cell? ⟨NT, 1, none⟩ = some (.int .i64 0) := Go.Joins.cell_of_block kT3 1
  have y2 : w3.cell? ⟨NT, 2, none⟩ = some (.slice none 0 0) := Go.Joins.cell_of_block kT3 2
  have g0 : w3.frozen? ⟨NT, 0, none⟩ = false := Go.Joins.unfrozen_of_block kT3 0
  have g1 : w3.frozen? ⟨NT, 1, none⟩ = false := Go.Joins.unfrozen_of_block kT3 1
  have g2 : w3.frozen? ⟨NT, 2, none⟩ = false := Go.Joins.unfrozen_of_block kT3 2
  have HKx := hid kT3
  clear kT3
  have HH4 := hid hHeld3
  go_simp
  obtain ⟨W5, hW⟩ : ∃ W5, W5 = (((w3.setCell ⟨NT, 0, none⟩ (.int .i64 s)).setCell ⟨NT, 1, none⟩ (.int .i64 r)).setCell ⟨NT, 2, none⟩ (.slice ao5 zs.length k)) := ⟨_, rfl⟩
  have q0 := (Go.Joins.block_setCell (i := 2) (Go.Joins.block_setCell (i := 1) (Go.Joins.block_setCell (i := 0) HKx.out (.int .i64 s)) (.int .i64 r)) (.slice ao5 zs.length k))
  rw [← hW] at q0
  have z0 : W5.cell? ⟨NT, 0, none⟩ = some (.int .i64 s) := Go.Joins.cell_of_block q0 0
  have z1 : W5.cell? ⟨NT, 1, none⟩ = some (.int .i64 r) := Go.Joins.cell_of_block q0 1
  have z2 : W5.cell? ⟨NT, 2, none⟩ = some (.slice ao5 zs.length k) := Go.Joins.cell_of_block q0 2
  have B5 : Below w.heap.size w W5 := by
    have h1 := HNT.out
    rw [hW]
    exact ((HH4.out.1.setCell (by simp; omega) _).setCell (by simp; omega) _).setCell (by simp; omega) _
  have hx := HNN.out
  have m0 : W5.cell? ⟨N, 0, none⟩ = some (.int .i64 s) := by rw [hW]; exact Grow.set_cell (Grow.set_cell (Grow.set_cell HH4.out.2.1 (by simp; omega)) (by simp; omega)) (by simp; omega)
  have m1 : W5.cell? ⟨N, 1, none⟩ = some (.int .i64 r) := by rw [hW]; exact Grow.set_cell (Grow.set_cell (Grow.set_cell HH4.out.2.2.1 (by simp; omega)) (by simp; omega)) (by simp; omega)
  have m2 : W5.cell? ⟨N, 2, none⟩ = some (.slice ao zs.length cap) := by rw [hW]; exact Grow.set_cell (Grow.set_cell (Grow.set_cell HH4.out.2.2.2.1 (by simp; omega)) (by simp; omega)) (by simp; omega)
  have mr : Rd W5 b (.slice ao zs.length cap) zs := HH0.out.keep B5 (Nat.le_refl _)
  refine hK.out _ _ ?_ (fun hHeld5 => ?_)
  · (try dsimp only); rw [← hW]; exact ⟨B5, m0, m1, m2, mr, B5.size⟩
  clear hK K
  simp only [← hW] at hHeld5 ⊢
  clear hW q0 y0 y1 y2 g0 g1 g2 hHeld3 m0 m1 m2 mr
  (try simp only [Act.put, List.setIfInBounds_toArray, List.set_cons_zero, List.set_cons_succ, List.getElem_toArray, List.getElem_cons_succ, List.getElem_cons_zero])
  refine wpAnyH_done (by kernel_rfl) ?_ _
  go_wp2
  simp [bodyPost, results, Try.results71, go_sem, z0, z1, z2]
  exact ⟨ao5, k, by simp, HKM.out, B5⟩

end Go.Proofs.Ythcbhbdgbiiagaa.ClE
