/- FireStep of both sides. -/
import Derived.Test.YthcbhbdgbiiagaaDoorAdj
namespace Go.Proofs.YthcbhbdgbiiagaaDoor.Fst
open Go.RowKit Go.Proofs.YthcbhbdgbiiagaaDoor.Rd Go.Proofs.YthcbhbdgbiiagaaDoor.Help Go.Proofs.YthcbhbdgbiiagaaDoor.Ring Go.Proofs.YthcbhbdgbiiagaaDoor.Small Go.Proofs.YthcbhbdgbiiagaaDoor.FVal Go.Proofs.YthcbhbdgbiiagaaDoor.Keep Go.Proofs.YthcbhbdgbiiagaaDoor.Rule Go.Proofs.YthcbhbdgbiiagaaDoor.Grow Go.Proofs.YthcbhbdgbiiagaaDoor.Bes Go.Proofs.YthcbhbdgbiiagaaDoor.Sfi
set_option linter.unusedVariables false
set_option linter.unusedSimpArgs false

set_option maxHeartbeats 2000000 in
theorem specNo {w : World} {s r : Int} {b : Nat} {v : Value} {zs : List Int} (h : Rd w b v zs) (hq : fieldB s r zs = false) :
    Calls Tryd.prog 16 #[ruleV s r v] w fun e w' => e = .returned (.tuple #[ruleV 0 0 (.slice none 0 0), .bool false]) ∧ Below w.heap.size w w' := by
  have HH := hid h
  have HQ := hid hq
  obtain ⟨ao, cap, rfl, hc, hm, _⟩ := h
  clear hc hm hq
  go_enter Tryd.func16, Tryd.ntmps16
  go_wp2_with fail
  obtain ⟨w1, hW⟩ : ∃ w1, w1 = (w.alloc (Obj.cells #[.int .i64 s, .int .i64 r, .slice ao zs.length cap] 26)).alloc (Obj.cells #[.int .i64 0, .int .i64 0, .slice none 0 0] 26) := ⟨_, rfl⟩
  obtain ⟨N, hN⟩ : ∃ N, N = w.heap.size := ⟨_, rfl⟩
  obtain ⟨NT, hM⟩ : ∃ NT, NT = N + 1 := ⟨_, rfl⟩
  have st : Below w.heap.size w w1 ∧ w1.cell? ⟨N, 0, none⟩ = some (.int .i64 s) ∧ w1.cell? ⟨N, 1, none⟩ = some (.int .i64 r) ∧ w1.cell? ⟨N, 2, none⟩ = some (.slice ao zs.length cap) ∧ Rd w1 b (.slice ao zs.length cap) zs ∧ w.heap.size ≤ w1.heap.size := by
    rw [hW, hN]
    exact ⟨Go.Joins.below_alloc2 _ _ _, by simp, by simp, by simp, HH.out.keep (Go.Joins.below_alloc2 _ _ _) (Nat.le_refl _), by simp; omega⟩
  have kT : w1.heap[NT]? = some (Obj.cells #[.int .i64 0, .int .i64 0, .slice none 0 0] 26) := by rw [hW]; exact FNew.heap_top (by rw [hM, hN]; simp)
  have HNT : Hid (w.heap.size ≤ NT) := by simp only [Hid]; omega
  have HNN : Hid (NT = N + 1 ∧ N = w.heap.size) := ⟨hM, hN⟩
  simp only [← hW, ← hN, ← hM]
  clear hW hN hM
  go_at_call 34
  refine (FSpec.is (rd3_1_0 st) st.2.1 st.2.2.1 st.2.2.2.1).mono ?_
  rw [HQ.out]
  rintro e w2 ⟨rfl, m, hw2⟩
  have bel : Below w1.heap.size w1 w2 := by rw [hw2]; exact FSpec.below_drewN' _ _ _
  clear hw2
  replace st := next3_1 bel st
  replace kT := (bel.block NT (Array.getElem?_eq_some_iff.1 kT).1).trans kT
  clear bel

  have HB := hid st.1
  have y0 : w2.cell? ⟨NT, 0, none⟩ = some (.int .i64 0) := Go.Joins.cell_of_block kT 0
  have y1 : w2.cell? ⟨NT, 1, none⟩ = some (.int .i64 0) := Go.Joins.cell_of_block kT 1
  have y2 : w2.cell? ⟨NT, 2, none⟩ = some (.slice none 0 0) := Go.Joins.cell_of_block kT 2
  have g0 : w2.frozen? ⟨NT, 0, none⟩ = false := Go.Joins.unfrozen_of_block kT 0
  have g1 : w2.frozen? ⟨NT, 1, none⟩ = false := Go.Joins.unfrozen_of_block kT 1
  have g2 : w2.frozen? ⟨NT, 2, none⟩ = false := Go.Joins.unfrozen_of_block kT 2
  have HKx := hid kT
  clear kT
  go_wp2
  obtain ⟨W5, hW⟩ : ∃ W5, W5 = (((w2.setCell ⟨NT, 0, none⟩ (.int .i64 0)).setCell ⟨NT, 1, none⟩ (.int .i64 0)).setCell ⟨NT, 2, none⟩ (.slice none 0 0)) := ⟨_, rfl⟩
  have q0 := (Go.Joins.block_setCell (i := 2) (Go.Joins.block_setCell (i := 1) (Go.Joins.block_setCell (i := 0) HKx.out (.int .i64 0)) (.int .i64 0)) (.slice none 0 0))
  rw [← hW] at q0
  have z0 : W5.cell? ⟨NT, 0, none⟩ = some (.int .i64 0) := Go.Joins.cell_of_block q0 0
  have z1 : W5.cell? ⟨NT, 1, none⟩ = some (.int .i64 0) := Go.Joins.cell_of_block q0 1
  have z2 : W5.cell? ⟨NT, 2, none⟩ = some (.slice none 0 0) := Go.Joins.cell_of_block q0 2
  have B5 : Below w.heap.size w W5 := by
    have h1 := HNT.out
    rw [hW]
    exact ((HB.out.setCell (by simp; omega) _).setCell (by simp; omega) _).setCell (by simp; omega) _
  simp only [← hW]
  clear hW q0
  simp [bodyPost, results, Tryd.results16, go_sem, z0, z1, z2]
  exact B5

set_option maxHeartbeats 2000000 in
theorem implNo {w : World} {s r : Int} {b : Nat} {v : Value} {zs : List Int} (h : Rd w b v zs) (hq : fieldB s r zs = false) :
    Calls Tryd.prog 17 #[ruleV s r v] w fun e w' => e = .returned (.tuple #[ruleV 0 0 (.slice none 0 0), .bool false]) ∧ Below w.heap.size w w' := by
  have HH := hid h
  have HQ := hid hq
  obtain ⟨ao, cap, rfl, hc, hm, _⟩ := h
  clear hc hm hq
  go_enter Tryd.func17, Tryd.ntmps17
  go_wp2_with fail
  obtain ⟨w1, hW⟩ : ∃ w1, w1 = (w.alloc (Obj.cells #[.int .i64 s, .int .i64 r, .slice ao zs.length cap] 26)).alloc (Obj.cells #[.int .i64 0, .int .i64 0, .slice none 0 0] 26) := ⟨_, rfl⟩
  obtain ⟨N, hN⟩ : ∃ N, N = w.heap.size := ⟨_, rfl⟩
  obtain ⟨NT, hM⟩ : ∃ NT, NT = N + 1 := ⟨_, rfl⟩
  have st : Below w.heap.size w w1 ∧ w1.cell? ⟨N, 0, none⟩ = some (.int .i64 s) ∧ w1.cell? ⟨N, 1, none⟩ = some (.int .i64 r) ∧ w1.cell? ⟨N, 2, none⟩ = some (.slice ao zs.length cap) ∧ Rd w1 b (.slice ao zs.length cap) zs ∧ w.heap.size ≤ w1.heap.size := by
    rw [hW, hN]
    exact ⟨Go.Joins.below_alloc2 _ _ _, by simp, by simp, by simp, HH.out.keep (Go.Joins.below_alloc2 _ _ _) (Nat.le_refl _), by simp; omega⟩
  have kT : w1.heap[NT]? = some (Obj.cells #[.int .i64 0, .int .i64 0, .slice none 0 0] 26) := by rw [hW]; exact FNew.heap_top (by rw [hM, hN]; simp)
  have HNT : Hid (w.heap.size ≤ NT) := by simp only [Hid]; omega
  have HNN : Hid (NT = N + 1 ∧ N = w.heap.size) := ⟨hM, hN⟩
  simp only [← hW, ← hN, ← hM]
  clear hW hN hM
  go_at_call 36
  refine (implValid (rd3_1_0 st)).mono ?_
  rw [HQ.out]
  rintro e w2 ⟨rfl, bel⟩
  replace st := next3_1 bel st
  replace kT := (bel.block NT (Array.getElem?_eq_some_iff.1 kT).1).trans kT
  clear bel

  have HB := hid st.1
  have y0 : w2.cell? ⟨NT, 0, none⟩ = some (.int .i64 0) := Go.Joins.cell_of_block kT 0
  have y1 : w2.cell? ⟨NT, 1, none⟩ = some (.int .i64 0) := Go.Joins.cell_of_block kT 1
  have y2 : w2.cell? ⟨NT, 2, none⟩ = some (.slice none 0 0) := Go.Joins.cell_of_block kT 2
  have g0 : w2.frozen? ⟨NT, 0, none⟩ = false := Go.Joins.unfrozen_of_block kT 0
  have g1 : w2.frozen? ⟨NT, 1, none⟩ = false := Go.Joins.unfrozen_of_block kT 1
  have g2 : w2.frozen? ⟨NT, 2, none⟩ = false := Go.Joins.unfrozen_of_block kT 2
  have HKx := hid kT
  clear kT
  go_wp2
  obtain ⟨W5, hW⟩ : ∃ W5, W5 = (((w2.setCell ⟨NT, 0, none⟩ (.int .i64 0)).setCell ⟨NT, 1, none⟩ (.int .i64 0)).setCell ⟨NT, 2, none⟩ (.slice none 0 0)) := ⟨_, rfl⟩
  have q0 := (Go.Joins.block_setCell (i := 2) (Go.Joins.block_setCell (i := 1) (Go.Joins.block_setCell (i := 0) HKx.out (.int .i64 0)) (.int .i64 0)) (.slice none 0 0))
  rw [← hW] at q0
  have z0 : W5.cell? ⟨NT, 0, none⟩ = some (.int .i64 0) := Go.Joins.cell_of_block q0 0
  have z1 : W5.cell? ⟨NT, 1, none⟩ = some (.int .i64 0) := Go.Joins.cell_of_block q0 1
  have z2 : W5.cell? ⟨NT, 2, none⟩ = some (.slice none 0 0) := Go.Joins.cell_of_block q0 2
  have B5 : Below w.heap.size w W5 := by
    have h1 := HNT.out
    rw [hW]
    exact ((HB.out.setCell (by simp; omega) _).setCell (by simp; omega) _).setCell (by simp; omega) _
  simp only [← hW]
  clear hW q0
  simp [bodyPost, results, Tryd.results17, go_sem, z0, z1, z2]
  exact B5

set_option maxHeartbeats 4000000 in
theorem specOk {w : World} {R C n : Nat} {b : Nat} {v : Value} {zs : List Int} (h : Rd w b v zs) (hq : fieldB R C zs = true) (hn : n = R * C) :
    Calls Tryd.prog 16 #[ruleV R C v] w fun e w' => ∃ b' k, e = .returned (.tuple #[ruleV R C (.slice (some ⟨b', 0, none⟩) n k), .bool true]) ∧ Rd.Own 2 w' b' (.slice (some ⟨b', 0, none⟩) n k) (fireS zs R C n) ∧ w.heap.size ≤ b' ∧ Below w.heap.size w w' := by
  have HC : Hid (1 ≤ C) := (field_nat hq).2.1.1
  have HH := hid h
  have HQ := hid hq
  have HN := hid hn
  skip
  obtain ⟨ao, cap, rfl, hc, hm, _⟩ := h
  clear hc hm hq hn
  go_enter Tryd.func16, Tryd.ntmps16
  go_wp2_with fail
  obtain ⟨w1, hW⟩ : ∃ w1, w1 = (w.alloc (Obj.cells #[.int .i64 R, .int .i64 C, .slice ao zs.length cap] 26)).alloc (Obj.cells #[.int .i64 0, .int .i64 0, .slice none 0 0] 26) := ⟨_, rfl⟩
  obtain ⟨N, hN⟩ : ∃ N, N = w.heap.size := ⟨_, rfl⟩
  obtain ⟨NT, hM⟩ : ∃ NT, NT = N + 1 := ⟨_, rfl⟩
  have st : Below w.heap.size w w1 ∧ w1.cell? ⟨N, 0, none⟩ = some (.int .i64 R) ∧ w1.cell? ⟨N, 1, none⟩ = some (.int .i64 C) ∧ w1.cell? ⟨N, 2, none⟩ = some (.slice ao zs.length cap) ∧ Rd w1 b (.slice ao zs.length cap) zs ∧ w.heap.size ≤ w1.heap.size := by
    rw [hW, hN]
    exact ⟨Go.Joins.below_alloc2 _ _ _, by simp, by simp, by simp, HH.out.keep (Go.Joins.below_alloc2 _ _ _) (Nat.le_refl _), by simp; omega⟩
  have kT : w1.heap[NT]? = some (Obj.cells #[.int .i64 0, .int .i64 0, .slice none 0 0] 26) := by rw [hW]; exact FNew.heap_top (by rw [hM, hN]; simp)
  have HNT : Hid (w.heap.size ≤ NT) := by simp only [Hid]; omega
  have HNN : Hid (NT = N + 1 ∧ N = w.heap.size) := ⟨hM, hN⟩
  simp only [← hW, ← hN, ← hM]
  clear hW hN hM
  go_at_call 34
  refine (FSpec.is (rd3_1_0 st) st.2.1 st.2.2.1 st.2.2.2.1).mono ?_
  rw [HQ.out]
  rintro e w2 ⟨rfl, m, hw2⟩
  have bel : Below w1.heap.size w1 w2 := by rw [hw2]; exact FSpec.below_drewN' _ _ _
  clear hw2
  replace st := next3_1 bel st
  replace kT := (bel.block NT (Array.getElem?_eq_some_iff.1 kT).1).trans kT
  clear bel

  go_wp2_with fail
  go_at_call 35
  refine (Sfi.l04Fire st.2.1 st.2.2.1 st.2.2.2.1 (rd3_1_0 st) HQ.out HN.out).mono ?_
  rintro e w3 ⟨b', k, rfl, ow, lo, bel⟩
  have HLo : Hid (w.heap.size ≤ b') := Nat.le_trans st.1.size lo
  have HNB : Hid (NT ≠ b') := Nat.ne_of_lt (Nat.lt_of_lt_of_le (Array.getElem?_eq_some_iff.1 kT).1 lo)
  replace kT := (bel.block NT (Array.getElem?_eq_some_iff.1 kT).1).trans kT
  replace st := next3_1 bel st
  have HB := hid st.1
  have HO := hid ow
  clear bel ow lo st
  have y0 : w3.cell? ⟨NT, 0, none⟩ = some (.int .i64 0) := Go.Joins.cell_of_block kT 0
  have y1 : w3.cell? ⟨NT, 1, none⟩ = some (.int .i64 0) := Go.Joins.cell_of_block kT 1
  have y2 : w3.cell? ⟨NT, 2, none⟩ = some (.slice none 0 0) := Go.Joins.cell_of_block kT 2
  have g0 : w3.frozen? ⟨NT, 0, none⟩ = false := Go.Joins.unfrozen_of_block kT 0
  have g1 : w3.frozen? ⟨NT, 1, none⟩ = false := Go.Joins.unfrozen_of_block kT 1
  have g2 : w3.frozen? ⟨NT, 2, none⟩ = false := Go.Joins.unfrozen_of_block kT 2
  have HKx := hid kT
  clear kT
  go_wp2
  obtain ⟨W5, hW⟩ : ∃ W5, W5 = (((w3.setCell ⟨NT, 0, none⟩ (.int .i64 R)).setCell ⟨NT, 1, none⟩ (.int .i64 C)).setCell ⟨NT, 2, none⟩ (.slice (some ⟨b', 0, none⟩) n k)) := ⟨_, rfl⟩
  have q0 := (Go.Joins.block_setCell (i := 2) (Go.Joins.block_setCell (i := 1) (Go.Joins.block_setCell (i := 0) HKx.out (.int .i64 R)) (.int .i64 C)) (.slice (some ⟨b', 0, none⟩) n k))
  rw [← hW] at q0
  have z0 : W5.cell? ⟨NT, 0, none⟩ = some (.int .i64 R) := Go.Joins.cell_of_block q0 0
  have z1 : W5.cell? ⟨NT, 1, none⟩ = some (.int .i64 C) := Go.Joins.cell_of_block q0 1
  have z2 : W5.cell? ⟨NT, 2, none⟩ = some (.slice (some ⟨b', 0, none⟩) n k) := Go.Joins.cell_of_block q0 2
  have O5 := (own_set (own_set (own_set HO.out ⟨NT, 0, none⟩ (.int .i64 R) HNB.out) ⟨NT, 1, none⟩ (.int .i64 C) HNB.out) ⟨NT, 2, none⟩ (.slice (some ⟨b', 0, none⟩) n k) HNB.out)
  rw [← hW] at O5
  have B5 : Below w.heap.size w W5 := by
    have h1 := HNT.out
    rw [hW]
    exact ((HB.out.setCell (by simp; omega) _).setCell (by simp; omega) _).setCell (by simp; omega) _
  simp only [← hW]
  clear hW q0
  simp [bodyPost, results, Tryd.results16, go_sem, z0, z1, z2]
  exact ⟨b', k, ⟨rfl, rfl⟩, O5, HLo.out, B5⟩

set_option maxHeartbeats 4000000 in
theorem implOk {w : World} {R C n : Nat} {b : Nat} {v : Value} {zs : List Int} (h : Rd w b v zs) (hq : fieldB R C zs = true) (hn : n = R * C) (hg : GW w) :
    Calls Tryd.prog 17 #[ruleV R C v] w fun e w' => ∃ b' k, e = .returned (.tuple #[ruleV R C (.slice (some ⟨b', 0, none⟩) n k), .bool true]) ∧ Rd.Own 2 w' b' (.slice (some ⟨b', 0, none⟩) n k) (fireS zs R C n) ∧ w.heap.size ≤ b' ∧ Below w.heap.size w w' := by
  have HC : Hid (1 ≤ C) := (field_nat hq).2.1.1
  have HH := hid h
  have HQ := hid hq
  have HN := hid hn
  have HG := hid hg
  obtain ⟨ao, cap, rfl, hc, hm, _⟩ := h
  clear hc hm hq hn hg
  go_enter Tryd.func17, Tryd.ntmps17
  go_wp2_with fail
  obtain ⟨w1, hW⟩ : ∃ w1, w1 = (w.alloc (Obj.cells #[.int .i64 R, .int .i64 C, .slice ao zs.length cap] 26)).alloc (Obj.cells #[.int .i64 0, .int .i64 0, .slice none 0 0] 26) := ⟨_, rfl⟩
  obtain ⟨N, hN⟩ : ∃ N, N = w.heap.size := ⟨_, rfl⟩
  obtain ⟨NT, hM⟩ : ∃ NT, NT = N + 1 := ⟨_, rfl⟩
  have st : Below w.heap.size w w1 ∧ w1.cell? ⟨N, 0, none⟩ = some (.int .i64 R) ∧ w1.cell? ⟨N, 1, none⟩ = some (.int .i64 C) ∧ w1.cell? ⟨N, 2, none⟩ = some (.slice ao zs.length cap) ∧ Rd w1 b (.slice ao zs.length cap) zs ∧ w.heap.size ≤ w1.heap.size := by
    rw [hW, hN]
    exact ⟨Go.Joins.below_alloc2 _ _ _, by simp, by simp, by simp, HH.out.keep (Go.Joins.below_alloc2 _ _ _) (Nat.le_refl _), by simp; omega⟩
  have kT : w1.heap[NT]? = some (Obj.cells #[.int .i64 0, .int .i64 0, .slice none 0 0] 26) := by rw [hW]; exact FNew.heap_top (by rw [hM, hN]; simp)
  have HNT : Hid (w.heap.size ≤ NT) := by simp only [Hid]; omega
  have HNN : Hid (NT = N + 1 ∧ N = w.heap.size) := ⟨hM, hN⟩
  simp only [← hW, ← hN, ← hM]
  clear hW hN hM
  go_at_call 36
  refine (implValid (rd3_1_0 st)).mono ?_
  rw [HQ.out]
  rintro e w2 ⟨rfl, bel⟩
  replace st := next3_1 bel st
  replace kT := (bel.block NT (Array.getElem?_eq_some_iff.1 kT).1).trans kT
  clear bel

  go_wp2_with fail
  go_at_call 37
  refine (Fir.fireAfter (rd3_1_0 st) HQ.out HN.out (gw_bel HG.out st.1)).mono ?_
  rw [Adj.fire_eq HC.out HN.out]
  rintro e w3 ⟨b', k, rfl, ow, lo, bel⟩
  have HLo : Hid (w.heap.size ≤ b') := Nat.le_trans st.1.size lo
  have HNB : Hid (NT ≠ b') := Nat.ne_of_lt (Nat.lt_of_lt_of_le (Array.getElem?_eq_some_iff.1 kT).1 lo)
  replace kT := (bel.block NT (Array.getElem?_eq_some_iff.1 kT).1).trans kT
  replace st := next3_1 bel st
  have HB := hid st.1
  have HO := hid ow
  clear bel ow lo st
  have y0 : w3.cell? ⟨NT, 0, none⟩ = some (.int .i64 0) := Go.Joins.cell_of_block kT 0
  have y1 : w3.cell? ⟨NT, 1, none⟩ = some (.int .i64 0) := Go.Joins.cell_of_block kT 1
  have y2 : w3.cell? ⟨NT, 2, none⟩ = some (.slice none 0 0) := Go.Joins.cell_of_block kT 2
  have g0 : w3.frozen? ⟨NT, 0, none⟩ = false := Go.Joins.unfrozen_of_block kT 0
  have g1 : w3.frozen? ⟨NT, 1, none⟩ = false := Go.Joins.unfrozen_of_block kT 1
  have g2 : w3.frozen? ⟨NT, 2, none⟩ = false := Go.Joins.unfrozen_of_block kT 2
  have HKx := hid kT
  clear kT
  go_wp2
  obtain ⟨W5, hW⟩ : ∃ W5, W5 = (((w3.setCell ⟨NT, 0, none⟩ (.int .i64 R)).setCell ⟨NT, 1, none⟩ (.int .i64 C)).setCell ⟨NT, 2, none⟩ (.slice (some ⟨b', 0, none⟩) n k)) := ⟨_, rfl⟩
  have q0 := (Go.Joins.block_setCell (i := 2) (Go.Joins.block_setCell (i := 1) (Go.Joins.block_setCell (i := 0) HKx.out (.int .i64 R)) (.int .i64 C)) (.slice (some ⟨b', 0, none⟩) n k))
  rw [← hW] at q0
  have z0 : W5.cell? ⟨NT, 0, none⟩ = some (.int .i64 R) := Go.Joins.cell_of_block q0 0
  have z1 : W5.cell? ⟨NT, 1, none⟩ = some (.int .i64 C) := Go.Joins.cell_of_block q0 1
  have z2 : W5.cell? ⟨NT, 2, none⟩ = some (.slice (some ⟨b', 0, none⟩) n k) := Go.Joins.cell_of_block q0 2
  have O5 := (own_set (own_set (own_set HO.out ⟨NT, 0, none⟩ (.int .i64 R) HNB.out) ⟨NT, 1, none⟩ (.int .i64 C) HNB.out) ⟨NT, 2, none⟩ (.slice (some ⟨b', 0, none⟩) n k) HNB.out)
  rw [← hW] at O5
  have B5 : Below w.heap.size w W5 := by
    have h1 := HNT.out
    rw [hW]
    exact ((HB.out.setCell (by simp; omega) _).setCell (by simp; omega) _).setCell (by simp; omega) _
  simp only [← hW]
  clear hW q0
  simp [bodyPost, results, Tryd.results17, go_sem, z0, z1, z2]
  exact ⟨b', k, ⟨rfl, rfl⟩, O5, HLo.out, B5⟩

theorem agree (s r : Int) (zs : List Int) : ∃ (qs qr : Int) (rs : List Int) (ok : Bool), rs.length ≤ 1000000 ∧
    (∀ (w : World) (b : Nat) (v : Value), Rd w b v zs → Calls Tryd.prog 16 #[ruleV s r v] w fun e w' => ∃ ao c b', e = .returned (.tuple #[ruleV qs qr (.slice ao rs.length c), .bool ok]) ∧ Rd.Own 2 w' b' (.slice ao rs.length c) rs ∧ w.heap.size ≤ b' ∧ Below w.heap.size w w') ∧
    (∀ (w : World) (b : Nat) (v : Value), GW w → Rd w b v zs → Calls Tryd.prog 17 #[ruleV s r v] w fun e w' => ∃ ao c b', e = .returned (.tuple #[ruleV qs qr (.slice ao rs.length c), .bool ok]) ∧ Rd.Own 2 w' b' (.slice ao rs.length c) rs ∧ w.heap.size ≤ b' ∧ Below w.heap.size w w') := by
  cases hq : fieldB s r zs with
  | false =>
    refine ⟨0, 0, [], false, by simp, fun w b v k => (specNo k hq).mono ?_, fun w b v _ k => (implNo k hq).mono ?_⟩
    · rintro e w' ⟨rfl, bel⟩
      exact ⟨none, 0, w.heap.size, rfl, Own.nil _ _ _, Nat.le_refl _, bel⟩
    · rintro e w' ⟨rfl, bel⟩
      exact ⟨none, 0, w.heap.size, rfl, Own.nil _ _ _, Nat.le_refl _, bel⟩
  | true =>
    have hb : (1 ≤ s ∧ s ≤ 24) ∧ 1 ≤ r ∧ r ≤ 24 := by
      have h1 := hq
      simp only [fieldB, Bool.and_eq_true] at h1
      have := h1.1
      simp [sidesB] at this; omega
    obtain ⟨R, rfl⟩ := Int.eq_ofNat_of_zero_le (show 0 ≤ s by omega)
    obtain ⟨C, rfl⟩ := Int.eq_ofNat_of_zero_le (show 0 ≤ r by omega)
    have hle : R * C ≤ 24 * 24 := Nat.mul_le_mul (by omega) (by omega)
    have hlen : (fireS zs R C (R * C)).length = R * C := by simp [fireS]
    refine ⟨R, C, fireS zs R C (R * C), true, by omega, fun w b v k => (specOk k hq rfl).mono ?_, fun w b v g k => (implOk k hq rfl g).mono ?_⟩
    · rintro e w' ⟨b', c, rfl, ow, lo, bel⟩
      exact ⟨some ⟨b', 0, none⟩, c, b', by rw [hlen], by rw [hlen]; exact ow, lo, bel⟩
    · rintro e w' ⟨b', c, rfl, ow, lo, bel⟩
      exact ⟨some ⟨b', 0, none⟩, c, b', by rw [hlen], by rw [hlen]; exact ow, lo, bel⟩


end Go.Proofs.YthcbhbdgbiiagaaDoor.Fst
