/- ChangeRule of both sides. -/
import Derived.Test.YthcbhbdgbiiagaaCrs
import Derived.Test.YthcbhbdgbiiagaaDraw
import Derived.Deep.Cut
namespace Go.Proofs.Ythcbhbdgbiiagaa.Chg
open Go.RowKit Go.Proofs.Ythcbhbdgbiiagaa.Rd Go.Proofs.Ythcbhbdgbiiagaa.Help Go.Proofs.Ythcbhbdgbiiagaa.Ring Go.Proofs.Ythcbhbdgbiiagaa.Small Go.Proofs.Ythcbhbdgbiiagaa.Keep Go.Proofs.Ythcbhbdgbiiagaa.Rule Go.Proofs.Ythcbhbdgbiiagaa.Grow Go.Proofs.Ythcbhbdgbiiagaa.Two Go.Proofs.Ythcbhbdgbiiagaa.Crs Go.Proofs.Ythcbhbdgbiiagaa.Draw
set_option linter.unusedVariables false
set_option linter.unusedSimpArgs false

/-- The place that is changed. -/
def chgAt (s : Int) (n k : Nat) : Nat := (seedAt s (k + 1) * (n : Int) / 4294967296).toNat
/-- The changed table. -/
def chgL (zs : List Int) (s : Int) (n : Nat) : Nat → List Int
  | 0 => zs
  | k + 1 => (chgL zs s n k).set (chgAt s n k) (1 - (chgL zs s n k).getD (chgAt s n k) 0)
theorem chg_len (zs : List Int) (s : Int) (n k : Nat) : (chgL zs s n k).length = zs.length := by
  induction k with
  | zero => rfl
  | succ k ih => simp only [chgL, List.length_set]; exact ih
theorem chg_all {zs : List Int} (h : allB zs 2 = true) (s : Int) (n k : Nat) : allB (chgL zs s n k) 2 = true := by
  induction k with
  | zero => exact h
  | succ k ih =>
    simp only [chgL]
    unfold allB at ih ⊢
    rw [List.all_eq_true] at ih ⊢
    intro x hx
    rcases List.mem_or_eq_of_mem_set hx with hx | hx
    · exact ih x hx
    · obtain ⟨y, hy⟩ : ∃ y, y = (chgL zs s n k).getD (chgAt s n k) 0 := ⟨_, rfl⟩
      have hb : 0 ≤ y ∧ y ≤ 1 := by
        by_cases hj : chgAt s n k < (chgL zs s n k).length
        · have := ih y (by rw [hy, List.getD_eq_getElem?_getD, List.getElem?_eq_getElem hj]; exact List.getElem_mem hj)
          simpa [okB] using this
        · rw [hy, List.getD_eq_getElem?_getD, List.getElem?_eq_none (by omega)]; simp
      rw [← hy] at hx
      subst hx
      simp [okB]; omega
theorem chg_bd {zs : List Int} (h : allB zs 2 = true) (s : Int) (n k i : Nat) : 0 ≤ (chgL zs s n k).getD i 0 ∧ (chgL zs s n k).getD i 0 ≤ 1 := by
  have ih := chg_all h s n k
  unfold allB at ih
  rw [List.all_eq_true] at ih
  by_cases hj : i < (chgL zs s n k).length
  · have := ih _ (show (chgL zs s n k).getD i 0 ∈ chgL zs s n k by rw [List.getD_eq_getElem?_getD, List.getElem?_eq_getElem hj]; exact List.getElem_mem hj)
    simpa [okB] using this
  · rw [List.getD_eq_getElem?_getD, List.getElem?_eq_none (by omega)]; simp
theorem at_lt {s : Int} (h : 0 ≤ s ∧ s ≤ 4294967295) {n : Nat} (hn : n = 2 ∨ n = 8 ∨ n = 32) (k : Nat) : chgAt s n k < n ∧ ((chgAt s n k : Nat) : Int) = seedAt s (k + 1) * (n : Int) / 4294967296 := by
  have hb := seedAt_bd s h (k + 1)
  unfold chgAt
  obtain ⟨S, hS⟩ : ∃ S, S = seedAt s (k + 1) := ⟨_, rfl⟩
  rw [← hS] at hb ⊢
  rcases hn with rfl | rfl | rfl <;> constructor <;> omega
theorem mul_wrap {S : Int} (h : 0 ≤ S ∧ S ≤ 4294967295) {n : Nat} (hn : n = 2 ∨ n = 8 ∨ n = 32) : wrap64 (S * (n : Int)) = S * (n : Int) ∧ 0 ≤ S * (n : Int) := by
  rcases hn with rfl | rfl | rfl
  · exact ⟨wrap_id (by omega) (by omega), by omega⟩
  · exact ⟨wrap_id (by omega) (by omega), by omega⟩
  · exact ⟨wrap_id (by omega) (by omega), by omega⟩
theorem nxt_eq {S : Int} (h : 0 ≤ S ∧ S ≤ 4294967295) : wrap64 (1664525 * S) = 1664525 * S ∧ wrap64 (1664525 * S + 1013904223) = 1664525 * S + 1013904223 ∧ (1664525 * S + 1013904223).tmod 4294967296 = nxt S := by
  refine ⟨wrap_id (by omega) (by omega), wrap_id (by omega) (by omega), ?_⟩
  rw [Int.tmod_eq_emod_of_nonneg (by omega)]
  rfl
set_option maxHeartbeats 400000 in
theorem specNext {w : World} {S : Int} (h : 0 ≤ S ∧ S ≤ 4294967295) :
    Calls Try.prog 113 #[.int .i64 S] w fun e w' => e = .returned (.int .i64 (nxt S)) ∧ w = w' := by
  obtain ⟨e1, e2, e3⟩ := nxt_eq h
  obtain ⟨M, hM⟩ : ∃ M, M = nxt S := ⟨_, rfl⟩
  rw [← hM] at e3 ⊢
  clear h hM
  go_enter Try.func113, Try.ntmps113
  go_wp2
  go_ret
  exact ⟨rfl, rfl⟩

set_option maxHeartbeats 400000 in
theorem implNext {w : World} {S : Int} (h : 0 ≤ S ∧ S ≤ 4294967295) :
    Calls Try.prog 76 #[.int .i64 S] w fun e w' => e = .returned (.int .i64 (nxt S)) ∧ w = w' := by
  obtain ⟨e1, e2, e3⟩ := nxt_eq h
  obtain ⟨M, hM⟩ : ∃ M, M = nxt S := ⟨_, rfl⟩
  rw [← hM] at e3 ⊢
  clear h hM
  go_enter Try.func76, Try.ntmps76
  go_wp2
  go_ret
  exact ⟨rfl, rfl⟩

theorem specSeed {w : World} {n : Int} {q : Bool} (hq : decide (0 ≤ n ∧ n ≤ 4294967295) = q) :
    Calls Try.prog 73 #[.int .i64 n] w fun e w' => e = .returned (.bool q) ∧ w = w' := by
  go_enter Try.func73, Try.ntmps73
  go_wp2_with fail
  go_at_call 55
  refine inB.mono ?_
  rw [hq]
  rintro e w' ⟨rfl, rfl⟩
  go_wp2
  go_ret
  exact ⟨rfl, rfl⟩
theorem implSeed {w : World} {n : Int} {q : Bool} (hq : decide (0 ≤ n ∧ n ≤ 4294967295) = q) :
    Calls Try.prog 75 #[.int .i64 n] w fun e w' => e = .returned (.bool q) ∧ w = w' := by
  go_enter Try.func75, Try.ntmps75
  go_wp2_with fail
  go_at_call 58
  refine isCountB.mono ?_
  rw [hq]
  rintro e w' ⟨rfl, rfl⟩
  go_wp2
  go_ret
  exact ⟨rfl, rfl⟩

set_option maxHeartbeats 4000000 in
set_option maxRecDepth 8000 in
theorem specNo1 {w : World} {s r tm s0 : Int} {b : Nat} {v : Value} {zs : List Int} (h : Rd w b v zs) (hq : twoB s r zs = false) :
    Calls Try.prog 36 #[ruleV s r v, .int .i64 tm, .int .i64 s0] w fun e w' => e = .returned (.tuple #[ruleV 0 0 (.slice none 0 0), .int .i64 0, .bool false]) ∧ Below w.heap.size w w' := by
  have HQ := hid hq
  clear hq
  have HH := hid h
  obtain ⟨ao, c1, rfl, hc1, hm1, _⟩ := h
  have hm1' : zs.length ≤ c1 ∧ c1 ≤ 9223372036854775807 := by unfold maxLen at hm1; omega
  clear hc1 hm1
  go_enter Try.func36, Try.ntmps36
  go_wp2_with fail
  obtain ⟨w1, hW⟩ : ∃ w1, w1 = (w.alloc (Obj.cells #[.int .i64 s, .int .i64 r, .slice ao zs.length c1] 44)).alloc (Obj.cells #[.int .i64 0, .int .i64 0, .slice none 0 0] 44) := ⟨_, rfl⟩
  obtain ⟨N, hA⟩ : ∃ N, N = w.heap.size := ⟨_, rfl⟩
  obtain ⟨NT, hT⟩ : ∃ NT, NT = N + 1 := ⟨_, rfl⟩
  have st : Below w.heap.size w w1 ∧ w1.cell? ⟨N, 0, none⟩ = some (.int .i64 s) ∧ w1.cell? ⟨N, 1, none⟩ = some (.int .i64 r) ∧ w1.cell? ⟨N, 2, none⟩ = some (.slice ao zs.length c1) ∧ w.heap.size ≤ w1.heap.size := by
    rw [hW, hA]
    exact ⟨Go.Joins.below_alloc2 _ _ _, cell_keep (below1 _ _) (by simp), cell_keep (below1 _ _) (by simp), cell_keep (below1 _ _) (by simp), by simp <;> omega⟩
  have kT : w1.heap[NT]? = some (Obj.cells #[.int .i64 0, .int .i64 0, .slice none 0 0] 44) := by rw [hW]; exact FNew.heap_top (by rw [hT, hA]; simp)
  have HNT : Hid (w.heap.size ≤ NT) := by simp only [Hid]; omega
  simp only [← hW, ← hA, ← hT]
  clear hW hA hT
  go_at_call 65
  refine (Two.spec (HH.out.keep st.1 (Nat.le_refl _)) st.2.1 st.2.2.1 st.2.2.2.1).mono ?_
  rw [HQ.out]
  rintro e w2 ⟨rfl, hm2⟩
  have bel := Two.below_m hm2
  clear hm2
  replace st := next3_0 bel st
  replace kT := heap_keep bel kT
  clear bel
  have HB := hid st.1
  have y0 : w2.cell? ⟨NT, 0, none⟩ = some (.int .i64 0) := Go.Joins.cell_of_block kT 0
  have y1 : w2.cell? ⟨NT, 1, none⟩ = some (.int .i64 0) := Go.Joins.cell_of_block kT 1
  have y2 : w2.cell? ⟨NT, 2, none⟩ = some (.slice none 0 0) := Go.Joins.cell_of_block kT 2
  have g0 : w2.frozen? ⟨NT, 0, none⟩ = false := Go.Joins.unfrozen_of_block kT 0
  have g1 : w2.frozen? ⟨NT, 1, none⟩ = false := Go.Joins.unfrozen_of_block kT 1
  have g2 : w2.frozen? ⟨NT, 2, none⟩ = false := Go.Joins.unfrozen_of_block kT 2
  have HKx := hid kT
  clear kT
  go_wp2
  obtain ⟨W5, hW⟩ : ∃ W5, W5 = (((w2.setCell ⟨NT, 0, none⟩ (.int .i64 0)).setCell ⟨NT, 1, none⟩ (.int .i64 0)).setCell ⟨NT, 2, none⟩ (.slice none 0 0)) := ⟨_, rfl⟩
  have q0 := (Go.Joins.block_setCell (i := 2) (Go.Joins.block_setCell (i := 1) (Go.Joins.block_setCell (i := 0) HKx.out (.int .i64 0)) (.int .i64 0)) (.slice none 0 0))
  rw [← hW] at q0
  have z0 : W5.cell? ⟨NT, 0, none⟩ = some (.int .i64 0) := Go.Joins.cell_of_block q0 0
  have z1 : W5.cell? ⟨NT, 1, none⟩ = some (.int .i64 0) := Go.Joins.cell_of_block q0 1
  have z2 : W5.cell? ⟨NT, 2, none⟩ = some (.slice none 0 0) := Go.Joins.cell_of_block q0 2
  have B5 : Below w.heap.size w W5 := by
    have h1 := HNT.out
    rw [hW]
    exact ((HB.out.setCell (by simp; omega) _).setCell (by simp; omega) _).setCell (by simp; omega) _
  simp only [← hW]
  clear hW q0
  simp [bodyPost, results, Try.results36, go_sem, z0, z1, z2]
  exact B5

set_option maxHeartbeats 4000000 in
set_option maxRecDepth 8000 in
theorem implNo1 {w : World} {s r tm s0 : Int} {b : Nat} {v : Value} {zs : List Int} (h : Rd w b v zs) (hq : twoB s r zs = false) :
    Calls Try.prog 37 #[ruleV s r v, .int .i64 tm, .int .i64 s0] w fun e w' => e = .returned (.tuple #[ruleV 0 0 (.slice none 0 0), .int .i64 0, .bool false]) ∧ Below w.heap.size w w' := by
  have HQ := hid hq
  clear hq
  have HH := hid h
  obtain ⟨ao, c1, rfl, hc1, hm1, _⟩ := h
  have hm1' : zs.length ≤ c1 ∧ c1 ≤ 9223372036854775807 := by unfold maxLen at hm1; omega
  clear hc1 hm1
  go_enter Try.func37, Try.ntmps37
  go_wp2_with fail
  obtain ⟨w1, hW⟩ : ∃ w1, w1 = (w.alloc (Obj.cells #[.int .i64 s, .int .i64 r, .slice ao zs.length c1] 44)).alloc (Obj.cells #[.int .i64 0, .int .i64 0, .slice none 0 0] 44) := ⟨_, rfl⟩
  obtain ⟨N, hA⟩ : ∃ N, N = w.heap.size := ⟨_, rfl⟩
  obtain ⟨NT, hT⟩ : ∃ NT, NT = N + 1 := ⟨_, rfl⟩
  have st : Below w.heap.size w w1 ∧ w1.cell? ⟨N, 0, none⟩ = some (.int .i64 s) ∧ w1.cell? ⟨N, 1, none⟩ = some (.int .i64 r) ∧ w1.cell? ⟨N, 2, none⟩ = some (.slice ao zs.length c1) ∧ w.heap.size ≤ w1.heap.size := by
    rw [hW, hA]
    exact ⟨Go.Joins.below_alloc2 _ _ _, cell_keep (below1 _ _) (by simp), cell_keep (below1 _ _) (by simp), cell_keep (below1 _ _) (by simp), by simp <;> omega⟩
  have kT : w1.heap[NT]? = some (Obj.cells #[.int .i64 0, .int .i64 0, .slice none 0 0] 44) := by rw [hW]; exact FNew.heap_top (by rw [hT, hA]; simp)
  have HNT : Hid (w.heap.size ≤ NT) := by simp only [Hid]; omega
  simp only [← hW, ← hA, ← hT]
  clear hW hA hT
  go_at_call 67
  refine (Two.impl (HH.out.keep st.1 (Nat.le_refl _))).mono ?_
  rw [HQ.out]
  rintro e w2 ⟨rfl, bel⟩
  replace st := next3_0 bel st
  replace kT := heap_keep bel kT
  clear bel
  have HB := hid st.1
  have y0 : w2.cell? ⟨NT, 0, none⟩ = some (.int .i64 0) := Go.Joins.cell_of_block kT 0
  have y1 : w2.cell? ⟨NT, 1, none⟩ = some (.int .i64 0) := Go.Joins.cell_of_block kT 1
  have y2 : w2.cell? ⟨NT, 2, none⟩ = some (.slice none 0 0) := Go.Joins.cell_of_block kT 2
  have g0 : w2.frozen? ⟨NT, 0, none⟩ = false := Go.Joins.unfrozen_of_block kT 0
  have g1 : w2.frozen? ⟨NT, 1, none⟩ = false := Go.Joins.unfrozen_of_block kT 1
  have g2 : w2.frozen? ⟨NT, 2, none⟩ = false := Go.Joins.unfrozen_of_block kT 2
  have HKx := hid kT
  clear kT
  go_wp2
  obtain ⟨W5, hW⟩ : ∃ W5, W5 = (((w2.setCell ⟨NT, 0, none⟩ (.int .i64 0)).setCell ⟨NT, 1, none⟩ (.int .i64 0)).setCell ⟨NT, 2, none⟩ (.slice none 0 0)) := ⟨_, rfl⟩
  have q0 := (Go.Joins.block_setCell (i := 2) (Go.Joins.block_setCell (i := 1) (Go.Joins.block_setCell (i := 0) HKx.out (.int .i64 0)) (.int .i64 0)) (.slice none 0 0))
  rw [← hW] at q0
  have z0 : W5.cell? ⟨NT, 0, none⟩ = some (.int .i64 0) := Go.Joins.cell_of_block q0 0
  have z1 : W5.cell? ⟨NT, 1, none⟩ = some (.int .i64 0) := Go.Joins.cell_of_block q0 1
  have z2 : W5.cell? ⟨NT, 2, none⟩ = some (.slice none 0 0) := Go.Joins.cell_of_block q0 2
  have B5 : Below w.heap.size w W5 := by
    have h1 := HNT.out
    rw [hW]
    exact ((HB.out.setCell (by simp; omega) _).setCell (by simp; omega) _).setCell (by simp; omega) _
  simp only [← hW]
  clear hW q0
  simp [bodyPost, results, Try.results37, go_sem, z0, z1, z2]
  exact B5

set_option maxHeartbeats 4000000 in
set_option maxRecDepth 8000 in
theorem specNo2 {w : World} {s r tm s0 : Int} {b : Nat} {v : Value} {zs : List Int} (h : Rd w b v zs) (hq : twoB s r zs = true) (ht : ¬ (0 ≤ tm ∧ tm ≤ 64)) :
    Calls Try.prog 36 #[ruleV s r v, .int .i64 tm, .int .i64 s0] w fun e w' => e = .returned (.tuple #[ruleV 0 0 (.slice none 0 0), .int .i64 0, .bool false]) ∧ Below w.heap.size w w' := by
  have HQ := hid hq
  have HT : Hid (decide (0 ≤ tm ∧ tm ≤ 64) = false) := decide_eq_false ht
  clear hq ht
  have HH := hid h
  obtain ⟨ao, c1, rfl, hc1, hm1, _⟩ := h
  have hm1' : zs.length ≤ c1 ∧ c1 ≤ 9223372036854775807 := by unfold maxLen at hm1; omega
  clear hc1 hm1
  go_enter Try.func36, Try.ntmps36
  go_wp2_with fail
  obtain ⟨w1, hW⟩ : ∃ w1, w1 = (w.alloc (Obj.cells #[.int .i64 s, .int .i64 r, .slice ao zs.length c1] 44)).alloc (Obj.cells #[.int .i64 0, .int .i64 0, .slice none 0 0] 44) := ⟨_, rfl⟩
  obtain ⟨N, hA⟩ : ∃ N, N = w.heap.size := ⟨_, rfl⟩
  obtain ⟨NT, hT⟩ : ∃ NT, NT = N + 1 := ⟨_, rfl⟩
  have st : Below w.heap.size w w1 ∧ w1.cell? ⟨N, 0, none⟩ = some (.int .i64 s) ∧ w1.cell? ⟨N, 1, none⟩ = some (.int .i64 r) ∧ w1.cell? ⟨N, 2, none⟩ = some (.slice ao zs.length c1) ∧ w.heap.size ≤ w1.heap.size := by
    rw [hW, hA]
    exact ⟨Go.Joins.below_alloc2 _ _ _, cell_keep (below1 _ _) (by simp), cell_keep (below1 _ _) (by simp), cell_keep (below1 _ _) (by simp), by simp <;> omega⟩
  have kT : w1.heap[NT]? = some (Obj.cells #[.int .i64 0, .int .i64 0, .slice none 0 0] 44) := by rw [hW]; exact FNew.heap_top (by rw [hT, hA]; simp)
  have HNT : Hid (w.heap.size ≤ NT) := by simp only [Hid]; omega
  simp only [← hW, ← hA, ← hT]
  clear hW hA hT
  go_at_call 65
  refine (Two.spec (HH.out.keep st.1 (Nat.le_refl _)) st.2.1 st.2.2.1 st.2.2.2.1).mono ?_
  rw [HQ.out]
  rintro e w2 ⟨rfl, hm2⟩
  have bel := Two.below_m hm2
  clear hm2
  replace st := next3_0 bel st
  replace kT := heap_keep bel kT
  clear bel
  go_wp2_with fail
  go_at_call 55
  refine (inB (lo := 0) (hi := 64)).mono ?_
  rw [HT.out]
  rintro e w4 ⟨rfl, rfl⟩
  have HB := hid st.1
  have y0 : w2.cell? ⟨NT, 0, none⟩ = some (.int .i64 0) := Go.Joins.cell_of_block kT 0
  have y1 : w2.cell? ⟨NT, 1, none⟩ = some (.int .i64 0) := Go.Joins.cell_of_block kT 1
  have y2 : w2.cell? ⟨NT, 2, none⟩ = some (.slice none 0 0) := Go.Joins.cell_of_block kT 2
  have g0 : w2.frozen? ⟨NT, 0, none⟩ = false := Go.Joins.unfrozen_of_block kT 0
  have g1 : w2.frozen? ⟨NT, 1, none⟩ = false := Go.Joins.unfrozen_of_block kT 1
  have g2 : w2.frozen? ⟨NT, 2, none⟩ = false := Go.Joins.unfrozen_of_block kT 2
  have HKx := hid kT
  clear kT
  go_wp2
  obtain ⟨W5, hW⟩ : ∃ W5, W5 = (((w2.setCell ⟨NT, 0, none⟩ (.int .i64 0)).setCell ⟨NT, 1, none⟩ (.int .i64 0)).setCell ⟨NT, 2, none⟩ (.slice none 0 0)) := ⟨_, rfl⟩
  have q0 := (Go.Joins.block_setCell (i := 2) (Go.Joins.block_setCell (i := 1) (Go.Joins.block_setCell (i := 0) HKx.out (.int .i64 0)) (.int .i64 0)) (.slice none 0 0))
  rw [← hW] at q0
  have z0 : W5.cell? ⟨NT, 0, none⟩ = some (.int .i64 0) := Go.Joins.cell_of_block q0 0
  have z1 : W5.cell? ⟨NT, 1, none⟩ = some (.int .i64 0) := Go.Joins.cell_of_block q0 1
  have z2 : W5.cell? ⟨NT, 2, none⟩ = some (.slice none 0 0) := Go.Joins.cell_of_block q0 2
  have B5 : Below w.heap.size w W5 := by
    have h1 := HNT.out
    rw [hW]
    exact ((HB.out.setCell (by simp; omega) _).setCell (by simp; omega) _).setCell (by simp; omega) _
  simp only [← hW]
  clear hW q0
  simp [bodyPost, results, Try.results36, go_sem, z0, z1, z2]
  exact B5

set_option maxHeartbeats 4000000 in
set_option maxRecDepth 8000 in
theorem implNo2 {w : World} {s r tm s0 : Int} {b : Nat} {v : Value} {zs : List Int} (h : Rd w b v zs) (hq : twoB s r zs = true) (ht : ¬ (0 ≤ tm ∧ tm ≤ 64)) :
    Calls Try.prog 37 #[ruleV s r v, .int .i64 tm, .int .i64 s0] w fun e w' => e = .returned (.tuple #[ruleV 0 0 (.slice none 0 0), .int .i64 0, .bool false]) ∧ Below w.heap.size w w' := by
  have HQ := hid hq
  have HT : Hid (decide (0 ≤ tm ∧ tm ≤ 64) = false) := decide_eq_false ht
  clear hq ht
  have HH := hid h
  obtain ⟨ao, c1, rfl, hc1, hm1, _⟩ := h
  have hm1' : zs.length ≤ c1 ∧ c1 ≤ 9223372036854775807 := by unfold maxLen at hm1; omega
  clear hc1 hm1
  go_enter Try.func37, Try.ntmps37
  go_wp2_with fail
  obtain ⟨w1, hW⟩ : ∃ w1, w1 = (w.alloc (Obj.cells #[.int .i64 s, .int .i64 r, .slice ao zs.length c1] 44)).alloc (Obj.cells #[.int .i64 0, .int .i64 0, .slice none 0 0] 44) := ⟨_, rfl⟩
  obtain ⟨N, hA⟩ : ∃ N, N = w.heap.size := ⟨_, rfl⟩
  obtain ⟨NT, hT⟩ : ∃ NT, NT = N + 1 := ⟨_, rfl⟩
  have st : Below w.heap.size w w1 ∧ w1.cell? ⟨N, 0, none⟩ = some (.int .i64 s) ∧ w1.cell? ⟨N, 1, none⟩ = some (.int .i64 r) ∧ w1.cell? ⟨N, 2, none⟩ = some (.slice ao zs.length c1) ∧ w.heap.size ≤ w1.heap.size := by
    rw [hW, hA]
    exact ⟨Go.Joins.below_alloc2 _ _ _, cell_keep (below1 _ _) (by simp), cell_keep (below1 _ _) (by simp), cell_keep (below1 _ _) (by simp), by simp <;> omega⟩
  have kT : w1.heap[NT]? = some (Obj.cells #[.int .i64 0, .int .i64 0, .slice none 0 0] 44) := by rw [hW]; exact FNew.heap_top (by rw [hT, hA]; simp)
  have HNT : Hid (w.heap.size ≤ NT) := by simp only [Hid]; omega
  simp only [← hW, ← hA, ← hT]
  clear hW hA hT
  go_at_call 67
  refine (Two.impl (HH.out.keep st.1 (Nat.le_refl _))).mono ?_
  rw [HQ.out]
  rintro e w2 ⟨rfl, bel⟩
  replace st := next3_0 bel st
  replace kT := heap_keep bel kT
  clear bel
  go_wp2_with fail
  go_at_call 58
  refine (isCountB (hi := 64)).mono ?_
  rw [HT.out]
  rintro e w4 ⟨rfl, rfl⟩
  have HB := hid st.1
  have y0 : w2.cell? ⟨NT, 0, none⟩ = some (.int .i64 0) := Go.Joins.cell_of_block kT 0
  have y1 : w2.cell? ⟨NT, 1, none⟩ = some (.int .i64 0) := Go.Joins.cell_of_block kT 1
  have y2 : w2.cell? ⟨NT, 2, none⟩ = some (.slice none 0 0) := Go.Joins.cell_of_block kT 2
  have g0 : w2.frozen? ⟨NT, 0, none⟩ = false := Go.Joins.unfrozen_of_block kT 0
  have g1 : w2.frozen? ⟨NT, 1, none⟩ = false := Go.Joins.unfrozen_of_block kT 1
  have g2 : w2.frozen? ⟨NT, 2, none⟩ = false := Go.Joins.unfrozen_of_block kT 2
  have HKx := hid kT
  clear kT
  go_wp2
  obtain ⟨W5, hW⟩ : ∃ W5, W5 = (((w2.setCell ⟨NT, 0, none⟩ (.int .i64 0)).setCell ⟨NT, 1, none⟩ (.int .i64 0)).setCell ⟨NT, 2, none⟩ (.slice none 0 0)) := ⟨_, rfl⟩
  have q0 := (Go.Joins.block_setCell (i := 2) (Go.Joins.block_setCell (i := 1) (Go.Joins.block_setCell (i := 0) HKx.out (.int .i64 0)) (.int .i64 0)) (.slice none 0 0))
  rw [← hW] at q0
  have z0 : W5.cell? ⟨NT, 0, none⟩ = some (.int .i64 0) := Go.Joins.cell_of_block q0 0
  have z1 : W5.cell? ⟨NT, 1, none⟩ = some (.int .i64 0) := Go.Joins.cell_of_block q0 1
  have z2 : W5.cell? ⟨NT, 2, none⟩ = some (.slice none 0 0) := Go.Joins.cell_of_block q0 2
  have B5 : Below w.heap.size w W5 := by
    have h1 := HNT.out
    rw [hW]
    exact ((HB.out.setCell (by simp; omega) _).setCell (by simp; omega) _).setCell (by simp; omega) _
  simp only [← hW]
  clear hW q0
  simp [bodyPost, results, Try.results37, go_sem, z0, z1, z2]
  exact B5

set_option maxHeartbeats 4000000 in
set_option maxRecDepth 8000 in
theorem specNo3 {w : World} {s r tm s0 : Int} {b : Nat} {v : Value} {zs : List Int} (h : Rd w b v zs) (hq : twoB s r zs = true) (ht : 0 ≤ tm ∧ tm ≤ 64) (hsd : ¬ (0 ≤ s0 ∧ s0 ≤ 4294967295)) :
    Calls Try.prog 36 #[ruleV s r v, .int .i64 tm, .int .i64 s0] w fun e w' => e = .returned (.tuple #[ruleV 0 0 (.slice none 0 0), .int .i64 0, .bool false]) ∧ Below w.heap.size w w' := by
  have HQ := hid hq
  have HT : Hid (decide (0 ≤ tm ∧ tm ≤ 64) = true) := decide_eq_true ht
  have HS : Hid (decide (0 ≤ s0 ∧ s0 ≤ 4294967295) = false) := decide_eq_false hsd
  clear hq ht hsd
  have HH := hid h
  obtain ⟨ao, c1, rfl, hc1, hm1, _⟩ := h
  have hm1' : zs.length ≤ c1 ∧ c1 ≤ 9223372036854775807 := by unfold maxLen at hm1; omega
  clear hc1 hm1
  go_enter Try.func36, Try.ntmps36
  go_wp2_with fail
  obtain ⟨w1, hW⟩ : ∃ w1, w1 = (w.alloc (Obj.cells #[.int .i64 s, .int .i64 r, .slice ao zs.length c1] 44)).alloc (Obj.cells #[.int .i64 0, .int .i64 0, .slice none 0 0] 44) := ⟨_, rfl⟩
  obtain ⟨N, hA⟩ : ∃ N, N = w.heap.size := ⟨_, rfl⟩
  obtain ⟨NT, hT⟩ : ∃ NT, NT = N + 1 := ⟨_, rfl⟩
  have st : Below w.heap.size w w1 ∧ w1.cell? ⟨N, 0, none⟩ = some (.int .i64 s) ∧ w1.cell? ⟨N, 1, none⟩ = some (.int .i64 r) ∧ w1.cell? ⟨N, 2, none⟩ = some (.slice ao zs.length c1) ∧ w.heap.size ≤ w1.heap.size := by
    rw [hW, hA]
    exact ⟨Go.Joins.below_alloc2 _ _ _, cell_keep (below1 _ _) (by simp), cell_keep (below1 _ _) (by simp), cell_keep (below1 _ _) (by simp), by simp <;> omega⟩
  have kT : w1.heap[NT]? = some (Obj.cells #[.int .i64 0, .int .i64 0, .slice none 0 0] 44) := by rw [hW]; exact FNew.heap_top (by rw [hT, hA]; simp)
  have HNT : Hid (w.heap.size ≤ NT) := by simp only [Hid]; omega
  simp only [← hW, ← hA, ← hT]
  clear hW hA hT
  go_at_call 65
  refine (Two.spec (HH.out.keep st.1 (Nat.le_refl _)) st.2.1 st.2.2.1 st.2.2.2.1).mono ?_
  rw [HQ.out]
  rintro e w2 ⟨rfl, hm2⟩
  have bel := Two.below_m hm2
  clear hm2
  replace st := next3_0 bel st
  replace kT := heap_keep bel kT
  clear bel
  go_wp2_with fail
  go_at_call 55
  refine (inB (lo := 0) (hi := 64)).mono ?_
  rw [HT.out]
  rintro e w4 ⟨rfl, rfl⟩
  go_wp2_with fail
  go_at_call 73
  refine (specSeed HS.out).mono ?_
  rintro e w5 ⟨rfl, rfl⟩
  have HB := hid st.1
  have y0 : w2.cell? ⟨NT, 0, none⟩ = some (.int .i64 0) := Go.Joins.cell_of_block kT 0
  have y1 : w2.cell? ⟨NT, 1, none⟩ = some (.int .i64 0) := Go.Joins.cell_of_block kT 1
  have y2 : w2.cell? ⟨NT, 2, none⟩ = some (.slice none 0 0) := Go.Joins.cell_of_block kT 2
  have g0 : w2.frozen? ⟨NT, 0, none⟩ = false := Go.Joins.unfrozen_of_block kT 0
  have g1 : w2.frozen? ⟨NT, 1, none⟩ = false := Go.Joins.unfrozen_of_block kT 1
  have g2 : w2.frozen? ⟨NT, 2, none⟩ = false := Go.Joins.unfrozen_of_block kT 2
  have HKx := hid kT
  clear kT
  go_wp2
  obtain ⟨W5, hW⟩ : ∃ W5, W5 = (((w2.setCell ⟨NT, 0, none⟩ (.int .i64 0)).setCell ⟨NT, 1, none⟩ (.int .i64 0)).setCell ⟨NT, 2, none⟩ (.slice none 0 0)) := ⟨_, rfl⟩
  have q0 := (Go.Joins.block_setCell (i := 2) (Go.Joins.block_setCell (i := 1) (Go.Joins.block_setCell (i := 0) HKx.out (.int .i64 0)) (.int .i64 0)) (.slice none 0 0))
  rw [← hW] at q0
  have z0 : W5.cell? ⟨NT, 0, none⟩ = some (.int .i64 0) := Go.Joins.cell_of_block q0 0
  have z1 : W5.cell? ⟨NT, 1, none⟩ = some (.int .i64 0) := Go.Joins.cell_of_block q0 1
  have z2 : W5.cell? ⟨NT, 2, none⟩ = some (.slice none 0 0) := Go.Joins.cell_of_block q0 2
  have B5 : Below w.heap.size w W5 := by
    have h1 := HNT.out
    rw [hW]
    exact ((HB.out.setCell (by simp; omega) _).setCell (by simp; omega) _).setCell (by simp; omega) _
  simp only [← hW]
  clear hW q0
  simp [bodyPost, results, Try.results36, go_sem, z0, z1, z2]
  exact B5

set_option maxHeartbeats 4000000 in
set_option maxRecDepth 8000 in
theorem implNo3 {w : World} {s r tm s0 : Int} {b : Nat} {v : Value} {zs : List Int} (h : Rd w b v zs) (hq : twoB s r zs = true) (ht : 0 ≤ tm ∧ tm ≤ 64) (hsd : ¬ (0 ≤ s0 ∧ s0 ≤ 4294967295)) :
    Calls Try.prog 37 #[ruleV s r v, .int .i64 tm, .int .i64 s0] w fun e w' => e = .returned (.tuple #[ruleV 0 0 (.slice none 0 0), .int .i64 0, .bool false]) ∧ Below w.heap.size w w' := by
  have HQ := hid hq
  have HT : Hid (decide (0 ≤ tm ∧ tm ≤ 64) = true) := decide_eq_true ht
  have HS : Hid (decide (0 ≤ s0 ∧ s0 ≤ 4294967295) = false) := decide_eq_false hsd
  clear hq ht hsd
  have HH := hid h
  obtain ⟨ao, c1, rfl, hc1, hm1, _⟩ := h
  have hm1' : zs.length ≤ c1 ∧ c1 ≤ 9223372036854775807 := by unfold maxLen at hm1; omega
  clear hc1 hm1
  go_enter Try.func37, Try.ntmps37
  go_wp2_with fail
  obtain ⟨w1, hW⟩ : ∃ w1, w1 = (w.alloc (Obj.cells #[.int .i64 s, .int .i64 r, .slice ao zs.length c1] 44)).alloc (Obj.cells #[.int .i64 0, .int .i64 0, .slice none 0 0] 44) := ⟨_, rfl⟩
  obtain ⟨N, hA⟩ : ∃ N, N = w.heap.size := ⟨_, rfl⟩
  obtain ⟨NT, hT⟩ : ∃ NT, NT = N + 1 := ⟨_, rfl⟩
  have st : Below w.heap.size w w1 ∧ w1.cell? ⟨N, 0, none⟩ = some (.int .i64 s) ∧ w1.cell? ⟨N, 1, none⟩ = some (.int .i64 r) ∧ w1.cell? ⟨N, 2, none⟩ = some (.slice ao zs.length c1) ∧ w.heap.size ≤ w1.heap.size := by
    rw [hW, hA]
    exact ⟨Go.Joins.below_alloc2 _ _ _, cell_keep (below1 _ _) (by simp), cell_keep (below1 _ _) (by simp), cell_keep (below1 _ _) (by simp), by simp <;> omega⟩
  have kT : w1.heap[NT]? = some (Obj.cells #[.int .i64 0, .int .i64 0, .slice none 0 0] 44) := by rw [hW]; exact FNew.heap_top (by rw [hT, hA]; simp)
  have HNT : Hid (w.heap.size ≤ NT) := by simp only [Hid]; omega
  simp only [← hW, ← hA, ← hT]
  clear hW hA hT
  go_at_call 67
  refine (Two.impl (HH.out.keep st.1 (Nat.le_refl _))).mono ?_
  rw [HQ.out]
  rintro e w2 ⟨rfl, bel⟩
  replace st := next3_0 bel st
  replace kT := heap_keep bel kT
  clear bel
  go_wp2_with fail
  go_at_call 58
  refine (isCountB (hi := 64)).mono ?_
  rw [HT.out]
  rintro e w4 ⟨rfl, rfl⟩
  go_wp2_with fail
  go_at_call 75
  refine (implSeed HS.out).mono ?_
  rintro e w5 ⟨rfl, rfl⟩
  have HB := hid st.1
  have y0 : w2.cell? ⟨NT, 0, none⟩ = some (.int .i64 0) := Go.Joins.cell_of_block kT 0
  have y1 : w2.cell? ⟨NT, 1, none⟩ = some (.int .i64 0) := Go.Joins.cell_of_block kT 1
  have y2 : w2.cell? ⟨NT, 2, none⟩ = some (.slice none 0 0) := Go.Joins.cell_of_block kT 2
  have g0 : w2.frozen? ⟨NT, 0, none⟩ = false := Go.Joins.unfrozen_of_block kT 0
  have g1 : w2.frozen? ⟨NT, 1, none⟩ = false := Go.Joins.unfrozen_of_block kT 1
  have g2 : w2.frozen? ⟨NT, 2, none⟩ = false := Go.Joins.unfrozen_of_block kT 2
  have HKx := hid kT
  clear kT
  go_wp2
  obtain ⟨W5, hW⟩ : ∃ W5, W5 = (((w2.setCell ⟨NT, 0, none⟩ (.int .i64 0)).setCell ⟨NT, 1, none⟩ (.int .i64 0)).setCell ⟨NT, 2, none⟩ (.slice none 0 0)) := ⟨_, rfl⟩
  have q0 := (Go.Joins.block_setCell (i := 2) (Go.Joins.block_setCell (i := 1) (Go.Joins.block_setCell (i := 0) HKx.out (.int .i64 0)) (.int .i64 0)) (.slice none 0 0))
  rw [← hW] at q0
  have z0 : W5.cell? ⟨NT, 0, none⟩ = some (.int .i64 0) := Go.Joins.cell_of_block q0 0
  have z1 : W5.cell? ⟨NT, 1, none⟩ = some (.int .i64 0) := Go.Joins.cell_of_block q0 1
  have z2 : W5.cell? ⟨NT, 2, none⟩ = some (.slice none 0 0) := Go.Joins.cell_of_block q0 2
  have B5 : Below w.heap.size w W5 := by
    have h1 := HNT.out
    rw [hW]
    exact ((HB.out.setCell (by simp; omega) _).setCell (by simp; omega) _).setCell (by simp; omega) _
  simp only [← hW]
  clear hW q0
  simp [bodyPost, results, Try.results37, go_sem, z0, z1, z2]
  exact B5

set_option maxHeartbeats 8000000 in
set_option maxRecDepth 8000 in
theorem l07Change {w : World} {s r s0 : Int} {N n S b : Nat} {v : Value} {zs : List Int} (d0 : w.cell? ⟨N, 0, none⟩ = some (.int .i64 s)) (d1 : w.cell? ⟨N, 1, none⟩ = some (.int .i64 r)) (d2 : w.cell? ⟨N, 2, none⟩ = some v) (h : Rd w b v zs) (hz : zs.length = n) (hn : n = 2 ∨ n = 8 ∨ n = 32) (ha : allB zs 2 = true) (hS : S ≤ 64) (hs : 0 ≤ s0 ∧ s0 ≤ 4294967295) :
    Calls Try.prog 74 #[.pointer (some ⟨N, 0, none⟩), .int .i64 S, .int .i64 s0] w fun e w' => ∃ b' k, e = .returned (.tuple #[ruleV s r (.slice (some ⟨b', 0, none⟩) n k), .int .i64 (seedAt s0 S)]) ∧ Own 2 w' b' (.slice (some ⟨b', 0, none⟩) n k) (chgL zs s0 n S) ∧ w.heap.size ≤ b' ∧ Below w.heap.size w w' := by
  have H2 := hid h
  have HZn := hid hz
  have HNv := hid hn
  have HAl := hid ha
  have HSd := hid hs
  have HZ : Hid (1 ≤ zs.length ∧ zs.length ≤ 1048576) := by simp only [Hid]; omega
  have HK := hid (And.intro d0 (And.intro d1 d2))
  have hn32 : 2 ≤ n ∧ n ≤ 32 := by omega
  clear h hz hn ha hs d0 d1 d2
  go_enter Try.func74, Try.ntmps74
  go_wp2_with fail
  obtain ⟨w1, hW⟩ : ∃ w1, w1 = w.alloc (Obj.cells #[.int .i64 0, .int .i64 0, .slice none 0 0] 44) := ⟨_, rfl⟩
  obtain ⟨NT, hT⟩ : ∃ NT, NT = w.heap.size := ⟨_, rfl⟩
  have bw : Below w.heap.size w w1 := by rw [hW]; exact below1 _ _
  have kT : w1.heap[NT]? = some (Obj.cells #[.int .i64 0, .int .i64 0, .slice none 0 0] 44) := by rw [hW]; exact FNew.heap_top hT
  have HNT : Hid (w.heap.size ≤ NT) := by simp only [Hid]; omega
  simp only [← hW, ← hT]
  clear hW hT
  go_at_call 108
  refine (ROwn.l02Own (cell_keep bw HK.out.1) (cell_keep bw HK.out.2.1) (cell_keep bw HK.out.2.2) (H2.out.keep bw (Nat.le_refl _)) HZ.out).mono ?_
  rw [HZn.out]
  rintro e w2 ⟨b0, k, rfl, ow, lo, hk1, hk2, bel⟩
  have HNTb : Hid (NT ≠ b0) := Nat.ne_of_lt (Nat.lt_of_lt_of_le (heap_lt kT) lo)
  have HLO : Hid (w.heap.size ≤ b0) := Nat.le_trans bw.size lo
  have HkN : Hid (n ≤ k ∧ k ≤ 9223372036854775807) := by simp only [Hid]; have := HZn.out; unfold maxLen at hk2; omega
  replace kT := heap_keep bel kT
  have HB2 := hid (bw.trans (bel.mono bw.size))
  have HOW := hid ow
  have HKT := hid kT
  clear bel bw lo ow kT hk1 hk2
  go_wp2_with fail
  obtain ⟨w4, hW⟩ : ∃ w4, w4 = w2.alloc (Obj.cells #[.int .i64 s, .int .i64 r, .slice (some ⟨b0, 0, none⟩) n k] 44) := ⟨_, rfl⟩
  obtain ⟨NO, hN⟩ : ∃ NO, NO = w2.heap.size := ⟨_, rfl⟩
  have bel : Below w2.heap.size w2 w4 := by rw [hW]; exact below1 _ _
  have HKO : Hid (w4.heap[NO]? = some (Obj.cells #[.int .i64 s, .int .i64 r, .slice (some ⟨b0, 0, none⟩) n k] 44)) := by simp only [Hid]; rw [hW]; exact FNew.heap_top hN
  have HOb : Hid (NO ≠ b0) := by simp only [Hid]; rw [hN]; exact Nat.ne_of_gt HOW.out.lt
  have HKT4 := hid (heap_keep bel HKT.out)
  have HOW4 := hid (HOW.out.keep bel)
  have HB4 := hid (HB2.out.trans (bel.mono HB2.out.size))
  simp only [← hW, ← hN]
  clear hW hN bel HKT HOW HB2
  have hkk : n ≤ k ∧ k ≤ 9223372036854775807 := HkN.out
  go_loopw [1, 2] (fun t q wr => ∃ j : Nat, j ≤ S ∧ t = .int .i64 ((S - j : Nat) : Int) ∧ q = .int .i64 (seedAt s0 j) ∧ Own 2 wr b0 (.slice (some ⟨b0, 0, none⟩) n k) (chgL zs s0 n j) ∧ w4.grownBy wr (some b0)) (fun t _ _ => (intOf t).toNat)
  case atStart => exact ⟨0, Nat.zero_le _, by simp, rfl, HOW4.out, g_refl _ _⟩
  case round =>
    clear HOW4
    obtain ⟨j, hj, rfl, rfl, hown, hg⟩ := hrel
    obtain ⟨D, hD⟩ : ∃ D, D = S - j := ⟨_, rfl⟩
    have HD := hid hD
    rw [← hD]
    have hD5 : D ≤ 64 := by omega
    by_cases hlt : 0 < D
    · have hjS : j < S := by omega
      clear hD
      have c0 := g_cell hg (Go.Joins.cell_of_block HKO.out 0) HOb.out
      have c1' := g_cell hg (Go.Joins.cell_of_block HKO.out 1) HOb.out
      have c2 := g_cell hg (Go.Joins.cell_of_block HKO.out 2) HOb.out
      have hlen : (chgL zs s0 n j).length = n := by rw [chg_len]; exact HZn.out
      have hb := seedAt_bd s0 HSd.out j
      have hb2 := seedAt_bd s0 HSd.out (j + 1)
      obtain ⟨hT1, hT2⟩ := at_lt HSd.out HNv.out j
      have hm := mul_wrap hb2 HNv.out
      have hnx : nxt (seedAt s0 j) = seedAt s0 (j + 1) := rfl
      obtain ⟨S1, hS1⟩ : ∃ S1, S1 = seedAt s0 j := ⟨_, rfl⟩
      obtain ⟨S2, hS2⟩ : ∃ S2, S2 = seedAt s0 (j + 1) := ⟨_, rfl⟩
      obtain ⟨T, hT⟩ : ∃ T, T = chgAt s0 n j := ⟨_, rfl⟩
      rw [← hT] at hT1 hT2
      rw [← hS1] at hb hnx ⊢
      rw [← hS2] at hb2 hT2 hm hnx
      obtain ⟨e1, hM0⟩ := hm
      obtain ⟨M, hM⟩ : ∃ M, M = S2 * (n : Int) := ⟨_, rfl⟩
      rw [← hM] at e1 hM0 hT2
      have e0 : S2 * (n : Int) = M := hM.symm
      have e2 : M.tdiv 4294967296 = (T : Int) := by rw [Int.tdiv_eq_ediv_of_nonneg hM0]; exact hT2.symm
      have hTn : (T : Int) < (n : Int) := by omega
      have e3 : wrap64 (T : Int) = (T : Int) := wrap_id (by omega) (by have := HNv.out; omega)
      have hxb := chg_bd HAl.out s0 n j T
      obtain ⟨x, hx⟩ : ∃ x, x = (chgL zs s0 n j).getD T 0 := ⟨_, rfl⟩
      have hox := hown.cell (i := T) (by rw [hlen]; exact hT1)
      rw [← hx] at hxb hox
      have e4 : wrap64 (1 - x) = 1 - x := wrap_id (by omega) (by omega)
      obtain ⟨y, hy⟩ : ∃ y, y = 1 - x := ⟨_, rfl⟩
      rw [← hy] at e4
      have e5 : 1 - x = y := hy.symm
      have E1 : wrap64 ((wrap64 (S2 * (n : Int))).tdiv 4294967296) = (T : Int) := by rw [e0, e1, e2, e3]
      clear e0 e1 e2 e3
      have hof := hown.free T
      have HO2 := hid hown
      have HG2 := hid hg
      have HB1 := hid hb
      have HNX := hid hnx
      have HT := hid (And.intro hT (And.intro hx (And.intro hy hS2)))
      clear hown hg hb hb2 hM0 hT2 hT hnx hS1 hS2 hM hx hy hlen hxb
      go_wp2_with fail
      go_at_call 113
      refine (specNext HB1.out).mono ?_
      rw [HNX.out]
      rintro e wx ⟨rfl, rfl⟩
      go_wp2_with fail
      go_still_tail 10, (by kernel_rfl)
      change wpList _ _ _ _ _ wr.drew
      have hoxd : wr.drew.cell? ⟨b0, T, none⟩ = some (.int .i64 x) := hox
      have hofd : wr.drew.frozen? ⟨b0, T, none⟩ = false := hof
      obtain ⟨wd, hwd⟩ : ∃ wd, wd = wr.drew := ⟨_, rfl⟩
      have HG3 : Hid (w4.grownBy wd (some b0)) := by rw [hwd]; exact g_drew HG2.out
      have HO3 : Hid (Own 2 wd b0 (.slice (some ⟨b0, 0, none⟩) n k) (chgL zs s0 n j)) := by rw [hwd]; exact HO2.out
      rw [← hwd] at hoxd hofd ⊢
      clear hwd hox hof c0 c1' c2
      go_wp2
      go_roundw
      case rel =>
        refine ⟨j + 1, by omega, ?_, by rw [HT.out.2.2.2], ?_, g_set HG3.out T _⟩
        · rw [show ((S - (j + 1) : Nat) : Int) = (D : Int) - 1 by have := HD.out; omega]
        · simp only [chgL]
          rw [← HT.out.1, ← HT.out.2.1, ← HT.out.2.2.1]
          exact HO3.out.set T y
      case measure => simp [intOf]; omega
    · have hj2 : j = S := by omega
      subst hj2
      have hD0 : D = 0 := by omega
      subst hD0
      have c0 := g_cell hg (Go.Joins.cell_of_block HKO.out 0) HOb.out
      have c1 := g_cell hg (Go.Joins.cell_of_block HKO.out 1) HOb.out
      have c2 := g_cell hg (Go.Joins.cell_of_block HKO.out 2) HOb.out
      have kTr := g_heap hg HKT4.out HNTb.out
      have HB := hid (g_below HB4.out hg HLO.out)
      have HLo := HLO
      have HNB := HNTb
      have HO := hid hown
      obtain ⟨S2, hS2⟩ : ∃ S2, S2 = seedAt s0 j := ⟨_, rfl⟩
      rw [← hS2]
      have HS2 := hid hS2
      clear hown hg hlt hS2 HD hD
      have y0 : wr.cell? ⟨NT, 0, none⟩ = some (.int .i64 0) := Go.Joins.cell_of_block kTr 0
      have y1 : wr.cell? ⟨NT, 1, none⟩ = some (.int .i64 0) := Go.Joins.cell_of_block kTr 1
      have y2 : wr.cell? ⟨NT, 2, none⟩ = some (.slice none 0 0) := Go.Joins.cell_of_block kTr 2
      have g0 : wr.frozen? ⟨NT, 0, none⟩ = false := Go.Joins.unfrozen_of_block kTr 0
      have g1 : wr.frozen? ⟨NT, 1, none⟩ = false := Go.Joins.unfrozen_of_block kTr 1
      have g2 : wr.frozen? ⟨NT, 2, none⟩ = false := Go.Joins.unfrozen_of_block kTr 2
      have HKx := hid kTr
      clear kTr
      go_wp2
      obtain ⟨W5, hW⟩ : ∃ W5, W5 = (((wr.setCell ⟨NT, 0, none⟩ (.int .i64 s)).setCell ⟨NT, 1, none⟩ (.int .i64 r)).setCell ⟨NT, 2, none⟩ (.slice (some ⟨b0, 0, none⟩) n k)) := ⟨_, rfl⟩
      have q0 := (Go.Joins.block_setCell (i := 2) (Go.Joins.block_setCell (i := 1) (Go.Joins.block_setCell (i := 0) HKx.out (.int .i64 s)) (.int .i64 r)) (.slice (some ⟨b0, 0, none⟩) n k))
      rw [← hW] at q0
      have z0 : W5.cell? ⟨NT, 0, none⟩ = some (.int .i64 s) := Go.Joins.cell_of_block q0 0
      have z1 : W5.cell? ⟨NT, 1, none⟩ = some (.int .i64 r) := Go.Joins.cell_of_block q0 1
      have z2 : W5.cell? ⟨NT, 2, none⟩ = some (.slice (some ⟨b0, 0, none⟩) n k) := Go.Joins.cell_of_block q0 2
      have O5 := (own_set (own_set (own_set HO.out ⟨NT, 0, none⟩ (.int .i64 s) HNB.out) ⟨NT, 1, none⟩ (.int .i64 r) HNB.out) ⟨NT, 2, none⟩ (.slice (some ⟨b0, 0, none⟩) n k) HNB.out)
      rw [← hW] at O5
      have B5 : Below w.heap.size w W5 := by
        have h1 := HNT.out
        rw [hW]
        exact ((HB.out.setCell (by simp; omega) _).setCell (by simp; omega) _).setCell (by simp; omega) _
      simp only [← hW]
      clear hW q0
      simp [bodyPost, results, Try.results74, go_sem, z0, z1, z2]
      exact ⟨b0, k, ⟨⟨rfl, rfl⟩, HS2.out⟩, O5, HLo.out, B5⟩

set_option maxHeartbeats 8000000 in
set_option maxRecDepth 8000 in
theorem specOk {w : World} {s r s0 : Int} {n S : Nat} {b : Nat} {v : Value} {zs : List Int} (h : Rd w b v zs) (hq : twoB s r zs = true) (hS : S ≤ 64) (hs : 0 ≤ s0 ∧ s0 ≤ 4294967295) (hzn : zs.length = n) :
    Calls Try.prog 36 #[ruleV s r v, .int .i64 S, .int .i64 s0] w fun e w' => ∃ b' k, e = .returned (.tuple #[ruleV s r (.slice (some ⟨b', 0, none⟩) n k), .int .i64 (seedAt s0 S), .bool true]) ∧ Own 2 w' b' (.slice (some ⟨b', 0, none⟩) n k) (chgL zs s0 n S) ∧ w.heap.size ≤ b' ∧ Below w.heap.size w w' := by
  have HQ := hid hq
  have h1p := two_parts hq
  have HZn : Hid (zs.length = n) := hzn
  have HNv : Hid (n = 2 ∨ n = 8 ∨ n = 32) := by simp only [Hid]; have := h1p.2.2.1; omega
  have HAl : Hid (allB zs 2 = true) := h1p.2.2.2.2
  have HSd := hid hs
  have HSS := hid hS
  have hn32 : 2 ≤ n ∧ n ≤ 32 := by have := HNv.out; omega
  have HZ : Hid (1 ≤ zs.length ∧ zs.length ≤ 1048576) := by simp only [Hid]; omega
  have HT : Hid (decide (0 ≤ (S : Int) ∧ (S : Int) ≤ 64) = true) := decide_eq_true (by omega)
  have HS : Hid (decide (0 ≤ s0 ∧ s0 ≤ 4294967295) = true) := decide_eq_true hs
  clear hq h1p hs hzn
  have HH := hid h
  obtain ⟨ao, c1, rfl, hc1, hm1, _⟩ := h
  have hm1' : zs.length ≤ c1 ∧ c1 ≤ 9223372036854775807 := by unfold maxLen at hm1; omega
  clear hc1 hm1
  go_enter Try.func36, Try.ntmps36
  go_wp2_with fail
  obtain ⟨w1, hW⟩ : ∃ w1, w1 = (w.alloc (Obj.cells #[.int .i64 s, .int .i64 r, .slice ao zs.length c1] 44)).alloc (Obj.cells #[.int .i64 0, .int .i64 0, .slice none 0 0] 44) := ⟨_, rfl⟩
  obtain ⟨N, hA⟩ : ∃ N, N = w.heap.size := ⟨_, rfl⟩
  obtain ⟨NT, hT⟩ : ∃ NT, NT = N + 1 := ⟨_, rfl⟩
  have st : Below w.heap.size w w1 ∧ w1.cell? ⟨N, 0, none⟩ = some (.int .i64 s) ∧ w1.cell? ⟨N, 1, none⟩ = some (.int .i64 r) ∧ w1.cell? ⟨N, 2, none⟩ = some (.slice ao zs.length c1) ∧ w.heap.size ≤ w1.heap.size := by
    rw [hW, hA]
    exact ⟨Go.Joins.below_alloc2 _ _ _, cell_keep (below1 _ _) (by simp), cell_keep (below1 _ _) (by simp), cell_keep (below1 _ _) (by simp), by simp <;> omega⟩
  have kT : w1.heap[NT]? = some (Obj.cells #[.int .i64 0, .int .i64 0, .slice none 0 0] 44) := by rw [hW]; exact FNew.heap_top (by rw [hT, hA]; simp)
  have HNT : Hid (w.heap.size ≤ NT) := by simp only [Hid]; omega
  simp only [← hW, ← hA, ← hT]
  clear hW hA hT
  go_at_call 65
  refine (Two.spec (HH.out.keep st.1 (Nat.le_refl _)) st.2.1 st.2.2.1 st.2.2.2.1).mono ?_
  rw [HQ.out]
  rintro e w2 ⟨rfl, hm2⟩
  have bel := Two.below_m hm2
  clear hm2
  replace st := next3_0 bel st
  replace kT := heap_keep bel kT
  clear bel
  go_wp2_with fail
  go_at_call 55
  refine (inB (lo := 0) (hi := 64)).mono ?_
  rw [HT.out]
  rintro e w4 ⟨rfl, rfl⟩
  go_wp2_with fail
  go_at_call 73
  refine (specSeed HS.out).mono ?_
  rintro e w5 ⟨rfl, rfl⟩
  go_wp2_with fail
  go_at_call 74
  refine (l07Change st.2.1 st.2.2.1 st.2.2.2.1 (HH.out.keep st.1 (Nat.le_refl _)) HZn.out HNv.out HAl.out HSS.out HSd.out).mono ?_
  rintro e w6 ⟨b0, k, rfl, ow, lo, bel⟩
  have HLo : Hid (w.heap.size ≤ b0) := Nat.le_trans st.1.size lo
  have HNTb : Hid (NT ≠ b0) := Nat.ne_of_lt (Nat.lt_of_lt_of_le (heap_lt kT) lo)
  replace kT := heap_keep bel kT
  have HB6 := hid (st.1.trans (bel.mono st.1.size))
  have HOW := hid ow
  clear bel ow lo st
  obtain ⟨w7, hW⟩ : ∃ w7, w7 = w6.alloc (Obj.cells #[.int .i64 s, .int .i64 r, .slice (some ⟨b0, 0, none⟩) n k] 44) := ⟨_, rfl⟩
  obtain ⟨NO, hN⟩ : ∃ NO, NO = w6.heap.size := ⟨_, rfl⟩
  have bel : Below w6.heap.size w6 w7 := by rw [hW]; exact below1 _ _
  have f0 : w7.cell? ⟨NO, 0, none⟩ = some (.int .i64 s) := by rw [hW, hN]; simp
  have f1 : w7.cell? ⟨NO, 1, none⟩ = some (.int .i64 r) := by rw [hW, hN]; simp
  have f2 : w7.cell? ⟨NO, 2, none⟩ = some (.slice (some ⟨b0, 0, none⟩) n k) := by rw [hW, hN]; simp
  replace kT := heap_keep bel kT
  have HB := hid (HB6.out.trans (bel.mono HB6.out.size))
  have HO := hid (HOW.out.keep bel)
  have HNB := HNTb
  have kTz := kT
  have y0 : w7.cell? ⟨NT, 0, none⟩ = some (.int .i64 0) := Go.Joins.cell_of_block kT 0
  have y1 : w7.cell? ⟨NT, 1, none⟩ = some (.int .i64 0) := Go.Joins.cell_of_block kT 1
  have y2 : w7.cell? ⟨NT, 2, none⟩ = some (.slice none 0 0) := Go.Joins.cell_of_block kT 2
  have g0 : w7.frozen? ⟨NT, 0, none⟩ = false := Go.Joins.unfrozen_of_block kT 0
  have g1 : w7.frozen? ⟨NT, 1, none⟩ = false := Go.Joins.unfrozen_of_block kT 1
  have g2 : w7.frozen? ⟨NT, 2, none⟩ = false := Go.Joins.unfrozen_of_block kT 2
  have HKx := hid kT
  obtain ⟨S2, hS2⟩ : ∃ S2, S2 = seedAt s0 S := ⟨_, rfl⟩
  rw [← hS2]
  have HS2 := hid hS2
  clear kT kTz bel HB6 HOW hS2
  rw [hW, hN] at f0 f1 f2
  rw [hW] at y0 y1 y2 g0 g1 g2
  go_wp2
  simp only [← hW, ← hN]
  clear f0 f1 f2 y0 y1 y2 g0 g1 g2
  clear hW hN
  obtain ⟨W5, hW⟩ : ∃ W5, W5 = (((w7.setCell ⟨NT, 0, none⟩ (.int .i64 s)).setCell ⟨NT, 1, none⟩ (.int .i64 r)).setCell ⟨NT, 2, none⟩ (.slice (some ⟨b0, 0, none⟩) n k)) := ⟨_, rfl⟩
  have q0 := (Go.Joins.block_setCell (i := 2) (Go.Joins.block_setCell (i := 1) (Go.Joins.block_setCell (i := 0) HKx.out (.int .i64 s)) (.int .i64 r)) (.slice (some ⟨b0, 0, none⟩) n k))
  rw [← hW] at q0
  have z0 : W5.cell? ⟨NT, 0, none⟩ = some (.int .i64 s) := Go.Joins.cell_of_block q0 0
  have z1 : W5.cell? ⟨NT, 1, none⟩ = some (.int .i64 r) := Go.Joins.cell_of_block q0 1
  have z2 : W5.cell? ⟨NT, 2, none⟩ = some (.slice (some ⟨b0, 0, none⟩) n k) := Go.Joins.cell_of_block q0 2
  have O5 := (own_set (own_set (own_set HO.out ⟨NT, 0, none⟩ (.int .i64 s) HNB.out) ⟨NT, 1, none⟩ (.int .i64 r) HNB.out) ⟨NT, 2, none⟩ (.slice (some ⟨b0, 0, none⟩) n k) HNB.out)
  rw [← hW] at O5
  have B5 : Below w.heap.size w W5 := by
    have h1 := HNT.out
    rw [hW]
    exact ((HB.out.setCell (by simp; omega) _).setCell (by simp; omega) _).setCell (by simp; omega) _
  simp only [← hW]
  clear hW q0
  simp [bodyPost, results, Try.results36, go_sem, z0, z1, z2]
  exact ⟨b0, k, ⟨⟨rfl, rfl⟩, HS2.out⟩, O5, HLo.out, B5⟩

set_option maxHeartbeats 8000000 in
set_option maxRecDepth 8000 in
theorem implOk {w : World} {s r s0 : Int} {n S : Nat} {b : Nat} {v : Value} {zs : List Int} (h : Rd w b v zs) (hq : twoB s r zs = true) (hS : S ≤ 64) (hs : 0 ≤ s0 ∧ s0 ≤ 4294967295) (hzn : zs.length = n) :
    Calls Try.prog 37 #[ruleV s r v, .int .i64 S, .int .i64 s0] w fun e w' => ∃ b' k, e = .returned (.tuple #[ruleV s r (.slice (some ⟨b', 0, none⟩) n k), .int .i64 (seedAt s0 S), .bool true]) ∧ Own 2 w' b' (.slice (some ⟨b', 0, none⟩) n k) (chgL zs s0 n S) ∧ w.heap.size ≤ b' ∧ Below w.heap.size w w' := by
  have HQ := hid hq
  have h1p := two_parts hq
  have HZn : Hid (zs.length = n) := hzn
  have HNv : Hid (n = 2 ∨ n = 8 ∨ n = 32) := by simp only [Hid]; have := h1p.2.2.1; omega
  have HAl : Hid (allB zs 2 = true) := h1p.2.2.2.2
  have HSd := hid hs
  have HSS := hid hS
  have hn32 : 2 ≤ n ∧ n ≤ 32 := by have := HNv.out; omega
  have HZ : Hid (1 ≤ zs.length ∧ zs.length ≤ 1048576) := by simp only [Hid]; omega
  have HT : Hid (decide (0 ≤ (S : Int) ∧ (S : Int) ≤ 64) = true) := decide_eq_true (by omega)
  have HS : Hid (decide (0 ≤ s0 ∧ s0 ≤ 4294967295) = true) := decide_eq_true hs
  clear hq h1p hs hzn
  have HH := hid h
  obtain ⟨ao, c1, rfl, hc1, hm1, _⟩ := h
  have hm1' : zs.length ≤ c1 ∧ c1 ≤ 9223372036854775807 := by unfold maxLen at hm1; omega
  clear hc1 hm1
  go_enter Try.func37, Try.ntmps37
  go_wp2_with fail
  obtain ⟨w1, hW⟩ : ∃ w1, w1 = (w.alloc (Obj.cells #[.int .i64 s, .int .i64 r, .slice ao zs.length c1] 44)).alloc (Obj.cells #[.int .i64 0, .int .i64 0, .slice none 0 0] 44) := ⟨_, rfl⟩
  obtain ⟨N, hA⟩ : ∃ N, N = w.heap.size := ⟨_, rfl⟩
  obtain ⟨NT, hT⟩ : ∃ NT, NT = N + 1 := ⟨_, rfl⟩
  have st : Below w.heap.size w w1 ∧ w1.cell? ⟨N, 0, none⟩ = some (.int .i64 s) ∧ w1.cell? ⟨N, 1, none⟩ = some (.int .i64 r) ∧ w1.cell? ⟨N, 2, none⟩ = some (.slice ao zs.length c1) ∧ w.heap.size ≤ w1.heap.size := by
    rw [hW, hA]
    exact ⟨Go.Joins.below_alloc2 _ _ _, cell_keep (below1 _ _) (by simp), cell_keep (below1 _ _) (by simp), cell_keep (below1 _ _) (by simp), by simp <;> omega⟩
  have kT : w1.heap[NT]? = some (Obj.cells #[.int .i64 0, .int .i64 0, .slice none 0 0] 44) := by rw [hW]; exact FNew.heap_top (by rw [hT, hA]; simp)
  have HNT : Hid (w.heap.size ≤ NT) := by simp only [Hid]; omega
  simp only [← hW, ← hA, ← hT]
  clear hW hA hT
  go_at_call 67
  refine (Two.impl (HH.out.keep st.1 (Nat.le_refl _))).mono ?_
  rw [HQ.out]
  rintro e w2 ⟨rfl, bel⟩
  replace st := next3_0 bel st
  replace kT := heap_keep bel kT
  clear bel
  go_wp2_with fail
  go_at_call 58
  refine (isCountB (hi := 64)).mono ?_
  rw [HT.out]
  rintro e w4 ⟨rfl, rfl⟩
  go_wp2_with fail
  go_at_call 75
  refine (implSeed HS.out).mono ?_
  rintro e w5 ⟨rfl, rfl⟩
  go_wp2_with fail
  go_at_call 71
  refine (RCopy.copyOfRule (HH.out.keep st.1 (Nat.le_refl _)) HZ.out).mono ?_
  rw [HZn.out]
  rintro e w6 ⟨b0, k, rfl, ow, lo, hk1, hk2, bel⟩
  have HNTb : Hid (NT ≠ b0) := Nat.ne_of_lt (Nat.lt_of_lt_of_le (heap_lt kT) lo)
  have HLO : Hid (w.heap.size ≤ b0) := Nat.le_trans st.1.size lo
  have HkN : Hid (n ≤ k ∧ k ≤ 9223372036854775807) := by simp only [Hid]; unfold maxLen at hk2; omega
  replace kT := heap_keep bel kT
  have HB2 := hid (st.1.trans (bel.mono st.1.size))
  have HOW := hid ow
  have HKT := hid kT
  clear bel lo ow kT hk1 hk2 st
  go_wp2_with fail
  obtain ⟨w4, hW⟩ : ∃ w4, w4 = w6.alloc (Obj.cells #[.int .i64 s, .int .i64 r, .slice (some ⟨b0, 0, none⟩) n k] 44) := ⟨_, rfl⟩
  obtain ⟨NO, hN⟩ : ∃ NO, NO = w6.heap.size := ⟨_, rfl⟩
  have bel : Below w6.heap.size w6 w4 := by rw [hW]; exact below1 _ _
  have HKO : Hid (w4.heap[NO]? = some (Obj.cells #[.int .i64 s, .int .i64 r, .slice (some ⟨b0, 0, none⟩) n k] 44)) := by simp only [Hid]; rw [hW]; exact FNew.heap_top hN
  have HOb : Hid (NO ≠ b0) := by simp only [Hid]; rw [hN]; exact Nat.ne_of_gt HOW.out.lt
  have HKT4 := hid (heap_keep bel HKT.out)
  have HOW4 := hid (HOW.out.keep bel)
  have HB4 := hid (HB2.out.trans (bel.mono HB2.out.size))
  simp only [← hW, ← hN]
  clear hW hN bel HKT HOW HB2
  have hkk : n ≤ k ∧ k ≤ 9223372036854775807 := HkN.out
  go_loopw [2, 28] (fun q t wr => ∃ j : Nat, j ≤ S ∧ t = .int .i64 (j : Int) ∧ q = .int .i64 (seedAt s0 j) ∧ Own 2 wr b0 (.slice (some ⟨b0, 0, none⟩) n k) (chgL zs s0 n j) ∧ w4.grownBy wr (some b0)) (fun _ t _ => S - (intOf t).toNat)
  case atStart => exact ⟨0, Nat.zero_le _, rfl, rfl, HOW4.out, g_refl _ _⟩
  case round =>
    clear HOW4
    obtain ⟨j, hj, rfl, rfl, hown, hg⟩ := hrel
    by_cases hlt : j < S
    · have hji : (j : Int) < (S : Int) := by omega
      have c0 := g_cell hg (Go.Joins.cell_of_block HKO.out 0) HOb.out
      have c1' := g_cell hg (Go.Joins.cell_of_block HKO.out 1) HOb.out
      have c2 := g_cell hg (Go.Joins.cell_of_block HKO.out 2) HOb.out
      have hlen : (chgL zs s0 n j).length = n := by rw [chg_len]; exact HZn.out
      have hb := seedAt_bd s0 HSd.out j
      have hb2 := seedAt_bd s0 HSd.out (j + 1)
      obtain ⟨hT1, hT2⟩ := at_lt HSd.out HNv.out j
      have hm := mul_wrap hb2 HNv.out
      have hnx : nxt (seedAt s0 j) = seedAt s0 (j + 1) := rfl
      obtain ⟨S1, hS1⟩ : ∃ S1, S1 = seedAt s0 j := ⟨_, rfl⟩
      obtain ⟨S2, hS2⟩ : ∃ S2, S2 = seedAt s0 (j + 1) := ⟨_, rfl⟩
      obtain ⟨T, hT⟩ : ∃ T, T = chgAt s0 n j := ⟨_, rfl⟩
      rw [← hT] at hT1 hT2
      rw [← hS1] at hb hnx ⊢
      rw [← hS2] at hb2 hT2 hm hnx
      obtain ⟨e1, hM0⟩ := hm
      obtain ⟨M, hM⟩ : ∃ M, M = S2 * (n : Int) := ⟨_, rfl⟩
      rw [← hM] at e1 hM0 hT2
      have e0 : S2 * (n : Int) = M := hM.symm
      have e2 : M.tdiv 4294967296 = (T : Int) := by rw [Int.tdiv_eq_ediv_of_nonneg hM0]; exact hT2.symm
      have hTn : (T : Int) < (n : Int) := by omega
      have e3 : wrap64 (T : Int) = (T : Int) := wrap_id (by omega) (by have := HNv.out; omega)
      have hxb := chg_bd HAl.out s0 n j T
      obtain ⟨x, hx⟩ : ∃ x, x = (chgL zs s0 n j).getD T 0 := ⟨_, rfl⟩
      have hox := hown.cell (i := T) (by rw [hlen]; exact hT1)
      rw [← hx] at hxb hox
      have e4 : wrap64 (1 - x) = 1 - x := wrap_id (by omega) (by omega)
      obtain ⟨y, hy⟩ : ∃ y, y = 1 - x := ⟨_, rfl⟩
      rw [← hy] at e4
      have e5 : 1 - x = y := hy.symm
      have E1 : wrap64 ((wrap64 (S2 * (n : Int))).tdiv 4294967296) = (T : Int) := by rw [e0, e1, e2, e3]
      clear e0 e1 e2 e3
      have hof := hown.free T
      have HO2 := hid hown
      have HG2 := hid hg
      have HB1 := hid hb
      have HNX := hid hnx
      have HT := hid (And.intro hT (And.intro hx (And.intro hy hS2)))
      clear hown hg hb hb2 hM0 hT2 hT hnx hS1 hS2 hM hx hy hlen hxb
      go_wp2_with fail
      go_at_call 76
      refine (implNext HB1.out).mono ?_
      rw [HNX.out]
      rintro e wx ⟨rfl, rfl⟩
      have HG3 := HG2
      have HO3 := HO2
      go_wp2
      go_roundw
      case rel =>
        refine ⟨j + 1, by omega, ?_, by rw [HT.out.2.2.2], ?_, g_set HG3.out T _⟩
        · go_num
        · simp only [chgL]
          rw [← HT.out.1, ← HT.out.2.1, ← HT.out.2.2.1]
          exact HO3.out.set T y
      case measure => simp [intOf]; omega
    · have hj2 : j = S := by omega
      subst hj2
      have c0 := g_cell hg (Go.Joins.cell_of_block HKO.out 0) HOb.out
      have c1 := g_cell hg (Go.Joins.cell_of_block HKO.out 1) HOb.out
      have c2 := g_cell hg (Go.Joins.cell_of_block HKO.out 2) HOb.out
      have kTr := g_heap hg HKT4.out HNTb.out
      have HB := hid (g_below HB4.out hg HLO.out)
      have HLo := HLO
      have HNB := HNTb
      have HO := hid hown
      obtain ⟨S2, hS2⟩ : ∃ S2, S2 = seedAt s0 j := ⟨_, rfl⟩
      rw [← hS2]
      have HS2 := hid hS2
      clear hown hg hlt hS2
      have y0 : wr.cell? ⟨NT, 0, none⟩ = some (.int .i64 0) := Go.Joins.cell_of_block kTr 0
      have y1 : wr.cell? ⟨NT, 1, none⟩ = some (.int .i64 0) := Go.Joins.cell_of_block kTr 1
      have y2 : wr.cell? ⟨NT, 2, none⟩ = some (.slice none 0 0) := Go.Joins.cell_of_block kTr 2
      have g0 : wr.frozen? ⟨NT, 0, none⟩ = false := Go.Joins.unfrozen_of_block kTr 0
      have g1 : wr.frozen? ⟨NT, 1, none⟩ = false := Go.Joins.unfrozen_of_block kTr 1
      have g2 : wr.frozen? ⟨NT, 2, none⟩ = false := Go.Joins.unfrozen_of_block kTr 2
      have HKx := hid kTr
      clear kTr
      go_wp2
      obtain ⟨W5, hW⟩ : ∃ W5, W5 = (((wr.setCell ⟨NT, 0, none⟩ (.int .i64 s)).setCell ⟨NT, 1, none⟩ (.int .i64 r)).setCell ⟨NT, 2, none⟩ (.slice (some ⟨b0, 0, none⟩) n k)) := ⟨_, rfl⟩
      have q0 := (Go.Joins.block_setCell (i := 2) (Go.Joins.block_setCell (i := 1) (Go.Joins.block_setCell (i := 0) HKx.out (.int .i64 s)) (.int .i64 r)) (.slice (some ⟨b0, 0, none⟩) n k))
      rw [← hW] at q0
      have z0 : W5.cell? ⟨NT, 0, none⟩ = some (.int .i64 s) := Go.Joins.cell_of_block q0 0
      have z1 : W5.cell? ⟨NT, 1, none⟩ = some (.int .i64 r) := Go.Joins.cell_of_block q0 1
      have z2 : W5.cell? ⟨NT, 2, none⟩ = some (.slice (some ⟨b0, 0, none⟩) n k) := Go.Joins.cell_of_block q0 2
      have O5 := (own_set (own_set (own_set HO.out ⟨NT, 0, none⟩ (.int .i64 s) HNB.out) ⟨NT, 1, none⟩ (.int .i64 r) HNB.out) ⟨NT, 2, none⟩ (.slice (some ⟨b0, 0, none⟩) n k) HNB.out)
      rw [← hW] at O5
      have B5 : Below w.heap.size w W5 := by
        have h1 := HNT.out
        rw [hW]
        exact ((HB.out.setCell (by simp; omega) _).setCell (by simp; omega) _).setCell (by simp; omega) _
      simp only [← hW]
      clear hW q0
      simp [bodyPost, results, Try.results37, go_sem, z0, z1, z2]
      exact ⟨b0, k, ⟨⟨rfl, rfl⟩, HS2.out⟩, O5, HLo.out, B5⟩

theorem agree (s r : Int) (zs : List Int) (tm s0 : Int) : ∃ (qs qr : Int) (rs : List Int) (q1 : Int) (ok : Bool), rs.length ≤ 1000000 ∧
    (∀ (w : World) (b : Nat) (v : Value), Rd w b v zs → Calls Try.prog 36 #[ruleV s r v, .int .i64 tm, .int .i64 s0] w fun e w' => ∃ ao c b', e = .returned (.tuple #[ruleV qs qr (.slice ao rs.length c), .int .i64 q1, .bool ok]) ∧ Own 2 w' b' (.slice ao rs.length c) rs ∧ w.heap.size ≤ b' ∧ Below w.heap.size w w') ∧
    (∀ (w : World) (b : Nat) (v : Value), Rd w b v zs → Calls Try.prog 37 #[ruleV s r v, .int .i64 tm, .int .i64 s0] w fun e w' => ∃ ao c b', e = .returned (.tuple #[ruleV qs qr (.slice ao rs.length c), .int .i64 q1, .bool ok]) ∧ Own 2 w' b' (.slice ao rs.length c) rs ∧ w.heap.size ≤ b' ∧ Below w.heap.size w w') := by
  have none_ : (∀ (w : World) (b : Nat) (v : Value), Rd w b v zs → Calls Try.prog 36 #[ruleV s r v, .int .i64 tm, .int .i64 s0] w fun e w' => e = .returned (.tuple #[ruleV 0 0 (.slice none 0 0), .int .i64 0, .bool false]) ∧ Below w.heap.size w w') → (∀ (w : World) (b : Nat) (v : Value), Rd w b v zs → Calls Try.prog 37 #[ruleV s r v, .int .i64 tm, .int .i64 s0] w fun e w' => e = .returned (.tuple #[ruleV 0 0 (.slice none 0 0), .int .i64 0, .bool false]) ∧ Below w.heap.size w w') → ∃ (qs qr : Int) (rs : List Int) (q1 : Int) (ok : Bool), rs.length ≤ 1000000 ∧
    (∀ (w : World) (b : Nat) (v : Value), Rd w b v zs → Calls Try.prog 36 #[ruleV s r v, .int .i64 tm, .int .i64 s0] w fun e w' => ∃ ao c b', e = .returned (.tuple #[ruleV qs qr (.slice ao rs.length c), .int .i64 q1, .bool ok]) ∧ Own 2 w' b' (.slice ao rs.length c) rs ∧ w.heap.size ≤ b' ∧ Below w.heap.size w w') ∧
    (∀ (w : World) (b : Nat) (v : Value), Rd w b v zs → Calls Try.prog 37 #[ruleV s r v, .int .i64 tm, .int .i64 s0] w fun e w' => ∃ ao c b', e = .returned (.tuple #[ruleV qs qr (.slice ao rs.length c), .int .i64 q1, .bool ok]) ∧ Own 2 w' b' (.slice ao rs.length c) rs ∧ w.heap.size ≤ b' ∧ Below w.heap.size w w') := by
    intro h1 h2
    refine ⟨0, 0, [], 0, false, by simp, fun w b v k1 => (h1 w b v k1).mono ?_, fun w b v k1 => (h2 w b v k1).mono ?_⟩
    · rintro e w' ⟨rfl, bel⟩
      exact ⟨none, 0, w.heap.size, rfl, Own.nil _ _ _, Nat.le_refl _, bel⟩
    · rintro e w' ⟨rfl, bel⟩
      exact ⟨none, 0, w.heap.size, rfl, Own.nil _ _ _, Nat.le_refl _, bel⟩
  cases hq : twoB s r zs with
  | false => exact none_ (fun w b v k1 => specNo1 k1 hq) (fun w b v k1 => implNo1 k1 hq)
  | true =>
    by_cases ht : 0 ≤ tm ∧ tm ≤ 64
    · by_cases hsd : 0 ≤ s0 ∧ s0 ≤ 4294967295
      · obtain ⟨S, rfl⟩ := Int.eq_ofNat_of_zero_le ht.1
        have hS : S ≤ 64 := by omega
        have h3 := (two_parts hq).2.2.1
        have hlen : (chgL zs s0 zs.length S).length = zs.length := chg_len _ _ _ _
        refine ⟨s, r, chgL zs s0 zs.length S, seedAt s0 S, true, by omega, fun w b v k1 => (specOk k1 hq hS hsd rfl).mono ?_, fun w b v k1 => (implOk k1 hq hS hsd rfl).mono ?_⟩
        · rintro e w' ⟨b', c, rfl, ow, lo, bel⟩
          exact ⟨some ⟨b', 0, none⟩, c, b', by rw [hlen], by rw [hlen]; exact ow, lo, bel⟩
        · rintro e w' ⟨b', c, rfl, ow, lo, bel⟩
          exact ⟨some ⟨b', 0, none⟩, c, b', by rw [hlen], by rw [hlen]; exact ow, lo, bel⟩
      · exact none_ (fun w b v k1 => specNo3 k1 hq ht hsd) (fun w b v k1 => implNo3 k1 hq ht hsd)
    · exact none_ (fun w b v k1 => specNo2 k1 hq ht) (fun w b v k1 => implNo2 k1 hq ht)


end Go.Proofs.Ythcbhbdgbiiagaa.Chg
