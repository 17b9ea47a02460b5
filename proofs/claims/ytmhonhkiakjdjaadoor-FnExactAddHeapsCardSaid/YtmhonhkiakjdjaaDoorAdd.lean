/- AddHeaps of both sides. -/
import Derived.Test.YtmhonhkiakjdjaaDoorSth
import Derived.Test.YtmhonhkiakjdjaaDoorApart
namespace Go.Proofs.YtmhonhkiakjdjaaDoor.Add
open Go.RowKit Go.Proofs.YtmhonhkiakjdjaaDoor.Rd Go.Proofs.YtmhonhkiakjdjaaDoor.Help Go.Proofs.YtmhonhkiakjdjaaDoor.Ring Go.Proofs.YtmhonhkiakjdjaaDoor.Small Go.Proofs.YtmhonhkiakjdjaaDoor.FVal Go.Proofs.YtmhonhkiakjdjaaDoor.Keep Go.Proofs.YtmhonhkiakjdjaaDoor.Rule Go.Proofs.YtmhonhkiakjdjaaDoor.Grow Go.Proofs.YtmhonhkiakjdjaaDoor.Bes Go.Proofs.YtmhonhkiakjdjaaDoor.Box Go.Proofs.YtmhonhkiakjdjaaDoor.Hea Go.Proofs.YtmhonhkiakjdjaaDoor.Heb Go.Proofs.YtmhonhkiakjdjaaDoor.FMir Go.Proofs.YtmhonhkiakjdjaaDoor.Apart
set_option linter.unusedVariables false
set_option linter.unusedSimpArgs false

/-- The first p cells are added. -/
def addF (xs ys : List Int) (p i : Nat) : Int := if i < p then xs.getD i 0 + ys.getD i 0 else xs.getD i 0
def sumL (xs ys : List Int) (n : Nat) : List Int := (List.range n).map fun i => xs.getD i 0 + ys.getD i 0
theorem addF_zero (xs ys : List Int) (i : Nat) : xs.getD i 0 = addF xs ys 0 i := by unfold addF; rw [if_neg (by omega)]
theorem addF_at (xs ys : List Int) (p : Nat) : addF xs ys p p = xs.getD p 0 := by unfold addF; rw [if_neg (by omega)]
theorem addF_step (xs ys : List Int) (p i : Nat) : (if i = p then xs.getD p 0 + ys.getD p 0 else addF xs ys p i) = addF xs ys (p + 1) i := by
  unfold addF
  by_cases hp : i = p
  · subst hp; rw [if_pos rfl, if_pos (by omega)]
  · rw [if_neg hp]
    by_cases hq : i < p
    · rw [if_pos hq, if_pos (by omega)]
    · rw [if_neg hq, if_neg (by omega)]
theorem addF_end {xs ys zs : List Int} {n : Nat} (h : At zs n (addF xs ys n)) : zs = sumL xs ys n := by
  refine Sfi.at_list (at_congr h (fun i hi => ?_))
  unfold addF; rw [if_pos hi]
theorem cell_in {R C : Nat} {zs : List Int} (h : fieldB R C zs = true) (i : Nat) : 0 ≤ zs.getD i 0 ∧ zs.getD i 0 ≤ 9 := by
  have hg := Sth.field_cells h
  rcases Nat.lt_or_ge i zs.length with hi | hi
  · rw [List.getD_eq_getElem?_getD, List.getElem?_eq_getElem hi]; exact hg _ (List.getElem_mem hi)
  · rw [List.getD_eq_getElem?_getD, List.getElem?_eq_none hi]; exact ⟨Int.le_refl _, by decide⟩
theorem hgd_sum {R C n : Nat} {xs ys : List Int} (hx : fieldB R C xs = true) (hy : fieldB R C ys = true) : Hgd n (18 * (n : Int)) (sumL xs ys n) := by
  refine Sth.hgd_of (by simp [sumL]) (fun x h => ?_)
  simp only [sumL, List.mem_map] at h
  obtain ⟨i, _, rfl⟩ := h
  have h1 := cell_in hx i
  have h2 := cell_in hy i
  omega

set_option maxHeartbeats 4000000 in
theorem specNo {w : World} {s r s' r' : Int} {b1 b2 : Nat} {v1 v2 : Value} {xs ys : List Int} (h1 : Rd w b1 v1 xs) (h2 : Rd w b2 v2 ys) (hq : twoB s r xs s' r' ys = false) :
    Calls Tryd.prog 17 #[ruleV s r v1, ruleV s' r' v2] w fun e w' => e = .returned (.tuple #[ruleV 0 0 (.slice none 0 0), .bool false]) ∧ Below w.heap.size w w' := by
  have H1 := hid h1
  have H2 := hid h2
  have HQ := hid hq
  obtain ⟨ao1, cap1, rfl, hc1, hm1, _⟩ := h1
  obtain ⟨ao2, cap2, rfl, hc2, hm2, _⟩ := h2
  clear hc1 hm1 hc2 hm2 hq
  go_enter Tryd.func17, Tryd.ntmps17
  go_wp2_with fail
  obtain ⟨w1, hW⟩ : ∃ w1, w1 = ((w.alloc (Obj.cells #[.int .i64 s, .int .i64 r, .slice ao1 xs.length cap1] 26)).alloc (Obj.cells #[.int .i64 s', .int .i64 r', .slice ao2 ys.length cap2] 26)).alloc (Obj.cells #[.int .i64 0, .int .i64 0, .slice none 0 0] 26) := ⟨_, rfl⟩
  obtain ⟨N, hN⟩ : ∃ N, N = w.heap.size := ⟨_, rfl⟩
  obtain ⟨M, hM2⟩ : ∃ M, M = N + 1 := ⟨_, rfl⟩
  obtain ⟨NT, hM⟩ : ∃ NT, NT = M + 1 := ⟨_, rfl⟩
  have st : Below w.heap.size w w1 ∧ w1.cell? ⟨N, 0, none⟩ = some (.int .i64 s) ∧ w1.cell? ⟨N, 1, none⟩ = some (.int .i64 r) ∧ w1.cell? ⟨N, 2, none⟩ = some (.slice ao1 xs.length cap1) ∧ w1.cell? ⟨M, 0, none⟩ = some (.int .i64 s') ∧ w1.cell? ⟨M, 1, none⟩ = some (.int .i64 r') ∧ w1.cell? ⟨M, 2, none⟩ = some (.slice ao2 ys.length cap2) ∧ Rd w1 b1 (.slice ao1 xs.length cap1) xs ∧ Rd w1 b2 (.slice ao2 ys.length cap2) ys ∧ w.heap.size ≤ w1.heap.size := by
    rw [hW, hM2, hN]
    exact ⟨Go.Joins.below_alloc3 _ _ _ _, Go.Joins.cell_of_block (FNew.heap_old (FNew.heap_old (FNew.heap_top rfl))) 0, Go.Joins.cell_of_block (FNew.heap_old (FNew.heap_old (FNew.heap_top rfl))) 1, Go.Joins.cell_of_block (FNew.heap_old (FNew.heap_old (FNew.heap_top rfl))) 2, Go.Joins.cell_of_block (FNew.heap_old (FNew.heap_top (by simp))) 0, Go.Joins.cell_of_block (FNew.heap_old (FNew.heap_top (by simp))) 1, Go.Joins.cell_of_block (FNew.heap_old (FNew.heap_top (by simp))) 2, H1.out.keep (Go.Joins.below_alloc3 _ _ _ _) (Nat.le_refl _), H2.out.keep (Go.Joins.below_alloc3 _ _ _ _) (Nat.le_refl _), by simp; omega⟩
  have kT : w1.heap[NT]? = some (Obj.cells #[.int .i64 0, .int .i64 0, .slice none 0 0] 26) := by rw [hW]; exact FNew.heap_top (by rw [hM, hM2, hN]; simp)
  have HNT : Hid (w.heap.size ≤ NT) := by simp only [Hid]; omega
  have HNN : Hid (M = N + 1 ∧ NT = M + 1 ∧ N = w.heap.size) := ⟨hM2, hM, hN⟩
  have hNM : N ≠ M := by omega
  simp only [← hW, ← hN, ← hM2, ← hM]
  clear hW hN hM hM2
  go_at_call 42
  refine (specTwo st.2.1 st.2.2.1 st.2.2.2.1 st.2.2.2.2.1 st.2.2.2.2.2.1 st.2.2.2.2.2.2.1 (rd6_2_0 st) (rd6_2_1 st) hNM).mono ?_
  rw [HQ.out]
  rintro e w2 ⟨rfl, m, hw2⟩
  have bel : Below w1.heap.size w1 w2 := by rw [hw2]; exact FSpec.below_drewN' _ _ _
  clear hw2
  replace st := next6_2 bel st
  replace kT := Sfi.heap_keep bel kT
  clear bel

  have HB := hid st.1
  have y0 : w2.cell? ⟨NT, 0, none⟩ = some (.int .i64 0) := Go.Joins.cell_of_block kT 0
  have y1 : w2.cell? ⟨NT, 1, none⟩ = some (.int .i64 0) := Go.Joins.cell_of_block kT 1
  have y2 : w2.cell? ⟨NT, 2, none⟩ = some (.slice none 0 0) := Go.Joins.cell_of_block kT 2
  have g0 : w2.frozen? ⟨NT, 0, none⟩ = false := Go.Joins.unfrozen_of_block kT 0
  have g1 : w2.frozen? ⟨NT, 1, none⟩ = false := Go.Joins.unfrozen_of_block kT 1
  have g2 : w2.frozen? ⟨NT, 2, none⟩ = false := Go.Joins.unfrozen_of_block kT 2
  have HKx := hid kT
  clear kT
  go_wp2
  obtain ⟨W5, hW⟩ : ∃ W5, W5 = (((w2.setCell ⟨NT, 0, none⟩ (.int .i64 0)).setCell ⟨NT, 1, none⟩ (.int .i64 0)).setCell ⟨NT, 2, none⟩ (.slice none 0 0)) := ⟨_, rfl⟩
  have q0 := (Go.Joins.block_setCell (i := 2) (Go.Joins.block_setCell (i := 1) (Go.Joins.block_setCell (i := 0) HKx.out (.int .i64 0)) (.int .i64 0)) (.slice none 0 0))
  rw [← hW] at q0
  have z0 : W5.cell? ⟨NT, 0, none⟩ = some (.int .i64 0) := Go.Joins.cell_of_block q0 0
  have z1 : W5.cell? ⟨NT, 1, none⟩ = some (.int .i64 0) := Go.Joins.cell_of_block q0 1
  have z2 : W5.cell? ⟨NT, 2, none⟩ = some (.slice none 0 0) := Go.Joins.cell_of_block q0 2
  have B5 : Below w.heap.size w W5 := by
    have h1 := HNT.out
    rw [hW]
    exact ((HB.out.setCell (by simp; omega) _).setCell (by simp; omega) _).setCell (by simp; omega) _
  simp only [← hW]
  clear hW q0
  simp [bodyPost, results, Tryd.results17, go_sem, z0, z1, z2]
  exact B5

set_option maxHeartbeats 4000000 in
theorem implNo {w : World} {s r s' r' : Int} {b1 b2 : Nat} {v1 v2 : Value} {xs ys : List Int} (h1 : Rd w b1 v1 xs) (h2 : Rd w b2 v2 ys) (hq : twoB s r xs s' r' ys = false) :
    Calls Tryd.prog 18 #[ruleV s r v1, ruleV s' r' v2] w fun e w' => e = .returned (.tuple #[ruleV 0 0 (.slice none 0 0), .bool false]) ∧ Below w.heap.size w w' := by
  have H1 := hid h1
  have H2 := hid h2
  have HQ := hid hq
  obtain ⟨ao1, cap1, rfl, hc1, hm1, _⟩ := h1
  obtain ⟨ao2, cap2, rfl, hc2, hm2, _⟩ := h2
  clear hc1 hm1 hc2 hm2 hq
  go_enter Tryd.func18, Tryd.ntmps18
  go_wp2_with fail
  obtain ⟨w1, hW⟩ : ∃ w1, w1 = ((w.alloc (Obj.cells #[.int .i64 s, .int .i64 r, .slice ao1 xs.length cap1] 26)).alloc (Obj.cells #[.int .i64 s', .int .i64 r', .slice ao2 ys.length cap2] 26)).alloc (Obj.cells #[.int .i64 0, .int .i64 0, .slice none 0 0] 26) := ⟨_, rfl⟩
  obtain ⟨N, hN⟩ : ∃ N, N = w.heap.size := ⟨_, rfl⟩
  obtain ⟨M, hM2⟩ : ∃ M, M = N + 1 := ⟨_, rfl⟩
  obtain ⟨NT, hM⟩ : ∃ NT, NT = M + 1 := ⟨_, rfl⟩
  have st : Below w.heap.size w w1 ∧ w1.cell? ⟨N, 0, none⟩ = some (.int .i64 s) ∧ w1.cell? ⟨N, 1, none⟩ = some (.int .i64 r) ∧ w1.cell? ⟨N, 2, none⟩ = some (.slice ao1 xs.length cap1) ∧ w1.cell? ⟨M, 0, none⟩ = some (.int .i64 s') ∧ w1.cell? ⟨M, 1, none⟩ = some (.int .i64 r') ∧ w1.cell? ⟨M, 2, none⟩ = some (.slice ao2 ys.length cap2) ∧ Rd w1 b1 (.slice ao1 xs.length cap1) xs ∧ Rd w1 b2 (.slice ao2 ys.length cap2) ys ∧ w.heap.size ≤ w1.heap.size := by
    rw [hW, hM2, hN]
    exact ⟨Go.Joins.below_alloc3 _ _ _ _, Go.Joins.cell_of_block (FNew.heap_old (FNew.heap_old (FNew.heap_top rfl))) 0, Go.Joins.cell_of_block (FNew.heap_old (FNew.heap_old (FNew.heap_top rfl))) 1, Go.Joins.cell_of_block (FNew.heap_old (FNew.heap_old (FNew.heap_top rfl))) 2, Go.Joins.cell_of_block (FNew.heap_old (FNew.heap_top (by simp))) 0, Go.Joins.cell_of_block (FNew.heap_old (FNew.heap_top (by simp))) 1, Go.Joins.cell_of_block (FNew.heap_old (FNew.heap_top (by simp))) 2, H1.out.keep (Go.Joins.below_alloc3 _ _ _ _) (Nat.le_refl _), H2.out.keep (Go.Joins.below_alloc3 _ _ _ _) (Nat.le_refl _), by simp; omega⟩
  have kT : w1.heap[NT]? = some (Obj.cells #[.int .i64 0, .int .i64 0, .slice none 0 0] 26) := by rw [hW]; exact FNew.heap_top (by rw [hM, hM2, hN]; simp)
  have HNT : Hid (w.heap.size ≤ NT) := by simp only [Hid]; omega
  have HNN : Hid (M = N + 1 ∧ NT = M + 1 ∧ N = w.heap.size) := ⟨hM2, hM, hN⟩
  have hNM : N ≠ M := by omega
  simp only [← hW, ← hN, ← hM2, ← hM]
  clear hW hN hM hM2
  go_wp2_with fail
  go_at_call 43
  refine (implTwo (rd6_2_0 st) (rd6_2_1 st)).mono ?_
  rw [HQ.out]
  rintro e w2 ⟨rfl, bel⟩
  replace st := next6_2 bel st
  replace kT := Sfi.heap_keep bel kT
  clear bel

  have HB := hid st.1
  have y0 : w2.cell? ⟨NT, 0, none⟩ = some (.int .i64 0) := Go.Joins.cell_of_block kT 0
  have y1 : w2.cell? ⟨NT, 1, none⟩ = some (.int .i64 0) := Go.Joins.cell_of_block kT 1
  have y2 : w2.cell? ⟨NT, 2, none⟩ = some (.slice none 0 0) := Go.Joins.cell_of_block kT 2
  have g0 : w2.frozen? ⟨NT, 0, none⟩ = false := Go.Joins.unfrozen_of_block kT 0
  have g1 : w2.frozen? ⟨NT, 1, none⟩ = false := Go.Joins.unfrozen_of_block kT 1
  have g2 : w2.frozen? ⟨NT, 2, none⟩ = false := Go.Joins.unfrozen_of_block kT 2
  have HKx := hid kT
  clear kT
  go_wp2
  obtain ⟨W5, hW⟩ : ∃ W5, W5 = (((w2.setCell ⟨NT, 0, none⟩ (.int .i64 0)).setCell ⟨NT, 1, none⟩ (.int .i64 0)).setCell ⟨NT, 2, none⟩ (.slice none 0 0)) := ⟨_, rfl⟩
  have q0 := (Go.Joins.block_setCell (i := 2) (Go.Joins.block_setCell (i := 1) (Go.Joins.block_setCell (i := 0) HKx.out (.int .i64 0)) (.int .i64 0)) (.slice none 0 0))
  rw [← hW] at q0
  have z0 : W5.cell? ⟨NT, 0, none⟩ = some (.int .i64 0) := Go.Joins.cell_of_block q0 0
  have z1 : W5.cell? ⟨NT, 1, none⟩ = some (.int .i64 0) := Go.Joins.cell_of_block q0 1
  have z2 : W5.cell? ⟨NT, 2, none⟩ = some (.slice none 0 0) := Go.Joins.cell_of_block q0 2
  have B5 : Below w.heap.size w W5 := by
    have h1 := HNT.out
    rw [hW]
    exact ((HB.out.setCell (by simp; omega) _).setCell (by simp; omega) _).setCell (by simp; omega) _
  simp only [← hW]
  clear hW q0
  simp [bodyPost, results, Tryd.results18, go_sem, z0, z1, z2]
  exact B5

set_option maxHeartbeats 8000000 in
theorem specOk {w : World} {R C n MM : Nat} {b1 b2 : Nat} {v1 v2 : Value} {xs ys : List Int} (h1 : Rd w b1 v1 xs) (h2 : Rd w b2 v2 ys) (hx : fieldB R C xs = true) (hy : fieldB R C ys = true) (hn : n = R * C) (hN : hv (hseq R C (sumL xs ys n) MM) = n) (hj : ∀ j, j < MM → hv (hseq R C (sumL xs ys n) j) < n) (hMM : MM ≤ 100000000) :
    Calls Tryd.prog 17 #[ruleV R C v1, ruleV R C v2] w fun e w' => ∃ b' k, e = .returned (.tuple #[ruleV R C (.slice (some ⟨b', 0, none⟩) n k), .bool true]) ∧ Rd.Own 2 w' b' (.slice (some ⟨b', 0, none⟩) n k) (hseq R C (sumL xs ys n) MM) ∧ w.heap.size ≤ b' ∧ Below w.heap.size w w' := by
  obtain ⟨hR, hC, hl, hle⟩ := field_nat hx
  have hl2 := (field_nat hy).2.2.1
  rw [← hn] at hl hl2 hle
  have HQX := hid hx
  have HQY := hid hy
  have HQ : Hid (twoB R C xs R C ys = true) := by simp [Hid, twoB, hx, hy]
  have HT9 : Hid (18 * (n : Int) ≤ 20000) := by simp only [Hid]; omega
  have hpos : 0 < n := by rw [hn]; exact Nat.mul_pos hR.1 hC.1
  have HZ : Hid (1 ≤ xs.length ∧ xs.length ≤ 1048576) := by simp only [Hid]; rw [hl]; omega
  have HRC := hid (And.intro hR hC)
  have HE := hid (And.intro hN hj)
  have HH1 := hid h1
  have HH2 := hid h2
  have HN := hid hn
  have HL := hid hl
  skip
  obtain ⟨ao1, cap1, rfl, hc1, hm1, h14⟩ := h1
  obtain ⟨ao2, cap2, rfl, hc2, hm2, h24⟩ := h2
  obtain ⟨off1, rfl, hb1, hcell1⟩ := h14 (by omega)
  obtain ⟨off2, rfl, hb2, hcell2⟩ := h24 (by omega)
  have H1 : Hid (Rd w b1 (.slice (some ⟨b1, off1, none⟩) n cap1) xs) := by simp only [Hid]; rw [← hl]; exact HH1.out
  have H2 : Hid (Rd w b2 (.slice (some ⟨b2, off2, none⟩) n cap2) ys) := by simp only [Hid]; rw [← hl2]; exact HH2.out
  clear HH1 HH2
  rw [hl] at hc1
  rw [hl2] at hc2 hcell2
  rw [hl, hl2]
  have hs1 : n ≤ cap1 ∧ cap1 ≤ 9223372036854775807 := by unfold maxLen at hm1; omega
  have hs2 : n ≤ cap2 ∧ cap2 ≤ 9223372036854775807 := by unfold maxLen at hm2; omega
  have HBY := hid hb2
  have HCY := hid hcell2
  clear hc1 hm1 hc2 hm2 h14 h24 hb1 hcell1 hb2 hcell2 hx hy hN hj hn hl hl2 hR hC
  go_enter Tryd.func17, Tryd.ntmps17
  go_wp2_with fail
  obtain ⟨w1, hW⟩ : ∃ w1, w1 = ((w.alloc (Obj.cells #[.int .i64 R, .int .i64 C, .slice (some ⟨b1, off1, none⟩) n cap1] 26)).alloc (Obj.cells #[.int .i64 R, .int .i64 C, .slice (some ⟨b2, off2, none⟩) n cap2] 26)).alloc (Obj.cells #[.int .i64 0, .int .i64 0, .slice none 0 0] 26) := ⟨_, rfl⟩
  obtain ⟨N, hN⟩ : ∃ N, N = w.heap.size := ⟨_, rfl⟩
  obtain ⟨M, hM2⟩ : ∃ M, M = N + 1 := ⟨_, rfl⟩
  obtain ⟨NT, hM⟩ : ∃ NT, NT = M + 1 := ⟨_, rfl⟩
  have st : Below w.heap.size w w1 ∧ w1.cell? ⟨N, 0, none⟩ = some (.int .i64 R) ∧ w1.cell? ⟨N, 1, none⟩ = some (.int .i64 C) ∧ w1.cell? ⟨N, 2, none⟩ = some (.slice (some ⟨b1, off1, none⟩) n cap1) ∧ w1.cell? ⟨M, 0, none⟩ = some (.int .i64 R) ∧ w1.cell? ⟨M, 1, none⟩ = some (.int .i64 C) ∧ w1.cell? ⟨M, 2, none⟩ = some (.slice (some ⟨b2, off2, none⟩) n cap2) ∧ Rd w1 b1 (.slice (some ⟨b1, off1, none⟩) n cap1) xs ∧ Rd w1 b2 (.slice (some ⟨b2, off2, none⟩) n cap2) ys ∧ w.heap.size ≤ w1.heap.size := by
    rw [hW, hM2, hN]
    exact ⟨Go.Joins.below_alloc3 _ _ _ _, Go.Joins.cell_of_block (FNew.heap_old (FNew.heap_old (FNew.heap_top rfl))) 0, Go.Joins.cell_of_block (FNew.heap_old (FNew.heap_old (FNew.heap_top rfl))) 1, Go.Joins.cell_of_block (FNew.heap_old (FNew.heap_old (FNew.heap_top rfl))) 2, Go.Joins.cell_of_block (FNew.heap_old (FNew.heap_top (by simp))) 0, Go.Joins.cell_of_block (FNew.heap_old (FNew.heap_top (by simp))) 1, Go.Joins.cell_of_block (FNew.heap_old (FNew.heap_top (by simp))) 2, H1.out.keep (Go.Joins.below_alloc3 _ _ _ _) (Nat.le_refl _), H2.out.keep (Go.Joins.below_alloc3 _ _ _ _) (Nat.le_refl _), by simp; omega⟩
  have kT : w1.heap[NT]? = some (Obj.cells #[.int .i64 0, .int .i64 0, .slice none 0 0] 26) := by rw [hW]; exact FNew.heap_top (by rw [hM, hM2, hN]; simp)
  have HNT : Hid (w.heap.size ≤ NT) := by simp only [Hid]; omega
  have HNN : Hid (M = N + 1 ∧ NT = M + 1 ∧ N = w.heap.size) := ⟨hM2, hM, hN⟩
  have hNM : N ≠ M := by omega
  simp only [← hW, ← hN, ← hM2, ← hM]
  clear hW hN hM hM2
  go_at_call 42
  refine (specTwo st.2.1 st.2.2.1 st.2.2.2.1 st.2.2.2.2.1 st.2.2.2.2.2.1 st.2.2.2.2.2.2.1 (rd6_2_0 st) (rd6_2_1 st) hNM).mono ?_
  rw [HQ.out]
  rintro e w2 ⟨rfl, m, hw2⟩
  have bel : Below w1.heap.size w1 w2 := by rw [hw2]; exact FSpec.below_drewN' _ _ _
  clear hw2
  replace st := next6_2 bel st
  replace kT := Sfi.heap_keep bel kT
  clear bel

  go_wp2_with fail
  go_at_call 26
  refine (SOwn.l04Own st.2.1 st.2.2.1 st.2.2.2.1 (rd6_2_0 st) HZ.out).mono ?_
  rw [HL.out]
  rintro e w3 ⟨b', k, rfl, ow, lo, hk1, hk2, bel⟩
  clear hk1 hk2
  have HMO := hid st.2.2.2.2.2.2.1
  have lo0 := lo
  have HLO : Hid (w.heap.size ≤ b') := Nat.le_trans st.1.size lo
  have HNB : Hid (NT ≠ b') := Nat.ne_of_lt (Nat.lt_of_lt_of_le (Sfi.heap_lt kT) lo)
  replace kT := Sfi.heap_keep bel kT
  replace st := next6_2 bel st
  have HMb : Hid (M ≠ b') := Nat.ne_of_lt (Nat.lt_of_lt_of_le (World.block_lt_of_cell? _ _ HMO.out) lo0)
  clear bel lo lo0
  have m2 := st.2.2.2.2.2.2.1
  have HB3 := hid st.1
  have HOW3 := hid ow
  have HKT3 := hid kT
  clear ow kT st
  have HM2 := hid m2
  skip
  go_wp2_with fail
  skip
  obtain ⟨w4, hW⟩ : ∃ w4, w4 = w3.alloc (Obj.cells #[.int .i64 R, .int .i64 C, .slice (some ⟨b', 0, none⟩) n k] 26) := ⟨_, rfl⟩
  obtain ⟨NX, hN⟩ : ∃ NX, NX = w3.heap.size := ⟨_, rfl⟩
  have bel : Below w3.heap.size w3 w4 := by rw [hW]; exact below1 _ _
  have HKX : Hid (w4.heap[NX]? = some (Obj.cells #[.int .i64 R, .int .i64 C, .slice (some ⟨b', 0, none⟩) n k] 26)) := by simp only [Hid]; rw [hW]; exact FNew.heap_top hN
  have HWb : Hid (NX ≠ b') := by simp only [Hid]; rw [hN]; exact Nat.ne_of_gt HOW3.out.lt
  have HKT := hid (Sfi.heap_keep bel HKT3.out)
  have HOW4 := hid (HOW3.out.keep bel)
  have HB4 := hid (HB3.out.trans (bel.mono HB3.out.size))
  have HM4 : Hid (w4.cell? ⟨M, 2, none⟩ = some (.slice (some ⟨b2, off2, none⟩) n cap2)) := cell_keep bel HM2.out
  simp only [← hW, ← hN]
  clear hW hN bel HKT3 HOW3 m2 HM2 HB3
  go_loopw [7] (fun t wr => ∃ p : Nat, p ≤ n ∧ t = .int .i64 (p : Int) ∧ w4.grownBy wr (some b') ∧ ∃ zs, At zs n (addF xs ys p) ∧ Rd.Own 2 wr b' (.slice (some ⟨b', 0, none⟩) n k) zs) (fun t _ => n - (intOf t).toNat)
  case atStart => exact ⟨0, Nat.zero_le _, rfl, g_refl _ _, xs, ⟨HL.out, fun i _ => addF_zero xs ys i⟩, HOW4.out⟩
  case round =>
    obtain ⟨p, hp, rfl, hg, zs, hat, hown⟩ := hrel
    have HG := hid hg
    have HAT := hid hat
    have HOW := hid hown
    have HBW := hid (g_below HB4.out hg HLO.out)
    have y2 : wr.cell? ⟨M, 2, none⟩ = some (.slice (some ⟨b2, off2, none⟩) n cap2) := g_cell HG.out HM4.out HMb.out
    clear hg hat hown
    by_cases hlt : p < n
    · have yc : wr.cell? ⟨b2, off2 + p, none⟩ = some (.int .i64 (ys.getD p 0)) := (HBW.out.cell (p := ⟨b2, off2 + p, none⟩) HBY.out).trans (HCY.out p hlt)
      have hlen : zs.length = n := HAT.out.1
      have oc : wr.cell? ⟨b', p, none⟩ = some (.int .i64 (zs.getD p 0)) := HOW.out.cell (by rw [hlen]; exact hlt)
      rw [HAT.out.2 p hlt, addF_at] at oc
      have of := HOW.out.free p
      have x2 : wr.cell? ⟨NX, 2, none⟩ = some (.slice (some ⟨b', 0, none⟩) n k) := g_cell HG.out (Go.Joins.cell_of_block HKX.out 2) HWb.out
      have hXb := cell_in HQX.out p
      have hYb := cell_in HQY.out p
      obtain ⟨X, hX⟩ : ∃ X, X = xs.getD p 0 := ⟨_, rfl⟩
      obtain ⟨Y, hY⟩ : ∃ Y, Y = ys.getD p 0 := ⟨_, rfl⟩
      rw [← hX] at oc hXb
      rw [← hY] at yc hYb
      have HXY := hid (And.intro hX hY)
      have hpi : (p : Int) < (n : Int) := by omega
      have hwr : IntKind.i64.wrap (X + Y) = X + Y := by rw [IntKind.wrap_i64]; omega
      clear hX hY hlen
      have HEnd : Hid (∀ i, i < n → (if i = p then X + Y else addF xs ys p i) = addF xs ys (p + 1) i) := fun i _ => by rw [HXY.out.1, HXY.out.2]; exact addF_step xs ys p i
      go_upto_region 7 with fail
      go_still_tail 12, (by kernel_rfl)
      change wpList _ _ _ _ _ wr.drew
      have ocd : wr.drew.cell? ⟨b', p, none⟩ = some (.int .i64 X) := oc
      have ofd : wr.drew.frozen? ⟨b', p, none⟩ = false := of
      obtain ⟨wd, hwd⟩ : ∃ wd, wd = wr.drew := ⟨_, rfl⟩
      have HGd : Hid (w4.grownBy wd (some b')) := by simp only [Hid]; rw [hwd]; exact g_drew HG.out
      have HOd : Hid (Rd.Own 2 wd b' (.slice (some ⟨b', 0, none⟩) n k) zs) := by simp only [Hid]; rw [hwd]; exact HOW.out
      rw [← hwd] at ocd ofd ⊢
      clear hwd oc of x2 y2 yc HG HOW
      have HG := HGd
      have HOW := HOd
      go_wp2
      go_roundw
      case rel => exact ⟨p + 1, by omega, by go_num, g_set HG.out p _, zs.set p (X + Y), at_congr (at_set HAT.out hlt (X + Y)) HEnd.out, HOW.out.set p (X + Y)⟩
      case measure => simp [intOf]; omega
    · have hpn : p = n := by omega
      subst hpn
      have hfl := addF_end HAT.out
      subst hfl
      have f0 : wr.cell? ⟨NX, 0, none⟩ = some (.int .i64 R) := g_cell HG.out (Go.Joins.cell_of_block HKX.out 0) HWb.out
      have f1 : wr.cell? ⟨NX, 1, none⟩ = some (.int .i64 C) := g_cell HG.out (Go.Joins.cell_of_block HKX.out 1) HWb.out
      have f2 : wr.cell? ⟨NX, 2, none⟩ = some (.slice (some ⟨b', 0, none⟩) p k) := g_cell HG.out (Go.Joins.cell_of_block HKX.out 2) HWb.out
      have HF2 := hid f2
      go_wp2_with fail
      go_at_call 39
      refine (Set.l04Settle f0 f1 HF2.out HOW.out.rd HRC.out.1 HRC.out.2 HN.out (hgd_sum HQX.out HQY.out) HT9.out hMM HE.out.1 HE.out.2).mono ?_
      rintro e w6 ⟨b'', k2, rfl, ow, lo, bel⟩
      have kT := Sfi.heap_keep bel (g_heap HG.out HKT.out HNB.out)
      have HLo : Hid (w.heap.size ≤ b'') := Nat.le_trans HBW.out.size lo
      have HNB : Hid (NT ≠ b'') := Nat.ne_of_lt (Nat.lt_of_lt_of_le (Sfi.heap_lt (g_heap HG.out HKT.out HNB.out)) lo)
      have st : Below w.heap.size w w6 := HBW.out.trans (bel.mono HBW.out.size)
      clear bel lo f0 f1 f2 y2
      obtain ⟨w7, hW⟩ : ∃ w7, w7 = w6.alloc (Obj.cells #[.int .i64 R, .int .i64 C, .slice (some ⟨b'', 0, none⟩) p k2] 26) := ⟨_, rfl⟩
      obtain ⟨NY, hN⟩ : ∃ NY, NY = w6.heap.size := ⟨_, rfl⟩
      have bel : Below w6.heap.size w6 w7 := by rw [hW]; exact below1 _ _
      have kX : w7.heap[NY]? = some (Obj.cells #[.int .i64 R, .int .i64 C, .slice (some ⟨b'', 0, none⟩) p k2] 26) := by rw [hW]; exact FNew.heap_top hN
      replace kT := Sfi.heap_keep bel kT
      have HO := hid (ow.keep bel)
      have HB := hid (st.trans (bel.mono st.size))
      clear bel st ow
      have x0 : w7.cell? ⟨NY, 0, none⟩ = some (.int .i64 R) := Go.Joins.cell_of_block kX 0
      have x1 : w7.cell? ⟨NY, 1, none⟩ = some (.int .i64 C) := Go.Joins.cell_of_block kX 1
      have x2 : w7.cell? ⟨NY, 2, none⟩ = some (.slice (some ⟨b'', 0, none⟩) p k2) := Go.Joins.cell_of_block kX 2
      clear kX
      have y0 : w7.cell? ⟨NT, 0, none⟩ = some (.int .i64 0) := Go.Joins.cell_of_block kT 0
      have y1 : w7.cell? ⟨NT, 1, none⟩ = some (.int .i64 0) := Go.Joins.cell_of_block kT 1
      have y2 : w7.cell? ⟨NT, 2, none⟩ = some (.slice none 0 0) := Go.Joins.cell_of_block kT 2
      have g0 : w7.frozen? ⟨NT, 0, none⟩ = false := Go.Joins.unfrozen_of_block kT 0
      have g1 : w7.frozen? ⟨NT, 1, none⟩ = false := Go.Joins.unfrozen_of_block kT 1
      have g2 : w7.frozen? ⟨NT, 2, none⟩ = false := Go.Joins.unfrozen_of_block kT 2
      have HKx := hid kT
      clear kT
      rw [hW, hN] at x0
      rw [hW, hN] at x1
      rw [hW, hN] at x2
      rw [hW] at y0
      rw [hW] at y1
      rw [hW] at y2
      rw [hW] at g0
      rw [hW] at g1
      rw [hW] at g2
      have HW4 := hid hW
      have HNX := hid hN
      clear hW hN
      go_wp2
      simp only [← HW4.out, ← HNX.out]
      obtain ⟨W5, hW⟩ : ∃ W5, W5 = (((w7.setCell ⟨NT, 0, none⟩ (.int .i64 R)).setCell ⟨NT, 1, none⟩ (.int .i64 C)).setCell ⟨NT, 2, none⟩ (.slice (some ⟨b'', 0, none⟩) p k2)) := ⟨_, rfl⟩
      have q0 := (Go.Joins.block_setCell (i := 2) (Go.Joins.block_setCell (i := 1) (Go.Joins.block_setCell (i := 0) HKx.out (.int .i64 R)) (.int .i64 C)) (.slice (some ⟨b'', 0, none⟩) p k2))
      rw [← hW] at q0
      have z0 : W5.cell? ⟨NT, 0, none⟩ = some (.int .i64 R) := Go.Joins.cell_of_block q0 0
      have z1 : W5.cell? ⟨NT, 1, none⟩ = some (.int .i64 C) := Go.Joins.cell_of_block q0 1
      have z2 : W5.cell? ⟨NT, 2, none⟩ = some (.slice (some ⟨b'', 0, none⟩) p k2) := Go.Joins.cell_of_block q0 2
      have O5 := (own_set (own_set (own_set HO.out ⟨NT, 0, none⟩ (.int .i64 R) HNB.out) ⟨NT, 1, none⟩ (.int .i64 C) HNB.out) ⟨NT, 2, none⟩ (.slice (some ⟨b'', 0, none⟩) p k2) HNB.out)
      rw [← hW] at O5
      have B5 : Below w.heap.size w W5 := by
        have h1 := HNT.out
        rw [hW]
        exact ((HB.out.setCell (by simp; omega) _).setCell (by simp; omega) _).setCell (by simp; omega) _
      simp only [← hW]
      clear hW q0
      simp [bodyPost, results, Tryd.results17, go_sem, z0, z1, z2]
      exact ⟨b'', k2, ⟨rfl, rfl⟩, O5, HLo.out, B5⟩
set_option maxHeartbeats 8000000 in
theorem implOk {w : World} {R C n MM : Nat} {b1 b2 : Nat} {v1 v2 : Value} {xs ys : List Int} (h1 : Rd w b1 v1 xs) (h2 : Rd w b2 v2 ys) (hx : fieldB R C xs = true) (hy : fieldB R C ys = true) (hn : n = R * C) (hN : hv (hseq R C (sumL xs ys n) MM) = n) (hj : ∀ j, j < MM → hv (hseq R C (sumL xs ys n) j) < n) (hMM : MM ≤ 100000000) (hg : GW w) :
    Calls Tryd.prog 18 #[ruleV R C v1, ruleV R C v2] w fun e w' => ∃ b' k, e = .returned (.tuple #[ruleV R C (.slice (some ⟨b', 0, none⟩) n k), .bool true]) ∧ Rd.Own 2 w' b' (.slice (some ⟨b', 0, none⟩) n k) (hseq R C (sumL xs ys n) MM) ∧ w.heap.size ≤ b' ∧ Below w.heap.size w w' := by
  obtain ⟨hR, hC, hl, hle⟩ := field_nat hx
  have hl2 := (field_nat hy).2.2.1
  rw [← hn] at hl hl2 hle
  have HQX := hid hx
  have HQY := hid hy
  have HQ : Hid (twoB R C xs R C ys = true) := by simp [Hid, twoB, hx, hy]
  have HT9 : Hid (18 * (n : Int) ≤ 20000) := by simp only [Hid]; omega
  have hpos : 0 < n := by rw [hn]; exact Nat.mul_pos hR.1 hC.1
  have HZ : Hid (1 ≤ xs.length ∧ xs.length ≤ 1048576) := by simp only [Hid]; rw [hl]; omega
  have HRC := hid (And.intro hR hC)
  have HE := hid (And.intro hN hj)
  have HH1 := hid h1
  have HH2 := hid h2
  have HN := hid hn
  have HL := hid hl
  have HGW := hid hg
  obtain ⟨ao1, cap1, rfl, hc1, hm1, h14⟩ := h1
  obtain ⟨ao2, cap2, rfl, hc2, hm2, h24⟩ := h2
  obtain ⟨off1, rfl, hb1, hcell1⟩ := h14 (by omega)
  obtain ⟨off2, rfl, hb2, hcell2⟩ := h24 (by omega)
  have H1 : Hid (Rd w b1 (.slice (some ⟨b1, off1, none⟩) n cap1) xs) := by simp only [Hid]; rw [← hl]; exact HH1.out
  have H2 : Hid (Rd w b2 (.slice (some ⟨b2, off2, none⟩) n cap2) ys) := by simp only [Hid]; rw [← hl2]; exact HH2.out
  clear HH1 HH2
  rw [hl] at hc1
  rw [hl2] at hc2 hcell2
  rw [hl, hl2]
  have hs1 : n ≤ cap1 ∧ cap1 ≤ 9223372036854775807 := by unfold maxLen at hm1; omega
  have hs2 : n ≤ cap2 ∧ cap2 ≤ 9223372036854775807 := by unfold maxLen at hm2; omega
  have HBY := hid hb2
  have HCY := hid hcell2
  clear hc1 hm1 hc2 hm2 h14 h24 hb1 hcell1 hb2 hcell2 hx hy hN hj hn hl hl2 hR hC hg
  go_enter Tryd.func18, Tryd.ntmps18
  go_wp2_with fail
  obtain ⟨w1, hW⟩ : ∃ w1, w1 = ((w.alloc (Obj.cells #[.int .i64 R, .int .i64 C, .slice (some ⟨b1, off1, none⟩) n cap1] 26)).alloc (Obj.cells #[.int .i64 R, .int .i64 C, .slice (some ⟨b2, off2, none⟩) n cap2] 26)).alloc (Obj.cells #[.int .i64 0, .int .i64 0, .slice none 0 0] 26) := ⟨_, rfl⟩
  obtain ⟨N, hN⟩ : ∃ N, N = w.heap.size := ⟨_, rfl⟩
  obtain ⟨M, hM2⟩ : ∃ M, M = N + 1 := ⟨_, rfl⟩
  obtain ⟨NT, hM⟩ : ∃ NT, NT = M + 1 := ⟨_, rfl⟩
  have st : Below w.heap.size w w1 ∧ w1.cell? ⟨N, 0, none⟩ = some (.int .i64 R) ∧ w1.cell? ⟨N, 1, none⟩ = some (.int .i64 C) ∧ w1.cell? ⟨N, 2, none⟩ = some (.slice (some ⟨b1, off1, none⟩) n cap1) ∧ w1.cell? ⟨M, 0, none⟩ = some (.int .i64 R) ∧ w1.cell? ⟨M, 1, none⟩ = some (.int .i64 C) ∧ w1.cell? ⟨M, 2, none⟩ = some (.slice (some ⟨b2, off2, none⟩) n cap2) ∧ Rd w1 b1 (.slice (some ⟨b1, off1, none⟩) n cap1) xs ∧ Rd w1 b2 (.slice (some ⟨b2, off2, none⟩) n cap2) ys ∧ w.heap.size ≤ w1.heap.size := by
    rw [hW, hM2, hN]
    exact ⟨Go.Joins.below_alloc3 _ _ _ _, Go.Joins.cell_of_block (FNew.heap_old (FNew.heap_old (FNew.heap_top rfl))) 0, Go.Joins.cell_of_block (FNew.heap_old (FNew.heap_old (FNew.heap_top rfl))) 1, Go.Joins.cell_of_block (FNew.heap_old (FNew.heap_old (FNew.heap_top rfl))) 2, Go.Joins.cell_of_block (FNew.heap_old (FNew.heap_top (by simp))) 0, Go.Joins.cell_of_block (FNew.heap_old (FNew.heap_top (by simp))) 1, Go.Joins.cell_of_block (FNew.heap_old (FNew.heap_top (by simp))) 2, H1.out.keep (Go.Joins.below_alloc3 _ _ _ _) (Nat.le_refl _), H2.out.keep (Go.Joins.below_alloc3 _ _ _ _) (Nat.le_refl _), by simp; omega⟩
  have kT : w1.heap[NT]? = some (Obj.cells #[.int .i64 0, .int .i64 0, .slice none 0 0] 26) := by rw [hW]; exact FNew.heap_top (by rw [hM, hM2, hN]; simp)
  have HNT : Hid (w.heap.size ≤ NT) := by simp only [Hid]; omega
  have HNN : Hid (M = N + 1 ∧ NT = M + 1 ∧ N = w.heap.size) := ⟨hM2, hM, hN⟩
  have hNM : N ≠ M := by omega
  simp only [← hW, ← hN, ← hM2, ← hM]
  clear hW hN hM hM2
  go_wp2_with fail
  go_at_call 43
  refine (implTwo (rd6_2_0 st) (rd6_2_1 st)).mono ?_
  rw [HQ.out]
  rintro e w2 ⟨rfl, bel⟩
  replace st := next6_2 bel st
  replace kT := Sfi.heap_keep bel kT
  clear bel

  go_wp2_with fail
  go_at_call 33
  refine (copyOfN (rd6_2_0 st) HZ.out HL.out).mono ?_
  rintro e w3 ⟨b', k, rfl, ow, lo, bel⟩
  have HMO := hid st.2.2.2.2.2.2.1
  have lo0 := lo
  have HLO : Hid (w.heap.size ≤ b') := Nat.le_trans st.1.size lo
  have HNB : Hid (NT ≠ b') := Nat.ne_of_lt (Nat.lt_of_lt_of_le (Sfi.heap_lt kT) lo)
  replace kT := Sfi.heap_keep bel kT
  replace st := next6_2 bel st
  have HMb : Hid (M ≠ b') := Nat.ne_of_lt (Nat.lt_of_lt_of_le (World.block_lt_of_cell? _ _ HMO.out) lo0)
  clear bel lo lo0
  have m2 := st.2.2.2.2.2.2.1
  have HB3 := hid st.1
  have HOW3 := hid ow
  have HKT3 := hid kT
  clear ow kT st
  have HM2 := hid m2
  have m2u : (w3.alloc (Obj.cells #[.int .i64 R, .int .i64 C, .slice (some ⟨b', 0, none⟩) n k] 26)).cell? ⟨M, 2, none⟩ = some (.slice (some ⟨b2, off2, none⟩) n cap2) := cell_keep (below1 _ _) m2
  go_wp2_with fail
  clear m2u
  obtain ⟨w4, hW⟩ : ∃ w4, w4 = w3.alloc (Obj.cells #[.int .i64 R, .int .i64 C, .slice (some ⟨b', 0, none⟩) n k] 26) := ⟨_, rfl⟩
  obtain ⟨NX, hN⟩ : ∃ NX, NX = w3.heap.size := ⟨_, rfl⟩
  have bel : Below w3.heap.size w3 w4 := by rw [hW]; exact below1 _ _
  have HKX : Hid (w4.heap[NX]? = some (Obj.cells #[.int .i64 R, .int .i64 C, .slice (some ⟨b', 0, none⟩) n k] 26)) := by simp only [Hid]; rw [hW]; exact FNew.heap_top hN
  have HWb : Hid (NX ≠ b') := by simp only [Hid]; rw [hN]; exact Nat.ne_of_gt HOW3.out.lt
  have HKT := hid (Sfi.heap_keep bel HKT3.out)
  have HOW4 := hid (HOW3.out.keep bel)
  have HB4 := hid (HB3.out.trans (bel.mono HB3.out.size))
  have HM4 : Hid (w4.cell? ⟨M, 2, none⟩ = some (.slice (some ⟨b2, off2, none⟩) n cap2)) := cell_keep bel HM2.out
  simp only [← hW, ← hN]
  clear hW hN bel HKT3 HOW3 m2 HM2 HB3
  go_loopw [19] (fun t wr => ∃ p : Nat, p ≤ n ∧ t = .int .i64 (p : Int) ∧ w4.grownBy wr (some b') ∧ ∃ zs, At zs n (addF xs ys p) ∧ Rd.Own 2 wr b' (.slice (some ⟨b', 0, none⟩) n k) zs) (fun t _ => n - (intOf t).toNat)
  case atStart => exact ⟨0, Nat.zero_le _, rfl, g_refl _ _, xs, ⟨HL.out, fun i _ => addF_zero xs ys i⟩, HOW4.out⟩
  case round =>
    obtain ⟨p, hp, rfl, hg, zs, hat, hown⟩ := hrel
    have HG := hid hg
    have HAT := hid hat
    have HOW := hid hown
    have HBW := hid (g_below HB4.out hg HLO.out)
    have y2 : wr.cell? ⟨M, 2, none⟩ = some (.slice (some ⟨b2, off2, none⟩) n cap2) := g_cell HG.out HM4.out HMb.out
    clear hg hat hown
    by_cases hlt : p < n
    · have yc : wr.cell? ⟨b2, off2 + p, none⟩ = some (.int .i64 (ys.getD p 0)) := (HBW.out.cell (p := ⟨b2, off2 + p, none⟩) HBY.out).trans (HCY.out p hlt)
      have hlen : zs.length = n := HAT.out.1
      have oc : wr.cell? ⟨b', p, none⟩ = some (.int .i64 (zs.getD p 0)) := HOW.out.cell (by rw [hlen]; exact hlt)
      rw [HAT.out.2 p hlt, addF_at] at oc
      have of := HOW.out.free p
      have x2 : wr.cell? ⟨NX, 2, none⟩ = some (.slice (some ⟨b', 0, none⟩) n k) := g_cell HG.out (Go.Joins.cell_of_block HKX.out 2) HWb.out
      have hXb := cell_in HQX.out p
      have hYb := cell_in HQY.out p
      obtain ⟨X, hX⟩ : ∃ X, X = xs.getD p 0 := ⟨_, rfl⟩
      obtain ⟨Y, hY⟩ : ∃ Y, Y = ys.getD p 0 := ⟨_, rfl⟩
      rw [← hX] at oc hXb
      rw [← hY] at yc hYb
      have HXY := hid (And.intro hX hY)
      have hpi : (p : Int) < (n : Int) := by omega
      have hwr : IntKind.i64.wrap (X + Y) = X + Y := by rw [IntKind.wrap_i64]; omega
      clear hX hY hlen
      have HEnd : Hid (∀ i, i < n → (if i = p then X + Y else addF xs ys p i) = addF xs ys (p + 1) i) := fun i _ => by rw [HXY.out.1, HXY.out.2]; exact addF_step xs ys p i
      go_wp2
      go_roundw
      case rel => exact ⟨p + 1, by omega, by go_num, g_set HG.out p _, zs.set p (X + Y), at_congr (at_set HAT.out hlt (X + Y)) HEnd.out, HOW.out.set p (X + Y)⟩
      case measure => simp [intOf]; omega
    · have hpn : p = n := by omega
      subst hpn
      have hfl := addF_end HAT.out
      subst hfl
      have HST := hid HBW.out
      have f0 : wr.cell? ⟨NX, 0, none⟩ = some (.int .i64 R) := g_cell HG.out (Go.Joins.cell_of_block HKX.out 0) HWb.out
      have f1 : wr.cell? ⟨NX, 1, none⟩ = some (.int .i64 C) := g_cell HG.out (Go.Joins.cell_of_block HKX.out 1) HWb.out
      have f2 : wr.cell? ⟨NX, 2, none⟩ = some (.slice (some ⟨b', 0, none⟩) p k) := g_cell HG.out (Go.Joins.cell_of_block HKX.out 2) HWb.out
      clear y2
      go_wp2_with fail
      go_at_call 41
      refine (Stt.settle HOW.out HRC.out.1 HRC.out.2 HN.out (hgd_sum HQX.out HQY.out) HT9.out hMM HE.out.1 HE.out.2 (gw_bel HGW.out HBW.out) (gw_ne HGW.out HLO.out) (Sth.own_cap HOW.out)).mono ?_
      rintro e w5 ⟨rfl, ow5, hg5⟩
      have HO5 := hid ow5
      have HG5 := hid (g_trans HG.out hg5)
      have kT := g_heap HG5.out HKT.out HNB.out
      have HB := hid (g_below HB4.out HG5.out HLO.out)
      clear f0 f1 f2 ow5 hg5
      have x0 : w5.cell? ⟨NX, 0, none⟩ = some (.int .i64 R) := g_cell HG5.out (Go.Joins.cell_of_block HKX.out 0) HWb.out
      have x1 : w5.cell? ⟨NX, 1, none⟩ = some (.int .i64 C) := g_cell HG5.out (Go.Joins.cell_of_block HKX.out 1) HWb.out
      have x2 : w5.cell? ⟨NX, 2, none⟩ = some (.slice (some ⟨b', 0, none⟩) p k) := g_cell HG5.out (Go.Joins.cell_of_block HKX.out 2) HWb.out
      have y0 : w5.cell? ⟨NT, 0, none⟩ = some (.int .i64 0) := Go.Joins.cell_of_block kT 0
      have y1 : w5.cell? ⟨NT, 1, none⟩ = some (.int .i64 0) := Go.Joins.cell_of_block kT 1
      have y2 : w5.cell? ⟨NT, 2, none⟩ = some (.slice none 0 0) := Go.Joins.cell_of_block kT 2
      have g0 : w5.frozen? ⟨NT, 0, none⟩ = false := Go.Joins.unfrozen_of_block kT 0
      have g1 : w5.frozen? ⟨NT, 1, none⟩ = false := Go.Joins.unfrozen_of_block kT 1
      have g2 : w5.frozen? ⟨NT, 2, none⟩ = false := Go.Joins.unfrozen_of_block kT 2
      have HKx := hid kT
      clear kT
      go_wp2
      obtain ⟨W5, hW⟩ : ∃ W5, W5 = (((w5.setCell ⟨NT, 0, none⟩ (.int .i64 R)).setCell ⟨NT, 1, none⟩ (.int .i64 C)).setCell ⟨NT, 2, none⟩ (.slice (some ⟨b', 0, none⟩) p k)) := ⟨_, rfl⟩
      have q0 := (Go.Joins.block_setCell (i := 2) (Go.Joins.block_setCell (i := 1) (Go.Joins.block_setCell (i := 0) HKx.out (.int .i64 R)) (.int .i64 C)) (.slice (some ⟨b', 0, none⟩) p k))
      rw [← hW] at q0
      have z0 : W5.cell? ⟨NT, 0, none⟩ = some (.int .i64 R) := Go.Joins.cell_of_block q0 0
      have z1 : W5.cell? ⟨NT, 1, none⟩ = some (.int .i64 C) := Go.Joins.cell_of_block q0 1
      have z2 : W5.cell? ⟨NT, 2, none⟩ = some (.slice (some ⟨b', 0, none⟩) p k) := Go.Joins.cell_of_block q0 2
      have O5 := (own_set (own_set (own_set HO5.out ⟨NT, 0, none⟩ (.int .i64 R) HNB.out) ⟨NT, 1, none⟩ (.int .i64 C) HNB.out) ⟨NT, 2, none⟩ (.slice (some ⟨b', 0, none⟩) p k) HNB.out)
      rw [← hW] at O5
      have B5 : Below w.heap.size w W5 := by
        have h1 := HNT.out
        rw [hW]
        exact ((HB.out.setCell (by simp; omega) _).setCell (by simp; omega) _).setCell (by simp; omega) _
      simp only [← hW]
      clear hW q0
      simp [bodyPost, results, Tryd.results18, go_sem, z0, z1, z2]
      exact ⟨b', k, ⟨rfl, rfl⟩, O5, HLO.out, B5⟩
theorem two_same {s r s' r' : Int} {xs ys : List Int} (h : twoB s r xs s' r' ys = true) : fieldB s r xs = true ∧ fieldB s' r' ys = true ∧ s = s' ∧ r = r' := by
  simp only [twoB, Bool.and_eq_true, decide_eq_true_eq] at h
  exact ⟨h.1, h.2.1, h.2.2.1, h.2.2.2⟩
theorem agree (s r : Int) (xs : List Int) (s' r' : Int) (ys : List Int) : ∃ (qs qr : Int) (rs : List Int) (ok : Bool), rs.length ≤ 1000000 ∧
    (∀ (w : World) (b1 : Nat) (v1 : Value) (b2 : Nat) (v2 : Value), Rd w b1 v1 xs → Rd w b2 v2 ys → Calls Tryd.prog 17 #[ruleV s r v1, ruleV s' r' v2] w fun e w' => ∃ ao c b', e = .returned (.tuple #[ruleV qs qr (.slice ao rs.length c), .bool ok]) ∧ Rd.Own 2 w' b' (.slice ao rs.length c) rs ∧ w.heap.size ≤ b' ∧ Below w.heap.size w w') ∧
    (∀ (w : World) (b1 : Nat) (v1 : Value) (b2 : Nat) (v2 : Value), GW w → Rd w b1 v1 xs → Rd w b2 v2 ys → Calls Tryd.prog 18 #[ruleV s r v1, ruleV s' r' v2] w fun e w' => ∃ ao c b', e = .returned (.tuple #[ruleV qs qr (.slice ao rs.length c), .bool ok]) ∧ Rd.Own 2 w' b' (.slice ao rs.length c) rs ∧ w.heap.size ≤ b' ∧ Below w.heap.size w w') := by
  cases hq : twoB s r xs s' r' ys with
  | false =>
    refine ⟨0, 0, [], false, by simp, fun w b1 v1 b2 v2 k1 k2 => (specNo k1 k2 hq).mono ?_, fun w b1 v1 b2 v2 _ k1 k2 => (implNo k1 k2 hq).mono ?_⟩
    · rintro e w' ⟨rfl, bel⟩
      exact ⟨none, 0, w.heap.size, rfl, Own.nil _ _ _, Nat.le_refl _, bel⟩
    · rintro e w' ⟨rfl, bel⟩
      exact ⟨none, 0, w.heap.size, rfl, Own.nil _ _ _, Nat.le_refl _, bel⟩
  | true =>
    obtain ⟨hx, hy, rfl, rfl⟩ := two_same hq
    have hb : (1 ≤ s ∧ s ≤ 24) ∧ 1 ≤ r ∧ r ≤ 24 := by
      have h1 := hx
      simp only [fieldB, Bool.and_eq_true] at h1
      have := h1.1
      simp [sidesB] at this; omega
    obtain ⟨R, rfl⟩ := Int.eq_ofNat_of_zero_le (show 0 ≤ s by omega)
    obtain ⟨C, rfl⟩ := Int.eq_ofNat_of_zero_le (show 0 ≤ r by omega)
    have hle : R * C ≤ 24 * 24 := Nat.mul_le_mul (by omega) (by omega)
    have hR : 1 ≤ R ∧ R ≤ 24 := by omega
    have hC : 1 ≤ C ∧ C ≤ 24 := by omega
    obtain ⟨N, h1, h2, h3⟩ := settle_ex hC.1 hR.2 rfl (T := 18 * ((R * C : Nat) : Int)) (by omega) (hgd_sum (n := R * C) hx hy)
    have hN : N ≤ 100000000 := by omega
    have hlen : (hseq R C (sumL xs ys (R * C)) N).length = R * C := (hseq_good hC.1 rfl (hgd_sum hx hy) h3 N (Nat.le_refl _)).1
    refine ⟨R, C, hseq R C (sumL xs ys (R * C)) N, true, by omega, fun w b1 v1 b2 v2 k1 k2 => (specOk k1 k2 hx hy rfl h2 h3 hN).mono ?_, fun w b1 v1 b2 v2 g k1 k2 => (implOk k1 k2 hx hy rfl h2 h3 hN g).mono ?_⟩
    · rintro e w' ⟨b', c, rfl, ow, lo, bel⟩
      exact ⟨some ⟨b', 0, none⟩, c, b', by rw [hlen], by rw [hlen]; exact ow, lo, bel⟩
    · rintro e w' ⟨b', c, rfl, ow, lo, bel⟩
      exact ⟨some ⟨b', 0, none⟩, c, b', by rw [hlen], by rw [hlen]; exact ow, lo, bel⟩


end Go.Proofs.YtmhonhkiakjdjaaDoor.Add
