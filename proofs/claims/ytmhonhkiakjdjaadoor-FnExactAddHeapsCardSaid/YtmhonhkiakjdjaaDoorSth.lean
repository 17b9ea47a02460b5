/- SettleHeap of both sides. -/
import Derived.Test.YtmhonhkiakjdjaaDoorStt
import Derived.Test.YtmhonhkiakjdjaaDoorLaid
namespace Go.Proofs.YtmhonhkiakjdjaaDoor.Sth
open Go.RowKit Go.Proofs.YtmhonhkiakjdjaaDoor.Rd Go.Proofs.YtmhonhkiakjdjaaDoor.Help Go.Proofs.YtmhonhkiakjdjaaDoor.Ring Go.Proofs.YtmhonhkiakjdjaaDoor.Small Go.Proofs.YtmhonhkiakjdjaaDoor.FVal Go.Proofs.YtmhonhkiakjdjaaDoor.Keep Go.Proofs.YtmhonhkiakjdjaaDoor.Rule Go.Proofs.YtmhonhkiakjdjaaDoor.Grow Go.Proofs.YtmhonhkiakjdjaaDoor.Bes Go.Proofs.YtmhonhkiakjdjaaDoor.Box Go.Proofs.YtmhonhkiakjdjaaDoor.Hea Go.Proofs.YtmhonhkiakjdjaaDoor.Heb
set_option linter.unusedVariables false
set_option linter.unusedSimpArgs false

theorem own_cap {E : TypeId} {w : World} {b n k : Nat} {zs : List Int} (h : Rd.Own E w b (.slice (some ⟨b, 0, none⟩) n k) zs) : n ≤ k ∧ k ≤ maxLen := by
  rcases h.form with ⟨h1, _⟩ | ⟨cap, h1, h2, h3, _⟩
  · simp at h1
  · simp at h1
    obtain ⟨rfl, rfl⟩ := h1
    exact ⟨h2, h3⟩
theorem one_bd {B : Int} : ∀ (y : List Int) (k : Nat), (∀ x ∈ y, x ≤ B) → wsum (fun _ => 1) y k ≤ B * (y.length : Int)
  | [], k, _ => by simp [wsum]
  | z :: zs, k, h => by
    have h1 := one_bd zs (k + 1) (fun x hx => h x (by simp [hx]))
    have h2 := h z (by simp)
    show z * 1 + wsum (fun _ => 1) zs (k + 1) ≤ B * ((zs.length + 1 : Nat) : Int)
    rw [Int.natCast_add, Int.mul_add]
    simp
    omega
theorem hgd_of {n : Nat} {B : Int} {y : List Int} (hl : y.length = n) (h : ∀ x ∈ y, 0 ≤ x ∧ x ≤ B) : Hgd n (B * (n : Int)) y := by
  refine ⟨hl, fun i => ?_, by rw [← hl]; exact one_bd y 0 (fun x hx => (h x hx).2)⟩
  rcases Nat.lt_or_ge i y.length with hi | hi
  · rw [List.getD_eq_getElem?_getD, List.getElem?_eq_getElem hi]; exact (h _ (List.getElem_mem hi)).1
  · rw [List.getD_eq_getElem?_getD, List.getElem?_eq_none hi]; exact Int.le_refl _
theorem field_cells {R C : Nat} {zs : List Int} (h : fieldB R C zs = true) : ∀ x ∈ zs, 0 ≤ x ∧ x ≤ 9 := by
  simp only [fieldB, Bool.and_eq_true] at h
  have ha := h.2.2
  unfold allB at ha
  rw [List.all_eq_true] at ha
  intro x hx
  have := ha x hx
  simp [okB] at this
  omega
theorem hgd_field {R C n : Nat} {zs : List Int} (h : fieldB R C zs = true) (hn : n = R * C) : Hgd n (9 * (n : Int)) zs := hgd_of (by rw [hn]; exact (field_nat h).2.2.1) (field_cells h)

set_option maxHeartbeats 2000000 in
theorem specNo {w : World} {s r : Int} {b : Nat} {v : Value} {zs : List Int} (h : Rd w b v zs) (hq : fieldB s r zs = false) :
    Calls Tryd.prog 15 #[ruleV s r v] w fun e w' => e = .returned (.tuple #[ruleV 0 0 (.slice none 0 0), .int .i64 0, .bool false]) ∧ Below w.heap.size w w' := by
  have HH := hid h
  have HQ := hid hq
  obtain ⟨ao, cap, rfl, hc, hm, _⟩ := h
  clear hc hm hq
  go_enter Tryd.func15, Tryd.ntmps15
  go_wp2_with fail
  obtain ⟨w1, hW⟩ : ∃ w1, w1 = (w.alloc (Obj.cells #[.int .i64 s, .int .i64 r, .slice ao zs.length cap] 26)).alloc (Obj.cells #[.int .i64 0, .int .i64 0, .slice none 0 0] 26) := ⟨_, rfl⟩
  obtain ⟨N, hN⟩ : ∃ N, N = w.heap.size := ⟨_, rfl⟩
  obtain ⟨NT, hM⟩ : ∃ NT, NT = N + 1 := ⟨_, rfl⟩
  have st : Below w.heap.size w w1 ∧ w1.cell? ⟨N, 0, none⟩ = some (.int .i64 s) ∧ w1.cell? ⟨N, 1, none⟩ = some (.int .i64 r) ∧ w1.cell? ⟨N, 2, none⟩ = some (.slice ao zs.length cap) ∧ Rd w1 b (.slice ao zs.length cap) zs ∧ w.heap.size ≤ w1.heap.size := by
    rw [hW, hN]
    exact ⟨Go.Joins.below_alloc2 _ _ _, by simp, by simp, by simp, HH.out.keep (Go.Joins.below_alloc2 _ _ _) (Nat.le_refl _), by simp; omega⟩
  have kT : w1.heap[NT]? = some (Obj.cells #[.int .i64 0, .int .i64 0, .slice none 0 0] 26) := by rw [hW]; exact FNew.heap_top (by rw [hM, hN]; simp)
  have HNT : Hid (w.heap.size ≤ NT) := by simp only [Hid]; omega
  have HNN : Hid (NT = N + 1 ∧ N = w.heap.size) := ⟨hM, hN⟩
  simp only [← hW, ← hN, ← hM]
  clear hW hN hM
  go_at_call 38
  refine (FSpec.is (rd3_1_0 st) st.2.1 st.2.2.1 st.2.2.2.1).mono ?_
  rw [HQ.out]
  rintro e w2 ⟨rfl, m, hw2⟩
  have bel : Below w1.heap.size w1 w2 := by rw [hw2]; exact FSpec.below_drewN' _ _ _
  clear hw2
  replace st := next3_1 bel st
  replace kT := (bel.block NT (Array.getElem?_eq_some_iff.1 kT).1).trans kT
  clear bel

  have HB := hid st.1
  have y0 : w2.cell? ⟨NT, 0, none⟩ = some (.int .i64 0) := Go.Joins.cell_of_block kT 0
  have y1 : w2.cell? ⟨NT, 1, none⟩ = some (.int .i64 0) := Go.Joins.cell_of_block kT 1
  have y2 : w2.cell? ⟨NT, 2, none⟩ = some (.slice none 0 0) := Go.Joins.cell_of_block kT 2
  have g0 : w2.frozen? ⟨NT, 0, none⟩ = false := Go.Joins.unfrozen_of_block kT 0
  have g1 : w2.frozen? ⟨NT, 1, none⟩ = false := Go.Joins.unfrozen_of_block kT 1
  have g2 : w2.frozen? ⟨NT, 2, none⟩ = false := Go.Joins.unfrozen_of_block kT 2
  have HKx := hid kT
  clear kT
  go_wp2
  obtain ⟨W5, hW⟩ : ∃ W5, W5 = (((w2.setCell ⟨NT, 0, none⟩ (.int .i64 0)).setCell ⟨NT, 1, none⟩ (.int .i64 0)).setCell ⟨NT, 2, none⟩ (.slice none 0 0)) := ⟨_, rfl⟩
  have q0 := (Go.Joins.block_setCell (i := 2) (Go.Joins.block_setCell (i := 1) (Go.Joins.block_setCell (i := 0) HKx.out (.int .i64 0)) (.int .i64 0)) (.slice none 0 0))
  rw [← hW] at q0
  have z0 : W5.cell? ⟨NT, 0, none⟩ = some (.int .i64 0) := Go.Joins.cell_of_block q0 0
  have z1 : W5.cell? ⟨NT, 1, none⟩ = some (.int .i64 0) := Go.Joins.cell_of_block q0 1
  have z2 : W5.cell? ⟨NT, 2, none⟩ = some (.slice none 0 0) := Go.Joins.cell_of_block q0 2
  have B5 : Below w.heap.size w W5 := by
    have h1 := HNT.out
    rw [hW]
    exact ((HB.out.setCell (by simp; omega) _).setCell (by simp; omega) _).setCell (by simp; omega) _
  simp only [← hW]
  clear hW q0
  simp [bodyPost, results, Tryd.results15, go_sem, z0, z1, z2]
  exact B5

set_option maxHeartbeats 2000000 in
theorem implNo {w : World} {s r : Int} {b : Nat} {v : Value} {zs : List Int} (h : Rd w b v zs) (hq : fieldB s r zs = false) :
    Calls Tryd.prog 16 #[ruleV s r v] w fun e w' => e = .returned (.tuple #[ruleV 0 0 (.slice none 0 0), .int .i64 0, .bool false]) ∧ Below w.heap.size w w' := by
  have HH := hid h
  have HQ := hid hq
  obtain ⟨ao, cap, rfl, hc, hm, _⟩ := h
  clear hc hm hq
  go_enter Tryd.func16, Tryd.ntmps16
  go_wp2_with fail
  obtain ⟨w1, hW⟩ : ∃ w1, w1 = (w.alloc (Obj.cells #[.int .i64 s, .int .i64 r, .slice ao zs.length cap] 26)).alloc (Obj.cells #[.int .i64 0, .int .i64 0, .slice none 0 0] 26) := ⟨_, rfl⟩
  obtain ⟨N, hN⟩ : ∃ N, N = w.heap.size := ⟨_, rfl⟩
  obtain ⟨NT, hM⟩ : ∃ NT, NT = N + 1 := ⟨_, rfl⟩
  have st : Below w.heap.size w w1 ∧ w1.cell? ⟨N, 0, none⟩ = some (.int .i64 s) ∧ w1.cell? ⟨N, 1, none⟩ = some (.int .i64 r) ∧ w1.cell? ⟨N, 2, none⟩ = some (.slice ao zs.length cap) ∧ Rd w1 b (.slice ao zs.length cap) zs ∧ w.heap.size ≤ w1.heap.size := by
    rw [hW, hN]
    exact ⟨Go.Joins.below_alloc2 _ _ _, by simp, by simp, by simp, HH.out.keep (Go.Joins.below_alloc2 _ _ _) (Nat.le_refl _), by simp; omega⟩
  have kT : w1.heap[NT]? = some (Obj.cells #[.int .i64 0, .int .i64 0, .slice none 0 0] 26) := by rw [hW]; exact FNew.heap_top (by rw [hM, hN]; simp)
  have HNT : Hid (w.heap.size ≤ NT) := by simp only [Hid]; omega
  have HNN : Hid (NT = N + 1 ∧ N = w.heap.size) := ⟨hM, hN⟩
  simp only [← hW, ← hN, ← hM]
  clear hW hN hM
  go_at_call 40
  refine (implValid (rd3_1_0 st)).mono ?_
  rw [HQ.out]
  rintro e w2 ⟨rfl, bel⟩
  replace st := next3_1 bel st
  replace kT := (bel.block NT (Array.getElem?_eq_some_iff.1 kT).1).trans kT
  clear bel

  have HB := hid st.1
  have y0 : w2.cell? ⟨NT, 0, none⟩ = some (.int .i64 0) := Go.Joins.cell_of_block kT 0
  have y1 : w2.cell? ⟨NT, 1, none⟩ = some (.int .i64 0) := Go.Joins.cell_of_block kT 1
  have y2 : w2.cell? ⟨NT, 2, none⟩ = some (.slice none 0 0) := Go.Joins.cell_of_block kT 2
  have g0 : w2.frozen? ⟨NT, 0, none⟩ = false := Go.Joins.unfrozen_of_block kT 0
  have g1 : w2.frozen? ⟨NT, 1, none⟩ = false := Go.Joins.unfrozen_of_block kT 1
  have g2 : w2.frozen? ⟨NT, 2, none⟩ = false := Go.Joins.unfrozen_of_block kT 2
  have HKx := hid kT
  clear kT
  go_wp2
  obtain ⟨W5, hW⟩ : ∃ W5, W5 = (((w2.setCell ⟨NT, 0, none⟩ (.int .i64 0)).setCell ⟨NT, 1, none⟩ (.int .i64 0)).setCell ⟨NT, 2, none⟩ (.slice none 0 0)) := ⟨_, rfl⟩
  have q0 := (Go.Joins.block_setCell (i := 2) (Go.Joins.block_setCell (i := 1) (Go.Joins.block_setCell (i := 0) HKx.out (.int .i64 0)) (.int .i64 0)) (.slice none 0 0))
  rw [← hW] at q0
  have z0 : W5.cell? ⟨NT, 0, none⟩ = some (.int .i64 0) := Go.Joins.cell_of_block q0 0
  have z1 : W5.cell? ⟨NT, 1, none⟩ = some (.int .i64 0) := Go.Joins.cell_of_block q0 1
  have z2 : W5.cell? ⟨NT, 2, none⟩ = some (.slice none 0 0) := Go.Joins.cell_of_block q0 2
  have B5 : Below w.heap.size w W5 := by
    have h1 := HNT.out
    rw [hW]
    exact ((HB.out.setCell (by simp; omega) _).setCell (by simp; omega) _).setCell (by simp; omega) _
  simp only [← hW]
  clear hW q0
  simp [bodyPost, results, Tryd.results16, go_sem, z0, z1, z2]
  exact B5

set_option maxHeartbeats 4000000 in
theorem specOk {w : World} {R C n MM : Nat} {b : Nat} {v : Value} {zs : List Int} (h : Rd w b v zs) (hq : fieldB R C zs = true) (hn : n = R * C) (hR : 1 ≤ R ∧ R ≤ 24) (hC : 1 ≤ C ∧ C ≤ 24) (hN : hv (hseq R C zs MM) = n) (hj : ∀ j, j < MM → hv (hseq R C zs j) < n) (hMM : MM ≤ 100000000) :
    Calls Tryd.prog 15 #[ruleV R C v] w fun e w' => ∃ b' k, e = .returned (.tuple #[ruleV R C (.slice (some ⟨b', 0, none⟩) n k), .int .i64 (MM : Int), .bool true]) ∧ Rd.Own 2 w' b' (.slice (some ⟨b', 0, none⟩) n k) (hseq R C zs MM) ∧ w.heap.size ≤ b' ∧ Below w.heap.size w w' := by
  have HL : Hid (zs.length = n) := by simp only [Hid]; rw [hn]; exact (field_nat hq).2.2.1
  have HZ : Hid (1 ≤ zs.length ∧ zs.length ≤ 1048576) := by
    obtain ⟨hR, hC, hl, hle⟩ := field_nat hq
    simp only [Hid]; rw [hl]; exact ⟨Nat.mul_pos hR.1 hC.1, by omega⟩
  have HT9 : Hid (9 * (n : Int) ≤ 20000) := by
    have := (field_nat hq).2.2.2
    simp only [Hid]; rw [← hn] at this; omega
  have HRC := hid (And.intro hR hC)
  have HE := hid (And.intro hN hj)
  have HH := hid h
  have HQ := hid hq
  have HN := hid hn
  skip
  obtain ⟨ao, cap, rfl, hc, hm, _⟩ := h
  clear hc hm hq hn hR hC hN hj
  go_enter Tryd.func15, Tryd.ntmps15
  go_wp2_with fail
  obtain ⟨w1, hW⟩ : ∃ w1, w1 = (w.alloc (Obj.cells #[.int .i64 R, .int .i64 C, .slice ao zs.length cap] 26)).alloc (Obj.cells #[.int .i64 0, .int .i64 0, .slice none 0 0] 26) := ⟨_, rfl⟩
  obtain ⟨N, hN⟩ : ∃ N, N = w.heap.size := ⟨_, rfl⟩
  obtain ⟨NT, hM⟩ : ∃ NT, NT = N + 1 := ⟨_, rfl⟩
  have st : Below w.heap.size w w1 ∧ w1.cell? ⟨N, 0, none⟩ = some (.int .i64 R) ∧ w1.cell? ⟨N, 1, none⟩ = some (.int .i64 C) ∧ w1.cell? ⟨N, 2, none⟩ = some (.slice ao zs.length cap) ∧ Rd w1 b (.slice ao zs.length cap) zs ∧ w.heap.size ≤ w1.heap.size := by
    rw [hW, hN]
    exact ⟨Go.Joins.below_alloc2 _ _ _, by simp, by simp, by simp, HH.out.keep (Go.Joins.below_alloc2 _ _ _) (Nat.le_refl _), by simp; omega⟩
  have kT : w1.heap[NT]? = some (Obj.cells #[.int .i64 0, .int .i64 0, .slice none 0 0] 26) := by rw [hW]; exact FNew.heap_top (by rw [hM, hN]; simp)
  have HNT : Hid (w.heap.size ≤ NT) := by simp only [Hid]; omega
  have HNN : Hid (NT = N + 1 ∧ N = w.heap.size) := ⟨hM, hN⟩
  simp only [← hW, ← hN, ← hM]
  clear hW hN hM
  go_at_call 38
  refine (FSpec.is (rd3_1_0 st) st.2.1 st.2.2.1 st.2.2.2.1).mono ?_
  rw [HQ.out]
  rintro e w2 ⟨rfl, m, hw2⟩
  have bel : Below w1.heap.size w1 w2 := by rw [hw2]; exact FSpec.below_drewN' _ _ _
  clear hw2
  replace st := next3_1 bel st
  replace kT := (bel.block NT (Array.getElem?_eq_some_iff.1 kT).1).trans kT
  clear bel

  go_wp2_with fail
  go_at_call 39
  refine (Set.l04Settle st.2.1 st.2.2.1 st.2.2.2.1 (rd3_1_0 st) HRC.out.1 HRC.out.2 HN.out (hgd_field HQ.out HN.out) HT9.out hMM HE.out.1 HE.out.2).mono ?_
  rintro e w3 ⟨b', k, rfl, ow, lo, bel⟩
  have HLo : Hid (w.heap.size ≤ b') := Nat.le_trans st.1.size lo
  have HNB : Hid (NT ≠ b') := Nat.ne_of_lt (Nat.lt_of_lt_of_le (Array.getElem?_eq_some_iff.1 kT).1 lo)
  replace kT := heap_keep bel kT
  replace st := next3_1 bel st
  clear bel lo
  obtain ⟨w4, hW⟩ : ∃ w4, w4 = w3.alloc (Obj.cells #[.int .i64 R, .int .i64 C, .slice (some ⟨b', 0, none⟩) n k] 26) := ⟨_, rfl⟩
  obtain ⟨NX, hN⟩ : ∃ NX, NX = w3.heap.size := ⟨_, rfl⟩
  have bel : Below w3.heap.size w3 w4 := by rw [hW]; exact below1 _ _
  have kX : w4.heap[NX]? = some (Obj.cells #[.int .i64 R, .int .i64 C, .slice (some ⟨b', 0, none⟩) n k] 26) := by rw [hW]; exact FNew.heap_top hN
  have hXT : NT ≠ NX := by rw [hN]; exact Nat.ne_of_lt (heap_lt kT)
  have hXb : NX ≠ b' := by rw [hN]; exact Nat.ne_of_gt ow.lt
  have hXl : w.heap.size ≤ NX := by rw [hN]; exact st.1.size
  replace kT := heap_keep bel kT
  replace ow := ow.keep bel
  replace st := next3_1 bel st
  clear bel

  have HB := hid st.1
  have HO := hid ow
  have x0 : w4.cell? ⟨NX, 0, none⟩ = some (.int .i64 R) := Go.Joins.cell_of_block kX 0
  have x1 : w4.cell? ⟨NX, 1, none⟩ = some (.int .i64 C) := Go.Joins.cell_of_block kX 1
  have x2 : w4.cell? ⟨NX, 2, none⟩ = some (.slice (some ⟨b', 0, none⟩) n k) := Go.Joins.cell_of_block kX 2
  clear kX hXT hXb hXl ow st
  have y0 : w4.cell? ⟨NT, 0, none⟩ = some (.int .i64 0) := Go.Joins.cell_of_block kT 0
  have y1 : w4.cell? ⟨NT, 1, none⟩ = some (.int .i64 0) := Go.Joins.cell_of_block kT 1
  have y2 : w4.cell? ⟨NT, 2, none⟩ = some (.slice none 0 0) := Go.Joins.cell_of_block kT 2
  have g0 : w4.frozen? ⟨NT, 0, none⟩ = false := Go.Joins.unfrozen_of_block kT 0
  have g1 : w4.frozen? ⟨NT, 1, none⟩ = false := Go.Joins.unfrozen_of_block kT 1
  have g2 : w4.frozen? ⟨NT, 2, none⟩ = false := Go.Joins.unfrozen_of_block kT 2
  have HKx := hid kT
  clear kT
  rw [hW, hN] at x0
  rw [hW, hN] at x1
  rw [hW, hN] at x2
  rw [hW] at y0
  rw [hW] at y1
  rw [hW] at y2
  rw [hW] at g0
  rw [hW] at g1
  rw [hW] at g2
  have HW4 := hid hW
  have HNX := hid hN
  clear hW hN
  go_wp2
  simp only [← HW4.out, ← HNX.out]
  obtain ⟨W5, hW⟩ : ∃ W5, W5 = (((w4.setCell ⟨NT, 0, none⟩ (.int .i64 R)).setCell ⟨NT, 1, none⟩ (.int .i64 C)).setCell ⟨NT, 2, none⟩ (.slice (some ⟨b', 0, none⟩) n k)) := ⟨_, rfl⟩
  have q0 := (Go.Joins.block_setCell (i := 2) (Go.Joins.block_setCell (i := 1) (Go.Joins.block_setCell (i := 0) HKx.out (.int .i64 R)) (.int .i64 C)) (.slice (some ⟨b', 0, none⟩) n k))
  rw [← hW] at q0
  have z0 : W5.cell? ⟨NT, 0, none⟩ = some (.int .i64 R) := Go.Joins.cell_of_block q0 0
  have z1 : W5.cell? ⟨NT, 1, none⟩ = some (.int .i64 C) := Go.Joins.cell_of_block q0 1
  have z2 : W5.cell? ⟨NT, 2, none⟩ = some (.slice (some ⟨b', 0, none⟩) n k) := Go.Joins.cell_of_block q0 2
  have O5 := (own_set (own_set (own_set HO.out ⟨NT, 0, none⟩ (.int .i64 R) HNB.out) ⟨NT, 1, none⟩ (.int .i64 C) HNB.out) ⟨NT, 2, none⟩ (.slice (some ⟨b', 0, none⟩) n k) HNB.out)
  rw [← hW] at O5
  have B5 : Below w.heap.size w W5 := by
    have h1 := HNT.out
    rw [hW]
    exact ((HB.out.setCell (by simp; omega) _).setCell (by simp; omega) _).setCell (by simp; omega) _
  simp only [← hW]
  clear hW q0
  simp [bodyPost, results, Tryd.results15, go_sem, z0, z1, z2]
  exact ⟨b', k, ⟨rfl, rfl⟩, O5, HLo.out, B5⟩

set_option maxHeartbeats 4000000 in
theorem implOk {w : World} {R C n MM : Nat} {b : Nat} {v : Value} {zs : List Int} (h : Rd w b v zs) (hq : fieldB R C zs = true) (hn : n = R * C) (hR : 1 ≤ R ∧ R ≤ 24) (hC : 1 ≤ C ∧ C ≤ 24) (hN : hv (hseq R C zs MM) = n) (hj : ∀ j, j < MM → hv (hseq R C zs j) < n) (hMM : MM ≤ 100000000) (hg : GW w) :
    Calls Tryd.prog 16 #[ruleV R C v] w fun e w' => ∃ b' k, e = .returned (.tuple #[ruleV R C (.slice (some ⟨b', 0, none⟩) n k), .int .i64 (MM : Int), .bool true]) ∧ Rd.Own 2 w' b' (.slice (some ⟨b', 0, none⟩) n k) (hseq R C zs MM) ∧ w.heap.size ≤ b' ∧ Below w.heap.size w w' := by
  have HL : Hid (zs.length = n) := by simp only [Hid]; rw [hn]; exact (field_nat hq).2.2.1
  have HZ : Hid (1 ≤ zs.length ∧ zs.length ≤ 1048576) := by
    obtain ⟨hR, hC, hl, hle⟩ := field_nat hq
    simp only [Hid]; rw [hl]; exact ⟨Nat.mul_pos hR.1 hC.1, by omega⟩
  have HT9 : Hid (9 * (n : Int) ≤ 20000) := by
    have := (field_nat hq).2.2.2
    simp only [Hid]; rw [← hn] at this; omega
  have HRC := hid (And.intro hR hC)
  have HE := hid (And.intro hN hj)
  have HH := hid h
  have HQ := hid hq
  have HN := hid hn
  have HG := hid hg
  obtain ⟨ao, cap, rfl, hc, hm, _⟩ := h
  clear hc hm hq hn hR hC hN hj hg
  go_enter Tryd.func16, Tryd.ntmps16
  go_wp2_with fail
  obtain ⟨w1, hW⟩ : ∃ w1, w1 = (w.alloc (Obj.cells #[.int .i64 R, .int .i64 C, .slice ao zs.length cap] 26)).alloc (Obj.cells #[.int .i64 0, .int .i64 0, .slice none 0 0] 26) := ⟨_, rfl⟩
  obtain ⟨N, hN⟩ : ∃ N, N = w.heap.size := ⟨_, rfl⟩
  obtain ⟨NT, hM⟩ : ∃ NT, NT = N + 1 := ⟨_, rfl⟩
  have st : Below w.heap.size w w1 ∧ w1.cell? ⟨N, 0, none⟩ = some (.int .i64 R) ∧ w1.cell? ⟨N, 1, none⟩ = some (.int .i64 C) ∧ w1.cell? ⟨N, 2, none⟩ = some (.slice ao zs.length cap) ∧ Rd w1 b (.slice ao zs.length cap) zs ∧ w.heap.size ≤ w1.heap.size := by
    rw [hW, hN]
    exact ⟨Go.Joins.below_alloc2 _ _ _, by simp, by simp, by simp, HH.out.keep (Go.Joins.below_alloc2 _ _ _) (Nat.le_refl _), by simp; omega⟩
  have kT : w1.heap[NT]? = some (Obj.cells #[.int .i64 0, .int .i64 0, .slice none 0 0] 26) := by rw [hW]; exact FNew.heap_top (by rw [hM, hN]; simp)
  have HNT : Hid (w.heap.size ≤ NT) := by simp only [Hid]; omega
  have HNN : Hid (NT = N + 1 ∧ N = w.heap.size) := ⟨hM, hN⟩
  simp only [← hW, ← hN, ← hM]
  clear hW hN hM
  go_at_call 40
  refine (implValid (rd3_1_0 st)).mono ?_
  rw [HQ.out]
  rintro e w2 ⟨rfl, bel⟩
  replace st := next3_1 bel st
  replace kT := (bel.block NT (Array.getElem?_eq_some_iff.1 kT).1).trans kT
  clear bel

  go_wp2_with fail
  go_at_call 33
  refine (copyOfN (rd3_1_0 st) HZ.out HL.out).mono ?_
  rintro e w3 ⟨b', k, rfl, ow, lo, bel⟩
  have HLo : Hid (w.heap.size ≤ b') := Nat.le_trans st.1.size lo
  have HNB : Hid (NT ≠ b') := Nat.ne_of_lt (Nat.lt_of_lt_of_le (Array.getElem?_eq_some_iff.1 kT).1 lo)
  replace kT := heap_keep bel kT
  replace st := next3_1 bel st
  clear bel lo
  go_wp2_with fail
  obtain ⟨w4, hW⟩ : ∃ w4, w4 = w3.alloc (Obj.cells #[.int .i64 R, .int .i64 C, .slice (some ⟨b', 0, none⟩) n k] 26) := ⟨_, rfl⟩
  obtain ⟨NX, hN⟩ : ∃ NX, NX = w3.heap.size := ⟨_, rfl⟩
  have bel : Below w3.heap.size w3 w4 := by rw [hW]; exact below1 _ _
  have kX : w4.heap[NX]? = some (Obj.cells #[.int .i64 R, .int .i64 C, .slice (some ⟨b', 0, none⟩) n k] 26) := by rw [hW]; exact FNew.heap_top hN
  have hXT : NT ≠ NX := by rw [hN]; exact Nat.ne_of_lt (heap_lt kT)
  have hXb : NX ≠ b' := by rw [hN]; exact Nat.ne_of_gt ow.lt
  have hXl : w.heap.size ≤ NX := by rw [hN]; exact st.1.size
  replace kT := heap_keep bel kT
  replace ow := ow.keep bel
  replace st := next3_1 bel st
  simp only [← hW, ← hN]
  clear hW hN bel

  have x0 : w4.cell? ⟨NX, 0, none⟩ = some (.int .i64 R) := Go.Joins.cell_of_block kX 0
  have x1 : w4.cell? ⟨NX, 1, none⟩ = some (.int .i64 C) := Go.Joins.cell_of_block kX 1
  have x2 : w4.cell? ⟨NX, 2, none⟩ = some (.slice (some ⟨b', 0, none⟩) n k) := Go.Joins.cell_of_block kX 2
  have HKX := hid kX
  have HKT := hid kT
  have HO := hid ow
  have HST := hid st.1
  have HXb := hid hXb
  clear kX kT ow st hXT hXb hXl
  go_wp2_with fail
  go_at_call 41
  refine (Stt.settle HO.out HRC.out.1 HRC.out.2 HN.out (hgd_field HQ.out HN.out) HT9.out hMM HE.out.1 HE.out.2 (gw_bel HG.out HST.out) (gw_ne HG.out HLo.out) (own_cap HO.out)).mono ?_
  rintro e w5 ⟨rfl, ow5, hg5⟩
  have HO5 := hid ow5
  have kT := g_heap hg5 HKT.out HNB.out
  have kX := g_heap hg5 HKX.out HXb.out
  have HB := hid (g_below HST.out hg5 HLo.out)
  clear x0 x1 x2 ow5 hg5
  have x0 : w5.cell? ⟨NX, 0, none⟩ = some (.int .i64 R) := Go.Joins.cell_of_block kX 0
  have x1 : w5.cell? ⟨NX, 1, none⟩ = some (.int .i64 C) := Go.Joins.cell_of_block kX 1
  have x2 : w5.cell? ⟨NX, 2, none⟩ = some (.slice (some ⟨b', 0, none⟩) n k) := Go.Joins.cell_of_block kX 2
  clear kX
  have y0 : w5.cell? ⟨NT, 0, none⟩ = some (.int .i64 0) := Go.Joins.cell_of_block kT 0
  have y1 : w5.cell? ⟨NT, 1, none⟩ = some (.int .i64 0) := Go.Joins.cell_of_block kT 1
  have y2 : w5.cell? ⟨NT, 2, none⟩ = some (.slice none 0 0) := Go.Joins.cell_of_block kT 2
  have g0 : w5.frozen? ⟨NT, 0, none⟩ = false := Go.Joins.unfrozen_of_block kT 0
  have g1 : w5.frozen? ⟨NT, 1, none⟩ = false := Go.Joins.unfrozen_of_block kT 1
  have g2 : w5.frozen? ⟨NT, 2, none⟩ = false := Go.Joins.unfrozen_of_block kT 2
  have HKx := hid kT
  clear kT
  go_wp2
  obtain ⟨W5, hW⟩ : ∃ W5, W5 = (((w5.setCell ⟨NT, 0, none⟩ (.int .i64 R)).setCell ⟨NT, 1, none⟩ (.int .i64 C)).setCell ⟨NT, 2, none⟩ (.slice (some ⟨b', 0, none⟩) n k)) := ⟨_, rfl⟩
  have q0 := (Go.Joins.block_setCell (i := 2) (Go.Joins.block_setCell (i := 1) (Go.Joins.block_setCell (i := 0) HKx.out (.int .i64 R)) (.int .i64 C)) (.slice (some ⟨b', 0, none⟩) n k))
  rw [← hW] at q0
  have z0 : W5.cell? ⟨NT, 0, none⟩ = some (.int .i64 R) := Go.Joins.cell_of_block q0 0
  have z1 : W5.cell? ⟨NT, 1, none⟩ = some (.int .i64 C) := Go.Joins.cell_of_block q0 1
  have z2 : W5.cell? ⟨NT, 2, none⟩ = some (.slice (some ⟨b', 0, none⟩) n k) := Go.Joins.cell_of_block q0 2
  have O5 := (own_set (own_set (own_set HO5.out ⟨NT, 0, none⟩ (.int .i64 R) HNB.out) ⟨NT, 1, none⟩ (.int .i64 C) HNB.out) ⟨NT, 2, none⟩ (.slice (some ⟨b', 0, none⟩) n k) HNB.out)
  rw [← hW] at O5
  have B5 : Below w.heap.size w W5 := by
    have h1 := HNT.out
    rw [hW]
    exact ((HB.out.setCell (by simp; omega) _).setCell (by simp; omega) _).setCell (by simp; omega) _
  simp only [← hW]
  clear hW q0
  simp [bodyPost, results, Tryd.results16, go_sem, z0, z1, z2]
  exact ⟨b', k, ⟨rfl, rfl⟩, O5, HLo.out, B5⟩

theorem agree (s r : Int) (zs : List Int) : ∃ (qs qr : Int) (rs : List Int) (q1 : Int) (ok : Bool), rs.length ≤ 1000000 ∧
    (∀ (w : World) (b : Nat) (v : Value), Rd w b v zs → Calls Tryd.prog 15 #[ruleV s r v] w fun e w' => ∃ ao c b', e = .returned (.tuple #[ruleV qs qr (.slice ao rs.length c), .int .i64 q1, .bool ok]) ∧ Rd.Own 2 w' b' (.slice ao rs.length c) rs ∧ w.heap.size ≤ b' ∧ Below w.heap.size w w') ∧
    (∀ (w : World) (b : Nat) (v : Value), GW w → Rd w b v zs → Calls Tryd.prog 16 #[ruleV s r v] w fun e w' => ∃ ao c b', e = .returned (.tuple #[ruleV qs qr (.slice ao rs.length c), .int .i64 q1, .bool ok]) ∧ Rd.Own 2 w' b' (.slice ao rs.length c) rs ∧ w.heap.size ≤ b' ∧ Below w.heap.size w w') := by
  cases hq : fieldB s r zs with
  | false =>
    refine ⟨0, 0, [], 0, false, by simp, fun w b v k => (specNo k hq).mono ?_, fun w b v _ k => (implNo k hq).mono ?_⟩
    · rintro e w' ⟨rfl, bel⟩
      exact ⟨none, 0, w.heap.size, rfl, Own.nil _ _ _, Nat.le_refl _, bel⟩
    · rintro e w' ⟨rfl, bel⟩
      exact ⟨none, 0, w.heap.size, rfl, Own.nil _ _ _, Nat.le_refl _, bel⟩
  | true =>
    have hb : (1 ≤ s ∧ s ≤ 24) ∧ 1 ≤ r ∧ r ≤ 24 := by
      have h1 := hq
      simp only [fieldB, Bool.and_eq_true] at h1
      have := h1.1
      simp [sidesB] at this; omega
    obtain ⟨R, rfl⟩ := Int.eq_ofNat_of_zero_le (show 0 ≤ s by omega)
    obtain ⟨C, rfl⟩ := Int.eq_ofNat_of_zero_le (show 0 ≤ r by omega)
    have hle : R * C ≤ 24 * 24 := Nat.mul_le_mul (by omega) (by omega)
    have hR : 1 ≤ R ∧ R ≤ 24 := by omega
    have hC : 1 ≤ C ∧ C ≤ 24 := by omega
    obtain ⟨N, h1, h2, h3⟩ := settle_ex hC.1 hR.2 rfl (T := 9 * ((R * C : Nat) : Int)) (by omega) (hgd_field hq rfl)
    have hN : N ≤ 100000000 := by omega
    have hlen : (hseq R C zs N).length = R * C := (hseq_good hC.1 rfl (hgd_field hq rfl) h3 N (Nat.le_refl _)).1
    refine ⟨R, C, hseq R C zs N, N, true, by omega, fun w b v k => (specOk k hq rfl hR hC h2 h3 hN).mono ?_, fun w b v g k => (implOk k hq rfl hR hC h2 h3 hN g).mono ?_⟩
    · rintro e w' ⟨b', c, rfl, ow, lo, bel⟩
      exact ⟨some ⟨b', 0, none⟩, c, b', by rw [hlen], by rw [hlen]; exact ow, lo, bel⟩
    · rintro e w' ⟨b', c, rfl, ow, lo, bel⟩
      exact ⟨some ⟨b', 0, none⟩, c, b', by rw [hlen], by rw [hlen]; exact ow, lo, bel⟩


end Go.Proofs.YtmhonhkiakjdjaaDoor.Sth
