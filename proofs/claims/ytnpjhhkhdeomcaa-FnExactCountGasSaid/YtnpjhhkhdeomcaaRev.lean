/- ReverseGas of both sides. -/
import Derived.Test.YtnpjhhkhdeomcaaGOwn
import Derived.Test.YtnpjhhkhdeomcaaIsV
import Derived.Test.YtnpjhhkhdeomcaaTrn
import Derived.Test.YtnpjhhkhdeomcaaGrow
namespace Go.Proofs.Ytnpjhhkhdeomcaa.Rev
open Go.RowKit Go.Proofs.Ytnpjhhkhdeomcaa.Rd Go.Proofs.Ytnpjhhkhdeomcaa.Rdb Go.Proofs.Ytnpjhhkhdeomcaa.Help Go.Proofs.Ytnpjhhkhdeomcaa.Ring Go.Proofs.Ytnpjhhkhdeomcaa.Small Go.Proofs.Ytnpjhhkhdeomcaa.FVal Go.Proofs.Ytnpjhhkhdeomcaa.Keep Go.Proofs.Ytnpjhhkhdeomcaa.Rule Go.Proofs.Ytnpjhhkhdeomcaa.GVal Go.Proofs.Ytnpjhhkhdeomcaa.GOwn Go.Proofs.Ytnpjhhkhdeomcaa.Trn
set_option linter.unusedVariables false
set_option linter.unusedSimpArgs false
theorem gas_parts {g s r : Int} {xs : List Int} {ys : List Bool} (h : gasB g s r xs ys = true) : (g = 4 ∨ g = 6) ∧ 1 ≤ xs.length ∧ xs.length ≤ 256 ∧ ys.length = xs.length ∧ allB xs (top g + 1) = true := by
  simp only [gasB, Bool.and_eq_true, decide_eq_true_eq] at h
  obtain ⟨h1, h2, h3, h4, h5⟩ := h
  have hs : (1 ≤ s ∧ s ≤ 16) ∧ 1 ≤ r ∧ r ≤ 16 := by simp [sd16] at h2; omega
  obtain ⟨a, rfl⟩ := Int.eq_ofNat_of_zero_le (show 0 ≤ s by omega)
  obtain ⟨b, rfl⟩ := Int.eq_ofNat_of_zero_le (show 0 ≤ r by omega)
  have e1 : a * b ≤ 16 * 16 := Nat.mul_le_mul (by omega) (by omega)
  have e2 : 1 * 1 ≤ a * b := Nat.mul_le_mul (by omega) (by omega)
  have e3 : ((a * b : Nat) : Int) = (a : Int) * b := by simp
  exact ⟨h1, by omega, by omega, h4, h5⟩
theorem cell_bd {xs : List Int} {t : Int} {k : Nat} (h : allB xs t = true) (hk : k < xs.length) : 0 ≤ xs.getD k 0 ∧ xs.getD k 0 ≤ t - 1 := by
  unfold allB at h
  rw [List.all_eq_true] at h
  have := h (xs.getD k 0) (by simp [List.getD, hk])
  simpa [okB] using this
/-- The first k from one list, the others from another. -/
def mixN (t xs : List Int) (k : Nat) : List Int := t.take k ++ xs.drop k
theorem mixN_zero (t xs : List Int) : mixN t xs 0 = xs := by simp [mixN]
theorem mixN_all (t xs : List Int) (h : t.length = xs.length) : mixN t xs xs.length = t := by unfold mixN; rw [List.drop_length, List.append_nil, ← h, List.take_length]
theorem mixN_len (t xs : List Int) (k : Nat) (h : t.length = xs.length) (hk : k ≤ xs.length) : (mixN t xs k).length = xs.length := by simp [mixN]; omega
theorem mixN_set (t xs : List Int) (k : Nat) (h : t.length = xs.length) (hk : k < xs.length) : (mixN t xs k).set k (t.getD k 0) = mixN t xs (k + 1) := by
  apply List.ext_getElem?
  intro j
  rw [List.getElem?_set]
  have e1 : (t.take k).length = k := by simp; omega
  have e2 : (t.take (k + 1)).length = k + 1 := by simp; omega
  by_cases hj : k = j
  · subst hj
    rw [if_pos rfl, if_pos (by rw [mixN_len _ _ _ h (by omega)]; exact hk)]
    unfold mixN
    rw [List.getElem?_append_left (by omega), List.getElem?_take, if_pos (by omega)]
    simp [List.getD, show k < t.length by omega]
  · rw [if_neg hj]
    unfold mixN
    by_cases hi : j < k
    · rw [List.getElem?_append_left (by omega), List.getElem?_append_left (by omega), List.getElem?_take, List.getElem?_take, if_pos (by omega), if_pos (by omega)]
    · rw [List.getElem?_append_right (by omega), List.getElem?_append_right (by omega), e1, e2, List.getElem?_drop, List.getElem?_drop]
      congr 1
      omega
theorem nx5_IB {N : Nat} {w0 w w' : World} {p0 p1 p2 p3 p4 : Addr} {c0 c1 c2 c3 c4 : Value} {b0 : Nat} {v0 : Value} {z0 : List Int} {b1 : Nat} {v1 : Value} {z1 : List Bool} (bel : Below w.heap.size w w') (h : Below N w0 w ∧ w.cell? p0 = some c0 ∧ w.cell? p1 = some c1 ∧ w.cell? p2 = some c2 ∧ w.cell? p3 = some c3 ∧ w.cell? p4 = some c4 ∧ Rd w b0 v0 z0 ∧ RdB w b1 v1 z1 ∧ N ≤ w.heap.size) : Below N w0 w' ∧ w'.cell? p0 = some c0 ∧ w'.cell? p1 = some c1 ∧ w'.cell? p2 = some c2 ∧ w'.cell? p3 = some c3 ∧ w'.cell? p4 = some c4 ∧ Rd w' b0 v0 z0 ∧ RdB w' b1 v1 z1 ∧ N ≤ w'.heap.size := by obtain ⟨h0, x0, x1, x2, x3, x4, y0, y1, h5⟩ := h; exact ⟨h0.trans (bel.mono h5), cell_keep bel x0, cell_keep bel x1, cell_keep bel x2, cell_keep bel x3, cell_keep bel x4, y0.keep bel (Nat.le_refl _), y1.keep bel (Nat.le_refl _), Nat.le_trans h5 bel.size⟩
theorem drw5_IB {N : Nat} {w0 w : World} {p0 p1 p2 p3 p4 : Addr} {c0 c1 c2 c3 c4 : Value} {b0 : Nat} {v0 : Value} {z0 : List Int} {b1 : Nat} {v1 : Value} {z1 : List Bool} (h : Below N w0 w ∧ w.cell? p0 = some c0 ∧ w.cell? p1 = some c1 ∧ w.cell? p2 = some c2 ∧ w.cell? p3 = some c3 ∧ w.cell? p4 = some c4 ∧ Rd w b0 v0 z0 ∧ RdB w b1 v1 z1 ∧ N ≤ w.heap.size) : Below N w0 w.drew ∧ w.drew.cell? p0 = some c0 ∧ w.drew.cell? p1 = some c1 ∧ w.drew.cell? p2 = some c2 ∧ w.drew.cell? p3 = some c3 ∧ w.drew.cell? p4 = some c4 ∧ Rd w.drew b0 v0 z0 ∧ RdB w.drew b1 v1 z1 ∧ N ≤ w.drew.heap.size := by obtain ⟨h0, x0, x1, x2, x3, x4, y0, y1, h5⟩ := h; exact ⟨h0.drew, x0, x1, x2, x3, x4, y0, y1, h5⟩
theorem rdx5_IB_0 {N : Nat} {w0 w : World} {p0 p1 p2 p3 p4 : Addr} {c0 c1 c2 c3 c4 : Value} {b0 : Nat} {v0 : Value} {z0 : List Int} {b1 : Nat} {v1 : Value} {z1 : List Bool} (h : Below N w0 w ∧ w.cell? p0 = some c0 ∧ w.cell? p1 = some c1 ∧ w.cell? p2 = some c2 ∧ w.cell? p3 = some c3 ∧ w.cell? p4 = some c4 ∧ Rd w b0 v0 z0 ∧ RdB w b1 v1 z1 ∧ N ≤ w.heap.size) : Rd w b0 v0 z0 := by obtain ⟨h0, x0, x1, x2, x3, x4, y0, y1, h5⟩ := h; exact y0
theorem rdx5_IB_1 {N : Nat} {w0 w : World} {p0 p1 p2 p3 p4 : Addr} {c0 c1 c2 c3 c4 : Value} {b0 : Nat} {v0 : Value} {z0 : List Int} {b1 : Nat} {v1 : Value} {z1 : List Bool} (h : Below N w0 w ∧ w.cell? p0 = some c0 ∧ w.cell? p1 = some c1 ∧ w.cell? p2 = some c2 ∧ w.cell? p3 = some c3 ∧ w.cell? p4 = some c4 ∧ Rd w b0 v0 z0 ∧ RdB w b1 v1 z1 ∧ N ≤ w.heap.size) : RdB w b1 v1 z1 := by obtain ⟨h0, x0, x1, x2, x3, x4, y0, y1, h5⟩ := h; exact y1
def turnI (x g b : Int) : Int := (trn x.toNat g.toNat b g.toNat : Int)
def revL (g : Int) (xs : List Int) : List Int := xs.map (fun x => turnI x g (g / 2))
theorem revL_get {g : Int} {xs : List Int} {k : Nat} (h : k < xs.length) : (revL g xs).getD k 0 = turnI (xs.getD k 0) g (g / 2) := by simp [revL, List.getD, h]
set_option maxHeartbeats 4000000 in
theorem specNo {w : World} {g s r : Int} {b1 b2 : Nat} {v1 v2 : Value} {xs : List Int} {ys : List Bool} (h1 : Rd w b1 v1 xs) (h2 : RdB w b2 v2 ys) (hq : gasB g s r xs ys = false) :
    Calls Try.prog 23 #[gasV g s r v1 v2] w fun e w' => e = .returned (.tuple #[gasV 0 0 0 (.slice none 0 0) (.slice none 0 0), .bool false]) ∧ Below w.heap.size w w' := by
  have H1 := hid h1
  have H2 := hid h2
  have HQ := hid hq
  obtain ⟨ao1, cap1, rfl, _, _, _⟩ := h1
  obtain ⟨ao2, cap2, rfl, _, _, _⟩ := h2
  clear hq
  go_enter Try.func23, Try.ntmps23
  go_wp2_with fail
  obtain ⟨w1, hW⟩ : ∃ w1, w1 = (w.alloc (Obj.cells #[.int .i64 g, .int .i64 s, .int .i64 r, (Value.slice ao1 xs.length cap1), (Value.slice ao2 ys.length cap2)] 31)).alloc (Obj.cells #[.int .i64 0, .int .i64 0, .int .i64 0, .slice none 0 0, .slice none 0 0] 31) := ⟨_, rfl⟩
  obtain ⟨N, hN⟩ : ∃ N, N = w.heap.size := ⟨_, rfl⟩
  obtain ⟨NT, hM⟩ : ∃ NT, NT = N + 1 := ⟨_, rfl⟩
  have st : Below w.heap.size w w1 ∧ w1.cell? ⟨N, 0, none⟩ = some (.int .i64 g) ∧ w1.cell? ⟨N, 1, none⟩ = some (.int .i64 s) ∧ w1.cell? ⟨N, 2, none⟩ = some (.int .i64 r) ∧ w1.cell? ⟨N, 3, none⟩ = some ((Value.slice ao1 xs.length cap1)) ∧ w1.cell? ⟨N, 4, none⟩ = some ((Value.slice ao2 ys.length cap2)) ∧ Rd w1 b1 (Value.slice ao1 xs.length cap1) xs ∧ RdB w1 b2 (Value.slice ao2 ys.length cap2) ys ∧ w.heap.size ≤ w1.heap.size := by
    rw [hW, hN]
    exact ⟨Go.Joins.below_alloc2 _ _ _, by simp, by simp, by simp, by simp, by simp, H1.out.keep (Go.Joins.below_alloc2 _ _ _) (Nat.le_refl _), H2.out.keep (Go.Joins.below_alloc2 _ _ _) (Nat.le_refl _), by simp; omega⟩
  have kT : w1.heap[NT]? = some (Obj.cells #[.int .i64 0, .int .i64 0, .int .i64 0, .slice none 0 0, .slice none 0 0] 31) := by rw [hW]; exact FNew.heap_top (by rw [hM, hN]; simp)
  have HNT : Hid (w.heap.size ≤ NT) := by simp only [Hid]; omega
  have HNN : Hid (NT = N + 1 ∧ N = w.heap.size) := ⟨hM, hN⟩
  simp only [← hW, ← hN, ← hM]
  clear hW hN hM
  go_at_call 39
  refine (GVal.l06Is st.2.1 st.2.2.1 st.2.2.2.1 st.2.2.2.2.1 st.2.2.2.2.2.1 (rdx5_IB_0 st) (rdx5_IB_1 st)).mono ?_
  rw [HQ.out]
  rintro e w2 ⟨rfl, hm⟩
  have bel : Below w1.heap.size w1 w2 := by obtain ⟨m, hm⟩ := hm; rw [hm]; exact Help.below_drewN _ _ _
  clear hm
  replace st := nx5_IB bel st
  replace kT := (bel.block NT (Array.getElem?_eq_some_iff.1 kT).1).trans kT
  clear bel
  have HB := hid st.1
  have y0 : w2.cell? ⟨NT, 0, none⟩ = some (.int .i64 0) := Go.Joins.cell_of_block kT 0
  have y1 : w2.cell? ⟨NT, 1, none⟩ = some (.int .i64 0) := Go.Joins.cell_of_block kT 1
  have y2 : w2.cell? ⟨NT, 2, none⟩ = some (.int .i64 0) := Go.Joins.cell_of_block kT 2
  have y3 : w2.cell? ⟨NT, 3, none⟩ = some (.slice none 0 0) := Go.Joins.cell_of_block kT 3
  have y4 : w2.cell? ⟨NT, 4, none⟩ = some (.slice none 0 0) := Go.Joins.cell_of_block kT 4
  have g0 : w2.frozen? ⟨NT, 0, none⟩ = false := Go.Joins.unfrozen_of_block kT 0
  have g1 : w2.frozen? ⟨NT, 1, none⟩ = false := Go.Joins.unfrozen_of_block kT 1
  have g2 : w2.frozen? ⟨NT, 2, none⟩ = false := Go.Joins.unfrozen_of_block kT 2
  have g3 : w2.frozen? ⟨NT, 3, none⟩ = false := Go.Joins.unfrozen_of_block kT 3
  have g4 : w2.frozen? ⟨NT, 4, none⟩ = false := Go.Joins.unfrozen_of_block kT 4
  have HKx := hid kT
  clear kT
  go_wp2
  have q0 := (Go.Joins.block_setCell (i := 4) (Go.Joins.block_setCell (i := 3) (Go.Joins.block_setCell (i := 2) (Go.Joins.block_setCell (i := 1) (Go.Joins.block_setCell (i := 0) HKx.out (.int .i64 0)) (.int .i64 0)) (.int .i64 0)) (.slice none 0 0)) (.slice none 0 0))
  have B5 := (((((HB.out.setCell (p := ⟨NT, 0, none⟩) HNT.out (.int .i64 0)).setCell (p := ⟨NT, 1, none⟩) HNT.out (.int .i64 0)).setCell (p := ⟨NT, 2, none⟩) HNT.out (.int .i64 0)).setCell (p := ⟨NT, 3, none⟩) HNT.out (.slice none 0 0)).setCell (p := ⟨NT, 4, none⟩) HNT.out (.slice none 0 0))
  obtain ⟨W5, hW⟩ : ∃ W5, W5 = (((((w2.setCell ⟨NT, 0, none⟩ (.int .i64 0)).setCell ⟨NT, 1, none⟩ (.int .i64 0)).setCell ⟨NT, 2, none⟩ (.int .i64 0)).setCell ⟨NT, 3, none⟩ (.slice none 0 0)).setCell ⟨NT, 4, none⟩ (.slice none 0 0)) := ⟨_, rfl⟩
  rw [← hW] at q0 B5
  have z0 : W5.cell? ⟨NT, 0, none⟩ = some (.int .i64 0) := Go.Joins.cell_of_block q0 0
  have z1 : W5.cell? ⟨NT, 1, none⟩ = some (.int .i64 0) := Go.Joins.cell_of_block q0 1
  have z2 : W5.cell? ⟨NT, 2, none⟩ = some (.int .i64 0) := Go.Joins.cell_of_block q0 2
  have z3 : W5.cell? ⟨NT, 3, none⟩ = some (.slice none 0 0) := Go.Joins.cell_of_block q0 3
  have z4 : W5.cell? ⟨NT, 4, none⟩ = some (.slice none 0 0) := Go.Joins.cell_of_block q0 4
  simp only [← hW]
  clear hW q0
  simp [bodyPost, results, Try.results23, go_sem, z0, z1, z2, z3, z4]
  exact B5

set_option maxHeartbeats 4000000 in
theorem implNo {w : World} {g s r : Int} {b1 b2 : Nat} {v1 v2 : Value} {xs : List Int} {ys : List Bool} (h1 : Rd w b1 v1 xs) (h2 : RdB w b2 v2 ys) (hq : gasB g s r xs ys = false) :
    Calls Try.prog 24 #[gasV g s r v1 v2] w fun e w' => e = .returned (.tuple #[gasV 0 0 0 (.slice none 0 0) (.slice none 0 0), .bool false]) ∧ Below w.heap.size w w' := by
  have H1 := hid h1
  have H2 := hid h2
  have HQ := hid hq
  obtain ⟨ao1, cap1, rfl, _, _, _⟩ := h1
  obtain ⟨ao2, cap2, rfl, _, _, _⟩ := h2
  clear hq
  go_enter Try.func24, Try.ntmps24
  go_wp2_with fail
  obtain ⟨w1, hW⟩ : ∃ w1, w1 = (w.alloc (Obj.cells #[.int .i64 g, .int .i64 s, .int .i64 r, (Value.slice ao1 xs.length cap1), (Value.slice ao2 ys.length cap2)] 31)).alloc (Obj.cells #[.int .i64 0, .int .i64 0, .int .i64 0, .slice none 0 0, .slice none 0 0] 31) := ⟨_, rfl⟩
  obtain ⟨N, hN⟩ : ∃ N, N = w.heap.size := ⟨_, rfl⟩
  obtain ⟨NT, hM⟩ : ∃ NT, NT = N + 1 := ⟨_, rfl⟩
  have st : Below w.heap.size w w1 ∧ w1.cell? ⟨N, 0, none⟩ = some (.int .i64 g) ∧ w1.cell? ⟨N, 1, none⟩ = some (.int .i64 s) ∧ w1.cell? ⟨N, 2, none⟩ = some (.int .i64 r) ∧ w1.cell? ⟨N, 3, none⟩ = some ((Value.slice ao1 xs.length cap1)) ∧ w1.cell? ⟨N, 4, none⟩ = some ((Value.slice ao2 ys.length cap2)) ∧ Rd w1 b1 (Value.slice ao1 xs.length cap1) xs ∧ RdB w1 b2 (Value.slice ao2 ys.length cap2) ys ∧ w.heap.size ≤ w1.heap.size := by
    rw [hW, hN]
    exact ⟨Go.Joins.below_alloc2 _ _ _, by simp, by simp, by simp, by simp, by simp, H1.out.keep (Go.Joins.below_alloc2 _ _ _) (Nat.le_refl _), H2.out.keep (Go.Joins.below_alloc2 _ _ _) (Nat.le_refl _), by simp; omega⟩
  have kT : w1.heap[NT]? = some (Obj.cells #[.int .i64 0, .int .i64 0, .int .i64 0, .slice none 0 0, .slice none 0 0] 31) := by rw [hW]; exact FNew.heap_top (by rw [hM, hN]; simp)
  have HNT : Hid (w.heap.size ≤ NT) := by simp only [Hid]; omega
  have HNN : Hid (NT = N + 1 ∧ N = w.heap.size) := ⟨hM, hN⟩
  simp only [← hW, ← hN, ← hM]
  clear hW hN hM
  go_at_call 17
  refine (IsW.implValidGas (rdx5_IB_0 st) (rdx5_IB_1 st)).mono ?_
  rw [HQ.out]
  rintro e w2 ⟨rfl, bel⟩
  replace st := nx5_IB bel st
  replace kT := (bel.block NT (Array.getElem?_eq_some_iff.1 kT).1).trans kT
  clear bel
  have HB := hid st.1
  have y0 : w2.cell? ⟨NT, 0, none⟩ = some (.int .i64 0) := Go.Joins.cell_of_block kT 0
  have y1 : w2.cell? ⟨NT, 1, none⟩ = some (.int .i64 0) := Go.Joins.cell_of_block kT 1
  have y2 : w2.cell? ⟨NT, 2, none⟩ = some (.int .i64 0) := Go.Joins.cell_of_block kT 2
  have y3 : w2.cell? ⟨NT, 3, none⟩ = some (.slice none 0 0) := Go.Joins.cell_of_block kT 3
  have y4 : w2.cell? ⟨NT, 4, none⟩ = some (.slice none 0 0) := Go.Joins.cell_of_block kT 4
  have g0 : w2.frozen? ⟨NT, 0, none⟩ = false := Go.Joins.unfrozen_of_block kT 0
  have g1 : w2.frozen? ⟨NT, 1, none⟩ = false := Go.Joins.unfrozen_of_block kT 1
  have g2 : w2.frozen? ⟨NT, 2, none⟩ = false := Go.Joins.unfrozen_of_block kT 2
  have g3 : w2.frozen? ⟨NT, 3, none⟩ = false := Go.Joins.unfrozen_of_block kT 3
  have g4 : w2.frozen? ⟨NT, 4, none⟩ = false := Go.Joins.unfrozen_of_block kT 4
  have HKx := hid kT
  clear kT
  go_wp2
  have q0 := (Go.Joins.block_setCell (i := 4) (Go.Joins.block_setCell (i := 3) (Go.Joins.block_setCell (i := 2) (Go.Joins.block_setCell (i := 1) (Go.Joins.block_setCell (i := 0) HKx.out (.int .i64 0)) (.int .i64 0)) (.int .i64 0)) (.slice none 0 0)) (.slice none 0 0))
  have B5 := (((((HB.out.setCell (p := ⟨NT, 0, none⟩) HNT.out (.int .i64 0)).setCell (p := ⟨NT, 1, none⟩) HNT.out (.int .i64 0)).setCell (p := ⟨NT, 2, none⟩) HNT.out (.int .i64 0)).setCell (p := ⟨NT, 3, none⟩) HNT.out (.slice none 0 0)).setCell (p := ⟨NT, 4, none⟩) HNT.out (.slice none 0 0))
  obtain ⟨W5, hW⟩ : ∃ W5, W5 = (((((w2.setCell ⟨NT, 0, none⟩ (.int .i64 0)).setCell ⟨NT, 1, none⟩ (.int .i64 0)).setCell ⟨NT, 2, none⟩ (.int .i64 0)).setCell ⟨NT, 3, none⟩ (.slice none 0 0)).setCell ⟨NT, 4, none⟩ (.slice none 0 0)) := ⟨_, rfl⟩
  rw [← hW] at q0 B5
  have z0 : W5.cell? ⟨NT, 0, none⟩ = some (.int .i64 0) := Go.Joins.cell_of_block q0 0
  have z1 : W5.cell? ⟨NT, 1, none⟩ = some (.int .i64 0) := Go.Joins.cell_of_block q0 1
  have z2 : W5.cell? ⟨NT, 2, none⟩ = some (.int .i64 0) := Go.Joins.cell_of_block q0 2
  have z3 : W5.cell? ⟨NT, 3, none⟩ = some (.slice none 0 0) := Go.Joins.cell_of_block q0 3
  have z4 : W5.cell? ⟨NT, 4, none⟩ = some (.slice none 0 0) := Go.Joins.cell_of_block q0 4
  simp only [← hW]
  clear hW q0
  simp [bodyPost, results, Try.results24, go_sem, z0, z1, z2, z3, z4]
  exact B5

set_option maxHeartbeats 8000000 in
theorem specOk4 {w : World} {s r : Int} {b1 b2 : Nat} {v1 v2 : Value} {xs : List Int} {ys : List Bool} (h1 : Rd w b1 v1 xs) (h2 : RdB w b2 v2 ys) (hq : gasB 4 s r xs ys = true) :
    Calls Try.prog 23 #[gasV 4 s r v1 v2] w fun e w' => ∃ p kp q kq, e = .returned (.tuple #[gasV 4 s r (.slice (some ⟨p, 0, none⟩) xs.length kp) (.slice (some ⟨q, 0, none⟩) ys.length kq), .bool true]) ∧ Own 2 w' p (.slice (some ⟨p, 0, none⟩) xs.length kp) (revL 4 xs) ∧ OwnB 4 w' q (.slice (some ⟨q, 0, none⟩) ys.length kq) ys ∧ w.heap.size ≤ p ∧ p < q ∧ Below w.heap.size w w' := by
  obtain ⟨hg4, hn, hn256, hym, hcb⟩ := gas_parts hq
  have H1 := hid h1
  have H2 := hid h2
  have HQ := hid hq
  have HCB := hid hcb
  have HG4 := hid hg4
  obtain ⟨ao1, cap1, rfl, hc1, hm1, h41⟩ := h1
  obtain ⟨ao2, cap2, rfl, hc2, hm2, h42⟩ := h2
  obtain ⟨off1, rfl, hb1, hcell1⟩ := h41 (by omega)
  obtain ⟨off2, rfl, hb2, hcell2⟩ := h42 (by omega)
  have HC1 := hid hcell1
  have HBL := hid (And.intro hb1 hb2)
  have HYM := hid hym
  have hnI : (xs.length : Int) ≤ 256 := by omega
  have HLE : Hid (1 ≤ xs.length ∧ xs.length ≤ 256) := ⟨hn, hn256⟩
  clear hq hcb hg4 hc1 hm1 h41 hc2 hm2 h42 hb1 hb2 hcell1 hcell2 hym hn hn256
  go_enter Try.func23, Try.ntmps23
  go_wp2_with fail
  obtain ⟨w1, hW⟩ : ∃ w1, w1 = (w.alloc (Obj.cells #[.int .i64 4, .int .i64 s, .int .i64 r, (Value.slice (some ⟨b1, off1, none⟩) xs.length cap1), (Value.slice (some ⟨b2, off2, none⟩) ys.length cap2)] 31)).alloc (Obj.cells #[.int .i64 0, .int .i64 0, .int .i64 0, .slice none 0 0, .slice none 0 0] 31) := ⟨_, rfl⟩
  obtain ⟨N, hN⟩ : ∃ N, N = w.heap.size := ⟨_, rfl⟩
  obtain ⟨NT, hM⟩ : ∃ NT, NT = N + 1 := ⟨_, rfl⟩
  have st : Below w.heap.size w w1 ∧ w1.cell? ⟨N, 0, none⟩ = some (.int .i64 4) ∧ w1.cell? ⟨N, 1, none⟩ = some (.int .i64 s) ∧ w1.cell? ⟨N, 2, none⟩ = some (.int .i64 r) ∧ w1.cell? ⟨N, 3, none⟩ = some ((Value.slice (some ⟨b1, off1, none⟩) xs.length cap1)) ∧ w1.cell? ⟨N, 4, none⟩ = some ((Value.slice (some ⟨b2, off2, none⟩) ys.length cap2)) ∧ Rd w1 b1 (Value.slice (some ⟨b1, off1, none⟩) xs.length cap1) xs ∧ RdB w1 b2 (Value.slice (some ⟨b2, off2, none⟩) ys.length cap2) ys ∧ w.heap.size ≤ w1.heap.size := by
    rw [hW, hN]
    exact ⟨Go.Joins.below_alloc2 _ _ _, by simp, by simp, by simp, by simp, by simp, H1.out.keep (Go.Joins.below_alloc2 _ _ _) (Nat.le_refl _), H2.out.keep (Go.Joins.below_alloc2 _ _ _) (Nat.le_refl _), by simp; omega⟩
  have kT : w1.heap[NT]? = some (Obj.cells #[.int .i64 0, .int .i64 0, .int .i64 0, .slice none 0 0, .slice none 0 0] 31) := by rw [hW]; exact FNew.heap_top (by rw [hM, hN]; simp)
  have HNT : Hid (w.heap.size ≤ NT) := by simp only [Hid]; omega
  have HNN : Hid (NT = N + 1 ∧ N = w.heap.size) := ⟨hM, hN⟩
  simp only [← hW, ← hN, ← hM]
  clear hW hN hM
  go_at_call 39
  refine (GVal.l06Is st.2.1 st.2.2.1 st.2.2.2.1 st.2.2.2.2.1 st.2.2.2.2.2.1 (rdx5_IB_0 st) (rdx5_IB_1 st)).mono ?_
  rw [HQ.out]
  rintro e w2 ⟨rfl, hm⟩
  have bel : Below w1.heap.size w1 w2 := by obtain ⟨m, hm⟩ := hm; rw [hm]; exact Help.below_drewN _ _ _
  clear hm
  replace st := nx5_IB bel st
  replace kT := (bel.block NT (Array.getElem?_eq_some_iff.1 kT).1).trans kT
  clear bel
  go_wp2_with fail
  go_at_call 50
  refine (GOwn.l06Own st.2.1 st.2.2.1 st.2.2.2.1 st.2.2.2.2.1 st.2.2.2.2.2.1 (rdx5_IB_0 st) (rdx5_IB_1 st) (by have := HLE.out; omega) (by have := HLE.out; have := HYM.out; omega)).mono ?_
  rintro e w3 ⟨p, kp, q, kq, rfl, op, oq, lop, lpq, hkp, hkm, bel⟩
  have hNTp : NT < p := Nat.lt_of_lt_of_le (Array.getElem?_eq_some_iff.1 kT).1 lop
  have lob : w.heap.size ≤ p := Nat.le_trans st.1.size lop
  replace st := nx5_IB bel st
  replace kT := (bel.block NT (Array.getElem?_eq_some_iff.1 kT).1).trans kT
  clear bel lop
  obtain ⟨w4, hW⟩ : ∃ w4, w4 = w3.alloc (Obj.cells #[.int .i64 4, .int .i64 s, .int .i64 r, (Value.slice (some ⟨p, 0, none⟩) xs.length kp), (Value.slice (some ⟨q, 0, none⟩) ys.length kq)] 31) := ⟨_, rfl⟩
  obtain ⟨NO, hO⟩ : ∃ NO, NO = w3.heap.size := ⟨_, rfl⟩
  have hqO : q < NO := by
    rw [hO]
    rcases oq.form with ⟨hv, _⟩ | ⟨_, _, _, _, hb⟩
    · cases hv
    · exact hb
  have bel : Below w3.heap.size w3 w4 := by rw [hW]; exact below1 _ _
  replace st := nx5_IB bel st
  replace kT := (bel.block NT (Array.getElem?_eq_some_iff.1 kT).1).trans kT
  replace op := op.keep bel
  replace oq := oq.keep bel
  have kO : w4.heap[NO]? = some (Obj.cells #[.int .i64 4, .int .i64 s, .int .i64 r, (Value.slice (some ⟨p, 0, none⟩) xs.length kp), (Value.slice (some ⟨q, 0, none⟩) ys.length kq)] 31) := by rw [hW]; exact FNew.heap_top hO
  have HSX := hid st
  have HOP := hid op
  have HOQ := hid oq
  have HKT := hid kT
  have HKO := hid kO
  have HKP := hid (And.intro hkp hkm)
  have HAp := hid (show N < NT ∧ NT < p ∧ p < q ∧ q < NO ∧ w.heap.size ≤ p from ⟨by have := HNN.out; omega, hNTp, lpq, hqO, lob⟩)
  clear st op oq kT kO bel hNTp hqO lob lpq hkp hkm
  go_wp2
  simp only [← hW, ← hO]
  clear hW hO
  have HTL : Hid ((revL 4 xs).length = xs.length) := by simp [Hid, revL]
  go_loopw [5] (fun i wr => ∃ k : Nat, k ≤ xs.length ∧ i = .int .i64 k ∧ Own 2 wr p (Value.slice (some ⟨p, 0, none⟩) xs.length kp) (mixN (revL 4 xs) xs k) ∧ w4.grownBy wr (some p)) (fun i _ => xs.length - (intOf i).toNat)
  case atStart => exact ⟨0, Nat.zero_le _, rfl, by rw [mixN_zero]; exact HOP.out, World.grownBy.refl _ _⟩
  case round =>
    obtain ⟨k, hk, rfl, hown, hg⟩ := hrel
    have hpN : N ≠ p := Nat.ne_of_lt (Nat.lt_trans HAp.out.1 HAp.out.2.1)
    have hpO : NO ≠ p := Nat.ne_of_gt (Nat.lt_trans HAp.out.2.2.1 HAp.out.2.2.2.1)
    have c0 := Grow.g_cell hg HSX.out.2.1 hpN
    have c1 := Grow.g_cell hg HSX.out.2.2.1 hpN
    have c2 := Grow.g_cell hg HSX.out.2.2.2.1 hpN
    have c3 := Grow.g_cell hg HSX.out.2.2.2.2.1 hpN
    have c4 := Grow.g_cell hg HSX.out.2.2.2.2.2.1 hpN
    have d0 := Grow.g_cell hg (Go.Joins.cell_of_block HKO.out 0) hpO
    have d1 := Grow.g_cell hg (Go.Joins.cell_of_block HKO.out 1) hpO
    have d2 := Grow.g_cell hg (Go.Joins.cell_of_block HKO.out 2) hpO
    have d3 := Grow.g_cell hg (Go.Joins.cell_of_block HKO.out 3) hpO
    have d4 := Grow.g_cell hg (Go.Joins.cell_of_block HKO.out 4) hpO
    by_cases hlt : k < xs.length
    · obtain ⟨y, hy⟩ : ∃ y, y = xs.getD k 0 := ⟨_, rfl⟩
      have hyb : 0 ≤ y ∧ y < 64 := by
        have h1 := cell_bd HCB.out hlt
        rw [← hy] at h1
        have ht : top (4) ≤ 63 := by simp [top]
        omega
      obtain ⟨x, rfl⟩ := Int.eq_ofNat_of_zero_le hyb.1
      have HXB : Hid (x < 64) := by simp only [Hid]; omega
      have hpb : b1 ≠ p := Nat.ne_of_lt (Nat.lt_of_lt_of_le HBL.out.1 HAp.out.2.2.2.2)
      have hcx : wr.cell? ⟨b1, off1 + k, none⟩ = some (.int .i64 (x : Int)) := Grow.g_cell hg (by rw [hy]; exact (HSX.out.1.cell (p := ⟨b1, off1 + k, none⟩) HBL.out.1).trans (HC1.out k hlt)) hpb
      have HTX : Hid ((revL 4 xs).getD k 0 = (Trn.trn x 4 2 4 : Int)) := by simp only [Hid]; rw [revL_get hlt, ← hy]; rfl
      have hki : (k : Int) < (xs.length : Int) := by omega
      have hwr : IntKind.i64.wrap 2 = 2 := by rw [IntKind.wrap_i64]; omega
      have HO1 := hid hown
      have HG1 := hid hg
      clear hown hg hy hyb
      go_wp2_with fail
      refine wp_region_held_drew (S := (fun ww => w4.grownBy ww (some p) ∧ ww.cell? ⟨N, 0, none⟩ = some (.int .i64 4) ∧ ww.cell? ⟨N, 3, none⟩ = some ((Value.slice (some ⟨b1, off1, none⟩) xs.length cap1)) ∧ ww.cell? ⟨NO, 3, none⟩ = some ((Value.slice (some ⟨p, 0, none⟩) xs.length kp)) ∧ ww.cell? ⟨b1, off1 + k, none⟩ = some (.int .i64 (x : Int)) ∧ w4.heap.size ≤ ww.heap.size)) (by kernel_rfl) ?_ (fun hHeld => ?_)
      · ((try dsimp only); exact ⟨Grow.g_drew HG1.out, c0, c3, d3, hcx, HG1.out.size⟩)
      have ow : Own 2 wr.drew p (Value.slice (some ⟨p, 0, none⟩) xs.length kp) (mixN (revL 4 xs) xs k) := HO1.out
      generalize hD : wr.drew = wD at hHeld ow ⊢
      clear hcx c0 c1 c2 c3 c4 d0 d1 d2 d3 d4 hD
      (refine wpAnyH_take (i := 0) (v := ?_) rfl ?_ ?_ ?_ (fun _ _ _ h => h) (Or.inl ⟨?_, ?_⟩) ?_ ?_; rotate_left 1; (focus decide +kernel); (focus decide +kernel); (focus decide +kernel); (focus rfl); (focus (intro w hSw; (try dsimp only at hSw); go_simp; (try (with_reducible rfl)); done)); (focus assumption); (try simp only [Act.put, List.setIfInBounds_toArray, List.set_cons_zero, List.set_cons_succ, List.getElem_toArray, List.getElem_cons_succ, List.getElem_cons_zero]))
      (refine wpAnyH_take (i := 1) (v := ?_) rfl ?_ ?_ ?_ (fun _ _ _ h => h) (Or.inl ⟨?_, ?_⟩) ?_ ?_; rotate_left 1; (focus decide +kernel); (focus decide +kernel); (focus decide +kernel); (focus rfl); (focus (intro w hSw; (try dsimp only at hSw); go_simp; (try (with_reducible rfl)); done)); (focus assumption); (try simp only [Act.put, List.setIfInBounds_toArray, List.set_cons_zero, List.set_cons_succ, List.getElem_toArray, List.getElem_cons_succ, List.getElem_cons_zero]))
      (refine wpAnyH_take (i := 2) (v := ?_) rfl ?_ ?_ ?_ (fun _ _ _ h => h) (Or.inl ⟨?_, ?_⟩) ?_ ?_; rotate_left 1; (focus decide +kernel); (focus decide +kernel); (focus decide +kernel); (focus rfl); (focus (intro w hSw; (try dsimp only at hSw); go_simp; (try (with_reducible rfl)); done)); (focus assumption); (try simp only [Act.put, List.setIfInBounds_toArray, List.set_cons_zero, List.set_cons_succ, List.getElem_toArray, List.getElem_cons_succ, List.getElem_cons_zero]))
      (refine wpAnyH_take (i := 3) (v := ?_) rfl ?_ ?_ ?_ (fun _ _ _ h => h) (Or.inl ⟨?_, ?_⟩) ?_ ?_; rotate_left 1; (focus decide +kernel); (focus decide +kernel); (focus decide +kernel); (focus rfl); (focus (intro w hSw; (try dsimp only at hSw); go_simp; (try (with_reducible rfl)); done)); (focus assumption); (try simp only [Act.put, List.setIfInBounds_toArray, List.set_cons_zero, List.set_cons_succ, List.getElem_toArray, List.getElem_cons_succ, List.getElem_cons_zero]))
      (refine wpAnyH_take (i := 4) (v := ?_) rfl ?_ ?_ ?_ (fun _ _ _ h => h) (Or.inl ⟨?_, ?_⟩) ?_ ?_; rotate_left 1; (focus decide +kernel); (focus decide +kernel); (focus decide +kernel); (focus rfl); (focus (intro w hSw; (try dsimp only at hSw); go_simp; (try (with_reducible rfl)); done)); (focus assumption); (try simp only [Act.put, List.setIfInBounds_toArray, List.set_cons_zero, List.set_cons_succ, List.getElem_toArray, List.getElem_cons_succ, List.getElem_cons_zero]))
      (refine wpAnyH_take (i := 5) (v := ?_) rfl ?_ ?_ ?_ (fun _ _ _ h => h) (Or.inl ⟨?_, ?_⟩) ?_ ?_; rotate_left 1; (focus decide +kernel); (focus decide +kernel); (focus decide +kernel); (focus rfl); (focus (intro w hSw; (try dsimp only at hSw); go_simp; (try (with_reducible rfl)); done)); (focus assumption); (try simp only [Act.put, List.setIfInBounds_toArray, List.set_cons_zero, List.set_cons_succ, List.getElem_toArray, List.getElem_cons_succ, List.getElem_cons_zero]))
      (refine wpAnyH_take (i := 6) (v := ?_) rfl ?_ ?_ ?_ (fun _ _ _ h => h) (Or.inl ⟨?_, ?_⟩) ?_ ?_; rotate_left 1; (focus decide +kernel); (focus decide +kernel); (focus decide +kernel); (focus rfl); (focus (intro w hSw; (try dsimp only at hSw); go_simp; (try (with_reducible rfl)); done)); (focus assumption); (try simp only [Act.put, List.setIfInBounds_toArray, List.set_cons_zero, List.set_cons_succ, List.getElem_toArray, List.getElem_cons_succ, List.getElem_cons_zero]))
      (refine wpAnyH_take (i := 7) (v := ?_) rfl ?_ ?_ ?_ (fun _ _ _ h => h) (Or.inl ⟨?_, ?_⟩) ?_ ?_; rotate_left 1; (focus decide +kernel); (focus decide +kernel); (focus decide +kernel); (focus rfl); (focus (intro w hSw; (try dsimp only at hSw); go_simp; (try (with_reducible rfl)); done)); (focus assumption); (try simp only [Act.put, List.setIfInBounds_toArray, List.set_cons_zero, List.set_cons_succ, List.getElem_toArray, List.getElem_cons_succ, List.getElem_cons_zero]))
      (refine wpAnyH_take (i := 8) (v := ?_) rfl ?_ ?_ ?_ (fun _ _ _ h => h) (Or.inl ⟨?_, ?_⟩) ?_ ?_; rotate_left 1; (focus decide +kernel); (focus decide +kernel); (focus decide +kernel); (focus rfl); (focus (intro w hSw; (try dsimp only at hSw); go_simp; (try (with_reducible rfl)); done)); (focus assumption); (try simp only [Act.put, List.setIfInBounds_toArray, List.set_cons_zero, List.set_cons_succ, List.getElem_toArray, List.getElem_cons_succ, List.getElem_cons_zero]))
      (refine wpAnyH_take (i := 9) (v := ?_) rfl ?_ ?_ ?_ (fun _ _ _ h => h) (Or.inl ⟨?_, ?_⟩) ?_ ?_; rotate_left 1; (focus decide +kernel); (focus decide +kernel); (focus decide +kernel); (focus rfl); (focus (intro w hSw; (try dsimp only at hSw); go_simp; (try (with_reducible rfl)); done)); (focus assumption); (try simp only [Act.put, List.setIfInBounds_toArray, List.set_cons_zero, List.set_cons_succ, List.getElem_toArray, List.getElem_cons_succ, List.getElem_cons_zero]))
      (refine wpAnyH_take (i := 10) (v := ?_) rfl ?_ ?_ ?_ (fun _ _ _ h => h) (Or.inl ⟨?_, ?_⟩) ?_ ?_; rotate_left 1; (focus decide +kernel); (focus decide +kernel); (focus decide +kernel); (focus rfl); (focus (intro w hSw; (try dsimp only at hSw); go_simp; (try (with_reducible rfl)); done)); (focus assumption); (try simp only [Act.put, List.setIfInBounds_toArray, List.set_cons_zero, List.set_cons_succ, List.getElem_toArray, List.getElem_cons_succ, List.getElem_cons_zero]))
      (refine wpAnyH_take (i := 11) (v := ?_) rfl ?_ ?_ ?_ (fun _ _ _ h => h) (Or.inl ⟨?_, ?_⟩) ?_ ?_; rotate_left 1; (focus decide +kernel); (focus decide +kernel); (focus decide +kernel); (focus rfl); (focus (intro w hSw; (try dsimp only at hSw); go_simp; (try (with_reducible rfl)); done)); (focus assumption); (try simp only [Act.put, List.setIfInBounds_toArray, List.set_cons_zero, List.set_cons_succ, List.getElem_toArray, List.getElem_cons_succ, List.getElem_cons_zero]))
      (refine wpAnyH_take (i := 12) (v := ?_) rfl ?_ ?_ ?_ (fun _ _ _ h => h) (Or.inl ⟨?_, ?_⟩) ?_ ?_; rotate_left 1; (focus decide +kernel); (focus decide +kernel); (focus decide +kernel); (focus rfl); (focus (intro w hSw; (try dsimp only at hSw); go_simp; (try (with_reducible rfl)); done)); (focus assumption); (try simp only [Act.put, List.setIfInBounds_toArray, List.set_cons_zero, List.set_cons_succ, List.getElem_toArray, List.getElem_cons_succ, List.getElem_cons_zero]))
      refine wpAnyH_ready (rs := [13]) ?_ (by simp) ?_
      · decide +kernel
      refine AllReadyH.cons rfl (fun K hK => ?_) AllReadyH.nil
      go_simp
      go_at_call 51
      refine (specTurned4 HXB.out (by omega)).mono ?_
      rintro e w' ⟨rfl, rfl⟩
      refine hK.out _ _ ?_ (fun hHeld2 => ?_)
      · (try dsimp only); exact hHeld
      clear hK K hHeld
      have hHeld := hHeld2
      clear hHeld2
      (try simp only [Act.put, List.setIfInBounds_toArray, List.set_cons_zero, List.set_cons_succ, List.getElem_toArray, List.getElem_cons_succ, List.getElem_cons_zero])
      (refine wpAnyH_take (i := 14) (v := ?_) rfl ?_ ?_ ?_ (fun _ _ _ h => h) (Or.inl ⟨?_, ?_⟩) ?_ ?_; rotate_left 1; (focus decide +kernel); (focus decide +kernel); (focus decide +kernel); (focus rfl); (focus (intro w hSw; (try dsimp only at hSw); go_simp; (try (with_reducible rfl)); done)); (focus assumption); (try simp only [Act.put, List.setIfInBounds_toArray, List.set_cons_zero, List.set_cons_succ, List.getElem_toArray, List.getElem_cons_succ, List.getElem_cons_zero]))
      refine wpAnyH_ready (rs := [15]) ?_ (by simp) ?_
      · decide +kernel
      refine AllReadyH.cons rfl (fun K hK => ?_) AllReadyH.nil
      have hox := ow.cell (i := k) (by rw [mixN_len _ _ _ HTL.out (Nat.le_of_lt hlt)]; exact hlt)
      have hof := ow.free k
      go_simp
      have ow2 := ow.set k (Trn.trn x 4 2 4 : Int)
      have g2 := Grow.g_set hHeld.1 k (.int .i64 (Trn.trn x 4 2 4 : Int))
      refine hK.out _ _ ?_ (fun hHeld5 => ?_)
      · (try dsimp only); obtain ⟨h0, h1, h2, h3, h4, h5⟩ := hHeld; exact ⟨g2, FNew.set_cell h1 hpN, FNew.set_cell h2 hpN, FNew.set_cell h3 hpO, FNew.set_cell h4 hpb, by simpa [World.setCell] using h5⟩
      clear hK K hHeld5
      obtain ⟨wz, hz⟩ : ∃ wz, wz = wD.setCell ⟨p, k, none⟩ (.int .i64 (Trn.trn x 4 2 4 : Int)) := ⟨_, rfl⟩
      rw [← hz] at ow2 g2
      simp only [← hz]
      clear hz hox hof hHeld
      (try simp only [Act.put, List.setIfInBounds_toArray, List.set_cons_zero, List.set_cons_succ, List.getElem_toArray, List.getElem_cons_succ, List.getElem_cons_zero])
      refine wpAnyH_done (by kernel_rfl) ?_ _
      have HO3 := hid ow2
      have HG3 := hid g2
      clear ow ow2 g2
      go_wp2
      go_roundw
      case rel =>
        refine ⟨k + 1, by omega, by go_num, ?_, HG3.out⟩
        have hs := mixN_set (revL 4 xs) xs k HTL.out hlt
        rw [HTX.out] at hs
        rw [← hs]
        exact HO3.out
      case measure => simp [intOf]; omega
    · have hkn : k = xs.length := by omega
      subst hkn
      rw [mixN_all _ _ HTL.out] at hown
      have kTr := Grow.g_heap hg HKT.out (Nat.ne_of_lt HAp.out.2.1)
      have HB := hid (Grow.g_below HSX.out.1 hg HAp.out.2.2.2.2)
      have HO := hid hown
      have HQ2 := hid (besideO HOQ.out hg (.inr (Nat.ne_of_gt HAp.out.2.2.1)))
      clear hown hg hpN hpO
      have y0 : wr.cell? ⟨NT, 0, none⟩ = some (.int .i64 0) := Go.Joins.cell_of_block kTr 0
      have y1 : wr.cell? ⟨NT, 1, none⟩ = some (.int .i64 0) := Go.Joins.cell_of_block kTr 1
      have y2 : wr.cell? ⟨NT, 2, none⟩ = some (.int .i64 0) := Go.Joins.cell_of_block kTr 2
      have y3 : wr.cell? ⟨NT, 3, none⟩ = some (.slice none 0 0) := Go.Joins.cell_of_block kTr 3
      have y4 : wr.cell? ⟨NT, 4, none⟩ = some (.slice none 0 0) := Go.Joins.cell_of_block kTr 4
      have g0 : wr.frozen? ⟨NT, 0, none⟩ = false := Go.Joins.unfrozen_of_block kTr 0
      have g1 : wr.frozen? ⟨NT, 1, none⟩ = false := Go.Joins.unfrozen_of_block kTr 1
      have g2 : wr.frozen? ⟨NT, 2, none⟩ = false := Go.Joins.unfrozen_of_block kTr 2
      have g3 : wr.frozen? ⟨NT, 3, none⟩ = false := Go.Joins.unfrozen_of_block kTr 3
      have g4 : wr.frozen? ⟨NT, 4, none⟩ = false := Go.Joins.unfrozen_of_block kTr 4
      have HKx := hid kTr
      clear kTr
      go_wp2
      have q0 := (Go.Joins.block_setCell (i := 4) (Go.Joins.block_setCell (i := 3) (Go.Joins.block_setCell (i := 2) (Go.Joins.block_setCell (i := 1) (Go.Joins.block_setCell (i := 0) HKx.out (.int .i64 4)) (.int .i64 s)) (.int .i64 r)) ((Value.slice (some ⟨p, 0, none⟩) xs.length kp))) ((Value.slice (some ⟨q, 0, none⟩) ys.length kq)))
      have B5 := (((((HB.out.setCell (p := ⟨NT, 0, none⟩) HNT.out (.int .i64 4)).setCell (p := ⟨NT, 1, none⟩) HNT.out (.int .i64 s)).setCell (p := ⟨NT, 2, none⟩) HNT.out (.int .i64 r)).setCell (p := ⟨NT, 3, none⟩) HNT.out ((Value.slice (some ⟨p, 0, none⟩) xs.length kp))).setCell (p := ⟨NT, 4, none⟩) HNT.out ((Value.slice (some ⟨q, 0, none⟩) ys.length kq)))
      have O0 := (own_set (own_set (own_set (own_set (own_set HO.out ⟨NT, 0, none⟩ (.int .i64 4) (Nat.ne_of_lt HAp.out.2.1)) ⟨NT, 1, none⟩ (.int .i64 s) (Nat.ne_of_lt HAp.out.2.1)) ⟨NT, 2, none⟩ (.int .i64 r) (Nat.ne_of_lt HAp.out.2.1)) ⟨NT, 3, none⟩ ((Value.slice (some ⟨p, 0, none⟩) xs.length kp)) (Nat.ne_of_lt HAp.out.2.1)) ⟨NT, 4, none⟩ ((Value.slice (some ⟨q, 0, none⟩) ys.length kq)) (Nat.ne_of_lt HAp.out.2.1))
      have O1 := (ownB_set (ownB_set (ownB_set (ownB_set (ownB_set HQ2.out ⟨NT, 0, none⟩ (.int .i64 4) (Nat.ne_of_lt (Nat.lt_trans HAp.out.2.1 HAp.out.2.2.1))) ⟨NT, 1, none⟩ (.int .i64 s) (Nat.ne_of_lt (Nat.lt_trans HAp.out.2.1 HAp.out.2.2.1))) ⟨NT, 2, none⟩ (.int .i64 r) (Nat.ne_of_lt (Nat.lt_trans HAp.out.2.1 HAp.out.2.2.1))) ⟨NT, 3, none⟩ ((Value.slice (some ⟨p, 0, none⟩) xs.length kp)) (Nat.ne_of_lt (Nat.lt_trans HAp.out.2.1 HAp.out.2.2.1))) ⟨NT, 4, none⟩ ((Value.slice (some ⟨q, 0, none⟩) ys.length kq)) (Nat.ne_of_lt (Nat.lt_trans HAp.out.2.1 HAp.out.2.2.1)))
      obtain ⟨W5, hW⟩ : ∃ W5, W5 = (((((wr.setCell ⟨NT, 0, none⟩ (.int .i64 4)).setCell ⟨NT, 1, none⟩ (.int .i64 s)).setCell ⟨NT, 2, none⟩ (.int .i64 r)).setCell ⟨NT, 3, none⟩ ((Value.slice (some ⟨p, 0, none⟩) xs.length kp))).setCell ⟨NT, 4, none⟩ ((Value.slice (some ⟨q, 0, none⟩) ys.length kq))) := ⟨_, rfl⟩
      rw [← hW] at q0 B5 O0 O1
      have z0 : W5.cell? ⟨NT, 0, none⟩ = some (.int .i64 4) := Go.Joins.cell_of_block q0 0
      have z1 : W5.cell? ⟨NT, 1, none⟩ = some (.int .i64 s) := Go.Joins.cell_of_block q0 1
      have z2 : W5.cell? ⟨NT, 2, none⟩ = some (.int .i64 r) := Go.Joins.cell_of_block q0 2
      have z3 : W5.cell? ⟨NT, 3, none⟩ = some ((Value.slice (some ⟨p, 0, none⟩) xs.length kp)) := Go.Joins.cell_of_block q0 3
      have z4 : W5.cell? ⟨NT, 4, none⟩ = some ((Value.slice (some ⟨q, 0, none⟩) ys.length kq)) := Go.Joins.cell_of_block q0 4
      simp only [← hW]
      clear hW q0
      simp [bodyPost, results, Try.results23, go_sem, z0, z1, z2, z3, z4]
      exact ⟨p, kp, q, kq, by simp, O0, O1, HAp.out.2.2.2.2, HAp.out.2.2.1, B5⟩


set_option maxHeartbeats 8000000 in
theorem implOk4 {w : World} {s r : Int} {b1 b2 : Nat} {v1 v2 : Value} {xs : List Int} {ys : List Bool} (h1 : Rd w b1 v1 xs) (h2 : RdB w b2 v2 ys) (hq : gasB 4 s r xs ys = true) :
    Calls Try.prog 24 #[gasV 4 s r v1 v2] w fun e w' => ∃ p kp q kq, e = .returned (.tuple #[gasV 4 s r (.slice (some ⟨p, 0, none⟩) xs.length kp) (.slice (some ⟨q, 0, none⟩) ys.length kq), .bool true]) ∧ Own 2 w' p (.slice (some ⟨p, 0, none⟩) xs.length kp) (revL 4 xs) ∧ OwnB 4 w' q (.slice (some ⟨q, 0, none⟩) ys.length kq) ys ∧ w.heap.size ≤ p ∧ p < q ∧ Below w.heap.size w w' := by
  obtain ⟨hg4, hn, hn256, hym, hcb⟩ := gas_parts hq
  have H1 := hid h1
  have H2 := hid h2
  have HQ := hid hq
  have HCB := hid hcb
  have HG4 := hid hg4
  obtain ⟨ao1, cap1, rfl, hc1, hm1, h41⟩ := h1
  obtain ⟨ao2, cap2, rfl, hc2, hm2, h42⟩ := h2
  obtain ⟨off1, rfl, hb1, hcell1⟩ := h41 (by omega)
  obtain ⟨off2, rfl, hb2, hcell2⟩ := h42 (by omega)
  have HC1 := hid hcell1
  have HBL := hid (And.intro hb1 hb2)
  have HYM := hid hym
  have hnI : (xs.length : Int) ≤ 256 := by omega
  have HLE : Hid (1 ≤ xs.length ∧ xs.length ≤ 256) := ⟨hn, hn256⟩
  clear hq hcb hg4 hc1 hm1 h41 hc2 hm2 h42 hb1 hb2 hcell1 hcell2 hym hn hn256
  have hmk := run_make_row' (P := Try.prog) 22 2 (.int .i64 0) 8 Try.underlying22 infoI rfl .i64 .i64 xs.length (by have := HLE.out; omega) (by have := HLE.out; omega)
  go_enter Try.func24, Try.ntmps24
  go_wp2_with fail
  obtain ⟨w1, hW⟩ : ∃ w1, w1 = (w.alloc (Obj.cells #[.int .i64 4, .int .i64 s, .int .i64 r, (Value.slice (some ⟨b1, off1, none⟩) xs.length cap1), (Value.slice (some ⟨b2, off2, none⟩) ys.length cap2)] 31)).alloc (Obj.cells #[.int .i64 0, .int .i64 0, .int .i64 0, .slice none 0 0, .slice none 0 0] 31) := ⟨_, rfl⟩
  obtain ⟨N, hN⟩ : ∃ N, N = w.heap.size := ⟨_, rfl⟩
  obtain ⟨NT, hM⟩ : ∃ NT, NT = N + 1 := ⟨_, rfl⟩
  have st : Below w.heap.size w w1 ∧ w1.cell? ⟨N, 0, none⟩ = some (.int .i64 4) ∧ w1.cell? ⟨N, 1, none⟩ = some (.int .i64 s) ∧ w1.cell? ⟨N, 2, none⟩ = some (.int .i64 r) ∧ w1.cell? ⟨N, 3, none⟩ = some ((Value.slice (some ⟨b1, off1, none⟩) xs.length cap1)) ∧ w1.cell? ⟨N, 4, none⟩ = some ((Value.slice (some ⟨b2, off2, none⟩) ys.length cap2)) ∧ Rd w1 b1 (Value.slice (some ⟨b1, off1, none⟩) xs.length cap1) xs ∧ RdB w1 b2 (Value.slice (some ⟨b2, off2, none⟩) ys.length cap2) ys ∧ w.heap.size ≤ w1.heap.size := by
    rw [hW, hN]
    exact ⟨Go.Joins.below_alloc2 _ _ _, by simp, by simp, by simp, by simp, by simp, H1.out.keep (Go.Joins.below_alloc2 _ _ _) (Nat.le_refl _), H2.out.keep (Go.Joins.below_alloc2 _ _ _) (Nat.le_refl _), by simp; omega⟩
  have kT : w1.heap[NT]? = some (Obj.cells #[.int .i64 0, .int .i64 0, .int .i64 0, .slice none 0 0, .slice none 0 0] 31) := by rw [hW]; exact FNew.heap_top (by rw [hM, hN]; simp)
  have HNT : Hid (w.heap.size ≤ NT) := by simp only [Hid]; omega
  have HNN : Hid (NT = N + 1 ∧ N = w.heap.size) := ⟨hM, hN⟩
  simp only [← hW, ← hN, ← hM]
  clear hW hN hM
  go_at_call 17
  refine (IsW.implValidGas (rdx5_IB_0 st) (rdx5_IB_1 st)).mono ?_
  rw [HQ.out]
  rintro e w2 ⟨rfl, bel⟩
  replace st := nx5_IB bel st
  replace kT := (bel.block NT (Array.getElem?_eq_some_iff.1 kT).1).trans kT
  clear bel
  have c3m : (w2.alloc (.cells (madeCells #[.int .i64 0] xs.length) 2)).cell? ⟨N, 3, none⟩ = some (Value.slice (some ⟨b1, off1, none⟩) xs.length cap1) := cell_keep (below1 _ _) st.2.2.2.2.1
  go_wp2
  clear c3m
  obtain ⟨w4, hW⟩ : ∃ w4, w4 = (w2.alloc (.cells (madeCells #[.int .i64 0] xs.length) 2)) := ⟨_, rfl⟩
  obtain ⟨p, hp⟩ : ∃ p, p = w2.heap.size := ⟨_, rfl⟩
  have bel : Below w2.heap.size w2 w4 := by rw [hW]; exact below1 _ _
  have HNTp : Hid (NT < p ∧ w.heap.size ≤ p) := ⟨by rw [hp]; exact (Array.getElem?_eq_some_iff.1 kT).1, by rw [hp]; exact st.1.size⟩
  have HOP : Hid (Own 2 w4 p (Value.slice (some ⟨p, 0, none⟩) xs.length xs.length) (List.replicate xs.length 0)) := by rw [hW, hp]; exact Own.made 2 w2 xs.length (by have := HLE.out; unfold maxLen; omega)
  replace st := nx5_IB bel st
  replace kT := (bel.block NT (Array.getElem?_eq_some_iff.1 kT).1).trans kT
  have HSX := hid st
  have HKT := hid kT
  have HAp := hid (show N < NT ∧ NT < p ∧ w.heap.size ≤ p from ⟨by have := HNN.out; omega, HNTp.out.1, HNTp.out.2⟩)
  simp only [← hW, ← hp]
  clear st kT bel hW hp
  have HTL : Hid ((revL 4 xs).length = xs.length) := by simp [Hid, revL]
  go_loopw [5, 6, 18] (fun j5 j6 i wr => ∃ k : Nat, k ≤ xs.length ∧ i = .int .i64 k ∧ Own 2 wr p (Value.slice (some ⟨p, 0, none⟩) xs.length xs.length) (Grow.filN (revL 4 xs) xs.length k) ∧ w4.grownBy wr (some p)) (fun _ _ i _ => xs.length - (intOf i).toNat)
  case atStart => exact ⟨0, Nat.zero_le _, rfl, by rw [Grow.filN_zero]; exact HOP.out, World.grownBy.refl _ _⟩
  case round =>
    obtain ⟨k, hk, rfl, hown, hg⟩ := hrel
    have hpN : N ≠ p := Nat.ne_of_lt (Nat.lt_trans HAp.out.1 HAp.out.2.1)
    have c0 := Grow.g_cell hg HSX.out.2.1 hpN
    have c1 := Grow.g_cell hg HSX.out.2.2.1 hpN
    have c2 := Grow.g_cell hg HSX.out.2.2.2.1 hpN
    have c3 := Grow.g_cell hg HSX.out.2.2.2.2.1 hpN
    have c4 := Grow.g_cell hg HSX.out.2.2.2.2.2.1 hpN
    by_cases hlt : k < xs.length
    · obtain ⟨y, hy⟩ : ∃ y, y = xs.getD k 0 := ⟨_, rfl⟩
      have hyb : 0 ≤ y ∧ y < 64 := by
        have h1 := cell_bd HCB.out hlt
        rw [← hy] at h1
        have ht : top (4) ≤ 63 := by simp [top]
        omega
      obtain ⟨x, rfl⟩ := Int.eq_ofNat_of_zero_le hyb.1
      have HXB : Hid (x < 64) := by simp only [Hid]; omega
      have hpb : b1 ≠ p := Nat.ne_of_lt (Nat.lt_of_lt_of_le HBL.out.1 HAp.out.2.2)
      have hcx : wr.cell? ⟨b1, off1 + k, none⟩ = some (.int .i64 (x : Int)) := Grow.g_cell hg (by rw [hy]; exact (HSX.out.1.cell (p := ⟨b1, off1 + k, none⟩) HBL.out.1).trans (HC1.out k hlt)) hpb
      have HTX : Hid ((revL 4 xs).getD k 0 = (Trn.trn x 4 2 4 : Int)) := by simp only [Hid]; rw [revL_get hlt, ← hy]; rfl
      have hki : (k : Int) < (xs.length : Int) := by omega
      have HO1 := hid hown
      have HG1 := hid hg
      clear hown hg hy hyb
      go_wp2_with fail
      go_at_call 52
      refine (implTurned4 HXB.out (by omega)).mono ?_
      rintro e wy ⟨rfl, bel⟩
      have ow := HO1.out.keep bel
      have g2 := Grow.g_bel HG1.out bel
      have hox := ow.cell (i := k) (by rw [Grow.filN_len _ _ _ HTL.out (Nat.le_of_lt hlt)]; exact hlt)
      have hof := ow.free k
      have HO3 := hid (ow.set k (Trn.trn x 4 2 4 : Int))
      have HG3 := hid (Grow.g_set g2 k (.int .i64 (Trn.trn x 4 2 4 : Int)))
      clear ow g2 bel hcx c0 c1 c2 c3 c4
      go_wp2
      go_roundw
      case rel =>
        refine ⟨k + 1, by omega, by go_num, ?_, HG3.out⟩
        have hs := Grow.filN_set (revL 4 xs) xs.length k HTL.out hlt
        rw [HTX.out] at hs
        rw [← hs]
        exact HO3.out
      case measure => simp [intOf]; omega
    · have hkn : k = xs.length := by omega
      subst hkn
      rw [Grow.filN_all _ _ HTL.out] at hown
      have kTr := Grow.g_heap hg HKT.out (Nat.ne_of_lt HAp.out.2.1)
      have HBr := hid (Grow.g_below HSX.out.1 hg HAp.out.2.2)
      have HO := hid hown
      clear hown hg hpN
      go_wp2_with fail
      go_at_call 53
      refine (GOwn.withP rfl (H2.out.keep HBr.out (Nat.le_refl _)) (by have := HLE.out; have := HYM.out; omega)).mono ?_
      rintro e w6 ⟨q, kq, rfl, oq, lo, bel⟩
      have kT6 := (bel.block NT (Array.getElem?_eq_some_iff.1 kTr).1).trans kTr
      have HPQ := hid (Nat.lt_of_lt_of_le HO.out.lt lo)
      have HB := hid (HBr.out.trans (bel.mono HBr.out.size))
      have HO6 := hid (HO.out.keep bel)
      have HQ6 := hid oq
      clear kTr bel lo oq
      have y0 : w6.cell? ⟨NT, 0, none⟩ = some (.int .i64 0) := Go.Joins.cell_of_block kT6 0
      have y1 : w6.cell? ⟨NT, 1, none⟩ = some (.int .i64 0) := Go.Joins.cell_of_block kT6 1
      have y2 : w6.cell? ⟨NT, 2, none⟩ = some (.int .i64 0) := Go.Joins.cell_of_block kT6 2
      have y3 : w6.cell? ⟨NT, 3, none⟩ = some (.slice none 0 0) := Go.Joins.cell_of_block kT6 3
      have y4 : w6.cell? ⟨NT, 4, none⟩ = some (.slice none 0 0) := Go.Joins.cell_of_block kT6 4
      have g0 : w6.frozen? ⟨NT, 0, none⟩ = false := Go.Joins.unfrozen_of_block kT6 0
      have g1 : w6.frozen? ⟨NT, 1, none⟩ = false := Go.Joins.unfrozen_of_block kT6 1
      have g2 : w6.frozen? ⟨NT, 2, none⟩ = false := Go.Joins.unfrozen_of_block kT6 2
      have g3 : w6.frozen? ⟨NT, 3, none⟩ = false := Go.Joins.unfrozen_of_block kT6 3
      have g4 : w6.frozen? ⟨NT, 4, none⟩ = false := Go.Joins.unfrozen_of_block kT6 4
      have HKx := hid kT6
      clear kT6
      go_wp2
      have q0 := (Go.Joins.block_setCell (i := 4) (Go.Joins.block_setCell (i := 3) (Go.Joins.block_setCell (i := 2) (Go.Joins.block_setCell (i := 1) (Go.Joins.block_setCell (i := 0) HKx.out (.int .i64 4)) (.int .i64 s)) (.int .i64 r)) ((Value.slice (some ⟨p, 0, none⟩) xs.length xs.length))) ((Value.slice (some ⟨q, 0, none⟩) ys.length kq)))
      have B5 := (((((HB.out.setCell (p := ⟨NT, 0, none⟩) HNT.out (.int .i64 4)).setCell (p := ⟨NT, 1, none⟩) HNT.out (.int .i64 s)).setCell (p := ⟨NT, 2, none⟩) HNT.out (.int .i64 r)).setCell (p := ⟨NT, 3, none⟩) HNT.out ((Value.slice (some ⟨p, 0, none⟩) xs.length xs.length))).setCell (p := ⟨NT, 4, none⟩) HNT.out ((Value.slice (some ⟨q, 0, none⟩) ys.length kq)))
      have O0 := (own_set (own_set (own_set (own_set (own_set HO6.out ⟨NT, 0, none⟩ (.int .i64 4) (Nat.ne_of_lt HAp.out.2.1)) ⟨NT, 1, none⟩ (.int .i64 s) (Nat.ne_of_lt HAp.out.2.1)) ⟨NT, 2, none⟩ (.int .i64 r) (Nat.ne_of_lt HAp.out.2.1)) ⟨NT, 3, none⟩ ((Value.slice (some ⟨p, 0, none⟩) xs.length xs.length)) (Nat.ne_of_lt HAp.out.2.1)) ⟨NT, 4, none⟩ ((Value.slice (some ⟨q, 0, none⟩) ys.length kq)) (Nat.ne_of_lt HAp.out.2.1))
      have O1 := (ownB_set (ownB_set (ownB_set (ownB_set (ownB_set HQ6.out ⟨NT, 0, none⟩ (.int .i64 4) (Nat.ne_of_lt (Nat.lt_trans HAp.out.2.1 HPQ.out))) ⟨NT, 1, none⟩ (.int .i64 s) (Nat.ne_of_lt (Nat.lt_trans HAp.out.2.1 HPQ.out))) ⟨NT, 2, none⟩ (.int .i64 r) (Nat.ne_of_lt (Nat.lt_trans HAp.out.2.1 HPQ.out))) ⟨NT, 3, none⟩ ((Value.slice (some ⟨p, 0, none⟩) xs.length xs.length)) (Nat.ne_of_lt (Nat.lt_trans HAp.out.2.1 HPQ.out))) ⟨NT, 4, none⟩ ((Value.slice (some ⟨q, 0, none⟩) ys.length kq)) (Nat.ne_of_lt (Nat.lt_trans HAp.out.2.1 HPQ.out)))
      obtain ⟨W5, hW⟩ : ∃ W5, W5 = (((((w6.setCell ⟨NT, 0, none⟩ (.int .i64 4)).setCell ⟨NT, 1, none⟩ (.int .i64 s)).setCell ⟨NT, 2, none⟩ (.int .i64 r)).setCell ⟨NT, 3, none⟩ ((Value.slice (some ⟨p, 0, none⟩) xs.length xs.length))).setCell ⟨NT, 4, none⟩ ((Value.slice (some ⟨q, 0, none⟩) ys.length kq))) := ⟨_, rfl⟩
      rw [← hW] at q0 B5 O0 O1
      have z0 : W5.cell? ⟨NT, 0, none⟩ = some (.int .i64 4) := Go.Joins.cell_of_block q0 0
      have z1 : W5.cell? ⟨NT, 1, none⟩ = some (.int .i64 s) := Go.Joins.cell_of_block q0 1
      have z2 : W5.cell? ⟨NT, 2, none⟩ = some (.int .i64 r) := Go.Joins.cell_of_block q0 2
      have z3 : W5.cell? ⟨NT, 3, none⟩ = some ((Value.slice (some ⟨p, 0, none⟩) xs.length xs.length)) := Go.Joins.cell_of_block q0 3
      have z4 : W5.cell? ⟨NT, 4, none⟩ = some ((Value.slice (some ⟨q, 0, none⟩) ys.length kq)) := Go.Joins.cell_of_block q0 4
      simp only [← hW]
      clear hW q0
      simp [bodyPost, results, Try.results24, go_sem, z0, z1, z2, z3, z4]
      exact ⟨p, xs.length, q, kq, by simp, O0, O1, HAp.out.2.2, HPQ.out, B5⟩


set_option maxHeartbeats 8000000 in
theorem specOk6 {w : World} {s r : Int} {b1 b2 : Nat} {v1 v2 : Value} {xs : List Int} {ys : List Bool} (h1 : Rd w b1 v1 xs) (h2 : RdB w b2 v2 ys) (hq : gasB 6 s r xs ys = true) :
    Calls Try.prog 23 #[gasV 6 s r v1 v2] w fun e w' => ∃ p kp q kq, e = .returned (.tuple #[gasV 6 s r (.slice (some ⟨p, 0, none⟩) xs.length kp) (.slice (some ⟨q, 0, none⟩) ys.length kq), .bool true]) ∧ Own 2 w' p (.slice (some ⟨p, 0, none⟩) xs.length kp) (revL 6 xs) ∧ OwnB 4 w' q (.slice (some ⟨q, 0, none⟩) ys.length kq) ys ∧ w.heap.size ≤ p ∧ p < q ∧ Below w.heap.size w w' := by
  obtain ⟨hg4, hn, hn256, hym, hcb⟩ := gas_parts hq
  have H1 := hid h1
  have H2 := hid h2
  have HQ := hid hq
  have HCB := hid hcb
  have HG4 := hid hg4
  obtain ⟨ao1, cap1, rfl, hc1, hm1, h41⟩ := h1
  obtain ⟨ao2, cap2, rfl, hc2, hm2, h42⟩ := h2
  obtain ⟨off1, rfl, hb1, hcell1⟩ := h41 (by omega)
  obtain ⟨off2, rfl, hb2, hcell2⟩ := h42 (by omega)
  have HC1 := hid hcell1
  have HBL := hid (And.intro hb1 hb2)
  have HYM := hid hym
  have hnI : (xs.length : Int) ≤ 256 := by omega
  have HLE : Hid (1 ≤ xs.length ∧ xs.length ≤ 256) := ⟨hn, hn256⟩
  clear hq hcb hg4 hc1 hm1 h41 hc2 hm2 h42 hb1 hb2 hcell1 hcell2 hym hn hn256
  go_enter Try.func23, Try.ntmps23
  go_wp2_with fail
  obtain ⟨w1, hW⟩ : ∃ w1, w1 = (w.alloc (Obj.cells #[.int .i64 6, .int .i64 s, .int .i64 r, (Value.slice (some ⟨b1, off1, none⟩) xs.length cap1), (Value.slice (some ⟨b2, off2, none⟩) ys.length cap2)] 31)).alloc (Obj.cells #[.int .i64 0, .int .i64 0, .int .i64 0, .slice none 0 0, .slice none 0 0] 31) := ⟨_, rfl⟩
  obtain ⟨N, hN⟩ : ∃ N, N = w.heap.size := ⟨_, rfl⟩
  obtain ⟨NT, hM⟩ : ∃ NT, NT = N + 1 := ⟨_, rfl⟩
  have st : Below w.heap.size w w1 ∧ w1.cell? ⟨N, 0, none⟩ = some (.int .i64 6) ∧ w1.cell? ⟨N, 1, none⟩ = some (.int .i64 s) ∧ w1.cell? ⟨N, 2, none⟩ = some (.int .i64 r) ∧ w1.cell? ⟨N, 3, none⟩ = some ((Value.slice (some ⟨b1, off1, none⟩) xs.length cap1)) ∧ w1.cell? ⟨N, 4, none⟩ = some ((Value.slice (some ⟨b2, off2, none⟩) ys.length cap2)) ∧ Rd w1 b1 (Value.slice (some ⟨b1, off1, none⟩) xs.length cap1) xs ∧ RdB w1 b2 (Value.slice (some ⟨b2, off2, none⟩) ys.length cap2) ys ∧ w.heap.size ≤ w1.heap.size := by
    rw [hW, hN]
    exact ⟨Go.Joins.below_alloc2 _ _ _, by simp, by simp, by simp, by simp, by simp, H1.out.keep (Go.Joins.below_alloc2 _ _ _) (Nat.le_refl _), H2.out.keep (Go.Joins.below_alloc2 _ _ _) (Nat.le_refl _), by simp; omega⟩
  have kT : w1.heap[NT]? = some (Obj.cells #[.int .i64 0, .int .i64 0, .int .i64 0, .slice none 0 0, .slice none 0 0] 31) := by rw [hW]; exact FNew.heap_top (by rw [hM, hN]; simp)
  have HNT : Hid (w.heap.size ≤ NT) := by simp only [Hid]; omega
  have HNN : Hid (NT = N + 1 ∧ N = w.heap.size) := ⟨hM, hN⟩
  simp only [← hW, ← hN, ← hM]
  clear hW hN hM
  go_at_call 39
  refine (GVal.l06Is st.2.1 st.2.2.1 st.2.2.2.1 st.2.2.2.2.1 st.2.2.2.2.2.1 (rdx5_IB_0 st) (rdx5_IB_1 st)).mono ?_
  rw [HQ.out]
  rintro e w2 ⟨rfl, hm⟩
  have bel : Below w1.heap.size w1 w2 := by obtain ⟨m, hm⟩ := hm; rw [hm]; exact Help.below_drewN _ _ _
  clear hm
  replace st := nx5_IB bel st
  replace kT := (bel.block NT (Array.getElem?_eq_some_iff.1 kT).1).trans kT
  clear bel
  go_wp2_with fail
  go_at_call 50
  refine (GOwn.l06Own st.2.1 st.2.2.1 st.2.2.2.1 st.2.2.2.2.1 st.2.2.2.2.2.1 (rdx5_IB_0 st) (rdx5_IB_1 st) (by have := HLE.out; omega) (by have := HLE.out; have := HYM.out; omega)).mono ?_
  rintro e w3 ⟨p, kp, q, kq, rfl, op, oq, lop, lpq, hkp, hkm, bel⟩
  have hNTp : NT < p := Nat.lt_of_lt_of_le (Array.getElem?_eq_some_iff.1 kT).1 lop
  have lob : w.heap.size ≤ p := Nat.le_trans st.1.size lop
  replace st := nx5_IB bel st
  replace kT := (bel.block NT (Array.getElem?_eq_some_iff.1 kT).1).trans kT
  clear bel lop
  obtain ⟨w4, hW⟩ : ∃ w4, w4 = w3.alloc (Obj.cells #[.int .i64 6, .int .i64 s, .int .i64 r, (Value.slice (some ⟨p, 0, none⟩) xs.length kp), (Value.slice (some ⟨q, 0, none⟩) ys.length kq)] 31) := ⟨_, rfl⟩
  obtain ⟨NO, hO⟩ : ∃ NO, NO = w3.heap.size := ⟨_, rfl⟩
  have hqO : q < NO := by
    rw [hO]
    rcases oq.form with ⟨hv, _⟩ | ⟨_, _, _, _, hb⟩
    · cases hv
    · exact hb
  have bel : Below w3.heap.size w3 w4 := by rw [hW]; exact below1 _ _
  replace st := nx5_IB bel st
  replace kT := (bel.block NT (Array.getElem?_eq_some_iff.1 kT).1).trans kT
  replace op := op.keep bel
  replace oq := oq.keep bel
  have kO : w4.heap[NO]? = some (Obj.cells #[.int .i64 6, .int .i64 s, .int .i64 r, (Value.slice (some ⟨p, 0, none⟩) xs.length kp), (Value.slice (some ⟨q, 0, none⟩) ys.length kq)] 31) := by rw [hW]; exact FNew.heap_top hO
  have HSX := hid st
  have HOP := hid op
  have HOQ := hid oq
  have HKT := hid kT
  have HKO := hid kO
  have HKP := hid (And.intro hkp hkm)
  have HAp := hid (show N < NT ∧ NT < p ∧ p < q ∧ q < NO ∧ w.heap.size ≤ p from ⟨by have := HNN.out; omega, hNTp, lpq, hqO, lob⟩)
  clear st op oq kT kO bel hNTp hqO lob lpq hkp hkm
  go_wp2
  simp only [← hW, ← hO]
  clear hW hO
  have HTL : Hid ((revL 6 xs).length = xs.length) := by simp [Hid, revL]
  go_loopw [5] (fun i wr => ∃ k : Nat, k ≤ xs.length ∧ i = .int .i64 k ∧ Own 2 wr p (Value.slice (some ⟨p, 0, none⟩) xs.length kp) (mixN (revL 6 xs) xs k) ∧ w4.grownBy wr (some p)) (fun i _ => xs.length - (intOf i).toNat)
  case atStart => exact ⟨0, Nat.zero_le _, rfl, by rw [mixN_zero]; exact HOP.out, World.grownBy.refl _ _⟩
  case round =>
    obtain ⟨k, hk, rfl, hown, hg⟩ := hrel
    have hpN : N ≠ p := Nat.ne_of_lt (Nat.lt_trans HAp.out.1 HAp.out.2.1)
    have hpO : NO ≠ p := Nat.ne_of_gt (Nat.lt_trans HAp.out.2.2.1 HAp.out.2.2.2.1)
    have c0 := Grow.g_cell hg HSX.out.2.1 hpN
    have c1 := Grow.g_cell hg HSX.out.2.2.1 hpN
    have c2 := Grow.g_cell hg HSX.out.2.2.2.1 hpN
    have c3 := Grow.g_cell hg HSX.out.2.2.2.2.1 hpN
    have c4 := Grow.g_cell hg HSX.out.2.2.2.2.2.1 hpN
    have d0 := Grow.g_cell hg (Go.Joins.cell_of_block HKO.out 0) hpO
    have d1 := Grow.g_cell hg (Go.Joins.cell_of_block HKO.out 1) hpO
    have d2 := Grow.g_cell hg (Go.Joins.cell_of_block HKO.out 2) hpO
    have d3 := Grow.g_cell hg (Go.Joins.cell_of_block HKO.out 3) hpO
    have d4 := Grow.g_cell hg (Go.Joins.cell_of_block HKO.out 4) hpO
    by_cases hlt : k < xs.length
    · obtain ⟨y, hy⟩ : ∃ y, y = xs.getD k 0 := ⟨_, rfl⟩
      have hyb : 0 ≤ y ∧ y < 64 := by
        have h1 := cell_bd HCB.out hlt
        rw [← hy] at h1
        have ht : top (6) ≤ 63 := by simp [top]
        omega
      obtain ⟨x, rfl⟩ := Int.eq_ofNat_of_zero_le hyb.1
      have HXB : Hid (x < 64) := by simp only [Hid]; omega
      have hpb : b1 ≠ p := Nat.ne_of_lt (Nat.lt_of_lt_of_le HBL.out.1 HAp.out.2.2.2.2)
      have hcx : wr.cell? ⟨b1, off1 + k, none⟩ = some (.int .i64 (x : Int)) := Grow.g_cell hg (by rw [hy]; exact (HSX.out.1.cell (p := ⟨b1, off1 + k, none⟩) HBL.out.1).trans (HC1.out k hlt)) hpb
      have HTX : Hid ((revL 6 xs).getD k 0 = (Trn.trn x 6 3 6 : Int)) := by simp only [Hid]; rw [revL_get hlt, ← hy]; rfl
      have hki : (k : Int) < (xs.length : Int) := by omega
      have hwr : IntKind.i64.wrap 3 = 3 := by rw [IntKind.wrap_i64]; omega
      have HO1 := hid hown
      have HG1 := hid hg
      clear hown hg hy hyb
      go_wp2_with fail
      refine wp_region_held_drew (S := (fun ww => w4.grownBy ww (some p) ∧ ww.cell? ⟨N, 0, none⟩ = some (.int .i64 6) ∧ ww.cell? ⟨N, 3, none⟩ = some ((Value.slice (some ⟨b1, off1, none⟩) xs.length cap1)) ∧ ww.cell? ⟨NO, 3, none⟩ = some ((Value.slice (some ⟨p, 0, none⟩) xs.length kp)) ∧ ww.cell? ⟨b1, off1 + k, none⟩ = some (.int .i64 (x : Int)) ∧ w4.heap.size ≤ ww.heap.size)) (by kernel_rfl) ?_ (fun hHeld => ?_)
      · ((try dsimp only); exact ⟨Grow.g_drew HG1.out, c0, c3, d3, hcx, HG1.out.size⟩)
      have ow : Own 2 wr.drew p (Value.slice (some ⟨p, 0, none⟩) xs.length kp) (mixN (revL 6 xs) xs k) := HO1.out
      generalize hD : wr.drew = wD at hHeld ow ⊢
      clear hcx c0 c1 c2 c3 c4 d0 d1 d2 d3 d4 hD
      (refine wpAnyH_take (i := 0) (v := ?_) rfl ?_ ?_ ?_ (fun _ _ _ h => h) (Or.inl ⟨?_, ?_⟩) ?_ ?_; rotate_left 1; (focus decide +kernel); (focus decide +kernel); (focus decide +kernel); (focus rfl); (focus (intro w hSw; (try dsimp only at hSw); go_simp; (try (with_reducible rfl)); done)); (focus assumption); (try simp only [Act.put, List.setIfInBounds_toArray, List.set_cons_zero, List.set_cons_succ, List.getElem_toArray, List.getElem_cons_succ, List.getElem_cons_zero]))
      (refine wpAnyH_take (i := 1) (v := ?_) rfl ?_ ?_ ?_ (fun _ _ _ h => h) (Or.inl ⟨?_, ?_⟩) ?_ ?_; rotate_left 1; (focus decide +kernel); (focus decide +kernel); (focus decide +kernel); (focus rfl); (focus (intro w hSw; (try dsimp only at hSw); go_simp; (try (with_reducible rfl)); done)); (focus assumption); (try simp only [Act.put, List.setIfInBounds_toArray, List.set_cons_zero, List.set_cons_succ, List.getElem_toArray, List.getElem_cons_succ, List.getElem_cons_zero]))
      (refine wpAnyH_take (i := 2) (v := ?_) rfl ?_ ?_ ?_ (fun _ _ _ h => h) (Or.inl ⟨?_, ?_⟩) ?_ ?_; rotate_left 1; (focus decide +kernel); (focus decide +kernel); (focus decide +kernel); (focus rfl); (focus (intro w hSw; (try dsimp only at hSw); go_simp; (try (with_reducible rfl)); done)); (focus assumption); (try simp only [Act.put, List.setIfInBounds_toArray, List.set_cons_zero, List.set_cons_succ, List.getElem_toArray, List.getElem_cons_succ, List.getElem_cons_zero]))
      (refine wpAnyH_take (i := 3) (v := ?_) rfl ?_ ?_ ?_ (fun _ _ _ h => h) (Or.inl ⟨?_, ?_⟩) ?_ ?_; rotate_left 1; (focus decide +kernel); (focus decide +kernel); (focus decide +kernel); (focus rfl); (focus (intro w hSw; (try dsimp only at hSw); go_simp; (try (with_reducible rfl)); done)); (focus assumption); (try simp only [Act.put, List.setIfInBounds_toArray, List.set_cons_zero, List.set_cons_succ, List.getElem_toArray, List.getElem_cons_succ, List.getElem_cons_zero]))
      (refine wpAnyH_take (i := 4) (v := ?_) rfl ?_ ?_ ?_ (fun _ _ _ h => h) (Or.inl ⟨?_, ?_⟩) ?_ ?_; rotate_left 1; (focus decide +kernel); (focus decide +kernel); (focus decide +kernel); (focus rfl); (focus (intro w hSw; (try dsimp only at hSw); go_simp; (try (with_reducible rfl)); done)); (focus assumption); (try simp only [Act.put, List.setIfInBounds_toArray, List.set_cons_zero, List.set_cons_succ, List.getElem_toArray, List.getElem_cons_succ, List.getElem_cons_zero]))
      (refine wpAnyH_take (i := 5) (v := ?_) rfl ?_ ?_ ?_ (fun _ _ _ h => h) (Or.inl ⟨?_, ?_⟩) ?_ ?_; rotate_left 1; (focus decide +kernel); (focus decide +kernel); (focus decide +kernel); (focus rfl); (focus (intro w hSw; (try dsimp only at hSw); go_simp; (try (with_reducible rfl)); done)); (focus assumption); (try simp only [Act.put, List.setIfInBounds_toArray, List.set_cons_zero, List.set_cons_succ, List.getElem_toArray, List.getElem_cons_succ, List.getElem_cons_zero]))
      (refine wpAnyH_take (i := 6) (v := ?_) rfl ?_ ?_ ?_ (fun _ _ _ h => h) (Or.inl ⟨?_, ?_⟩) ?_ ?_; rotate_left 1; (focus decide +kernel); (focus decide +kernel); (focus decide +kernel); (focus rfl); (focus (intro w hSw; (try dsimp only at hSw); go_simp; (try (with_reducible rfl)); done)); (focus assumption); (try simp only [Act.put, List.setIfInBounds_toArray, List.set_cons_zero, List.set_cons_succ, List.getElem_toArray, List.getElem_cons_succ, List.getElem_cons_zero]))
      (refine wpAnyH_take (i := 7) (v := ?_) rfl ?_ ?_ ?_ (fun _ _ _ h => h) (Or.inl ⟨?_, ?_⟩) ?_ ?_; rotate_left 1; (focus decide +kernel); (focus decide +kernel); (focus decide +kernel); (focus rfl); (focus (intro w hSw; (try dsimp only at hSw); go_simp; (try (with_reducible rfl)); done)); (focus assumption); (try simp only [Act.put, List.setIfInBounds_toArray, List.set_cons_zero, List.set_cons_succ, List.getElem_toArray, List.getElem_cons_succ, List.getElem_cons_zero]))
      (refine wpAnyH_take (i := 8) (v := ?_) rfl ?_ ?_ ?_ (fun _ _ _ h => h) (Or.inl ⟨?_, ?_⟩) ?_ ?_; rotate_left 1; (focus decide +kernel); (focus decide +kernel); (focus decide +kernel); (focus rfl); (focus (intro w hSw; (try dsimp only at hSw); go_simp; (try (with_reducible rfl)); done)); (focus assumption); (try simp only [Act.put, List.setIfInBounds_toArray, List.set_cons_zero, List.set_cons_succ, List.getElem_toArray, List.getElem_cons_succ, List.getElem_cons_zero]))
      (refine wpAnyH_take (i := 9) (v := ?_) rfl ?_ ?_ ?_ (fun _ _ _ h => h) (Or.inl ⟨?_, ?_⟩) ?_ ?_; rotate_left 1; (focus decide +kernel); (focus decide +kernel); (focus decide +kernel); (focus rfl); (focus (intro w hSw; (try dsimp only at hSw); go_simp; (try (with_reducible rfl)); done)); (focus assumption); (try simp only [Act.put, List.setIfInBounds_toArray, List.set_cons_zero, List.set_cons_succ, List.getElem_toArray, List.getElem_cons_succ, List.getElem_cons_zero]))
      (refine wpAnyH_take (i := 10) (v := ?_) rfl ?_ ?_ ?_ (fun _ _ _ h => h) (Or.inl ⟨?_, ?_⟩) ?_ ?_; rotate_left 1; (focus decide +kernel); (focus decide +kernel); (focus decide +kernel); (focus rfl); (focus (intro w hSw; (try dsimp only at hSw); go_simp; (try (with_reducible rfl)); done)); (focus assumption); (try simp only [Act.put, List.setIfInBounds_toArray, List.set_cons_zero, List.set_cons_succ, List.getElem_toArray, List.getElem_cons_succ, List.getElem_cons_zero]))
      (refine wpAnyH_take (i := 11) (v := ?_) rfl ?_ ?_ ?_ (fun _ _ _ h => h) (Or.inl ⟨?_, ?_⟩) ?_ ?_; rotate_left 1; (focus decide +kernel); (focus decide +kernel); (focus decide +kernel); (focus rfl); (focus (intro w hSw; (try dsimp only at hSw); go_simp; (try (with_reducible rfl)); done)); (focus assumption); (try simp only [Act.put, List.setIfInBounds_toArray, List.set_cons_zero, List.set_cons_succ, List.getElem_toArray, List.getElem_cons_succ, List.getElem_cons_zero]))
      (refine wpAnyH_take (i := 12) (v := ?_) rfl ?_ ?_ ?_ (fun _ _ _ h => h) (Or.inl ⟨?_, ?_⟩) ?_ ?_; rotate_left 1; (focus decide +kernel); (focus decide +kernel); (focus decide +kernel); (focus rfl); (focus (intro w hSw; (try dsimp only at hSw); go_simp; (try (with_reducible rfl)); done)); (focus assumption); (try simp only [Act.put, List.setIfInBounds_toArray, List.set_cons_zero, List.set_cons_succ, List.getElem_toArray, List.getElem_cons_succ, List.getElem_cons_zero]))
      refine wpAnyH_ready (rs := [13]) ?_ (by simp) ?_
      · decide +kernel
      refine AllReadyH.cons rfl (fun K hK => ?_) AllReadyH.nil
      go_simp
      go_at_call 51
      refine (specTurned6 HXB.out (by omega)).mono ?_
      rintro e w' ⟨rfl, rfl⟩
      refine hK.out _ _ ?_ (fun hHeld2 => ?_)
      · (try dsimp only); exact hHeld
      clear hK K hHeld
      have hHeld := hHeld2
      clear hHeld2
      (try simp only [Act.put, List.setIfInBounds_toArray, List.set_cons_zero, List.set_cons_succ, List.getElem_toArray, List.getElem_cons_succ, List.getElem_cons_zero])
      (refine wpAnyH_take (i := 14) (v := ?_) rfl ?_ ?_ ?_ (fun _ _ _ h => h) (Or.inl ⟨?_, ?_⟩) ?_ ?_; rotate_left 1; (focus decide +kernel); (focus decide +kernel); (focus decide +kernel); (focus rfl); (focus (intro w hSw; (try dsimp only at hSw); go_simp; (try (with_reducible rfl)); done)); (focus assumption); (try simp only [Act.put, List.setIfInBounds_toArray, List.set_cons_zero, List.set_cons_succ, List.getElem_toArray, List.getElem_cons_succ, List.getElem_cons_zero]))
      refine wpAnyH_ready (rs := [15]) ?_ (by simp) ?_
      · decide +kernel
      refine AllReadyH.cons rfl (fun K hK => ?_) AllReadyH.nil
      have hox := ow.cell (i := k) (by rw [mixN_len _ _ _ HTL.out (Nat.le_of_lt hlt)]; exact hlt)
      have hof := ow.free k
      go_simp
      have ow2 := ow.set k (Trn.trn x 6 3 6 : Int)
      have g2 := Grow.g_set hHeld.1 k (.int .i64 (Trn.trn x 6 3 6 : Int))
      refine hK.out _ _ ?_ (fun hHeld5 => ?_)
      · (try dsimp only); obtain ⟨h0, h1, h2, h3, h4, h5⟩ := hHeld; exact ⟨g2, FNew.set_cell h1 hpN, FNew.set_cell h2 hpN, FNew.set_cell h3 hpO, FNew.set_cell h4 hpb, by simpa [World.setCell] using h5⟩
      clear hK K hHeld5
      obtain ⟨wz, hz⟩ : ∃ wz, wz = wD.setCell ⟨p, k, none⟩ (.int .i64 (Trn.trn x 6 3 6 : Int)) := ⟨_, rfl⟩
      rw [← hz] at ow2 g2
      simp only [← hz]
      clear hz hox hof hHeld
      (try simp only [Act.put, List.setIfInBounds_toArray, List.set_cons_zero, List.set_cons_succ, List.getElem_toArray, List.getElem_cons_succ, List.getElem_cons_zero])
      refine wpAnyH_done (by kernel_rfl) ?_ _
      have HO3 := hid ow2
      have HG3 := hid g2
      clear ow ow2 g2
      go_wp2
      go_roundw
      case rel =>
        refine ⟨k + 1, by omega, by go_num, ?_, HG3.out⟩
        have hs := mixN_set (revL 6 xs) xs k HTL.out hlt
        rw [HTX.out] at hs
        rw [← hs]
        exact HO3.out
      case measure => simp [intOf]; omega
    · have hkn : k = xs.length := by omega
      subst hkn
      rw [mixN_all _ _ HTL.out] at hown
      have kTr := Grow.g_heap hg HKT.out (Nat.ne_of_lt HAp.out.2.1)
      have HB := hid (Grow.g_below HSX.out.1 hg HAp.out.2.2.2.2)
      have HO := hid hown
      have HQ2 := hid (besideO HOQ.out hg (.inr (Nat.ne_of_gt HAp.out.2.2.1)))
      clear hown hg hpN hpO
      have y0 : wr.cell? ⟨NT, 0, none⟩ = some (.int .i64 0) := Go.Joins.cell_of_block kTr 0
      have y1 : wr.cell? ⟨NT, 1, none⟩ = some (.int .i64 0) := Go.Joins.cell_of_block kTr 1
      have y2 : wr.cell? ⟨NT, 2, none⟩ = some (.int .i64 0) := Go.Joins.cell_of_block kTr 2
      have y3 : wr.cell? ⟨NT, 3, none⟩ = some (.slice none 0 0) := Go.Joins.cell_of_block kTr 3
      have y4 : wr.cell? ⟨NT, 4, none⟩ = some (.slice none 0 0) := Go.Joins.cell_of_block kTr 4
      have g0 : wr.frozen? ⟨NT, 0, none⟩ = false := Go.Joins.unfrozen_of_block kTr 0
      have g1 : wr.frozen? ⟨NT, 1, none⟩ = false := Go.Joins.unfrozen_of_block kTr 1
      have g2 : wr.frozen? ⟨NT, 2, none⟩ = false := Go.Joins.unfrozen_of_block kTr 2
      have g3 : wr.frozen? ⟨NT, 3, none⟩ = false := Go.Joins.unfrozen_of_block kTr 3
      have g4 : wr.frozen? ⟨NT, 4, none⟩ = false := Go.Joins.unfrozen_of_block kTr 4
      have HKx := hid kTr
      clear kTr
      go_wp2
      have q0 := (Go.Joins.block_setCell (i := 4) (Go.Joins.block_setCell (i := 3) (Go.Joins.block_setCell (i := 2) (Go.Joins.block_setCell (i := 1) (Go.Joins.block_setCell (i := 0) HKx.out (.int .i64 6)) (.int .i64 s)) (.int .i64 r)) ((Value.slice (some ⟨p, 0, none⟩) xs.length kp))) ((Value.slice (some ⟨q, 0, none⟩) ys.length kq)))
      have B5 := (((((HB.out.setCell (p := ⟨NT, 0, none⟩) HNT.out (.int .i64 6)).setCell (p := ⟨NT, 1, none⟩) HNT.out (.int .i64 s)).setCell (p := ⟨NT, 2, none⟩) HNT.out (.int .i64 r)).setCell (p := ⟨NT, 3, none⟩) HNT.out ((Value.slice (some ⟨p, 0, none⟩) xs.length kp))).setCell (p := ⟨NT, 4, none⟩) HNT.out ((Value.slice (some ⟨q, 0, none⟩) ys.length kq)))
      have O0 := (own_set (own_set (own_set (own_set (own_set HO.out ⟨NT, 0, none⟩ (.int .i64 6) (Nat.ne_of_lt HAp.out.2.1)) ⟨NT, 1, none⟩ (.int .i64 s) (Nat.ne_of_lt HAp.out.2.1)) ⟨NT, 2, none⟩ (.int .i64 r) (Nat.ne_of_lt HAp.out.2.1)) ⟨NT, 3, none⟩ ((Value.slice (some ⟨p, 0, none⟩) xs.length kp)) (Nat.ne_of_lt HAp.out.2.1)) ⟨NT, 4, none⟩ ((Value.slice (some ⟨q, 0, none⟩) ys.length kq)) (Nat.ne_of_lt HAp.out.2.1))
      have O1 := (ownB_set (ownB_set (ownB_set (ownB_set (ownB_set HQ2.out ⟨NT, 0, none⟩ (.int .i64 6) (Nat.ne_of_lt (Nat.lt_trans HAp.out.2.1 HAp.out.2.2.1))) ⟨NT, 1, none⟩ (.int .i64 s) (Nat.ne_of_lt (Nat.lt_trans HAp.out.2.1 HAp.out.2.2.1))) ⟨NT, 2, none⟩ (.int .i64 r) (Nat.ne_of_lt (Nat.lt_trans HAp.out.2.1 HAp.out.2.2.1))) ⟨NT, 3, none⟩ ((Value.slice (some ⟨p, 0, none⟩) xs.length kp)) (Nat.ne_of_lt (Nat.lt_trans HAp.out.2.1 HAp.out.2.2.1))) ⟨NT, 4, none⟩ ((Value.slice (some ⟨q, 0, none⟩) ys.length kq)) (Nat.ne_of_lt (Nat.lt_trans HAp.out.2.1 HAp.out.2.2.1)))
      obtain ⟨W5, hW⟩ : ∃ W5, W5 = (((((wr.setCell ⟨NT, 0, none⟩ (.int .i64 6)).setCell ⟨NT, 1, none⟩ (.int .i64 s)).setCell ⟨NT, 2, none⟩ (.int .i64 r)).setCell ⟨NT, 3, none⟩ ((Value.slice (some ⟨p, 0, none⟩) xs.length kp))).setCell ⟨NT, 4, none⟩ ((Value.slice (some ⟨q, 0, none⟩) ys.length kq))) := ⟨_, rfl⟩
      rw [← hW] at q0 B5 O0 O1
      have z0 : W5.cell? ⟨NT, 0, none⟩ = some (.int .i64 6) := Go.Joins.cell_of_block q0 0
      have z1 : W5.cell? ⟨NT, 1, none⟩ = some (.int .i64 s) := Go.Joins.cell_of_block q0 1
      have z2 : W5.cell? ⟨NT, 2, none⟩ = some (.int .i64 r) := Go.Joins.cell_of_block q0 2
      have z3 : W5.cell? ⟨NT, 3, none⟩ = some ((Value.slice (some ⟨p, 0, none⟩) xs.length kp)) := Go.Joins.cell_of_block q0 3
      have z4 : W5.cell? ⟨NT, 4, none⟩ = some ((Value.slice (some ⟨q, 0, none⟩) ys.length kq)) := Go.Joins.cell_of_block q0 4
      simp only [← hW]
      clear hW q0
      simp [bodyPost, results, Try.results23, go_sem, z0, z1, z2, z3, z4]
      exact ⟨p, kp, q, kq, by simp, O0, O1, HAp.out.2.2.2.2, HAp.out.2.2.1, B5⟩


set_option maxHeartbeats 8000000 in
theorem implOk6 {w : World} {s r : Int} {b1 b2 : Nat} {v1 v2 : Value} {xs : List Int} {ys : List Bool} (h1 : Rd w b1 v1 xs) (h2 : RdB w b2 v2 ys) (hq : gasB 6 s r xs ys = true) :
    Calls Try.prog 24 #[gasV 6 s r v1 v2] w fun e w' => ∃ p kp q kq, e = .returned (.tuple #[gasV 6 s r (.slice (some ⟨p, 0, none⟩) xs.length kp) (.slice (some ⟨q, 0, none⟩) ys.length kq), .bool true]) ∧ Own 2 w' p (.slice (some ⟨p, 0, none⟩) xs.length kp) (revL 6 xs) ∧ OwnB 4 w' q (.slice (some ⟨q, 0, none⟩) ys.length kq) ys ∧ w.heap.size ≤ p ∧ p < q ∧ Below w.heap.size w w' := by
  obtain ⟨hg4, hn, hn256, hym, hcb⟩ := gas_parts hq
  have H1 := hid h1
  have H2 := hid h2
  have HQ := hid hq
  have HCB := hid hcb
  have HG4 := hid hg4
  obtain ⟨ao1, cap1, rfl, hc1, hm1, h41⟩ := h1
  obtain ⟨ao2, cap2, rfl, hc2, hm2, h42⟩ := h2
  obtain ⟨off1, rfl, hb1, hcell1⟩ := h41 (by omega)
  obtain ⟨off2, rfl, hb2, hcell2⟩ := h42 (by omega)
  have HC1 := hid hcell1
  have HBL := hid (And.intro hb1 hb2)
  have HYM := hid hym
  have hnI : (xs.length : Int) ≤ 256 := by omega
  have HLE : Hid (1 ≤ xs.length ∧ xs.length ≤ 256) := ⟨hn, hn256⟩
  clear hq hcb hg4 hc1 hm1 h41 hc2 hm2 h42 hb1 hb2 hcell1 hcell2 hym hn hn256
  have hmk := run_make_row' (P := Try.prog) 22 2 (.int .i64 0) 8 Try.underlying22 infoI rfl .i64 .i64 xs.length (by have := HLE.out; omega) (by have := HLE.out; omega)
  go_enter Try.func24, Try.ntmps24
  go_wp2_with fail
  obtain ⟨w1, hW⟩ : ∃ w1, w1 = (w.alloc (Obj.cells #[.int .i64 6, .int .i64 s, .int .i64 r, (Value.slice (some ⟨b1, off1, none⟩) xs.length cap1), (Value.slice (some ⟨b2, off2, none⟩) ys.length cap2)] 31)).alloc (Obj.cells #[.int .i64 0, .int .i64 0, .int .i64 0, .slice none 0 0, .slice none 0 0] 31) := ⟨_, rfl⟩
  obtain ⟨N, hN⟩ : ∃ N, N = w.heap.size := ⟨_, rfl⟩
  obtain ⟨NT, hM⟩ : ∃ NT, NT = N + 1 := ⟨_, rfl⟩
  have st : Below w.heap.size w w1 ∧ w1.cell? ⟨N, 0, none⟩ = some (.int .i64 6) ∧ w1.cell? ⟨N, 1, none⟩ = some (.int .i64 s) ∧ w1.cell? ⟨N, 2, none⟩ = some (.int .i64 r) ∧ w1.cell? ⟨N, 3, none⟩ = some ((Value.slice (some ⟨b1, off1, none⟩) xs.length cap1)) ∧ w1.cell? ⟨N, 4, none⟩ = some ((Value.slice (some ⟨b2, off2, none⟩) ys.length cap2)) ∧ Rd w1 b1 (Value.slice (some ⟨b1, off1, none⟩) xs.length cap1) xs ∧ RdB w1 b2 (Value.slice (some ⟨b2, off2, none⟩) ys.length cap2) ys ∧ w.heap.size ≤ w1.heap.size := by
    rw [hW, hN]
    exact ⟨Go.Joins.below_alloc2 _ _ _, by simp, by simp, by simp, by simp, by simp, H1.out.keep (Go.Joins.below_alloc2 _ _ _) (Nat.le_refl _), H2.out.keep (Go.Joins.below_alloc2 _ _ _) (Nat.le_refl _), by simp; omega⟩
  have kT : w1.heap[NT]? = some (Obj.cells #[.int .i64 0, .int .i64 0, .int .i64 0, .slice none 0 0, .slice none 0 0] 31) := by rw [hW]; exact FNew.heap_top (by rw [hM, hN]; simp)
  have HNT : Hid (w.heap.size ≤ NT) := by simp only [Hid]; omega
  have HNN : Hid (NT = N + 1 ∧ N = w.heap.size) := ⟨hM, hN⟩
  simp only [← hW, ← hN, ← hM]
  clear hW hN hM
  go_at_call 17
  refine (IsW.implValidGas (rdx5_IB_0 st) (rdx5_IB_1 st)).mono ?_
  rw [HQ.out]
  rintro e w2 ⟨rfl, bel⟩
  replace st := nx5_IB bel st
  replace kT := (bel.block NT (Array.getElem?_eq_some_iff.1 kT).1).trans kT
  clear bel
  have c3m : (w2.alloc (.cells (madeCells #[.int .i64 0] xs.length) 2)).cell? ⟨N, 3, none⟩ = some (Value.slice (some ⟨b1, off1, none⟩) xs.length cap1) := cell_keep (below1 _ _) st.2.2.2.2.1
  go_wp2
  clear c3m
  obtain ⟨w4, hW⟩ : ∃ w4, w4 = (w2.alloc (.cells (madeCells #[.int .i64 0] xs.length) 2)) := ⟨_, rfl⟩
  obtain ⟨p, hp⟩ : ∃ p, p = w2.heap.size := ⟨_, rfl⟩
  have bel : Below w2.heap.size w2 w4 := by rw [hW]; exact below1 _ _
  have HNTp : Hid (NT < p ∧ w.heap.size ≤ p) := ⟨by rw [hp]; exact (Array.getElem?_eq_some_iff.1 kT).1, by rw [hp]; exact st.1.size⟩
  have HOP : Hid (Own 2 w4 p (Value.slice (some ⟨p, 0, none⟩) xs.length xs.length) (List.replicate xs.length 0)) := by rw [hW, hp]; exact Own.made 2 w2 xs.length (by have := HLE.out; unfold maxLen; omega)
  replace st := nx5_IB bel st
  replace kT := (bel.block NT (Array.getElem?_eq_some_iff.1 kT).1).trans kT
  have HSX := hid st
  have HKT := hid kT
  have HAp := hid (show N < NT ∧ NT < p ∧ w.heap.size ≤ p from ⟨by have := HNN.out; omega, HNTp.out.1, HNTp.out.2⟩)
  simp only [← hW, ← hp]
  clear st kT bel hW hp
  have HTL : Hid ((revL 6 xs).length = xs.length) := by simp [Hid, revL]
  go_loopw [5, 6, 18] (fun j5 j6 i wr => ∃ k : Nat, k ≤ xs.length ∧ i = .int .i64 k ∧ Own 2 wr p (Value.slice (some ⟨p, 0, none⟩) xs.length xs.length) (Grow.filN (revL 6 xs) xs.length k) ∧ w4.grownBy wr (some p)) (fun _ _ i _ => xs.length - (intOf i).toNat)
  case atStart => exact ⟨0, Nat.zero_le _, rfl, by rw [Grow.filN_zero]; exact HOP.out, World.grownBy.refl _ _⟩
  case round =>
    obtain ⟨k, hk, rfl, hown, hg⟩ := hrel
    have hpN : N ≠ p := Nat.ne_of_lt (Nat.lt_trans HAp.out.1 HAp.out.2.1)
    have c0 := Grow.g_cell hg HSX.out.2.1 hpN
    have c1 := Grow.g_cell hg HSX.out.2.2.1 hpN
    have c2 := Grow.g_cell hg HSX.out.2.2.2.1 hpN
    have c3 := Grow.g_cell hg HSX.out.2.2.2.2.1 hpN
    have c4 := Grow.g_cell hg HSX.out.2.2.2.2.2.1 hpN
    by_cases hlt : k < xs.length
    · obtain ⟨y, hy⟩ : ∃ y, y = xs.getD k 0 := ⟨_, rfl⟩
      have hyb : 0 ≤ y ∧ y < 64 := by
        have h1 := cell_bd HCB.out hlt
        rw [← hy] at h1
        have ht : top (6) ≤ 63 := by simp [top]
        omega
      obtain ⟨x, rfl⟩ := Int.eq_ofNat_of_zero_le hyb.1
      have HXB : Hid (x < 64) := by simp only [Hid]; omega
      have hpb : b1 ≠ p := Nat.ne_of_lt (Nat.lt_of_lt_of_le HBL.out.1 HAp.out.2.2)
      have hcx : wr.cell? ⟨b1, off1 + k, none⟩ = some (.int .i64 (x : Int)) := Grow.g_cell hg (by rw [hy]; exact (HSX.out.1.cell (p := ⟨b1, off1 + k, none⟩) HBL.out.1).trans (HC1.out k hlt)) hpb
      have HTX : Hid ((revL 6 xs).getD k 0 = (Trn.trn x 6 3 6 : Int)) := by simp only [Hid]; rw [revL_get hlt, ← hy]; rfl
      have hki : (k : Int) < (xs.length : Int) := by omega
      have HO1 := hid hown
      have HG1 := hid hg
      clear hown hg hy hyb
      go_wp2_with fail
      go_at_call 52
      refine (implTurned6 HXB.out (by omega)).mono ?_
      rintro e wy ⟨rfl, bel⟩
      have ow := HO1.out.keep bel
      have g2 := Grow.g_bel HG1.out bel
      have hox := ow.cell (i := k) (by rw [Grow.filN_len _ _ _ HTL.out (Nat.le_of_lt hlt)]; exact hlt)
      have hof := ow.free k
      have HO3 := hid (ow.set k (Trn.trn x 6 3 6 : Int))
      have HG3 := hid (Grow.g_set g2 k (.int .i64 (Trn.trn x 6 3 6 : Int)))
      clear ow g2 bel hcx c0 c1 c2 c3 c4
      go_wp2
      go_roundw
      case rel =>
        refine ⟨k + 1, by omega, by go_num, ?_, HG3.out⟩
        have hs := Grow.filN_set (revL 6 xs) xs.length k HTL.out hlt
        rw [HTX.out] at hs
        rw [← hs]
        exact HO3.out
      case measure => simp [intOf]; omega
    · have hkn : k = xs.length := by omega
      subst hkn
      rw [Grow.filN_all _ _ HTL.out] at hown
      have kTr := Grow.g_heap hg HKT.out (Nat.ne_of_lt HAp.out.2.1)
      have HBr := hid (Grow.g_below HSX.out.1 hg HAp.out.2.2)
      have HO := hid hown
      clear hown hg hpN
      go_wp2_with fail
      go_at_call 53
      refine (GOwn.withP rfl (H2.out.keep HBr.out (Nat.le_refl _)) (by have := HLE.out; have := HYM.out; omega)).mono ?_
      rintro e w6 ⟨q, kq, rfl, oq, lo, bel⟩
      have kT6 := (bel.block NT (Array.getElem?_eq_some_iff.1 kTr).1).trans kTr
      have HPQ := hid (Nat.lt_of_lt_of_le HO.out.lt lo)
      have HB := hid (HBr.out.trans (bel.mono HBr.out.size))
      have HO6 := hid (HO.out.keep bel)
      have HQ6 := hid oq
      clear kTr bel lo oq
      have y0 : w6.cell? ⟨NT, 0, none⟩ = some (.int .i64 0) := Go.Joins.cell_of_block kT6 0
      have y1 : w6.cell? ⟨NT, 1, none⟩ = some (.int .i64 0) := Go.Joins.cell_of_block kT6 1
      have y2 : w6.cell? ⟨NT, 2, none⟩ = some (.int .i64 0) := Go.Joins.cell_of_block kT6 2
      have y3 : w6.cell? ⟨NT, 3, none⟩ = some (.slice none 0 0) := Go.Joins.cell_of_block kT6 3
      have y4 : w6.cell? ⟨NT, 4, none⟩ = some (.slice none 0 0) := Go.Joins.cell_of_block kT6 4
      have g0 : w6.frozen? ⟨NT, 0, none⟩ = false := Go.Joins.unfrozen_of_block kT6 0
      have g1 : w6.frozen? ⟨NT, 1, none⟩ = false := Go.Joins.unfrozen_of_block kT6 1
      have g2 : w6.frozen? ⟨NT, 2, none⟩ = false := Go.Joins.unfrozen_of_block kT6 2
      have g3 : w6.frozen? ⟨NT, 3, none⟩ = false := Go.Joins.unfrozen_of_block kT6 3
      have g4 : w6.frozen? ⟨NT, 4, none⟩ = false := Go.Joins.unfrozen_of_block kT6 4
      have HKx := hid kT6
      clear kT6
      go_wp2
      have q0 := (Go.Joins.block_setCell (i := 4) (Go.Joins.block_setCell (i := 3) (Go.Joins.block_setCell (i := 2) (Go.Joins.block_setCell (i := 1) (Go.Joins.block_setCell (i := 0) HKx.out (.int .i64 6)) (.int .i64 s)) (.int .i64 r)) ((Value.slice (some ⟨p, 0, none⟩) xs.length xs.length))) ((Value.slice (some ⟨q, 0, none⟩) ys.length kq)))
      have B5 := (((((HB.out.setCell (p := ⟨NT, 0, none⟩) HNT.out (.int .i64 6)).setCell (p := ⟨NT, 1, none⟩) HNT.out (.int .i64 s)).setCell (p := ⟨NT, 2, none⟩) HNT.out (.int .i64 r)).setCell (p := ⟨NT, 3, none⟩) HNT.out ((Value.slice (some ⟨p, 0, none⟩) xs.length xs.length))).setCell (p := ⟨NT, 4, none⟩) HNT.out ((Value.slice (some ⟨q, 0, none⟩) ys.length kq)))
      have O0 := (own_set (own_set (own_set (own_set (own_set HO6.out ⟨NT, 0, none⟩ (.int .i64 6) (Nat.ne_of_lt HAp.out.2.1)) ⟨NT, 1, none⟩ (.int .i64 s) (Nat.ne_of_lt HAp.out.2.1)) ⟨NT, 2, none⟩ (.int .i64 r) (Nat.ne_of_lt HAp.out.2.1)) ⟨NT, 3, none⟩ ((Value.slice (some ⟨p, 0, none⟩) xs.length xs.length)) (Nat.ne_of_lt HAp.out.2.1)) ⟨NT, 4, none⟩ ((Value.slice (some ⟨q, 0, none⟩) ys.length kq)) (Nat.ne_of_lt HAp.out.2.1))
      have O1 := (ownB_set (ownB_set (ownB_set (ownB_set (ownB_set HQ6.out ⟨NT, 0, none⟩ (.int .i64 6) (Nat.ne_of_lt (Nat.lt_trans HAp.out.2.1 HPQ.out))) ⟨NT, 1, none⟩ (.int .i64 s) (Nat.ne_of_lt (Nat.lt_trans HAp.out.2.1 HPQ.out))) ⟨NT, 2, none⟩ (.int .i64 r) (Nat.ne_of_lt (Nat.lt_trans HAp.out.2.1 HPQ.out))) ⟨NT, 3, none⟩ ((Value.slice (some ⟨p, 0, none⟩) xs.length xs.length)) (Nat.ne_of_lt (Nat.lt_trans HAp.out.2.1 HPQ.out))) ⟨NT, 4, none⟩ ((Value.slice (some ⟨q, 0, none⟩) ys.length kq)) (Nat.ne_of_lt (Nat.lt_trans HAp.out.2.1 HPQ.out)))
      obtain ⟨W5, hW⟩ : ∃ W5, W5 = (((((w6.setCell ⟨NT, 0, none⟩ (.int .i64 6)).setCell ⟨NT, 1, none⟩ (.int .i64 s)).setCell ⟨NT, 2, none⟩ (.int .i64 r)).setCell ⟨NT, 3, none⟩ ((Value.slice (some ⟨p, 0, none⟩) xs.length xs.length))).setCell ⟨NT, 4, none⟩ ((Value.slice (some ⟨q, 0, none⟩) ys.length kq))) := ⟨_, rfl⟩
      rw [← hW] at q0 B5 O0 O1
      have z0 : W5.cell? ⟨NT, 0, none⟩ = some (.int .i64 6) := Go.Joins.cell_of_block q0 0
      have z1 : W5.cell? ⟨NT, 1, none⟩ = some (.int .i64 s) := Go.Joins.cell_of_block q0 1
      have z2 : W5.cell? ⟨NT, 2, none⟩ = some (.int .i64 r) := Go.Joins.cell_of_block q0 2
      have z3 : W5.cell? ⟨NT, 3, none⟩ = some ((Value.slice (some ⟨p, 0, none⟩) xs.length xs.length)) := Go.Joins.cell_of_block q0 3
      have z4 : W5.cell? ⟨NT, 4, none⟩ = some ((Value.slice (some ⟨q, 0, none⟩) ys.length kq)) := Go.Joins.cell_of_block q0 4
      simp only [← hW]
      clear hW q0
      simp [bodyPost, results, Try.results24, go_sem, z0, z1, z2, z3, z4]
      exact ⟨p, xs.length, q, kq, by simp, O0, O1, HAp.out.2.2, HPQ.out, B5⟩


end Go.Proofs.Ytnpjhhkhdeomcaa.Rev
