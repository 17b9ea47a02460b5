/- DenseBlocks of the program, where it does not fail. -/
import Derived.Test.YtnpjhhkhdeomcaaGOwn
import Derived.Test.YtnpjhhkhdeomcaaIsV
import Derived.Test.YtnpjhhkhdeomcaaTrn
import Derived.Test.YtnpjhhkhdeomcaaGrow
import Derived.Test.YtnpjhhkhdeomcaaBlk
import Derived.Test.YtnpjhhkhdeomcaaDen
import Derived.Test.YtnpjhhkhdeomcaaDenS
import Derived.Test.YtnpjhhkhdeomcaaGrd
namespace Go.Proofs.Ytnpjhhkhdeomcaa.Den
open Go.RowKit Go.Proofs.Ytnpjhhkhdeomcaa.Rd Go.Proofs.Ytnpjhhkhdeomcaa.Rdb Go.Proofs.Ytnpjhhkhdeomcaa.Help Go.Proofs.Ytnpjhhkhdeomcaa.Ring Go.Proofs.Ytnpjhhkhdeomcaa.Small Go.Proofs.Ytnpjhhkhdeomcaa.FVal Go.Proofs.Ytnpjhhkhdeomcaa.Keep Go.Proofs.Ytnpjhhkhdeomcaa.Rule Go.Proofs.Ytnpjhhkhdeomcaa.GVal Go.Proofs.Ytnpjhhkhdeomcaa.GOwn Go.Proofs.Ytnpjhhkhdeomcaa.Trn Go.Proofs.Ytnpjhhkhdeomcaa.Rev Go.Proofs.Ytnpjhhkhdeomcaa.Blk Go.Proofs.Ytnpjhhkhdeomcaa.Ones
set_option linter.unusedVariables false
set_option linter.unusedSimpArgs false
set_option maxHeartbeats 64000000 in
set_option maxRecDepth 8000 in
theorem iOk {w : World} {g : Int} {R C A B : Nat} {b1 b2 : Nat} {v1 v2 : Value} {xs : List Int} {ys : List Bool} (h1 : Rd w b1 v1 xs) (h2 : RdB w b2 v2 ys) (hq : gasB g R C xs ys = true) (hA : 1 ≤ A ∧ A ≤ R) (hB : 1 ≤ B ∧ B ≤ C) (hr : R % A = 0) (hc : C % B = 0) :
    Calls Try.prog 30 #[gasV g R C v1 v2, .int .i64 A, .int .i64 B] w fun e w' => ∃ p, e = .returned (.tuple #[.slice (some ⟨p, 0, none⟩) (R / A * (C / B)) (R / A * (C / B)), .bool true]) ∧ Own 2 w' p (.slice (some ⟨p, 0, none⟩) (R / A * (C / B)) (R / A * (C / B))) (blk xs (fB C A B) (R / A * (C / B)) (R * C)) ∧ w.heap.size ≤ p ∧ Below w.heap.size w w' := by
  obtain ⟨hg4, hn, hn256, hym, hcb⟩ := gas_parts hq
  have hRC : (1 ≤ R ∧ R ≤ 16) ∧ (1 ≤ C ∧ C ≤ 16) ∧ xs.length = R * C := by
    simp only [gasB, Bool.and_eq_true, decide_eq_true_eq] at hq
    obtain ⟨_, h2, h3, _, _⟩ := hq
    simp [sd16] at h2
    exact ⟨by omega, by omega, by have e3 : ((R * C : Nat) : Int) = (R : Int) * C := by simp
                                  omega⟩
  have H1 := hid h1
  have H2 := hid h2
  have HQ := hid hq
  have HCB := hid hcb
  have HTP : Hid (top g ≤ 63) := by rcases hg4 with rfl | rfl <;> simp [Hid, top]
  obtain ⟨ao1, cap1, rfl, hc1, hm1, h41⟩ := h1
  obtain ⟨ao2, cap2, rfl, hc2, hm2, h42⟩ := h2
  obtain ⟨off1, rfl, hb1, hcell1⟩ := h41 (by omega)
  have HC1 := hid hcell1
  have HBL := hid hb1
  obtain ⟨hR, hC, hnn⟩ := hRC
  have HRR := hid hR
  have HCC := hid hC
  have HNX := hid hnn
  have HLE : Hid (1 ≤ xs.length ∧ xs.length ≤ 256) := ⟨hn, hn256⟩
  have hA0 : ¬ A = 0 := Nat.ne_of_gt hA.1
  have hB0 : ¬ B = 0 := Nat.ne_of_gt hB.1
  have HAB := hid (And.intro hA (And.intro hB (And.intro hr hc)))
  obtain ⟨W, hW⟩ : ∃ W, W = C / B := ⟨_, rfl⟩
  obtain ⟨H, hH⟩ : ∃ H, H = R / A := ⟨_, rfl⟩
  have hWb : W ≤ 16 := by rw [hW]; exact div_le16 hC.2
  have hHb : H ≤ 16 := by rw [hH]; exact div_le16 hR.2
  have hHW : H * W ≤ 256 := mul_le16 hHb hWb
  obtain ⟨M, hM⟩ : ∃ M, M = H * W := ⟨_, rfl⟩
  have hM256 : M ≤ 256 := by rw [hM]; exact hHW
  have HMM := hid hM
  have HM6 := hid hM256
  have HWE := hid hW
  have HHE := hid hH
  have eW : ((C : Int) / (B : Int)) = (W : Int) := by rw [hW]; simp
  have eH : ((R : Int) / (A : Int)) = (H : Int) := by rw [hH]; simp
  have eHW : IntKind.i64.wrap ((H : Int) * (W : Int)) = (M : Int) := by rw [hM]; exact i64m (Nat.le_trans hHW (by decide))
  have vHW : wrap64 ((H : Int) * (W : Int)) = (M : Int) := by rw [hM]; exact w64m (Nat.le_trans hHW (by decide))
  have iW : IntKind.i64.wrap (W : Int) = (W : Int) := i64s (Nat.le_trans hWb (by decide))
  have iH : IntKind.i64.wrap (H : Int) = (H : Int) := i64s (Nat.le_trans hHb (by decide))
  rw [← hW, ← hH, ← hM]
  clear hM hM256 hHW hq hcb hg4 hc1 hm1 h41 hc2 hm2 h42 hb1 hcell1 hn hn256 hym hW hH hnn
  have HF1 : Hid (decide (1 ≤ (A : Int) ∧ (A : Int) ≤ (R : Int)) = true) := by
    have h := HAB.out.1
    exact decide_eq_true ⟨by have := h.1; exact Int.ofNat_le.2 this, Int.ofNat_le.2 h.2⟩
  have HF2 : Hid (decide (1 ≤ (B : Int) ∧ (B : Int) ≤ (C : Int)) = true) := by
    have h := HAB.out.2.1
    exact decide_eq_true ⟨by have := h.1; exact Int.ofNat_le.2 this, Int.ofNat_le.2 h.2⟩
  have hrT : (((R : Int) % (A : Int)) != 0) = false := by
    have : ((R % A : Nat) : Int) = (R : Int) % A := by simp
    rw [← this, hr]; rfl
  have hcT : (((C : Int) % (B : Int)) != 0) = false := by
    have : ((C % B : Nat) : Int) = (C : Int) % B := by simp
    rw [← this, hc]; rfl
  go_enter Try.func30, Try.ntmps30
  go_wp2_with fail
  obtain ⟨w1, hW⟩ : ∃ w1, w1 = w.alloc (Obj.cells #[.int .i64 g, .int .i64 R, .int .i64 C, (Value.slice (some ⟨b1, off1, none⟩) xs.length cap1), (Value.slice ao2 ys.length cap2)] 31) := ⟨_, rfl⟩
  obtain ⟨N, hN⟩ : ∃ N, N = w.heap.size := ⟨_, rfl⟩
  have st : Below w.heap.size w w1 ∧ w1.cell? ⟨N, 0, none⟩ = some (.int .i64 g) ∧ w1.cell? ⟨N, 1, none⟩ = some (.int .i64 R) ∧ w1.cell? ⟨N, 2, none⟩ = some (.int .i64 C) ∧ w1.cell? ⟨N, 3, none⟩ = some ((Value.slice (some ⟨b1, off1, none⟩) xs.length cap1)) ∧ w1.cell? ⟨N, 4, none⟩ = some ((Value.slice ao2 ys.length cap2)) ∧ Rd w1 b1 (Value.slice (some ⟨b1, off1, none⟩) xs.length cap1) xs ∧ RdB w1 b2 (Value.slice ao2 ys.length cap2) ys ∧ w.heap.size ≤ w1.heap.size := by
    rw [hW, hN]
    exact ⟨below1 _ _, by simp, by simp, by simp, by simp, by simp, H1.out.keep (below1 _ _) (Nat.le_refl _), H2.out.keep (below1 _ _) (Nat.le_refl _), by simp⟩
  have HNN : Hid (N < w1.heap.size ∧ N = w.heap.size) := ⟨by rw [hW, hN]; simp, hN⟩
  simp only [← hW, ← hN]
  clear hW hN
  go_at_call 17
  refine (IsW.implValidGas (rdx5_IB_0 st) (rdx5_IB_1 st)).mono ?_
  rw [HQ.out]
  rintro e w2 ⟨rfl, bel⟩
  replace st := nx5_IB bel st
  have HNN2 := hid (Nat.lt_of_lt_of_le HNN.out.1 bel.size)
  clear bel
  have c1 := st.2.2.1
  have c2 := st.2.2.2.1
  clear vHW
  go_wp2_with (go_at_call 34; refine isFromB.mono ?_; (first | rw [HF1.out] | rw [HF2.out]); rintro e w' ⟨rfl, rfl⟩)
  clear c1 c2 hrT hcT
  refine wp_region_held_drew (S := (fun ww => Below w.heap.size w ww ∧ ww.cell? ⟨N, 0, none⟩ = some (.int .i64 g) ∧ ww.cell? ⟨N, 1, none⟩ = some (.int .i64 R) ∧ ww.cell? ⟨N, 2, none⟩ = some (.int .i64 C) ∧ ww.cell? ⟨N, 3, none⟩ = some ((Value.slice (some ⟨b1, off1, none⟩) xs.length cap1)) ∧ ww.cell? ⟨N, 4, none⟩ = some ((Value.slice ao2 ys.length cap2)) ∧ Rd ww b1 (Value.slice (some ⟨b1, off1, none⟩) xs.length cap1) xs ∧ RdB ww b2 (Value.slice ao2 ys.length cap2) ys ∧ w.heap.size ≤ ww.heap.size)) (by kernel_rfl) ?_ (fun hHeld => ?_)
  · ((try dsimp only); exact drw5_IB st)
  generalize hD : w2.drew = wD at hHeld ⊢
  clear hD st
  (refine wpAnyH_take (i := 0) (v := ?_) rfl ?_ ?_ ?_ (fun _ _ _ h => h) (Or.inl ⟨?_, ?_⟩) ?_ ?_; rotate_left 1; (focus decide +kernel); (focus decide +kernel); (focus decide +kernel); (focus rfl); (focus (intro w hSw; (try dsimp only at hSw); go_simp; (try (with_reducible rfl)); done)); (focus assumption); (try simp only [Act.put, List.setIfInBounds_toArray, List.set_cons_zero, List.set_cons_succ, List.getElem_toArray, List.getElem_cons_succ, List.getElem_cons_zero]))
  (refine wpAnyH_take (i := 1) (v := ?_) rfl ?_ ?_ ?_ (fun _ _ _ h => h) (Or.inl ⟨?_, ?_⟩) ?_ ?_; rotate_left 1; (focus decide +kernel); (focus decide +kernel); (focus decide +kernel); (focus rfl); (focus (intro w hSw; (try dsimp only at hSw); go_simp; (try (with_reducible rfl)); done)); (focus assumption); (try simp only [Act.put, List.setIfInBounds_toArray, List.set_cons_zero, List.set_cons_succ, List.getElem_toArray, List.getElem_cons_succ, List.getElem_cons_zero]))
  (refine wpAnyH_take (i := 2) (v := ?_) rfl ?_ ?_ ?_ (fun _ _ _ h => h) (Or.inl ⟨?_, ?_⟩) ?_ ?_; rotate_left 1; (focus decide +kernel); (focus decide +kernel); (focus decide +kernel); (focus rfl); (focus (intro w hSw; (try dsimp only at hSw); go_simp; (try (with_reducible rfl)); done)); (focus assumption); (try simp only [Act.put, List.setIfInBounds_toArray, List.set_cons_zero, List.set_cons_succ, List.getElem_toArray, List.getElem_cons_succ, List.getElem_cons_zero]))
  (refine wpAnyH_take (i := 3) (v := ?_) rfl ?_ ?_ ?_ (fun _ _ _ h => h) (Or.inl ⟨?_, ?_⟩) ?_ ?_; rotate_left 1; (focus decide +kernel); (focus decide +kernel); (focus decide +kernel); (focus rfl); (focus (intro w hSw; (try dsimp only at hSw); go_simp; (try (with_reducible rfl)); done)); (focus assumption); (try simp only [Act.put, List.setIfInBounds_toArray, List.set_cons_zero, List.set_cons_succ, List.getElem_toArray, List.getElem_cons_succ, List.getElem_cons_zero]))
  (refine wpAnyH_take (i := 4) (v := ?_) rfl ?_ ?_ ?_ (fun _ _ _ h => h) (Or.inl ⟨?_, ?_⟩) ?_ ?_; rotate_left 1; (focus decide +kernel); (focus decide +kernel); (focus decide +kernel); (focus rfl); (focus (intro w hSw; (try dsimp only at hSw); go_simp; (try (with_reducible rfl)); done)); (focus assumption); (try simp only [Act.put, List.setIfInBounds_toArray, List.set_cons_zero, List.set_cons_succ, List.getElem_toArray, List.getElem_cons_succ, List.getElem_cons_zero]))
  (refine wpAnyH_take (i := 5) (v := ?_) rfl ?_ ?_ ?_ (fun _ _ _ h => h) (Or.inl ⟨?_, ?_⟩) ?_ ?_; rotate_left 1; (focus decide +kernel); (focus decide +kernel); (focus decide +kernel); (focus rfl); (focus (intro w hSw; (try dsimp only at hSw); go_simp; (try (with_reducible rfl)); done)); (focus assumption); (try simp only [Act.put, List.setIfInBounds_toArray, List.set_cons_zero, List.set_cons_succ, List.getElem_toArray, List.getElem_cons_succ, List.getElem_cons_zero]))
  (refine wpAnyH_take (i := 6) (v := ?_) rfl ?_ ?_ ?_ (fun _ _ _ h => h) (Or.inl ⟨?_, ?_⟩) ?_ ?_; rotate_left 1; (focus decide +kernel); (focus decide +kernel); (focus decide +kernel); (focus rfl); (focus (intro w hSw; (try dsimp only at hSw); go_simp; (try (with_reducible rfl)); done)); (focus assumption); (try simp only [Act.put, List.setIfInBounds_toArray, List.set_cons_zero, List.set_cons_succ, List.getElem_toArray, List.getElem_cons_succ, List.getElem_cons_zero]))
  (refine wpAnyH_take (i := 7) (v := ?_) rfl ?_ ?_ ?_ (fun _ _ _ h => h) (Or.inl ⟨?_, ?_⟩) ?_ ?_; rotate_left 1; (focus decide +kernel); (focus decide +kernel); (focus decide +kernel); (focus rfl); (focus (intro w hSw; (try dsimp only at hSw); go_simp; (try (with_reducible rfl)); done)); (focus assumption); (try simp only [Act.put, List.setIfInBounds_toArray, List.set_cons_zero, List.set_cons_succ, List.getElem_toArray, List.getElem_cons_succ, List.getElem_cons_zero]))
  (refine wpAnyH_take (i := 8) (v := ?_) rfl ?_ ?_ ?_ (fun _ _ _ h => h) (Or.inl ⟨?_, ?_⟩) ?_ ?_; rotate_left 1; (focus decide +kernel); (focus decide +kernel); (focus decide +kernel); (focus rfl); (focus (intro w hSw; (try dsimp only at hSw); go_simp; (try (with_reducible rfl)); done)); (focus assumption); (try simp only [Act.put, List.setIfInBounds_toArray, List.set_cons_zero, List.set_cons_succ, List.getElem_toArray, List.getElem_cons_succ, List.getElem_cons_zero]))
  refine wpAnyH_ready (rs := [9, 10]) ?_ (by simp) ?_
  · decide +kernel
  refine AllReadyH.cons rfl (fun K hK => ?_) (AllReadyH.cons rfl (fun K hK => ?_) AllReadyH.nil)
  · go_simp
    go_at_call 59
    refine (Grd.newGrid HMM.out HM6.out).mono ?_
    rintro e wC ⟨p, rfl, op, lop, bel⟩
    have lob : w.heap.size ≤ p := Nat.le_trans hHeld.1.size lop
    have hNp : N < p := Nat.lt_of_lt_of_le (World.block_lt_of_cell? _ _ hHeld.2.1) lop
    refine hK.out _ _ ?_ (fun hHeld2 => ?_)
    · (try dsimp only); exact nx5_IB bel hHeld
    clear hK K hHeld bel lop
    have hHeld := hHeld2
    clear hHeld2
    (try simp only [Act.put, List.setIfInBounds_toArray, List.set_cons_zero, List.set_cons_succ, List.getElem_toArray, List.getElem_cons_succ, List.getElem_cons_zero])
    refine wpAnyH_ready (rs := [10]) ?_ (by simp) ?_
    · decide +kernel
    refine AllReadyH.cons rfl (fun K hK => ?_) AllReadyH.nil
    go_simp
    refine hK.out _ _ ?_ (fun hHeld2 => ?_)
    · (try dsimp only); exact nx5_IB (below1 _ _) hHeld
    clear hK K
    obtain ⟨wG, hWG⟩ : ∃ wG, wG = wC.alloc (Obj.cells #[.int .i64 0, .int .i64 0, .slice none 0 0] 68) := ⟨_, rfl⟩
    obtain ⟨NG, hNG⟩ : ∃ NG, NG = wC.heap.size := ⟨_, rfl⟩
    have kG : wG.heap[NG]? = some (Obj.cells #[.int .i64 0, .int .i64 0, .slice none 0 0] 68) := by rw [hWG]; exact FNew.heap_top hNG
    have bel : Below wC.heap.size wC wG := by rw [hWG]; exact below1 _ _
    have hNG2 : N < NG := by rw [hNG]; exact World.block_lt_of_cell? _ _ hHeld.2.1
    have lG : w.heap.size ≤ NG := by rw [hNG]; exact hHeld.1.size
    have hGp : NG ≠ p := by rw [hNG]; exact Nat.ne_of_gt op.lt
    replace op := op.keep bel
    rw [← hWG] at hHeld2
    simp only [← hWG, ← hNG]
    clear hHeld bel hWG hNG
    have hHeld := hHeld2
    clear hHeld2
    (try simp only [Act.put, List.setIfInBounds_toArray, List.set_cons_zero, List.set_cons_succ, List.getElem_toArray, List.getElem_cons_succ, List.getElem_cons_zero])
    refine wpAnyH_ready (rs := [11]) ?_ (by simp) ?_
    · decide +kernel
    refine AllReadyH.cons rfl (fun K hK => ?_) AllReadyH.nil
    have y0 : wG.cell? ⟨NG, 0, none⟩ = some (.int .i64 0) := Go.Joins.cell_of_block kG 0
    have y1 : wG.cell? ⟨NG, 1, none⟩ = some (.int .i64 0) := Go.Joins.cell_of_block kG 1
    have y2 : wG.cell? ⟨NG, 2, none⟩ = some (.slice none 0 0) := Go.Joins.cell_of_block kG 2
    have g0 : wG.frozen? ⟨NG, 0, none⟩ = false := Go.Joins.unfrozen_of_block kG 0
    have g1 : wG.frozen? ⟨NG, 1, none⟩ = false := Go.Joins.unfrozen_of_block kG 1
    have g2 : wG.frozen? ⟨NG, 2, none⟩ = false := Go.Joins.unfrozen_of_block kG 2
    have HKx := hid kG
    have HHx := hid hHeld
    have HAx := hid (show N < NG ∧ N < p ∧ NG ≠ p ∧ w.heap.size ≤ p ∧ w.heap.size ≤ NG from ⟨hNG2, hNp, hGp, lob, lG⟩)
    have HOx := hid op
    clear kG op hNG2 hNp hGp lob lG
    go_simp
    have q0 := (Go.Joins.block_setCell (i := 2) (Go.Joins.block_setCell (i := 1) (Go.Joins.block_setCell (i := 0) HKx.out (.int .i64 H)) (.int .i64 W)) ((Value.slice (some ⟨p, 0, none⟩) M M)))
    have O5 := (own_set (own_set (own_set HOx.out ⟨NG, 0, none⟩ (.int .i64 H) HAx.out.2.2.1) ⟨NG, 1, none⟩ (.int .i64 W) HAx.out.2.2.1) ⟨NG, 2, none⟩ ((Value.slice (some ⟨p, 0, none⟩) M M)) HAx.out.2.2.1)
    have B5 := (((HHx.out.1.setCell (p := ⟨NG, 0, none⟩) HAx.out.2.2.2.2 (.int .i64 H)).setCell (p := ⟨NG, 1, none⟩) HAx.out.2.2.2.2 (.int .i64 W)).setCell (p := ⟨NG, 2, none⟩) HAx.out.2.2.2.2 ((Value.slice (some ⟨p, 0, none⟩) M M)))
    obtain ⟨w4, hW⟩ : ∃ W5, W5 = (((wG.setCell ⟨NG, 0, none⟩ (.int .i64 H)).setCell ⟨NG, 1, none⟩ (.int .i64 W)).setCell ⟨NG, 2, none⟩ ((Value.slice (some ⟨p, 0, none⟩) M M))) := ⟨_, rfl⟩
    rw [← hW] at q0 O5 B5
    have m0 : w4.cell? ⟨N, 0, none⟩ = some (.int .i64 g) := by rw [hW]; exact (FNew.set_cell (FNew.set_cell (FNew.set_cell HHx.out.2.1 (Nat.ne_of_lt HAx.out.1)) (Nat.ne_of_lt HAx.out.1)) (Nat.ne_of_lt HAx.out.1))
    have m1 : w4.cell? ⟨N, 1, none⟩ = some (.int .i64 R) := by rw [hW]; exact (FNew.set_cell (FNew.set_cell (FNew.set_cell HHx.out.2.2.1 (Nat.ne_of_lt HAx.out.1)) (Nat.ne_of_lt HAx.out.1)) (Nat.ne_of_lt HAx.out.1))
    have m2 : w4.cell? ⟨N, 2, none⟩ = some (.int .i64 C) := by rw [hW]; exact (FNew.set_cell (FNew.set_cell (FNew.set_cell HHx.out.2.2.2.1 (Nat.ne_of_lt HAx.out.1)) (Nat.ne_of_lt HAx.out.1)) (Nat.ne_of_lt HAx.out.1))
    have m3 : w4.cell? ⟨N, 3, none⟩ = some ((Value.slice (some ⟨b1, off1, none⟩) xs.length cap1)) := by rw [hW]; exact (FNew.set_cell (FNew.set_cell (FNew.set_cell HHx.out.2.2.2.2.1 (Nat.ne_of_lt HAx.out.1)) (Nat.ne_of_lt HAx.out.1)) (Nat.ne_of_lt HAx.out.1))
    have m4 : w4.cell? ⟨N, 4, none⟩ = some ((Value.slice ao2 ys.length cap2)) := by rw [hW]; exact (FNew.set_cell (FNew.set_cell (FNew.set_cell HHx.out.2.2.2.2.2.1 (Nat.ne_of_lt HAx.out.1)) (Nat.ne_of_lt HAx.out.1)) (Nat.ne_of_lt HAx.out.1))
    have st4 : Below w.heap.size w w4 ∧ w4.cell? ⟨N, 0, none⟩ = some (.int .i64 g) ∧ w4.cell? ⟨N, 1, none⟩ = some (.int .i64 R) ∧ w4.cell? ⟨N, 2, none⟩ = some (.int .i64 C) ∧ w4.cell? ⟨N, 3, none⟩ = some ((Value.slice (some ⟨b1, off1, none⟩) xs.length cap1)) ∧ w4.cell? ⟨N, 4, none⟩ = some ((Value.slice ao2 ys.length cap2)) ∧ Rd w4 b1 (Value.slice (some ⟨b1, off1, none⟩) xs.length cap1) xs ∧ RdB w4 b2 (Value.slice ao2 ys.length cap2) ys ∧ w.heap.size ≤ w4.heap.size := ⟨B5, m0, m1, m2, m3, m4, H1.out.keep B5 (Nat.le_refl _), H2.out.keep B5 (Nat.le_refl _), B5.size⟩
    refine hK.out _ _ ?_ (fun hHeld5 => ?_)
    · (try dsimp only); rw [← hW]; exact st4
    clear hK K hHeld5 hHeld m0 m1 m2 m3 m4
    simp only [← hW]
    clear hW y0 y1 y2 g0 g1 g2
    (try simp only [Act.put, List.setIfInBounds_toArray, List.set_cons_zero, List.set_cons_succ, List.getElem_toArray, List.getElem_cons_succ, List.getElem_cons_zero])
    refine wpAnyH_done (by kernel_rfl) ?_ _
    have HSX := hid st4
    have HKG := hid q0
    have HOP := hid O5
    have c3m : w4.cell? ⟨N, 3, none⟩ = some (Value.slice (some ⟨b1, off1, none⟩) xs.length cap1) := st4.2.2.2.2.1
    clear st4 q0 O5 B5
    go_wp2
    clear c3m
    go_loopw [9, 10, 11, 12, 57] (fun j9 j10 j11 j12 i wr => ∃ k : Nat, k ≤ xs.length ∧ i = .int .i64 k ∧ Own 2 wr p (Value.slice (some ⟨p, 0, none⟩) M M) (blk xs (fB C A B) M k) ∧ w4.grownBy wr (some p)) (fun _ _ _ _ i _ => xs.length - (intOf i).toNat)
    case atStart => exact ⟨0, Nat.zero_le _, rfl, HOP.out, World.grownBy.refl _ _⟩
    case round =>
      obtain ⟨k, hk, rfl, hown, hg⟩ := hrel
      have hpN : N ≠ p := Nat.ne_of_lt HAx.out.2.1
      have c2 := Grow.g_cell hg HSX.out.2.2.2.1 hpN
      by_cases hlt : k < xs.length
      · obtain ⟨z, hz⟩ : ∃ z, z = xs.getD k 0 := ⟨_, rfl⟩
        have hzb := cell_bd HCB.out hlt
        rw [← hz] at hzb
        obtain ⟨x, rfl⟩ := Int.eq_ofNat_of_zero_le hzb.1
        have HXB : Hid (x < 64) := by have := HTP.out; simp only [Hid]; omega
        have HX : Hid ((xs.getD k 0).toNat = x) := by simp only [Hid]; rw [← hz]; rfl
        have hpb : b1 ≠ p := Nat.ne_of_lt (Nat.lt_of_lt_of_le HBL.out HAx.out.2.2.2.1)
        have hcx : wr.cell? ⟨b1, off1 + k, none⟩ = some (.int .i64 (x : Int)) := Grow.g_cell hg (by rw [hz]; exact (HSX.out.1.cell (p := ⟨b1, off1 + k, none⟩) HBL.out).trans (HC1.out k hlt)) hpb
        obtain ⟨IDX, hI⟩ : ∃ IDX, IDX = fB C A B k := ⟨_, rfl⟩
        have HFT : Hid (fB C A B k = IDX) := hI.symm
        have HIX : Hid (IDX < M) := by simp only [Hid]; rw [HMM.out, hI, HHE.out, HWE.out]; exact fB_lt HAB.out.1.1 HAB.out.2.1.1 HCC.out.1 HAB.out.2.2.1 HAB.out.2.2.2 (by rw [← HNX.out]; exact hlt)
        obtain ⟨y, hy⟩ : ∃ y, y = (blk xs (fB C A B) M k).getD IDX 0 := ⟨_, rfl⟩
        have hyb := blk_bd xs (fB C A B) M k IDX
        rw [← hy] at hyb
        have HY := hid hy
        obtain ⟨TC, hTC⟩ : ∃ TC, TC = k / C := ⟨_, rfl⟩
        obtain ⟨TR, hTR⟩ : ∃ TR, TR = k % C := ⟨_, rfl⟩
        obtain ⟨KA, hKA⟩ : ∃ KA, KA = TC / A := ⟨_, rfl⟩
        obtain ⟨LB, hLB⟩ : ∃ LB, LB = TR / B := ⟨_, rfl⟩
        obtain ⟨KW, hKW⟩ : ∃ KW, KW = KA * W := ⟨_, rfl⟩
        have d0 : ((k : Int) / (C : Int)) = (TC : Int) := by rw [hTC]; simp
        have e0 : ((k : Int) % (C : Int)) = (TR : Int) := by rw [hTR]; simp
        have d1 : ((TC : Int) / (A : Int)) = (KA : Int) := by rw [hKA]; simp
        have d2 : ((TR : Int) / (B : Int)) = (LB : Int) := by rw [hLB]; simp
        have hI2 : IDX = KW + LB := by rw [hI, hKW, hKA, hLB, hTC, hTR, HWE.out]; rfl
        have hTC16 : TC ≤ 16 := by rw [hTC]; exact Nat.le_trans (Nat.le_of_lt (Nat.div_lt_of_lt_mul (by rw [Nat.mul_comm, ← HNX.out]; exact hlt))) HRR.out.2
        have hTR16 : TR ≤ 16 := by rw [hTR]; exact Nat.le_trans (Nat.le_of_lt (Nat.mod_lt _ HCC.out.1)) HCC.out.2
        have hk16 : KA ≤ 16 := by rw [hKA]; exact div_le16 hTC16
        have hl16 : LB ≤ 16 := by rw [hLB]; exact div_le16 hTR16
        have hI256 : IDX ≤ 1000 := Nat.le_trans (Nat.le_of_lt HIX.out) (Nat.le_trans HM6.out (by decide))
        have f1 : IntKind.i64.wrap (TC : Int) = (TC : Int) := i64s (Nat.le_trans hTC16 (by decide))
        have f2 : IntKind.i64.wrap (KA : Int) = (KA : Int) := i64s (Nat.le_trans hk16 (by decide))
        have f3 : IntKind.i64.wrap (LB : Int) = (LB : Int) := i64s (Nat.le_trans hl16 (by decide))
        have d3 : IntKind.i64.wrap ((KA : Int) * (W : Int)) = (KW : Int) := by rw [hKW]; exact i64m (by rw [← hKW]; exact Nat.le_trans (Nat.le_trans (Nat.le_add_right _ _) (Nat.le_of_eq hI2.symm)) hI256)
        have d4 : IntKind.i64.wrap ((KW : Int) + (LB : Int)) = (IDX : Int) := i64a hI2 hI256
        have hkl := HLE.out.2
        have d7 : IntKind.i64.wrap (y + (popN x : Int)) = y + (popN x : Int) := i64v (by have hpp := pop_le (m := x); clear d0 e0 d1 d2 d3 d4 f1 f2 f3 hI hI2 hTC hTR hKA hLB hKW; omega)
        have hcw : IntKind.u64.wrap (x : Int) = (x : Int) := by have := HXB.out; clear d0 e0 d1 d2 d3 d4 d7 f1 f2 f3 hI hI2 hTC hTR hKA hLB hKW; simp [IntKind.wrap, IntKind.bits, IntKind.signed]; omega
        have hki : (k : Int) < (xs.length : Int) := Int.ofNat_lt.2 hlt
        have hIi : (IDX : Int) < (M : Int) := Int.ofNat_lt.2 HIX.out
        have hC0 : ¬ C = 0 := Nat.ne_of_gt HCC.out.1
        have HO1 := hid hown
        have HG1 := hid hg
        clear hown hg hz hzb hy hyb hI hI2 hTC hTR hKA hLB hKW hTC16 hTR16 hk16 hl16 hI256
        go_wp2_with fail
        go_quiet (fail)
        obtain ⟨w5, hW5⟩ : ∃ w5, w5 = wr.drewN nq := ⟨_, rfl⟩
        have bel5 : Below wr.heap.size wr w5 := by rw [hW5]; exact Help.below_drewN _ _ _
        have g5 := Grow.g_bel HG1.out bel5
        have ow5 := HO1.out.keep bel5
        have c5 := Grow.g_cell g5 (Go.Joins.cell_of_block HKG.out 0) HAx.out.2.2.1
        have c6 := Grow.g_cell g5 (Go.Joins.cell_of_block HKG.out 1) HAx.out.2.2.1
        have c7 := Grow.g_cell g5 (Go.Joins.cell_of_block HKG.out 2) HAx.out.2.2.1
        simp only [← hW5]
        clear hW5 bel5 hcx c2
        go_wp2_with fail
        refine wp_region_held_drew (S := (fun ww => w4.grownBy ww (some p) ∧ ww.cell? ⟨NG, 0, none⟩ = some (.int .i64 H) ∧ ww.cell? ⟨NG, 1, none⟩ = some (.int .i64 W) ∧ ww.cell? ⟨NG, 2, none⟩ = some ((Value.slice (some ⟨p, 0, none⟩) M M)) ∧ w4.heap.size ≤ ww.heap.size)) (by kernel_rfl) ?_ (fun hHeld => ?_)
        · ((try dsimp only); exact ⟨Grow.g_drew g5, c5, c6, c7, g5.size⟩)
        have ow : Own 2 w5.drew p (Value.slice (some ⟨p, 0, none⟩) M M) (blk xs (fB C A B) M k) := ow5
        generalize hD : w5.drew = wD at hHeld ow ⊢
        clear c5 c6 c7 g5 ow5 hD
        (refine wpAnyH_take (i := 0) (v := ?_) rfl ?_ ?_ ?_ (fun _ _ _ h => h) (Or.inl ⟨?_, ?_⟩) ?_ ?_; rotate_left 1; (focus decide +kernel); (focus decide +kernel); (focus decide +kernel); (focus rfl); (focus (intro w hSw; (try dsimp only at hSw); go_simp; (try (with_reducible rfl)); done)); (focus assumption); (try simp only [Act.put, List.setIfInBounds_toArray, List.set_cons_zero, List.set_cons_succ, List.getElem_toArray, List.getElem_cons_succ, List.getElem_cons_zero]))
        (refine wpAnyH_take (i := 1) (v := ?_) rfl ?_ ?_ ?_ (fun _ _ _ h => h) (Or.inl ⟨?_, ?_⟩) ?_ ?_; rotate_left 1; (focus decide +kernel); (focus decide +kernel); (focus decide +kernel); (focus rfl); (focus (intro w hSw; (try dsimp only at hSw); go_simp; (try (with_reducible rfl)); done)); (focus assumption); (try simp only [Act.put, List.setIfInBounds_toArray, List.set_cons_zero, List.set_cons_succ, List.getElem_toArray, List.getElem_cons_succ, List.getElem_cons_zero]))
        (refine wpAnyH_take (i := 2) (v := ?_) rfl ?_ ?_ ?_ (fun _ _ _ h => h) (Or.inl ⟨?_, ?_⟩) ?_ ?_; rotate_left 1; (focus decide +kernel); (focus decide +kernel); (focus decide +kernel); (focus rfl); (focus (intro w hSw; (try dsimp only at hSw); go_simp; (try (with_reducible rfl)); done)); (focus assumption); (try simp only [Act.put, List.setIfInBounds_toArray, List.set_cons_zero, List.set_cons_succ, List.getElem_toArray, List.getElem_cons_succ, List.getElem_cons_zero]))
        (refine wpAnyH_take (i := 3) (v := ?_) rfl ?_ ?_ ?_ (fun _ _ _ h => h) (Or.inl ⟨?_, ?_⟩) ?_ ?_; rotate_left 1; (focus decide +kernel); (focus decide +kernel); (focus decide +kernel); (focus rfl); (focus (intro w hSw; (try dsimp only at hSw); go_simp; (try (with_reducible rfl)); done)); (focus assumption); (try simp only [Act.put, List.setIfInBounds_toArray, List.set_cons_zero, List.set_cons_succ, List.getElem_toArray, List.getElem_cons_succ, List.getElem_cons_zero]))
        (refine wpAnyH_take (i := 4) (v := ?_) rfl ?_ ?_ ?_ (fun _ _ _ h => h) (Or.inl ⟨?_, ?_⟩) ?_ ?_; rotate_left 1; (focus decide +kernel); (focus decide +kernel); (focus decide +kernel); (focus rfl); (focus (intro w hSw; (try dsimp only at hSw); go_simp; (try (with_reducible rfl)); done)); (focus assumption); (try simp only [Act.put, List.setIfInBounds_toArray, List.set_cons_zero, List.set_cons_succ, List.getElem_toArray, List.getElem_cons_succ, List.getElem_cons_zero]))
        (refine wpAnyH_take (i := 5) (v := ?_) rfl ?_ ?_ ?_ (fun _ _ _ h => h) (Or.inl ⟨?_, ?_⟩) ?_ ?_; rotate_left 1; (focus decide +kernel); (focus decide +kernel); (focus decide +kernel); (focus rfl); (focus (intro w hSw; (try dsimp only at hSw); go_simp; (try (with_reducible rfl)); done)); (focus assumption); (try simp only [Act.put, List.setIfInBounds_toArray, List.set_cons_zero, List.set_cons_succ, List.getElem_toArray, List.getElem_cons_succ, List.getElem_cons_zero]))
        (refine wpAnyH_take (i := 6) (v := ?_) rfl ?_ ?_ ?_ (fun _ _ _ h => h) (Or.inl ⟨?_, ?_⟩) ?_ ?_; rotate_left 1; (focus decide +kernel); (focus decide +kernel); (focus decide +kernel); (focus rfl); (focus (intro w hSw; (try dsimp only at hSw); go_simp; (try (with_reducible rfl)); done)); (focus assumption); (try simp only [Act.put, List.setIfInBounds_toArray, List.set_cons_zero, List.set_cons_succ, List.getElem_toArray, List.getElem_cons_succ, List.getElem_cons_zero]))
        (refine wpAnyH_take (i := 7) (v := ?_) rfl ?_ ?_ ?_ (fun _ _ _ h => h) (Or.inl ⟨?_, ?_⟩) ?_ ?_; rotate_left 1; (focus decide +kernel); (focus decide +kernel); (focus decide +kernel); (focus rfl); (focus (intro w hSw; (try dsimp only at hSw); go_simp; (try (with_reducible rfl)); done)); (focus assumption); (try simp only [Act.put, List.setIfInBounds_toArray, List.set_cons_zero, List.set_cons_succ, List.getElem_toArray, List.getElem_cons_succ, List.getElem_cons_zero]))
        (refine wpAnyH_take (i := 8) (v := ?_) rfl ?_ ?_ ?_ (fun _ _ _ h => h) (Or.inl ⟨?_, ?_⟩) ?_ ?_; rotate_left 1; (focus decide +kernel); (focus decide +kernel); (focus decide +kernel); (focus rfl); (focus (intro w hSw; (try dsimp only at hSw); go_simp; (try (with_reducible rfl)); done)); (focus assumption); (try simp only [Act.put, List.setIfInBounds_toArray, List.set_cons_zero, List.set_cons_succ, List.getElem_toArray, List.getElem_cons_succ, List.getElem_cons_zero]))
        (refine wpAnyH_take (i := 9) (v := ?_) rfl ?_ ?_ ?_ (fun _ _ _ h => h) (Or.inl ⟨?_, ?_⟩) ?_ ?_; rotate_left 1; (focus decide +kernel); (focus decide +kernel); (focus decide +kernel); (focus rfl); (focus (intro w hSw; (try dsimp only at hSw); go_simp; (try (with_reducible rfl)); done)); (focus assumption); (try simp only [Act.put, List.setIfInBounds_toArray, List.set_cons_zero, List.set_cons_succ, List.getElem_toArray, List.getElem_cons_succ, List.getElem_cons_zero]))
        (refine wpAnyH_take (i := 11) (v := ?_) rfl ?_ ?_ ?_ (fun _ _ _ h => h) (Or.inl ⟨?_, ?_⟩) ?_ ?_; rotate_left 1; (focus decide +kernel); (focus decide +kernel); (focus decide +kernel); (focus rfl); (focus (intro w hSw; (try dsimp only at hSw); go_simp; (try (with_reducible rfl)); done)); (focus assumption); (try simp only [Act.put, List.setIfInBounds_toArray, List.set_cons_zero, List.set_cons_succ, List.getElem_toArray, List.getElem_cons_succ, List.getElem_cons_zero]))
        (refine wpAnyH_take (i := 12) (v := ?_) rfl ?_ ?_ ?_ (fun _ _ _ h => h) (Or.inl ⟨?_, ?_⟩) ?_ ?_; rotate_left 1; (focus decide +kernel); (focus decide +kernel); (focus decide +kernel); (focus rfl); (focus (intro w hSw; (try dsimp only at hSw); go_simp; (try (with_reducible rfl)); done)); (focus assumption); (try simp only [Act.put, List.setIfInBounds_toArray, List.set_cons_zero, List.set_cons_succ, List.getElem_toArray, List.getElem_cons_succ, List.getElem_cons_zero]))
        refine wpAnyH_ready (rs := [10, 13]) ?_ (by simp) ?_
        · decide +kernel
        refine AllReadyH.cons rfl (fun K hK => ?_) (AllReadyH.cons rfl (fun K hK => ?_) AllReadyH.nil)
        · have hcy : wD.cell? ⟨p, IDX, none⟩ = some (.int .i64 y) := by rw [HY.out]; exact ow.cell (i := IDX) (by rw [blk_len]; exact HIX.out)
          go_simp
          clear hcy
          refine hK.out _ _ ?_ (fun hHeld2 => ?_)
          · (try dsimp only); exact hHeld
          clear hK K hHeld
          have hHeld := hHeld2
          clear hHeld2
          (try simp only [Act.put, List.setIfInBounds_toArray, List.set_cons_zero, List.set_cons_succ, List.getElem_toArray, List.getElem_cons_succ, List.getElem_cons_zero])
          refine wpAnyH_ready (rs := [13]) ?_ (by simp) ?_
          · decide +kernel
          refine AllReadyH.cons rfl (fun K hK => ?_) AllReadyH.nil
          go_simp
          go_at_call 60
          refine (ones HXB.out).mono ?_
          rintro e w' ⟨rfl, rfl⟩
          refine hK.out _ _ ?_ (fun hHeld2 => ?_)
          · (try dsimp only); exact hHeld
          clear hK K hHeld
          have hHeld := hHeld2
          clear hHeld2
          (try simp only [Act.put, List.setIfInBounds_toArray, List.set_cons_zero, List.set_cons_succ, List.getElem_toArray, List.getElem_cons_succ, List.getElem_cons_zero])
          (refine wpAnyH_take (i := 14) (v := ?_) rfl ?_ ?_ ?_ (fun _ _ _ h => h) (Or.inl ⟨?_, ?_⟩) ?_ ?_; rotate_left 1; (focus decide +kernel); (focus decide +kernel); (focus decide +kernel); (focus rfl); (focus (intro w hSw; (try dsimp only at hSw); go_simp; (try (with_reducible rfl)); done)); (focus assumption); (try simp only [Act.put, List.setIfInBounds_toArray, List.set_cons_zero, List.set_cons_succ, List.getElem_toArray, List.getElem_cons_succ, List.getElem_cons_zero]))
          (refine wpAnyH_take (i := 15) (v := ?_) rfl ?_ ?_ ?_ (fun _ _ _ h => h) (Or.inl ⟨?_, ?_⟩) ?_ ?_; rotate_left 1; (focus decide +kernel); (focus decide +kernel); (focus decide +kernel); (focus rfl); (focus (intro w hSw; (try dsimp only at hSw); go_simp; (try (with_reducible rfl)); done)); (focus assumption); (try simp only [Act.put, List.setIfInBounds_toArray, List.set_cons_zero, List.set_cons_succ, List.getElem_toArray, List.getElem_cons_succ, List.getElem_cons_zero]))
          refine wpAnyH_ready (rs := [16]) ?_ (by simp) ?_
          · decide +kernel
          refine AllReadyH.cons rfl (fun K hK => ?_) AllReadyH.nil
          have hox := ow.cell (i := IDX) (by rw [blk_len]; exact HIX.out)
          have hof := ow.free IDX
          go_simp
          have ow2 := ow.set IDX (y + (popN x : Int))
          have g2 := Grow.g_set hHeld.1 IDX (.int .i64 (y + (popN x : Int)))
          refine hK.out _ _ ?_ (fun hHeld5 => ?_)
          · (try dsimp only); obtain ⟨h0, h1, h2, h3, h4⟩ := hHeld; exact ⟨g2, FNew.set_cell h1 HAx.out.2.2.1, FNew.set_cell h2 HAx.out.2.2.1, FNew.set_cell h3 HAx.out.2.2.1, by simpa [World.setCell] using h4⟩
          clear hK K hHeld5
          obtain ⟨wz, hz⟩ : ∃ wz, wz = wD.setCell ⟨p, IDX, none⟩ (.int .i64 (y + (popN x : Int))) := ⟨_, rfl⟩
          rw [← hz] at ow2 g2
          simp only [← hz]
          clear hz hox hof hHeld
          (try simp only [Act.put, List.setIfInBounds_toArray, List.set_cons_zero, List.set_cons_succ, List.getElem_toArray, List.getElem_cons_succ, List.getElem_cons_zero])
          refine wpAnyH_done (by kernel_rfl) ?_ _
          have HO3 := hid ow2
          have HG3 := hid g2
          clear ow ow2 g2
          go_wp2
          go_roundw
          case rel =>
            refine ⟨k + 1, by omega, by go_num, ?_, HG3.out⟩
            show Own _ _ _ _ ((blk xs (fB C A B) M k).set (fB C A B k) ((blk xs (fB C A B) M k).getD (fB C A B k) 0 + (popN (xs.getD k 0).toNat : Int)))
            rw [HFT.out, ← HY.out, HX.out]
            exact HO3.out
          case measure => simp [intOf]; omega
        · go_simp
          go_at_call 60
          refine (ones HXB.out).mono ?_
          rintro e w' ⟨rfl, rfl⟩
          refine hK.out _ _ ?_ (fun hHeld2 => ?_)
          · (try dsimp only); exact hHeld
          clear hK K hHeld
          have hHeld := hHeld2
          clear hHeld2
          (try simp only [Act.put, List.setIfInBounds_toArray, List.set_cons_zero, List.set_cons_succ, List.getElem_toArray, List.getElem_cons_succ, List.getElem_cons_zero])
          refine wpAnyH_ready (rs := [10]) ?_ (by simp) ?_
          · decide +kernel
          refine AllReadyH.cons rfl (fun K hK => ?_) AllReadyH.nil
          have hcy : wD.cell? ⟨p, IDX, none⟩ = some (.int .i64 y) := by rw [HY.out]; exact ow.cell (i := IDX) (by rw [blk_len]; exact HIX.out)
          go_simp
          clear hcy
          refine hK.out _ _ ?_ (fun hHeld2 => ?_)
          · (try dsimp only); exact hHeld
          clear hK K hHeld
          have hHeld := hHeld2
          clear hHeld2
          (try simp only [Act.put, List.setIfInBounds_toArray, List.set_cons_zero, List.set_cons_succ, List.getElem_toArray, List.getElem_cons_succ, List.getElem_cons_zero])
          (refine wpAnyH_take (i := 14) (v := ?_) rfl ?_ ?_ ?_ (fun _ _ _ h => h) (Or.inl ⟨?_, ?_⟩) ?_ ?_; rotate_left 1; (focus decide +kernel); (focus decide +kernel); (focus decide +kernel); (focus rfl); (focus (intro w hSw; (try dsimp only at hSw); go_simp; (try (with_reducible rfl)); done)); (focus assumption); (try simp only [Act.put, List.setIfInBounds_toArray, List.set_cons_zero, List.set_cons_succ, List.getElem_toArray, List.getElem_cons_succ, List.getElem_cons_zero]))
          (refine wpAnyH_take (i := 15) (v := ?_) rfl ?_ ?_ ?_ (fun _ _ _ h => h) (Or.inl ⟨?_, ?_⟩) ?_ ?_; rotate_left 1; (focus decide +kernel); (focus decide +kernel); (focus decide +kernel); (focus rfl); (focus (intro w hSw; (try dsimp only at hSw); go_simp; (try (with_reducible rfl)); done)); (focus assumption); (try simp only [Act.put, List.setIfInBounds_toArray, List.set_cons_zero, List.set_cons_succ, List.getElem_toArray, List.getElem_cons_succ, List.getElem_cons_zero]))
          refine wpAnyH_ready (rs := [16]) ?_ (by simp) ?_
          · decide +kernel
          refine AllReadyH.cons rfl (fun K hK => ?_) AllReadyH.nil
          have hox := ow.cell (i := IDX) (by rw [blk_len]; exact HIX.out)
          have hof := ow.free IDX
          go_simp
          have ow2 := ow.set IDX (y + (popN x : Int))
          have g2 := Grow.g_set hHeld.1 IDX (.int .i64 (y + (popN x : Int)))
          refine hK.out _ _ ?_ (fun hHeld5 => ?_)
          · (try dsimp only); obtain ⟨h0, h1, h2, h3, h4⟩ := hHeld; exact ⟨g2, FNew.set_cell h1 HAx.out.2.2.1, FNew.set_cell h2 HAx.out.2.2.1, FNew.set_cell h3 HAx.out.2.2.1, by simpa [World.setCell] using h4⟩
          clear hK K hHeld5
          obtain ⟨wz, hz⟩ : ∃ wz, wz = wD.setCell ⟨p, IDX, none⟩ (.int .i64 (y + (popN x : Int))) := ⟨_, rfl⟩
          rw [← hz] at ow2 g2
          simp only [← hz]
          clear hz hox hof hHeld
          (try simp only [Act.put, List.setIfInBounds_toArray, List.set_cons_zero, List.set_cons_succ, List.getElem_toArray, List.getElem_cons_succ, List.getElem_cons_zero])
          refine wpAnyH_done (by kernel_rfl) ?_ _
          have HO3 := hid ow2
          have HG3 := hid g2
          clear ow ow2 g2
          go_wp2
          go_roundw
          case rel =>
            refine ⟨k + 1, by omega, by go_num, ?_, HG3.out⟩
            show Own _ _ _ _ ((blk xs (fB C A B) M k).set (fB C A B k) ((blk xs (fB C A B) M k).getD (fB C A B k) 0 + (popN (xs.getD k 0).toNat : Int)))
            rw [HFT.out, ← HY.out, HX.out]
            exact HO3.out
          case measure => simp [intOf]; omega
      · have hkn : k = xs.length := by omega
        subst hkn
        have HO2 := hid hown
        have HB2 := hid (Grow.g_below HSX.out.1 hg HAx.out.2.2.2.1)
        have c7 := Grow.g_cell hg (Go.Joins.cell_of_block HKG.out 2) HAx.out.2.2.1
        clear hown hg
        go_wp2
        go_ret2
        exact ⟨p, rfl, by rw [← HNX.out]; exact HO2.out, HAx.out.2.2.2.1, HB2.out⟩
  · go_simp
    refine hK.out _ _ ?_ (fun hHeld2 => ?_)
    · (try dsimp only); exact nx5_IB (below1 _ _) hHeld
    clear hK K
    obtain ⟨wG, hWG⟩ : ∃ wG, wG = wD.alloc (Obj.cells #[.int .i64 0, .int .i64 0, .slice none 0 0] 68) := ⟨_, rfl⟩
    obtain ⟨NG, hNG⟩ : ∃ NG, NG = wD.heap.size := ⟨_, rfl⟩
    have kG : wG.heap[NG]? = some (Obj.cells #[.int .i64 0, .int .i64 0, .slice none 0 0] 68) := by rw [hWG]; exact FNew.heap_top hNG
    have bel : Below wD.heap.size wD wG := by rw [hWG]; exact below1 _ _
    have hNG2 : N < NG := by rw [hNG]; exact World.block_lt_of_cell? _ _ hHeld.2.1
    have lG : w.heap.size ≤ NG := by rw [hNG]; exact hHeld.1.size
    rw [← hWG] at hHeld2
    simp only [← hWG, ← hNG]
    clear hHeld bel hWG hNG
    have hHeld := hHeld2
    clear hHeld2
    (try simp only [Act.put, List.setIfInBounds_toArray, List.set_cons_zero, List.set_cons_succ, List.getElem_toArray, List.getElem_cons_succ, List.getElem_cons_zero])
    refine wpAnyH_ready (rs := [9]) ?_ (by simp) ?_
    · decide +kernel
    refine AllReadyH.cons rfl (fun K hK => ?_) AllReadyH.nil
    go_simp
    go_at_call 59
    refine (Grd.newGrid HMM.out HM6.out).mono ?_
    rintro e wC ⟨p, rfl, op, lop, bel⟩
    have lob : w.heap.size ≤ p := Nat.le_trans hHeld.1.size lop
    have hNp : N < p := Nat.lt_of_lt_of_le (World.block_lt_of_cell? _ _ hHeld.2.1) lop
    have hGp : NG ≠ p := Nat.ne_of_lt (Nat.lt_of_lt_of_le (Array.getElem?_eq_some_iff.1 kG).1 lop)
    replace kG := (bel.block NG (Array.getElem?_eq_some_iff.1 kG).1).trans kG
    refine hK.out _ _ ?_ (fun hHeld2 => ?_)
    · (try dsimp only); exact nx5_IB bel hHeld
    clear hK K hHeld bel lop
    have hHeld := hHeld2
    clear hHeld2
    (try simp only [Act.put, List.setIfInBounds_toArray, List.set_cons_zero, List.set_cons_succ, List.getElem_toArray, List.getElem_cons_succ, List.getElem_cons_zero])
    refine wpAnyH_ready (rs := [11]) ?_ (by simp) ?_
    · decide +kernel
    refine AllReadyH.cons rfl (fun K hK => ?_) AllReadyH.nil
    have y0 : wC.cell? ⟨NG, 0, none⟩ = some (.int .i64 0) := Go.Joins.cell_of_block kG 0
    have y1 : wC.cell? ⟨NG, 1, none⟩ = some (.int .i64 0) := Go.Joins.cell_of_block kG 1
    have y2 : wC.cell? ⟨NG, 2, none⟩ = some (.slice none 0 0) := Go.Joins.cell_of_block kG 2
    have g0 : wC.frozen? ⟨NG, 0, none⟩ = false := Go.Joins.unfrozen_of_block kG 0
    have g1 : wC.frozen? ⟨NG, 1, none⟩ = false := Go.Joins.unfrozen_of_block kG 1
    have g2 : wC.frozen? ⟨NG, 2, none⟩ = false := Go.Joins.unfrozen_of_block kG 2
    have HKx := hid kG
    have HHx := hid hHeld
    have HAx := hid (show N < NG ∧ N < p ∧ NG ≠ p ∧ w.heap.size ≤ p ∧ w.heap.size ≤ NG from ⟨hNG2, hNp, hGp, lob, lG⟩)
    have HOx := hid op
    clear kG op hNG2 hNp hGp lob lG
    go_simp
    have q0 := (Go.Joins.block_setCell (i := 2) (Go.Joins.block_setCell (i := 1) (Go.Joins.block_setCell (i := 0) HKx.out (.int .i64 H)) (.int .i64 W)) ((Value.slice (some ⟨p, 0, none⟩) M M)))
    have O5 := (own_set (own_set (own_set HOx.out ⟨NG, 0, none⟩ (.int .i64 H) HAx.out.2.2.1) ⟨NG, 1, none⟩ (.int .i64 W) HAx.out.2.2.1) ⟨NG, 2, none⟩ ((Value.slice (some ⟨p, 0, none⟩) M M)) HAx.out.2.2.1)
    have B5 := (((HHx.out.1.setCell (p := ⟨NG, 0, none⟩) HAx.out.2.2.2.2 (.int .i64 H)).setCell (p := ⟨NG, 1, none⟩) HAx.out.2.2.2.2 (.int .i64 W)).setCell (p := ⟨NG, 2, none⟩) HAx.out.2.2.2.2 ((Value.slice (some ⟨p, 0, none⟩) M M)))
    obtain ⟨w4, hW⟩ : ∃ W5, W5 = (((wC.setCell ⟨NG, 0, none⟩ (.int .i64 H)).setCell ⟨NG, 1, none⟩ (.int .i64 W)).setCell ⟨NG, 2, none⟩ ((Value.slice (some ⟨p, 0, none⟩) M M))) := ⟨_, rfl⟩
    rw [← hW] at q0 O5 B5
    have m0 : w4.cell? ⟨N, 0, none⟩ = some (.int .i64 g) := by rw [hW]; exact (FNew.set_cell (FNew.set_cell (FNew.set_cell HHx.out.2.1 (Nat.ne_of_lt HAx.out.1)) (Nat.ne_of_lt HAx.out.1)) (Nat.ne_of_lt HAx.out.1))
    have m1 : w4.cell? ⟨N, 1, none⟩ = some (.int .i64 R) := by rw [hW]; exact (FNew.set_cell (FNew.set_cell (FNew.set_cell HHx.out.2.2.1 (Nat.ne_of_lt HAx.out.1)) (Nat.ne_of_lt HAx.out.1)) (Nat.ne_of_lt HAx.out.1))
    have m2 : w4.cell? ⟨N, 2, none⟩ = some (.int .i64 C) := by rw [hW]; exact (FNew.set_cell (FNew.set_cell (FNew.set_cell HHx.out.2.2.2.1 (Nat.ne_of_lt HAx.out.1)) (Nat.ne_of_lt HAx.out.1)) (Nat.ne_of_lt HAx.out.1))
    have m3 : w4.cell? ⟨N, 3, none⟩ = some ((Value.slice (some ⟨b1, off1, none⟩) xs.length cap1)) := by rw [hW]; exact (FNew.set_cell (FNew.set_cell (FNew.set_cell HHx.out.2.2.2.2.1 (Nat.ne_of_lt HAx.out.1)) (Nat.ne_of_lt HAx.out.1)) (Nat.ne_of_lt HAx.out.1))
    have m4 : w4.cell? ⟨N, 4, none⟩ = some ((Value.slice ao2 ys.length cap2)) := by rw [hW]; exact (FNew.set_cell (FNew.set_cell (FNew.set_cell HHx.out.2.2.2.2.2.1 (Nat.ne_of_lt HAx.out.1)) (Nat.ne_of_lt HAx.out.1)) (Nat.ne_of_lt HAx.out.1))
    have st4 : Below w.heap.size w w4 ∧ w4.cell? ⟨N, 0, none⟩ = some (.int .i64 g) ∧ w4.cell? ⟨N, 1, none⟩ = some (.int .i64 R) ∧ w4.cell? ⟨N, 2, none⟩ = some (.int .i64 C) ∧ w4.cell? ⟨N, 3, none⟩ = some ((Value.slice (some ⟨b1, off1, none⟩) xs.length cap1)) ∧ w4.cell? ⟨N, 4, none⟩ = some ((Value.slice ao2 ys.length cap2)) ∧ Rd w4 b1 (Value.slice (some ⟨b1, off1, none⟩) xs.length cap1) xs ∧ RdB w4 b2 (Value.slice ao2 ys.length cap2) ys ∧ w.heap.size ≤ w4.heap.size := ⟨B5, m0, m1, m2, m3, m4, H1.out.keep B5 (Nat.le_refl _), H2.out.keep B5 (Nat.le_refl _), B5.size⟩
    refine hK.out _ _ ?_ (fun hHeld5 => ?_)
    · (try dsimp only); rw [← hW]; exact st4
    clear hK K hHeld5 hHeld m0 m1 m2 m3 m4
    simp only [← hW]
    clear hW y0 y1 y2 g0 g1 g2
    (try simp only [Act.put, List.setIfInBounds_toArray, List.set_cons_zero, List.set_cons_succ, List.getElem_toArray, List.getElem_cons_succ, List.getElem_cons_zero])
    refine wpAnyH_done (by kernel_rfl) ?_ _
    have HSX := hid st4
    have HKG := hid q0
    have HOP := hid O5
    have c3m : w4.cell? ⟨N, 3, none⟩ = some (Value.slice (some ⟨b1, off1, none⟩) xs.length cap1) := st4.2.2.2.2.1
    clear st4 q0 O5 B5
    go_wp2
    clear c3m
    go_loopw [9, 10, 11, 12, 57] (fun j9 j10 j11 j12 i wr => ∃ k : Nat, k ≤ xs.length ∧ i = .int .i64 k ∧ Own 2 wr p (Value.slice (some ⟨p, 0, none⟩) M M) (blk xs (fB C A B) M k) ∧ w4.grownBy wr (some p)) (fun _ _ _ _ i _ => xs.length - (intOf i).toNat)
    case atStart => exact ⟨0, Nat.zero_le _, rfl, HOP.out, World.grownBy.refl _ _⟩
    case round =>
      obtain ⟨k, hk, rfl, hown, hg⟩ := hrel
      have hpN : N ≠ p := Nat.ne_of_lt HAx.out.2.1
      have c2 := Grow.g_cell hg HSX.out.2.2.2.1 hpN
      by_cases hlt : k < xs.length
      · obtain ⟨z, hz⟩ : ∃ z, z = xs.getD k 0 := ⟨_, rfl⟩
        have hzb := cell_bd HCB.out hlt
        rw [← hz] at hzb
        obtain ⟨x, rfl⟩ := Int.eq_ofNat_of_zero_le hzb.1
        have HXB : Hid (x < 64) := by have := HTP.out; simp only [Hid]; omega
        have HX : Hid ((xs.getD k 0).toNat = x) := by simp only [Hid]; rw [← hz]; rfl
        have hpb : b1 ≠ p := Nat.ne_of_lt (Nat.lt_of_lt_of_le HBL.out HAx.out.2.2.2.1)
        have hcx : wr.cell? ⟨b1, off1 + k, none⟩ = some (.int .i64 (x : Int)) := Grow.g_cell hg (by rw [hz]; exact (HSX.out.1.cell (p := ⟨b1, off1 + k, none⟩) HBL.out).trans (HC1.out k hlt)) hpb
        obtain ⟨IDX, hI⟩ : ∃ IDX, IDX = fB C A B k := ⟨_, rfl⟩
        have HFT : Hid (fB C A B k = IDX) := hI.symm
        have HIX : Hid (IDX < M) := by simp only [Hid]; rw [HMM.out, hI, HHE.out, HWE.out]; exact fB_lt HAB.out.1.1 HAB.out.2.1.1 HCC.out.1 HAB.out.2.2.1 HAB.out.2.2.2 (by rw [← HNX.out]; exact hlt)
        obtain ⟨y, hy⟩ : ∃ y, y = (blk xs (fB C A B) M k).getD IDX 0 := ⟨_, rfl⟩
        have hyb := blk_bd xs (fB C A B) M k IDX
        rw [← hy] at hyb
        have HY := hid hy
        obtain ⟨TC, hTC⟩ : ∃ TC, TC = k / C := ⟨_, rfl⟩
        obtain ⟨TR, hTR⟩ : ∃ TR, TR = k % C := ⟨_, rfl⟩
        obtain ⟨KA, hKA⟩ : ∃ KA, KA = TC / A := ⟨_, rfl⟩
        obtain ⟨LB, hLB⟩ : ∃ LB, LB = TR / B := ⟨_, rfl⟩
        obtain ⟨KW, hKW⟩ : ∃ KW, KW = KA * W := ⟨_, rfl⟩
        have d0 : ((k : Int) / (C : Int)) = (TC : Int) := by rw [hTC]; simp
        have e0 : ((k : Int) % (C : Int)) = (TR : Int) := by rw [hTR]; simp
        have d1 : ((TC : Int) / (A : Int)) = (KA : Int) := by rw [hKA]; simp
        have d2 : ((TR : Int) / (B : Int)) = (LB : Int) := by rw [hLB]; simp
        have hI2 : IDX = KW + LB := by rw [hI, hKW, hKA, hLB, hTC, hTR, HWE.out]; rfl
        have hTC16 : TC ≤ 16 := by rw [hTC]; exact Nat.le_trans (Nat.le_of_lt (Nat.div_lt_of_lt_mul (by rw [Nat.mul_comm, ← HNX.out]; exact hlt))) HRR.out.2
        have hTR16 : TR ≤ 16 := by rw [hTR]; exact Nat.le_trans (Nat.le_of_lt (Nat.mod_lt _ HCC.out.1)) HCC.out.2
        have hk16 : KA ≤ 16 := by rw [hKA]; exact div_le16 hTC16
        have hl16 : LB ≤ 16 := by rw [hLB]; exact div_le16 hTR16
        have hI256 : IDX ≤ 1000 := Nat.le_trans (Nat.le_of_lt HIX.out) (Nat.le_trans HM6.out (by decide))
        have f1 : IntKind.i64.wrap (TC : Int) = (TC : Int) := i64s (Nat.le_trans hTC16 (by decide))
        have f2 : IntKind.i64.wrap (KA : Int) = (KA : Int) := i64s (Nat.le_trans hk16 (by decide))
        have f3 : IntKind.i64.wrap (LB : Int) = (LB : Int) := i64s (Nat.le_trans hl16 (by decide))
        have d3 : IntKind.i64.wrap ((KA : Int) * (W : Int)) = (KW : Int) := by rw [hKW]; exact i64m (by rw [← hKW]; exact Nat.le_trans (Nat.le_trans (Nat.le_add_right _ _) (Nat.le_of_eq hI2.symm)) hI256)
        have d4 : IntKind.i64.wrap ((KW : Int) + (LB : Int)) = (IDX : Int) := i64a hI2 hI256
        have hkl := HLE.out.2
        have d7 : IntKind.i64.wrap (y + (popN x : Int)) = y + (popN x : Int) := i64v (by have hpp := pop_le (m := x); clear d0 e0 d1 d2 d3 d4 f1 f2 f3 hI hI2 hTC hTR hKA hLB hKW; omega)
        have hcw : IntKind.u64.wrap (x : Int) = (x : Int) := by have := HXB.out; clear d0 e0 d1 d2 d3 d4 d7 f1 f2 f3 hI hI2 hTC hTR hKA hLB hKW; simp [IntKind.wrap, IntKind.bits, IntKind.signed]; omega
        have hki : (k : Int) < (xs.length : Int) := Int.ofNat_lt.2 hlt
        have hIi : (IDX : Int) < (M : Int) := Int.ofNat_lt.2 HIX.out
        have hC0 : ¬ C = 0 := Nat.ne_of_gt HCC.out.1
        have HO1 := hid hown
        have HG1 := hid hg
        clear hown hg hz hzb hy hyb hI hI2 hTC hTR hKA hLB hKW hTC16 hTR16 hk16 hl16 hI256
        go_wp2_with fail
        go_quiet (fail)
        obtain ⟨w5, hW5⟩ : ∃ w5, w5 = wr.drewN nq := ⟨_, rfl⟩
        have bel5 : Below wr.heap.size wr w5 := by rw [hW5]; exact Help.below_drewN _ _ _
        have g5 := Grow.g_bel HG1.out bel5
        have ow5 := HO1.out.keep bel5
        have c5 := Grow.g_cell g5 (Go.Joins.cell_of_block HKG.out 0) HAx.out.2.2.1
        have c6 := Grow.g_cell g5 (Go.Joins.cell_of_block HKG.out 1) HAx.out.2.2.1
        have c7 := Grow.g_cell g5 (Go.Joins.cell_of_block HKG.out 2) HAx.out.2.2.1
        simp only [← hW5]
        clear hW5 bel5 hcx c2
        go_wp2_with fail
        refine wp_region_held_drew (S := (fun ww => w4.grownBy ww (some p) ∧ ww.cell? ⟨NG, 0, none⟩ = some (.int .i64 H) ∧ ww.cell? ⟨NG, 1, none⟩ = some (.int .i64 W) ∧ ww.cell? ⟨NG, 2, none⟩ = some ((Value.slice (some ⟨p, 0, none⟩) M M)) ∧ w4.heap.size ≤ ww.heap.size)) (by kernel_rfl) ?_ (fun hHeld => ?_)
        · ((try dsimp only); exact ⟨Grow.g_drew g5, c5, c6, c7, g5.size⟩)
        have ow : Own 2 w5.drew p (Value.slice (some ⟨p, 0, none⟩) M M) (blk xs (fB C A B) M k) := ow5
        generalize hD : w5.drew = wD at hHeld ow ⊢
        clear c5 c6 c7 g5 ow5 hD
        (refine wpAnyH_take (i := 0) (v := ?_) rfl ?_ ?_ ?_ (fun _ _ _ h => h) (Or.inl ⟨?_, ?_⟩) ?_ ?_; rotate_left 1; (focus decide +kernel); (focus decide +kernel); (focus decide +kernel); (focus rfl); (focus (intro w hSw; (try dsimp only at hSw); go_simp; (try (with_reducible rfl)); done)); (focus assumption); (try simp only [Act.put, List.setIfInBounds_toArray, List.set_cons_zero, List.set_cons_succ, List.getElem_toArray, List.getElem_cons_succ, List.getElem_cons_zero]))
        (refine wpAnyH_take (i := 1) (v := ?_) rfl ?_ ?_ ?_ (fun _ _ _ h => h) (Or.inl ⟨?_, ?_⟩) ?_ ?_; rotate_left 1; (focus decide +kernel); (focus decide +kernel); (focus decide +kernel); (focus rfl); (focus (intro w hSw; (try dsimp only at hSw); go_simp; (try (with_reducible rfl)); done)); (focus assumption); (try simp only [Act.put, List.setIfInBounds_toArray, List.set_cons_zero, List.set_cons_succ, List.getElem_toArray, List.getElem_cons_succ, List.getElem_cons_zero]))
        (refine wpAnyH_take (i := 2) (v := ?_) rfl ?_ ?_ ?_ (fun _ _ _ h => h) (Or.inl ⟨?_, ?_⟩) ?_ ?_; rotate_left 1; (focus decide +kernel); (focus decide +kernel); (focus decide +kernel); (focus rfl); (focus (intro w hSw; (try dsimp only at hSw); go_simp; (try (with_reducible rfl)); done)); (focus assumption); (try simp only [Act.put, List.setIfInBounds_toArray, List.set_cons_zero, List.set_cons_succ, List.getElem_toArray, List.getElem_cons_succ, List.getElem_cons_zero]))
        (refine wpAnyH_take (i := 3) (v := ?_) rfl ?_ ?_ ?_ (fun _ _ _ h => h) (Or.inl ⟨?_, ?_⟩) ?_ ?_; rotate_left 1; (focus decide +kernel); (focus decide +kernel); (focus decide +kernel); (focus rfl); (focus (intro w hSw; (try dsimp only at hSw); go_simp; (try (with_reducible rfl)); done)); (focus assumption); (try simp only [Act.put, List.setIfInBounds_toArray, List.set_cons_zero, List.set_cons_succ, List.getElem_toArray, List.getElem_cons_succ, List.getElem_cons_zero]))
        (refine wpAnyH_take (i := 4) (v := ?_) rfl ?_ ?_ ?_ (fun _ _ _ h => h) (Or.inl ⟨?_, ?_⟩) ?_ ?_; rotate_left 1; (focus decide +kernel); (focus decide +kernel); (focus decide +kernel); (focus rfl); (focus (intro w hSw; (try dsimp only at hSw); go_simp; (try (with_reducible rfl)); done)); (focus assumption); (try simp only [Act.put, List.setIfInBounds_toArray, List.set_cons_zero, List.set_cons_succ, List.getElem_toArray, List.getElem_cons_succ, List.getElem_cons_zero]))
        (refine wpAnyH_take (i := 5) (v := ?_) rfl ?_ ?_ ?_ (fun _ _ _ h => h) (Or.inl ⟨?_, ?_⟩) ?_ ?_; rotate_left 1; (focus decide +kernel); (focus decide +kernel); (focus decide +kernel); (focus rfl); (focus (intro w hSw; (try dsimp only at hSw); go_simp; (try (with_reducible rfl)); done)); (focus assumption); (try simp only [Act.put, List.setIfInBounds_toArray, List.set_cons_zero, List.set_cons_succ, List.getElem_toArray, List.getElem_cons_succ, List.getElem_cons_zero]))
        (refine wpAnyH_take (i := 6) (v := ?_) rfl ?_ ?_ ?_ (fun _ _ _ h => h) (Or.inl ⟨?_, ?_⟩) ?_ ?_; rotate_left 1; (focus decide +kernel); (focus decide +kernel); (focus decide +kernel); (focus rfl); (focus (intro w hSw; (try dsimp only at hSw); go_simp; (try (with_reducible rfl)); done)); (focus assumption); (try simp only [Act.put, List.setIfInBounds_toArray, List.set_cons_zero, List.set_cons_succ, List.getElem_toArray, List.getElem_cons_succ, List.getElem_cons_zero]))
        (refine wpAnyH_take (i := 7) (v := ?_) rfl ?_ ?_ ?_ (fun _ _ _ h => h) (Or.inl ⟨?_, ?_⟩) ?_ ?_; rotate_left 1; (focus decide +kernel); (focus decide +kernel); (focus decide +kernel); (focus rfl); (focus (intro w hSw; (try dsimp only at hSw); go_simp; (try (with_reducible rfl)); done)); (focus assumption); (try simp only [Act.put, List.setIfInBounds_toArray, List.set_cons_zero, List.set_cons_succ, List.getElem_toArray, List.getElem_cons_succ, List.getElem_cons_zero]))
        (refine wpAnyH_take (i := 8) (v := ?_) rfl ?_ ?_ ?_ (fun _ _ _ h => h) (Or.inl ⟨?_, ?_⟩) ?_ ?_; rotate_left 1; (focus decide +kernel); (focus decide +kernel); (focus decide +kernel); (focus rfl); (focus (intro w hSw; (try dsimp only at hSw); go_simp; (try (with_reducible rfl)); done)); (focus assumption); (try simp only [Act.put, List.setIfInBounds_toArray, List.set_cons_zero, List.set_cons_succ, List.getElem_toArray, List.getElem_cons_succ, List.getElem_cons_zero]))
        (refine wpAnyH_take (i := 9) (v := ?_) rfl ?_ ?_ ?_ (fun _ _ _ h => h) (Or.inl ⟨?_, ?_⟩) ?_ ?_; rotate_left 1; (focus decide +kernel); (focus decide +kernel); (focus decide +kernel); (focus rfl); (focus (intro w hSw; (try dsimp only at hSw); go_simp; (try (with_reducible rfl)); done)); (focus assumption); (try simp only [Act.put, List.setIfInBounds_toArray, List.set_cons_zero, List.set_cons_succ, List.getElem_toArray, List.getElem_cons_succ, List.getElem_cons_zero]))
        (refine wpAnyH_take (i := 11) (v := ?_) rfl ?_ ?_ ?_ (fun _ _ _ h => h) (Or.inl ⟨?_, ?_⟩) ?_ ?_; rotate_left 1; (focus decide +kernel); (focus decide +kernel); (focus decide +kernel); (focus rfl); (focus (intro w hSw; (try dsimp only at hSw); go_simp; (try (with_reducible rfl)); done)); (focus assumption); (try simp only [Act.put, List.setIfInBounds_toArray, List.set_cons_zero, List.set_cons_succ, List.getElem_toArray, List.getElem_cons_succ, List.getElem_cons_zero]))
        (refine wpAnyH_take (i := 12) (v := ?_) rfl ?_ ?_ ?_ (fun _ _ _ h => h) (Or.inl ⟨?_, ?_⟩) ?_ ?_; rotate_left 1; (focus decide +kernel); (focus decide +kernel); (focus decide +kernel); (focus rfl); (focus (intro w hSw; (try dsimp only at hSw); go_simp; (try (with_reducible rfl)); done)); (focus assumption); (try simp only [Act.put, List.setIfInBounds_toArray, List.set_cons_zero, List.set_cons_succ, List.getElem_toArray, List.getElem_cons_succ, List.getElem_cons_zero]))
        refine wpAnyH_ready (rs := [10, 13]) ?_ (by simp) ?_
        · decide +kernel
        refine AllReadyH.cons rfl (fun K hK => ?_) (AllReadyH.cons rfl (fun K hK => ?_) AllReadyH.nil)
        · have hcy : wD.cell? ⟨p, IDX, none⟩ = some (.int .i64 y) := by rw [HY.out]; exact ow.cell (i := IDX) (by rw [blk_len]; exact HIX.out)
          go_simp
          clear hcy
          refine hK.out _ _ ?_ (fun hHeld2 => ?_)
          · (try dsimp only); exact hHeld
          clear hK K hHeld
          have hHeld := hHeld2
          clear hHeld2
          (try simp only [Act.put, List.setIfInBounds_toArray, List.set_cons_zero, List.set_cons_succ, List.getElem_toArray, List.getElem_cons_succ, List.getElem_cons_zero])
          refine wpAnyH_ready (rs := [13]) ?_ (by simp) ?_
          · decide +kernel
          refine AllReadyH.cons rfl (fun K hK => ?_) AllReadyH.nil
          go_simp
          go_at_call 60
          refine (ones HXB.out).mono ?_
          rintro e w' ⟨rfl, rfl⟩
          refine hK.out _ _ ?_ (fun hHeld2 => ?_)
          · (try dsimp only); exact hHeld
          clear hK K hHeld
          have hHeld := hHeld2
          clear hHeld2
          (try simp only [Act.put, List.setIfInBounds_toArray, List.set_cons_zero, List.set_cons_succ, List.getElem_toArray, List.getElem_cons_succ, List.getElem_cons_zero])
          (refine wpAnyH_take (i := 14) (v := ?_) rfl ?_ ?_ ?_ (fun _ _ _ h => h) (Or.inl ⟨?_, ?_⟩) ?_ ?_; rotate_left 1; (focus decide +kernel); (focus decide +kernel); (focus decide +kernel); (focus rfl); (focus (intro w hSw; (try dsimp only at hSw); go_simp; (try (with_reducible rfl)); done)); (focus assumption); (try simp only [Act.put, List.setIfInBounds_toArray, List.set_cons_zero, List.set_cons_succ, List.getElem_toArray, List.getElem_cons_succ, List.getElem_cons_zero]))
          (refine wpAnyH_take (i := 15) (v := ?_) rfl ?_ ?_ ?_ (fun _ _ _ h => h) (Or.inl ⟨?_, ?_⟩) ?_ ?_; rotate_left 1; (focus decide +kernel); (focus decide +kernel); (focus decide +kernel); (focus rfl); (focus (intro w hSw; (try dsimp only at hSw); go_simp; (try (with_reducible rfl)); done)); (focus assumption); (try simp only [Act.put, List.setIfInBounds_toArray, List.set_cons_zero, List.set_cons_succ, List.getElem_toArray, List.getElem_cons_succ, List.getElem_cons_zero]))
          refine wpAnyH_ready (rs := [16]) ?_ (by simp) ?_
          · decide +kernel
          refine AllReadyH.cons rfl (fun K hK => ?_) AllReadyH.nil
          have hox := ow.cell (i := IDX) (by rw [blk_len]; exact HIX.out)
          have hof := ow.free IDX
          go_simp
          have ow2 := ow.set IDX (y + (popN x : Int))
          have g2 := Grow.g_set hHeld.1 IDX (.int .i64 (y + (popN x : Int)))
          refine hK.out _ _ ?_ (fun hHeld5 => ?_)
          · (try dsimp only); obtain ⟨h0, h1, h2, h3, h4⟩ := hHeld; exact ⟨g2, FNew.set_cell h1 HAx.out.2.2.1, FNew.set_cell h2 HAx.out.2.2.1, FNew.set_cell h3 HAx.out.2.2.1, by simpa [World.setCell] using h4⟩
          clear hK K hHeld5
          obtain ⟨wz, hz⟩ : ∃ wz, wz = wD.setCell ⟨p, IDX, none⟩ (.int .i64 (y + (popN x : Int))) := ⟨_, rfl⟩
          rw [← hz] at ow2 g2
          simp only [← hz]
          clear hz hox hof hHeld
          (try simp only [Act.put, List.setIfInBounds_toArray, List.set_cons_zero, List.set_cons_succ, List.getElem_toArray, List.getElem_cons_succ, List.getElem_cons_zero])
          refine wpAnyH_done (by kernel_rfl) ?_ _
          have HO3 := hid ow2
          have HG3 := hid g2
          clear ow ow2 g2
          go_wp2
          go_roundw
          case rel =>
            refine ⟨k + 1, by omega, by go_num, ?_, HG3.out⟩
            show Own _ _ _ _ ((blk xs (fB C A B) M k).set (fB C A B k) ((blk xs (fB C A B) M k).getD (fB C A B k) 0 + (popN (xs.getD k 0).toNat : Int)))
            rw [HFT.out, ← HY.out, HX.out]
            exact HO3.out
          case measure => simp [intOf]; omega
        · go_simp
          go_at_call 60
          refine (ones HXB.out).mono ?_
          rintro e w' ⟨rfl, rfl⟩
          refine hK.out _ _ ?_ (fun hHeld2 => ?_)
          · (try dsimp only); exact hHeld
          clear hK K hHeld
          have hHeld := hHeld2
          clear hHeld2
          (try simp only [Act.put, List.setIfInBounds_toArray, List.set_cons_zero, List.set_cons_succ, List.getElem_toArray, List.getElem_cons_succ, List.getElem_cons_zero])
          refine wpAnyH_ready (rs := [10]) ?_ (by simp) ?_
          · decide +kernel
          refine AllReadyH.cons rfl (fun K hK => ?_) AllReadyH.nil
          have hcy : wD.cell? ⟨p, IDX, none⟩ = some (.int .i64 y) := by rw [HY.out]; exact ow.cell (i := IDX) (by rw [blk_len]; exact HIX.out)
          go_simp
          clear hcy
          refine hK.out _ _ ?_ (fun hHeld2 => ?_)
          · (try dsimp only); exact hHeld
          clear hK K hHeld
          have hHeld := hHeld2
          clear hHeld2
          (try simp only [Act.put, List.setIfInBounds_toArray, List.set_cons_zero, List.set_cons_succ, List.getElem_toArray, List.getElem_cons_succ, List.getElem_cons_zero])
          (refine wpAnyH_take (i := 14) (v := ?_) rfl ?_ ?_ ?_ (fun _ _ _ h => h) (Or.inl ⟨?_, ?_⟩) ?_ ?_; rotate_left 1; (focus decide +kernel); (focus decide +kernel); (focus decide +kernel); (focus rfl); (focus (intro w hSw; (try dsimp only at hSw); go_simp; (try (with_reducible rfl)); done)); (focus assumption); (try simp only [Act.put, List.setIfInBounds_toArray, List.set_cons_zero, List.set_cons_succ, List.getElem_toArray, List.getElem_cons_succ, List.getElem_cons_zero]))
          (refine wpAnyH_take (i := 15) (v := ?_) rfl ?_ ?_ ?_ (fun _ _ _ h => h) (Or.inl ⟨?_, ?_⟩) ?_ ?_; rotate_left 1; (focus decide +kernel); (focus decide +kernel); (focus decide +kernel); (focus rfl); (focus (intro w hSw; (try dsimp only at hSw); go_simp; (try (with_reducible rfl)); done)); (focus assumption); (try simp only [Act.put, List.setIfInBounds_toArray, List.set_cons_zero, List.set_cons_succ, List.getElem_toArray, List.getElem_cons_succ, List.getElem_cons_zero]))
          refine wpAnyH_ready (rs := [16]) ?_ (by simp) ?_
          · decide +kernel
          refine AllReadyH.cons rfl (fun K hK => ?_) AllReadyH.nil
          have hox := ow.cell (i := IDX) (by rw [blk_len]; exact HIX.out)
          have hof := ow.free IDX
          go_simp
          have ow2 := ow.set IDX (y + (popN x : Int))
          have g2 := Grow.g_set hHeld.1 IDX (.int .i64 (y + (popN x : Int)))
          refine hK.out _ _ ?_ (fun hHeld5 => ?_)
          · (try dsimp only); obtain ⟨h0, h1, h2, h3, h4⟩ := hHeld; exact ⟨g2, FNew.set_cell h1 HAx.out.2.2.1, FNew.set_cell h2 HAx.out.2.2.1, FNew.set_cell h3 HAx.out.2.2.1, by simpa [World.setCell] using h4⟩
          clear hK K hHeld5
          obtain ⟨wz, hz⟩ : ∃ wz, wz = wD.setCell ⟨p, IDX, none⟩ (.int .i64 (y + (popN x : Int))) := ⟨_, rfl⟩
          rw [← hz] at ow2 g2
          simp only [← hz]
          clear hz hox hof hHeld
          (try simp only [Act.put, List.setIfInBounds_toArray, List.set_cons_zero, List.set_cons_succ, List.getElem_toArray, List.getElem_cons_succ, List.getElem_cons_zero])
          refine wpAnyH_done (by kernel_rfl) ?_ _
          have HO3 := hid ow2
          have HG3 := hid g2
          clear ow ow2 g2
          go_wp2
          go_roundw
          case rel =>
            refine ⟨k + 1, by omega, by go_num, ?_, HG3.out⟩
            show Own _ _ _ _ ((blk xs (fB C A B) M k).set (fB C A B k) ((blk xs (fB C A B) M k).getD (fB C A B k) 0 + (popN (xs.getD k 0).toNat : Int)))
            rw [HFT.out, ← HY.out, HX.out]
            exact HO3.out
          case measure => simp [intOf]; omega
      · have hkn : k = xs.length := by omega
        subst hkn
        have HO2 := hid hown
        have HB2 := hid (Grow.g_below HSX.out.1 hg HAx.out.2.2.2.1)
        have c7 := Grow.g_cell hg (Go.Joins.cell_of_block HKG.out 2) HAx.out.2.2.1
        clear hown hg
        go_wp2
        go_ret2
        exact ⟨p, rfl, by rw [← HNX.out]; exact HO2.out, HAx.out.2.2.2.1, HB2.out⟩

end Go.Proofs.Ytnpjhhkhdeomcaa.Den
