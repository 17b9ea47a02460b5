/- impl.collided. -/
import Derived.Test.YtnpjhhkhdeomcaaCldA
namespace Go.Proofs.Ytnpjhhkhdeomcaa.Cld
open Go.RowKit Go.Proofs.Ytnpjhhkhdeomcaa.Rd Go.Proofs.Ytnpjhhkhdeomcaa.Rdb Go.Proofs.Ytnpjhhkhdeomcaa.Help Go.Proofs.Ytnpjhhkhdeomcaa.Ring Go.Proofs.Ytnpjhhkhdeomcaa.Small Go.Proofs.Ytnpjhhkhdeomcaa.FVal Go.Proofs.Ytnpjhhkhdeomcaa.Keep Go.Proofs.Ytnpjhhkhdeomcaa.Rule Go.Proofs.Ytnpjhhkhdeomcaa.GVal Go.Proofs.Ytnpjhhkhdeomcaa.GOwn Go.Proofs.Ytnpjhhkhdeomcaa.Trn Go.Proofs.Ytnpjhhkhdeomcaa.Rev
set_option linter.unusedVariables false
set_option linter.unusedSimpArgs false
set_option maxHeartbeats 32000000 in
theorem implCollided4 {w : World} {s r : Int} {b1 b2 : Nat} {v1 v2 : Value} {xs : List Int} {ys : List Bool} {left : Bool} (h1 : Rd w b1 v1 xs) (h2 : RdB w b2 v2 ys) (hq : gasB 4 s r xs ys = true) :
    Calls Try.prog 57 #[gasV 4 s r v1 v2, .bool left] w fun e w' => ∃ p kp q kq, e = .returned (gasV 4 s r (.slice (some ⟨p, 0, none⟩) xs.length kp) (.slice (some ⟨q, 0, none⟩) ys.length kq)) ∧ Own 2 w' p (.slice (some ⟨p, 0, none⟩) xs.length kp) (colL 4 left xs ys) ∧ OwnB 4 w' q (.slice (some ⟨q, 0, none⟩) ys.length kq) ys ∧ w.heap.size ≤ p ∧ p < q ∧ xs.length ≤ kp ∧ kp ≤ maxLen ∧ Below w.heap.size w w' := by
  obtain ⟨hg4, hn, hn256, hym, hcb⟩ := gas_parts hq
  have H1 := hid h1
  have H2 := hid h2
  have HQ := hid hq
  have HCB := hid hcb
  have HG4 := hid hg4
  obtain ⟨ao1, cap1, rfl, hc1, hm1, h41⟩ := h1
  obtain ⟨ao2, cap2, rfl, hc2, hm2, h42⟩ := h2
  obtain ⟨off1, rfl, hb1, hcell1⟩ := h41 (by omega)
  obtain ⟨off2, rfl, hb2, hcell2⟩ := h42 (by omega)
  have HC1 := hid hcell1
  have HC2 := hid hcell2
  have HBL := hid (And.intro hb1 hb2)
  have HYM := hid hym
  have hnI : (xs.length : Int) ≤ 256 := by omega
  have HLE : Hid (1 ≤ xs.length ∧ xs.length ≤ 256) := ⟨hn, hn256⟩
  clear hq hcb hg4 hc1 hm1 h41 hc2 hm2 h42 hb1 hb2 hcell1 hcell2 hym hn hn256
  have hmk := run_make_row' (P := Try.prog) 22 2 (.int .i64 0) 8 Try.underlying22 infoI rfl .i64 .i64 xs.length (by have := HLE.out; omega) (by have := HLE.out; omega)
  go_enter Try.func57, Try.ntmps57
  go_wp2_with fail
  obtain ⟨w1, hW⟩ : ∃ w1, w1 = (w.alloc (Obj.cells #[.int .i64 4, .int .i64 s, .int .i64 r, (Value.slice (some ⟨b1, off1, none⟩) xs.length cap1), (Value.slice (some ⟨b2, off2, none⟩) ys.length cap2)] 31)).alloc (Obj.cells #[.int .i64 0, .int .i64 0, .int .i64 0, .slice none 0 0, .slice none 0 0] 31) := ⟨_, rfl⟩
  obtain ⟨N, hN⟩ : ∃ N, N = w.heap.size := ⟨_, rfl⟩
  obtain ⟨NT, hM⟩ : ∃ NT, NT = N + 1 := ⟨_, rfl⟩
  have st : Below w.heap.size w w1 ∧ w1.cell? ⟨N, 0, none⟩ = some (.int .i64 4) ∧ w1.cell? ⟨N, 1, none⟩ = some (.int .i64 s) ∧ w1.cell? ⟨N, 2, none⟩ = some (.int .i64 r) ∧ w1.cell? ⟨N, 3, none⟩ = some ((Value.slice (some ⟨b1, off1, none⟩) xs.length cap1)) ∧ w1.cell? ⟨N, 4, none⟩ = some ((Value.slice (some ⟨b2, off2, none⟩) ys.length cap2)) ∧ Rd w1 b1 (Value.slice (some ⟨b1, off1, none⟩) xs.length cap1) xs ∧ RdB w1 b2 (Value.slice (some ⟨b2, off2, none⟩) ys.length cap2) ys ∧ w.heap.size ≤ w1.heap.size := by
    rw [hW, hN]
    exact ⟨Go.Joins.below_alloc2 _ _ _, by simp, by simp, by simp, by simp, by simp, H1.out.keep (Go.Joins.below_alloc2 _ _ _) (Nat.le_refl _), H2.out.keep (Go.Joins.below_alloc2 _ _ _) (Nat.le_refl _), by simp; omega⟩
  have kT : w1.heap[NT]? = some (Obj.cells #[.int .i64 0, .int .i64 0, .int .i64 0, .slice none 0 0, .slice none 0 0] 31) := by rw [hW]; exact FNew.heap_top (by rw [hM, hN]; simp)
  have HNT : Hid (w.heap.size ≤ NT) := by simp only [Hid]; omega
  have HNN : Hid (NT = N + 1 ∧ N = w.heap.size) := ⟨hM, hN⟩
  simp only [← hW, ← hN, ← hM]
  clear hW hN hM
  refine wp_region_held_drew (S := (fun ww => Below w.heap.size w ww ∧ ww.cell? ⟨N, 0, none⟩ = some (.int .i64 4) ∧ ww.cell? ⟨N, 1, none⟩ = some (.int .i64 s) ∧ ww.cell? ⟨N, 2, none⟩ = some (.int .i64 r) ∧ ww.cell? ⟨N, 3, none⟩ = some ((Value.slice (some ⟨b1, off1, none⟩) xs.length cap1)) ∧ ww.cell? ⟨N, 4, none⟩ = some ((Value.slice (some ⟨b2, off2, none⟩) ys.length cap2)) ∧ Rd ww b1 (Value.slice (some ⟨b1, off1, none⟩) xs.length cap1) xs ∧ RdB ww b2 (Value.slice (some ⟨b2, off2, none⟩) ys.length cap2) ys ∧ w.heap.size ≤ ww.heap.size)) (by kernel_rfl) ?_ (fun hHeld => ?_)
  · ((try dsimp only); exact drw5_IB st)
  replace kT : w1.drew.heap[NT]? = some (Obj.cells #[.int .i64 0, .int .i64 0, .int .i64 0, .slice none 0 0, .slice none 0 0] 31) := kT
  generalize hD : w1.drew = wD at hHeld kT ⊢
  clear hD st
  (refine wpAnyH_take (i := 0) (v := ?_) rfl ?_ ?_ ?_ (fun _ _ _ h => h) (Or.inl ⟨?_, ?_⟩) ?_ ?_; rotate_left 1; (focus decide +kernel); (focus decide +kernel); (focus decide +kernel); (focus rfl); (focus (intro w hSw; (try dsimp only at hSw); go_simp; (try (with_reducible rfl)); done)); (focus assumption); (try simp only [Act.put, List.setIfInBounds_toArray, List.set_cons_zero, List.set_cons_succ, List.getElem_toArray, List.getElem_cons_succ, List.getElem_cons_zero]))
  (refine wpAnyH_take (i := 1) (v := ?_) rfl ?_ ?_ ?_ (fun _ _ _ h => h) (Or.inl ⟨?_, ?_⟩) ?_ ?_; rotate_left 1; (focus decide +kernel); (focus decide +kernel); (focus decide +kernel); (focus rfl); (focus (intro w hSw; (try dsimp only at hSw); go_simp; (try (with_reducible rfl)); done)); (focus assumption); (try simp only [Act.put, List.setIfInBounds_toArray, List.set_cons_zero, List.set_cons_succ, List.getElem_toArray, List.getElem_cons_succ, List.getElem_cons_zero]))
  (refine wpAnyH_take (i := 2) (v := ?_) rfl ?_ ?_ ?_ (fun _ _ _ h => h) (Or.inl ⟨?_, ?_⟩) ?_ ?_; rotate_left 1; (focus decide +kernel); (focus decide +kernel); (focus decide +kernel); (focus rfl); (focus (intro w hSw; (try dsimp only at hSw); go_simp; (try (with_reducible rfl)); done)); (focus assumption); (try simp only [Act.put, List.setIfInBounds_toArray, List.set_cons_zero, List.set_cons_succ, List.getElem_toArray, List.getElem_cons_succ, List.getElem_cons_zero]))
  (refine wpAnyH_take (i := 4) (v := ?_) rfl ?_ ?_ ?_ (fun _ _ _ h => h) (Or.inl ⟨?_, ?_⟩) ?_ ?_; rotate_left 1; (focus decide +kernel); (focus decide +kernel); (focus decide +kernel); (focus rfl); (focus (intro w hSw; (try dsimp only at hSw); go_simp; (try (with_reducible rfl)); done)); (focus assumption); (try simp only [Act.put, List.setIfInBounds_toArray, List.set_cons_zero, List.set_cons_succ, List.getElem_toArray, List.getElem_cons_succ, List.getElem_cons_zero]))
  (refine wpAnyH_take (i := 5) (v := ?_) rfl ?_ ?_ ?_ (fun _ _ _ h => h) (Or.inl ⟨?_, ?_⟩) ?_ ?_; rotate_left 1; (focus decide +kernel); (focus decide +kernel); (focus decide +kernel); (focus rfl); (focus (intro w hSw; (try dsimp only at hSw); go_simp; (try (with_reducible rfl)); done)); (focus assumption); (try simp only [Act.put, List.setIfInBounds_toArray, List.set_cons_zero, List.set_cons_succ, List.getElem_toArray, List.getElem_cons_succ, List.getElem_cons_zero]))
  (refine wpAnyH_take (i := 6) (v := ?_) rfl ?_ ?_ ?_ (fun _ _ _ h => h) (Or.inl ⟨?_, ?_⟩) ?_ ?_; rotate_left 1; (focus decide +kernel); (focus decide +kernel); (focus decide +kernel); (focus rfl); (focus (intro w hSw; (try dsimp only at hSw); go_simp; (try (with_reducible rfl)); done)); (focus assumption); (try simp only [Act.put, List.setIfInBounds_toArray, List.set_cons_zero, List.set_cons_succ, List.getElem_toArray, List.getElem_cons_succ, List.getElem_cons_zero]))
  refine wpAnyH_ready (rs := [3, 7]) ?_ (by simp) ?_
  · decide +kernel
  refine AllReadyH.cons rfl (fun K hK => ?_) (AllReadyH.cons rfl (fun K hK => ?_) AllReadyH.nil)
  · go_simp
    go_at_call 70
    refine (Col.mk4).mono ?_
    rintro e wC ⟨NG, NB, rfl, g0, g1, lg, lb, gl, bl, bel⟩
    replace kT := (bel.block NT (Array.getElem?_eq_some_iff.1 kT).1).trans kT
    refine hK.out _ _ ?_ (fun hHeld2 => ?_)
    · (try dsimp only); exact nx5_IB bel hHeld
    clear hK K hHeld bel lg lb
    have hHeld := hHeld2
    clear hHeld2
    (try simp only [Act.put, List.setIfInBounds_toArray, List.set_cons_zero, List.set_cons_succ, List.getElem_toArray, List.getElem_cons_succ, List.getElem_cons_zero])
    (refine wpAnyH_take (i := 8) (v := ?_) rfl ?_ ?_ ?_ (fun _ _ _ h => h) (Or.inl ⟨?_, ?_⟩) ?_ ?_; rotate_left 1; (focus decide +kernel); (focus decide +kernel); (focus decide +kernel); (focus rfl); (focus (intro w hSw; (try dsimp only at hSw); go_simp; (try (with_reducible rfl)); done)); (focus assumption); (try simp only [Act.put, List.setIfInBounds_toArray, List.set_cons_zero, List.set_cons_succ, List.getElem_toArray, List.getElem_cons_succ, List.getElem_cons_zero]))
    refine wpAnyH_ready (rs := [7]) ?_ (by simp) ?_
    · decide +kernel
    refine AllReadyH.cons rfl (fun K hK => ?_) AllReadyH.nil
    go_simp
    refine hK.out _ _ ?_ (fun hHeld2 => ?_)
    · (try dsimp only); exact nx5_IB (below1 _ _) hHeld
    clear hK K
    obtain ⟨w4, hW⟩ : ∃ w5, w5 = (wC.alloc (.cells (madeCells #[.int .i64 0] xs.length) 2)) := ⟨_, rfl⟩
    obtain ⟨p, hp⟩ : ∃ p, p = wC.heap.size := ⟨_, rfl⟩
    have bel : Below wC.heap.size wC w4 := by rw [hW]; exact below1 _ _
    have op : Own 2 w4 p (Value.slice (some ⟨p, 0, none⟩) xs.length xs.length) (List.replicate xs.length 0) := by rw [hW, hp]; exact Own.made 2 wC xs.length (by have := HLE.out; unfold maxLen; omega)
    have hNTp : NT < p := by rw [hp]; exact (Array.getElem?_eq_some_iff.1 kT).1
    have lop : w.heap.size ≤ p := by rw [hp]; exact hHeld.1.size
    replace kT := (bel.block NT (Array.getElem?_eq_some_iff.1 kT).1).trans kT
    have hGp : NG ≠ p := by rw [hp]; exact Nat.ne_of_lt gl
    have hBp : NB ≠ p := by rw [hp]; exact Nat.ne_of_lt bl
    replace g0 := cell_keep bel g0
    replace g1 := cell_keep bel g1
    clear gl bl
    rw [← hW] at hHeld2
    simp only [← hW, ← hp]
    clear hHeld bel hW hp
    have hHeld := hHeld2
    clear hHeld2
    (try simp only [Act.put, List.setIfInBounds_toArray, List.set_cons_zero, List.set_cons_succ, List.getElem_toArray, List.getElem_cons_succ, List.getElem_cons_zero])
    (refine wpAnyH_take (i := 9) (v := ?_) rfl ?_ ?_ ?_ (fun _ _ _ h => h) (Or.inl ⟨?_, ?_⟩) ?_ ?_; rotate_left 1; (focus decide +kernel); (focus decide +kernel); (focus decide +kernel); (focus rfl); (focus (intro w hSw; (try dsimp only at hSw); go_simp; (try (with_reducible rfl)); done)); (focus assumption); (try simp only [Act.put, List.setIfInBounds_toArray, List.set_cons_zero, List.set_cons_succ, List.getElem_toArray, List.getElem_cons_succ, List.getElem_cons_zero]))
    refine wpAnyH_done (by kernel_rfl) ?_ _
    have HSX := hid hHeld
    have HKT := hid kT
    have HOP := hid op
    have HCG := hid (And.intro g0 g1)
    have HGP := hid (And.intro hGp hBp)
    have HAp := hid (show N < NT ∧ NT < p ∧ w.heap.size ≤ p from ⟨by have := HNN.out; omega, hNTp, lop⟩)
    have c3m : w4.cell? ⟨N, 3, none⟩ = some (Value.slice (some ⟨b1, off1, none⟩) xs.length cap1) := hHeld.2.2.2.2.1
    clear hHeld kT op g0 g1 hGp hBp hNTp lop
    try clear gl bl
    go_wp2
    clear c3m
    have HTL : Hid ((colL 4 left xs ys).length = xs.length) := by simp [Hid, colL]
    go_loopw [7, 8, 20] (fun j7 j8 i wr => ∃ k : Nat, k ≤ xs.length ∧ i = .int .i64 k ∧ Own 2 wr p (Value.slice (some ⟨p, 0, none⟩) xs.length xs.length) (Grow.filN (colL 4 left xs ys) xs.length k) ∧ w4.grownBy wr (some p)) (fun _ _ i _ => xs.length - (intOf i).toNat)
    case atStart => exact ⟨0, Nat.zero_le _, rfl, by rw [Grow.filN_zero]; exact HOP.out, World.grownBy.refl _ _⟩
    case round =>
      obtain ⟨k, hk, rfl, hown, hg⟩ := hrel
      have hpN : N ≠ p := Nat.ne_of_lt (Nat.lt_trans HAp.out.1 HAp.out.2.1)
      have c0 := Grow.g_cell hg HSX.out.2.1 hpN
      have c1 := Grow.g_cell hg HSX.out.2.2.1 hpN
      have c2 := Grow.g_cell hg HSX.out.2.2.2.1 hpN
      have c3 := Grow.g_cell hg HSX.out.2.2.2.2.1 hpN
      have c4 := Grow.g_cell hg HSX.out.2.2.2.2.2.1 hpN
      have cg0 := Grow.g_cell hg HCG.out.1 HGP.out.1
      have cg1 := Grow.g_cell hg HCG.out.2 HGP.out.2
      by_cases hlt : k < xs.length
      · obtain ⟨y, hy⟩ : ∃ y, y = xs.getD k 0 := ⟨_, rfl⟩
        have hyb : 0 ≤ y ∧ y < 16 := by
          have h1 := cell_bd HCB.out hlt
          rw [← hy] at h1
          have ht : top (4) = 16 - 1 := by simp [top]
          omega
        obtain ⟨x, rfl⟩ := Int.eq_ofNat_of_zero_le hyb.1
        have HXS : Hid (x < 16) := by simp only [Hid]; omega
        have HXB : Hid (x < 64) := by simp only [Hid]; omega
        have hpb : b1 ≠ p := Nat.ne_of_lt (Nat.lt_of_lt_of_le HBL.out.1 HAp.out.2.2)
        have hpb2 : b2 ≠ p := Nat.ne_of_lt (Nat.lt_of_lt_of_le HBL.out.2 HAp.out.2.2)
        have hcx : wr.cell? ⟨b1, off1 + k, none⟩ = some (.int .i64 (x : Int)) := Grow.g_cell hg (by rw [hy]; exact (HSX.out.1.cell (p := ⟨b1, off1 + k, none⟩) HBL.out.1).trans (HC1.out k hlt)) hpb
        obtain ⟨wl, hwl⟩ : ∃ wl, wl = ys.getD k false := ⟨_, rfl⟩
        have hcw : wr.cell? ⟨b2, off2 + k, none⟩ = some (.bool wl) := Grow.g_cell hg (by rw [hwl]; exact (HSX.out.1.cell (p := ⟨b2, off2 + k, none⟩) HBL.out.2).trans (HC2.out k (by have := HYM.out; omega))) hpb2
        have HTX : Hid ((colL 4 left xs ys).getD k 0 = (colC 4 left wl x : Int)) := by simp only [Hid]; rw [colL_get hlt, ← hy, ← hwl]; rfl
        have hki : (k : Int) < (xs.length : Int) := by omega
        have hkj : (k : Int) < (ys.length : Int) := by have := HYM.out; omega
        have HO1 := hid hown
        have HG1 := hid hg
        clear hown hg hy hyb hwl
        cases wl with
        | true =>
          go_wp2_with fail
          go_at_call 52
          refine (implTurned4 HXB.out (by omega)).mono ?_
          rintro e wy ⟨rfl, bel⟩
          have ow := HO1.out.keep bel
          have g2 := Grow.g_bel HG1.out bel
          have hox := ow.cell (i := k) (by rw [Grow.filN_len _ _ _ HTL.out (Nat.le_of_lt hlt)]; exact hlt)
          have hof := ow.free k
          have HO3 := hid (ow.set k (Trn.trn x 4 2 4 : Int))
          have HG3 := hid (Grow.g_set g2 k (.int .i64 (Trn.trn x 4 2 4 : Int)))
          clear ow g2 bel hcx hcw cg0 cg1 c0 c1 c2 c3 c4
          go_wp2
          go_roundw
          case rel =>
            refine ⟨k + 1, by omega, by go_num, ?_, HG3.out⟩
            have hs := Grow.filN_set (colL 4 left xs ys) xs.length k HTL.out hlt
            rw [HTX.out] at hs
            rw [← hs]
            exact HO3.out
          case measure => simp [intOf]; omega
        | false =>
          go_wp2_with fail
          go_at_call 76
          refine (Col.clo4 (lf := left) HXB.out cg0 cg1).mono ?_
          rw [Ones.col4_eq _ HXS.out]
          rintro e wy ⟨rfl, bel⟩
          have ow := HO1.out.keep bel
          have g2 := Grow.g_bel HG1.out bel
          have hox := ow.cell (i := k) (by rw [Grow.filN_len _ _ _ HTL.out (Nat.le_of_lt hlt)]; exact hlt)
          have hof := ow.free k
          have HO3 := hid (ow.set k (Ones.col x 4 left : Int))
          have HG3 := hid (Grow.g_set g2 k (.int .i64 (Ones.col x 4 left : Int)))
          clear ow g2 bel hcx hcw cg0 cg1 c0 c1 c2 c3 c4
          go_wp2
          go_roundw
          case rel =>
            refine ⟨k + 1, by omega, by go_num, ?_, HG3.out⟩
            have hs := Grow.filN_set (colL 4 left xs ys) xs.length k HTL.out hlt
            rw [HTX.out] at hs
            rw [← hs]
            exact HO3.out
          case measure => simp [intOf]; omega
      · have hkn : k = xs.length := by omega
        subst hkn
        rw [Grow.filN_all _ _ HTL.out] at hown
        clear cg0 cg1
        have kTr := Grow.g_heap hg HKT.out (Nat.ne_of_lt HAp.out.2.1)
        have HBr := hid (Grow.g_below HSX.out.1 hg HAp.out.2.2)
        have HO := hid hown
        clear hown hg hpN
        go_wp2_with fail
        go_at_call 53
        refine (GOwn.withP rfl (H2.out.keep HBr.out (Nat.le_refl _)) (by have := HLE.out; have := HYM.out; omega)).mono ?_
        rintro e w6 ⟨q, kq, rfl, oq, lo, bel⟩
        have kT6 := (bel.block NT (Array.getElem?_eq_some_iff.1 kTr).1).trans kTr
        have HPQ := hid (Nat.lt_of_lt_of_le HO.out.lt lo)
        have HB := hid (HBr.out.trans (bel.mono HBr.out.size))
        have HO6 := hid (HO.out.keep bel)
        have HQ6 := hid oq
        clear kTr bel lo oq
        have y0 : w6.cell? ⟨NT, 0, none⟩ = some (.int .i64 0) := Go.Joins.cell_of_block kT6 0
        have y1 : w6.cell? ⟨NT, 1, none⟩ = some (.int .i64 0) := Go.Joins.cell_of_block kT6 1
        have y2 : w6.cell? ⟨NT, 2, none⟩ = some (.int .i64 0) := Go.Joins.cell_of_block kT6 2
        have y3 : w6.cell? ⟨NT, 3, none⟩ = some (.slice none 0 0) := Go.Joins.cell_of_block kT6 3
        have y4 : w6.cell? ⟨NT, 4, none⟩ = some (.slice none 0 0) := Go.Joins.cell_of_block kT6 4
        have g0 : w6.frozen? ⟨NT, 0, none⟩ = false := Go.Joins.unfrozen_of_block kT6 0
        have g1 : w6.frozen? ⟨NT, 1, none⟩ = false := Go.Joins.unfrozen_of_block kT6 1
        have g2 : w6.frozen? ⟨NT, 2, none⟩ = false := Go.Joins.unfrozen_of_block kT6 2
        have g3 : w6.frozen? ⟨NT, 3, none⟩ = false := Go.Joins.unfrozen_of_block kT6 3
        have g4 : w6.frozen? ⟨NT, 4, none⟩ = false := Go.Joins.unfrozen_of_block kT6 4
        have HKx := hid kT6
        clear kT6
        go_wp2
        have q0 := (Go.Joins.block_setCell (i := 4) (Go.Joins.block_setCell (i := 3) (Go.Joins.block_setCell (i := 2) (Go.Joins.block_setCell (i := 1) (Go.Joins.block_setCell (i := 0) HKx.out (.int .i64 4)) (.int .i64 s)) (.int .i64 r)) ((Value.slice (some ⟨p, 0, none⟩) xs.length xs.length))) ((Value.slice (some ⟨q, 0, none⟩) ys.length kq)))
        have B5 := (((((HB.out.setCell (p := ⟨NT, 0, none⟩) HNT.out (.int .i64 4)).setCell (p := ⟨NT, 1, none⟩) HNT.out (.int .i64 s)).setCell (p := ⟨NT, 2, none⟩) HNT.out (.int .i64 r)).setCell (p := ⟨NT, 3, none⟩) HNT.out ((Value.slice (some ⟨p, 0, none⟩) xs.length xs.length))).setCell (p := ⟨NT, 4, none⟩) HNT.out ((Value.slice (some ⟨q, 0, none⟩) ys.length kq)))
        have O0 := (own_set (own_set (own_set (own_set (own_set HO6.out ⟨NT, 0, none⟩ (.int .i64 4) (Nat.ne_of_lt HAp.out.2.1)) ⟨NT, 1, none⟩ (.int .i64 s) (Nat.ne_of_lt HAp.out.2.1)) ⟨NT, 2, none⟩ (.int .i64 r) (Nat.ne_of_lt HAp.out.2.1)) ⟨NT, 3, none⟩ ((Value.slice (some ⟨p, 0, none⟩) xs.length xs.length)) (Nat.ne_of_lt HAp.out.2.1)) ⟨NT, 4, none⟩ ((Value.slice (some ⟨q, 0, none⟩) ys.length kq)) (Nat.ne_of_lt HAp.out.2.1))
        have O1 := (ownB_set (ownB_set (ownB_set (ownB_set (ownB_set HQ6.out ⟨NT, 0, none⟩ (.int .i64 4) (Nat.ne_of_lt (Nat.lt_trans HAp.out.2.1 HPQ.out))) ⟨NT, 1, none⟩ (.int .i64 s) (Nat.ne_of_lt (Nat.lt_trans HAp.out.2.1 HPQ.out))) ⟨NT, 2, none⟩ (.int .i64 r) (Nat.ne_of_lt (Nat.lt_trans HAp.out.2.1 HPQ.out))) ⟨NT, 3, none⟩ ((Value.slice (some ⟨p, 0, none⟩) xs.length xs.length)) (Nat.ne_of_lt (Nat.lt_trans HAp.out.2.1 HPQ.out))) ⟨NT, 4, none⟩ ((Value.slice (some ⟨q, 0, none⟩) ys.length kq)) (Nat.ne_of_lt (Nat.lt_trans HAp.out.2.1 HPQ.out)))
        obtain ⟨W5, hW⟩ : ∃ W5, W5 = (((((w6.setCell ⟨NT, 0, none⟩ (.int .i64 4)).setCell ⟨NT, 1, none⟩ (.int .i64 s)).setCell ⟨NT, 2, none⟩ (.int .i64 r)).setCell ⟨NT, 3, none⟩ ((Value.slice (some ⟨p, 0, none⟩) xs.length xs.length))).setCell ⟨NT, 4, none⟩ ((Value.slice (some ⟨q, 0, none⟩) ys.length kq))) := ⟨_, rfl⟩
        rw [← hW] at q0 B5 O0 O1
        have z0 : W5.cell? ⟨NT, 0, none⟩ = some (.int .i64 4) := Go.Joins.cell_of_block q0 0
        have z1 : W5.cell? ⟨NT, 1, none⟩ = some (.int .i64 s) := Go.Joins.cell_of_block q0 1
        have z2 : W5.cell? ⟨NT, 2, none⟩ = some (.int .i64 r) := Go.Joins.cell_of_block q0 2
        have z3 : W5.cell? ⟨NT, 3, none⟩ = some ((Value.slice (some ⟨p, 0, none⟩) xs.length xs.length)) := Go.Joins.cell_of_block q0 3
        have z4 : W5.cell? ⟨NT, 4, none⟩ = some ((Value.slice (some ⟨q, 0, none⟩) ys.length kq)) := Go.Joins.cell_of_block q0 4
        simp only [← hW]
        clear hW q0
        simp [bodyPost, results, Try.results57, go_sem, z0, z1, z2, z3, z4]
        exact ⟨p, xs.length, q, kq, by simp, O0, O1, HAp.out.2.2, HPQ.out, Nat.le_refl _, by have := HLE.out; unfold maxLen; omega, B5⟩
    
  · go_simp
    refine hK.out _ _ ?_ (fun hHeld2 => ?_)
    · (try dsimp only); exact nx5_IB (below1 _ _) hHeld
    clear hK K
    obtain ⟨wM, hW⟩ : ∃ w5, w5 = (wD.alloc (.cells (madeCells #[.int .i64 0] xs.length) 2)) := ⟨_, rfl⟩
    obtain ⟨p, hp⟩ : ∃ p, p = wD.heap.size := ⟨_, rfl⟩
    have bel : Below wD.heap.size wD wM := by rw [hW]; exact below1 _ _
    have op : Own 2 wM p (Value.slice (some ⟨p, 0, none⟩) xs.length xs.length) (List.replicate xs.length 0) := by rw [hW, hp]; exact Own.made 2 wD xs.length (by have := HLE.out; unfold maxLen; omega)
    have hNTp : NT < p := by rw [hp]; exact (Array.getElem?_eq_some_iff.1 kT).1
    have lop : w.heap.size ≤ p := by rw [hp]; exact hHeld.1.size
    replace kT := (bel.block NT (Array.getElem?_eq_some_iff.1 kT).1).trans kT
    rw [← hW] at hHeld2
    simp only [← hW, ← hp]
    clear hHeld bel hW hp
    have hHeld := hHeld2
    clear hHeld2
    (try simp only [Act.put, List.setIfInBounds_toArray, List.set_cons_zero, List.set_cons_succ, List.getElem_toArray, List.getElem_cons_succ, List.getElem_cons_zero])
    refine wpAnyH_ready (rs := [3]) ?_ (by simp) ?_
    · decide +kernel
    refine AllReadyH.cons rfl (fun K hK => ?_) AllReadyH.nil
    go_simp
    go_at_call 70
    refine (Col.mk4).mono ?_
    rintro e w4 ⟨NG, NB, rfl, g0, g1, lg, lb, gl, bl, bel⟩
    replace kT := (bel.block NT (Array.getElem?_eq_some_iff.1 kT).1).trans kT
    have hGp : NG ≠ p := Nat.ne_of_gt (Nat.lt_of_lt_of_le op.lt lg)
    have hBp : NB ≠ p := Nat.ne_of_gt (Nat.lt_of_lt_of_le op.lt lb)
    replace op := op.keep bel
    refine hK.out _ _ ?_ (fun hHeld2 => ?_)
    · (try dsimp only); exact nx5_IB bel hHeld
    clear hK K hHeld bel lg lb
    have hHeld := hHeld2
    clear hHeld2
    (try simp only [Act.put, List.setIfInBounds_toArray, List.set_cons_zero, List.set_cons_succ, List.getElem_toArray, List.getElem_cons_succ, List.getElem_cons_zero])
    (refine wpAnyH_take (i := 8) (v := ?_) rfl ?_ ?_ ?_ (fun _ _ _ h => h) (Or.inl ⟨?_, ?_⟩) ?_ ?_; rotate_left 1; (focus decide +kernel); (focus decide +kernel); (focus decide +kernel); (focus rfl); (focus (intro w hSw; (try dsimp only at hSw); go_simp; (try (with_reducible rfl)); done)); (focus assumption); (try simp only [Act.put, List.setIfInBounds_toArray, List.set_cons_zero, List.set_cons_succ, List.getElem_toArray, List.getElem_cons_succ, List.getElem_cons_zero]))
    (refine wpAnyH_take (i := 9) (v := ?_) rfl ?_ ?_ ?_ (fun _ _ _ h => h) (Or.inl ⟨?_, ?_⟩) ?_ ?_; rotate_left 1; (focus decide +kernel); (focus decide +kernel); (focus decide +kernel); (focus rfl); (focus (intro w hSw; (try dsimp only at hSw); go_simp; (try (with_reducible rfl)); done)); (focus assumption); (try simp only [Act.put, List.setIfInBounds_toArray, List.set_cons_zero, List.set_cons_succ, List.getElem_toArray, List.getElem_cons_succ, List.getElem_cons_zero]))
    refine wpAnyH_done (by kernel_rfl) ?_ _
    have HSX := hid hHeld
    have HKT := hid kT
    have HOP := hid op
    have HCG := hid (And.intro g0 g1)
    have HGP := hid (And.intro hGp hBp)
    have HAp := hid (show N < NT ∧ NT < p ∧ w.heap.size ≤ p from ⟨by have := HNN.out; omega, hNTp, lop⟩)
    have c3m : w4.cell? ⟨N, 3, none⟩ = some (Value.slice (some ⟨b1, off1, none⟩) xs.length cap1) := hHeld.2.2.2.2.1
    clear hHeld kT op g0 g1 hGp hBp hNTp lop
    try clear gl bl
    go_wp2
    clear c3m
    have HTL : Hid ((colL 4 left xs ys).length = xs.length) := by simp [Hid, colL]
    go_loopw [7, 8, 20] (fun j7 j8 i wr => ∃ k : Nat, k ≤ xs.length ∧ i = .int .i64 k ∧ Own 2 wr p (Value.slice (some ⟨p, 0, none⟩) xs.length xs.length) (Grow.filN (colL 4 left xs ys) xs.length k) ∧ w4.grownBy wr (some p)) (fun _ _ i _ => xs.length - (intOf i).toNat)
    case atStart => exact ⟨0, Nat.zero_le _, rfl, by rw [Grow.filN_zero]; exact HOP.out, World.grownBy.refl _ _⟩
    case round =>
      obtain ⟨k, hk, rfl, hown, hg⟩ := hrel
      have hpN : N ≠ p := Nat.ne_of_lt (Nat.lt_trans HAp.out.1 HAp.out.2.1)
      have c0 := Grow.g_cell hg HSX.out.2.1 hpN
      have c1 := Grow.g_cell hg HSX.out.2.2.1 hpN
      have c2 := Grow.g_cell hg HSX.out.2.2.2.1 hpN
      have c3 := Grow.g_cell hg HSX.out.2.2.2.2.1 hpN
      have c4 := Grow.g_cell hg HSX.out.2.2.2.2.2.1 hpN
      have cg0 := Grow.g_cell hg HCG.out.1 HGP.out.1
      have cg1 := Grow.g_cell hg HCG.out.2 HGP.out.2
      by_cases hlt : k < xs.length
      · obtain ⟨y, hy⟩ : ∃ y, y = xs.getD k 0 := ⟨_, rfl⟩
        have hyb : 0 ≤ y ∧ y < 16 := by
          have h1 := cell_bd HCB.out hlt
          rw [← hy] at h1
          have ht : top (4) = 16 - 1 := by simp [top]
          omega
        obtain ⟨x, rfl⟩ := Int.eq_ofNat_of_zero_le hyb.1
        have HXS : Hid (x < 16) := by simp only [Hid]; omega
        have HXB : Hid (x < 64) := by simp only [Hid]; omega
        have hpb : b1 ≠ p := Nat.ne_of_lt (Nat.lt_of_lt_of_le HBL.out.1 HAp.out.2.2)
        have hpb2 : b2 ≠ p := Nat.ne_of_lt (Nat.lt_of_lt_of_le HBL.out.2 HAp.out.2.2)
        have hcx : wr.cell? ⟨b1, off1 + k, none⟩ = some (.int .i64 (x : Int)) := Grow.g_cell hg (by rw [hy]; exact (HSX.out.1.cell (p := ⟨b1, off1 + k, none⟩) HBL.out.1).trans (HC1.out k hlt)) hpb
        obtain ⟨wl, hwl⟩ : ∃ wl, wl = ys.getD k false := ⟨_, rfl⟩
        have hcw : wr.cell? ⟨b2, off2 + k, none⟩ = some (.bool wl) := Grow.g_cell hg (by rw [hwl]; exact (HSX.out.1.cell (p := ⟨b2, off2 + k, none⟩) HBL.out.2).trans (HC2.out k (by have := HYM.out; omega))) hpb2
        have HTX : Hid ((colL 4 left xs ys).getD k 0 = (colC 4 left wl x : Int)) := by simp only [Hid]; rw [colL_get hlt, ← hy, ← hwl]; rfl
        have hki : (k : Int) < (xs.length : Int) := by omega
        have hkj : (k : Int) < (ys.length : Int) := by have := HYM.out; omega
        have HO1 := hid hown
        have HG1 := hid hg
        clear hown hg hy hyb hwl
        cases wl with
        | true =>
          go_wp2_with fail
          go_at_call 52
          refine (implTurned4 HXB.out (by omega)).mono ?_
          rintro e wy ⟨rfl, bel⟩
          have ow := HO1.out.keep bel
          have g2 := Grow.g_bel HG1.out bel
          have hox := ow.cell (i := k) (by rw [Grow.filN_len _ _ _ HTL.out (Nat.le_of_lt hlt)]; exact hlt)
          have hof := ow.free k
          have HO3 := hid (ow.set k (Trn.trn x 4 2 4 : Int))
          have HG3 := hid (Grow.g_set g2 k (.int .i64 (Trn.trn x 4 2 4 : Int)))
          clear ow g2 bel hcx hcw cg0 cg1 c0 c1 c2 c3 c4
          go_wp2
          go_roundw
          case rel =>
            refine ⟨k + 1, by omega, by go_num, ?_, HG3.out⟩
            have hs := Grow.filN_set (colL 4 left xs ys) xs.length k HTL.out hlt
            rw [HTX.out] at hs
            rw [← hs]
            exact HO3.out
          case measure => simp [intOf]; omega
        | false =>
          go_wp2_with fail
          go_at_call 76
          refine (Col.clo4 (lf := left) HXB.out cg0 cg1).mono ?_
          rw [Ones.col4_eq _ HXS.out]
          rintro e wy ⟨rfl, bel⟩
          have ow := HO1.out.keep bel
          have g2 := Grow.g_bel HG1.out bel
          have hox := ow.cell (i := k) (by rw [Grow.filN_len _ _ _ HTL.out (Nat.le_of_lt hlt)]; exact hlt)
          have hof := ow.free k
          have HO3 := hid (ow.set k (Ones.col x 4 left : Int))
          have HG3 := hid (Grow.g_set g2 k (.int .i64 (Ones.col x 4 left : Int)))
          clear ow g2 bel hcx hcw cg0 cg1 c0 c1 c2 c3 c4
          go_wp2
          go_roundw
          case rel =>
            refine ⟨k + 1, by omega, by go_num, ?_, HG3.out⟩
            have hs := Grow.filN_set (colL 4 left xs ys) xs.length k HTL.out hlt
            rw [HTX.out] at hs
            rw [← hs]
            exact HO3.out
          case measure => simp [intOf]; omega
      · have hkn : k = xs.length := by omega
        subst hkn
        rw [Grow.filN_all _ _ HTL.out] at hown
        clear cg0 cg1
        have kTr := Grow.g_heap hg HKT.out (Nat.ne_of_lt HAp.out.2.1)
        have HBr := hid (Grow.g_below HSX.out.1 hg HAp.out.2.2)
        have HO := hid hown
        clear hown hg hpN
        go_wp2_with fail
        go_at_call 53
        refine (GOwn.withP rfl (H2.out.keep HBr.out (Nat.le_refl _)) (by have := HLE.out; have := HYM.out; omega)).mono ?_
        rintro e w6 ⟨q, kq, rfl, oq, lo, bel⟩
        have kT6 := (bel.block NT (Array.getElem?_eq_some_iff.1 kTr).1).trans kTr
        have HPQ := hid (Nat.lt_of_lt_of_le HO.out.lt lo)
        have HB := hid (HBr.out.trans (bel.mono HBr.out.size))
        have HO6 := hid (HO.out.keep bel)
        have HQ6 := hid oq
        clear kTr bel lo oq
        have y0 : w6.cell? ⟨NT, 0, none⟩ = some (.int .i64 0) := Go.Joins.cell_of_block kT6 0
        have y1 : w6.cell? ⟨NT, 1, none⟩ = some (.int .i64 0) := Go.Joins.cell_of_block kT6 1
        have y2 : w6.cell? ⟨NT, 2, none⟩ = some (.int .i64 0) := Go.Joins.cell_of_block kT6 2
        have y3 : w6.cell? ⟨NT, 3, none⟩ = some (.slice none 0 0) := Go.Joins.cell_of_block kT6 3
        have y4 : w6.cell? ⟨NT, 4, none⟩ = some (.slice none 0 0) := Go.Joins.cell_of_block kT6 4
        have g0 : w6.frozen? ⟨NT, 0, none⟩ = false := Go.Joins.unfrozen_of_block kT6 0
        have g1 : w6.frozen? ⟨NT, 1, none⟩ = false := Go.Joins.unfrozen_of_block kT6 1
        have g2 : w6.frozen? ⟨NT, 2, none⟩ = false := Go.Joins.unfrozen_of_block kT6 2
        have g3 : w6.frozen? ⟨NT, 3, none⟩ = false := Go.Joins.unfrozen_of_block kT6 3
        have g4 : w6.frozen? ⟨NT, 4, none⟩ = false := Go.Joins.unfrozen_of_block kT6 4
        have HKx := hid kT6
        clear kT6
        go_wp2
        have q0 := (Go.Joins.block_setCell (i := 4) (Go.Joins.block_setCell (i := 3) (Go.Joins.block_setCell (i := 2) (Go.Joins.block_setCell (i := 1) (Go.Joins.block_setCell (i := 0) HKx.out (.int .i64 4)) (.int .i64 s)) (.int .i64 r)) ((Value.slice (some ⟨p, 0, none⟩) xs.length xs.length))) ((Value.slice (some ⟨q, 0, none⟩) ys.length kq)))
        have B5 := (((((HB.out.setCell (p := ⟨NT, 0, none⟩) HNT.out (.int .i64 4)).setCell (p := ⟨NT, 1, none⟩) HNT.out (.int .i64 s)).setCell (p := ⟨NT, 2, none⟩) HNT.out (.int .i64 r)).setCell (p := ⟨NT, 3, none⟩) HNT.out ((Value.slice (some ⟨p, 0, none⟩) xs.length xs.length))).setCell (p := ⟨NT, 4, none⟩) HNT.out ((Value.slice (some ⟨q, 0, none⟩) ys.length kq)))
        have O0 := (own_set (own_set (own_set (own_set (own_set HO6.out ⟨NT, 0, none⟩ (.int .i64 4) (Nat.ne_of_lt HAp.out.2.1)) ⟨NT, 1, none⟩ (.int .i64 s) (Nat.ne_of_lt HAp.out.2.1)) ⟨NT, 2, none⟩ (.int .i64 r) (Nat.ne_of_lt HAp.out.2.1)) ⟨NT, 3, none⟩ ((Value.slice (some ⟨p, 0, none⟩) xs.length xs.length)) (Nat.ne_of_lt HAp.out.2.1)) ⟨NT, 4, none⟩ ((Value.slice (some ⟨q, 0, none⟩) ys.length kq)) (Nat.ne_of_lt HAp.out.2.1))
        have O1 := (ownB_set (ownB_set (ownB_set (ownB_set (ownB_set HQ6.out ⟨NT, 0, none⟩ (.int .i64 4) (Nat.ne_of_lt (Nat.lt_trans HAp.out.2.1 HPQ.out))) ⟨NT, 1, none⟩ (.int .i64 s) (Nat.ne_of_lt (Nat.lt_trans HAp.out.2.1 HPQ.out))) ⟨NT, 2, none⟩ (.int .i64 r) (Nat.ne_of_lt (Nat.lt_trans HAp.out.2.1 HPQ.out))) ⟨NT, 3, none⟩ ((Value.slice (some ⟨p, 0, none⟩) xs.length xs.length)) (Nat.ne_of_lt (Nat.lt_trans HAp.out.2.1 HPQ.out))) ⟨NT, 4, none⟩ ((Value.slice (some ⟨q, 0, none⟩) ys.length kq)) (Nat.ne_of_lt (Nat.lt_trans HAp.out.2.1 HPQ.out)))
        obtain ⟨W5, hW⟩ : ∃ W5, W5 = (((((w6.setCell ⟨NT, 0, none⟩ (.int .i64 4)).setCell ⟨NT, 1, none⟩ (.int .i64 s)).setCell ⟨NT, 2, none⟩ (.int .i64 r)).setCell ⟨NT, 3, none⟩ ((Value.slice (some ⟨p, 0, none⟩) xs.length xs.length))).setCell ⟨NT, 4, none⟩ ((Value.slice (some ⟨q, 0, none⟩) ys.length kq))) := ⟨_, rfl⟩
        rw [← hW] at q0 B5 O0 O1
        have z0 : W5.cell? ⟨NT, 0, none⟩ = some (.int .i64 4) := Go.Joins.cell_of_block q0 0
        have z1 : W5.cell? ⟨NT, 1, none⟩ = some (.int .i64 s) := Go.Joins.cell_of_block q0 1
        have z2 : W5.cell? ⟨NT, 2, none⟩ = some (.int .i64 r) := Go.Joins.cell_of_block q0 2
        have z3 : W5.cell? ⟨NT, 3, none⟩ = some ((Value.slice (some ⟨p, 0, none⟩) xs.length xs.length)) := Go.Joins.cell_of_block q0 3
        have z4 : W5.cell? ⟨NT, 4, none⟩ = some ((Value.slice (some ⟨q, 0, none⟩) ys.length kq)) := Go.Joins.cell_of_block q0 4
        simp only [← hW]
        clear hW q0
        simp [bodyPost, results, Try.results57, go_sem, z0, z1, z2, z3, z4]
        exact ⟨p, xs.length, q, kq, by simp, O0, O1, HAp.out.2.2, HPQ.out, Nat.le_refl _, by have := HLE.out; unfold maxLen; omega, B5⟩
    

set_option maxHeartbeats 32000000 in
theorem implCollided6 {w : World} {s r : Int} {b1 b2 : Nat} {v1 v2 : Value} {xs : List Int} {ys : List Bool} (h1 : Rd w b1 v1 xs) (h2 : RdB w b2 v2 ys) (hq : gasB 6 s r xs ys = true) :
    Calls Try.prog 57 #[gasV 6 s r v1 v2, .bool true] w fun e w' => ∃ p kp q kq, e = .returned (gasV 6 s r (.slice (some ⟨p, 0, none⟩) xs.length kp) (.slice (some ⟨q, 0, none⟩) ys.length kq)) ∧ Own 2 w' p (.slice (some ⟨p, 0, none⟩) xs.length kp) (colL 6 true xs ys) ∧ OwnB 4 w' q (.slice (some ⟨q, 0, none⟩) ys.length kq) ys ∧ w.heap.size ≤ p ∧ p < q ∧ xs.length ≤ kp ∧ kp ≤ maxLen ∧ Below w.heap.size w w' := by
  obtain ⟨hg4, hn, hn256, hym, hcb⟩ := gas_parts hq
  have H1 := hid h1
  have H2 := hid h2
  have HQ := hid hq
  have HCB := hid hcb
  have HG4 := hid hg4
  obtain ⟨ao1, cap1, rfl, hc1, hm1, h41⟩ := h1
  obtain ⟨ao2, cap2, rfl, hc2, hm2, h42⟩ := h2
  obtain ⟨off1, rfl, hb1, hcell1⟩ := h41 (by omega)
  obtain ⟨off2, rfl, hb2, hcell2⟩ := h42 (by omega)
  have HC1 := hid hcell1
  have HC2 := hid hcell2
  have HBL := hid (And.intro hb1 hb2)
  have HYM := hid hym
  have hnI : (xs.length : Int) ≤ 256 := by omega
  have HLE : Hid (1 ≤ xs.length ∧ xs.length ≤ 256) := ⟨hn, hn256⟩
  clear hq hcb hg4 hc1 hm1 h41 hc2 hm2 h42 hb1 hb2 hcell1 hcell2 hym hn hn256
  have hmk := run_make_row' (P := Try.prog) 22 2 (.int .i64 0) 8 Try.underlying22 infoI rfl .i64 .i64 xs.length (by have := HLE.out; omega) (by have := HLE.out; omega)
  go_enter Try.func57, Try.ntmps57
  go_wp2_with fail
  obtain ⟨w1, hW⟩ : ∃ w1, w1 = (w.alloc (Obj.cells #[.int .i64 6, .int .i64 s, .int .i64 r, (Value.slice (some ⟨b1, off1, none⟩) xs.length cap1), (Value.slice (some ⟨b2, off2, none⟩) ys.length cap2)] 31)).alloc (Obj.cells #[.int .i64 0, .int .i64 0, .int .i64 0, .slice none 0 0, .slice none 0 0] 31) := ⟨_, rfl⟩
  obtain ⟨N, hN⟩ : ∃ N, N = w.heap.size := ⟨_, rfl⟩
  obtain ⟨NT, hM⟩ : ∃ NT, NT = N + 1 := ⟨_, rfl⟩
  have st : Below w.heap.size w w1 ∧ w1.cell? ⟨N, 0, none⟩ = some (.int .i64 6) ∧ w1.cell? ⟨N, 1, none⟩ = some (.int .i64 s) ∧ w1.cell? ⟨N, 2, none⟩ = some (.int .i64 r) ∧ w1.cell? ⟨N, 3, none⟩ = some ((Value.slice (some ⟨b1, off1, none⟩) xs.length cap1)) ∧ w1.cell? ⟨N, 4, none⟩ = some ((Value.slice (some ⟨b2, off2, none⟩) ys.length cap2)) ∧ Rd w1 b1 (Value.slice (some ⟨b1, off1, none⟩) xs.length cap1) xs ∧ RdB w1 b2 (Value.slice (some ⟨b2, off2, none⟩) ys.length cap2) ys ∧ w.heap.size ≤ w1.heap.size := by
    rw [hW, hN]
    exact ⟨Go.Joins.below_alloc2 _ _ _, by simp, by simp, by simp, by simp, by simp, H1.out.keep (Go.Joins.below_alloc2 _ _ _) (Nat.le_refl _), H2.out.keep (Go.Joins.below_alloc2 _ _ _) (Nat.le_refl _), by simp; omega⟩
  have kT : w1.heap[NT]? = some (Obj.cells #[.int .i64 0, .int .i64 0, .int .i64 0, .slice none 0 0, .slice none 0 0] 31) := by rw [hW]; exact FNew.heap_top (by rw [hM, hN]; simp)
  have HNT : Hid (w.heap.size ≤ NT) := by simp only [Hid]; omega
  have HNN : Hid (NT = N + 1 ∧ N = w.heap.size) := ⟨hM, hN⟩
  simp only [← hW, ← hN, ← hM]
  clear hW hN hM
  refine wp_region_held_drew (S := (fun ww => Below w.heap.size w ww ∧ ww.cell? ⟨N, 0, none⟩ = some (.int .i64 6) ∧ ww.cell? ⟨N, 1, none⟩ = some (.int .i64 s) ∧ ww.cell? ⟨N, 2, none⟩ = some (.int .i64 r) ∧ ww.cell? ⟨N, 3, none⟩ = some ((Value.slice (some ⟨b1, off1, none⟩) xs.length cap1)) ∧ ww.cell? ⟨N, 4, none⟩ = some ((Value.slice (some ⟨b2, off2, none⟩) ys.length cap2)) ∧ Rd ww b1 (Value.slice (some ⟨b1, off1, none⟩) xs.length cap1) xs ∧ RdB ww b2 (Value.slice (some ⟨b2, off2, none⟩) ys.length cap2) ys ∧ w.heap.size ≤ ww.heap.size)) (by kernel_rfl) ?_ (fun hHeld => ?_)
  · ((try dsimp only); exact drw5_IB st)
  replace kT : w1.drew.heap[NT]? = some (Obj.cells #[.int .i64 0, .int .i64 0, .int .i64 0, .slice none 0 0, .slice none 0 0] 31) := kT
  generalize hD : w1.drew = wD at hHeld kT ⊢
  clear hD st
  (refine wpAnyH_take (i := 0) (v := ?_) rfl ?_ ?_ ?_ (fun _ _ _ h => h) (Or.inl ⟨?_, ?_⟩) ?_ ?_; rotate_left 1; (focus decide +kernel); (focus decide +kernel); (focus decide +kernel); (focus rfl); (focus (intro w hSw; (try dsimp only at hSw); go_simp; (try (with_reducible rfl)); done)); (focus assumption); (try simp only [Act.put, List.setIfInBounds_toArray, List.set_cons_zero, List.set_cons_succ, List.getElem_toArray, List.getElem_cons_succ, List.getElem_cons_zero]))
  (refine wpAnyH_take (i := 1) (v := ?_) rfl ?_ ?_ ?_ (fun _ _ _ h => h) (Or.inl ⟨?_, ?_⟩) ?_ ?_; rotate_left 1; (focus decide +kernel); (focus decide +kernel); (focus decide +kernel); (focus rfl); (focus (intro w hSw; (try dsimp only at hSw); go_simp; (try (with_reducible rfl)); done)); (focus assumption); (try simp only [Act.put, List.setIfInBounds_toArray, List.set_cons_zero, List.set_cons_succ, List.getElem_toArray, List.getElem_cons_succ, List.getElem_cons_zero]))
  (refine wpAnyH_take (i := 2) (v := ?_) rfl ?_ ?_ ?_ (fun _ _ _ h => h) (Or.inl ⟨?_, ?_⟩) ?_ ?_; rotate_left 1; (focus decide +kernel); (focus decide +kernel); (focus decide +kernel); (focus rfl); (focus (intro w hSw; (try dsimp only at hSw); go_simp; (try (with_reducible rfl)); done)); (focus assumption); (try simp only [Act.put, List.setIfInBounds_toArray, List.set_cons_zero, List.set_cons_succ, List.getElem_toArray, List.getElem_cons_succ, List.getElem_cons_zero]))
  (refine wpAnyH_take (i := 4) (v := ?_) rfl ?_ ?_ ?_ (fun _ _ _ h => h) (Or.inl ⟨?_, ?_⟩) ?_ ?_; rotate_left 1; (focus decide +kernel); (focus decide +kernel); (focus decide +kernel); (focus rfl); (focus (intro w hSw; (try dsimp only at hSw); go_simp; (try (with_reducible rfl)); done)); (focus assumption); (try simp only [Act.put, List.setIfInBounds_toArray, List.set_cons_zero, List.set_cons_succ, List.getElem_toArray, List.getElem_cons_succ, List.getElem_cons_zero]))
  (refine wpAnyH_take (i := 5) (v := ?_) rfl ?_ ?_ ?_ (fun _ _ _ h => h) (Or.inl ⟨?_, ?_⟩) ?_ ?_; rotate_left 1; (focus decide +kernel); (focus decide +kernel); (focus decide +kernel); (focus rfl); (focus (intro w hSw; (try dsimp only at hSw); go_simp; (try (with_reducible rfl)); done)); (focus assumption); (try simp only [Act.put, List.setIfInBounds_toArray, List.set_cons_zero, List.set_cons_succ, List.getElem_toArray, List.getElem_cons_succ, List.getElem_cons_zero]))
  (refine wpAnyH_take (i := 6) (v := ?_) rfl ?_ ?_ ?_ (fun _ _ _ h => h) (Or.inl ⟨?_, ?_⟩) ?_ ?_; rotate_left 1; (focus decide +kernel); (focus decide +kernel); (focus decide +kernel); (focus rfl); (focus (intro w hSw; (try dsimp only at hSw); go_simp; (try (with_reducible rfl)); done)); (focus assumption); (try simp only [Act.put, List.setIfInBounds_toArray, List.set_cons_zero, List.set_cons_succ, List.getElem_toArray, List.getElem_cons_succ, List.getElem_cons_zero]))
  refine wpAnyH_ready (rs := [3, 7]) ?_ (by simp) ?_
  · decide +kernel
  refine AllReadyH.cons rfl (fun K hK => ?_) (AllReadyH.cons rfl (fun K hK => ?_) AllReadyH.nil)
  · go_simp
    go_at_call 70
    refine (Col.mk6).mono ?_
    rintro e wC ⟨NG, NB, rfl, g0, g1, lg, lb, gl, bl, bel⟩
    replace kT := (bel.block NT (Array.getElem?_eq_some_iff.1 kT).1).trans kT
    refine hK.out _ _ ?_ (fun hHeld2 => ?_)
    · (try dsimp only); exact nx5_IB bel hHeld
    clear hK K hHeld bel lg lb
    have hHeld := hHeld2
    clear hHeld2
    (try simp only [Act.put, List.setIfInBounds_toArray, List.set_cons_zero, List.set_cons_succ, List.getElem_toArray, List.getElem_cons_succ, List.getElem_cons_zero])
    (refine wpAnyH_take (i := 8) (v := ?_) rfl ?_ ?_ ?_ (fun _ _ _ h => h) (Or.inl ⟨?_, ?_⟩) ?_ ?_; rotate_left 1; (focus decide +kernel); (focus decide +kernel); (focus decide +kernel); (focus rfl); (focus (intro w hSw; (try dsimp only at hSw); go_simp; (try (with_reducible rfl)); done)); (focus assumption); (try simp only [Act.put, List.setIfInBounds_toArray, List.set_cons_zero, List.set_cons_succ, List.getElem_toArray, List.getElem_cons_succ, List.getElem_cons_zero]))
    refine wpAnyH_ready (rs := [7]) ?_ (by simp) ?_
    · decide +kernel
    refine AllReadyH.cons rfl (fun K hK => ?_) AllReadyH.nil
    go_simp
    refine hK.out _ _ ?_ (fun hHeld2 => ?_)
    · (try dsimp only); exact nx5_IB (below1 _ _) hHeld
    clear hK K
    obtain ⟨w4, hW⟩ : ∃ w5, w5 = (wC.alloc (.cells (madeCells #[.int .i64 0] xs.length) 2)) := ⟨_, rfl⟩
    obtain ⟨p, hp⟩ : ∃ p, p = wC.heap.size := ⟨_, rfl⟩
    have bel : Below wC.heap.size wC w4 := by rw [hW]; exact below1 _ _
    have op : Own 2 w4 p (Value.slice (some ⟨p, 0, none⟩) xs.length xs.length) (List.replicate xs.length 0) := by rw [hW, hp]; exact Own.made 2 wC xs.length (by have := HLE.out; unfold maxLen; omega)
    have hNTp : NT < p := by rw [hp]; exact (Array.getElem?_eq_some_iff.1 kT).1
    have lop : w.heap.size ≤ p := by rw [hp]; exact hHeld.1.size
    replace kT := (bel.block NT (Array.getElem?_eq_some_iff.1 kT).1).trans kT
    have hGp : NG ≠ p := by rw [hp]; exact Nat.ne_of_lt gl
    have hBp : NB ≠ p := by rw [hp]; exact Nat.ne_of_lt bl
    replace g0 := cell_keep bel g0
    replace g1 := cell_keep bel g1
    clear gl bl
    rw [← hW] at hHeld2
    simp only [← hW, ← hp]
    clear hHeld bel hW hp
    have hHeld := hHeld2
    clear hHeld2
    (try simp only [Act.put, List.setIfInBounds_toArray, List.set_cons_zero, List.set_cons_succ, List.getElem_toArray, List.getElem_cons_succ, List.getElem_cons_zero])
    (refine wpAnyH_take (i := 9) (v := ?_) rfl ?_ ?_ ?_ (fun _ _ _ h => h) (Or.inl ⟨?_, ?_⟩) ?_ ?_; rotate_left 1; (focus decide +kernel); (focus decide +kernel); (focus decide +kernel); (focus rfl); (focus (intro w hSw; (try dsimp only at hSw); go_simp; (try (with_reducible rfl)); done)); (focus assumption); (try simp only [Act.put, List.setIfInBounds_toArray, List.set_cons_zero, List.set_cons_succ, List.getElem_toArray, List.getElem_cons_succ, List.getElem_cons_zero]))
    refine wpAnyH_done (by kernel_rfl) ?_ _
    have HSX := hid hHeld
    have HKT := hid kT
    have HOP := hid op
    have HCG := hid (And.intro g0 g1)
    have HGP := hid (And.intro hGp hBp)
    have HAp := hid (show N < NT ∧ NT < p ∧ w.heap.size ≤ p from ⟨by have := HNN.out; omega, hNTp, lop⟩)
    have c3m : w4.cell? ⟨N, 3, none⟩ = some (Value.slice (some ⟨b1, off1, none⟩) xs.length cap1) := hHeld.2.2.2.2.1
    clear hHeld kT op g0 g1 hGp hBp hNTp lop
    try clear gl bl
    go_wp2
    clear c3m
    have HTL : Hid ((colL 6 true xs ys).length = xs.length) := by simp [Hid, colL]
    go_loopw [7, 8, 20] (fun j7 j8 i wr => ∃ k : Nat, k ≤ xs.length ∧ i = .int .i64 k ∧ Own 2 wr p (Value.slice (some ⟨p, 0, none⟩) xs.length xs.length) (Grow.filN (colL 6 true xs ys) xs.length k) ∧ w4.grownBy wr (some p)) (fun _ _ i _ => xs.length - (intOf i).toNat)
    case atStart => exact ⟨0, Nat.zero_le _, rfl, by rw [Grow.filN_zero]; exact HOP.out, World.grownBy.refl _ _⟩
    case round =>
      obtain ⟨k, hk, rfl, hown, hg⟩ := hrel
      have hpN : N ≠ p := Nat.ne_of_lt (Nat.lt_trans HAp.out.1 HAp.out.2.1)
      have c0 := Grow.g_cell hg HSX.out.2.1 hpN
      have c1 := Grow.g_cell hg HSX.out.2.2.1 hpN
      have c2 := Grow.g_cell hg HSX.out.2.2.2.1 hpN
      have c3 := Grow.g_cell hg HSX.out.2.2.2.2.1 hpN
      have c4 := Grow.g_cell hg HSX.out.2.2.2.2.2.1 hpN
      have cg0 := Grow.g_cell hg HCG.out.1 HGP.out.1
      have cg1 := Grow.g_cell hg HCG.out.2 HGP.out.2
      by_cases hlt : k < xs.length
      · obtain ⟨y, hy⟩ : ∃ y, y = xs.getD k 0 := ⟨_, rfl⟩
        have hyb : 0 ≤ y ∧ y < 64 := by
          have h1 := cell_bd HCB.out hlt
          rw [← hy] at h1
          have ht : top (6) = 64 - 1 := by simp [top]
          omega
        obtain ⟨x, rfl⟩ := Int.eq_ofNat_of_zero_le hyb.1
        have HXS : Hid (x < 64) := by simp only [Hid]; omega
        have HXB : Hid (x < 64) := by simp only [Hid]; omega
        have hpb : b1 ≠ p := Nat.ne_of_lt (Nat.lt_of_lt_of_le HBL.out.1 HAp.out.2.2)
        have hpb2 : b2 ≠ p := Nat.ne_of_lt (Nat.lt_of_lt_of_le HBL.out.2 HAp.out.2.2)
        have hcx : wr.cell? ⟨b1, off1 + k, none⟩ = some (.int .i64 (x : Int)) := Grow.g_cell hg (by rw [hy]; exact (HSX.out.1.cell (p := ⟨b1, off1 + k, none⟩) HBL.out.1).trans (HC1.out k hlt)) hpb
        obtain ⟨wl, hwl⟩ : ∃ wl, wl = ys.getD k false := ⟨_, rfl⟩
        have hcw : wr.cell? ⟨b2, off2 + k, none⟩ = some (.bool wl) := Grow.g_cell hg (by rw [hwl]; exact (HSX.out.1.cell (p := ⟨b2, off2 + k, none⟩) HBL.out.2).trans (HC2.out k (by have := HYM.out; omega))) hpb2
        have HTX : Hid ((colL 6 true xs ys).getD k 0 = (colC 6 true wl x : Int)) := by simp only [Hid]; rw [colL_get hlt, ← hy, ← hwl]; rfl
        have hki : (k : Int) < (xs.length : Int) := by omega
        have hkj : (k : Int) < (ys.length : Int) := by have := HYM.out; omega
        have HO1 := hid hown
        have HG1 := hid hg
        clear hown hg hy hyb hwl
        cases wl with
        | true =>
          go_wp2_with fail
          go_at_call 52
          refine (implTurned6 HXB.out (by omega)).mono ?_
          rintro e wy ⟨rfl, bel⟩
          have ow := HO1.out.keep bel
          have g2 := Grow.g_bel HG1.out bel
          have hox := ow.cell (i := k) (by rw [Grow.filN_len _ _ _ HTL.out (Nat.le_of_lt hlt)]; exact hlt)
          have hof := ow.free k
          have HO3 := hid (ow.set k (Trn.trn x 6 3 6 : Int))
          have HG3 := hid (Grow.g_set g2 k (.int .i64 (Trn.trn x 6 3 6 : Int)))
          clear ow g2 bel hcx hcw cg0 cg1 c0 c1 c2 c3 c4
          go_wp2
          go_roundw
          case rel =>
            refine ⟨k + 1, by omega, by go_num, ?_, HG3.out⟩
            have hs := Grow.filN_set (colL 6 true xs ys) xs.length k HTL.out hlt
            rw [HTX.out] at hs
            rw [← hs]
            exact HO3.out
          case measure => simp [intOf]; omega
        | false =>
          go_wp2_with fail
          go_at_call 76
          refine (Col.clo6 HXB.out cg0 cg1).mono ?_
          rw [Ones.col6_eq _ HXS.out]
          rintro e wy ⟨rfl, bel⟩
          have ow := HO1.out.keep bel
          have g2 := Grow.g_bel HG1.out bel
          have hox := ow.cell (i := k) (by rw [Grow.filN_len _ _ _ HTL.out (Nat.le_of_lt hlt)]; exact hlt)
          have hof := ow.free k
          have HO3 := hid (ow.set k (Ones.col x 6 true : Int))
          have HG3 := hid (Grow.g_set g2 k (.int .i64 (Ones.col x 6 true : Int)))
          clear ow g2 bel hcx hcw cg0 cg1 c0 c1 c2 c3 c4
          go_wp2
          go_roundw
          case rel =>
            refine ⟨k + 1, by omega, by go_num, ?_, HG3.out⟩
            have hs := Grow.filN_set (colL 6 true xs ys) xs.length k HTL.out hlt
            rw [HTX.out] at hs
            rw [← hs]
            exact HO3.out
          case measure => simp [intOf]; omega
      · have hkn : k = xs.length := by omega
        subst hkn
        rw [Grow.filN_all _ _ HTL.out] at hown
        clear cg0 cg1
        have kTr := Grow.g_heap hg HKT.out (Nat.ne_of_lt HAp.out.2.1)
        have HBr := hid (Grow.g_below HSX.out.1 hg HAp.out.2.2)
        have HO := hid hown
        clear hown hg hpN
        go_wp2_with fail
        go_at_call 53
        refine (GOwn.withP rfl (H2.out.keep HBr.out (Nat.le_refl _)) (by have := HLE.out; have := HYM.out; omega)).mono ?_
        rintro e w6 ⟨q, kq, rfl, oq, lo, bel⟩
        have kT6 := (bel.block NT (Array.getElem?_eq_some_iff.1 kTr).1).trans kTr
        have HPQ := hid (Nat.lt_of_lt_of_le HO.out.lt lo)
        have HB := hid (HBr.out.trans (bel.mono HBr.out.size))
        have HO6 := hid (HO.out.keep bel)
        have HQ6 := hid oq
        clear kTr bel lo oq
        have y0 : w6.cell? ⟨NT, 0, none⟩ = some (.int .i64 0) := Go.Joins.cell_of_block kT6 0
        have y1 : w6.cell? ⟨NT, 1, none⟩ = some (.int .i64 0) := Go.Joins.cell_of_block kT6 1
        have y2 : w6.cell? ⟨NT, 2, none⟩ = some (.int .i64 0) := Go.Joins.cell_of_block kT6 2
        have y3 : w6.cell? ⟨NT, 3, none⟩ = some (.slice none 0 0) := Go.Joins.cell_of_block kT6 3
        have y4 : w6.cell? ⟨NT, 4, none⟩ = some (.slice none 0 0) := Go.Joins.cell_of_block kT6 4
        have g0 : w6.frozen? ⟨NT, 0, none⟩ = false := Go.Joins.unfrozen_of_block kT6 0
        have g1 : w6.frozen? ⟨NT, 1, none⟩ = false := Go.Joins.unfrozen_of_block kT6 1
        have g2 : w6.frozen? ⟨NT, 2, none⟩ = false := Go.Joins.unfrozen_of_block kT6 2
        have g3 : w6.frozen? ⟨NT, 3, none⟩ = false := Go.Joins.unfrozen_of_block kT6 3
        have g4 : w6.frozen? ⟨NT, 4, none⟩ = false := Go.Joins.unfrozen_of_block kT6 4
        have HKx := hid kT6
        clear kT6
        go_wp2
        have q0 := (Go.Joins.block_setCell (i := 4) (Go.Joins.block_setCell (i := 3) (Go.Joins.block_setCell (i := 2) (Go.Joins.block_setCell (i := 1) (Go.Joins.block_setCell (i := 0) HKx.out (.int .i64 6)) (.int .i64 s)) (.int .i64 r)) ((Value.slice (some ⟨p, 0, none⟩) xs.length xs.length))) ((Value.slice (some ⟨q, 0, none⟩) ys.length kq)))
        have B5 := (((((HB.out.setCell (p := ⟨NT, 0, none⟩) HNT.out (.int .i64 6)).setCell (p := ⟨NT, 1, none⟩) HNT.out (.int .i64 s)).setCell (p := ⟨NT, 2, none⟩) HNT.out (.int .i64 r)).setCell (p := ⟨NT, 3, none⟩) HNT.out ((Value.slice (some ⟨p, 0, none⟩) xs.length xs.length))).setCell (p := ⟨NT, 4, none⟩) HNT.out ((Value.slice (some ⟨q, 0, none⟩) ys.length kq)))
        have O0 := (own_set (own_set (own_set (own_set (own_set HO6.out ⟨NT, 0, none⟩ (.int .i64 6) (Nat.ne_of_lt HAp.out.2.1)) ⟨NT, 1, none⟩ (.int .i64 s) (Nat.ne_of_lt HAp.out.2.1)) ⟨NT, 2, none⟩ (.int .i64 r) (Nat.ne_of_lt HAp.out.2.1)) ⟨NT, 3, none⟩ ((Value.slice (some ⟨p, 0, none⟩) xs.length xs.length)) (Nat.ne_of_lt HAp.out.2.1)) ⟨NT, 4, none⟩ ((Value.slice (some ⟨q, 0, none⟩) ys.length kq)) (Nat.ne_of_lt HAp.out.2.1))
        have O1 := (ownB_set (ownB_set (ownB_set (ownB_set (ownB_set HQ6.out ⟨NT, 0, none⟩ (.int .i64 6) (Nat.ne_of_lt (Nat.lt_trans HAp.out.2.1 HPQ.out))) ⟨NT, 1, none⟩ (.int .i64 s) (Nat.ne_of_lt (Nat.lt_trans HAp.out.2.1 HPQ.out))) ⟨NT, 2, none⟩ (.int .i64 r) (Nat.ne_of_lt (Nat.lt_trans HAp.out.2.1 HPQ.out))) ⟨NT, 3, none⟩ ((Value.slice (some ⟨p, 0, none⟩) xs.length xs.length)) (Nat.ne_of_lt (Nat.lt_trans HAp.out.2.1 HPQ.out))) ⟨NT, 4, none⟩ ((Value.slice (some ⟨q, 0, none⟩) ys.length kq)) (Nat.ne_of_lt (Nat.lt_trans HAp.out.2.1 HPQ.out)))
        obtain ⟨W5, hW⟩ : ∃ W5, W5 = (((((w6.setCell ⟨NT, 0, none⟩ (.int .i64 6)).setCell ⟨NT, 1, none⟩ (.int .i64 s)).setCell ⟨NT, 2, none⟩ (.int .i64 r)).setCell ⟨NT, 3, none⟩ ((Value.slice (some ⟨p, 0, none⟩) xs.length xs.length))).setCell ⟨NT, 4, none⟩ ((Value.slice (some ⟨q, 0, none⟩) ys.length kq))) := ⟨_, rfl⟩
        rw [← hW] at q0 B5 O0 O1
        have z0 : W5.cell? ⟨NT, 0, none⟩ = some (.int .i64 6) := Go.Joins.cell_of_block q0 0
        have z1 : W5.cell? ⟨NT, 1, none⟩ = some (.int .i64 s) := Go.Joins.cell_of_block q0 1
        have z2 : W5.cell? ⟨NT, 2, none⟩ = some (.int .i64 r) := Go.Joins.cell_of_block q0 2
        have z3 : W5.cell? ⟨NT, 3, none⟩ = some ((Value.slice (some ⟨p, 0, none⟩) xs.length xs.length)) := Go.Joins.cell_of_block q0 3
        have z4 : W5.cell? ⟨NT, 4, none⟩ = some ((Value.slice (some ⟨q, 0, none⟩) ys.length kq)) := Go.Joins.cell_of_block q0 4
        simp only [← hW]
        clear hW q0
        simp [bodyPost, results, Try.results57, go_sem, z0, z1, z2, z3, z4]
        exact ⟨p, xs.length, q, kq, by simp, O0, O1, HAp.out.2.2, HPQ.out, Nat.le_refl _, by have := HLE.out; unfold maxLen; omega, B5⟩
    
  · go_simp
    refine hK.out _ _ ?_ (fun hHeld2 => ?_)
    · (try dsimp only); exact nx5_IB (below1 _ _) hHeld
    clear hK K
    obtain ⟨wM, hW⟩ : ∃ w5, w5 = (wD.alloc (.cells (madeCells #[.int .i64 0] xs.length) 2)) := ⟨_, rfl⟩
    obtain ⟨p, hp⟩ : ∃ p, p = wD.heap.size := ⟨_, rfl⟩
    have bel : Below wD.heap.size wD wM := by rw [hW]; exact below1 _ _
    have op : Own 2 wM p (Value.slice (some ⟨p, 0, none⟩) xs.length xs.length) (List.replicate xs.length 0) := by rw [hW, hp]; exact Own.made 2 wD xs.length (by have := HLE.out; unfold maxLen; omega)
    have hNTp : NT < p := by rw [hp]; exact (Array.getElem?_eq_some_iff.1 kT).1
    have lop : w.heap.size ≤ p := by rw [hp]; exact hHeld.1.size
    replace kT := (bel.block NT (Array.getElem?_eq_some_iff.1 kT).1).trans kT
    rw [← hW] at hHeld2
    simp only [← hW, ← hp]
    clear hHeld bel hW hp
    have hHeld := hHeld2
    clear hHeld2
    (try simp only [Act.put, List.setIfInBounds_toArray, List.set_cons_zero, List.set_cons_succ, List.getElem_toArray, List.getElem_cons_succ, List.getElem_cons_zero])
    refine wpAnyH_ready (rs := [3]) ?_ (by simp) ?_
    · decide +kernel
    refine AllReadyH.cons rfl (fun K hK => ?_) AllReadyH.nil
    go_simp
    go_at_call 70
    refine (Col.mk6).mono ?_
    rintro e w4 ⟨NG, NB, rfl, g0, g1, lg, lb, gl, bl, bel⟩
    replace kT := (bel.block NT (Array.getElem?_eq_some_iff.1 kT).1).trans kT
    have hGp : NG ≠ p := Nat.ne_of_gt (Nat.lt_of_lt_of_le op.lt lg)
    have hBp : NB ≠ p := Nat.ne_of_gt (Nat.lt_of_lt_of_le op.lt lb)
    replace op := op.keep bel
    refine hK.out _ _ ?_ (fun hHeld2 => ?_)
    · (try dsimp only); exact nx5_IB bel hHeld
    clear hK K hHeld bel lg lb
    have hHeld := hHeld2
    clear hHeld2
    (try simp only [Act.put, List.setIfInBounds_toArray, List.set_cons_zero, List.set_cons_succ, List.getElem_toArray, List.getElem_cons_succ, List.getElem_cons_zero])
    (refine wpAnyH_take (i := 8) (v := ?_) rfl ?_ ?_ ?_ (fun _ _ _ h => h) (Or.inl ⟨?_, ?_⟩) ?_ ?_; rotate_left 1; (focus decide +kernel); (focus decide +kernel); (focus decide +kernel); (focus rfl); (focus (intro w hSw; (try dsimp only at hSw); go_simp; (try (with_reducible rfl)); done)); (focus assumption); (try simp only [Act.put, List.setIfInBounds_toArray, List.set_cons_zero, List.set_cons_succ, List.getElem_toArray, List.getElem_cons_succ, List.getElem_cons_zero]))
    (refine wpAnyH_take (i := 9) (v := ?_) rfl ?_ ?_ ?_ (fun _ _ _ h => h) (Or.inl ⟨?_, ?_⟩) ?_ ?_; rotate_left 1; (focus decide +kernel); (focus decide +kernel); (focus decide +kernel); (focus rfl); (focus (intro w hSw; (try dsimp only at hSw); go_simp; (try (with_reducible rfl)); done)); (focus assumption); (try simp only [Act.put, List.setIfInBounds_toArray, List.set_cons_zero, List.set_cons_succ, List.getElem_toArray, List.getElem_cons_succ, List.getElem_cons_zero]))
    refine wpAnyH_done (by kernel_rfl) ?_ _
    have HSX := hid hHeld
    have HKT := hid kT
    have HOP := hid op
    have HCG := hid (And.intro g0 g1)
    have HGP := hid (And.intro hGp hBp)
    have HAp := hid (show N < NT ∧ NT < p ∧ w.heap.size ≤ p from ⟨by have := HNN.out; omega, hNTp, lop⟩)
    have c3m : w4.cell? ⟨N, 3, none⟩ = some (Value.slice (some ⟨b1, off1, none⟩) xs.length cap1) := hHeld.2.2.2.2.1
    clear hHeld kT op g0 g1 hGp hBp hNTp lop
    try clear gl bl
    go_wp2
    clear c3m
    have HTL : Hid ((colL 6 true xs ys).length = xs.length) := by simp [Hid, colL]
    go_loopw [7, 8, 20] (fun j7 j8 i wr => ∃ k : Nat, k ≤ xs.length ∧ i = .int .i64 k ∧ Own 2 wr p (Value.slice (some ⟨p, 0, none⟩) xs.length xs.length) (Grow.filN (colL 6 true xs ys) xs.length k) ∧ w4.grownBy wr (some p)) (fun _ _ i _ => xs.length - (intOf i).toNat)
    case atStart => exact ⟨0, Nat.zero_le _, rfl, by rw [Grow.filN_zero]; exact HOP.out, World.grownBy.refl _ _⟩
    case round =>
      obtain ⟨k, hk, rfl, hown, hg⟩ := hrel
      have hpN : N ≠ p := Nat.ne_of_lt (Nat.lt_trans HAp.out.1 HAp.out.2.1)
      have c0 := Grow.g_cell hg HSX.out.2.1 hpN
      have c1 := Grow.g_cell hg HSX.out.2.2.1 hpN
      have c2 := Grow.g_cell hg HSX.out.2.2.2.1 hpN
      have c3 := Grow.g_cell hg HSX.out.2.2.2.2.1 hpN
      have c4 := Grow.g_cell hg HSX.out.2.2.2.2.2.1 hpN
      have cg0 := Grow.g_cell hg HCG.out.1 HGP.out.1
      have cg1 := Grow.g_cell hg HCG.out.2 HGP.out.2
      by_cases hlt : k < xs.length
      · obtain ⟨y, hy⟩ : ∃ y, y = xs.getD k 0 := ⟨_, rfl⟩
        have hyb : 0 ≤ y ∧ y < 64 := by
          have h1 := cell_bd HCB.out hlt
          rw [← hy] at h1
          have ht : top (6) = 64 - 1 := by simp [top]
          omega
        obtain ⟨x, rfl⟩ := Int.eq_ofNat_of_zero_le hyb.1
        have HXS : Hid (x < 64) := by simp only [Hid]; omega
        have HXB : Hid (x < 64) := by simp only [Hid]; omega
        have hpb : b1 ≠ p := Nat.ne_of_lt (Nat.lt_of_lt_of_le HBL.out.1 HAp.out.2.2)
        have hpb2 : b2 ≠ p := Nat.ne_of_lt (Nat.lt_of_lt_of_le HBL.out.2 HAp.out.2.2)
        have hcx : wr.cell? ⟨b1, off1 + k, none⟩ = some (.int .i64 (x : Int)) := Grow.g_cell hg (by rw [hy]; exact (HSX.out.1.cell (p := ⟨b1, off1 + k, none⟩) HBL.out.1).trans (HC1.out k hlt)) hpb
        obtain ⟨wl, hwl⟩ : ∃ wl, wl = ys.getD k false := ⟨_, rfl⟩
        have hcw : wr.cell? ⟨b2, off2 + k, none⟩ = some (.bool wl) := Grow.g_cell hg (by rw [hwl]; exact (HSX.out.1.cell (p := ⟨b2, off2 + k, none⟩) HBL.out.2).trans (HC2.out k (by have := HYM.out; omega))) hpb2
        have HTX : Hid ((colL 6 true xs ys).getD k 0 = (colC 6 true wl x : Int)) := by simp only [Hid]; rw [colL_get hlt, ← hy, ← hwl]; rfl
        have hki : (k : Int) < (xs.length : Int) := by omega
        have hkj : (k : Int) < (ys.length : Int) := by have := HYM.out; omega
        have HO1 := hid hown
        have HG1 := hid hg
        clear hown hg hy hyb hwl
        cases wl with
        | true =>
          go_wp2_with fail
          go_at_call 52
          refine (implTurned6 HXB.out (by omega)).mono ?_
          rintro e wy ⟨rfl, bel⟩
          have ow := HO1.out.keep bel
          have g2 := Grow.g_bel HG1.out bel
          have hox := ow.cell (i := k) (by rw [Grow.filN_len _ _ _ HTL.out (Nat.le_of_lt hlt)]; exact hlt)
          have hof := ow.free k
          have HO3 := hid (ow.set k (Trn.trn x 6 3 6 : Int))
          have HG3 := hid (Grow.g_set g2 k (.int .i64 (Trn.trn x 6 3 6 : Int)))
          clear ow g2 bel hcx hcw cg0 cg1 c0 c1 c2 c3 c4
          go_wp2
          go_roundw
          case rel =>
            refine ⟨k + 1, by omega, by go_num, ?_, HG3.out⟩
            have hs := Grow.filN_set (colL 6 true xs ys) xs.length k HTL.out hlt
            rw [HTX.out] at hs
            rw [← hs]
            exact HO3.out
          case measure => simp [intOf]; omega
        | false =>
          go_wp2_with fail
          go_at_call 76
          refine (Col.clo6 HXB.out cg0 cg1).mono ?_
          rw [Ones.col6_eq _ HXS.out]
          rintro e wy ⟨rfl, bel⟩
          have ow := HO1.out.keep bel
          have g2 := Grow.g_bel HG1.out bel
          have hox := ow.cell (i := k) (by rw [Grow.filN_len _ _ _ HTL.out (Nat.le_of_lt hlt)]; exact hlt)
          have hof := ow.free k
          have HO3 := hid (ow.set k (Ones.col x 6 true : Int))
          have HG3 := hid (Grow.g_set g2 k (.int .i64 (Ones.col x 6 true : Int)))
          clear ow g2 bel hcx hcw cg0 cg1 c0 c1 c2 c3 c4
          go_wp2
          go_roundw
          case rel =>
            refine ⟨k + 1, by omega, by go_num, ?_, HG3.out⟩
            have hs := Grow.filN_set (colL 6 true xs ys) xs.length k HTL.out hlt
            rw [HTX.out] at hs
            rw [← hs]
            exact HO3.out
          case measure => simp [intOf]; omega
      · have hkn : k = xs.length := by omega
        subst hkn
        rw [Grow.filN_all _ _ HTL.out] at hown
        clear cg0 cg1
        have kTr := Grow.g_heap hg HKT.out (Nat.ne_of_lt HAp.out.2.1)
        have HBr := hid (Grow.g_below HSX.out.1 hg HAp.out.2.2)
        have HO := hid hown
        clear hown hg hpN
        go_wp2_with fail
        go_at_call 53
        refine (GOwn.withP rfl (H2.out.keep HBr.out (Nat.le_refl _)) (by have := HLE.out; have := HYM.out; omega)).mono ?_
        rintro e w6 ⟨q, kq, rfl, oq, lo, bel⟩
        have kT6 := (bel.block NT (Array.getElem?_eq_some_iff.1 kTr).1).trans kTr
        have HPQ := hid (Nat.lt_of_lt_of_le HO.out.lt lo)
        have HB := hid (HBr.out.trans (bel.mono HBr.out.size))
        have HO6 := hid (HO.out.keep bel)
        have HQ6 := hid oq
        clear kTr bel lo oq
        have y0 : w6.cell? ⟨NT, 0, none⟩ = some (.int .i64 0) := Go.Joins.cell_of_block kT6 0
        have y1 : w6.cell? ⟨NT, 1, none⟩ = some (.int .i64 0) := Go.Joins.cell_of_block kT6 1
        have y2 : w6.cell? ⟨NT, 2, none⟩ = some (.int .i64 0) := Go.Joins.cell_of_block kT6 2
        have y3 : w6.cell? ⟨NT, 3, none⟩ = some (.slice none 0 0) := Go.Joins.cell_of_block kT6 3
        have y4 : w6.cell? ⟨NT, 4, none⟩ = some (.slice none 0 0) := Go.Joins.cell_of_block kT6 4
        have g0 : w6.frozen? ⟨NT, 0, none⟩ = false := Go.Joins.unfrozen_of_block kT6 0
        have g1 : w6.frozen? ⟨NT, 1, none⟩ = false := Go.Joins.unfrozen_of_block kT6 1
        have g2 : w6.frozen? ⟨NT, 2, none⟩ = false := Go.Joins.unfrozen_of_block kT6 2
        have g3 : w6.frozen? ⟨NT, 3, none⟩ = false := Go.Joins.unfrozen_of_block kT6 3
        have g4 : w6.frozen? ⟨NT, 4, none⟩ = false := Go.Joins.unfrozen_of_block kT6 4
        have HKx := hid kT6
        clear kT6
        go_wp2
        have q0 := (Go.Joins.block_setCell (i := 4) (Go.Joins.block_setCell (i := 3) (Go.Joins.block_setCell (i := 2) (Go.Joins.block_setCell (i := 1) (Go.Joins.block_setCell (i := 0) HKx.out (.int .i64 6)) (.int .i64 s)) (.int .i64 r)) ((Value.slice (some ⟨p, 0, none⟩) xs.length xs.length))) ((Value.slice (some ⟨q, 0, none⟩) ys.length kq)))
        have B5 := (((((HB.out.setCell (p := ⟨NT, 0, none⟩) HNT.out (.int .i64 6)).setCell (p := ⟨NT, 1, none⟩) HNT.out (.int .i64 s)).setCell (p := ⟨NT, 2, none⟩) HNT.out (.int .i64 r)).setCell (p := ⟨NT, 3, none⟩) HNT.out ((Value.slice (some ⟨p, 0, none⟩) xs.length xs.length))).setCell (p := ⟨NT, 4, none⟩) HNT.out ((Value.slice (some ⟨q, 0, none⟩) ys.length kq)))
        have O0 := (own_set (own_set (own_set (own_set (own_set HO6.out ⟨NT, 0, none⟩ (.int .i64 6) (Nat.ne_of_lt HAp.out.2.1)) ⟨NT, 1, none⟩ (.int .i64 s) (Nat.ne_of_lt HAp.out.2.1)) ⟨NT, 2, none⟩ (.int .i64 r) (Nat.ne_of_lt HAp.out.2.1)) ⟨NT, 3, none⟩ ((Value.slice (some ⟨p, 0, none⟩) xs.length xs.length)) (Nat.ne_of_lt HAp.out.2.1)) ⟨NT, 4, none⟩ ((Value.slice (some ⟨q, 0, none⟩) ys.length kq)) (Nat.ne_of_lt HAp.out.2.1))
        have O1 := (ownB_set (ownB_set (ownB_set (ownB_set (ownB_set HQ6.out ⟨NT, 0, none⟩ (.int .i64 6) (Nat.ne_of_lt (Nat.lt_trans HAp.out.2.1 HPQ.out))) ⟨NT, 1, none⟩ (.int .i64 s) (Nat.ne_of_lt (Nat.lt_trans HAp.out.2.1 HPQ.out))) ⟨NT, 2, none⟩ (.int .i64 r) (Nat.ne_of_lt (Nat.lt_trans HAp.out.2.1 HPQ.out))) ⟨NT, 3, none⟩ ((Value.slice (some ⟨p, 0, none⟩) xs.length xs.length)) (Nat.ne_of_lt (Nat.lt_trans HAp.out.2.1 HPQ.out))) ⟨NT, 4, none⟩ ((Value.slice (some ⟨q, 0, none⟩) ys.length kq)) (Nat.ne_of_lt (Nat.lt_trans HAp.out.2.1 HPQ.out)))
        obtain ⟨W5, hW⟩ : ∃ W5, W5 = (((((w6.setCell ⟨NT, 0, none⟩ (.int .i64 6)).setCell ⟨NT, 1, none⟩ (.int .i64 s)).setCell ⟨NT, 2, none⟩ (.int .i64 r)).setCell ⟨NT, 3, none⟩ ((Value.slice (some ⟨p, 0, none⟩) xs.length xs.length))).setCell ⟨NT, 4, none⟩ ((Value.slice (some ⟨q, 0, none⟩) ys.length kq))) := ⟨_, rfl⟩
        rw [← hW] at q0 B5 O0 O1
        have z0 : W5.cell? ⟨NT, 0, none⟩ = some (.int .i64 6) := Go.Joins.cell_of_block q0 0
        have z1 : W5.cell? ⟨NT, 1, none⟩ = some (.int .i64 s) := Go.Joins.cell_of_block q0 1
        have z2 : W5.cell? ⟨NT, 2, none⟩ = some (.int .i64 r) := Go.Joins.cell_of_block q0 2
        have z3 : W5.cell? ⟨NT, 3, none⟩ = some ((Value.slice (some ⟨p, 0, none⟩) xs.length xs.length)) := Go.Joins.cell_of_block q0 3
        have z4 : W5.cell? ⟨NT, 4, none⟩ = some ((Value.slice (some ⟨q, 0, none⟩) ys.length kq)) := Go.Joins.cell_of_block q0 4
        simp only [← hW]
        clear hW q0
        simp [bodyPost, results, Try.results57, go_sem, z0, z1, z2, z3, z4]
        exact ⟨p, xs.length, q, kq, by simp, O0, O1, HAp.out.2.2, HPQ.out, Nat.le_refl _, by have := HLE.out; unfold maxLen; omega, B5⟩
    

set_option maxHeartbeats 32000000 in
theorem implCollided6m {w : World} {s r : Int} {b1 b2 : Nat} {v1 v2 : Value} {xs : List Int} {ys : List Bool} (h1 : Rd w b1 v1 xs) (h2 : RdB w b2 v2 ys) (hq : gasB 6 s r xs ys = true) :
    Calls Try.prog 57 #[gasV 6 s r v1 v2, .bool false] w fun e w' => ∃ p kp q kq, e = .returned (gasV 6 s r (.slice (some ⟨p, 0, none⟩) xs.length kp) (.slice (some ⟨q, 0, none⟩) ys.length kq)) ∧ Own 2 w' p (.slice (some ⟨p, 0, none⟩) xs.length kp) (colL 6 false xs ys) ∧ OwnB 4 w' q (.slice (some ⟨q, 0, none⟩) ys.length kq) ys ∧ w.heap.size ≤ p ∧ p < q ∧ xs.length ≤ kp ∧ kp ≤ maxLen ∧ Below w.heap.size w w' := by
  obtain ⟨hg4, hn, hn256, hym, hcb⟩ := gas_parts hq
  have H1 := hid h1
  have H2 := hid h2
  have HQ := hid hq
  have HCB := hid hcb
  have HG4 := hid hg4
  obtain ⟨ao1, cap1, rfl, hc1, hm1, h41⟩ := h1
  obtain ⟨ao2, cap2, rfl, hc2, hm2, h42⟩ := h2
  obtain ⟨off1, rfl, hb1, hcell1⟩ := h41 (by omega)
  obtain ⟨off2, rfl, hb2, hcell2⟩ := h42 (by omega)
  have HC1 := hid hcell1
  have HC2 := hid hcell2
  have HBL := hid (And.intro hb1 hb2)
  have HYM := hid hym
  have hnI : (xs.length : Int) ≤ 256 := by omega
  have HLE : Hid (1 ≤ xs.length ∧ xs.length ≤ 256) := ⟨hn, hn256⟩
  clear hq hcb hg4 hc1 hm1 h41 hc2 hm2 h42 hb1 hb2 hcell1 hcell2 hym hn hn256
  have hmk := run_make_row' (P := Try.prog) 22 2 (.int .i64 0) 8 Try.underlying22 infoI rfl .i64 .i64 xs.length (by have := HLE.out; omega) (by have := HLE.out; omega)
  go_enter Try.func57, Try.ntmps57
  go_wp2_with fail
  obtain ⟨w1, hW⟩ : ∃ w1, w1 = (w.alloc (Obj.cells #[.int .i64 6, .int .i64 s, .int .i64 r, (Value.slice (some ⟨b1, off1, none⟩) xs.length cap1), (Value.slice (some ⟨b2, off2, none⟩) ys.length cap2)] 31)).alloc (Obj.cells #[.int .i64 0, .int .i64 0, .int .i64 0, .slice none 0 0, .slice none 0 0] 31) := ⟨_, rfl⟩
  obtain ⟨N, hN⟩ : ∃ N, N = w.heap.size := ⟨_, rfl⟩
  obtain ⟨NT, hM⟩ : ∃ NT, NT = N + 1 := ⟨_, rfl⟩
  have st : Below w.heap.size w w1 ∧ w1.cell? ⟨N, 0, none⟩ = some (.int .i64 6) ∧ w1.cell? ⟨N, 1, none⟩ = some (.int .i64 s) ∧ w1.cell? ⟨N, 2, none⟩ = some (.int .i64 r) ∧ w1.cell? ⟨N, 3, none⟩ = some ((Value.slice (some ⟨b1, off1, none⟩) xs.length cap1)) ∧ w1.cell? ⟨N, 4, none⟩ = some ((Value.slice (some ⟨b2, off2, none⟩) ys.length cap2)) ∧ Rd w1 b1 (Value.slice (some ⟨b1, off1, none⟩) xs.length cap1) xs ∧ RdB w1 b2 (Value.slice (some ⟨b2, off2, none⟩) ys.length cap2) ys ∧ w.heap.size ≤ w1.heap.size := by
    rw [hW, hN]
    exact ⟨Go.Joins.below_alloc2 _ _ _, by simp, by simp, by simp, by simp, by simp, H1.out.keep (Go.Joins.below_alloc2 _ _ _) (Nat.le_refl _), H2.out.keep (Go.Joins.below_alloc2 _ _ _) (Nat.le_refl _), by simp; omega⟩
  have kT : w1.heap[NT]? = some (Obj.cells #[.int .i64 0, .int .i64 0, .int .i64 0, .slice none 0 0, .slice none 0 0] 31) := by rw [hW]; exact FNew.heap_top (by rw [hM, hN]; simp)
  have HNT : Hid (w.heap.size ≤ NT) := by simp only [Hid]; omega
  have HNN : Hid (NT = N + 1 ∧ N = w.heap.size) := ⟨hM, hN⟩
  simp only [← hW, ← hN, ← hM]
  clear hW hN hM
  refine wp_region_held_drew (S := (fun ww => Below w.heap.size w ww ∧ ww.cell? ⟨N, 0, none⟩ = some (.int .i64 6) ∧ ww.cell? ⟨N, 1, none⟩ = some (.int .i64 s) ∧ ww.cell? ⟨N, 2, none⟩ = some (.int .i64 r) ∧ ww.cell? ⟨N, 3, none⟩ = some ((Value.slice (some ⟨b1, off1, none⟩) xs.length cap1)) ∧ ww.cell? ⟨N, 4, none⟩ = some ((Value.slice (some ⟨b2, off2, none⟩) ys.length cap2)) ∧ Rd ww b1 (Value.slice (some ⟨b1, off1, none⟩) xs.length cap1) xs ∧ RdB ww b2 (Value.slice (some ⟨b2, off2, none⟩) ys.length cap2) ys ∧ w.heap.size ≤ ww.heap.size)) (by kernel_rfl) ?_ (fun hHeld => ?_)
  · ((try dsimp only); exact drw5_IB st)
  replace kT : w1.drew.heap[NT]? = some (Obj.cells #[.int .i64 0, .int .i64 0, .int .i64 0, .slice none 0 0, .slice none 0 0] 31) := kT
  generalize hD : w1.drew = wD at hHeld kT ⊢
  clear hD st
  (refine wpAnyH_take (i := 0) (v := ?_) rfl ?_ ?_ ?_ (fun _ _ _ h => h) (Or.inl ⟨?_, ?_⟩) ?_ ?_; rotate_left 1; (focus decide +kernel); (focus decide +kernel); (focus decide +kernel); (focus rfl); (focus (intro w hSw; (try dsimp only at hSw); go_simp; (try (with_reducible rfl)); done)); (focus assumption); (try simp only [Act.put, List.setIfInBounds_toArray, List.set_cons_zero, List.set_cons_succ, List.getElem_toArray, List.getElem_cons_succ, List.getElem_cons_zero]))
  (refine wpAnyH_take (i := 1) (v := ?_) rfl ?_ ?_ ?_ (fun _ _ _ h => h) (Or.inl ⟨?_, ?_⟩) ?_ ?_; rotate_left 1; (focus decide +kernel); (focus decide +kernel); (focus decide +kernel); (focus rfl); (focus (intro w hSw; (try dsimp only at hSw); go_simp; (try (with_reducible rfl)); done)); (focus assumption); (try simp only [Act.put, List.setIfInBounds_toArray, List.set_cons_zero, List.set_cons_succ, List.getElem_toArray, List.getElem_cons_succ, List.getElem_cons_zero]))
  (refine wpAnyH_take (i := 2) (v := ?_) rfl ?_ ?_ ?_ (fun _ _ _ h => h) (Or.inl ⟨?_, ?_⟩) ?_ ?_; rotate_left 1; (focus decide +kernel); (focus decide +kernel); (focus decide +kernel); (focus rfl); (focus (intro w hSw; (try dsimp only at hSw); go_simp; (try (with_reducible rfl)); done)); (focus assumption); (try simp only [Act.put, List.setIfInBounds_toArray, List.set_cons_zero, List.set_cons_succ, List.getElem_toArray, List.getElem_cons_succ, List.getElem_cons_zero]))
  (refine wpAnyH_take (i := 4) (v := ?_) rfl ?_ ?_ ?_ (fun _ _ _ h => h) (Or.inl ⟨?_, ?_⟩) ?_ ?_; rotate_left 1; (focus decide +kernel); (focus decide +kernel); (focus decide +kernel); (focus rfl); (focus (intro w hSw; (try dsimp only at hSw); go_simp; (try (with_reducible rfl)); done)); (focus assumption); (try simp only [Act.put, List.setIfInBounds_toArray, List.set_cons_zero, List.set_cons_succ, List.getElem_toArray, List.getElem_cons_succ, List.getElem_cons_zero]))
  (refine wpAnyH_take (i := 5) (v := ?_) rfl ?_ ?_ ?_ (fun _ _ _ h => h) (Or.inl ⟨?_, ?_⟩) ?_ ?_; rotate_left 1; (focus decide +kernel); (focus decide +kernel); (focus decide +kernel); (focus rfl); (focus (intro w hSw; (try dsimp only at hSw); go_simp; (try (with_reducible rfl)); done)); (focus assumption); (try simp only [Act.put, List.setIfInBounds_toArray, List.set_cons_zero, List.set_cons_succ, List.getElem_toArray, List.getElem_cons_succ, List.getElem_cons_zero]))
  (refine wpAnyH_take (i := 6) (v := ?_) rfl ?_ ?_ ?_ (fun _ _ _ h => h) (Or.inl ⟨?_, ?_⟩) ?_ ?_; rotate_left 1; (focus decide +kernel); (focus decide +kernel); (focus decide +kernel); (focus rfl); (focus (intro w hSw; (try dsimp only at hSw); go_simp; (try (with_reducible rfl)); done)); (focus assumption); (try simp only [Act.put, List.setIfInBounds_toArray, List.set_cons_zero, List.set_cons_succ, List.getElem_toArray, List.getElem_cons_succ, List.getElem_cons_zero]))
  refine wpAnyH_ready (rs := [3, 7]) ?_ (by simp) ?_
  · decide +kernel
  refine AllReadyH.cons rfl (fun K hK => ?_) (AllReadyH.cons rfl (fun K hK => ?_) AllReadyH.nil)
  · go_simp
    go_at_call 70
    refine (Col.mk6m).mono ?_
    rintro e wC ⟨NG, NB, rfl, g0, g1, lg, lb, gl, bl, bel⟩
    replace kT := (bel.block NT (Array.getElem?_eq_some_iff.1 kT).1).trans kT
    refine hK.out _ _ ?_ (fun hHeld2 => ?_)
    · (try dsimp only); exact nx5_IB bel hHeld
    clear hK K hHeld bel lg lb
    have hHeld := hHeld2
    clear hHeld2
    (try simp only [Act.put, List.setIfInBounds_toArray, List.set_cons_zero, List.set_cons_succ, List.getElem_toArray, List.getElem_cons_succ, List.getElem_cons_zero])
    (refine wpAnyH_take (i := 8) (v := ?_) rfl ?_ ?_ ?_ (fun _ _ _ h => h) (Or.inl ⟨?_, ?_⟩) ?_ ?_; rotate_left 1; (focus decide +kernel); (focus decide +kernel); (focus decide +kernel); (focus rfl); (focus (intro w hSw; (try dsimp only at hSw); go_simp; (try (with_reducible rfl)); done)); (focus assumption); (try simp only [Act.put, List.setIfInBounds_toArray, List.set_cons_zero, List.set_cons_succ, List.getElem_toArray, List.getElem_cons_succ, List.getElem_cons_zero]))
    refine wpAnyH_ready (rs := [7]) ?_ (by simp) ?_
    · decide +kernel
    refine AllReadyH.cons rfl (fun K hK => ?_) AllReadyH.nil
    go_simp
    refine hK.out _ _ ?_ (fun hHeld2 => ?_)
    · (try dsimp only); exact nx5_IB (below1 _ _) hHeld
    clear hK K
    obtain ⟨w4, hW⟩ : ∃ w5, w5 = (wC.alloc (.cells (madeCells #[.int .i64 0] xs.length) 2)) := ⟨_, rfl⟩
    obtain ⟨p, hp⟩ : ∃ p, p = wC.heap.size := ⟨_, rfl⟩
    have bel : Below wC.heap.size wC w4 := by rw [hW]; exact below1 _ _
    have op : Own 2 w4 p (Value.slice (some ⟨p, 0, none⟩) xs.length xs.length) (List.replicate xs.length 0) := by rw [hW, hp]; exact Own.made 2 wC xs.length (by have := HLE.out; unfold maxLen; omega)
    have hNTp : NT < p := by rw [hp]; exact (Array.getElem?_eq_some_iff.1 kT).1
    have lop : w.heap.size ≤ p := by rw [hp]; exact hHeld.1.size
    replace kT := (bel.block NT (Array.getElem?_eq_some_iff.1 kT).1).trans kT
    have hGp : NG ≠ p := by rw [hp]; exact Nat.ne_of_lt gl
    have hBp : NB ≠ p := by rw [hp]; exact Nat.ne_of_lt bl
    replace g0 := cell_keep bel g0
    replace g1 := cell_keep bel g1
    clear gl bl
    rw [← hW] at hHeld2
    simp only [← hW, ← hp]
    clear hHeld bel hW hp
    have hHeld := hHeld2
    clear hHeld2
    (try simp only [Act.put, List.setIfInBounds_toArray, List.set_cons_zero, List.set_cons_succ, List.getElem_toArray, List.getElem_cons_succ, List.getElem_cons_zero])
    (refine wpAnyH_take (i := 9) (v := ?_) rfl ?_ ?_ ?_ (fun _ _ _ h => h) (Or.inl ⟨?_, ?_⟩) ?_ ?_; rotate_left 1; (focus decide +kernel); (focus decide +kernel); (focus decide +kernel); (focus rfl); (focus (intro w hSw; (try dsimp only at hSw); go_simp; (try (with_reducible rfl)); done)); (focus assumption); (try simp only [Act.put, List.setIfInBounds_toArray, List.set_cons_zero, List.set_cons_succ, List.getElem_toArray, List.getElem_cons_succ, List.getElem_cons_zero]))
    refine wpAnyH_done (by kernel_rfl) ?_ _
    have HSX := hid hHeld
    have HKT := hid kT
    have HOP := hid op
    have HCG := hid (And.intro g0 g1)
    have HGP := hid (And.intro hGp hBp)
    have HAp := hid (show N < NT ∧ NT < p ∧ w.heap.size ≤ p from ⟨by have := HNN.out; omega, hNTp, lop⟩)
    have c3m : w4.cell? ⟨N, 3, none⟩ = some (Value.slice (some ⟨b1, off1, none⟩) xs.length cap1) := hHeld.2.2.2.2.1
    clear hHeld kT op g0 g1 hGp hBp hNTp lop
    try clear gl bl
    go_wp2
    clear c3m
    have HTL : Hid ((colL 6 false xs ys).length = xs.length) := by simp [Hid, colL]
    go_loopw [7, 8, 20] (fun j7 j8 i wr => ∃ k : Nat, k ≤ xs.length ∧ i = .int .i64 k ∧ Own 2 wr p (Value.slice (some ⟨p, 0, none⟩) xs.length xs.length) (Grow.filN (colL 6 false xs ys) xs.length k) ∧ w4.grownBy wr (some p)) (fun _ _ i _ => xs.length - (intOf i).toNat)
    case atStart => exact ⟨0, Nat.zero_le _, rfl, by rw [Grow.filN_zero]; exact HOP.out, World.grownBy.refl _ _⟩
    case round =>
      obtain ⟨k, hk, rfl, hown, hg⟩ := hrel
      have hpN : N ≠ p := Nat.ne_of_lt (Nat.lt_trans HAp.out.1 HAp.out.2.1)
      have c0 := Grow.g_cell hg HSX.out.2.1 hpN
      have c1 := Grow.g_cell hg HSX.out.2.2.1 hpN
      have c2 := Grow.g_cell hg HSX.out.2.2.2.1 hpN
      have c3 := Grow.g_cell hg HSX.out.2.2.2.2.1 hpN
      have c4 := Grow.g_cell hg HSX.out.2.2.2.2.2.1 hpN
      have cg0 := Grow.g_cell hg HCG.out.1 HGP.out.1
      have cg1 := Grow.g_cell hg HCG.out.2 HGP.out.2
      by_cases hlt : k < xs.length
      · obtain ⟨y, hy⟩ : ∃ y, y = xs.getD k 0 := ⟨_, rfl⟩
        have hyb : 0 ≤ y ∧ y < 64 := by
          have h1 := cell_bd HCB.out hlt
          rw [← hy] at h1
          have ht : top (6) = 64 - 1 := by simp [top]
          omega
        obtain ⟨x, rfl⟩ := Int.eq_ofNat_of_zero_le hyb.1
        have HXS : Hid (x < 64) := by simp only [Hid]; omega
        have HXB : Hid (x < 64) := by simp only [Hid]; omega
        have hpb : b1 ≠ p := Nat.ne_of_lt (Nat.lt_of_lt_of_le HBL.out.1 HAp.out.2.2)
        have hpb2 : b2 ≠ p := Nat.ne_of_lt (Nat.lt_of_lt_of_le HBL.out.2 HAp.out.2.2)
        have hcx : wr.cell? ⟨b1, off1 + k, none⟩ = some (.int .i64 (x : Int)) := Grow.g_cell hg (by rw [hy]; exact (HSX.out.1.cell (p := ⟨b1, off1 + k, none⟩) HBL.out.1).trans (HC1.out k hlt)) hpb
        obtain ⟨wl, hwl⟩ : ∃ wl, wl = ys.getD k false := ⟨_, rfl⟩
        have hcw : wr.cell? ⟨b2, off2 + k, none⟩ = some (.bool wl) := Grow.g_cell hg (by rw [hwl]; exact (HSX.out.1.cell (p := ⟨b2, off2 + k, none⟩) HBL.out.2).trans (HC2.out k (by have := HYM.out; omega))) hpb2
        have HTX : Hid ((colL 6 false xs ys).getD k 0 = (colC 6 false wl x : Int)) := by simp only [Hid]; rw [colL_get hlt, ← hy, ← hwl]; rfl
        have hki : (k : Int) < (xs.length : Int) := by omega
        have hkj : (k : Int) < (ys.length : Int) := by have := HYM.out; omega
        have HO1 := hid hown
        have HG1 := hid hg
        clear hown hg hy hyb hwl
        cases wl with
        | true =>
          go_wp2_with fail
          go_at_call 52
          refine (implTurned6 HXB.out (by omega)).mono ?_
          rintro e wy ⟨rfl, bel⟩
          have ow := HO1.out.keep bel
          have g2 := Grow.g_bel HG1.out bel
          have hox := ow.cell (i := k) (by rw [Grow.filN_len _ _ _ HTL.out (Nat.le_of_lt hlt)]; exact hlt)
          have hof := ow.free k
          have HO3 := hid (ow.set k (Trn.trn x 6 3 6 : Int))
          have HG3 := hid (Grow.g_set g2 k (.int .i64 (Trn.trn x 6 3 6 : Int)))
          clear ow g2 bel hcx hcw cg0 cg1 c0 c1 c2 c3 c4
          go_wp2
          go_roundw
          case rel =>
            refine ⟨k + 1, by omega, by go_num, ?_, HG3.out⟩
            have hs := Grow.filN_set (colL 6 false xs ys) xs.length k HTL.out hlt
            rw [HTX.out] at hs
            rw [← hs]
            exact HO3.out
          case measure => simp [intOf]; omega
        | false =>
          go_wp2_with fail
          go_at_call 76
          refine (Col.clo6m HXB.out cg0 cg1).mono ?_
          rw [Ones.col6_eq _ HXS.out]
          rintro e wy ⟨rfl, bel⟩
          have ow := HO1.out.keep bel
          have g2 := Grow.g_bel HG1.out bel
          have hox := ow.cell (i := k) (by rw [Grow.filN_len _ _ _ HTL.out (Nat.le_of_lt hlt)]; exact hlt)
          have hof := ow.free k
          have HO3 := hid (ow.set k (Ones.col x 6 false : Int))
          have HG3 := hid (Grow.g_set g2 k (.int .i64 (Ones.col x 6 false : Int)))
          clear ow g2 bel hcx hcw cg0 cg1 c0 c1 c2 c3 c4
          go_wp2
          go_roundw
          case rel =>
            refine ⟨k + 1, by omega, by go_num, ?_, HG3.out⟩
            have hs := Grow.filN_set (colL 6 false xs ys) xs.length k HTL.out hlt
            rw [HTX.out] at hs
            rw [← hs]
            exact HO3.out
          case measure => simp [intOf]; omega
      · have hkn : k = xs.length := by omega
        subst hkn
        rw [Grow.filN_all _ _ HTL.out] at hown
        clear cg0 cg1
        have kTr := Grow.g_heap hg HKT.out (Nat.ne_of_lt HAp.out.2.1)
        have HBr := hid (Grow.g_below HSX.out.1 hg HAp.out.2.2)
        have HO := hid hown
        clear hown hg hpN
        go_wp2_with fail
        go_at_call 53
        refine (GOwn.withP rfl (H2.out.keep HBr.out (Nat.le_refl _)) (by have := HLE.out; have := HYM.out; omega)).mono ?_
        rintro e w6 ⟨q, kq, rfl, oq, lo, bel⟩
        have kT6 := (bel.block NT (Array.getElem?_eq_some_iff.1 kTr).1).trans kTr
        have HPQ := hid (Nat.lt_of_lt_of_le HO.out.lt lo)
        have HB := hid (HBr.out.trans (bel.mono HBr.out.size))
        have HO6 := hid (HO.out.keep bel)
        have HQ6 := hid oq
        clear kTr bel lo oq
        have y0 : w6.cell? ⟨NT, 0, none⟩ = some (.int .i64 0) := Go.Joins.cell_of_block kT6 0
        have y1 : w6.cell? ⟨NT, 1, none⟩ = some (.int .i64 0) := Go.Joins.cell_of_block kT6 1
        have y2 : w6.cell? ⟨NT, 2, none⟩ = some (.int .i64 0) := Go.Joins.cell_of_block kT6 2
        have y3 : w6.cell? ⟨NT, 3, none⟩ = some (.slice none 0 0) := Go.Joins.cell_of_block kT6 3
        have y4 : w6.cell? ⟨NT, 4, none⟩ = some (.slice none 0 0) := Go.Joins.cell_of_block kT6 4
        have g0 : w6.frozen? ⟨NT, 0, none⟩ = false := Go.Joins.unfrozen_of_block kT6 0
        have g1 : w6.frozen? ⟨NT, 1, none⟩ = false := Go.Joins.unfrozen_of_block kT6 1
        have g2 : w6.frozen? ⟨NT, 2, none⟩ = false := Go.Joins.unfrozen_of_block kT6 2
        have g3 : w6.frozen? ⟨NT, 3, none⟩ = false := Go.Joins.unfrozen_of_block kT6 3
        have g4 : w6.frozen? ⟨NT, 4, none⟩ = false := Go.Joins.unfrozen_of_block kT6 4
        have HKx := hid kT6
        clear kT6
        go_wp2
        have q0 := (Go.Joins.block_setCell (i := 4) (Go.Joins.block_setCell (i := 3) (Go.Joins.block_setCell (i := 2) (Go.Joins.block_setCell (i := 1) (Go.Joins.block_setCell (i := 0) HKx.out (.int .i64 6)) (.int .i64 s)) (.int .i64 r)) ((Value.slice (some ⟨p, 0, none⟩) xs.length xs.length))) ((Value.slice (some ⟨q, 0, none⟩) ys.length kq)))
        have B5 := (((((HB.out.setCell (p := ⟨NT, 0, none⟩) HNT.out (.int .i64 6)).setCell (p := ⟨NT, 1, none⟩) HNT.out (.int .i64 s)).setCell (p := ⟨NT, 2, none⟩) HNT.out (.int .i64 r)).setCell (p := ⟨NT, 3, none⟩) HNT.out ((Value.slice (some ⟨p, 0, none⟩) xs.length xs.length))).setCell (p := ⟨NT, 4, none⟩) HNT.out ((Value.slice (some ⟨q, 0, none⟩) ys.length kq)))
        have O0 := (own_set (own_set (own_set (own_set (own_set HO6.out ⟨NT, 0, none⟩ (.int .i64 6) (Nat.ne_of_lt HAp.out.2.1)) ⟨NT, 1, none⟩ (.int .i64 s) (Nat.ne_of_lt HAp.out.2.1)) ⟨NT, 2, none⟩ (.int .i64 r) (Nat.ne_of_lt HAp.out.2.1)) ⟨NT, 3, none⟩ ((Value.slice (some ⟨p, 0, none⟩) xs.length xs.length)) (Nat.ne_of_lt HAp.out.2.1)) ⟨NT, 4, none⟩ ((Value.slice (some ⟨q, 0, none⟩) ys.length kq)) (Nat.ne_of_lt HAp.out.2.1))
        have O1 := (ownB_set (ownB_set (ownB_set (ownB_set (ownB_set HQ6.out ⟨NT, 0, none⟩ (.int .i64 6) (Nat.ne_of_lt (Nat.lt_trans HAp.out.2.1 HPQ.out))) ⟨NT, 1, none⟩ (.int .i64 s) (Nat.ne_of_lt (Nat.lt_trans HAp.out.2.1 HPQ.out))) ⟨NT, 2, none⟩ (.int .i64 r) (Nat.ne_of_lt (Nat.lt_trans HAp.out.2.1 HPQ.out))) ⟨NT, 3, none⟩ ((Value.slice (some ⟨p, 0, none⟩) xs.length xs.length)) (Nat.ne_of_lt (Nat.lt_trans HAp.out.2.1 HPQ.out))) ⟨NT, 4, none⟩ ((Value.slice (some ⟨q, 0, none⟩) ys.length kq)) (Nat.ne_of_lt (Nat.lt_trans HAp.out.2.1 HPQ.out)))
        obtain ⟨W5, hW⟩ : ∃ W5, W5 = (((((w6.setCell ⟨NT, 0, none⟩ (.int .i64 6)).setCell ⟨NT, 1, none⟩ (.int .i64 s)).setCell ⟨NT, 2, none⟩ (.int .i64 r)).setCell ⟨NT, 3, none⟩ ((Value.slice (some ⟨p, 0, none⟩) xs.length xs.length))).setCell ⟨NT, 4, none⟩ ((Value.slice (some ⟨q, 0, none⟩) ys.length kq))) := ⟨_, rfl⟩
        rw [← hW] at q0 B5 O0 O1
        have z0 : W5.cell? ⟨NT, 0, none⟩ = some (.int .i64 6) := Go.Joins.cell_of_block q0 0
        have z1 : W5.cell? ⟨NT, 1, none⟩ = some (.int .i64 s) := Go.Joins.cell_of_block q0 1
        have z2 : W5.cell? ⟨NT, 2, none⟩ = some (.int .i64 r) := Go.Joins.cell_of_block q0 2
        have z3 : W5.cell? ⟨NT, 3, none⟩ = some ((Value.slice (some ⟨p, 0, none⟩) xs.length xs.length)) := Go.Joins.cell_of_block q0 3
        have z4 : W5.cell? ⟨NT, 4, none⟩ = some ((Value.slice (some ⟨q, 0, none⟩) ys.length kq)) := Go.Joins.cell_of_block q0 4
        simp only [← hW]
        clear hW q0
        simp [bodyPost, results, Try.results57, go_sem, z0, z1, z2, z3, z4]
        exact ⟨p, xs.length, q, kq, by simp, O0, O1, HAp.out.2.2, HPQ.out, Nat.le_refl _, by have := HLE.out; unfold maxLen; omega, B5⟩
    
  · go_simp
    refine hK.out _ _ ?_ (fun hHeld2 => ?_)
    · (try dsimp only); exact nx5_IB (below1 _ _) hHeld
    clear hK K
    obtain ⟨wM, hW⟩ : ∃ w5, w5 = (wD.alloc (.cells (madeCells #[.int .i64 0] xs.length) 2)) := ⟨_, rfl⟩
    obtain ⟨p, hp⟩ : ∃ p, p = wD.heap.size := ⟨_, rfl⟩
    have bel : Below wD.heap.size wD wM := by rw [hW]; exact below1 _ _
    have op : Own 2 wM p (Value.slice (some ⟨p, 0, none⟩) xs.length xs.length) (List.replicate xs.length 0) := by rw [hW, hp]; exact Own.made 2 wD xs.length (by have := HLE.out; unfold maxLen; omega)
    have hNTp : NT < p := by rw [hp]; exact (Array.getElem?_eq_some_iff.1 kT).1
    have lop : w.heap.size ≤ p := by rw [hp]; exact hHeld.1.size
    replace kT := (bel.block NT (Array.getElem?_eq_some_iff.1 kT).1).trans kT
    rw [← hW] at hHeld2
    simp only [← hW, ← hp]
    clear hHeld bel hW hp
    have hHeld := hHeld2
    clear hHeld2
    (try simp only [Act.put, List.setIfInBounds_toArray, List.set_cons_zero, List.set_cons_succ, List.getElem_toArray, List.getElem_cons_succ, List.getElem_cons_zero])
    refine wpAnyH_ready (rs := [3]) ?_ (by simp) ?_
    · decide +kernel
    refine AllReadyH.cons rfl (fun K hK => ?_) AllReadyH.nil
    go_simp
    go_at_call 70
    refine (Col.mk6m).mono ?_
    rintro e w4 ⟨NG, NB, rfl, g0, g1, lg, lb, gl, bl, bel⟩
    replace kT := (bel.block NT (Array.getElem?_eq_some_iff.1 kT).1).trans kT
    have hGp : NG ≠ p := Nat.ne_of_gt (Nat.lt_of_lt_of_le op.lt lg)
    have hBp : NB ≠ p := Nat.ne_of_gt (Nat.lt_of_lt_of_le op.lt lb)
    replace op := op.keep bel
    refine hK.out _ _ ?_ (fun hHeld2 => ?_)
    · (try dsimp only); exact nx5_IB bel hHeld
    clear hK K hHeld bel lg lb
    have hHeld := hHeld2
    clear hHeld2
    (try simp only [Act.put, List.setIfInBounds_toArray, List.set_cons_zero, List.set_cons_succ, List.getElem_toArray, List.getElem_cons_succ, List.getElem_cons_zero])
    (refine wpAnyH_take (i := 8) (v := ?_) rfl ?_ ?_ ?_ (fun _ _ _ h => h) (Or.inl ⟨?_, ?_⟩) ?_ ?_; rotate_left 1; (focus decide +kernel); (focus decide +kernel); (focus decide +kernel); (focus rfl); (focus (intro w hSw; (try dsimp only at hSw); go_simp; (try (with_reducible rfl)); done)); (focus assumption); (try simp only [Act.put, List.setIfInBounds_toArray, List.set_cons_zero, List.set_cons_succ, List.getElem_toArray, List.getElem_cons_succ, List.getElem_cons_zero]))
    (refine wpAnyH_take (i := 9) (v := ?_) rfl ?_ ?_ ?_ (fun _ _ _ h => h) (Or.inl ⟨?_, ?_⟩) ?_ ?_; rotate_left 1; (focus decide +kernel); (focus decide +kernel); (focus decide +kernel); (focus rfl); (focus (intro w hSw; (try dsimp only at hSw); go_simp; (try (with_reducible rfl)); done)); (focus assumption); (try simp only [Act.put, List.setIfInBounds_toArray, List.set_cons_zero, List.set_cons_succ, List.getElem_toArray, List.getElem_cons_succ, List.getElem_cons_zero]))
    refine wpAnyH_done (by kernel_rfl) ?_ _
    have HSX := hid hHeld
    have HKT := hid kT
    have HOP := hid op
    have HCG := hid (And.intro g0 g1)
    have HGP := hid (And.intro hGp hBp)
    have HAp := hid (show N < NT ∧ NT < p ∧ w.heap.size ≤ p from ⟨by have := HNN.out; omega, hNTp, lop⟩)
    have c3m : w4.cell? ⟨N, 3, none⟩ = some (Value.slice (some ⟨b1, off1, none⟩) xs.length cap1) := hHeld.2.2.2.2.1
    clear hHeld kT op g0 g1 hGp hBp hNTp lop
    try clear gl bl
    go_wp2
    clear c3m
    have HTL : Hid ((colL 6 false xs ys).length = xs.length) := by simp [Hid, colL]
    go_loopw [7, 8, 20] (fun j7 j8 i wr => ∃ k : Nat, k ≤ xs.length ∧ i = .int .i64 k ∧ Own 2 wr p (Value.slice (some ⟨p, 0, none⟩) xs.length xs.length) (Grow.filN (colL 6 false xs ys) xs.length k) ∧ w4.grownBy wr (some p)) (fun _ _ i _ => xs.length - (intOf i).toNat)
    case atStart => exact ⟨0, Nat.zero_le _, rfl, by rw [Grow.filN_zero]; exact HOP.out, World.grownBy.refl _ _⟩
    case round =>
      obtain ⟨k, hk, rfl, hown, hg⟩ := hrel
      have hpN : N ≠ p := Nat.ne_of_lt (Nat.lt_trans HAp.out.1 HAp.out.2.1)
      have c0 := Grow.g_cell hg HSX.out.2.1 hpN
      have c1 := Grow.g_cell hg HSX.out.2.2.1 hpN
      have c2 := Grow.g_cell hg HSX.out.2.2.2.1 hpN
      have c3 := Grow.g_cell hg HSX.out.2.2.2.2.1 hpN
      have c4 := Grow.g_cell hg HSX.out.2.2.2.2.2.1 hpN
      have cg0 := Grow.g_cell hg HCG.out.1 HGP.out.1
      have cg1 := Grow.g_cell hg HCG.out.2 HGP.out.2
      by_cases hlt : k < xs.length
      · obtain ⟨y, hy⟩ : ∃ y, y = xs.getD k 0 := ⟨_, rfl⟩
        have hyb : 0 ≤ y ∧ y < 64 := by
          have h1 := cell_bd HCB.out hlt
          rw [← hy] at h1
          have ht : top (6) = 64 - 1 := by simp [top]
          omega
        obtain ⟨x, rfl⟩ := Int.eq_ofNat_of_zero_le hyb.1
        have HXS : Hid (x < 64) := by simp only [Hid]; omega
        have HXB : Hid (x < 64) := by simp only [Hid]; omega
        have hpb : b1 ≠ p := Nat.ne_of_lt (Nat.lt_of_lt_of_le HBL.out.1 HAp.out.2.2)
        have hpb2 : b2 ≠ p := Nat.ne_of_lt (Nat.lt_of_lt_of_le HBL.out.2 HAp.out.2.2)
        have hcx : wr.cell? ⟨b1, off1 + k, none⟩ = some (.int .i64 (x : Int)) := Grow.g_cell hg (by rw [hy]; exact (HSX.out.1.cell (p := ⟨b1, off1 + k, none⟩) HBL.out.1).trans (HC1.out k hlt)) hpb
        obtain ⟨wl, hwl⟩ : ∃ wl, wl = ys.getD k false := ⟨_, rfl⟩
        have hcw : wr.cell? ⟨b2, off2 + k, none⟩ = some (.bool wl) := Grow.g_cell hg (by rw [hwl]; exact (HSX.out.1.cell (p := ⟨b2, off2 + k, none⟩) HBL.out.2).trans (HC2.out k (by have := HYM.out; omega))) hpb2
        have HTX : Hid ((colL 6 false xs ys).getD k 0 = (colC 6 false wl x : Int)) := by simp only [Hid]; rw [colL_get hlt, ← hy, ← hwl]; rfl
        have hki : (k : Int) < (xs.length : Int) := by omega
        have hkj : (k : Int) < (ys.length : Int) := by have := HYM.out; omega
        have HO1 := hid hown
        have HG1 := hid hg
        clear hown hg hy hyb hwl
        cases wl with
        | true =>
          go_wp2_with fail
          go_at_call 52
          refine (implTurned6 HXB.out (by omega)).mono ?_
          rintro e wy ⟨rfl, bel⟩
          have ow := HO1.out.keep bel
          have g2 := Grow.g_bel HG1.out bel
          have hox := ow.cell (i := k) (by rw [Grow.filN_len _ _ _ HTL.out (Nat.le_of_lt hlt)]; exact hlt)
          have hof := ow.free k
          have HO3 := hid (ow.set k (Trn.trn x 6 3 6 : Int))
          have HG3 := hid (Grow.g_set g2 k (.int .i64 (Trn.trn x 6 3 6 : Int)))
          clear ow g2 bel hcx hcw cg0 cg1 c0 c1 c2 c3 c4
          go_wp2
          go_roundw
          case rel =>
            refine ⟨k + 1, by omega, by go_num, ?_, HG3.out⟩
            have hs := Grow.filN_set (colL 6 false xs ys) xs.length k HTL.out hlt
            rw [HTX.out] at hs
            rw [← hs]
            exact HO3.out
          case measure => simp [intOf]; omega
        | false =>
          go_wp2_with fail
          go_at_call 76
          refine (Col.clo6m HXB.out cg0 cg1).mono ?_
          rw [Ones.col6_eq _ HXS.out]
          rintro e wy ⟨rfl, bel⟩
          have ow := HO1.out.keep bel
          have g2 := Grow.g_bel HG1.out bel
          have hox := ow.cell (i := k) (by rw [Grow.filN_len _ _ _ HTL.out (Nat.le_of_lt hlt)]; exact hlt)
          have hof := ow.free k
          have HO3 := hid (ow.set k (Ones.col x 6 false : Int))
          have HG3 := hid (Grow.g_set g2 k (.int .i64 (Ones.col x 6 false : Int)))
          clear ow g2 bel hcx hcw cg0 cg1 c0 c1 c2 c3 c4
          go_wp2
          go_roundw
          case rel =>
            refine ⟨k + 1, by omega, by go_num, ?_, HG3.out⟩
            have hs := Grow.filN_set (colL 6 false xs ys) xs.length k HTL.out hlt
            rw [HTX.out] at hs
            rw [← hs]
            exact HO3.out
          case measure => simp [intOf]; omega
      · have hkn : k = xs.length := by omega
        subst hkn
        rw [Grow.filN_all _ _ HTL.out] at hown
        clear cg0 cg1
        have kTr := Grow.g_heap hg HKT.out (Nat.ne_of_lt HAp.out.2.1)
        have HBr := hid (Grow.g_below HSX.out.1 hg HAp.out.2.2)
        have HO := hid hown
        clear hown hg hpN
        go_wp2_with fail
        go_at_call 53
        refine (GOwn.withP rfl (H2.out.keep HBr.out (Nat.le_refl _)) (by have := HLE.out; have := HYM.out; omega)).mono ?_
        rintro e w6 ⟨q, kq, rfl, oq, lo, bel⟩
        have kT6 := (bel.block NT (Array.getElem?_eq_some_iff.1 kTr).1).trans kTr
        have HPQ := hid (Nat.lt_of_lt_of_le HO.out.lt lo)
        have HB := hid (HBr.out.trans (bel.mono HBr.out.size))
        have HO6 := hid (HO.out.keep bel)
        have HQ6 := hid oq
        clear kTr bel lo oq
        have y0 : w6.cell? ⟨NT, 0, none⟩ = some (.int .i64 0) := Go.Joins.cell_of_block kT6 0
        have y1 : w6.cell? ⟨NT, 1, none⟩ = some (.int .i64 0) := Go.Joins.cell_of_block kT6 1
        have y2 : w6.cell? ⟨NT, 2, none⟩ = some (.int .i64 0) := Go.Joins.cell_of_block kT6 2
        have y3 : w6.cell? ⟨NT, 3, none⟩ = some (.slice none 0 0) := Go.Joins.cell_of_block kT6 3
        have y4 : w6.cell? ⟨NT, 4, none⟩ = some (.slice none 0 0) := Go.Joins.cell_of_block kT6 4
        have g0 : w6.frozen? ⟨NT, 0, none⟩ = false := Go.Joins.unfrozen_of_block kT6 0
        have g1 : w6.frozen? ⟨NT, 1, none⟩ = false := Go.Joins.unfrozen_of_block kT6 1
        have g2 : w6.frozen? ⟨NT, 2, none⟩ = false := Go.Joins.unfrozen_of_block kT6 2
        have g3 : w6.frozen? ⟨NT, 3, none⟩ = false := Go.Joins.unfrozen_of_block kT6 3
        have g4 : w6.frozen? ⟨NT, 4, none⟩ = false := Go.Joins.unfrozen_of_block kT6 4
        have HKx := hid kT6
        clear kT6
        go_wp2
        have q0 := (Go.Joins.block_setCell (i := 4) (Go.Joins.block_setCell (i := 3) (Go.Joins.block_setCell (i := 2) (Go.Joins.block_setCell (i := 1) (Go.Joins.block_setCell (i := 0) HKx.out (.int .i64 6)) (.int .i64 s)) (.int .i64 r)) ((Value.slice (some ⟨p, 0, none⟩) xs.length xs.length))) ((Value.slice (some ⟨q, 0, none⟩) ys.length kq)))
        have B5 := (((((HB.out.setCell (p := ⟨NT, 0, none⟩) HNT.out (.int .i64 6)).setCell (p := ⟨NT, 1, none⟩) HNT.out (.int .i64 s)).setCell (p := ⟨NT, 2, none⟩) HNT.out (.int .i64 r)).setCell (p := ⟨NT, 3, none⟩) HNT.out ((Value.slice (some ⟨p, 0, none⟩) xs.length xs.length))).setCell (p := ⟨NT, 4, none⟩) HNT.out ((Value.slice (some ⟨q, 0, none⟩) ys.length kq)))
        have O0 := (own_set (own_set (own_set (own_set (own_set HO6.out ⟨NT, 0, none⟩ (.int .i64 6) (Nat.ne_of_lt HAp.out.2.1)) ⟨NT, 1, none⟩ (.int .i64 s) (Nat.ne_of_lt HAp.out.2.1)) ⟨NT, 2, none⟩ (.int .i64 r) (Nat.ne_of_lt HAp.out.2.1)) ⟨NT, 3, none⟩ ((Value.slice (some ⟨p, 0, none⟩) xs.length xs.length)) (Nat.ne_of_lt HAp.out.2.1)) ⟨NT, 4, none⟩ ((Value.slice (some ⟨q, 0, none⟩) ys.length kq)) (Nat.ne_of_lt HAp.out.2.1))
        have O1 := (ownB_set (ownB_set (ownB_set (ownB_set (ownB_set HQ6.out ⟨NT, 0, none⟩ (.int .i64 6) (Nat.ne_of_lt (Nat.lt_trans HAp.out.2.1 HPQ.out))) ⟨NT, 1, none⟩ (.int .i64 s) (Nat.ne_of_lt (Nat.lt_trans HAp.out.2.1 HPQ.out))) ⟨NT, 2, none⟩ (.int .i64 r) (Nat.ne_of_lt (Nat.lt_trans HAp.out.2.1 HPQ.out))) ⟨NT, 3, none⟩ ((Value.slice (some ⟨p, 0, none⟩) xs.length xs.length)) (Nat.ne_of_lt (Nat.lt_trans HAp.out.2.1 HPQ.out))) ⟨NT, 4, none⟩ ((Value.slice (some ⟨q, 0, none⟩) ys.length kq)) (Nat.ne_of_lt (Nat.lt_trans HAp.out.2.1 HPQ.out)))
        obtain ⟨W5, hW⟩ : ∃ W5, W5 = (((((w6.setCell ⟨NT, 0, none⟩ (.int .i64 6)).setCell ⟨NT, 1, none⟩ (.int .i64 s)).setCell ⟨NT, 2, none⟩ (.int .i64 r)).setCell ⟨NT, 3, none⟩ ((Value.slice (some ⟨p, 0, none⟩) xs.length xs.length))).setCell ⟨NT, 4, none⟩ ((Value.slice (some ⟨q, 0, none⟩) ys.length kq))) := ⟨_, rfl⟩
        rw [← hW] at q0 B5 O0 O1
        have z0 : W5.cell? ⟨NT, 0, none⟩ = some (.int .i64 6) := Go.Joins.cell_of_block q0 0
        have z1 : W5.cell? ⟨NT, 1, none⟩ = some (.int .i64 s) := Go.Joins.cell_of_block q0 1
        have z2 : W5.cell? ⟨NT, 2, none⟩ = some (.int .i64 r) := Go.Joins.cell_of_block q0 2
        have z3 : W5.cell? ⟨NT, 3, none⟩ = some ((Value.slice (some ⟨p, 0, none⟩) xs.length xs.length)) := Go.Joins.cell_of_block q0 3
        have z4 : W5.cell? ⟨NT, 4, none⟩ = some ((Value.slice (some ⟨q, 0, none⟩) ys.length kq)) := Go.Joins.cell_of_block q0 4
        simp only [← hW]
        clear hW q0
        simp [bodyPost, results, Try.results57, go_sem, z0, z1, z2, z3, z4]
        exact ⟨p, xs.length, q, kq, by simp, O0, O1, HAp.out.2.2, HPQ.out, Nat.le_refl _, by have := HLE.out; unfold maxLen; omega, B5⟩
    

end Go.Proofs.Ytnpjhhkhdeomcaa.Cld
