/- GrowField of both sides. -/
import Derived.Test.YtmbimekndhcgaaaFPstI
import Derived.Test.YtmbimekndhcgaaaCan
import Derived.StillTailTactics
namespace Go.Proofs.Ytmbimekndhcgaaa.Gw
open Go.RowKit Go.Proofs.Ytmbimekndhcgaaa.Rd Go.Proofs.Ytmbimekndhcgaaa.Help Go.Proofs.Ytmbimekndhcgaaa.Ring Go.Proofs.Ytmbimekndhcgaaa.Small Go.Proofs.Ytmbimekndhcgaaa.FVal Go.Proofs.Ytmbimekndhcgaaa.Keep Go.Proofs.Ytmbimekndhcgaaa.Rule Go.Proofs.Ytmbimekndhcgaaa.Grow Go.Proofs.Ytmbimekndhcgaaa.Copy Go.Proofs.Ytmbimekndhcgaaa.FCut Go.Proofs.Ytmbimekndhcgaaa.FPst
set_option linter.unusedVariables false
set_option linter.unusedSimpArgs false

theorem l05Sides {w : World} {s r : Int} :
    Calls Try.prog 51 #[.int .i64 s, .int .i64 r] w fun e w' => e = .returned (.bool (sidesB s r)) ∧ w = w' := by
  by_cases h1 : 1 ≤ s ∧ s ≤ 24
  · have H1 : Hid (decide (1 ≤ s ∧ s ≤ 24) = true) := decide_eq_true h1
    obtain ⟨q, hq⟩ : ∃ q, q = decide (1 ≤ r ∧ r ≤ 24) := ⟨_, rfl⟩
    have e : sidesB s r = q := by rw [hq]; simp only [sidesB]; apply decide_eq_decide.2; omega
    have HQ := hid hq
    rw [e]
    clear e h1 hq
    go_enter Try.func51, Try.ntmps51
    go_wp2_with fail
    go_at_call 50
    refine inB.mono ?_
    rw [H1.out]
    rintro e w' ⟨rfl, rfl⟩
    go_wp2_with fail
    go_at_call 50
    refine inB.mono ?_
    rw [← HQ.out]
    rintro e w' ⟨rfl, rfl⟩
    go_wp2_with fail
    go_ret
    exact ⟨rfl, rfl⟩
  · have H1 : Hid (decide (1 ≤ s ∧ s ≤ 24) = false) := decide_eq_false h1
    have e : sidesB s r = false := by simp [sidesB]; omega
    rw [e]
    clear e h1
    go_enter Try.func51, Try.ntmps51
    go_wp2_with fail
    go_at_call 50
    refine inB.mono ?_
    rw [H1.out]
    rintro e w' ⟨rfl, rfl⟩
    go_wp2_with fail
    go_ret
    exact ⟨rfl, rfl⟩

theorem field_rep {R C n : Nat} (h : sidesB (R : Int) (C : Int) = true) (hn : n = R * C) : fieldB (R : Int) (C : Int) (List.replicate n 0) = true := by
  subst hn
  have e : allB (List.replicate (R * C) 0) 10 = true := by
    unfold allB
    rw [List.all_eq_true]
    intro x hx
    rw [List.eq_of_mem_replicate hx]
    decide
  simp only [fieldB, h, e, Bool.true_and, Bool.and_true, decide_eq_true_eq, List.length_replicate]
  simp

set_option maxRecDepth 4000 in
set_option maxHeartbeats 16000000 in
theorem l05Grow {w : World} {N P Q D R C n m b2 : Nat} {v2 : Value} {ps : List Int} (k0 : w.cell? ⟨N, 0, none⟩ = some (.int .i64 P)) (k1 : w.cell? ⟨N, 1, none⟩ = some (.int .i64 Q)) (k2 : w.cell? ⟨N, 2, none⟩ = some v2) (h2 : Rd w b2 v2 ps) (hp : fieldB P Q ps = true) (hm : m = P * Q) (hR : R = P + 2 * D) (hC : C = Q + 2 * D) (hn : n = R * C) (hle : R ≤ 24 ∧ C ≤ 24) :
    Calls Try.prog 52 #[.pointer (some ⟨N, 0, none⟩), .int .i64 D] w fun e w' => ∃ b', e = .returned (ruleV R C (.slice (some ⟨b', 0, none⟩) n n)) ∧ Own 2 w' b' (.slice (some ⟨b', 0, none⟩) n n) (pasteL (List.replicate n 0) ps R C P Q D D) ∧ w.heap.size ≤ b' ∧ Below w.heap.size w w' := by
  obtain ⟨hP, hQ, hl2, hle2⟩ := field_nat hp
  have HH := hid h2
  have HP := hid hp
  obtain ⟨ao2, cap2, rfl, hc2, hm2, h42⟩ := h2
  have hpos2 : 0 < ps.length := by rw [hl2]; exact Nat.mul_pos hP.1 hQ.1
  obtain ⟨off2, rfl, hb2, hcell2⟩ := h42 hpos2
  have hln2 : ps.length = m := by rw [hm]; exact hl2
  rw [hln2] at HH hc2 hcell2 k2
  have hsz2 : m ≤ cap2 ∧ cap2 ≤ 9223372036854775807 := by unfold maxLen at hm2; omega
  have HN := hid hn
  have HMN := hid hm
  have HPb := hid hP
  have HQb := hid hQ
  have HB2 := hid hb2
  have HCell2 := hid hcell2
  have HLE : Hid (n ≤ 576) := by simp only [Hid]; rw [hn]; exact Nat.le_trans (Nat.mul_le_mul hle.1 hle.2) (by decide)
  have HLE2 : Hid (m ≤ 576) := by simp only [Hid]; rw [hm]; exact hle2
  have HK2 : Hid (R = P + 2 * D ∧ C = Q + 2 * D ∧ R ≤ 24 ∧ C ≤ 24) := ⟨hR, hC, hle⟩
  have x0 : IntKind.i64.wrap (2 * (D : Int)) = 2 * (D : Int) := by rw [IntKind.wrap_i64]; omega
  have x1 : IntKind.i64.wrap ((P : Int) + 2 * (D : Int)) = (R : Int) := by rw [IntKind.wrap_i64]; omega
  have x2 : IntKind.i64.wrap ((Q : Int) + 2 * (D : Int)) = (C : Int) := by rw [IntKind.wrap_i64]; omega
  have HK := hid (And.intro k0 (And.intro k1 k2))
  obtain ⟨ZS, hZS⟩ : ∃ ZS, ZS = List.replicate n (0 : Int) := ⟨_, rfl⟩
  have HZS := hid hZS
  have hNw : N < w.heap.size := World.block_lt_of_cell? w _ k0
  have hB4 : P ≤ 24 ∧ Q ≤ 24 := by omega
  clear hc2 hm2 h42 hp hn hm hl2 hle2 hpos2 hb2 hcell2 hln2 hR hC hle hP hQ k0 k1 k2 hZS
  go_enter Try.func52, Try.ntmps52
  go_wp2_with fail
  obtain ⟨w1, hW⟩ : ∃ w1, w1 = w.alloc (Obj.cells #[.int .i64 0, .int .i64 0, .slice none 0 0] 26) := ⟨_, rfl⟩
  obtain ⟨NT, hM⟩ : ∃ NT, NT = w.heap.size := ⟨_, rfl⟩
  have bw : Below w.heap.size w w1 := by rw [hW]; exact below1 _ _
  have kt : w1.heap[NT]? = some (Obj.cells #[.int .i64 0, .int .i64 0, .slice none 0 0] 26) := by rw [hW]; exact FNew.heap_top hM
  have HNT : Hid (w.heap.size ≤ NT) := by simp only [Hid]; omega
  have HNN : Hid (N < NT ∧ NT = w.heap.size) := ⟨by omega, hM⟩
  simp only [← hW, ← hM]
  clear hW hM hNw

  refine wp_region_held_drew (S := (fun ww => Below w.heap.size w ww ∧ ww.cell? ⟨N, 0, none⟩ = some (.int .i64 P) ∧ ww.cell? ⟨N, 1, none⟩ = some (.int .i64 Q) ∧ w.heap.size ≤ ww.heap.size)) (by kernel_rfl) ?_ (fun hHeld => ?_)
  · ((try dsimp only); exact ⟨bw.drew, cell_keep bw.drew HK.out.1, cell_keep bw.drew HK.out.2.1, bw.drew.size⟩)
  generalize hD : w1.drew = wD at hHeld ⊢
  replace kt : wD.heap[NT]? = some (Obj.cells #[.int .i64 0, .int .i64 0, .slice none 0 0] 26) := by rw [← hD]; exact kt
  clear hD bw
  (refine wpAnyH_take (i := 0) (v := ?_) rfl ?_ ?_ ?_ (fun _ _ _ h => h) (Or.inl ⟨?_, ?_⟩) ?_ ?_; rotate_left 1; (focus decide +kernel); (focus decide +kernel); (focus decide +kernel); (focus rfl); (focus (intro w hSw; (try dsimp only at hSw); go_simp; (try (with_reducible rfl)); done)); (focus assumption); (try simp only [Act.put, List.setIfInBounds_toArray, List.set_cons_zero, List.set_cons_succ, List.getElem_toArray, List.getElem_cons_succ, List.getElem_cons_zero]))
  (refine wpAnyH_take (i := 1) (v := ?_) rfl ?_ ?_ ?_ (fun _ _ _ h => h) (Or.inl ⟨?_, ?_⟩) ?_ ?_; rotate_left 1; (focus decide +kernel); (focus decide +kernel); (focus decide +kernel); (focus rfl); (focus (intro w hSw; (try dsimp only at hSw); go_simp; (try (with_reducible rfl)); done)); (focus assumption); (try simp only [Act.put, List.setIfInBounds_toArray, List.set_cons_zero, List.set_cons_succ, List.getElem_toArray, List.getElem_cons_succ, List.getElem_cons_zero]))
  (refine wpAnyH_take (i := 2) (v := ?_) rfl ?_ ?_ ?_ (fun _ _ _ h => h) (Or.inl ⟨?_, ?_⟩) ?_ ?_; rotate_left 1; (focus decide +kernel); (focus decide +kernel); (focus decide +kernel); (focus rfl); (focus (intro w hSw; (try dsimp only at hSw); go_simp; (try (with_reducible rfl)); done)); (focus assumption); (try simp only [Act.put, List.setIfInBounds_toArray, List.set_cons_zero, List.set_cons_succ, List.getElem_toArray, List.getElem_cons_succ, List.getElem_cons_zero]))
  (refine wpAnyH_take (i := 3) (v := ?_) rfl ?_ ?_ ?_ (fun _ _ _ h => h) (Or.inl ⟨?_, ?_⟩) ?_ ?_; rotate_left 1; (focus decide +kernel); (focus decide +kernel); (focus decide +kernel); (focus rfl); (focus (intro w hSw; (try dsimp only at hSw); go_simp; (try (with_reducible rfl)); done)); (focus assumption); (try simp only [Act.put, List.setIfInBounds_toArray, List.set_cons_zero, List.set_cons_succ, List.getElem_toArray, List.getElem_cons_succ, List.getElem_cons_zero]))
  (refine wpAnyH_take (i := 4) (v := ?_) rfl ?_ ?_ ?_ (fun _ _ _ h => h) (Or.inl ⟨?_, ?_⟩) ?_ ?_; rotate_left 1; (focus decide +kernel); (focus decide +kernel); (focus decide +kernel); (focus rfl); (focus (intro w hSw; (try dsimp only at hSw); go_simp; (try (with_reducible rfl)); done)); (focus assumption); (try simp only [Act.put, List.setIfInBounds_toArray, List.set_cons_zero, List.set_cons_succ, List.getElem_toArray, List.getElem_cons_succ, List.getElem_cons_zero]))
  (refine wpAnyH_take (i := 5) (v := ?_) rfl ?_ ?_ ?_ (fun _ _ _ h => h) (Or.inl ⟨?_, ?_⟩) ?_ ?_; rotate_left 1; (focus decide +kernel); (focus decide +kernel); (focus decide +kernel); (focus rfl); (focus (intro w hSw; (try dsimp only at hSw); go_simp; (try (with_reducible rfl)); done)); (focus assumption); (try simp only [Act.put, List.setIfInBounds_toArray, List.set_cons_zero, List.set_cons_succ, List.getElem_toArray, List.getElem_cons_succ, List.getElem_cons_zero]))
  (refine wpAnyH_take (i := 6) (v := ?_) rfl ?_ ?_ ?_ (fun _ _ _ h => h) (Or.inl ⟨?_, ?_⟩) ?_ ?_; rotate_left 1; (focus decide +kernel); (focus decide +kernel); (focus decide +kernel); (focus rfl); (focus (intro w hSw; (try dsimp only at hSw); go_simp; (try (with_reducible rfl)); done)); (focus assumption); (try simp only [Act.put, List.setIfInBounds_toArray, List.set_cons_zero, List.set_cons_succ, List.getElem_toArray, List.getElem_cons_succ, List.getElem_cons_zero]))
  (refine wpAnyH_take (i := 7) (v := ?_) rfl ?_ ?_ ?_ (fun _ _ _ h => h) (Or.inl ⟨?_, ?_⟩) ?_ ?_; rotate_left 1; (focus decide +kernel); (focus decide +kernel); (focus decide +kernel); (focus rfl); (focus (intro w hSw; (try dsimp only at hSw); go_simp; (try (with_reducible rfl)); done)); (focus assumption); (try simp only [Act.put, List.setIfInBounds_toArray, List.set_cons_zero, List.set_cons_succ, List.getElem_toArray, List.getElem_cons_succ, List.getElem_cons_zero]))
  (refine wpAnyH_take (i := 8) (v := ?_) rfl ?_ ?_ ?_ (fun _ _ _ h => h) (Or.inl ⟨?_, ?_⟩) ?_ ?_; rotate_left 1; (focus decide +kernel); (focus decide +kernel); (focus decide +kernel); (focus rfl); (focus (intro w hSw; (try dsimp only at hSw); go_simp; (try (with_reducible rfl)); done)); (focus assumption); (try simp only [Act.put, List.setIfInBounds_toArray, List.set_cons_zero, List.set_cons_succ, List.getElem_toArray, List.getElem_cons_succ, List.getElem_cons_zero]))
  (refine wpAnyH_take (i := 9) (v := ?_) rfl ?_ ?_ ?_ (fun _ _ _ h => h) (Or.inl ⟨?_, ?_⟩) ?_ ?_; rotate_left 1; (focus decide +kernel); (focus decide +kernel); (focus decide +kernel); (focus rfl); (focus (intro w hSw; (try dsimp only at hSw); go_simp; (try (with_reducible rfl)); done)); (focus assumption); (try simp only [Act.put, List.setIfInBounds_toArray, List.set_cons_zero, List.set_cons_succ, List.getElem_toArray, List.getElem_cons_succ, List.getElem_cons_zero]))
  (refine wpAnyH_take (i := 10) (v := ?_) rfl ?_ ?_ ?_ (fun _ _ _ h => h) (Or.inl ⟨?_, ?_⟩) ?_ ?_; rotate_left 1; (focus decide +kernel); (focus decide +kernel); (focus decide +kernel); (focus rfl); (focus (intro w hSw; (try dsimp only at hSw); go_simp; (try (with_reducible rfl)); done)); (focus assumption); (try simp only [Act.put, List.setIfInBounds_toArray, List.set_cons_zero, List.set_cons_succ, List.getElem_toArray, List.getElem_cons_succ, List.getElem_cons_zero]))
  (refine wpAnyH_take (i := 11) (v := ?_) rfl ?_ ?_ ?_ (fun _ _ _ h => h) (Or.inl ⟨?_, ?_⟩) ?_ ?_; rotate_left 1; (focus decide +kernel); (focus decide +kernel); (focus decide +kernel); (focus rfl); (focus (intro w hSw; (try dsimp only at hSw); go_simp; (try (with_reducible rfl)); done)); (focus assumption); (try simp only [Act.put, List.setIfInBounds_toArray, List.set_cons_zero, List.set_cons_succ, List.getElem_toArray, List.getElem_cons_succ, List.getElem_cons_zero]))
  (refine wpAnyH_take (i := 12) (v := ?_) rfl ?_ ?_ ?_ (fun _ _ _ h => h) (Or.inl ⟨?_, ?_⟩) ?_ ?_; rotate_left 1; (focus decide +kernel); (focus decide +kernel); (focus decide +kernel); (focus rfl); (focus (intro w hSw; (try dsimp only at hSw); go_simp; (try (with_reducible rfl)); done)); (focus assumption); (try simp only [Act.put, List.setIfInBounds_toArray, List.set_cons_zero, List.set_cons_succ, List.getElem_toArray, List.getElem_cons_succ, List.getElem_cons_zero]))
  (refine wpAnyH_take (i := 13) (v := ?_) rfl ?_ ?_ ?_ (fun _ _ _ h => h) (Or.inl ⟨?_, ?_⟩) ?_ ?_; rotate_left 1; (focus decide +kernel); (focus decide +kernel); (focus decide +kernel); (focus rfl); (focus (intro w hSw; (try dsimp only at hSw); go_simp; (try (with_reducible rfl)); done)); (focus assumption); (try simp only [Act.put, List.setIfInBounds_toArray, List.set_cons_zero, List.set_cons_succ, List.getElem_toArray, List.getElem_cons_succ, List.getElem_cons_zero]))
  refine wpAnyH_ready (rs := [14, 15]) ?_ (by simp) ?_
  · decide +kernel
  refine AllReadyH.cons rfl (fun K hK => ?_) (AllReadyH.cons rfl (fun K hK => ?_) AllReadyH.nil)
  · go_simp
    go_at_call 44
    refine (FNew.l04New HN.out HLE.out).mono ?_
    rintro e w3 ⟨b', rfl, ow, lo, bel⟩
    have hNTb : NT < b' := Nat.lt_of_lt_of_le (Array.getElem?_eq_some_iff.1 kt).1 lo
    replace kt := (bel.block NT (Array.getElem?_eq_some_iff.1 kt).1).trans kt
    have lob : w.heap.size ≤ b' := Nat.le_trans hHeld.1.size lo
    refine hK.out _ _ ?_ (fun hHeld2 => ?_)
    · (try dsimp only); exact next2_0 bel hHeld
    clear hK K hHeld bel lo
    have hHeld := hHeld2
    clear hHeld2
    (try simp only [Act.put, List.setIfInBounds_toArray, List.set_cons_zero, List.set_cons_succ, List.getElem_toArray, List.getElem_cons_succ, List.getElem_cons_zero])
    refine wpAnyH_ready (rs := [15]) ?_ (by simp) ?_
    · decide +kernel
    refine AllReadyH.cons rfl (fun K hK => ?_) AllReadyH.nil
    go_simp
    refine hK.out _ _ ?_ (fun hHeld2 => ?_)
    · (try dsimp only); exact next2_0 (below1 _ _) hHeld
    clear hK K
    obtain ⟨w5, hW5⟩ : ∃ w5, w5 = w3.alloc (Obj.cells #[.int .i64 0, .int .i64 0, .slice none 0 0] 26) := ⟨_, rfl⟩
    obtain ⟨NO, hO⟩ : ∃ NO, NO = w3.heap.size := ⟨_, rfl⟩
    have kO : w5.heap[NO]? = some (Obj.cells #[.int .i64 0, .int .i64 0, .slice none 0 0] 26) := by rw [hW5]; exact FNew.heap_top hO
    have hTO : NT < NO := by rw [hO]; exact (Array.getElem?_eq_some_iff.1 kt).1
    have bel : Below w3.heap.size w3 w5 := by rw [hW5]; exact below1 _ _
    replace kt := (bel.block NT (Array.getElem?_eq_some_iff.1 kt).1).trans kt
    have hNOb : NO ≠ b' := by rw [hO]; exact Nat.ne_of_gt ow.lt
    replace ow := ow.keep bel
    rw [← hW5] at hHeld2
    simp only [← hW5, ← hO]
    clear hHeld bel hW5 hO
    have hHeld := hHeld2
    clear hHeld2
    (try simp only [Act.put, List.setIfInBounds_toArray, List.set_cons_zero, List.set_cons_succ, List.getElem_toArray, List.getElem_cons_succ, List.getElem_cons_zero])
    refine wpAnyH_ready (rs := [16]) ?_ (by simp) ?_
    · decide +kernel
    refine AllReadyH.cons rfl (fun K hK => ?_) AllReadyH.nil
    have y0 : w5.cell? ⟨NO, 0, none⟩ = some (.int .i64 0) := Go.Joins.cell_of_block kO 0
    have y1 : w5.cell? ⟨NO, 1, none⟩ = some (.int .i64 0) := Go.Joins.cell_of_block kO 1
    have y2 : w5.cell? ⟨NO, 2, none⟩ = some (.slice none 0 0) := Go.Joins.cell_of_block kO 2
    have g0 : w5.frozen? ⟨NO, 0, none⟩ = false := Go.Joins.unfrozen_of_block kO 0
    have g1 : w5.frozen? ⟨NO, 1, none⟩ = false := Go.Joins.unfrozen_of_block kO 1
    have g2 : w5.frozen? ⟨NO, 2, none⟩ = false := Go.Joins.unfrozen_of_block kO 2
    have HKx := hid kO
    have HHx := hid hHeld
    have HTO := hid (And.intro hTO (And.intro hNOb (And.intro hNTb lob)))
    have HKt := hid kt
    have HOx := hid ow
    clear kO hTO hNOb hNTb lob kt ow
    go_simp
    obtain ⟨w4, hW⟩ : ∃ w4, w4 = (((w5.setCell ⟨NO, 0, none⟩ (.int .i64 R)).setCell ⟨NO, 1, none⟩ (.int .i64 C)).setCell ⟨NO, 2, none⟩ (.slice (some ⟨b', 0, none⟩) n n)) := ⟨_, rfl⟩
    have kO : w4.heap[NO]? = some (Obj.cells #[.int .i64 R, .int .i64 C, .slice (some ⟨b', 0, none⟩) n n] 26) := by rw [hW]; exact (Go.Joins.block_setCell (i := 2) (Go.Joins.block_setCell (i := 1) (Go.Joins.block_setCell (i := 0) HKx.out (.int .i64 R)) (.int .i64 C)) (.slice (some ⟨b', 0, none⟩) n n))
    have kT : w4.heap[NT]? = some (Obj.cells #[.int .i64 0, .int .i64 0, .slice none 0 0] 26) := by rw [hW]; exact ((Below.heap_setCell ((w5.setCell ⟨NO, 0, none⟩ (.int .i64 R)).setCell ⟨NO, 1, none⟩ (.int .i64 C)) ⟨NO, 2, none⟩ (.slice (some ⟨b', 0, none⟩) n n) NT (Nat.ne_of_lt HTO.out.1)).trans ((Below.heap_setCell (w5.setCell ⟨NO, 0, none⟩ (.int .i64 R)) ⟨NO, 1, none⟩ (.int .i64 C) NT (Nat.ne_of_lt HTO.out.1)).trans ((Below.heap_setCell w5 ⟨NO, 0, none⟩ (.int .i64 R) NT (Nat.ne_of_lt HTO.out.1)).trans HKt.out)))
    have ow : Own 2 w4 b' (.slice (some ⟨b', 0, none⟩) n n) (List.replicate n 0) := by rw [hW]; exact (own_set (own_set (own_set HOx.out ⟨NO, 0, none⟩ (.int .i64 R) HTO.out.2.1) ⟨NO, 1, none⟩ (.int .i64 C) HTO.out.2.1) ⟨NO, 2, none⟩ (.slice (some ⟨b', 0, none⟩) n n) HTO.out.2.1)
    have B4 : Below w.heap.size w w4 := by
      have h1 := HNT.out; have h2 := HTO.out.1
      rw [hW]
      exact ((HHx.out.1.setCell (by simp; omega) _).setCell (by simp; omega) _).setCell (by simp; omega) _
    refine hK.out _ _ ?_ (fun hHeld5 => ?_)
    · (try dsimp only); rw [← hW]; exact ⟨B4, cell_keep B4 HK.out.1, cell_keep B4 HK.out.2.1, B4.size⟩
    clear hK K hHeld5
    simp only [← hW]
    clear hW y0 y1 y2 g0 g1 g2 hHeld
    have HSX : Hid (Below w.heap.size w w4 ∧ w4.cell? ⟨N, 0, none⟩ = some (.int .i64 P) ∧ w4.cell? ⟨N, 1, none⟩ = some (.int .i64 Q) ∧ w4.cell? ⟨N, 2, none⟩ = some (.slice (some ⟨b2, off2, none⟩) m cap2) ∧ Rd w4 b2 (.slice (some ⟨b2, off2, none⟩) m cap2) ps ∧ w.heap.size ≤ w4.heap.size) := ⟨B4, cell_keep B4 HK.out.1, cell_keep B4 HK.out.2.1, cell_keep B4 HK.out.2.2, HH.out.keep B4 (Nat.le_refl _), B4.size⟩
    have HOW := hid ow
    have HKT := hid kT
    have HKO := hid kO
    have HAp := hid (show N < NT ∧ NT < b' ∧ NO ≠ b' ∧ w.heap.size ≤ b' from ⟨HNN.out.1, HTO.out.2.2.1, HTO.out.2.1, HTO.out.2.2.2⟩)
    clear ow kT kO B4
    (try simp only [Act.put, List.setIfInBounds_toArray, List.set_cons_zero, List.set_cons_succ, List.getElem_toArray, List.getElem_cons_succ, List.getElem_cons_zero])
    refine wpAnyH_done (by kernel_rfl) ?_ _
    go_wp2
    have HNe : Hid (N ≠ b') := by have := HAp.out; simp only [Hid]; omega
    have HCLX : Hid (∀ i, i < m → w4.cell? ⟨b2, off2 + i, none⟩ = some (.int .i64 (ps.getD i 0))) := fun i hi => (HSX.out.1.cell (p := ⟨b2, off2 + i, none⟩) HB2.out).trans (HCell2.out i hi)
    go_loopw [6] (fun i wr => ∃ p : Nat, p ≤ P ∧ i = .int .i64 p ∧ ∃ ys, AtG ys R C (pst ZS ps C Q D D p 0) ∧ Own 2 wr b' (.slice (some ⟨b', 0, none⟩) n n) ys ∧ w4.grownBy wr (some b')) (fun i _ => P - (intOf i).toNat)
    case atStart => exact ⟨0, Nat.zero_le _, rfl, ZS, pst_start (by rw [HZS.out, HN.out]; simp), by rw [HZS.out]; exact HOW.out, g_refl _ _⟩
    case round =>
      obtain ⟨p, hp, rfl, ys, hat, hown, hg⟩ := hrel
      have m0 := g_cell hg HSX.out.2.1 HNe.out
      have m1 := g_cell hg HSX.out.2.2.1 HNe.out
      have m2 := g_cell hg HSX.out.2.2.2.1 HNe.out
      have d0 := g_cell hg (Go.Joins.cell_of_block HKO.out 0) HAp.out.2.2.1
      have d1 := g_cell hg (Go.Joins.cell_of_block HKO.out 1) HAp.out.2.2.1
      have d2 := g_cell hg (Go.Joins.cell_of_block HKO.out 2) HAp.out.2.2.1
      by_cases hlt : p < P
      · have HO1 := hid hown
        have HG1 := hid hg
        have HAT1 := hid hat
        have hpi : (p : Int) < (P : Int) := by omega
        clear hown hg hat
        go_wp2
        clear m0 m1 m2 d0 d1 d2
        go_loopw [7] (fun k wx => ∃ q : Nat, q ≤ Q ∧ k = .int .i64 q ∧ ∃ ys, AtG ys R C (pst ZS ps C Q D D p q) ∧ Own 2 wx b' (.slice (some ⟨b', 0, none⟩) n n) ys ∧ w4.grownBy wx (some b')) (fun k _ => Q - (intOf k).toNat)
        case atStart => exact ⟨0, Nat.zero_le _, rfl, ys, HAT1.out, HO1.out, HG1.out⟩
        case round =>
          clear HO1 HG1 HAT1
          obtain ⟨q, hq2, rfl, ys, hat, hown, hg⟩ := hrel
          have m0 := g_cell hg HSX.out.2.1 HNe.out
          have m1 := g_cell hg HSX.out.2.2.1 HNe.out
          have m2 := g_cell hg HSX.out.2.2.2.1 HNe.out
          have d0 := g_cell hg (Go.Joins.cell_of_block HKO.out 0) HAp.out.2.2.1
          have d1 := g_cell hg (Go.Joins.cell_of_block HKO.out 1) HAp.out.2.2.1
          have d2 := g_cell hg (Go.Joins.cell_of_block HKO.out 2) HAp.out.2.2.1
          by_cases hlt2 : q < Q
          · obtain ⟨S, hS⟩ : ∃ S, S = p * Q + q := ⟨_, rfl⟩
            obtain ⟨T, hT⟩ : ∃ T, T = (D + p) * C + (D + q) := ⟨_, rfl⟩
            have hSn : S < m := by rw [hS, HMN.out]; exact pos_bd hlt hlt2
            have hk2 := HK2.out
            have hTn : T < n := by rw [hT, HN.out]; exact pos_bd (by omega) (by omega)
            obtain ⟨P1, hP1⟩ : ∃ P1, P1 = (D + p) * C := ⟨_, rfl⟩
            have hin : P1 + C ≤ n := by rw [hP1, HN.out]; exact Row.row_in (C := C) (show D + p < R by omega)
            have hle := HLE.out
            have e0 : IntKind.i64.wrap ((p : Int) + (D : Int)) = (p : Int) + (D : Int) := by rw [IntKind.wrap_i64]; omega
            have e1 : IntKind.i64.wrap (((p : Int) + (D : Int)) * (C : Int)) = (P1 : Int) := by rw [show ((p : Int) + (D : Int)) * (C : Int) = (P1 : Int) by rw [hP1, Nat.add_comm D p]; simp, IntKind.wrap_i64]; omega
            have e2 : IntKind.i64.wrap ((P1 : Int) + (q : Int)) = (P1 : Int) + (q : Int) := by rw [IntKind.wrap_i64]; omega
            have e3 : IntKind.i64.wrap ((P1 : Int) + (q : Int) + (D : Int)) = (T : Int) := by rw [IntKind.wrap_i64, hT, ← hP1]; omega
            have e4 := (wrap_pos (i := p) (C := Q) (k := q) (by have := HLE2.out; omega)).1
            have e5 := (wrap_pos (i := p) (C := Q) (k := q) (by have := HLE2.out; omega)).2
            rw [← hS] at e5
            obtain ⟨x, hx⟩ : ∃ x, x = ps.getD S 0 := ⟨_, rfl⟩
            have hcx : wr.cell? ⟨b2, off2 + S, none⟩ = some (.int .i64 x) := by rw [hx]; exact g_cell hg ((HCLX.out S hSn)) (Nat.ne_of_lt (Nat.lt_of_lt_of_le HB2.out HAp.out.2.2.2))
            have hox := hown.cell (i := T) (by rw [hat.1, ← HN.out]; exact hTn)
            have hof := hown.free T
            have HSt : Hid (AtG (ys.set T x) R C (pst ZS ps C Q D D p (q + 1))) := by
              have h1 := pst_set hat (by omega) (by omega) hlt2
              rw [← hT, ← hS, ← hx] at h1
              exact h1
            have HO2 := hid hown
            have HG2 := hid hg
            have hpi : (p : Int) < (P : Int) := by omega
            have hqi : (q : Int) < (Q : Int) := by omega
            obtain ⟨P2, hP2⟩ : ∃ P2, P2 = p * Q := ⟨_, rfl⟩
            rw [← hP2] at e4 e5
            clear hx hown hg hat hS hT hP1 hP2 hin hle hk2
            go_wp2_with fail
            go_still_tail 27, (by kernel_rfl)
            change wpList _ _ _ _ _ wr.drew
            have hoxd : wr.drew.cell? ⟨b', T, none⟩ = some (.int .i64 (ys.getD T 0)) := hox
            have hofd : wr.drew.frozen? ⟨b', T, none⟩ = false := hof
            obtain ⟨wd, hwd⟩ : ∃ wd, wd = wr.drew := ⟨_, rfl⟩
            have HG3 : Hid (w4.grownBy wd (some b')) := by rw [hwd]; exact g_drew HG2.out
            have HO3 : Hid (Own 2 wd b' (.slice (some ⟨b', 0, none⟩) n n) ys) := by rw [hwd]; exact HO2.out
            rw [← hwd] at hoxd hofd ⊢
            clear hwd hox hof hcx m0 m1 m2 d0 d1 d2
            go_wp2
            go_roundw
            case rel => exact ⟨q + 1, by omega, by go_num, _, HSt.out, HO3.out.set T _, g_set HG3.out T _⟩
            case measure => simp [intOf]; omega
          · have hqR : Q = q := by omega
            have HO2 := hid hown
            have HG2 := hid hg
            have HAT2 := hid hat
            clear hown hg hat
            subst hqR
            go_wp2
            go_roundw
            case rel => exact ⟨p + 1, by omega, by go_num, _, pst_row HAT2.out, HO2.out, HG2.out⟩
            case measure => simp [intOf]; omega
      · have hpC : P = p := by omega
        subst hpC
        rw [pst_end hat] at hown
        clear m1 m2
        have kTr := g_heap hg HKT.out (Nat.ne_of_lt HAp.out.2.1)
        have HB := hid (g_below HSX.out.1 hg HAp.out.2.2.2)
        have HLo : Hid (w.heap.size ≤ b') := HAp.out.2.2.2
        have HNB : Hid (NT ≠ b') := Nat.ne_of_lt HAp.out.2.1
        have HO := hid hown
        clear hown hg
        have y0 : wr.cell? ⟨NT, 0, none⟩ = some (.int .i64 0) := Go.Joins.cell_of_block kTr 0
        have y1 : wr.cell? ⟨NT, 1, none⟩ = some (.int .i64 0) := Go.Joins.cell_of_block kTr 1
        have y2 : wr.cell? ⟨NT, 2, none⟩ = some (.slice none 0 0) := Go.Joins.cell_of_block kTr 2
        have g0 : wr.frozen? ⟨NT, 0, none⟩ = false := Go.Joins.unfrozen_of_block kTr 0
        have g1 : wr.frozen? ⟨NT, 1, none⟩ = false := Go.Joins.unfrozen_of_block kTr 1
        have g2 : wr.frozen? ⟨NT, 2, none⟩ = false := Go.Joins.unfrozen_of_block kTr 2
        have HKx := hid kTr
        clear kTr
        go_wp2
        obtain ⟨W5, hW⟩ : ∃ W5, W5 = (((wr.setCell ⟨NT, 0, none⟩ (.int .i64 R)).setCell ⟨NT, 1, none⟩ (.int .i64 C)).setCell ⟨NT, 2, none⟩ (.slice (some ⟨b', 0, none⟩) n n)) := ⟨_, rfl⟩
        have q0 := (Go.Joins.block_setCell (i := 2) (Go.Joins.block_setCell (i := 1) (Go.Joins.block_setCell (i := 0) HKx.out (.int .i64 R)) (.int .i64 C)) (.slice (some ⟨b', 0, none⟩) n n))
        rw [← hW] at q0
        have z0 : W5.cell? ⟨NT, 0, none⟩ = some (.int .i64 R) := Go.Joins.cell_of_block q0 0
        have z1 : W5.cell? ⟨NT, 1, none⟩ = some (.int .i64 C) := Go.Joins.cell_of_block q0 1
        have z2 : W5.cell? ⟨NT, 2, none⟩ = some (.slice (some ⟨b', 0, none⟩) n n) := Go.Joins.cell_of_block q0 2
        have O5 := (own_set (own_set (own_set HO.out ⟨NT, 0, none⟩ (.int .i64 R) HNB.out) ⟨NT, 1, none⟩ (.int .i64 C) HNB.out) ⟨NT, 2, none⟩ (.slice (some ⟨b', 0, none⟩) n n) HNB.out)
        rw [← hW] at O5
        have B5 : Below w.heap.size w W5 := by
          have h1 := HNT.out
          rw [hW]
          exact ((HB.out.setCell (by simp; omega) _).setCell (by simp; omega) _).setCell (by simp; omega) _
        simp only [← hW]
        clear hW q0
        simp [bodyPost, results, Try.results52, go_sem, z0, z1, z2]
        exact ⟨by rw [← HZS.out]; exact O5, HLo.out, B5⟩
  · go_simp
    refine hK.out _ _ ?_ (fun hHeld2 => ?_)
    · (try dsimp only); exact next2_0 (below1 _ _) hHeld
    clear hK K
    obtain ⟨w5, hW5⟩ : ∃ w5, w5 = wD.alloc (Obj.cells #[.int .i64 0, .int .i64 0, .slice none 0 0] 26) := ⟨_, rfl⟩
    obtain ⟨NO, hO⟩ : ∃ NO, NO = wD.heap.size := ⟨_, rfl⟩
    have kO : w5.heap[NO]? = some (Obj.cells #[.int .i64 0, .int .i64 0, .slice none 0 0] 26) := by rw [hW5]; exact FNew.heap_top hO
    have hTO : NT < NO := by rw [hO]; exact (Array.getElem?_eq_some_iff.1 kt).1
    have bel : Below wD.heap.size wD w5 := by rw [hW5]; exact below1 _ _
    replace kt := (bel.block NT (Array.getElem?_eq_some_iff.1 kt).1).trans kt
    rw [← hW5] at hHeld2
    simp only [← hW5, ← hO]
    clear hHeld bel hW5 hO
    have hHeld := hHeld2
    clear hHeld2
    (try simp only [Act.put, List.setIfInBounds_toArray, List.set_cons_zero, List.set_cons_succ, List.getElem_toArray, List.getElem_cons_succ, List.getElem_cons_zero])
    refine wpAnyH_ready (rs := [14]) ?_ (by simp) ?_
    · decide +kernel
    refine AllReadyH.cons rfl (fun K hK => ?_) AllReadyH.nil
    go_simp
    go_at_call 44
    refine (FNew.l04New HN.out HLE.out).mono ?_
    rintro e w3 ⟨b', rfl, ow, lo, bel⟩
    have hNTb : NT < b' := Nat.lt_of_lt_of_le (Array.getElem?_eq_some_iff.1 kt).1 lo
    replace kt := (bel.block NT (Array.getElem?_eq_some_iff.1 kt).1).trans kt
    have lob : w.heap.size ≤ b' := Nat.le_trans hHeld.1.size lo
    have hNOb : NO ≠ b' := Nat.ne_of_lt (Nat.lt_of_lt_of_le (Array.getElem?_eq_some_iff.1 kO).1 lo)
    replace kO := (bel.block NO (Array.getElem?_eq_some_iff.1 kO).1).trans kO
    refine hK.out _ _ ?_ (fun hHeld2 => ?_)
    · (try dsimp only); exact next2_0 bel hHeld
    clear hK K hHeld bel lo
    have hHeld := hHeld2
    clear hHeld2
    (try simp only [Act.put, List.setIfInBounds_toArray, List.set_cons_zero, List.set_cons_succ, List.getElem_toArray, List.getElem_cons_succ, List.getElem_cons_zero])
    refine wpAnyH_ready (rs := [16]) ?_ (by simp) ?_
    · decide +kernel
    refine AllReadyH.cons rfl (fun K hK => ?_) AllReadyH.nil
    have y0 : w3.cell? ⟨NO, 0, none⟩ = some (.int .i64 0) := Go.Joins.cell_of_block kO 0
    have y1 : w3.cell? ⟨NO, 1, none⟩ = some (.int .i64 0) := Go.Joins.cell_of_block kO 1
    have y2 : w3.cell? ⟨NO, 2, none⟩ = some (.slice none 0 0) := Go.Joins.cell_of_block kO 2
    have g0 : w3.frozen? ⟨NO, 0, none⟩ = false := Go.Joins.unfrozen_of_block kO 0
    have g1 : w3.frozen? ⟨NO, 1, none⟩ = false := Go.Joins.unfrozen_of_block kO 1
    have g2 : w3.frozen? ⟨NO, 2, none⟩ = false := Go.Joins.unfrozen_of_block kO 2
    have HKx := hid kO
    have HHx := hid hHeld
    have HTO := hid (And.intro hTO (And.intro hNOb (And.intro hNTb lob)))
    have HKt := hid kt
    have HOx := hid ow
    clear kO hTO hNOb hNTb lob kt ow
    go_simp
    obtain ⟨w4, hW⟩ : ∃ w4, w4 = (((w3.setCell ⟨NO, 0, none⟩ (.int .i64 R)).setCell ⟨NO, 1, none⟩ (.int .i64 C)).setCell ⟨NO, 2, none⟩ (.slice (some ⟨b', 0, none⟩) n n)) := ⟨_, rfl⟩
    have kO : w4.heap[NO]? = some (Obj.cells #[.int .i64 R, .int .i64 C, .slice (some ⟨b', 0, none⟩) n n] 26) := by rw [hW]; exact (Go.Joins.block_setCell (i := 2) (Go.Joins.block_setCell (i := 1) (Go.Joins.block_setCell (i := 0) HKx.out (.int .i64 R)) (.int .i64 C)) (.slice (some ⟨b', 0, none⟩) n n))
    have kT : w4.heap[NT]? = some (Obj.cells #[.int .i64 0, .int .i64 0, .slice none 0 0] 26) := by rw [hW]; exact ((Below.heap_setCell ((w3.setCell ⟨NO, 0, none⟩ (.int .i64 R)).setCell ⟨NO, 1, none⟩ (.int .i64 C)) ⟨NO, 2, none⟩ (.slice (some ⟨b', 0, none⟩) n n) NT (Nat.ne_of_lt HTO.out.1)).trans ((Below.heap_setCell (w3.setCell ⟨NO, 0, none⟩ (.int .i64 R)) ⟨NO, 1, none⟩ (.int .i64 C) NT (Nat.ne_of_lt HTO.out.1)).trans ((Below.heap_setCell w3 ⟨NO, 0, none⟩ (.int .i64 R) NT (Nat.ne_of_lt HTO.out.1)).trans HKt.out)))
    have ow : Own 2 w4 b' (.slice (some ⟨b', 0, none⟩) n n) (List.replicate n 0) := by rw [hW]; exact (own_set (own_set (own_set HOx.out ⟨NO, 0, none⟩ (.int .i64 R) HTO.out.2.1) ⟨NO, 1, none⟩ (.int .i64 C) HTO.out.2.1) ⟨NO, 2, none⟩ (.slice (some ⟨b', 0, none⟩) n n) HTO.out.2.1)
    have B4 : Below w.heap.size w w4 := by
      have h1 := HNT.out; have h2 := HTO.out.1
      rw [hW]
      exact ((HHx.out.1.setCell (by simp; omega) _).setCell (by simp; omega) _).setCell (by simp; omega) _
    refine hK.out _ _ ?_ (fun hHeld5 => ?_)
    · (try dsimp only); rw [← hW]; exact ⟨B4, cell_keep B4 HK.out.1, cell_keep B4 HK.out.2.1, B4.size⟩
    clear hK K hHeld5
    simp only [← hW]
    clear hW y0 y1 y2 g0 g1 g2 hHeld
    have HSX : Hid (Below w.heap.size w w4 ∧ w4.cell? ⟨N, 0, none⟩ = some (.int .i64 P) ∧ w4.cell? ⟨N, 1, none⟩ = some (.int .i64 Q) ∧ w4.cell? ⟨N, 2, none⟩ = some (.slice (some ⟨b2, off2, none⟩) m cap2) ∧ Rd w4 b2 (.slice (some ⟨b2, off2, none⟩) m cap2) ps ∧ w.heap.size ≤ w4.heap.size) := ⟨B4, cell_keep B4 HK.out.1, cell_keep B4 HK.out.2.1, cell_keep B4 HK.out.2.2, HH.out.keep B4 (Nat.le_refl _), B4.size⟩
    have HOW := hid ow
    have HKT := hid kT
    have HKO := hid kO
    have HAp := hid (show N < NT ∧ NT < b' ∧ NO ≠ b' ∧ w.heap.size ≤ b' from ⟨HNN.out.1, HTO.out.2.2.1, HTO.out.2.1, HTO.out.2.2.2⟩)
    clear ow kT kO B4
    (try simp only [Act.put, List.setIfInBounds_toArray, List.set_cons_zero, List.set_cons_succ, List.getElem_toArray, List.getElem_cons_succ, List.getElem_cons_zero])
    refine wpAnyH_done (by kernel_rfl) ?_ _
    go_wp2
    have HNe : Hid (N ≠ b') := by have := HAp.out; simp only [Hid]; omega
    have HCLX : Hid (∀ i, i < m → w4.cell? ⟨b2, off2 + i, none⟩ = some (.int .i64 (ps.getD i 0))) := fun i hi => (HSX.out.1.cell (p := ⟨b2, off2 + i, none⟩) HB2.out).trans (HCell2.out i hi)
    go_loopw [6] (fun i wr => ∃ p : Nat, p ≤ P ∧ i = .int .i64 p ∧ ∃ ys, AtG ys R C (pst ZS ps C Q D D p 0) ∧ Own 2 wr b' (.slice (some ⟨b', 0, none⟩) n n) ys ∧ w4.grownBy wr (some b')) (fun i _ => P - (intOf i).toNat)
    case atStart => exact ⟨0, Nat.zero_le _, rfl, ZS, pst_start (by rw [HZS.out, HN.out]; simp), by rw [HZS.out]; exact HOW.out, g_refl _ _⟩
    case round =>
      obtain ⟨p, hp, rfl, ys, hat, hown, hg⟩ := hrel
      have m0 := g_cell hg HSX.out.2.1 HNe.out
      have m1 := g_cell hg HSX.out.2.2.1 HNe.out
      have m2 := g_cell hg HSX.out.2.2.2.1 HNe.out
      have d0 := g_cell hg (Go.Joins.cell_of_block HKO.out 0) HAp.out.2.2.1
      have d1 := g_cell hg (Go.Joins.cell_of_block HKO.out 1) HAp.out.2.2.1
      have d2 := g_cell hg (Go.Joins.cell_of_block HKO.out 2) HAp.out.2.2.1
      by_cases hlt : p < P
      · have HO1 := hid hown
        have HG1 := hid hg
        have HAT1 := hid hat
        have hpi : (p : Int) < (P : Int) := by omega
        clear hown hg hat
        go_wp2
        clear m0 m1 m2 d0 d1 d2
        go_loopw [7] (fun k wx => ∃ q : Nat, q ≤ Q ∧ k = .int .i64 q ∧ ∃ ys, AtG ys R C (pst ZS ps C Q D D p q) ∧ Own 2 wx b' (.slice (some ⟨b', 0, none⟩) n n) ys ∧ w4.grownBy wx (some b')) (fun k _ => Q - (intOf k).toNat)
        case atStart => exact ⟨0, Nat.zero_le _, rfl, ys, HAT1.out, HO1.out, HG1.out⟩
        case round =>
          clear HO1 HG1 HAT1
          obtain ⟨q, hq2, rfl, ys, hat, hown, hg⟩ := hrel
          have m0 := g_cell hg HSX.out.2.1 HNe.out
          have m1 := g_cell hg HSX.out.2.2.1 HNe.out
          have m2 := g_cell hg HSX.out.2.2.2.1 HNe.out
          have d0 := g_cell hg (Go.Joins.cell_of_block HKO.out 0) HAp.out.2.2.1
          have d1 := g_cell hg (Go.Joins.cell_of_block HKO.out 1) HAp.out.2.2.1
          have d2 := g_cell hg (Go.Joins.cell_of_block HKO.out 2) HAp.out.2.2.1
          by_cases hlt2 : q < Q
          · obtain ⟨S, hS⟩ : ∃ S, S = p * Q + q := ⟨_, rfl⟩
            obtain ⟨T, hT⟩ : ∃ T, T = (D + p) * C + (D + q) := ⟨_, rfl⟩
            have hSn : S < m := by rw [hS, HMN.out]; exact pos_bd hlt hlt2
            have hk2 := HK2.out
            have hTn : T < n := by rw [hT, HN.out]; exact pos_bd (by omega) (by omega)
            obtain ⟨P1, hP1⟩ : ∃ P1, P1 = (D + p) * C := ⟨_, rfl⟩
            have hin : P1 + C ≤ n := by rw [hP1, HN.out]; exact Row.row_in (C := C) (show D + p < R by omega)
            have hle := HLE.out
            have e0 : IntKind.i64.wrap ((p : Int) + (D : Int)) = (p : Int) + (D : Int) := by rw [IntKind.wrap_i64]; omega
            have e1 : IntKind.i64.wrap (((p : Int) + (D : Int)) * (C : Int)) = (P1 : Int) := by rw [show ((p : Int) + (D : Int)) * (C : Int) = (P1 : Int) by rw [hP1, Nat.add_comm D p]; simp, IntKind.wrap_i64]; omega
            have e2 : IntKind.i64.wrap ((P1 : Int) + (q : Int)) = (P1 : Int) + (q : Int) := by rw [IntKind.wrap_i64]; omega
            have e3 : IntKind.i64.wrap ((P1 : Int) + (q : Int) + (D : Int)) = (T : Int) := by rw [IntKind.wrap_i64, hT, ← hP1]; omega
            have e4 := (wrap_pos (i := p) (C := Q) (k := q) (by have := HLE2.out; omega)).1
            have e5 := (wrap_pos (i := p) (C := Q) (k := q) (by have := HLE2.out; omega)).2
            rw [← hS] at e5
            obtain ⟨x, hx⟩ : ∃ x, x = ps.getD S 0 := ⟨_, rfl⟩
            have hcx : wr.cell? ⟨b2, off2 + S, none⟩ = some (.int .i64 x) := by rw [hx]; exact g_cell hg ((HCLX.out S hSn)) (Nat.ne_of_lt (Nat.lt_of_lt_of_le HB2.out HAp.out.2.2.2))
            have hox := hown.cell (i := T) (by rw [hat.1, ← HN.out]; exact hTn)
            have hof := hown.free T
            have HSt : Hid (AtG (ys.set T x) R C (pst ZS ps C Q D D p (q + 1))) := by
              have h1 := pst_set hat (by omega) (by omega) hlt2
              rw [← hT, ← hS, ← hx] at h1
              exact h1
            have HO2 := hid hown
            have HG2 := hid hg
            have hpi : (p : Int) < (P : Int) := by omega
            have hqi : (q : Int) < (Q : Int) := by omega
            obtain ⟨P2, hP2⟩ : ∃ P2, P2 = p * Q := ⟨_, rfl⟩
            rw [← hP2] at e4 e5
            clear hx hown hg hat hS hT hP1 hP2 hin hle hk2
            go_wp2_with fail
            go_still_tail 27, (by kernel_rfl)
            change wpList _ _ _ _ _ wr.drew
            have hoxd : wr.drew.cell? ⟨b', T, none⟩ = some (.int .i64 (ys.getD T 0)) := hox
            have hofd : wr.drew.frozen? ⟨b', T, none⟩ = false := hof
            obtain ⟨wd, hwd⟩ : ∃ wd, wd = wr.drew := ⟨_, rfl⟩
            have HG3 : Hid (w4.grownBy wd (some b')) := by rw [hwd]; exact g_drew HG2.out
            have HO3 : Hid (Own 2 wd b' (.slice (some ⟨b', 0, none⟩) n n) ys) := by rw [hwd]; exact HO2.out
            rw [← hwd] at hoxd hofd ⊢
            clear hwd hox hof hcx m0 m1 m2 d0 d1 d2
            go_wp2
            go_roundw
            case rel => exact ⟨q + 1, by omega, by go_num, _, HSt.out, HO3.out.set T _, g_set HG3.out T _⟩
            case measure => simp [intOf]; omega
          · have hqR : Q = q := by omega
            have HO2 := hid hown
            have HG2 := hid hg
            have HAT2 := hid hat
            clear hown hg hat
            subst hqR
            go_wp2
            go_roundw
            case rel => exact ⟨p + 1, by omega, by go_num, _, pst_row HAT2.out, HO2.out, HG2.out⟩
            case measure => simp [intOf]; omega
      · have hpC : P = p := by omega
        subst hpC
        rw [pst_end hat] at hown
        clear m1 m2
        have kTr := g_heap hg HKT.out (Nat.ne_of_lt HAp.out.2.1)
        have HB := hid (g_below HSX.out.1 hg HAp.out.2.2.2)
        have HLo : Hid (w.heap.size ≤ b') := HAp.out.2.2.2
        have HNB : Hid (NT ≠ b') := Nat.ne_of_lt HAp.out.2.1
        have HO := hid hown
        clear hown hg
        have y0 : wr.cell? ⟨NT, 0, none⟩ = some (.int .i64 0) := Go.Joins.cell_of_block kTr 0
        have y1 : wr.cell? ⟨NT, 1, none⟩ = some (.int .i64 0) := Go.Joins.cell_of_block kTr 1
        have y2 : wr.cell? ⟨NT, 2, none⟩ = some (.slice none 0 0) := Go.Joins.cell_of_block kTr 2
        have g0 : wr.frozen? ⟨NT, 0, none⟩ = false := Go.Joins.unfrozen_of_block kTr 0
        have g1 : wr.frozen? ⟨NT, 1, none⟩ = false := Go.Joins.unfrozen_of_block kTr 1
        have g2 : wr.frozen? ⟨NT, 2, none⟩ = false := Go.Joins.unfrozen_of_block kTr 2
        have HKx := hid kTr
        clear kTr
        go_wp2
        obtain ⟨W5, hW⟩ : ∃ W5, W5 = (((wr.setCell ⟨NT, 0, none⟩ (.int .i64 R)).setCell ⟨NT, 1, none⟩ (.int .i64 C)).setCell ⟨NT, 2, none⟩ (.slice (some ⟨b', 0, none⟩) n n)) := ⟨_, rfl⟩
        have q0 := (Go.Joins.block_setCell (i := 2) (Go.Joins.block_setCell (i := 1) (Go.Joins.block_setCell (i := 0) HKx.out (.int .i64 R)) (.int .i64 C)) (.slice (some ⟨b', 0, none⟩) n n))
        rw [← hW] at q0
        have z0 : W5.cell? ⟨NT, 0, none⟩ = some (.int .i64 R) := Go.Joins.cell_of_block q0 0
        have z1 : W5.cell? ⟨NT, 1, none⟩ = some (.int .i64 C) := Go.Joins.cell_of_block q0 1
        have z2 : W5.cell? ⟨NT, 2, none⟩ = some (.slice (some ⟨b', 0, none⟩) n n) := Go.Joins.cell_of_block q0 2
        have O5 := (own_set (own_set (own_set HO.out ⟨NT, 0, none⟩ (.int .i64 R) HNB.out) ⟨NT, 1, none⟩ (.int .i64 C) HNB.out) ⟨NT, 2, none⟩ (.slice (some ⟨b', 0, none⟩) n n) HNB.out)
        rw [← hW] at O5
        have B5 : Below w.heap.size w W5 := by
          have h1 := HNT.out
          rw [hW]
          exact ((HB.out.setCell (by simp; omega) _).setCell (by simp; omega) _).setCell (by simp; omega) _
        simp only [← hW]
        clear hW q0
        simp [bodyPost, results, Try.results52, go_sem, z0, z1, z2]
        exact ⟨by rw [← HZS.out]; exact O5, HLo.out, B5⟩
set_option maxHeartbeats 4000000 in
theorem specNo1 {w : World} {s r d : Int} {b : Nat} {v : Value} {zs : List Int} (h : Rd w b v zs) (h1 : (fieldB s r zs && allB zs 2) = false) :
    Calls Try.prog 20 #[ruleV s r v, .int .i64 d] w fun e w' => e = .returned (.tuple #[ruleV 0 0 (.slice none 0 0), .bool false]) ∧ Below w.heap.size w w' := by
  have HH := hid h
  have HQ1 := hid h1
  obtain ⟨ao, cap, rfl, hc, hm, _⟩ := h
  clear hc hm h1
  go_enter Try.func20, Try.ntmps20
  go_wp2_with fail
  obtain ⟨w1, hW⟩ : ∃ w1, w1 = (w.alloc (Obj.cells #[.int .i64 s, .int .i64 r, .slice ao zs.length cap] 26)).alloc (Obj.cells #[.int .i64 0, .int .i64 0, .slice none 0 0] 26) := ⟨_, rfl⟩
  obtain ⟨N, hN⟩ : ∃ N, N = w.heap.size := ⟨_, rfl⟩
  obtain ⟨NT, hM⟩ : ∃ NT, NT = N + 1 := ⟨_, rfl⟩
  have st : Below w.heap.size w w1 ∧ w1.cell? ⟨N, 0, none⟩ = some (.int .i64 s) ∧ w1.cell? ⟨N, 1, none⟩ = some (.int .i64 r) ∧ w1.cell? ⟨N, 2, none⟩ = some (.slice ao zs.length cap) ∧ Rd w1 b (.slice ao zs.length cap) zs ∧ w.heap.size ≤ w1.heap.size := by
    rw [hW, hN]
    exact ⟨Go.Joins.below_alloc2 _ _ _, by simp, by simp, by simp, HH.out.keep (Go.Joins.below_alloc2 _ _ _) (Nat.le_refl _), by simp; omega⟩
  have kT : w1.heap[NT]? = some (Obj.cells #[.int .i64 0, .int .i64 0, .slice none 0 0] 26) := by rw [hW]; exact FNew.heap_top (by rw [hM, hN]; simp)
  have HNT : Hid (w.heap.size ≤ NT) := by simp only [Hid]; omega
  have HNN : Hid (NT = N + 1 ∧ N = w.heap.size) := ⟨hM, hN⟩
  simp only [← hW, ← hN, ← hM]
  clear hW hN hM
  go_at_call 49
  refine (Can.l04Plain (rd3_1_0 st) st.2.1 st.2.2.1 st.2.2.2.1).mono ?_
  rw [HQ1.out]
  rintro e w2 ⟨rfl, m, hw2⟩
  have bel : Below w1.heap.size w1 w2 := by rw [hw2]; exact FSpec.below_drewN' _ _ _
  clear hw2
  replace st := next3_1 bel st
  replace kT := (bel.block NT (Array.getElem?_eq_some_iff.1 kT).1).trans kT
  clear bel

  have HB := hid st.1
  have y0 : w2.cell? ⟨NT, 0, none⟩ = some (.int .i64 0) := Go.Joins.cell_of_block kT 0
  have y1 : w2.cell? ⟨NT, 1, none⟩ = some (.int .i64 0) := Go.Joins.cell_of_block kT 1
  have y2 : w2.cell? ⟨NT, 2, none⟩ = some (.slice none 0 0) := Go.Joins.cell_of_block kT 2
  have g0 : w2.frozen? ⟨NT, 0, none⟩ = false := Go.Joins.unfrozen_of_block kT 0
  have g1 : w2.frozen? ⟨NT, 1, none⟩ = false := Go.Joins.unfrozen_of_block kT 1
  have g2 : w2.frozen? ⟨NT, 2, none⟩ = false := Go.Joins.unfrozen_of_block kT 2
  have HKx := hid kT
  clear kT
  go_wp2
  obtain ⟨W5, hW⟩ : ∃ W5, W5 = (((w2.setCell ⟨NT, 0, none⟩ (.int .i64 0)).setCell ⟨NT, 1, none⟩ (.int .i64 0)).setCell ⟨NT, 2, none⟩ (.slice none 0 0)) := ⟨_, rfl⟩
  have q0 := (Go.Joins.block_setCell (i := 2) (Go.Joins.block_setCell (i := 1) (Go.Joins.block_setCell (i := 0) HKx.out (.int .i64 0)) (.int .i64 0)) (.slice none 0 0))
  rw [← hW] at q0
  have z0 : W5.cell? ⟨NT, 0, none⟩ = some (.int .i64 0) := Go.Joins.cell_of_block q0 0
  have z1 : W5.cell? ⟨NT, 1, none⟩ = some (.int .i64 0) := Go.Joins.cell_of_block q0 1
  have z2 : W5.cell? ⟨NT, 2, none⟩ = some (.slice none 0 0) := Go.Joins.cell_of_block q0 2
  have B5 : Below w.heap.size w W5 := by
    have h1 := HNT.out
    rw [hW]
    exact ((HB.out.setCell (by simp; omega) _).setCell (by simp; omega) _).setCell (by simp; omega) _
  simp only [← hW]
  clear hW q0
  simp [bodyPost, results, Try.results20, go_sem, z0, z1, z2]
  exact B5

set_option maxHeartbeats 4000000 in
theorem specNo2 {w : World} {s r d : Int} {b : Nat} {v : Value} {zs : List Int} (h : Rd w b v zs) (h1 : (fieldB s r zs && allB zs 2) = true) (h2 : decide (0 ≤ d ∧ d ≤ 24) = false) :
    Calls Try.prog 20 #[ruleV s r v, .int .i64 d] w fun e w' => e = .returned (.tuple #[ruleV 0 0 (.slice none 0 0), .bool false]) ∧ Below w.heap.size w w' := by
  have HH := hid h
  have HQ1 := hid h1
  have HQ2 := hid h2
  obtain ⟨ao, cap, rfl, hc, hm, _⟩ := h
  clear hc hm h1 h2
  go_enter Try.func20, Try.ntmps20
  go_wp2_with fail
  obtain ⟨w1, hW⟩ : ∃ w1, w1 = (w.alloc (Obj.cells #[.int .i64 s, .int .i64 r, .slice ao zs.length cap] 26)).alloc (Obj.cells #[.int .i64 0, .int .i64 0, .slice none 0 0] 26) := ⟨_, rfl⟩
  obtain ⟨N, hN⟩ : ∃ N, N = w.heap.size := ⟨_, rfl⟩
  obtain ⟨NT, hM⟩ : ∃ NT, NT = N + 1 := ⟨_, rfl⟩
  have st : Below w.heap.size w w1 ∧ w1.cell? ⟨N, 0, none⟩ = some (.int .i64 s) ∧ w1.cell? ⟨N, 1, none⟩ = some (.int .i64 r) ∧ w1.cell? ⟨N, 2, none⟩ = some (.slice ao zs.length cap) ∧ Rd w1 b (.slice ao zs.length cap) zs ∧ w.heap.size ≤ w1.heap.size := by
    rw [hW, hN]
    exact ⟨Go.Joins.below_alloc2 _ _ _, by simp, by simp, by simp, HH.out.keep (Go.Joins.below_alloc2 _ _ _) (Nat.le_refl _), by simp; omega⟩
  have kT : w1.heap[NT]? = some (Obj.cells #[.int .i64 0, .int .i64 0, .slice none 0 0] 26) := by rw [hW]; exact FNew.heap_top (by rw [hM, hN]; simp)
  have HNT : Hid (w.heap.size ≤ NT) := by simp only [Hid]; omega
  have HNN : Hid (NT = N + 1 ∧ N = w.heap.size) := ⟨hM, hN⟩
  simp only [← hW, ← hN, ← hM]
  clear hW hN hM
  go_at_call 49
  refine (Can.l04Plain (rd3_1_0 st) st.2.1 st.2.2.1 st.2.2.2.1).mono ?_
  rw [HQ1.out]
  rintro e w2 ⟨rfl, m, hw2⟩
  have bel : Below w1.heap.size w1 w2 := by rw [hw2]; exact FSpec.below_drewN' _ _ _
  clear hw2
  replace st := next3_1 bel st
  replace kT := (bel.block NT (Array.getElem?_eq_some_iff.1 kT).1).trans kT
  clear bel
  go_wp2_with fail
  go_at_call 50
  refine (FSpec.quietIn HQ2.out).mono ?_
  rintro e w2 ⟨rfl, rfl⟩

  have HB := hid st.1
  have y0 : w2.cell? ⟨NT, 0, none⟩ = some (.int .i64 0) := Go.Joins.cell_of_block kT 0
  have y1 : w2.cell? ⟨NT, 1, none⟩ = some (.int .i64 0) := Go.Joins.cell_of_block kT 1
  have y2 : w2.cell? ⟨NT, 2, none⟩ = some (.slice none 0 0) := Go.Joins.cell_of_block kT 2
  have g0 : w2.frozen? ⟨NT, 0, none⟩ = false := Go.Joins.unfrozen_of_block kT 0
  have g1 : w2.frozen? ⟨NT, 1, none⟩ = false := Go.Joins.unfrozen_of_block kT 1
  have g2 : w2.frozen? ⟨NT, 2, none⟩ = false := Go.Joins.unfrozen_of_block kT 2
  have HKx := hid kT
  clear kT
  go_wp2
  obtain ⟨W5, hW⟩ : ∃ W5, W5 = (((w2.setCell ⟨NT, 0, none⟩ (.int .i64 0)).setCell ⟨NT, 1, none⟩ (.int .i64 0)).setCell ⟨NT, 2, none⟩ (.slice none 0 0)) := ⟨_, rfl⟩
  have q0 := (Go.Joins.block_setCell (i := 2) (Go.Joins.block_setCell (i := 1) (Go.Joins.block_setCell (i := 0) HKx.out (.int .i64 0)) (.int .i64 0)) (.slice none 0 0))
  rw [← hW] at q0
  have z0 : W5.cell? ⟨NT, 0, none⟩ = some (.int .i64 0) := Go.Joins.cell_of_block q0 0
  have z1 : W5.cell? ⟨NT, 1, none⟩ = some (.int .i64 0) := Go.Joins.cell_of_block q0 1
  have z2 : W5.cell? ⟨NT, 2, none⟩ = some (.slice none 0 0) := Go.Joins.cell_of_block q0 2
  have B5 : Below w.heap.size w W5 := by
    have h1 := HNT.out
    rw [hW]
    exact ((HB.out.setCell (by simp; omega) _).setCell (by simp; omega) _).setCell (by simp; omega) _
  simp only [← hW]
  clear hW q0
  simp [bodyPost, results, Try.results20, go_sem, z0, z1, z2]
  exact B5

set_option maxHeartbeats 4000000 in
theorem specNo3 {w : World} {s r d : Int} {b : Nat} {v : Value} {zs : List Int} (h : Rd w b v zs) (h1 : (fieldB s r zs && allB zs 2) = true) (h2 : decide (0 ≤ d ∧ d ≤ 24) = true) (h3 : sidesB (s + 2 * d) (r + 2 * d) = false) :
    Calls Try.prog 20 #[ruleV s r v, .int .i64 d] w fun e w' => e = .returned (.tuple #[ruleV 0 0 (.slice none 0 0), .bool false]) ∧ Below w.heap.size w w' := by
  have HH := hid h
  have HQ1 := hid h1
  have HQ2 := hid h2
  have HQ3 := hid h3
  have HSB : Hid ((1 ≤ s ∧ s ≤ 24) ∧ (1 ≤ r ∧ r ≤ 24) ∧ 0 ≤ d ∧ d ≤ 24) := by
    have h1 := HQ1.out
    simp only [fieldB, Bool.and_eq_true] at h1
    have := h1.1.1
    simp [sidesB] at this
    have h2 := HQ2.out
    simp only [decide_eq_true_eq] at h2
    simp only [Hid]; omega
  have x0 : IntKind.i64.wrap (2 * d) = 2 * d := by have := HSB.out; rw [IntKind.wrap_i64]; omega
  have x1 : IntKind.i64.wrap (s + 2 * d) = s + 2 * d := by have := HSB.out; rw [IntKind.wrap_i64]; omega
  have x2 : IntKind.i64.wrap (r + 2 * d) = r + 2 * d := by have := HSB.out; rw [IntKind.wrap_i64]; omega
  obtain ⟨ao, cap, rfl, hc, hm, _⟩ := h
  clear hc hm h1 h2 h3
  go_enter Try.func20, Try.ntmps20
  go_wp2_with fail
  obtain ⟨w1, hW⟩ : ∃ w1, w1 = (w.alloc (Obj.cells #[.int .i64 s, .int .i64 r, .slice ao zs.length cap] 26)).alloc (Obj.cells #[.int .i64 0, .int .i64 0, .slice none 0 0] 26) := ⟨_, rfl⟩
  obtain ⟨N, hN⟩ : ∃ N, N = w.heap.size := ⟨_, rfl⟩
  obtain ⟨NT, hM⟩ : ∃ NT, NT = N + 1 := ⟨_, rfl⟩
  have st : Below w.heap.size w w1 ∧ w1.cell? ⟨N, 0, none⟩ = some (.int .i64 s) ∧ w1.cell? ⟨N, 1, none⟩ = some (.int .i64 r) ∧ w1.cell? ⟨N, 2, none⟩ = some (.slice ao zs.length cap) ∧ Rd w1 b (.slice ao zs.length cap) zs ∧ w.heap.size ≤ w1.heap.size := by
    rw [hW, hN]
    exact ⟨Go.Joins.below_alloc2 _ _ _, by simp, by simp, by simp, HH.out.keep (Go.Joins.below_alloc2 _ _ _) (Nat.le_refl _), by simp; omega⟩
  have kT : w1.heap[NT]? = some (Obj.cells #[.int .i64 0, .int .i64 0, .slice none 0 0] 26) := by rw [hW]; exact FNew.heap_top (by rw [hM, hN]; simp)
  have HNT : Hid (w.heap.size ≤ NT) := by simp only [Hid]; omega
  have HNN : Hid (NT = N + 1 ∧ N = w.heap.size) := ⟨hM, hN⟩
  simp only [← hW, ← hN, ← hM]
  clear hW hN hM
  go_at_call 49
  refine (Can.l04Plain (rd3_1_0 st) st.2.1 st.2.2.1 st.2.2.2.1).mono ?_
  rw [HQ1.out]
  rintro e w2 ⟨rfl, m, hw2⟩
  have bel : Below w1.heap.size w1 w2 := by rw [hw2]; exact FSpec.below_drewN' _ _ _
  clear hw2
  replace st := next3_1 bel st
  replace kT := (bel.block NT (Array.getElem?_eq_some_iff.1 kT).1).trans kT
  clear bel
  go_wp2_with fail
  go_at_call 50
  refine (FSpec.quietIn HQ2.out).mono ?_
  rintro e w2 ⟨rfl, rfl⟩
  have c0 := st.2.1
  have c1 := st.2.2.1
  go_wp2_with fail
  go_at_call 51
  refine l05Sides.mono ?_
  rw [HQ3.out]
  rintro e w3 ⟨rfl, rfl⟩
  clear c0 c1

  have HB := hid st.1
  have y0 : w2.cell? ⟨NT, 0, none⟩ = some (.int .i64 0) := Go.Joins.cell_of_block kT 0
  have y1 : w2.cell? ⟨NT, 1, none⟩ = some (.int .i64 0) := Go.Joins.cell_of_block kT 1
  have y2 : w2.cell? ⟨NT, 2, none⟩ = some (.slice none 0 0) := Go.Joins.cell_of_block kT 2
  have g0 : w2.frozen? ⟨NT, 0, none⟩ = false := Go.Joins.unfrozen_of_block kT 0
  have g1 : w2.frozen? ⟨NT, 1, none⟩ = false := Go.Joins.unfrozen_of_block kT 1
  have g2 : w2.frozen? ⟨NT, 2, none⟩ = false := Go.Joins.unfrozen_of_block kT 2
  have HKx := hid kT
  clear kT
  go_wp2
  obtain ⟨W5, hW⟩ : ∃ W5, W5 = (((w2.setCell ⟨NT, 0, none⟩ (.int .i64 0)).setCell ⟨NT, 1, none⟩ (.int .i64 0)).setCell ⟨NT, 2, none⟩ (.slice none 0 0)) := ⟨_, rfl⟩
  have q0 := (Go.Joins.block_setCell (i := 2) (Go.Joins.block_setCell (i := 1) (Go.Joins.block_setCell (i := 0) HKx.out (.int .i64 0)) (.int .i64 0)) (.slice none 0 0))
  rw [← hW] at q0
  have z0 : W5.cell? ⟨NT, 0, none⟩ = some (.int .i64 0) := Go.Joins.cell_of_block q0 0
  have z1 : W5.cell? ⟨NT, 1, none⟩ = some (.int .i64 0) := Go.Joins.cell_of_block q0 1
  have z2 : W5.cell? ⟨NT, 2, none⟩ = some (.slice none 0 0) := Go.Joins.cell_of_block q0 2
  have B5 : Below w.heap.size w W5 := by
    have h1 := HNT.out
    rw [hW]
    exact ((HB.out.setCell (by simp; omega) _).setCell (by simp; omega) _).setCell (by simp; omega) _
  simp only [← hW]
  clear hW q0
  simp [bodyPost, results, Try.results20, go_sem, z0, z1, z2]
  exact B5

set_option maxHeartbeats 4000000 in
theorem specOk {w : World} {P Q D R C n m : Nat} {b : Nat} {v : Value} {zs : List Int} (h : Rd w b v zs) (h1 : (fieldB P Q zs && allB zs 2) = true) (hm0 : m = P * Q) (hR : R = P + 2 * D) (hC : C = Q + 2 * D) (hn : n = R * C) (hle : R ≤ 24 ∧ C ≤ 24) :
    Calls Try.prog 20 #[ruleV P Q v, .int .i64 D] w fun e w' => ∃ b', e = .returned (.tuple #[ruleV R C (.slice (some ⟨b', 0, none⟩) n n), .bool true]) ∧ Own 2 w' b' (.slice (some ⟨b', 0, none⟩) n n) (pasteL (List.replicate n 0) zs R C P Q D D) ∧ w.heap.size ≤ b' ∧ Below w.heap.size w w' := by
  have hf : fieldB P Q zs = true := by simp only [Bool.and_eq_true] at h1; exact h1.1
  obtain ⟨hP, hQ, hl, hlf⟩ := field_nat hf
  have HF := hid hf
  have HQ1 := hid h1
  have HQ2 : Hid (decide (0 ≤ (D : Int) ∧ (D : Int) ≤ 24) = true) := by simp only [Hid, decide_eq_true_eq]; omega
  have HQ3 : Hid (sidesB (R : Int) (C : Int) = true) := by simp only [Hid, sidesB]; simp; omega
  have x0 : IntKind.i64.wrap (2 * (D : Int)) = 2 * (D : Int) := by rw [IntKind.wrap_i64]; omega
  have x1 : IntKind.i64.wrap ((P : Int) + 2 * (D : Int)) = (R : Int) := by rw [IntKind.wrap_i64]; omega
  have x2 : IntKind.i64.wrap ((Q : Int) + 2 * (D : Int)) = (C : Int) := by rw [IntKind.wrap_i64]; omega
  have HH := hid h
  have HN := hid hn
  have HM := hid hm0
  have HK := hid (And.intro hR (And.intro hC hle))
  have HLE : Hid (n ≤ 576) := by simp only [Hid]; rw [hn]; exact Nat.le_trans (Nat.mul_le_mul hle.1 hle.2) (by decide)
  have HPQ := hid (And.intro hP hQ)
  have hln : zs.length = m := by rw [hm0]; exact hl
  obtain ⟨ao, cap, rfl, hc, hm, _⟩ := h
  rw [hln] at HH ⊢
  have HLn := hid hln
  clear hc hm h1 hf hl hlf hP hQ hm0 hR hC hn hle hln
  go_enter Try.func20, Try.ntmps20
  go_wp2_with fail
  obtain ⟨w1, hW⟩ : ∃ w1, w1 = (w.alloc (Obj.cells #[.int .i64 P, .int .i64 Q, .slice ao m cap] 26)).alloc (Obj.cells #[.int .i64 0, .int .i64 0, .slice none 0 0] 26) := ⟨_, rfl⟩
  obtain ⟨N, hN⟩ : ∃ N, N = w.heap.size := ⟨_, rfl⟩
  obtain ⟨NT, hM⟩ : ∃ NT, NT = N + 1 := ⟨_, rfl⟩
  have st : Below w.heap.size w w1 ∧ w1.cell? ⟨N, 0, none⟩ = some (.int .i64 P) ∧ w1.cell? ⟨N, 1, none⟩ = some (.int .i64 Q) ∧ w1.cell? ⟨N, 2, none⟩ = some (.slice ao m cap) ∧ Rd w1 b (.slice ao m cap) zs ∧ w.heap.size ≤ w1.heap.size := by
    rw [hW, hN]
    exact ⟨Go.Joins.below_alloc2 _ _ _, by simp, by simp, by simp, HH.out.keep (Go.Joins.below_alloc2 _ _ _) (Nat.le_refl _), by simp; omega⟩
  have kT : w1.heap[NT]? = some (Obj.cells #[.int .i64 0, .int .i64 0, .slice none 0 0] 26) := by rw [hW]; exact FNew.heap_top (by rw [hM, hN]; simp)
  have HNT : Hid (w.heap.size ≤ NT) := by simp only [Hid]; omega
  have HNN : Hid (NT = N + 1 ∧ N = w.heap.size) := ⟨hM, hN⟩
  simp only [← hW, ← hN, ← hM]
  clear hW hN hM
  go_at_call 49
  refine (Can.l04Plain (rd3_1_0 st) st.2.1 st.2.2.1 st.2.2.2.1).mono ?_
  rw [HQ1.out]
  rintro e w2 ⟨rfl, m, hw2⟩
  have bel : Below w1.heap.size w1 w2 := by rw [hw2]; exact FSpec.below_drewN' _ _ _
  clear hw2
  replace st := next3_1 bel st
  replace kT := (bel.block NT (Array.getElem?_eq_some_iff.1 kT).1).trans kT
  clear bel
  go_wp2_with fail
  go_at_call 50
  refine (FSpec.quietIn HQ2.out).mono ?_
  rintro e w2 ⟨rfl, rfl⟩
  have c0 := st.2.1
  have c1 := st.2.2.1
  go_wp2_with fail
  go_at_call 51
  refine l05Sides.mono ?_
  rw [HQ3.out]
  rintro e w3 ⟨rfl, rfl⟩
  clear c0 c1
  go_wp2_with fail
  go_at_call 52
  refine (l05Grow st.2.1 st.2.2.1 st.2.2.2.1 (rd3_1_0 st) HF.out HM.out HK.out.1 HK.out.2.1 HN.out HK.out.2.2).mono ?_
  rintro e w4 ⟨b', rfl, ow, lo, bel⟩
  have HNB : Hid (NT ≠ b') := Nat.ne_of_lt (Nat.lt_of_lt_of_le (Array.getElem?_eq_some_iff.1 kT).1 lo)
  have HLo : Hid (w.heap.size ≤ b') := Nat.le_trans st.1.size lo
  have HB := hid (st.1.trans (bel.mono st.1.size))
  replace kT := (bel.block NT (Array.getElem?_eq_some_iff.1 kT).1).trans kT
  have HO := hid ow
  clear st ow lo bel
  have y0 : w4.cell? ⟨NT, 0, none⟩ = some (.int .i64 0) := Go.Joins.cell_of_block kT 0
  have y1 : w4.cell? ⟨NT, 1, none⟩ = some (.int .i64 0) := Go.Joins.cell_of_block kT 1
  have y2 : w4.cell? ⟨NT, 2, none⟩ = some (.slice none 0 0) := Go.Joins.cell_of_block kT 2
  have g0 : w4.frozen? ⟨NT, 0, none⟩ = false := Go.Joins.unfrozen_of_block kT 0
  have g1 : w4.frozen? ⟨NT, 1, none⟩ = false := Go.Joins.unfrozen_of_block kT 1
  have g2 : w4.frozen? ⟨NT, 2, none⟩ = false := Go.Joins.unfrozen_of_block kT 2
  have HKx := hid kT
  clear kT
  go_wp2
  obtain ⟨W5, hW⟩ : ∃ W5, W5 = (((w4.setCell ⟨NT, 0, none⟩ (.int .i64 R)).setCell ⟨NT, 1, none⟩ (.int .i64 C)).setCell ⟨NT, 2, none⟩ (.slice (some ⟨b', 0, none⟩) n n)) := ⟨_, rfl⟩
  have q0 := (Go.Joins.block_setCell (i := 2) (Go.Joins.block_setCell (i := 1) (Go.Joins.block_setCell (i := 0) HKx.out (.int .i64 R)) (.int .i64 C)) (.slice (some ⟨b', 0, none⟩) n n))
  rw [← hW] at q0
  have z0 : W5.cell? ⟨NT, 0, none⟩ = some (.int .i64 R) := Go.Joins.cell_of_block q0 0
  have z1 : W5.cell? ⟨NT, 1, none⟩ = some (.int .i64 C) := Go.Joins.cell_of_block q0 1
  have z2 : W5.cell? ⟨NT, 2, none⟩ = some (.slice (some ⟨b', 0, none⟩) n n) := Go.Joins.cell_of_block q0 2
  have O5 := (own_set (own_set (own_set HO.out ⟨NT, 0, none⟩ (.int .i64 R) HNB.out) ⟨NT, 1, none⟩ (.int .i64 C) HNB.out) ⟨NT, 2, none⟩ (.slice (some ⟨b', 0, none⟩) n n) HNB.out)
  rw [← hW] at O5
  have B5 : Below w.heap.size w W5 := by
    have h1 := HNT.out
    rw [hW]
    exact ((HB.out.setCell (by simp; omega) _).setCell (by simp; omega) _).setCell (by simp; omega) _
  simp only [← hW]
  clear hW q0
  simp [bodyPost, results, Try.results20, go_sem, z0, z1, z2]
  exact ⟨O5, HLo.out, B5⟩

set_option maxHeartbeats 4000000 in
theorem implNo1 {w : World} {s r d : Int} {b : Nat} {v : Value} {zs : List Int} (h : Rd w b v zs) (h1 : (fieldB s r zs && allB zs 2) = false) :
    Calls Try.prog 21 #[ruleV s r v, .int .i64 d] w fun e w' => e = .returned (.tuple #[ruleV 0 0 (.slice none 0 0), .bool false]) ∧ Below w.heap.size w w' := by
  have HH := hid h
  have HQ1 := hid h1
  obtain ⟨ao, cap, rfl, hc, hm, _⟩ := h
  clear hc hm h1
  go_enter Try.func21, Try.ntmps21
  go_wp2_with fail
  obtain ⟨w1, hW⟩ : ∃ w1, w1 = (w.alloc (Obj.cells #[.int .i64 s, .int .i64 r, .slice ao zs.length cap] 26)).alloc (Obj.cells #[.int .i64 0, .int .i64 0, .slice none 0 0] 26) := ⟨_, rfl⟩
  obtain ⟨N, hN⟩ : ∃ N, N = w.heap.size := ⟨_, rfl⟩
  obtain ⟨NT, hM⟩ : ∃ NT, NT = N + 1 := ⟨_, rfl⟩
  have st : Below w.heap.size w w1 ∧ w1.cell? ⟨N, 0, none⟩ = some (.int .i64 s) ∧ w1.cell? ⟨N, 1, none⟩ = some (.int .i64 r) ∧ w1.cell? ⟨N, 2, none⟩ = some (.slice ao zs.length cap) ∧ Rd w1 b (.slice ao zs.length cap) zs ∧ w.heap.size ≤ w1.heap.size := by
    rw [hW, hN]
    exact ⟨Go.Joins.below_alloc2 _ _ _, by simp, by simp, by simp, HH.out.keep (Go.Joins.below_alloc2 _ _ _) (Nat.le_refl _), by simp; omega⟩
  have kT : w1.heap[NT]? = some (Obj.cells #[.int .i64 0, .int .i64 0, .slice none 0 0] 26) := by rw [hW]; exact FNew.heap_top (by rw [hM, hN]; simp)
  have HNT : Hid (w.heap.size ≤ NT) := by simp only [Hid]; omega
  have HNN : Hid (NT = N + 1 ∧ N = w.heap.size) := ⟨hM, hN⟩
  simp only [← hW, ← hN, ← hM]
  clear hW hN hM
  go_at_call 53
  refine (Can.isPlain (rd3_1_0 st)).mono ?_
  rw [HQ1.out]
  rintro e w2 ⟨rfl, bel⟩
  replace st := next3_1 bel st
  replace kT := (bel.block NT (Array.getElem?_eq_some_iff.1 kT).1).trans kT
  clear bel

  have HB := hid st.1
  have y0 : w2.cell? ⟨NT, 0, none⟩ = some (.int .i64 0) := Go.Joins.cell_of_block kT 0
  have y1 : w2.cell? ⟨NT, 1, none⟩ = some (.int .i64 0) := Go.Joins.cell_of_block kT 1
  have y2 : w2.cell? ⟨NT, 2, none⟩ = some (.slice none 0 0) := Go.Joins.cell_of_block kT 2
  have g0 : w2.frozen? ⟨NT, 0, none⟩ = false := Go.Joins.unfrozen_of_block kT 0
  have g1 : w2.frozen? ⟨NT, 1, none⟩ = false := Go.Joins.unfrozen_of_block kT 1
  have g2 : w2.frozen? ⟨NT, 2, none⟩ = false := Go.Joins.unfrozen_of_block kT 2
  have HKx := hid kT
  clear kT
  go_wp2
  obtain ⟨W5, hW⟩ : ∃ W5, W5 = (((w2.setCell ⟨NT, 0, none⟩ (.int .i64 0)).setCell ⟨NT, 1, none⟩ (.int .i64 0)).setCell ⟨NT, 2, none⟩ (.slice none 0 0)) := ⟨_, rfl⟩
  have q0 := (Go.Joins.block_setCell (i := 2) (Go.Joins.block_setCell (i := 1) (Go.Joins.block_setCell (i := 0) HKx.out (.int .i64 0)) (.int .i64 0)) (.slice none 0 0))
  rw [← hW] at q0
  have z0 : W5.cell? ⟨NT, 0, none⟩ = some (.int .i64 0) := Go.Joins.cell_of_block q0 0
  have z1 : W5.cell? ⟨NT, 1, none⟩ = some (.int .i64 0) := Go.Joins.cell_of_block q0 1
  have z2 : W5.cell? ⟨NT, 2, none⟩ = some (.slice none 0 0) := Go.Joins.cell_of_block q0 2
  have B5 : Below w.heap.size w W5 := by
    have h1 := HNT.out
    rw [hW]
    exact ((HB.out.setCell (by simp; omega) _).setCell (by simp; omega) _).setCell (by simp; omega) _
  simp only [← hW]
  clear hW q0
  simp [bodyPost, results, Try.results21, go_sem, z0, z1, z2]
  exact B5

set_option maxHeartbeats 4000000 in
theorem implNo2 {w : World} {s r d : Int} {b : Nat} {v : Value} {zs : List Int} (h : Rd w b v zs) (h1 : (fieldB s r zs && allB zs 2) = true) (h2 : decide (0 ≤ d ∧ d ≤ 24) = false) :
    Calls Try.prog 21 #[ruleV s r v, .int .i64 d] w fun e w' => e = .returned (.tuple #[ruleV 0 0 (.slice none 0 0), .bool false]) ∧ Below w.heap.size w w' := by
  have HH := hid h
  have HQ1 := hid h1
  have HQ2 := hid h2
  obtain ⟨ao, cap, rfl, hc, hm, _⟩ := h
  clear hc hm h1 h2
  go_enter Try.func21, Try.ntmps21
  go_wp2_with fail
  obtain ⟨w1, hW⟩ : ∃ w1, w1 = (w.alloc (Obj.cells #[.int .i64 s, .int .i64 r, .slice ao zs.length cap] 26)).alloc (Obj.cells #[.int .i64 0, .int .i64 0, .slice none 0 0] 26) := ⟨_, rfl⟩
  obtain ⟨N, hN⟩ : ∃ N, N = w.heap.size := ⟨_, rfl⟩
  obtain ⟨NT, hM⟩ : ∃ NT, NT = N + 1 := ⟨_, rfl⟩
  have st : Below w.heap.size w w1 ∧ w1.cell? ⟨N, 0, none⟩ = some (.int .i64 s) ∧ w1.cell? ⟨N, 1, none⟩ = some (.int .i64 r) ∧ w1.cell? ⟨N, 2, none⟩ = some (.slice ao zs.length cap) ∧ Rd w1 b (.slice ao zs.length cap) zs ∧ w.heap.size ≤ w1.heap.size := by
    rw [hW, hN]
    exact ⟨Go.Joins.below_alloc2 _ _ _, by simp, by simp, by simp, HH.out.keep (Go.Joins.below_alloc2 _ _ _) (Nat.le_refl _), by simp; omega⟩
  have kT : w1.heap[NT]? = some (Obj.cells #[.int .i64 0, .int .i64 0, .slice none 0 0] 26) := by rw [hW]; exact FNew.heap_top (by rw [hM, hN]; simp)
  have HNT : Hid (w.heap.size ≤ NT) := by simp only [Hid]; omega
  have HNN : Hid (NT = N + 1 ∧ N = w.heap.size) := ⟨hM, hN⟩
  simp only [← hW, ← hN, ← hM]
  clear hW hN hM
  go_at_call 53
  refine (Can.isPlain (rd3_1_0 st)).mono ?_
  rw [HQ1.out]
  rintro e w2 ⟨rfl, bel⟩
  replace st := next3_1 bel st
  replace kT := (bel.block NT (Array.getElem?_eq_some_iff.1 kT).1).trans kT
  clear bel
  go_wp2_with fail
  go_at_call 54
  refine isCountB.mono ?_
  rw [HQ2.out]
  rintro e w5 ⟨rfl, rfl⟩

  have HB := hid st.1
  have y0 : w2.cell? ⟨NT, 0, none⟩ = some (.int .i64 0) := Go.Joins.cell_of_block kT 0
  have y1 : w2.cell? ⟨NT, 1, none⟩ = some (.int .i64 0) := Go.Joins.cell_of_block kT 1
  have y2 : w2.cell? ⟨NT, 2, none⟩ = some (.slice none 0 0) := Go.Joins.cell_of_block kT 2
  have g0 : w2.frozen? ⟨NT, 0, none⟩ = false := Go.Joins.unfrozen_of_block kT 0
  have g1 : w2.frozen? ⟨NT, 1, none⟩ = false := Go.Joins.unfrozen_of_block kT 1
  have g2 : w2.frozen? ⟨NT, 2, none⟩ = false := Go.Joins.unfrozen_of_block kT 2
  have HKx := hid kT
  clear kT
  go_wp2
  obtain ⟨W5, hW⟩ : ∃ W5, W5 = (((w2.setCell ⟨NT, 0, none⟩ (.int .i64 0)).setCell ⟨NT, 1, none⟩ (.int .i64 0)).setCell ⟨NT, 2, none⟩ (.slice none 0 0)) := ⟨_, rfl⟩
  have q0 := (Go.Joins.block_setCell (i := 2) (Go.Joins.block_setCell (i := 1) (Go.Joins.block_setCell (i := 0) HKx.out (.int .i64 0)) (.int .i64 0)) (.slice none 0 0))
  rw [← hW] at q0
  have z0 : W5.cell? ⟨NT, 0, none⟩ = some (.int .i64 0) := Go.Joins.cell_of_block q0 0
  have z1 : W5.cell? ⟨NT, 1, none⟩ = some (.int .i64 0) := Go.Joins.cell_of_block q0 1
  have z2 : W5.cell? ⟨NT, 2, none⟩ = some (.slice none 0 0) := Go.Joins.cell_of_block q0 2
  have B5 : Below w.heap.size w W5 := by
    have h1 := HNT.out
    rw [hW]
    exact ((HB.out.setCell (by simp; omega) _).setCell (by simp; omega) _).setCell (by simp; omega) _
  simp only [← hW]
  clear hW q0
  simp [bodyPost, results, Try.results21, go_sem, z0, z1, z2]
  exact B5

set_option maxHeartbeats 4000000 in
theorem implNo3 {w : World} {s r d : Int} {b : Nat} {v : Value} {zs : List Int} (h : Rd w b v zs) (h1 : (fieldB s r zs && allB zs 2) = true) (h2 : decide (0 ≤ d ∧ d ≤ 24) = true) (h3 : sidesB (s + 2 * d) (r + 2 * d) = false) :
    Calls Try.prog 21 #[ruleV s r v, .int .i64 d] w fun e w' => e = .returned (.tuple #[ruleV 0 0 (.slice none 0 0), .bool false]) ∧ Below w.heap.size w w' := by
  have HH := hid h
  have HQ1 := hid h1
  have HQ2 := hid h2
  have HQ3 := hid h3
  have HSB : Hid ((1 ≤ s ∧ s ≤ 24) ∧ (1 ≤ r ∧ r ≤ 24) ∧ 0 ≤ d ∧ d ≤ 24) := by
    have h1 := HQ1.out
    simp only [fieldB, Bool.and_eq_true] at h1
    have := h1.1.1
    simp [sidesB] at this
    have h2 := HQ2.out
    simp only [decide_eq_true_eq] at h2
    simp only [Hid]; omega
  have x0 : IntKind.i64.wrap (2 * d) = 2 * d := by have := HSB.out; rw [IntKind.wrap_i64]; omega
  have x1 : IntKind.i64.wrap (s + 2 * d) = s + 2 * d := by have := HSB.out; rw [IntKind.wrap_i64]; omega
  have x2 : IntKind.i64.wrap (r + 2 * d) = r + 2 * d := by have := HSB.out; rw [IntKind.wrap_i64]; omega
  obtain ⟨ao, cap, rfl, hc, hm, _⟩ := h
  clear hc hm h1 h2 h3
  go_enter Try.func21, Try.ntmps21
  go_wp2_with fail
  obtain ⟨w1, hW⟩ : ∃ w1, w1 = (w.alloc (Obj.cells #[.int .i64 s, .int .i64 r, .slice ao zs.length cap] 26)).alloc (Obj.cells #[.int .i64 0, .int .i64 0, .slice none 0 0] 26) := ⟨_, rfl⟩
  obtain ⟨N, hN⟩ : ∃ N, N = w.heap.size := ⟨_, rfl⟩
  obtain ⟨NT, hM⟩ : ∃ NT, NT = N + 1 := ⟨_, rfl⟩
  have st : Below w.heap.size w w1 ∧ w1.cell? ⟨N, 0, none⟩ = some (.int .i64 s) ∧ w1.cell? ⟨N, 1, none⟩ = some (.int .i64 r) ∧ w1.cell? ⟨N, 2, none⟩ = some (.slice ao zs.length cap) ∧ Rd w1 b (.slice ao zs.length cap) zs ∧ w.heap.size ≤ w1.heap.size := by
    rw [hW, hN]
    exact ⟨Go.Joins.below_alloc2 _ _ _, by simp, by simp, by simp, HH.out.keep (Go.Joins.below_alloc2 _ _ _) (Nat.le_refl _), by simp; omega⟩
  have kT : w1.heap[NT]? = some (Obj.cells #[.int .i64 0, .int .i64 0, .slice none 0 0] 26) := by rw [hW]; exact FNew.heap_top (by rw [hM, hN]; simp)
  have HNT : Hid (w.heap.size ≤ NT) := by simp only [Hid]; omega
  have HNN : Hid (NT = N + 1 ∧ N = w.heap.size) := ⟨hM, hN⟩
  simp only [← hW, ← hN, ← hM]
  clear hW hN hM
  go_at_call 53
  refine (Can.isPlain (rd3_1_0 st)).mono ?_
  rw [HQ1.out]
  rintro e w2 ⟨rfl, bel⟩
  replace st := next3_1 bel st
  replace kT := (bel.block NT (Array.getElem?_eq_some_iff.1 kT).1).trans kT
  clear bel
  go_wp2_with fail
  go_at_call 54
  refine isCountB.mono ?_
  rw [HQ2.out]
  rintro e w5 ⟨rfl, rfl⟩
  have c0 := st.2.1
  have c1 := st.2.2.1
  go_wp2_with fail
  go_at_call 55
  refine (FNew.implNo HQ3.out).mono ?_
  rintro e w3 ⟨rfl, bel⟩
  clear c0 c1
  replace st := next3_1 bel st
  replace kT := (bel.block NT (Array.getElem?_eq_some_iff.1 kT).1).trans kT
  clear bel
  have HB := hid (st.1.alloc st.1.size (Obj.cells #[.int .i64 0, .int .i64 0, .slice none 0 0] 26))
  replace kT := FNew.heap_old (o' := Obj.cells #[.int .i64 0, .int .i64 0, .slice none 0 0] 26) kT


  have y0 : (w3.alloc (Obj.cells #[.int .i64 0, .int .i64 0, .slice none 0 0] 26)).cell? ⟨NT, 0, none⟩ = some (.int .i64 0) := Go.Joins.cell_of_block kT 0
  have y1 : (w3.alloc (Obj.cells #[.int .i64 0, .int .i64 0, .slice none 0 0] 26)).cell? ⟨NT, 1, none⟩ = some (.int .i64 0) := Go.Joins.cell_of_block kT 1
  have y2 : (w3.alloc (Obj.cells #[.int .i64 0, .int .i64 0, .slice none 0 0] 26)).cell? ⟨NT, 2, none⟩ = some (.slice none 0 0) := Go.Joins.cell_of_block kT 2
  have g0 : (w3.alloc (Obj.cells #[.int .i64 0, .int .i64 0, .slice none 0 0] 26)).frozen? ⟨NT, 0, none⟩ = false := Go.Joins.unfrozen_of_block kT 0
  have g1 : (w3.alloc (Obj.cells #[.int .i64 0, .int .i64 0, .slice none 0 0] 26)).frozen? ⟨NT, 1, none⟩ = false := Go.Joins.unfrozen_of_block kT 1
  have g2 : (w3.alloc (Obj.cells #[.int .i64 0, .int .i64 0, .slice none 0 0] 26)).frozen? ⟨NT, 2, none⟩ = false := Go.Joins.unfrozen_of_block kT 2
  have HKx := hid kT
  clear kT
  go_wp2
  obtain ⟨W5, hW⟩ : ∃ W5, W5 = ((((w3.alloc (Obj.cells #[.int .i64 0, .int .i64 0, .slice none 0 0] 26)).setCell ⟨NT, 0, none⟩ (.int .i64 0)).setCell ⟨NT, 1, none⟩ (.int .i64 0)).setCell ⟨NT, 2, none⟩ (.slice none 0 0)) := ⟨_, rfl⟩
  have q0 := (Go.Joins.block_setCell (i := 2) (Go.Joins.block_setCell (i := 1) (Go.Joins.block_setCell (i := 0) HKx.out (.int .i64 0)) (.int .i64 0)) (.slice none 0 0))
  rw [← hW] at q0
  have z0 : W5.cell? ⟨NT, 0, none⟩ = some (.int .i64 0) := Go.Joins.cell_of_block q0 0
  have z1 : W5.cell? ⟨NT, 1, none⟩ = some (.int .i64 0) := Go.Joins.cell_of_block q0 1
  have z2 : W5.cell? ⟨NT, 2, none⟩ = some (.slice none 0 0) := Go.Joins.cell_of_block q0 2
  have B5 : Below w.heap.size w W5 := by
    have h1 := HNT.out
    rw [hW]
    exact ((HB.out.setCell (by simp; omega) _).setCell (by simp; omega) _).setCell (by simp; omega) _
  simp only [← hW]
  clear hW q0
  simp [bodyPost, results, Try.results21, go_sem, z0, z1, z2]
  exact B5

set_option maxHeartbeats 8000000 in
theorem implOk {w : World} {P Q D R C n m : Nat} {b : Nat} {v : Value} {zs : List Int} (h : Rd w b v zs) (h1 : (fieldB P Q zs && allB zs 2) = true) (hm0 : m = P * Q) (hR : R = P + 2 * D) (hC : C = Q + 2 * D) (hn : n = R * C) (hle : R ≤ 24 ∧ C ≤ 24) :
    Calls Try.prog 21 #[ruleV P Q v, .int .i64 D] w fun e w' => ∃ b' kk, e = .returned (.tuple #[ruleV R C (.slice (some ⟨b', 0, none⟩) n kk), .bool true]) ∧ Own 2 w' b' (.slice (some ⟨b', 0, none⟩) n kk) (pasteL (List.replicate n 0) zs R C P Q D D) ∧ w.heap.size ≤ b' ∧ Below w.heap.size w w' := by
  have hf : fieldB P Q zs = true := by simp only [Bool.and_eq_true] at h1; exact h1.1
  obtain ⟨hP, hQ, hl, hlf⟩ := field_nat hf
  have HF := hid hf
  have HQ1 := hid h1
  have HQ2 : Hid (decide (0 ≤ (D : Int) ∧ (D : Int) ≤ 24) = true) := by simp only [Hid, decide_eq_true_eq]; omega
  have HQ3 : Hid (sidesB (R : Int) (C : Int) = true) := by simp only [Hid, sidesB]; simp; omega
  have x0 : IntKind.i64.wrap (2 * (D : Int)) = 2 * (D : Int) := by rw [IntKind.wrap_i64]; omega
  have x1 : IntKind.i64.wrap ((P : Int) + 2 * (D : Int)) = (R : Int) := by rw [IntKind.wrap_i64]; omega
  have x2 : IntKind.i64.wrap ((Q : Int) + 2 * (D : Int)) = (C : Int) := by rw [IntKind.wrap_i64]; omega
  have HH := hid h
  have HN := hid hn
  have HM := hid hm0
  have HK := hid (And.intro hR (And.intro hC hle))
  have HLE : Hid (n ≤ 576) := by simp only [Hid]; rw [hn]; exact Nat.le_trans (Nat.mul_le_mul hle.1 hle.2) (by decide)
  have HPQ := hid (And.intro hP hQ)
  have hln : zs.length = m := by rw [hm0]; exact hl
  obtain ⟨ao, cap, rfl, hc, hm, _⟩ := h
  rw [hln] at HH ⊢
  have HLn := hid hln
  clear hc hm h1 hf hl hlf hP hQ hm0 hR hC hn hle hln
  go_enter Try.func21, Try.ntmps21
  go_wp2_with fail
  obtain ⟨w1, hW⟩ : ∃ w1, w1 = (w.alloc (Obj.cells #[.int .i64 P, .int .i64 Q, .slice ao m cap] 26)).alloc (Obj.cells #[.int .i64 0, .int .i64 0, .slice none 0 0] 26) := ⟨_, rfl⟩
  obtain ⟨N, hN⟩ : ∃ N, N = w.heap.size := ⟨_, rfl⟩
  obtain ⟨NT, hM⟩ : ∃ NT, NT = N + 1 := ⟨_, rfl⟩
  have st : Below w.heap.size w w1 ∧ w1.cell? ⟨N, 0, none⟩ = some (.int .i64 P) ∧ w1.cell? ⟨N, 1, none⟩ = some (.int .i64 Q) ∧ w1.cell? ⟨N, 2, none⟩ = some (.slice ao m cap) ∧ Rd w1 b (.slice ao m cap) zs ∧ w.heap.size ≤ w1.heap.size := by
    rw [hW, hN]
    exact ⟨Go.Joins.below_alloc2 _ _ _, by simp, by simp, by simp, HH.out.keep (Go.Joins.below_alloc2 _ _ _) (Nat.le_refl _), by simp; omega⟩
  have kT : w1.heap[NT]? = some (Obj.cells #[.int .i64 0, .int .i64 0, .slice none 0 0] 26) := by rw [hW]; exact FNew.heap_top (by rw [hM, hN]; simp)
  have HNT : Hid (w.heap.size ≤ NT) := by simp only [Hid]; omega
  have HNN : Hid (NT = N + 1 ∧ N = w.heap.size) := ⟨hM, hN⟩
  simp only [← hW, ← hN, ← hM]
  clear hW hN hM
  go_at_call 53
  refine (Can.isPlain (rd3_1_0 st)).mono ?_
  rw [HQ1.out]
  rintro e w2 ⟨rfl, bel⟩
  replace st := next3_1 bel st
  replace kT := (bel.block NT (Array.getElem?_eq_some_iff.1 kT).1).trans kT
  clear bel
  go_wp2_with fail
  go_at_call 54
  refine isCountB.mono ?_
  rw [HQ2.out]
  rintro e w5 ⟨rfl, rfl⟩
  have c0 := st.2.1
  have c1 := st.2.2.1
  go_wp2_with fail
  go_at_call 55
  refine (FNew.implOk HQ3.out HN.out HLE.out).mono ?_
  rintro e w3 ⟨bg, rfl, og, log, bel⟩
  clear c0 c1
  replace st := next3_1 bel st
  replace kT := (bel.block NT (Array.getElem?_eq_some_iff.1 kT).1).trans kT
  clear bel log
  have cx0 : (w3.alloc (Obj.cells #[.int .i64 R, .int .i64 C, .slice (some ⟨bg, 0, none⟩) n n] 26)).cell? ⟨N, 0, none⟩ = some (.int .i64 P) := cell_keep (below1 _ _) st.2.1
  have cx1 : (w3.alloc (Obj.cells #[.int .i64 R, .int .i64 C, .slice (some ⟨bg, 0, none⟩) n n] 26)).cell? ⟨N, 1, none⟩ = some (.int .i64 Q) := cell_keep (below1 _ _) st.2.2.1
  have cx2 : (w3.alloc (Obj.cells #[.int .i64 R, .int .i64 C, .slice (some ⟨bg, 0, none⟩) n n] 26)).cell? ⟨N, 2, none⟩ = some (.slice ao m cap) := cell_keep (below1 _ _) st.2.2.2.1
  have HST := hid st
  have HKT := hid kT
  clear st kT
  go_wp2_with fail
  clear cx0 cx1 cx2
  obtain ⟨w4, hW⟩ : ∃ w4, w4 = w3.alloc (Obj.cells #[.int .i64 R, .int .i64 C, .slice (some ⟨bg, 0, none⟩) n n] 26) := ⟨_, rfl⟩
  have bel : Below w3.heap.size w3 w4 := by rw [hW]; exact below1 _ _
  have st := next3_1 bel HST.out
  have kT := (bel.block NT (Array.getElem?_eq_some_iff.1 HKT.out).1).trans HKT.out
  replace og := og.keep bel
  simp only [← hW]
  clear hW bel
  go_at_call 56
  refine (FPstI.implOk og.rd (rd3_1_0 st) (field_rep HQ3.out HN.out) HF.out HN.out HM.out (by have := HK.out; omega)).mono ?_
  rintro e w6 ⟨b', kk, rfl, ow, lo, bel⟩
  have HNB : Hid (NT ≠ b') := Nat.ne_of_lt (Nat.lt_of_lt_of_le (Array.getElem?_eq_some_iff.1 kT).1 lo)
  have HLo : Hid (w.heap.size ≤ b') := Nat.le_trans st.1.size lo
  have HB := hid (st.1.trans (bel.mono st.1.size))
  replace kT := (bel.block NT (Array.getElem?_eq_some_iff.1 kT).1).trans kT
  have HO := hid ow
  clear st ow lo bel og HST HKT
  have y0 : w6.cell? ⟨NT, 0, none⟩ = some (.int .i64 0) := Go.Joins.cell_of_block kT 0
  have y1 : w6.cell? ⟨NT, 1, none⟩ = some (.int .i64 0) := Go.Joins.cell_of_block kT 1
  have y2 : w6.cell? ⟨NT, 2, none⟩ = some (.slice none 0 0) := Go.Joins.cell_of_block kT 2
  have g0 : w6.frozen? ⟨NT, 0, none⟩ = false := Go.Joins.unfrozen_of_block kT 0
  have g1 : w6.frozen? ⟨NT, 1, none⟩ = false := Go.Joins.unfrozen_of_block kT 1
  have g2 : w6.frozen? ⟨NT, 2, none⟩ = false := Go.Joins.unfrozen_of_block kT 2
  have HKx := hid kT
  clear kT
  go_wp2
  obtain ⟨W5, hW⟩ : ∃ W5, W5 = (((w6.setCell ⟨NT, 0, none⟩ (.int .i64 R)).setCell ⟨NT, 1, none⟩ (.int .i64 C)).setCell ⟨NT, 2, none⟩ (.slice (some ⟨b', 0, none⟩) n kk)) := ⟨_, rfl⟩
  have q0 := (Go.Joins.block_setCell (i := 2) (Go.Joins.block_setCell (i := 1) (Go.Joins.block_setCell (i := 0) HKx.out (.int .i64 R)) (.int .i64 C)) (.slice (some ⟨b', 0, none⟩) n kk))
  rw [← hW] at q0
  have z0 : W5.cell? ⟨NT, 0, none⟩ = some (.int .i64 R) := Go.Joins.cell_of_block q0 0
  have z1 : W5.cell? ⟨NT, 1, none⟩ = some (.int .i64 C) := Go.Joins.cell_of_block q0 1
  have z2 : W5.cell? ⟨NT, 2, none⟩ = some (.slice (some ⟨b', 0, none⟩) n kk) := Go.Joins.cell_of_block q0 2
  have O5 := (own_set (own_set (own_set HO.out ⟨NT, 0, none⟩ (.int .i64 R) HNB.out) ⟨NT, 1, none⟩ (.int .i64 C) HNB.out) ⟨NT, 2, none⟩ (.slice (some ⟨b', 0, none⟩) n kk) HNB.out)
  rw [← hW] at O5
  have B5 : Below w.heap.size w W5 := by
    have h1 := HNT.out
    rw [hW]
    exact ((HB.out.setCell (by simp; omega) _).setCell (by simp; omega) _).setCell (by simp; omega) _
  simp only [← hW]
  clear hW q0
  simp [bodyPost, results, Try.results21, go_sem, z0, z1, z2]
  exact ⟨b', kk, by simp, O5, HLo.out, B5⟩

theorem agree (s r : Int) (zs : List Int) (d : Int) : ∃ (qs qr : Int) (rs : List Int) (ok : Bool), rs.length ≤ 1000000 ∧
    (∀ (w : World) (b : Nat) (v : Value), Rd w b v zs → Calls Try.prog 20 #[ruleV s r v, .int .i64 d] w fun e w' => ∃ ao c b', e = .returned (.tuple #[ruleV qs qr (.slice ao rs.length c), .bool ok]) ∧ Own 2 w' b' (.slice ao rs.length c) rs ∧ w.heap.size ≤ b' ∧ Below w.heap.size w w') ∧
    (∀ (w : World) (b : Nat) (v : Value), Rd w b v zs → Calls Try.prog 21 #[ruleV s r v, .int .i64 d] w fun e w' => ∃ ao c b', e = .returned (.tuple #[ruleV qs qr (.slice ao rs.length c), .bool ok]) ∧ Own 2 w' b' (.slice ao rs.length c) rs ∧ w.heap.size ≤ b' ∧ Below w.heap.size w w') := by
  have fail : ∀ {w w' : World} {e : Ending}, e = .returned (.tuple #[ruleV 0 0 (.slice none 0 0), .bool false]) ∧ Below w.heap.size w w' → ∃ ao c b', e = .returned (.tuple #[ruleV 0 0 (.slice ao ([] : List Int).length c), .bool false]) ∧ Own 2 w' b' (.slice ao ([] : List Int).length c) [] ∧ w.heap.size ≤ b' ∧ Below w.heap.size w w' := by
    rintro w w' e ⟨rfl, bel⟩
    exact ⟨none, 0, w.heap.size, rfl, Own.nil _ _ _, Nat.le_refl _, bel⟩
  cases q1 : (fieldB s r zs && allB zs 2) with
  | false => exact ⟨0, 0, [], false, by simp, fun w b v h => (specNo1 h q1).mono fun _ _ => fail, fun w b v h => (implNo1 h q1).mono fun _ _ => fail⟩
  | true =>
    cases q2 : decide (0 ≤ d ∧ d ≤ 24) with
    | false => exact ⟨0, 0, [], false, by simp, fun w b v h => (specNo2 h q1 q2).mono fun _ _ => fail, fun w b v h => (implNo2 h q1 q2).mono fun _ _ => fail⟩
    | true =>
      cases q3 : sidesB (s + 2 * d) (r + 2 * d) with
      | false => exact ⟨0, 0, [], false, by simp, fun w b v h => (specNo3 h q1 q2 q3).mono fun _ _ => fail, fun w b v h => (implNo3 h q1 q2 q3).mono fun _ _ => fail⟩
      | true =>
        have hf : fieldB s r zs = true := by simp only [Bool.and_eq_true] at q1; exact q1.1
        have hb : (1 ≤ s ∧ s ≤ 24) ∧ 1 ≤ r ∧ r ≤ 24 := by
          have hq2 := hf
          simp only [fieldB, Bool.and_eq_true] at hq2
          have := hq2.1
          simp [sidesB] at this; omega
        have hd := of_decide_eq_true q2
        have h3 : (1 ≤ s + 2 * d ∧ s + 2 * d ≤ 24) ∧ 1 ≤ r + 2 * d ∧ r + 2 * d ≤ 24 := by simp [sidesB] at q3; omega
        obtain ⟨P, rfl⟩ := Int.eq_ofNat_of_zero_le (show 0 ≤ s by omega)
        obtain ⟨Q, rfl⟩ := Int.eq_ofNat_of_zero_le (show 0 ≤ r by omega)
        obtain ⟨D, rfl⟩ := Int.eq_ofNat_of_zero_le (show 0 ≤ d by omega)
        have hle : P + 2 * D ≤ 24 ∧ Q + 2 * D ≤ 24 := by omega
        have hlen : (pasteL (List.replicate ((P + 2 * D) * (Q + 2 * D)) 0) zs (P + 2 * D) (Q + 2 * D) P Q D D).length = (P + 2 * D) * (Q + 2 * D) := by unfold pasteL; rw [grid_len]
        have h5 : (P + 2 * D) * (Q + 2 * D) ≤ 24 * 24 := Nat.mul_le_mul hle.1 hle.2
        refine ⟨(P + 2 * D : Nat), (Q + 2 * D : Nat), _, true, by rw [hlen]; omega, fun w b v h => (specOk h q1 rfl rfl rfl rfl hle).mono ?_, fun w b v h => (implOk h q1 rfl rfl rfl rfl hle).mono ?_⟩
        · rintro e w' ⟨b', rfl, ow, lo, bel⟩
          exact ⟨some ⟨b', 0, none⟩, _, b', by rw [hlen], by rw [hlen]; exact ow, lo, bel⟩
        · rintro e w' ⟨b', kk, rfl, ow, lo, bel⟩
          exact ⟨some ⟨b', 0, none⟩, kk, b', by rw [hlen], by rw [hlen]; exact ow, lo, bel⟩

end Go.Proofs.Ytmbimekndhcgaaa.Gw
