/- ShiftField of both sides. -/
import Derived.Test.YtcdbbbifdidpdaaGrow
import Derived.Test.YtcdbbbifdidpdaaCopy
import Derived.Test.YtcdbbbifdidpdaaRnd
import Derived.Test.YtcdbbbifdidpdaaRot
namespace Go.Proofs.Ytcdbbbifdidpdaa.FSh
open Go.RowKit Go.Proofs.Ytcdbbbifdidpdaa.Rd Go.Proofs.Ytcdbbbifdidpdaa.Help Go.Proofs.Ytcdbbbifdidpdaa.Ring Go.Proofs.Ytcdbbbifdidpdaa.Small Go.Proofs.Ytcdbbbifdidpdaa.FVal Go.Proofs.Ytcdbbbifdidpdaa.Keep Go.Proofs.Ytcdbbbifdidpdaa.Rule Go.Proofs.Ytcdbbbifdidpdaa.Grow Go.Proofs.Ytcdbbbifdidpdaa.Copy Go.Proofs.Ytcdbbbifdidpdaa.Rnd
set_option linter.unusedVariables false
set_option linter.unusedSimpArgs false

/-- The place from which a shifted cell comes. -/
def shS (R C : Nat) (sr sc : Int) (i k : Nat) : Nat := (((i : Int) - sr) % (R : Int)).toNat * C + (((k : Int) - sc) % (C : Int)).toNat
/-- The cells of a shifted field. -/
def shL (zs : List Int) (R C : Nat) (sr sc : Int) : List Int := grid R C fun i k => zs.getD (shS R C sr sc i k) 0
theorem shS_lt {R C : Nat} (sr sc : Int) (i k : Nat) (hR : 1 ≤ R) (hC : 1 ≤ C) : shS R C sr sc i k < R * C := pos_bd (rnd_lt _ hR).2 (rnd_lt _ hC).2

theorem l04RoundQ {w : World} {g R C S p q : Nat} {sr sc : Int} (c0 : w.cell? ⟨g, 0, none⟩ = some (.int .i64 R)) (c1 : w.cell? ⟨g, 1, none⟩ = some (.int .i64 C)) (hR : 1 ≤ R ∧ R ≤ 24) (hC : 1 ≤ C ∧ C ≤ 24) (hx : -24 ≤ sr ∧ sr ≤ 24) (hy : -24 ≤ sc ∧ sc ≤ 24) (hp : p ≤ 24) (hq : q ≤ 24) (hS : S = shS R C sr sc p q) :
    Calls Try.prog 85 #[.pointer (some ⟨g, 0, none⟩), .int .i64 ((p : Int) - sr), .int .i64 ((q : Int) - sc)] w fun e w' => e = .returned (.int .i64 (S : Int)) ∧ Below w.heap.size w w' := by
  refine (l04Round c0 c1 hR hC (by omega) (by omega)).mono ?_
  rintro e w' ⟨rfl, m, rfl⟩
  rw [hS]
  exact ⟨rfl, FSpec.below_drewN' _ _ _⟩

set_option maxHeartbeats 16000000 in
theorem specShift {w : World} {N R C n : Nat} {sr sc : Int} {b : Nat} {v : Value} {zs : List Int} (k0 : w.cell? ⟨N, 0, none⟩ = some (.int .i64 R)) (k1 : w.cell? ⟨N, 1, none⟩ = some (.int .i64 C)) (k2 : w.cell? ⟨N, 2, none⟩ = some v) (h : Rd w b v zs) (hq : fieldB R C zs = true) (hn : n = R * C) (hsr : -24 ≤ sr ∧ sr ≤ 24) (hsc : -24 ≤ sc ∧ sc ≤ 24) :
    Calls Try.prog 76 #[.pointer (some ⟨N, 0, none⟩), .int .i64 sr, .int .i64 sc] w fun e w' => ∃ b', e = .returned (ruleV R C (.slice (some ⟨b', 0, none⟩) n n)) ∧ Own 2 w' b' (.slice (some ⟨b', 0, none⟩) n n) (shL zs R C sr sc) ∧ w.heap.size ≤ b' ∧ Below w.heap.size w w' := by
  obtain ⟨hR, hC, hl, hle⟩ := field_nat hq
  have HH := hid h
  have HQ := hid hq
  obtain ⟨ao, cap, rfl, hc, hm, h4⟩ := h
  rw [← hn] at hle
  have hpos : 0 < zs.length := by rw [hl]; exact Nat.mul_pos hR.1 hC.1
  obtain ⟨off, rfl, hb, hcell⟩ := h4 hpos
  have hln : zs.length = n := by rw [hn]; exact hl
  rw [hln] at HH hc hcell k2
  have hsz : n ≤ cap ∧ cap ≤ 9223372036854775807 := by unfold maxLen at hm; omega
  have HCap := hid (show n ≤ cap ∧ cap ≤ maxLen from ⟨hc, hm⟩)
  have HL : Hid (zs.length = n) := by simp only [Hid]; rw [hn]; exact hl
  have HN := hid hn
  have HR := hid hR
  have HC := hid hC
  have HB0 := hid hb
  have HCell := hid hcell
  have HLE := hid hle
  clear hc hm h4 hq hn hl hpos hb hcell hln
  have HSR := hid hsr
  have HSC := hid hsc
  have hNw : N < w.heap.size := World.block_lt_of_cell? w _ k0
  have HK := hid (And.intro k0 (And.intro k1 k2))
  clear hsr hsc k0 k1 k2
  go_enter Try.func76, Try.ntmps76
  go_wp2_with fail
  obtain ⟨w1, hW⟩ : ∃ w1, w1 = w.alloc (Obj.cells #[.int .i64 0, .int .i64 0, .slice none 0 0] 27) := ⟨_, rfl⟩
  obtain ⟨NT, hM⟩ : ∃ NT, NT = w.heap.size := ⟨_, rfl⟩
  have b1 : Below w.heap.size w w1 := by rw [hW]; exact below1 _ _
  have st : Below w.heap.size w w1 ∧ w1.cell? ⟨N, 0, none⟩ = some (.int .i64 R) ∧ w1.cell? ⟨N, 1, none⟩ = some (.int .i64 C) ∧ w1.cell? ⟨N, 2, none⟩ = some (.slice (some ⟨b, off, none⟩) n cap) ∧ Rd w1 b (.slice (some ⟨b, off, none⟩) n cap) zs ∧ w.heap.size ≤ w1.heap.size := ⟨b1, cell_keep b1 HK.out.1, cell_keep b1 HK.out.2.1, cell_keep b1 HK.out.2.2, HH.out.keep b1 (Nat.le_refl _), b1.size⟩
  have kT : w1.heap[NT]? = some (Obj.cells #[.int .i64 0, .int .i64 0, .slice none 0 0] 27) := by rw [hW]; exact FNew.heap_top hM
  have HNT : Hid (w.heap.size ≤ NT) := by simp only [Hid]; omega
  have HNN : Hid (N < NT ∧ NT = w.heap.size) := ⟨by omega, hM⟩
  simp only [← hW, ← hM]
  clear hW hM b1
  have kt := kT
  clear kT
  have bw := st.1
  clear st
  refine wp_region_held_drew (S := (fun ww => Below w.heap.size w ww ∧ ww.cell? ⟨N, 0, none⟩ = some (.int .i64 R) ∧ ww.cell? ⟨N, 1, none⟩ = some (.int .i64 C) ∧ w.heap.size ≤ ww.heap.size)) (by kernel_rfl) ?_ (fun hHeld => ?_)
  · ((try dsimp only); exact ⟨bw.drew, cell_keep bw.drew HK.out.1, cell_keep bw.drew HK.out.2.1, bw.drew.size⟩)
  generalize hD : w1.drew = wD at hHeld ⊢
  replace kt : wD.heap[NT]? = some (Obj.cells #[.int .i64 0, .int .i64 0, .slice none 0 0] 27) := by rw [← hD]; exact kt
  clear hD bw
  (refine wpAnyH_take (i := 0) (v := ?_) rfl ?_ ?_ ?_ (fun _ _ _ h => h) (Or.inl ⟨?_, ?_⟩) ?_ ?_; rotate_left 1; (focus decide +kernel); (focus decide +kernel); (focus decide +kernel); (focus rfl); (focus (intro w hSw; (try dsimp only at hSw); go_simp; (try (with_reducible rfl)); done)); (focus assumption); (try simp only [Act.put, List.setIfInBounds_toArray, List.set_cons_zero, List.set_cons_succ, List.getElem_toArray, List.getElem_cons_succ, List.getElem_cons_zero]))
  (refine wpAnyH_take (i := 1) (v := ?_) rfl ?_ ?_ ?_ (fun _ _ _ h => h) (Or.inl ⟨?_, ?_⟩) ?_ ?_; rotate_left 1; (focus decide +kernel); (focus decide +kernel); (focus decide +kernel); (focus rfl); (focus (intro w hSw; (try dsimp only at hSw); go_simp; (try (with_reducible rfl)); done)); (focus assumption); (try simp only [Act.put, List.setIfInBounds_toArray, List.set_cons_zero, List.set_cons_succ, List.getElem_toArray, List.getElem_cons_succ, List.getElem_cons_zero]))
  (refine wpAnyH_take (i := 2) (v := ?_) rfl ?_ ?_ ?_ (fun _ _ _ h => h) (Or.inl ⟨?_, ?_⟩) ?_ ?_; rotate_left 1; (focus decide +kernel); (focus decide +kernel); (focus decide +kernel); (focus rfl); (focus (intro w hSw; (try dsimp only at hSw); go_simp; (try (with_reducible rfl)); done)); (focus assumption); (try simp only [Act.put, List.setIfInBounds_toArray, List.set_cons_zero, List.set_cons_succ, List.getElem_toArray, List.getElem_cons_succ, List.getElem_cons_zero]))
  (refine wpAnyH_take (i := 3) (v := ?_) rfl ?_ ?_ ?_ (fun _ _ _ h => h) (Or.inl ⟨?_, ?_⟩) ?_ ?_; rotate_left 1; (focus decide +kernel); (focus decide +kernel); (focus decide +kernel); (focus rfl); (focus (intro w hSw; (try dsimp only at hSw); go_simp; (try (with_reducible rfl)); done)); (focus assumption); (try simp only [Act.put, List.setIfInBounds_toArray, List.set_cons_zero, List.set_cons_succ, List.getElem_toArray, List.getElem_cons_succ, List.getElem_cons_zero]))
  (refine wpAnyH_take (i := 4) (v := ?_) rfl ?_ ?_ ?_ (fun _ _ _ h => h) (Or.inl ⟨?_, ?_⟩) ?_ ?_; rotate_left 1; (focus decide +kernel); (focus decide +kernel); (focus decide +kernel); (focus rfl); (focus (intro w hSw; (try dsimp only at hSw); go_simp; (try (with_reducible rfl)); done)); (focus assumption); (try simp only [Act.put, List.setIfInBounds_toArray, List.set_cons_zero, List.set_cons_succ, List.getElem_toArray, List.getElem_cons_succ, List.getElem_cons_zero]))
  (refine wpAnyH_take (i := 5) (v := ?_) rfl ?_ ?_ ?_ (fun _ _ _ h => h) (Or.inl ⟨?_, ?_⟩) ?_ ?_; rotate_left 1; (focus decide +kernel); (focus decide +kernel); (focus decide +kernel); (focus rfl); (focus (intro w hSw; (try dsimp only at hSw); go_simp; (try (with_reducible rfl)); done)); (focus assumption); (try simp only [Act.put, List.setIfInBounds_toArray, List.set_cons_zero, List.set_cons_succ, List.getElem_toArray, List.getElem_cons_succ, List.getElem_cons_zero]))
  (refine wpAnyH_take (i := 6) (v := ?_) rfl ?_ ?_ ?_ (fun _ _ _ h => h) (Or.inl ⟨?_, ?_⟩) ?_ ?_; rotate_left 1; (focus decide +kernel); (focus decide +kernel); (focus decide +kernel); (focus rfl); (focus (intro w hSw; (try dsimp only at hSw); go_simp; (try (with_reducible rfl)); done)); (focus assumption); (try simp only [Act.put, List.setIfInBounds_toArray, List.set_cons_zero, List.set_cons_succ, List.getElem_toArray, List.getElem_cons_succ, List.getElem_cons_zero]))
  (refine wpAnyH_take (i := 7) (v := ?_) rfl ?_ ?_ ?_ (fun _ _ _ h => h) (Or.inl ⟨?_, ?_⟩) ?_ ?_; rotate_left 1; (focus decide +kernel); (focus decide +kernel); (focus decide +kernel); (focus rfl); (focus (intro w hSw; (try dsimp only at hSw); go_simp; (try (with_reducible rfl)); done)); (focus assumption); (try simp only [Act.put, List.setIfInBounds_toArray, List.set_cons_zero, List.set_cons_succ, List.getElem_toArray, List.getElem_cons_succ, List.getElem_cons_zero]))
  refine wpAnyH_ready (rs := [8, 9]) ?_ (by simp) ?_
  · decide +kernel
  refine AllReadyH.cons rfl (fun K hK => ?_) (AllReadyH.cons rfl (fun K hK => ?_) AllReadyH.nil)
  · go_simp
    go_at_call 58
    refine (FNew.l04New HN.out HLE.out).mono ?_
    rintro e w3 ⟨b', rfl, ow, lo, bel⟩
    have hNTb : NT < b' := Nat.lt_of_lt_of_le (Array.getElem?_eq_some_iff.1 kt).1 lo
    replace kt := (bel.block NT (Array.getElem?_eq_some_iff.1 kt).1).trans kt
    have lob : w.heap.size ≤ b' := Nat.le_trans hHeld.1.size lo
    refine hK.out _ _ ?_ (fun hHeld2 => ?_)
    · (try dsimp only); exact next2_0 bel hHeld
    clear hK K hHeld bel lo
    have hHeld := hHeld2
    clear hHeld2
    (try simp only [Act.put, List.setIfInBounds_toArray, List.set_cons_zero, List.set_cons_succ, List.getElem_toArray, List.getElem_cons_succ, List.getElem_cons_zero])
    refine wpAnyH_ready (rs := [9]) ?_ (by simp) ?_
    · decide +kernel
    refine AllReadyH.cons rfl (fun K hK => ?_) AllReadyH.nil
    go_simp
    refine hK.out _ _ ?_ (fun hHeld2 => ?_)
    · (try dsimp only); exact next2_0 (below1 _ _) hHeld
    clear hK K
    obtain ⟨w5, hW5⟩ : ∃ w5, w5 = w3.alloc (Obj.cells #[.int .i64 0, .int .i64 0, .slice none 0 0] 27) := ⟨_, rfl⟩
    obtain ⟨NO, hO⟩ : ∃ NO, NO = w3.heap.size := ⟨_, rfl⟩
    have kO : w5.heap[NO]? = some (Obj.cells #[.int .i64 0, .int .i64 0, .slice none 0 0] 27) := by rw [hW5]; exact FNew.heap_top hO
    have hTO : NT < NO := by rw [hO]; exact (Array.getElem?_eq_some_iff.1 kt).1
    have bel : Below w3.heap.size w3 w5 := by rw [hW5]; exact below1 _ _
    replace kt := (bel.block NT (Array.getElem?_eq_some_iff.1 kt).1).trans kt
    have hNOb : NO ≠ b' := by rw [hO]; exact Nat.ne_of_gt ow.lt
    replace ow := ow.keep bel
    rw [← hW5] at hHeld2
    simp only [← hW5, ← hO]
    clear hHeld bel hW5 hO
    have hHeld := hHeld2
    clear hHeld2
    (try simp only [Act.put, List.setIfInBounds_toArray, List.set_cons_zero, List.set_cons_succ, List.getElem_toArray, List.getElem_cons_succ, List.getElem_cons_zero])
    refine wpAnyH_ready (rs := [10]) ?_ (by simp) ?_
    · decide +kernel
    refine AllReadyH.cons rfl (fun K hK => ?_) AllReadyH.nil
    have y0 : w5.cell? ⟨NO, 0, none⟩ = some (.int .i64 0) := Go.Joins.cell_of_block kO 0
    have y1 : w5.cell? ⟨NO, 1, none⟩ = some (.int .i64 0) := Go.Joins.cell_of_block kO 1
    have y2 : w5.cell? ⟨NO, 2, none⟩ = some (.slice none 0 0) := Go.Joins.cell_of_block kO 2
    have g0 : w5.frozen? ⟨NO, 0, none⟩ = false := Go.Joins.unfrozen_of_block kO 0
    have g1 : w5.frozen? ⟨NO, 1, none⟩ = false := Go.Joins.unfrozen_of_block kO 1
    have g2 : w5.frozen? ⟨NO, 2, none⟩ = false := Go.Joins.unfrozen_of_block kO 2
    have HKx := hid kO
    have HHx := hid hHeld
    have HTO := hid (And.intro hTO (And.intro hNOb (And.intro hNTb lob)))
    have HKt := hid kt
    have HOx := hid ow
    clear kO hTO hNOb hNTb lob kt ow
    go_simp
    obtain ⟨w4, hW⟩ : ∃ w4, w4 = (((w5.setCell ⟨NO, 0, none⟩ (.int .i64 R)).setCell ⟨NO, 1, none⟩ (.int .i64 C)).setCell ⟨NO, 2, none⟩ (.slice (some ⟨b', 0, none⟩) n n)) := ⟨_, rfl⟩
    have kO : w4.heap[NO]? = some (Obj.cells #[.int .i64 R, .int .i64 C, .slice (some ⟨b', 0, none⟩) n n] 27) := by rw [hW]; exact (Go.Joins.block_setCell (i := 2) (Go.Joins.block_setCell (i := 1) (Go.Joins.block_setCell (i := 0) HKx.out (.int .i64 R)) (.int .i64 C)) (.slice (some ⟨b', 0, none⟩) n n))
    have kT : w4.heap[NT]? = some (Obj.cells #[.int .i64 0, .int .i64 0, .slice none 0 0] 27) := by rw [hW]; exact ((Below.heap_setCell ((w5.setCell ⟨NO, 0, none⟩ (.int .i64 R)).setCell ⟨NO, 1, none⟩ (.int .i64 C)) ⟨NO, 2, none⟩ (.slice (some ⟨b', 0, none⟩) n n) NT (Nat.ne_of_lt HTO.out.1)).trans ((Below.heap_setCell (w5.setCell ⟨NO, 0, none⟩ (.int .i64 R)) ⟨NO, 1, none⟩ (.int .i64 C) NT (Nat.ne_of_lt HTO.out.1)).trans ((Below.heap_setCell w5 ⟨NO, 0, none⟩ (.int .i64 R) NT (Nat.ne_of_lt HTO.out.1)).trans HKt.out)))
    have ow : Own 2 w4 b' (.slice (some ⟨b', 0, none⟩) n n) (List.replicate n 0) := by rw [hW]; exact (own_set (own_set (own_set HOx.out ⟨NO, 0, none⟩ (.int .i64 R) HTO.out.2.1) ⟨NO, 1, none⟩ (.int .i64 C) HTO.out.2.1) ⟨NO, 2, none⟩ (.slice (some ⟨b', 0, none⟩) n n) HTO.out.2.1)
    have B4 : Below w.heap.size w w4 := by
      have h1 := HNT.out; have h2 := HTO.out.1
      rw [hW]
      exact ((HHx.out.1.setCell (by simp; omega) _).setCell (by simp; omega) _).setCell (by simp; omega) _
    refine hK.out _ _ ?_ (fun hHeld5 => ?_)
    · (try dsimp only); rw [← hW]; exact ⟨B4, cell_keep B4 HK.out.1, cell_keep B4 HK.out.2.1, B4.size⟩
    clear hK K hHeld5
    simp only [← hW]
    clear hW y0 y1 y2 g0 g1 g2 hHeld
    have HSX : Hid (Below w.heap.size w w4 ∧ w4.cell? ⟨N, 0, none⟩ = some (.int .i64 R) ∧ w4.cell? ⟨N, 1, none⟩ = some (.int .i64 C) ∧ w4.cell? ⟨N, 2, none⟩ = some (.slice (some ⟨b, off, none⟩) n cap) ∧ Rd w4 b (.slice (some ⟨b, off, none⟩) n cap) zs ∧ w.heap.size ≤ w4.heap.size) := ⟨B4, cell_keep B4 HK.out.1, cell_keep B4 HK.out.2.1, cell_keep B4 HK.out.2.2, HH.out.keep B4 (Nat.le_refl _), B4.size⟩
    have HOW := hid ow
    have HKT := hid kT
    have HKO := hid kO
    have HAp := hid (show N < NT ∧ NT < b' ∧ NO ≠ b' ∧ w.heap.size ≤ b' from ⟨HNN.out.1, HTO.out.2.2.1, HTO.out.2.1, HTO.out.2.2.2⟩)
    clear ow kT kO B4
    (try simp only [Act.put, List.setIfInBounds_toArray, List.set_cons_zero, List.set_cons_succ, List.getElem_toArray, List.getElem_cons_succ, List.getElem_cons_zero])
    refine wpAnyH_done (by kernel_rfl) ?_ _
    go_wp2
    have HCLX : Hid (∀ i, i < n → w4.cell? ⟨b, off + i, none⟩ = some (.int .i64 (zs.getD i 0))) := fun i hi => (HSX.out.1.cell (p := ⟨b, off + i, none⟩) HB0.out).trans (HCell.out i hi)
    have HTL : Hid ((shL zs R C sr sc).length = n) := by simp only [Hid, shL]; rw [grid_len, HN.out]
    have hRC : R ≤ 24 ∧ C ≤ 24 := ⟨HR.out.2, HC.out.2⟩
    go_loopw [8] (fun i wr => ∃ p : Nat, p ≤ R ∧ i = .int .i64 p ∧ Own 2 wr b' (.slice (some ⟨b', 0, none⟩) n n) (filN (shL zs R C sr sc) n (p * C)) ∧ w4.grownBy wr (some b')) (fun i _ => R - (intOf i).toNat)
    case atStart => exact ⟨0, Nat.zero_le _, rfl, by rw [Nat.zero_mul, filN_zero]; exact HOW.out, g_refl _ _⟩
    case round =>
      obtain ⟨p, hp, rfl, hown, hg⟩ := hrel
      have c0 := g_cell hg HSX.out.2.1 (Nat.ne_of_lt (Nat.lt_trans HAp.out.1 HAp.out.2.1))
      have c1 := g_cell hg HSX.out.2.2.1 (Nat.ne_of_lt (Nat.lt_trans HAp.out.1 HAp.out.2.1))
      have c2 := g_cell hg HSX.out.2.2.2.1 (Nat.ne_of_lt (Nat.lt_trans HAp.out.1 HAp.out.2.1))
      have d0 := g_cell hg (Go.Joins.cell_of_block HKO.out 0) (HAp.out.2.2.1)
      have d1 := g_cell hg (Go.Joins.cell_of_block HKO.out 1) (HAp.out.2.2.1)
      have d2 := g_cell hg (Go.Joins.cell_of_block HKO.out 2) (HAp.out.2.2.1)
      by_cases hlt : p < R
      · have HO1 := hid hown
        have HG1 := hid hg
        have hpi : (p : Int) < (R : Int) := by omega
        clear hown hg
        go_wp2
        clear c0 c1 c2 d0 d1 d2
        go_loopw [9] (fun k wx => ∃ q : Nat, q ≤ C ∧ k = .int .i64 q ∧ Own 2 wx b' (.slice (some ⟨b', 0, none⟩) n n) (filN (shL zs R C sr sc) n (p * C + q)) ∧ w4.grownBy wx (some b')) (fun k _ => C - (intOf k).toNat)
        case atStart => exact ⟨0, Nat.zero_le _, rfl, HO1.out, HG1.out⟩
        case round =>
          obtain ⟨q, hq2, rfl, hown, hg⟩ := hrel
          have c0 := g_cell hg HSX.out.2.1 (Nat.ne_of_lt (Nat.lt_trans HAp.out.1 HAp.out.2.1))
          have c1 := g_cell hg HSX.out.2.2.1 (Nat.ne_of_lt (Nat.lt_trans HAp.out.1 HAp.out.2.1))
          have c2 := g_cell hg HSX.out.2.2.2.1 (Nat.ne_of_lt (Nat.lt_trans HAp.out.1 HAp.out.2.1))
          have d0 := g_cell hg (Go.Joins.cell_of_block HKO.out 0) (HAp.out.2.2.1)
          have d1 := g_cell hg (Go.Joins.cell_of_block HKO.out 1) (HAp.out.2.2.1)
          have d2 := g_cell hg (Go.Joins.cell_of_block HKO.out 2) (HAp.out.2.2.1)
          by_cases hlt2 : q < C
          · obtain ⟨S, hS⟩ : ∃ S, S = shS R C sr sc p q := ⟨_, rfl⟩
            obtain ⟨T, hT⟩ : ∃ T, T = p * C + q := ⟨_, rfl⟩
            have hSn : S < n := by rw [hS, HN.out]; exact shS_lt _ _ _ _ HR.out.1 HC.out.1
            have hTn : T < n := by rw [hT, HN.out]; exact pos_bd hlt hlt2
            have e0 : IntKind.i64.wrap ((p : Int) - sr) = (p : Int) - sr := by have := HSR.out; rw [IntKind.wrap_i64]; omega
            have e1 : IntKind.i64.wrap ((q : Int) - sc) = (q : Int) - sc := by have := HSC.out; rw [IntKind.wrap_i64]; omega
            have e4 := (wrap_pos (i := p) (C := C) (k := q) (by have := HLE.out; omega)).1
            have e5 := (wrap_pos (i := p) (C := C) (k := q) (by have := HLE.out; omega)).2
            rw [← hT] at e5 hown
            obtain ⟨x, hx⟩ : ∃ x, x = zs.getD S 0 := ⟨_, rfl⟩
            have hcx : wr.cell? ⟨b, off + S, none⟩ = some (.int .i64 x) := by rw [hx]; exact g_cell hg ((HCLX.out S hSn)) (Nat.ne_of_lt (Nat.lt_of_lt_of_le HB0.out HAp.out.2.2.2))
            have HTX : Hid ((shL zs R C sr sc).getD T 0 = x) := by simp only [Hid, shL]; rw [hT, grid_get _ hlt hlt2, hx, hS]
            have HBW := g_below HSX.out.1 hg HAp.out.2.2.2
            have hx1 : N ≠ b' := Nat.ne_of_lt (Nat.lt_trans HAp.out.1 HAp.out.2.1)
            have hx2 : NO ≠ b' := HAp.out.2.2.1
            have hx3 : b ≠ b' := Nat.ne_of_lt (Nat.lt_of_lt_of_le HB0.out HAp.out.2.2.2)
            have HO1 := hid hown
            have HG1 := hid hg
            have HT := hid hT
            have HS := hid hS
            obtain ⟨P2, hP2⟩ : ∃ P2, P2 = p * C := ⟨_, rfl⟩
            rw [← hP2] at e4 e5
            have hpi : (p : Int) < (R : Int) := by omega
            have hqi : (q : Int) < (C : Int) := by omega
            have hSi : (S : Int) < (n : Int) := by omega
            have hTi : (T : Int) < (n : Int) := by omega
            clear hx hown hg hP2 hT hS
            go_wp2_with fail
            refine wp_region_held_drew (S := (fun ww => Below w.heap.size w ww ∧ ww.cell? ⟨N, 0, none⟩ = some (.int .i64 R) ∧ ww.cell? ⟨N, 1, none⟩ = some (.int .i64 C) ∧ ww.cell? ⟨N, 2, none⟩ = some (.slice (some ⟨b, off, none⟩) n cap) ∧ ww.cell? ⟨NO, 0, none⟩ = some (.int .i64 R) ∧ ww.cell? ⟨NO, 1, none⟩ = some (.int .i64 C) ∧ ww.cell? ⟨NO, 2, none⟩ = some (.slice (some ⟨b', 0, none⟩) n n) ∧ ww.cell? ⟨b, off + S, none⟩ = some (.int .i64 x) ∧ w.heap.size ≤ ww.heap.size)) (by kernel_rfl) ?_ (fun hHeld => ?_)
            · ((try dsimp only); exact ⟨HBW.drew, c0, c1, c2, d0, d1, d2, hcx, Nat.le_trans HSX.out.2.2.2.2.2 HG1.out.size⟩)
            have ow : Own 2 wr.drew b' (.slice (some ⟨b', 0, none⟩) n n) (filN (shL zs R C sr sc) n T) := HO1.out
            have g : w4.grownBy wr.drew (some b') := g_drew HG1.out
            clear hcx c0 c1 c2 d0 d1 d2 HBW
            (refine wpAnyH_take (i := 0) (v := ?_) rfl ?_ ?_ ?_ (fun _ _ _ h => h) (Or.inl ⟨?_, ?_⟩) ?_ ?_; rotate_left 1; (focus decide +kernel); (focus decide +kernel); (focus decide +kernel); (focus rfl); (focus (intro w hSw; (try dsimp only at hSw); go_simp; (try (with_reducible rfl)); done)); (focus assumption); (try simp only [Act.put, List.setIfInBounds_toArray, List.set_cons_zero, List.set_cons_succ, List.getElem_toArray, List.getElem_cons_succ, List.getElem_cons_zero]))
            (refine wpAnyH_take (i := 1) (v := ?_) rfl ?_ ?_ ?_ (fun _ _ _ h => h) (Or.inl ⟨?_, ?_⟩) ?_ ?_; rotate_left 1; (focus decide +kernel); (focus decide +kernel); (focus decide +kernel); (focus rfl); (focus (intro w hSw; (try dsimp only at hSw); go_simp; (try (with_reducible rfl)); done)); (focus assumption); (try simp only [Act.put, List.setIfInBounds_toArray, List.set_cons_zero, List.set_cons_succ, List.getElem_toArray, List.getElem_cons_succ, List.getElem_cons_zero]))
            (refine wpAnyH_take (i := 2) (v := ?_) rfl ?_ ?_ ?_ (fun _ _ _ h => h) (Or.inl ⟨?_, ?_⟩) ?_ ?_; rotate_left 1; (focus decide +kernel); (focus decide +kernel); (focus decide +kernel); (focus rfl); (focus (intro w hSw; (try dsimp only at hSw); go_simp; (try (with_reducible rfl)); done)); (focus assumption); (try simp only [Act.put, List.setIfInBounds_toArray, List.set_cons_zero, List.set_cons_succ, List.getElem_toArray, List.getElem_cons_succ, List.getElem_cons_zero]))
            (refine wpAnyH_take (i := 3) (v := ?_) rfl ?_ ?_ ?_ (fun _ _ _ h => h) (Or.inl ⟨?_, ?_⟩) ?_ ?_; rotate_left 1; (focus decide +kernel); (focus decide +kernel); (focus decide +kernel); (focus rfl); (focus (intro w hSw; (try dsimp only at hSw); go_simp; (try (with_reducible rfl)); done)); (focus assumption); (try simp only [Act.put, List.setIfInBounds_toArray, List.set_cons_zero, List.set_cons_succ, List.getElem_toArray, List.getElem_cons_succ, List.getElem_cons_zero]))
            (refine wpAnyH_take (i := 4) (v := ?_) rfl ?_ ?_ ?_ (fun _ _ _ h => h) (Or.inl ⟨?_, ?_⟩) ?_ ?_; rotate_left 1; (focus decide +kernel); (focus decide +kernel); (focus decide +kernel); (focus rfl); (focus (intro w hSw; (try dsimp only at hSw); go_simp; (try (with_reducible rfl)); done)); (focus assumption); (try simp only [Act.put, List.setIfInBounds_toArray, List.set_cons_zero, List.set_cons_succ, List.getElem_toArray, List.getElem_cons_succ, List.getElem_cons_zero]))
            (refine wpAnyH_take (i := 5) (v := ?_) rfl ?_ ?_ ?_ (fun _ _ _ h => h) (Or.inl ⟨?_, ?_⟩) ?_ ?_; rotate_left 1; (focus decide +kernel); (focus decide +kernel); (focus decide +kernel); (focus rfl); (focus (intro w hSw; (try dsimp only at hSw); go_simp; (try (with_reducible rfl)); done)); (focus assumption); (try simp only [Act.put, List.setIfInBounds_toArray, List.set_cons_zero, List.set_cons_succ, List.getElem_toArray, List.getElem_cons_succ, List.getElem_cons_zero]))
            (refine wpAnyH_take (i := 6) (v := ?_) rfl ?_ ?_ ?_ (fun _ _ _ h => h) (Or.inl ⟨?_, ?_⟩) ?_ ?_; rotate_left 1; (focus decide +kernel); (focus decide +kernel); (focus decide +kernel); (focus rfl); (focus (intro w hSw; (try dsimp only at hSw); go_simp; (try (with_reducible rfl)); done)); (focus assumption); (try simp only [Act.put, List.setIfInBounds_toArray, List.set_cons_zero, List.set_cons_succ, List.getElem_toArray, List.getElem_cons_succ, List.getElem_cons_zero]))
            (refine wpAnyH_take (i := 7) (v := ?_) rfl ?_ ?_ ?_ (fun _ _ _ h => h) (Or.inl ⟨?_, ?_⟩) ?_ ?_; rotate_left 1; (focus decide +kernel); (focus decide +kernel); (focus decide +kernel); (focus rfl); (focus (intro w hSw; (try dsimp only at hSw); go_simp; (try (with_reducible rfl)); done)); (focus assumption); (try simp only [Act.put, List.setIfInBounds_toArray, List.set_cons_zero, List.set_cons_succ, List.getElem_toArray, List.getElem_cons_succ, List.getElem_cons_zero]))
            (refine wpAnyH_take (i := 8) (v := ?_) rfl ?_ ?_ ?_ (fun _ _ _ h => h) (Or.inl ⟨?_, ?_⟩) ?_ ?_; rotate_left 1; (focus decide +kernel); (focus decide +kernel); (focus decide +kernel); (focus rfl); (focus (intro w hSw; (try dsimp only at hSw); go_simp; (try (with_reducible rfl)); done)); (focus assumption); (try simp only [Act.put, List.setIfInBounds_toArray, List.set_cons_zero, List.set_cons_succ, List.getElem_toArray, List.getElem_cons_succ, List.getElem_cons_zero]))
            (refine wpAnyH_take (i := 9) (v := ?_) rfl ?_ ?_ ?_ (fun _ _ _ h => h) (Or.inl ⟨?_, ?_⟩) ?_ ?_; rotate_left 1; (focus decide +kernel); (focus decide +kernel); (focus decide +kernel); (focus rfl); (focus (intro w hSw; (try dsimp only at hSw); go_simp; (try (with_reducible rfl)); done)); (focus assumption); (try simp only [Act.put, List.setIfInBounds_toArray, List.set_cons_zero, List.set_cons_succ, List.getElem_toArray, List.getElem_cons_succ, List.getElem_cons_zero]))
            (refine wpAnyH_take (i := 10) (v := ?_) rfl ?_ ?_ ?_ (fun _ _ _ h => h) (Or.inl ⟨?_, ?_⟩) ?_ ?_; rotate_left 1; (focus decide +kernel); (focus decide +kernel); (focus decide +kernel); (focus rfl); (focus (intro w hSw; (try dsimp only at hSw); go_simp; (try (with_reducible rfl)); done)); (focus assumption); (try simp only [Act.put, List.setIfInBounds_toArray, List.set_cons_zero, List.set_cons_succ, List.getElem_toArray, List.getElem_cons_succ, List.getElem_cons_zero]))
            (refine wpAnyH_take (i := 11) (v := ?_) rfl ?_ ?_ ?_ (fun _ _ _ h => h) (Or.inl ⟨?_, ?_⟩) ?_ ?_; rotate_left 1; (focus decide +kernel); (focus decide +kernel); (focus decide +kernel); (focus rfl); (focus (intro w hSw; (try dsimp only at hSw); go_simp; (try (with_reducible rfl)); done)); (focus assumption); (try simp only [Act.put, List.setIfInBounds_toArray, List.set_cons_zero, List.set_cons_succ, List.getElem_toArray, List.getElem_cons_succ, List.getElem_cons_zero]))
            (refine wpAnyH_take (i := 12) (v := ?_) rfl ?_ ?_ ?_ (fun _ _ _ h => h) (Or.inl ⟨?_, ?_⟩) ?_ ?_; rotate_left 1; (focus decide +kernel); (focus decide +kernel); (focus decide +kernel); (focus rfl); (focus (intro w hSw; (try dsimp only at hSw); go_simp; (try (with_reducible rfl)); done)); (focus assumption); (try simp only [Act.put, List.setIfInBounds_toArray, List.set_cons_zero, List.set_cons_succ, List.getElem_toArray, List.getElem_cons_succ, List.getElem_cons_zero]))
            (refine wpAnyH_take (i := 13) (v := ?_) rfl ?_ ?_ ?_ (fun _ _ _ h => h) (Or.inl ⟨?_, ?_⟩) ?_ ?_; rotate_left 1; (focus decide +kernel); (focus decide +kernel); (focus decide +kernel); (focus rfl); (focus (intro w hSw; (try dsimp only at hSw); go_simp; (try (with_reducible rfl)); done)); (focus assumption); (try simp only [Act.put, List.setIfInBounds_toArray, List.set_cons_zero, List.set_cons_succ, List.getElem_toArray, List.getElem_cons_succ, List.getElem_cons_zero]))
            (refine wpAnyH_take (i := 14) (v := ?_) rfl ?_ ?_ ?_ (fun _ _ _ h => h) (Or.inl ⟨?_, ?_⟩) ?_ ?_; rotate_left 1; (focus decide +kernel); (focus decide +kernel); (focus decide +kernel); (focus rfl); (focus (intro w hSw; (try dsimp only at hSw); go_simp; (try (with_reducible rfl)); done)); (focus assumption); (try simp only [Act.put, List.setIfInBounds_toArray, List.set_cons_zero, List.set_cons_succ, List.getElem_toArray, List.getElem_cons_succ, List.getElem_cons_zero]))
            (refine wpAnyH_take (i := 15) (v := ?_) rfl ?_ ?_ ?_ (fun _ _ _ h => h) (Or.inl ⟨?_, ?_⟩) ?_ ?_; rotate_left 1; (focus decide +kernel); (focus decide +kernel); (focus decide +kernel); (focus rfl); (focus (intro w hSw; (try dsimp only at hSw); go_simp; (try (with_reducible rfl)); done)); (focus assumption); (try simp only [Act.put, List.setIfInBounds_toArray, List.set_cons_zero, List.set_cons_succ, List.getElem_toArray, List.getElem_cons_succ, List.getElem_cons_zero]))
            (refine wpAnyH_take (i := 16) (v := ?_) rfl ?_ ?_ ?_ (fun _ _ _ h => h) (Or.inl ⟨?_, ?_⟩) ?_ ?_; rotate_left 1; (focus decide +kernel); (focus decide +kernel); (focus decide +kernel); (focus rfl); (focus (intro w hSw; (try dsimp only at hSw); go_simp; (try (with_reducible rfl)); done)); (focus assumption); (try simp only [Act.put, List.setIfInBounds_toArray, List.set_cons_zero, List.set_cons_succ, List.getElem_toArray, List.getElem_cons_succ, List.getElem_cons_zero]))
            (refine wpAnyH_take (i := 17) (v := ?_) rfl ?_ ?_ ?_ (fun _ _ _ h => h) (Or.inl ⟨?_, ?_⟩) ?_ ?_; rotate_left 1; (focus decide +kernel); (focus decide +kernel); (focus decide +kernel); (focus rfl); (focus (intro w hSw; (try dsimp only at hSw); go_simp; (try (with_reducible rfl)); done)); (focus assumption); (try simp only [Act.put, List.setIfInBounds_toArray, List.set_cons_zero, List.set_cons_succ, List.getElem_toArray, List.getElem_cons_succ, List.getElem_cons_zero]))
            (refine wpAnyH_take (i := 18) (v := ?_) rfl ?_ ?_ ?_ (fun _ _ _ h => h) (Or.inl ⟨?_, ?_⟩) ?_ ?_; rotate_left 1; (focus decide +kernel); (focus decide +kernel); (focus decide +kernel); (focus rfl); (focus (intro w hSw; (try dsimp only at hSw); go_simp; (try (with_reducible rfl)); done)); (focus assumption); (try simp only [Act.put, List.setIfInBounds_toArray, List.set_cons_zero, List.set_cons_succ, List.getElem_toArray, List.getElem_cons_succ, List.getElem_cons_zero]))
            (refine wpAnyH_take (i := 19) (v := ?_) rfl ?_ ?_ ?_ (fun _ _ _ h => h) (Or.inl ⟨?_, ?_⟩) ?_ ?_; rotate_left 1; (focus decide +kernel); (focus decide +kernel); (focus decide +kernel); (focus rfl); (focus (intro w hSw; (try dsimp only at hSw); go_simp; (try (with_reducible rfl)); done)); (focus assumption); (try simp only [Act.put, List.setIfInBounds_toArray, List.set_cons_zero, List.set_cons_succ, List.getElem_toArray, List.getElem_cons_succ, List.getElem_cons_zero]))
            (refine wpAnyH_take (i := 20) (v := ?_) rfl ?_ ?_ ?_ (fun _ _ _ h => h) (Or.inl ⟨?_, ?_⟩) ?_ ?_; rotate_left 1; (focus decide +kernel); (focus decide +kernel); (focus decide +kernel); (focus rfl); (focus (intro w hSw; (try dsimp only at hSw); go_simp; (try (with_reducible rfl)); done)); (focus assumption); (try simp only [Act.put, List.setIfInBounds_toArray, List.set_cons_zero, List.set_cons_succ, List.getElem_toArray, List.getElem_cons_succ, List.getElem_cons_zero]))
            refine wpAnyH_ready (rs := [21]) ?_ (by simp) ?_
            · decide +kernel
            refine AllReadyH.cons rfl (fun K hK => ?_) AllReadyH.nil
            go_simp
            go_at_call 85
            refine (l04RoundQ hHeld.2.1 hHeld.2.2.1 HR.out HC.out HSR.out HSC.out (by omega) (by omega) HS.out).mono ?_
            rintro e wa ⟨rfl, bel⟩
            replace ow := ow.keep bel
            replace g := g_bel g bel
            refine hK.out _ _ ?_ (fun hHeld2 => ?_)
            · (try dsimp only); exact next7_0 bel hHeld
            clear hK K hHeld bel
            have hHeld := hHeld2
            clear hHeld2
            (try simp only [Act.put, List.setIfInBounds_toArray, List.set_cons_zero, List.set_cons_succ, List.getElem_toArray, List.getElem_cons_succ, List.getElem_cons_zero])
            (refine wpAnyH_take (i := 22) (v := ?_) rfl ?_ ?_ ?_ (fun _ _ _ h => h) (Or.inl ⟨?_, ?_⟩) ?_ ?_; rotate_left 1; (focus decide +kernel); (focus decide +kernel); (focus decide +kernel); (focus rfl); (focus (intro w hSw; (try dsimp only at hSw); go_simp; (try (with_reducible rfl)); done)); (focus assumption); (try simp only [Act.put, List.setIfInBounds_toArray, List.set_cons_zero, List.set_cons_succ, List.getElem_toArray, List.getElem_cons_succ, List.getElem_cons_zero]))
            (refine wpAnyH_take (i := 23) (v := ?_) rfl ?_ ?_ ?_ (fun _ _ _ h => h) (Or.inl ⟨?_, ?_⟩) ?_ ?_; rotate_left 1; (focus decide +kernel); (focus decide +kernel); (focus decide +kernel); (focus rfl); (focus (intro w hSw; (try dsimp only at hSw); go_simp; (try (with_reducible rfl)); done)); (focus assumption); (try simp only [Act.put, List.setIfInBounds_toArray, List.set_cons_zero, List.set_cons_succ, List.getElem_toArray, List.getElem_cons_succ, List.getElem_cons_zero]))
            (refine wpAnyH_take (i := 24) (v := ?_) rfl ?_ ?_ ?_ (fun _ _ _ h => h) (Or.inl ⟨?_, ?_⟩) ?_ ?_; rotate_left 1; (focus decide +kernel); (focus decide +kernel); (focus decide +kernel); (focus rfl); (focus (intro w hSw; (try dsimp only at hSw); go_simp; (try (with_reducible rfl)); done)); (focus assumption); (try simp only [Act.put, List.setIfInBounds_toArray, List.set_cons_zero, List.set_cons_succ, List.getElem_toArray, List.getElem_cons_succ, List.getElem_cons_zero]))
            refine wpAnyH_ready (rs := [25]) ?_ (by simp) ?_
            · decide +kernel
            refine AllReadyH.cons rfl (fun K hK => ?_) AllReadyH.nil
            have hox := ow.cell (i := T) (by rw [filN_len _ _ _ HTL.out (Nat.le_of_lt hTn)]; exact hTn)
            have hof := ow.free T
            go_simp
            have ow2 := ow.set T x
            have g2 := g_set g T (.int .i64 x)
            refine hK.out _ _ ?_ (fun hHeld5 => ?_)
            · (try dsimp only); obtain ⟨h0, h1, h2, h3, h4, h5, h6, h7, h8⟩ := hHeld; exact ⟨h0.setCell HAp.out.2.2.2 _, set_cell h1 hx1, set_cell h2 hx1, set_cell h3 hx1, set_cell h4 hx2, set_cell h5 hx2, set_cell h6 hx2, set_cell h7 hx3, by simpa [World.setCell] using h8⟩
            clear hK K hHeld5
            obtain ⟨wz, hz⟩ : ∃ wz, wz = wa.setCell ⟨b', T, none⟩ (.int .i64 x) := ⟨_, rfl⟩
            rw [← hz] at ow2 g2
            simp only [← hz]
            clear hz hox hof hHeld
            (try simp only [Act.put, List.setIfInBounds_toArray, List.set_cons_zero, List.set_cons_succ, List.getElem_toArray, List.getElem_cons_succ, List.getElem_cons_zero])
            refine wpAnyH_done (by kernel_rfl) ?_ _
            have HO3 := hid ow2
            have HG3 := hid g2
            clear ow g ow2 g2
            go_wp2
            go_roundw
            case rel =>
              refine ⟨q + 1, by omega, by go_num, ?_, HG3.out⟩
              have hs := filN_set (shL zs R C sr sc) n T HTL.out hTn
              rw [HTX.out] at hs
              rw [show p * C + (q + 1) = T + 1 by have := HT.out; omega, ← hs]
              exact HO3.out
            case measure => simp [intOf]; omega
          · have hqR : C = q := by omega
            have HO2 := hid hown
            have HG2 := hid hg
            clear hown hg
            subst hqR
            go_wp2
            go_roundw
            case rel =>
              refine ⟨p + 1, by omega, by go_num, ?_, HG2.out⟩
              rw [Nat.succ_mul]
              exact HO2.out
            case measure => simp [intOf]; omega
      · have hpC : R = p := by omega
        subst hpC
        rw [show R * C = n by rw [HN.out], filN_all _ _ HTL.out] at hown
        have hg2 := hg
        have kTr := g_heap hg HKT.out (Nat.ne_of_lt HAp.out.2.1)
        have HB := hid (g_below HSX.out.1 hg HAp.out.2.2.2)
        have HLo : Hid (w.heap.size ≤ b') := HAp.out.2.2.2
        have HNB : Hid (NT ≠ b') := Nat.ne_of_lt HAp.out.2.1
        have HO := hid hown
        clear hown hg hg2
        have y0 : wr.cell? ⟨NT, 0, none⟩ = some (.int .i64 0) := Go.Joins.cell_of_block kTr 0
        have y1 : wr.cell? ⟨NT, 1, none⟩ = some (.int .i64 0) := Go.Joins.cell_of_block kTr 1
        have y2 : wr.cell? ⟨NT, 2, none⟩ = some (.slice none 0 0) := Go.Joins.cell_of_block kTr 2
        have g0 : wr.frozen? ⟨NT, 0, none⟩ = false := Go.Joins.unfrozen_of_block kTr 0
        have g1 : wr.frozen? ⟨NT, 1, none⟩ = false := Go.Joins.unfrozen_of_block kTr 1
        have g2 : wr.frozen? ⟨NT, 2, none⟩ = false := Go.Joins.unfrozen_of_block kTr 2
        have HKx := hid kTr
        clear kTr
        go_wp2
        obtain ⟨W5, hW⟩ : ∃ W5, W5 = (((wr.setCell ⟨NT, 0, none⟩ (.int .i64 R)).setCell ⟨NT, 1, none⟩ (.int .i64 C)).setCell ⟨NT, 2, none⟩ (.slice (some ⟨b', 0, none⟩) n n)) := ⟨_, rfl⟩
        have q0 := (Go.Joins.block_setCell (i := 2) (Go.Joins.block_setCell (i := 1) (Go.Joins.block_setCell (i := 0) HKx.out (.int .i64 R)) (.int .i64 C)) (.slice (some ⟨b', 0, none⟩) n n))
        rw [← hW] at q0
        have z0 : W5.cell? ⟨NT, 0, none⟩ = some (.int .i64 R) := Go.Joins.cell_of_block q0 0
        have z1 : W5.cell? ⟨NT, 1, none⟩ = some (.int .i64 C) := Go.Joins.cell_of_block q0 1
        have z2 : W5.cell? ⟨NT, 2, none⟩ = some (.slice (some ⟨b', 0, none⟩) n n) := Go.Joins.cell_of_block q0 2
        have O5 := (own_set (own_set (own_set HO.out ⟨NT, 0, none⟩ (.int .i64 R) HNB.out) ⟨NT, 1, none⟩ (.int .i64 C) HNB.out) ⟨NT, 2, none⟩ (.slice (some ⟨b', 0, none⟩) n n) HNB.out)
        rw [← hW] at O5
        have B5 : Below w.heap.size w W5 := by
          have h1 := HNT.out
          rw [hW]
          exact ((HB.out.setCell (by simp; omega) _).setCell (by simp; omega) _).setCell (by simp; omega) _
        simp only [← hW]
        clear hW q0
        simp [bodyPost, results, Try.results76, go_sem, z0, z1, z2]
        exact ⟨O5, HLo.out, B5⟩
  · go_simp
    refine hK.out _ _ ?_ (fun hHeld2 => ?_)
    · (try dsimp only); exact next2_0 (below1 _ _) hHeld
    clear hK K
    obtain ⟨w5, hW5⟩ : ∃ w5, w5 = wD.alloc (Obj.cells #[.int .i64 0, .int .i64 0, .slice none 0 0] 27) := ⟨_, rfl⟩
    obtain ⟨NO, hO⟩ : ∃ NO, NO = wD.heap.size := ⟨_, rfl⟩
    have kO : w5.heap[NO]? = some (Obj.cells #[.int .i64 0, .int .i64 0, .slice none 0 0] 27) := by rw [hW5]; exact FNew.heap_top hO
    have hTO : NT < NO := by rw [hO]; exact (Array.getElem?_eq_some_iff.1 kt).1
    have bel : Below wD.heap.size wD w5 := by rw [hW5]; exact below1 _ _
    replace kt := (bel.block NT (Array.getElem?_eq_some_iff.1 kt).1).trans kt
    rw [← hW5] at hHeld2
    simp only [← hW5, ← hO]
    clear hHeld bel hW5 hO
    have hHeld := hHeld2
    clear hHeld2
    (try simp only [Act.put, List.setIfInBounds_toArray, List.set_cons_zero, List.set_cons_succ, List.getElem_toArray, List.getElem_cons_succ, List.getElem_cons_zero])
    refine wpAnyH_ready (rs := [8]) ?_ (by simp) ?_
    · decide +kernel
    refine AllReadyH.cons rfl (fun K hK => ?_) AllReadyH.nil
    go_simp
    go_at_call 58
    refine (FNew.l04New HN.out HLE.out).mono ?_
    rintro e w3 ⟨b', rfl, ow, lo, bel⟩
    have hNTb : NT < b' := Nat.lt_of_lt_of_le (Array.getElem?_eq_some_iff.1 kt).1 lo
    replace kt := (bel.block NT (Array.getElem?_eq_some_iff.1 kt).1).trans kt
    have lob : w.heap.size ≤ b' := Nat.le_trans hHeld.1.size lo
    have hNOb : NO ≠ b' := Nat.ne_of_lt (Nat.lt_of_lt_of_le (Array.getElem?_eq_some_iff.1 kO).1 lo)
    replace kO := (bel.block NO (Array.getElem?_eq_some_iff.1 kO).1).trans kO
    refine hK.out _ _ ?_ (fun hHeld2 => ?_)
    · (try dsimp only); exact next2_0 bel hHeld
    clear hK K hHeld bel lo
    have hHeld := hHeld2
    clear hHeld2
    (try simp only [Act.put, List.setIfInBounds_toArray, List.set_cons_zero, List.set_cons_succ, List.getElem_toArray, List.getElem_cons_succ, List.getElem_cons_zero])
    refine wpAnyH_ready (rs := [10]) ?_ (by simp) ?_
    · decide +kernel
    refine AllReadyH.cons rfl (fun K hK => ?_) AllReadyH.nil
    have y0 : w3.cell? ⟨NO, 0, none⟩ = some (.int .i64 0) := Go.Joins.cell_of_block kO 0
    have y1 : w3.cell? ⟨NO, 1, none⟩ = some (.int .i64 0) := Go.Joins.cell_of_block kO 1
    have y2 : w3.cell? ⟨NO, 2, none⟩ = some (.slice none 0 0) := Go.Joins.cell_of_block kO 2
    have g0 : w3.frozen? ⟨NO, 0, none⟩ = false := Go.Joins.unfrozen_of_block kO 0
    have g1 : w3.frozen? ⟨NO, 1, none⟩ = false := Go.Joins.unfrozen_of_block kO 1
    have g2 : w3.frozen? ⟨NO, 2, none⟩ = false := Go.Joins.unfrozen_of_block kO 2
    have HKx := hid kO
    have HHx := hid hHeld
    have HTO := hid (And.intro hTO (And.intro hNOb (And.intro hNTb lob)))
    have HKt := hid kt
    have HOx := hid ow
    clear kO hTO hNOb hNTb lob kt ow
    go_simp
    obtain ⟨w4, hW⟩ : ∃ w4, w4 = (((w3.setCell ⟨NO, 0, none⟩ (.int .i64 R)).setCell ⟨NO, 1, none⟩ (.int .i64 C)).setCell ⟨NO, 2, none⟩ (.slice (some ⟨b', 0, none⟩) n n)) := ⟨_, rfl⟩
    have kO : w4.heap[NO]? = some (Obj.cells #[.int .i64 R, .int .i64 C, .slice (some ⟨b', 0, none⟩) n n] 27) := by rw [hW]; exact (Go.Joins.block_setCell (i := 2) (Go.Joins.block_setCell (i := 1) (Go.Joins.block_setCell (i := 0) HKx.out (.int .i64 R)) (.int .i64 C)) (.slice (some ⟨b', 0, none⟩) n n))
    have kT : w4.heap[NT]? = some (Obj.cells #[.int .i64 0, .int .i64 0, .slice none 0 0] 27) := by rw [hW]; exact ((Below.heap_setCell ((w3.setCell ⟨NO, 0, none⟩ (.int .i64 R)).setCell ⟨NO, 1, none⟩ (.int .i64 C)) ⟨NO, 2, none⟩ (.slice (some ⟨b', 0, none⟩) n n) NT (Nat.ne_of_lt HTO.out.1)).trans ((Below.heap_setCell (w3.setCell ⟨NO, 0, none⟩ (.int .i64 R)) ⟨NO, 1, none⟩ (.int .i64 C) NT (Nat.ne_of_lt HTO.out.1)).trans ((Below.heap_setCell w3 ⟨NO, 0, none⟩ (.int .i64 R) NT (Nat.ne_of_lt HTO.out.1)).trans HKt.out)))
    have ow : Own 2 w4 b' (.slice (some ⟨b', 0, none⟩) n n) (List.replicate n 0) := by rw [hW]; exact (own_set (own_set (own_set HOx.out ⟨NO, 0, none⟩ (.int .i64 R) HTO.out.2.1) ⟨NO, 1, none⟩ (.int .i64 C) HTO.out.2.1) ⟨NO, 2, none⟩ (.slice (some ⟨b', 0, none⟩) n n) HTO.out.2.1)
    have B4 : Below w.heap.size w w4 := by
      have h1 := HNT.out; have h2 := HTO.out.1
      rw [hW]
      exact ((HHx.out.1.setCell (by simp; omega) _).setCell (by simp; omega) _).setCell (by simp; omega) _
    refine hK.out _ _ ?_ (fun hHeld5 => ?_)
    · (try dsimp only); rw [← hW]; exact ⟨B4, cell_keep B4 HK.out.1, cell_keep B4 HK.out.2.1, B4.size⟩
    clear hK K hHeld5
    simp only [← hW]
    clear hW y0 y1 y2 g0 g1 g2 hHeld
    have HSX : Hid (Below w.heap.size w w4 ∧ w4.cell? ⟨N, 0, none⟩ = some (.int .i64 R) ∧ w4.cell? ⟨N, 1, none⟩ = some (.int .i64 C) ∧ w4.cell? ⟨N, 2, none⟩ = some (.slice (some ⟨b, off, none⟩) n cap) ∧ Rd w4 b (.slice (some ⟨b, off, none⟩) n cap) zs ∧ w.heap.size ≤ w4.heap.size) := ⟨B4, cell_keep B4 HK.out.1, cell_keep B4 HK.out.2.1, cell_keep B4 HK.out.2.2, HH.out.keep B4 (Nat.le_refl _), B4.size⟩
    have HOW := hid ow
    have HKT := hid kT
    have HKO := hid kO
    have HAp := hid (show N < NT ∧ NT < b' ∧ NO ≠ b' ∧ w.heap.size ≤ b' from ⟨HNN.out.1, HTO.out.2.2.1, HTO.out.2.1, HTO.out.2.2.2⟩)
    clear ow kT kO B4
    (try simp only [Act.put, List.setIfInBounds_toArray, List.set_cons_zero, List.set_cons_succ, List.getElem_toArray, List.getElem_cons_succ, List.getElem_cons_zero])
    refine wpAnyH_done (by kernel_rfl) ?_ _
    go_wp2
    have HCLX : Hid (∀ i, i < n → w4.cell? ⟨b, off + i, none⟩ = some (.int .i64 (zs.getD i 0))) := fun i hi => (HSX.out.1.cell (p := ⟨b, off + i, none⟩) HB0.out).trans (HCell.out i hi)
    have HTL : Hid ((shL zs R C sr sc).length = n) := by simp only [Hid, shL]; rw [grid_len, HN.out]
    have hRC : R ≤ 24 ∧ C ≤ 24 := ⟨HR.out.2, HC.out.2⟩
    go_loopw [8] (fun i wr => ∃ p : Nat, p ≤ R ∧ i = .int .i64 p ∧ Own 2 wr b' (.slice (some ⟨b', 0, none⟩) n n) (filN (shL zs R C sr sc) n (p * C)) ∧ w4.grownBy wr (some b')) (fun i _ => R - (intOf i).toNat)
    case atStart => exact ⟨0, Nat.zero_le _, rfl, by rw [Nat.zero_mul, filN_zero]; exact HOW.out, g_refl _ _⟩
    case round =>
      obtain ⟨p, hp, rfl, hown, hg⟩ := hrel
      have c0 := g_cell hg HSX.out.2.1 (Nat.ne_of_lt (Nat.lt_trans HAp.out.1 HAp.out.2.1))
      have c1 := g_cell hg HSX.out.2.2.1 (Nat.ne_of_lt (Nat.lt_trans HAp.out.1 HAp.out.2.1))
      have c2 := g_cell hg HSX.out.2.2.2.1 (Nat.ne_of_lt (Nat.lt_trans HAp.out.1 HAp.out.2.1))
      have d0 := g_cell hg (Go.Joins.cell_of_block HKO.out 0) (HAp.out.2.2.1)
      have d1 := g_cell hg (Go.Joins.cell_of_block HKO.out 1) (HAp.out.2.2.1)
      have d2 := g_cell hg (Go.Joins.cell_of_block HKO.out 2) (HAp.out.2.2.1)
      by_cases hlt : p < R
      · have HO1 := hid hown
        have HG1 := hid hg
        have hpi : (p : Int) < (R : Int) := by omega
        clear hown hg
        go_wp2
        clear c0 c1 c2 d0 d1 d2
        go_loopw [9] (fun k wx => ∃ q : Nat, q ≤ C ∧ k = .int .i64 q ∧ Own 2 wx b' (.slice (some ⟨b', 0, none⟩) n n) (filN (shL zs R C sr sc) n (p * C + q)) ∧ w4.grownBy wx (some b')) (fun k _ => C - (intOf k).toNat)
        case atStart => exact ⟨0, Nat.zero_le _, rfl, HO1.out, HG1.out⟩
        case round =>
          obtain ⟨q, hq2, rfl, hown, hg⟩ := hrel
          have c0 := g_cell hg HSX.out.2.1 (Nat.ne_of_lt (Nat.lt_trans HAp.out.1 HAp.out.2.1))
          have c1 := g_cell hg HSX.out.2.2.1 (Nat.ne_of_lt (Nat.lt_trans HAp.out.1 HAp.out.2.1))
          have c2 := g_cell hg HSX.out.2.2.2.1 (Nat.ne_of_lt (Nat.lt_trans HAp.out.1 HAp.out.2.1))
          have d0 := g_cell hg (Go.Joins.cell_of_block HKO.out 0) (HAp.out.2.2.1)
          have d1 := g_cell hg (Go.Joins.cell_of_block HKO.out 1) (HAp.out.2.2.1)
          have d2 := g_cell hg (Go.Joins.cell_of_block HKO.out 2) (HAp.out.2.2.1)
          by_cases hlt2 : q < C
          · obtain ⟨S, hS⟩ : ∃ S, S = shS R C sr sc p q := ⟨_, rfl⟩
            obtain ⟨T, hT⟩ : ∃ T, T = p * C + q := ⟨_, rfl⟩
            have hSn : S < n := by rw [hS, HN.out]; exact shS_lt _ _ _ _ HR.out.1 HC.out.1
            have hTn : T < n := by rw [hT, HN.out]; exact pos_bd hlt hlt2
            have e0 : IntKind.i64.wrap ((p : Int) - sr) = (p : Int) - sr := by have := HSR.out; rw [IntKind.wrap_i64]; omega
            have e1 : IntKind.i64.wrap ((q : Int) - sc) = (q : Int) - sc := by have := HSC.out; rw [IntKind.wrap_i64]; omega
            have e4 := (wrap_pos (i := p) (C := C) (k := q) (by have := HLE.out; omega)).1
            have e5 := (wrap_pos (i := p) (C := C) (k := q) (by have := HLE.out; omega)).2
            rw [← hT] at e5 hown
            obtain ⟨x, hx⟩ : ∃ x, x = zs.getD S 0 := ⟨_, rfl⟩
            have hcx : wr.cell? ⟨b, off + S, none⟩ = some (.int .i64 x) := by rw [hx]; exact g_cell hg ((HCLX.out S hSn)) (Nat.ne_of_lt (Nat.lt_of_lt_of_le HB0.out HAp.out.2.2.2))
            have HTX : Hid ((shL zs R C sr sc).getD T 0 = x) := by simp only [Hid, shL]; rw [hT, grid_get _ hlt hlt2, hx, hS]
            have HBW := g_below HSX.out.1 hg HAp.out.2.2.2
            have hx1 : N ≠ b' := Nat.ne_of_lt (Nat.lt_trans HAp.out.1 HAp.out.2.1)
            have hx2 : NO ≠ b' := HAp.out.2.2.1
            have hx3 : b ≠ b' := Nat.ne_of_lt (Nat.lt_of_lt_of_le HB0.out HAp.out.2.2.2)
            have HO1 := hid hown
            have HG1 := hid hg
            have HT := hid hT
            have HS := hid hS
            obtain ⟨P2, hP2⟩ : ∃ P2, P2 = p * C := ⟨_, rfl⟩
            rw [← hP2] at e4 e5
            have hpi : (p : Int) < (R : Int) := by omega
            have hqi : (q : Int) < (C : Int) := by omega
            have hSi : (S : Int) < (n : Int) := by omega
            have hTi : (T : Int) < (n : Int) := by omega
            clear hx hown hg hP2 hT hS
            go_wp2_with fail
            refine wp_region_held_drew (S := (fun ww => Below w.heap.size w ww ∧ ww.cell? ⟨N, 0, none⟩ = some (.int .i64 R) ∧ ww.cell? ⟨N, 1, none⟩ = some (.int .i64 C) ∧ ww.cell? ⟨N, 2, none⟩ = some (.slice (some ⟨b, off, none⟩) n cap) ∧ ww.cell? ⟨NO, 0, none⟩ = some (.int .i64 R) ∧ ww.cell? ⟨NO, 1, none⟩ = some (.int .i64 C) ∧ ww.cell? ⟨NO, 2, none⟩ = some (.slice (some ⟨b', 0, none⟩) n n) ∧ ww.cell? ⟨b, off + S, none⟩ = some (.int .i64 x) ∧ w.heap.size ≤ ww.heap.size)) (by kernel_rfl) ?_ (fun hHeld => ?_)
            · ((try dsimp only); exact ⟨HBW.drew, c0, c1, c2, d0, d1, d2, hcx, Nat.le_trans HSX.out.2.2.2.2.2 HG1.out.size⟩)
            have ow : Own 2 wr.drew b' (.slice (some ⟨b', 0, none⟩) n n) (filN (shL zs R C sr sc) n T) := HO1.out
            have g : w4.grownBy wr.drew (some b') := g_drew HG1.out
            clear hcx c0 c1 c2 d0 d1 d2 HBW
            (refine wpAnyH_take (i := 0) (v := ?_) rfl ?_ ?_ ?_ (fun _ _ _ h => h) (Or.inl ⟨?_, ?_⟩) ?_ ?_; rotate_left 1; (focus decide +kernel); (focus decide +kernel); (focus decide +kernel); (focus rfl); (focus (intro w hSw; (try dsimp only at hSw); go_simp; (try (with_reducible rfl)); done)); (focus assumption); (try simp only [Act.put, List.setIfInBounds_toArray, List.set_cons_zero, List.set_cons_succ, List.getElem_toArray, List.getElem_cons_succ, List.getElem_cons_zero]))
            (refine wpAnyH_take (i := 1) (v := ?_) rfl ?_ ?_ ?_ (fun _ _ _ h => h) (Or.inl ⟨?_, ?_⟩) ?_ ?_; rotate_left 1; (focus decide +kernel); (focus decide +kernel); (focus decide +kernel); (focus rfl); (focus (intro w hSw; (try dsimp only at hSw); go_simp; (try (with_reducible rfl)); done)); (focus assumption); (try simp only [Act.put, List.setIfInBounds_toArray, List.set_cons_zero, List.set_cons_succ, List.getElem_toArray, List.getElem_cons_succ, List.getElem_cons_zero]))
            (refine wpAnyH_take (i := 2) (v := ?_) rfl ?_ ?_ ?_ (fun _ _ _ h => h) (Or.inl ⟨?_, ?_⟩) ?_ ?_; rotate_left 1; (focus decide +kernel); (focus decide +kernel); (focus decide +kernel); (focus rfl); (focus (intro w hSw; (try dsimp only at hSw); go_simp; (try (with_reducible rfl)); done)); (focus assumption); (try simp only [Act.put, List.setIfInBounds_toArray, List.set_cons_zero, List.set_cons_succ, List.getElem_toArray, List.getElem_cons_succ, List.getElem_cons_zero]))
            (refine wpAnyH_take (i := 3) (v := ?_) rfl ?_ ?_ ?_ (fun _ _ _ h => h) (Or.inl ⟨?_, ?_⟩) ?_ ?_; rotate_left 1; (focus decide +kernel); (focus decide +kernel); (focus decide +kernel); (focus rfl); (focus (intro w hSw; (try dsimp only at hSw); go_simp; (try (with_reducible rfl)); done)); (focus assumption); (try simp only [Act.put, List.setIfInBounds_toArray, List.set_cons_zero, List.set_cons_succ, List.getElem_toArray, List.getElem_cons_succ, List.getElem_cons_zero]))
            (refine wpAnyH_take (i := 4) (v := ?_) rfl ?_ ?_ ?_ (fun _ _ _ h => h) (Or.inl ⟨?_, ?_⟩) ?_ ?_; rotate_left 1; (focus decide +kernel); (focus decide +kernel); (focus decide +kernel); (focus rfl); (focus (intro w hSw; (try dsimp only at hSw); go_simp; (try (with_reducible rfl)); done)); (focus assumption); (try simp only [Act.put, List.setIfInBounds_toArray, List.set_cons_zero, List.set_cons_succ, List.getElem_toArray, List.getElem_cons_succ, List.getElem_cons_zero]))
            (refine wpAnyH_take (i := 5) (v := ?_) rfl ?_ ?_ ?_ (fun _ _ _ h => h) (Or.inl ⟨?_, ?_⟩) ?_ ?_; rotate_left 1; (focus decide +kernel); (focus decide +kernel); (focus decide +kernel); (focus rfl); (focus (intro w hSw; (try dsimp only at hSw); go_simp; (try (with_reducible rfl)); done)); (focus assumption); (try simp only [Act.put, List.setIfInBounds_toArray, List.set_cons_zero, List.set_cons_succ, List.getElem_toArray, List.getElem_cons_succ, List.getElem_cons_zero]))
            (refine wpAnyH_take (i := 6) (v := ?_) rfl ?_ ?_ ?_ (fun _ _ _ h => h) (Or.inl ⟨?_, ?_⟩) ?_ ?_; rotate_left 1; (focus decide +kernel); (focus decide +kernel); (focus decide +kernel); (focus rfl); (focus (intro w hSw; (try dsimp only at hSw); go_simp; (try (with_reducible rfl)); done)); (focus assumption); (try simp only [Act.put, List.setIfInBounds_toArray, List.set_cons_zero, List.set_cons_succ, List.getElem_toArray, List.getElem_cons_succ, List.getElem_cons_zero]))
            (refine wpAnyH_take (i := 7) (v := ?_) rfl ?_ ?_ ?_ (fun _ _ _ h => h) (Or.inl ⟨?_, ?_⟩) ?_ ?_; rotate_left 1; (focus decide +kernel); (focus decide +kernel); (focus decide +kernel); (focus rfl); (focus (intro w hSw; (try dsimp only at hSw); go_simp; (try (with_reducible rfl)); done)); (focus assumption); (try simp only [Act.put, List.setIfInBounds_toArray, List.set_cons_zero, List.set_cons_succ, List.getElem_toArray, List.getElem_cons_succ, List.getElem_cons_zero]))
            (refine wpAnyH_take (i := 8) (v := ?_) rfl ?_ ?_ ?_ (fun _ _ _ h => h) (Or.inl ⟨?_, ?_⟩) ?_ ?_; rotate_left 1; (focus decide +kernel); (focus decide +kernel); (focus decide +kernel); (focus rfl); (focus (intro w hSw; (try dsimp only at hSw); go_simp; (try (with_reducible rfl)); done)); (focus assumption); (try simp only [Act.put, List.setIfInBounds_toArray, List.set_cons_zero, List.set_cons_succ, List.getElem_toArray, List.getElem_cons_succ, List.getElem_cons_zero]))
            (refine wpAnyH_take (i := 9) (v := ?_) rfl ?_ ?_ ?_ (fun _ _ _ h => h) (Or.inl ⟨?_, ?_⟩) ?_ ?_; rotate_left 1; (focus decide +kernel); (focus decide +kernel); (focus decide +kernel); (focus rfl); (focus (intro w hSw; (try dsimp only at hSw); go_simp; (try (with_reducible rfl)); done)); (focus assumption); (try simp only [Act.put, List.setIfInBounds_toArray, List.set_cons_zero, List.set_cons_succ, List.getElem_toArray, List.getElem_cons_succ, List.getElem_cons_zero]))
            (refine wpAnyH_take (i := 10) (v := ?_) rfl ?_ ?_ ?_ (fun _ _ _ h => h) (Or.inl ⟨?_, ?_⟩) ?_ ?_; rotate_left 1; (focus decide +kernel); (focus decide +kernel); (focus decide +kernel); (focus rfl); (focus (intro w hSw; (try dsimp only at hSw); go_simp; (try (with_reducible rfl)); done)); (focus assumption); (try simp only [Act.put, List.setIfInBounds_toArray, List.set_cons_zero, List.set_cons_succ, List.getElem_toArray, List.getElem_cons_succ, List.getElem_cons_zero]))
            (refine wpAnyH_take (i := 11) (v := ?_) rfl ?_ ?_ ?_ (fun _ _ _ h => h) (Or.inl ⟨?_, ?_⟩) ?_ ?_; rotate_left 1; (focus decide +kernel); (focus decide +kernel); (focus decide +kernel); (focus rfl); (focus (intro w hSw; (try dsimp only at hSw); go_simp; (try (with_reducible rfl)); done)); (focus assumption); (try simp only [Act.put, List.setIfInBounds_toArray, List.set_cons_zero, List.set_cons_succ, List.getElem_toArray, List.getElem_cons_succ, List.getElem_cons_zero]))
            (refine wpAnyH_take (i := 12) (v := ?_) rfl ?_ ?_ ?_ (fun _ _ _ h => h) (Or.inl ⟨?_, ?_⟩) ?_ ?_; rotate_left 1; (focus decide +kernel); (focus decide +kernel); (focus decide +kernel); (focus rfl); (focus (intro w hSw; (try dsimp only at hSw); go_simp; (try (with_reducible rfl)); done)); (focus assumption); (try simp only [Act.put, List.setIfInBounds_toArray, List.set_cons_zero, List.set_cons_succ, List.getElem_toArray, List.getElem_cons_succ, List.getElem_cons_zero]))
            (refine wpAnyH_take (i := 13) (v := ?_) rfl ?_ ?_ ?_ (fun _ _ _ h => h) (Or.inl ⟨?_, ?_⟩) ?_ ?_; rotate_left 1; (focus decide +kernel); (focus decide +kernel); (focus decide +kernel); (focus rfl); (focus (intro w hSw; (try dsimp only at hSw); go_simp; (try (with_reducible rfl)); done)); (focus assumption); (try simp only [Act.put, List.setIfInBounds_toArray, List.set_cons_zero, List.set_cons_succ, List.getElem_toArray, List.getElem_cons_succ, List.getElem_cons_zero]))
            (refine wpAnyH_take (i := 14) (v := ?_) rfl ?_ ?_ ?_ (fun _ _ _ h => h) (Or.inl ⟨?_, ?_⟩) ?_ ?_; rotate_left 1; (focus decide +kernel); (focus decide +kernel); (focus decide +kernel); (focus rfl); (focus (intro w hSw; (try dsimp only at hSw); go_simp; (try (with_reducible rfl)); done)); (focus assumption); (try simp only [Act.put, List.setIfInBounds_toArray, List.set_cons_zero, List.set_cons_succ, List.getElem_toArray, List.getElem_cons_succ, List.getElem_cons_zero]))
            (refine wpAnyH_take (i := 15) (v := ?_) rfl ?_ ?_ ?_ (fun _ _ _ h => h) (Or.inl ⟨?_, ?_⟩) ?_ ?_; rotate_left 1; (focus decide +kernel); (focus decide +kernel); (focus decide +kernel); (focus rfl); (focus (intro w hSw; (try dsimp only at hSw); go_simp; (try (with_reducible rfl)); done)); (focus assumption); (try simp only [Act.put, List.setIfInBounds_toArray, List.set_cons_zero, List.set_cons_succ, List.getElem_toArray, List.getElem_cons_succ, List.getElem_cons_zero]))
            (refine wpAnyH_take (i := 16) (v := ?_) rfl ?_ ?_ ?_ (fun _ _ _ h => h) (Or.inl ⟨?_, ?_⟩) ?_ ?_; rotate_left 1; (focus decide +kernel); (focus decide +kernel); (focus decide +kernel); (focus rfl); (focus (intro w hSw; (try dsimp only at hSw); go_simp; (try (with_reducible rfl)); done)); (focus assumption); (try simp only [Act.put, List.setIfInBounds_toArray, List.set_cons_zero, List.set_cons_succ, List.getElem_toArray, List.getElem_cons_succ, List.getElem_cons_zero]))
            (refine wpAnyH_take (i := 17) (v := ?_) rfl ?_ ?_ ?_ (fun _ _ _ h => h) (Or.inl ⟨?_, ?_⟩) ?_ ?_; rotate_left 1; (focus decide +kernel); (focus decide +kernel); (focus decide +kernel); (focus rfl); (focus (intro w hSw; (try dsimp only at hSw); go_simp; (try (with_reducible rfl)); done)); (focus assumption); (try simp only [Act.put, List.setIfInBounds_toArray, List.set_cons_zero, List.set_cons_succ, List.getElem_toArray, List.getElem_cons_succ, List.getElem_cons_zero]))
            (refine wpAnyH_take (i := 18) (v := ?_) rfl ?_ ?_ ?_ (fun _ _ _ h => h) (Or.inl ⟨?_, ?_⟩) ?_ ?_; rotate_left 1; (focus decide +kernel); (focus decide +kernel); (focus decide +kernel); (focus rfl); (focus (intro w hSw; (try dsimp only at hSw); go_simp; (try (with_reducible rfl)); done)); (focus assumption); (try simp only [Act.put, List.setIfInBounds_toArray, List.set_cons_zero, List.set_cons_succ, List.getElem_toArray, List.getElem_cons_succ, List.getElem_cons_zero]))
            (refine wpAnyH_take (i := 19) (v := ?_) rfl ?_ ?_ ?_ (fun _ _ _ h => h) (Or.inl ⟨?_, ?_⟩) ?_ ?_; rotate_left 1; (focus decide +kernel); (focus decide +kernel); (focus decide +kernel); (focus rfl); (focus (intro w hSw; (try dsimp only at hSw); go_simp; (try (with_reducible rfl)); done)); (focus assumption); (try simp only [Act.put, List.setIfInBounds_toArray, List.set_cons_zero, List.set_cons_succ, List.getElem_toArray, List.getElem_cons_succ, List.getElem_cons_zero]))
            (refine wpAnyH_take (i := 20) (v := ?_) rfl ?_ ?_ ?_ (fun _ _ _ h => h) (Or.inl ⟨?_, ?_⟩) ?_ ?_; rotate_left 1; (focus decide +kernel); (focus decide +kernel); (focus decide +kernel); (focus rfl); (focus (intro w hSw; (try dsimp only at hSw); go_simp; (try (with_reducible rfl)); done)); (focus assumption); (try simp only [Act.put, List.setIfInBounds_toArray, List.set_cons_zero, List.set_cons_succ, List.getElem_toArray, List.getElem_cons_succ, List.getElem_cons_zero]))
            refine wpAnyH_ready (rs := [21]) ?_ (by simp) ?_
            · decide +kernel
            refine AllReadyH.cons rfl (fun K hK => ?_) AllReadyH.nil
            go_simp
            go_at_call 85
            refine (l04RoundQ hHeld.2.1 hHeld.2.2.1 HR.out HC.out HSR.out HSC.out (by omega) (by omega) HS.out).mono ?_
            rintro e wa ⟨rfl, bel⟩
            replace ow := ow.keep bel
            replace g := g_bel g bel
            refine hK.out _ _ ?_ (fun hHeld2 => ?_)
            · (try dsimp only); exact next7_0 bel hHeld
            clear hK K hHeld bel
            have hHeld := hHeld2
            clear hHeld2
            (try simp only [Act.put, List.setIfInBounds_toArray, List.set_cons_zero, List.set_cons_succ, List.getElem_toArray, List.getElem_cons_succ, List.getElem_cons_zero])
            (refine wpAnyH_take (i := 22) (v := ?_) rfl ?_ ?_ ?_ (fun _ _ _ h => h) (Or.inl ⟨?_, ?_⟩) ?_ ?_; rotate_left 1; (focus decide +kernel); (focus decide +kernel); (focus decide +kernel); (focus rfl); (focus (intro w hSw; (try dsimp only at hSw); go_simp; (try (with_reducible rfl)); done)); (focus assumption); (try simp only [Act.put, List.setIfInBounds_toArray, List.set_cons_zero, List.set_cons_succ, List.getElem_toArray, List.getElem_cons_succ, List.getElem_cons_zero]))
            (refine wpAnyH_take (i := 23) (v := ?_) rfl ?_ ?_ ?_ (fun _ _ _ h => h) (Or.inl ⟨?_, ?_⟩) ?_ ?_; rotate_left 1; (focus decide +kernel); (focus decide +kernel); (focus decide +kernel); (focus rfl); (focus (intro w hSw; (try dsimp only at hSw); go_simp; (try (with_reducible rfl)); done)); (focus assumption); (try simp only [Act.put, List.setIfInBounds_toArray, List.set_cons_zero, List.set_cons_succ, List.getElem_toArray, List.getElem_cons_succ, List.getElem_cons_zero]))
            (refine wpAnyH_take (i := 24) (v := ?_) rfl ?_ ?_ ?_ (fun _ _ _ h => h) (Or.inl ⟨?_, ?_⟩) ?_ ?_; rotate_left 1; (focus decide +kernel); (focus decide +kernel); (focus decide +kernel); (focus rfl); (focus (intro w hSw; (try dsimp only at hSw); go_simp; (try (with_reducible rfl)); done)); (focus assumption); (try simp only [Act.put, List.setIfInBounds_toArray, List.set_cons_zero, List.set_cons_succ, List.getElem_toArray, List.getElem_cons_succ, List.getElem_cons_zero]))
            refine wpAnyH_ready (rs := [25]) ?_ (by simp) ?_
            · decide +kernel
            refine AllReadyH.cons rfl (fun K hK => ?_) AllReadyH.nil
            have hox := ow.cell (i := T) (by rw [filN_len _ _ _ HTL.out (Nat.le_of_lt hTn)]; exact hTn)
            have hof := ow.free T
            go_simp
            have ow2 := ow.set T x
            have g2 := g_set g T (.int .i64 x)
            refine hK.out _ _ ?_ (fun hHeld5 => ?_)
            · (try dsimp only); obtain ⟨h0, h1, h2, h3, h4, h5, h6, h7, h8⟩ := hHeld; exact ⟨h0.setCell HAp.out.2.2.2 _, set_cell h1 hx1, set_cell h2 hx1, set_cell h3 hx1, set_cell h4 hx2, set_cell h5 hx2, set_cell h6 hx2, set_cell h7 hx3, by simpa [World.setCell] using h8⟩
            clear hK K hHeld5
            obtain ⟨wz, hz⟩ : ∃ wz, wz = wa.setCell ⟨b', T, none⟩ (.int .i64 x) := ⟨_, rfl⟩
            rw [← hz] at ow2 g2
            simp only [← hz]
            clear hz hox hof hHeld
            (try simp only [Act.put, List.setIfInBounds_toArray, List.set_cons_zero, List.set_cons_succ, List.getElem_toArray, List.getElem_cons_succ, List.getElem_cons_zero])
            refine wpAnyH_done (by kernel_rfl) ?_ _
            have HO3 := hid ow2
            have HG3 := hid g2
            clear ow g ow2 g2
            go_wp2
            go_roundw
            case rel =>
              refine ⟨q + 1, by omega, by go_num, ?_, HG3.out⟩
              have hs := filN_set (shL zs R C sr sc) n T HTL.out hTn
              rw [HTX.out] at hs
              rw [show p * C + (q + 1) = T + 1 by have := HT.out; omega, ← hs]
              exact HO3.out
            case measure => simp [intOf]; omega
          · have hqR : C = q := by omega
            have HO2 := hid hown
            have HG2 := hid hg
            clear hown hg
            subst hqR
            go_wp2
            go_roundw
            case rel =>
              refine ⟨p + 1, by omega, by go_num, ?_, HG2.out⟩
              rw [Nat.succ_mul]
              exact HO2.out
            case measure => simp [intOf]; omega
      · have hpC : R = p := by omega
        subst hpC
        rw [show R * C = n by rw [HN.out], filN_all _ _ HTL.out] at hown
        have hg2 := hg
        have kTr := g_heap hg HKT.out (Nat.ne_of_lt HAp.out.2.1)
        have HB := hid (g_below HSX.out.1 hg HAp.out.2.2.2)
        have HLo : Hid (w.heap.size ≤ b') := HAp.out.2.2.2
        have HNB : Hid (NT ≠ b') := Nat.ne_of_lt HAp.out.2.1
        have HO := hid hown
        clear hown hg hg2
        have y0 : wr.cell? ⟨NT, 0, none⟩ = some (.int .i64 0) := Go.Joins.cell_of_block kTr 0
        have y1 : wr.cell? ⟨NT, 1, none⟩ = some (.int .i64 0) := Go.Joins.cell_of_block kTr 1
        have y2 : wr.cell? ⟨NT, 2, none⟩ = some (.slice none 0 0) := Go.Joins.cell_of_block kTr 2
        have g0 : wr.frozen? ⟨NT, 0, none⟩ = false := Go.Joins.unfrozen_of_block kTr 0
        have g1 : wr.frozen? ⟨NT, 1, none⟩ = false := Go.Joins.unfrozen_of_block kTr 1
        have g2 : wr.frozen? ⟨NT, 2, none⟩ = false := Go.Joins.unfrozen_of_block kTr 2
        have HKx := hid kTr
        clear kTr
        go_wp2
        obtain ⟨W5, hW⟩ : ∃ W5, W5 = (((wr.setCell ⟨NT, 0, none⟩ (.int .i64 R)).setCell ⟨NT, 1, none⟩ (.int .i64 C)).setCell ⟨NT, 2, none⟩ (.slice (some ⟨b', 0, none⟩) n n)) := ⟨_, rfl⟩
        have q0 := (Go.Joins.block_setCell (i := 2) (Go.Joins.block_setCell (i := 1) (Go.Joins.block_setCell (i := 0) HKx.out (.int .i64 R)) (.int .i64 C)) (.slice (some ⟨b', 0, none⟩) n n))
        rw [← hW] at q0
        have z0 : W5.cell? ⟨NT, 0, none⟩ = some (.int .i64 R) := Go.Joins.cell_of_block q0 0
        have z1 : W5.cell? ⟨NT, 1, none⟩ = some (.int .i64 C) := Go.Joins.cell_of_block q0 1
        have z2 : W5.cell? ⟨NT, 2, none⟩ = some (.slice (some ⟨b', 0, none⟩) n n) := Go.Joins.cell_of_block q0 2
        have O5 := (own_set (own_set (own_set HO.out ⟨NT, 0, none⟩ (.int .i64 R) HNB.out) ⟨NT, 1, none⟩ (.int .i64 C) HNB.out) ⟨NT, 2, none⟩ (.slice (some ⟨b', 0, none⟩) n n) HNB.out)
        rw [← hW] at O5
        have B5 : Below w.heap.size w W5 := by
          have h1 := HNT.out
          rw [hW]
          exact ((HB.out.setCell (by simp; omega) _).setCell (by simp; omega) _).setCell (by simp; omega) _
        simp only [← hW]
        clear hW q0
        simp [bodyPost, results, Try.results76, go_sem, z0, z1, z2]
        exact ⟨O5, HLo.out, B5⟩

set_option maxHeartbeats 2000000 in
theorem specNo1 {w : World} {s r sr sc : Int} {b : Nat} {v : Value} {zs : List Int} (h : Rd w b v zs) (hq : fieldB s r zs = false) :
    Calls Try.prog 45 #[ruleV s r v, .int .i64 sr, .int .i64 sc] w fun e w' => e = .returned (.tuple #[ruleV 0 0 (.slice none 0 0), .bool false]) ∧ Below w.heap.size w w' := by
  have HH := hid h
  have HQ := hid hq
  obtain ⟨ao, cap, rfl, hc, hm, _⟩ := h
  clear hc hm hq
  go_enter Try.func45, Try.ntmps45
  go_wp2_with fail
  obtain ⟨w1, hW⟩ : ∃ w1, w1 = (w.alloc (Obj.cells #[.int .i64 s, .int .i64 r, .slice ao zs.length cap] 27)).alloc (Obj.cells #[.int .i64 0, .int .i64 0, .slice none 0 0] 27) := ⟨_, rfl⟩
  obtain ⟨N, hN⟩ : ∃ N, N = w.heap.size := ⟨_, rfl⟩
  obtain ⟨NT, hM⟩ : ∃ NT, NT = N + 1 := ⟨_, rfl⟩
  have st : Below w.heap.size w w1 ∧ w1.cell? ⟨N, 0, none⟩ = some (.int .i64 s) ∧ w1.cell? ⟨N, 1, none⟩ = some (.int .i64 r) ∧ w1.cell? ⟨N, 2, none⟩ = some (.slice ao zs.length cap) ∧ Rd w1 b (.slice ao zs.length cap) zs ∧ w.heap.size ≤ w1.heap.size := by
    rw [hW, hN]
    exact ⟨Go.Joins.below_alloc2 _ _ _, by simp, by simp, by simp, HH.out.keep (Go.Joins.below_alloc2 _ _ _) (Nat.le_refl _), by simp; omega⟩
  have kT : w1.heap[NT]? = some (Obj.cells #[.int .i64 0, .int .i64 0, .slice none 0 0] 27) := by rw [hW]; exact FNew.heap_top (by rw [hM, hN]; simp)
  have HNT : Hid (w.heap.size ≤ NT) := by simp only [Hid]; omega
  have HNN : Hid (NT = N + 1 ∧ N = w.heap.size) := ⟨hM, hN⟩
  simp only [← hW, ← hN, ← hM]
  clear hW hN hM
  go_at_call 48
  refine (FSpec.is (rd3_1_0 st) st.2.1 st.2.2.1 st.2.2.2.1).mono ?_
  rw [HQ.out]
  rintro e w2 ⟨rfl, m, hw2⟩
  have bel : Below w1.heap.size w1 w2 := by rw [hw2]; exact FSpec.below_drewN' _ _ _
  clear hw2
  replace st := next3_1 bel st
  replace kT := (bel.block NT (Array.getElem?_eq_some_iff.1 kT).1).trans kT
  clear bel

  have HB := hid st.1
  have y0 : w2.cell? ⟨NT, 0, none⟩ = some (.int .i64 0) := Go.Joins.cell_of_block kT 0
  have y1 : w2.cell? ⟨NT, 1, none⟩ = some (.int .i64 0) := Go.Joins.cell_of_block kT 1
  have y2 : w2.cell? ⟨NT, 2, none⟩ = some (.slice none 0 0) := Go.Joins.cell_of_block kT 2
  have g0 : w2.frozen? ⟨NT, 0, none⟩ = false := Go.Joins.unfrozen_of_block kT 0
  have g1 : w2.frozen? ⟨NT, 1, none⟩ = false := Go.Joins.unfrozen_of_block kT 1
  have g2 : w2.frozen? ⟨NT, 2, none⟩ = false := Go.Joins.unfrozen_of_block kT 2
  have HKx := hid kT
  clear kT
  go_wp2
  obtain ⟨W5, hW⟩ : ∃ W5, W5 = (((w2.setCell ⟨NT, 0, none⟩ (.int .i64 0)).setCell ⟨NT, 1, none⟩ (.int .i64 0)).setCell ⟨NT, 2, none⟩ (.slice none 0 0)) := ⟨_, rfl⟩
  have q0 := (Go.Joins.block_setCell (i := 2) (Go.Joins.block_setCell (i := 1) (Go.Joins.block_setCell (i := 0) HKx.out (.int .i64 0)) (.int .i64 0)) (.slice none 0 0))
  rw [← hW] at q0
  have z0 : W5.cell? ⟨NT, 0, none⟩ = some (.int .i64 0) := Go.Joins.cell_of_block q0 0
  have z1 : W5.cell? ⟨NT, 1, none⟩ = some (.int .i64 0) := Go.Joins.cell_of_block q0 1
  have z2 : W5.cell? ⟨NT, 2, none⟩ = some (.slice none 0 0) := Go.Joins.cell_of_block q0 2
  have B5 : Below w.heap.size w W5 := by
    have h1 := HNT.out
    rw [hW]
    exact ((HB.out.setCell (by simp; omega) _).setCell (by simp; omega) _).setCell (by simp; omega) _
  simp only [← hW]
  clear hW q0
  simp [bodyPost, results, Try.results45, go_sem, z0, z1, z2]
  exact B5

set_option maxHeartbeats 2000000 in
theorem specNo2 {w : World} {s r sr sc : Int} {b : Nat} {v : Value} {zs : List Int} (h : Rd w b v zs) (hq : fieldB s r zs = true) (hk : decide (-24 ≤ sr ∧ sr ≤ 24) = false) :
    Calls Try.prog 45 #[ruleV s r v, .int .i64 sr, .int .i64 sc] w fun e w' => e = .returned (.tuple #[ruleV 0 0 (.slice none 0 0), .bool false]) ∧ Below w.heap.size w w' := by
  have HH := hid h
  have HQ := hid hq
  obtain ⟨ao, cap, rfl, hc, hm, _⟩ := h
  have HK := hid hk
  clear hc hm hq hk
  go_enter Try.func45, Try.ntmps45
  go_wp2_with fail
  obtain ⟨w1, hW⟩ : ∃ w1, w1 = (w.alloc (Obj.cells #[.int .i64 s, .int .i64 r, .slice ao zs.length cap] 27)).alloc (Obj.cells #[.int .i64 0, .int .i64 0, .slice none 0 0] 27) := ⟨_, rfl⟩
  obtain ⟨N, hN⟩ : ∃ N, N = w.heap.size := ⟨_, rfl⟩
  obtain ⟨NT, hM⟩ : ∃ NT, NT = N + 1 := ⟨_, rfl⟩
  have st : Below w.heap.size w w1 ∧ w1.cell? ⟨N, 0, none⟩ = some (.int .i64 s) ∧ w1.cell? ⟨N, 1, none⟩ = some (.int .i64 r) ∧ w1.cell? ⟨N, 2, none⟩ = some (.slice ao zs.length cap) ∧ Rd w1 b (.slice ao zs.length cap) zs ∧ w.heap.size ≤ w1.heap.size := by
    rw [hW, hN]
    exact ⟨Go.Joins.below_alloc2 _ _ _, by simp, by simp, by simp, HH.out.keep (Go.Joins.below_alloc2 _ _ _) (Nat.le_refl _), by simp; omega⟩
  have kT : w1.heap[NT]? = some (Obj.cells #[.int .i64 0, .int .i64 0, .slice none 0 0] 27) := by rw [hW]; exact FNew.heap_top (by rw [hM, hN]; simp)
  have HNT : Hid (w.heap.size ≤ NT) := by simp only [Hid]; omega
  have HNN : Hid (NT = N + 1 ∧ N = w.heap.size) := ⟨hM, hN⟩
  simp only [← hW, ← hN, ← hM]
  clear hW hN hM
  go_at_call 48
  refine (FSpec.is (rd3_1_0 st) st.2.1 st.2.2.1 st.2.2.2.1).mono ?_
  rw [HQ.out]
  rintro e w2 ⟨rfl, m, hw2⟩
  have bel : Below w1.heap.size w1 w2 := by rw [hw2]; exact FSpec.below_drewN' _ _ _
  clear hw2
  replace st := next3_1 bel st
  replace kT := (bel.block NT (Array.getElem?_eq_some_iff.1 kT).1).trans kT
  clear bel

  go_wp2_with fail
  go_at_call 75
  refine inB.mono ?_
  rw [HK.out]
  rintro e w5 ⟨rfl, rfl⟩
  have HB := hid st.1
  have y0 : w2.cell? ⟨NT, 0, none⟩ = some (.int .i64 0) := Go.Joins.cell_of_block kT 0
  have y1 : w2.cell? ⟨NT, 1, none⟩ = some (.int .i64 0) := Go.Joins.cell_of_block kT 1
  have y2 : w2.cell? ⟨NT, 2, none⟩ = some (.slice none 0 0) := Go.Joins.cell_of_block kT 2
  have g0 : w2.frozen? ⟨NT, 0, none⟩ = false := Go.Joins.unfrozen_of_block kT 0
  have g1 : w2.frozen? ⟨NT, 1, none⟩ = false := Go.Joins.unfrozen_of_block kT 1
  have g2 : w2.frozen? ⟨NT, 2, none⟩ = false := Go.Joins.unfrozen_of_block kT 2
  have HKx := hid kT
  clear kT
  go_wp2
  obtain ⟨W5, hW⟩ : ∃ W5, W5 = (((w2.setCell ⟨NT, 0, none⟩ (.int .i64 0)).setCell ⟨NT, 1, none⟩ (.int .i64 0)).setCell ⟨NT, 2, none⟩ (.slice none 0 0)) := ⟨_, rfl⟩
  have q0 := (Go.Joins.block_setCell (i := 2) (Go.Joins.block_setCell (i := 1) (Go.Joins.block_setCell (i := 0) HKx.out (.int .i64 0)) (.int .i64 0)) (.slice none 0 0))
  rw [← hW] at q0
  have z0 : W5.cell? ⟨NT, 0, none⟩ = some (.int .i64 0) := Go.Joins.cell_of_block q0 0
  have z1 : W5.cell? ⟨NT, 1, none⟩ = some (.int .i64 0) := Go.Joins.cell_of_block q0 1
  have z2 : W5.cell? ⟨NT, 2, none⟩ = some (.slice none 0 0) := Go.Joins.cell_of_block q0 2
  have B5 : Below w.heap.size w W5 := by
    have h1 := HNT.out
    rw [hW]
    exact ((HB.out.setCell (by simp; omega) _).setCell (by simp; omega) _).setCell (by simp; omega) _
  simp only [← hW]
  clear hW q0
  simp [bodyPost, results, Try.results45, go_sem, z0, z1, z2]
  exact B5

set_option maxHeartbeats 2000000 in
theorem specNo3 {w : World} {s r sr sc : Int} {b : Nat} {v : Value} {zs : List Int} (h : Rd w b v zs) (hq : fieldB s r zs = true) (hk : decide (-24 ≤ sr ∧ sr ≤ 24) = true) (hk2 : decide (-24 ≤ sc ∧ sc ≤ 24) = false) :
    Calls Try.prog 45 #[ruleV s r v, .int .i64 sr, .int .i64 sc] w fun e w' => e = .returned (.tuple #[ruleV 0 0 (.slice none 0 0), .bool false]) ∧ Below w.heap.size w w' := by
  have HH := hid h
  have HQ := hid hq
  obtain ⟨ao, cap, rfl, hc, hm, _⟩ := h
  have HK := hid hk
  have HK2 := hid hk2
  clear hc hm hq hk hk2
  go_enter Try.func45, Try.ntmps45
  go_wp2_with fail
  obtain ⟨w1, hW⟩ : ∃ w1, w1 = (w.alloc (Obj.cells #[.int .i64 s, .int .i64 r, .slice ao zs.length cap] 27)).alloc (Obj.cells #[.int .i64 0, .int .i64 0, .slice none 0 0] 27) := ⟨_, rfl⟩
  obtain ⟨N, hN⟩ : ∃ N, N = w.heap.size := ⟨_, rfl⟩
  obtain ⟨NT, hM⟩ : ∃ NT, NT = N + 1 := ⟨_, rfl⟩
  have st : Below w.heap.size w w1 ∧ w1.cell? ⟨N, 0, none⟩ = some (.int .i64 s) ∧ w1.cell? ⟨N, 1, none⟩ = some (.int .i64 r) ∧ w1.cell? ⟨N, 2, none⟩ = some (.slice ao zs.length cap) ∧ Rd w1 b (.slice ao zs.length cap) zs ∧ w.heap.size ≤ w1.heap.size := by
    rw [hW, hN]
    exact ⟨Go.Joins.below_alloc2 _ _ _, by simp, by simp, by simp, HH.out.keep (Go.Joins.below_alloc2 _ _ _) (Nat.le_refl _), by simp; omega⟩
  have kT : w1.heap[NT]? = some (Obj.cells #[.int .i64 0, .int .i64 0, .slice none 0 0] 27) := by rw [hW]; exact FNew.heap_top (by rw [hM, hN]; simp)
  have HNT : Hid (w.heap.size ≤ NT) := by simp only [Hid]; omega
  have HNN : Hid (NT = N + 1 ∧ N = w.heap.size) := ⟨hM, hN⟩
  simp only [← hW, ← hN, ← hM]
  clear hW hN hM
  go_at_call 48
  refine (FSpec.is (rd3_1_0 st) st.2.1 st.2.2.1 st.2.2.2.1).mono ?_
  rw [HQ.out]
  rintro e w2 ⟨rfl, m, hw2⟩
  have bel : Below w1.heap.size w1 w2 := by rw [hw2]; exact FSpec.below_drewN' _ _ _
  clear hw2
  replace st := next3_1 bel st
  replace kT := (bel.block NT (Array.getElem?_eq_some_iff.1 kT).1).trans kT
  clear bel

  go_wp2_with fail
  go_at_call 75
  refine inB.mono ?_
  rw [HK.out]
  rintro e w5 ⟨rfl, rfl⟩
  go_wp2_with fail
  go_at_call 75
  refine inB.mono ?_
  rw [HK2.out]
  rintro e w5 ⟨rfl, rfl⟩
  have HB := hid st.1
  have y0 : w2.cell? ⟨NT, 0, none⟩ = some (.int .i64 0) := Go.Joins.cell_of_block kT 0
  have y1 : w2.cell? ⟨NT, 1, none⟩ = some (.int .i64 0) := Go.Joins.cell_of_block kT 1
  have y2 : w2.cell? ⟨NT, 2, none⟩ = some (.slice none 0 0) := Go.Joins.cell_of_block kT 2
  have g0 : w2.frozen? ⟨NT, 0, none⟩ = false := Go.Joins.unfrozen_of_block kT 0
  have g1 : w2.frozen? ⟨NT, 1, none⟩ = false := Go.Joins.unfrozen_of_block kT 1
  have g2 : w2.frozen? ⟨NT, 2, none⟩ = false := Go.Joins.unfrozen_of_block kT 2
  have HKx := hid kT
  clear kT
  go_wp2
  obtain ⟨W5, hW⟩ : ∃ W5, W5 = (((w2.setCell ⟨NT, 0, none⟩ (.int .i64 0)).setCell ⟨NT, 1, none⟩ (.int .i64 0)).setCell ⟨NT, 2, none⟩ (.slice none 0 0)) := ⟨_, rfl⟩
  have q0 := (Go.Joins.block_setCell (i := 2) (Go.Joins.block_setCell (i := 1) (Go.Joins.block_setCell (i := 0) HKx.out (.int .i64 0)) (.int .i64 0)) (.slice none 0 0))
  rw [← hW] at q0
  have z0 : W5.cell? ⟨NT, 0, none⟩ = some (.int .i64 0) := Go.Joins.cell_of_block q0 0
  have z1 : W5.cell? ⟨NT, 1, none⟩ = some (.int .i64 0) := Go.Joins.cell_of_block q0 1
  have z2 : W5.cell? ⟨NT, 2, none⟩ = some (.slice none 0 0) := Go.Joins.cell_of_block q0 2
  have B5 : Below w.heap.size w W5 := by
    have h1 := HNT.out
    rw [hW]
    exact ((HB.out.setCell (by simp; omega) _).setCell (by simp; omega) _).setCell (by simp; omega) _
  simp only [← hW]
  clear hW q0
  simp [bodyPost, results, Try.results45, go_sem, z0, z1, z2]
  exact B5

set_option maxHeartbeats 4000000 in
theorem specOk {w : World} {R C n : Nat} {sr sc : Int} {b : Nat} {v : Value} {zs : List Int} (h : Rd w b v zs) (hq : fieldB R C zs = true) (hn : n = R * C) (hsr : -24 ≤ sr ∧ sr ≤ 24) (hsc : -24 ≤ sc ∧ sc ≤ 24) :
    Calls Try.prog 45 #[ruleV R C v, .int .i64 sr, .int .i64 sc] w fun e w' => ∃ b', e = .returned ((.tuple #[ruleV R C (.slice (some ⟨b', 0, none⟩) n n), .bool true])) ∧ Own 2 w' b' (.slice (some ⟨b', 0, none⟩) n n) (shL zs R C sr sc) ∧ w.heap.size ≤ b' ∧ Below w.heap.size w w' := by
  obtain ⟨hR, hC, hl, hle⟩ := field_nat hq
  have HH := hid h
  have HQ := hid hq
  obtain ⟨ao, cap, rfl, hc, hm, h4⟩ := h
  rw [← hn] at hle
  have hpos : 0 < zs.length := by rw [hl]; exact Nat.mul_pos hR.1 hC.1
  obtain ⟨off, rfl, hb, hcell⟩ := h4 hpos
  have hln : zs.length = n := by rw [hn]; exact hl
  rw [hln] at HH hc hcell ⊢
  have hsz : n ≤ cap ∧ cap ≤ 9223372036854775807 := by unfold maxLen at hm; omega
  have HCap := hid (show n ≤ cap ∧ cap ≤ maxLen from ⟨hc, hm⟩)
  have HL : Hid (zs.length = n) := by simp only [Hid]; rw [hn]; exact hl
  have HN := hid hn
  have HR := hid hR
  have HC := hid hC
  have HB0 := hid hb
  have HCell := hid hcell
  have HLE := hid hle
  clear hc hm h4 hq hn hl hpos hb hcell hln
  have HSR := hid hsr
  have HSC := hid hsc
  have HS1 : Hid (decide (-24 ≤ sr ∧ sr ≤ 24) = true) := decide_eq_true hsr
  have HS2 : Hid (decide (-24 ≤ sc ∧ sc ≤ 24) = true) := decide_eq_true hsc
  clear hsr hsc
  go_enter Try.func45, Try.ntmps45
  go_wp2_with fail
  obtain ⟨w1, hW⟩ : ∃ w1, w1 = (w.alloc (Obj.cells #[.int .i64 R, .int .i64 C, .slice (some ⟨b, off, none⟩) n cap] 27)).alloc (Obj.cells #[.int .i64 0, .int .i64 0, .slice none 0 0] 27) := ⟨_, rfl⟩
  obtain ⟨N, hN⟩ : ∃ N, N = w.heap.size := ⟨_, rfl⟩
  obtain ⟨NT, hM⟩ : ∃ NT, NT = N + 1 := ⟨_, rfl⟩
  have st : Below w.heap.size w w1 ∧ w1.cell? ⟨N, 0, none⟩ = some (.int .i64 R) ∧ w1.cell? ⟨N, 1, none⟩ = some (.int .i64 C) ∧ w1.cell? ⟨N, 2, none⟩ = some (.slice (some ⟨b, off, none⟩) n cap) ∧ Rd w1 b (.slice (some ⟨b, off, none⟩) n cap) zs ∧ w.heap.size ≤ w1.heap.size := by
    rw [hW, hN]
    exact ⟨Go.Joins.below_alloc2 _ _ _, by simp, by simp, by simp, HH.out.keep (Go.Joins.below_alloc2 _ _ _) (Nat.le_refl _), by simp; omega⟩
  have kT : w1.heap[NT]? = some (Obj.cells #[.int .i64 0, .int .i64 0, .slice none 0 0] 27) := by rw [hW]; exact FNew.heap_top (by rw [hM, hN]; simp)
  have HNT : Hid (w.heap.size ≤ NT) := by simp only [Hid]; omega
  have HNN : Hid (NT = N + 1 ∧ N = w.heap.size) := ⟨hM, hN⟩
  simp only [← hW, ← hN, ← hM]
  clear hW hN hM
  go_at_call 48
  refine (FSpec.is (rd3_1_0 st) st.2.1 st.2.2.1 st.2.2.2.1).mono ?_
  rw [HQ.out]
  rintro e w2 ⟨rfl, m, hw2⟩
  have bel : Below w1.heap.size w1 w2 := by rw [hw2]; exact FSpec.below_drewN' _ _ _
  clear hw2
  replace st := next3_1 bel st
  replace kT := (bel.block NT (Array.getElem?_eq_some_iff.1 kT).1).trans kT
  clear bel

  go_wp2_with fail
  go_at_call 75
  refine inB.mono ?_
  rw [HS1.out]
  rintro e w5 ⟨rfl, rfl⟩
  go_wp2_with fail
  go_at_call 75
  refine inB.mono ?_
  rw [HS2.out]
  rintro e w5 ⟨rfl, rfl⟩
  go_wp2_with fail
  go_at_call 76
  refine (specShift st.2.1 st.2.2.1 st.2.2.2.1 (rd3_1_0 st) HQ.out HN.out HSR.out HSC.out).mono ?_
  rintro e w3 ⟨b', rfl, ow, lo, bel⟩
  have kb3 := (bel.block NT (Array.getElem?_eq_some_iff.1 kT).1).trans kT
  have HB := hid (st.1.trans (bel.mono st.1.size))
  have HNB : Hid (NT ≠ b') := Nat.ne_of_lt (Nat.lt_of_lt_of_le (Array.getElem?_eq_some_iff.1 kT).1 lo)
  have HLo : Hid (w.heap.size ≤ b') := Nat.le_trans st.1.size lo
  have HO := hid ow
  clear ow lo bel st kT
  have y0 : w3.cell? ⟨NT, 0, none⟩ = some (.int .i64 0) := Go.Joins.cell_of_block kb3 0
  have y1 : w3.cell? ⟨NT, 1, none⟩ = some (.int .i64 0) := Go.Joins.cell_of_block kb3 1
  have y2 : w3.cell? ⟨NT, 2, none⟩ = some (.slice none 0 0) := Go.Joins.cell_of_block kb3 2
  have g0 : w3.frozen? ⟨NT, 0, none⟩ = false := Go.Joins.unfrozen_of_block kb3 0
  have g1 : w3.frozen? ⟨NT, 1, none⟩ = false := Go.Joins.unfrozen_of_block kb3 1
  have g2 : w3.frozen? ⟨NT, 2, none⟩ = false := Go.Joins.unfrozen_of_block kb3 2
  have HKx := hid kb3
  clear kb3
  go_wp2
  obtain ⟨W5, hW⟩ : ∃ W5, W5 = (((w3.setCell ⟨NT, 0, none⟩ (.int .i64 R)).setCell ⟨NT, 1, none⟩ (.int .i64 C)).setCell ⟨NT, 2, none⟩ (.slice (some ⟨b', 0, none⟩) n n)) := ⟨_, rfl⟩
  have q0 := (Go.Joins.block_setCell (i := 2) (Go.Joins.block_setCell (i := 1) (Go.Joins.block_setCell (i := 0) HKx.out (.int .i64 R)) (.int .i64 C)) (.slice (some ⟨b', 0, none⟩) n n))
  rw [← hW] at q0
  have z0 : W5.cell? ⟨NT, 0, none⟩ = some (.int .i64 R) := Go.Joins.cell_of_block q0 0
  have z1 : W5.cell? ⟨NT, 1, none⟩ = some (.int .i64 C) := Go.Joins.cell_of_block q0 1
  have z2 : W5.cell? ⟨NT, 2, none⟩ = some (.slice (some ⟨b', 0, none⟩) n n) := Go.Joins.cell_of_block q0 2
  have O5 := (own_set (own_set (own_set HO.out ⟨NT, 0, none⟩ (.int .i64 R) HNB.out) ⟨NT, 1, none⟩ (.int .i64 C) HNB.out) ⟨NT, 2, none⟩ (.slice (some ⟨b', 0, none⟩) n n) HNB.out)
  rw [← hW] at O5
  have B5 : Below w.heap.size w W5 := by
    have h1 := HNT.out
    rw [hW]
    exact ((HB.out.setCell (by simp; omega) _).setCell (by simp; omega) _).setCell (by simp; omega) _
  simp only [← hW]
  clear hW q0
  simp [bodyPost, results, Try.results45, go_sem, z0, z1, z2]
  exact ⟨O5, HLo.out, B5⟩

end Go.Proofs.Ytcdbbbifdidpdaa.FSh
