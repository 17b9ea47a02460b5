/- A step of votes, the model of both sides. -/
import Derived.Test.YthcbhbdgbiiagaaGrow
import Derived.Test.YthcbhbdgbiiagaaCopy
import Derived.Test.YthcbhbdgbiiagaaLs
import Derived.Deep.QuietTactic
import Derived.BigQuiet
import Derived.Deep.Cut
namespace Go.Proofs.Ythcbhbdgbiiagaa.Vt
open Go.RowKit Go.Proofs.Ythcbhbdgbiiagaa.Rd Go.Proofs.Ythcbhbdgbiiagaa.Help Go.Proofs.Ythcbhbdgbiiagaa.Ring Go.Proofs.Ythcbhbdgbiiagaa.Small Go.Proofs.Ythcbhbdgbiiagaa.FVal Go.Proofs.Ythcbhbdgbiiagaa.Keep Go.Proofs.Ythcbhbdgbiiagaa.Rule Go.Proofs.Ythcbhbdgbiiagaa.Grow Go.Proofs.Ythcbhbdgbiiagaa.Copy Go.Proofs.Ythcbhbdgbiiagaa.Rnd Go.Proofs.Ythcbhbdgbiiagaa.Lf Go.Proofs.Ythcbhbdgbiiagaa.Ls
set_option linter.unusedVariables false
set_option linter.unusedSimpArgs false

/-- A step of votes: a life with these numbers. -/
def voteL (zs : List Int) (R C : Nat) (rd : Bool) : List Int := lifeL [5, 6, 7, 8] [4, 5, 6, 7, 8] zs R C rd
theorem vote_at {z A : Int} (hz : z = 0 ∨ z = 1) (hA : 0 ≤ A ∧ A ≤ 8) : ((z = 0 ∧ [5, 6, 7, 8].contains A = true) ∨ (z = 1 ∧ [4, 5, 6, 7, 8].contains A = true)) ↔ 5 ≤ A + z := by
  simp only [List.contains_iff_mem, List.mem_cons, List.not_mem_nil, or_false]
  omega
theorem vote_nxt {zs : List Int} {R C p q : Nat} {rd : Bool} {A z : Int} (hA : A = aro zs R C rd p q) (hz : z = zs.getD (p * C + q) 0) (hA8 : 0 ≤ A ∧ A ≤ 8) (hz1 : z = 0 ∨ z = 1) :
    nxt [5, 6, 7, 8] [4, 5, 6, 7, 8] zs R C rd p q = if 5 ≤ A + z then 1 else 0 := by
  unfold nxt
  rw [← hA, ← hz]
  by_cases h : 5 ≤ A + z
  · rw [if_pos h, if_pos ((vote_at hz1 hA8).2 h)]
  · rw [if_neg h, if_neg (fun hh => h ((vote_at hz1 hA8).1 hh))]

set_option maxHeartbeats 64000000 in
set_option maxRecDepth 4000 in
theorem specVote {w : World} {N R C n : Nat} {rd : Bool} {b : Nat} {v : Value} {zs : List Int} (k0 : w.cell? ⟨N, 0, none⟩ = some (.int .i64 R)) (k1 : w.cell? ⟨N, 1, none⟩ = some (.int .i64 C)) (k2 : w.cell? ⟨N, 2, none⟩ = some v) (h : Rd w b v zs) (hq : fieldB R C zs = true) (hn : n = R * C) (hpl : plainB zs = true) :
    Calls Try.prog 52 #[.pointer (some ⟨N, 0, none⟩), .bool rd] w fun e w' => ∃ b', e = .returned (ruleV R C (.slice (some ⟨b', 0, none⟩) n n)) ∧ Own 2 w' b' (.slice (some ⟨b', 0, none⟩) n n) (voteL zs R C rd) ∧ w.heap.size ≤ b' ∧ Below w.heap.size w w' := by
  obtain ⟨hR, hC, hl, hle⟩ := field_nat hq
  have HH := hid h
  have HQ := hid hq
  obtain ⟨ao, cap, rfl, hc, hm, h4⟩ := h
  rw [← hn] at hle
  have hpos : 0 < zs.length := by rw [hl]; exact Nat.mul_pos hR.1 hC.1
  obtain ⟨off, rfl, hb, hcell⟩ := h4 hpos
  have hln : zs.length = n := by rw [hn]; exact hl
  rw [hln] at HH hc hcell k2
  have hsz : n ≤ cap ∧ cap ≤ 9223372036854775807 := by unfold maxLen at hm; omega
  have HCap := hid (show n ≤ cap ∧ cap ≤ maxLen from ⟨hc, hm⟩)
  have HL : Hid (zs.length = n) := by simp only [Hid]; rw [hn]; exact hl
  have HN := hid hn
  have HR := hid hR
  have HC := hid hC
  have HB0 := hid hb
  have HCell := hid hcell
  have HLE := hid hle
  clear hc hm h4 hq hn hl hpos hb hcell hln
  have HPL := hid hpl
  have hNw : N < w.heap.size := World.block_lt_of_cell? w _ k0
  have HK := hid (And.intro k0 (And.intro k1 k2))
  clear hpl k0 k1 k2
  go_enter Try.func52, Try.ntmps52
  go_wp2_with fail
  obtain ⟨w1, hW⟩ : ∃ w1, w1 = w.alloc (Obj.cells #[.int .i64 0, .int .i64 0, .slice none 0 0] 26) := ⟨_, rfl⟩
  obtain ⟨NT, hM⟩ : ∃ NT, NT = w.heap.size := ⟨_, rfl⟩
  have b1 : Below w.heap.size w w1 := by rw [hW]; exact below1 _ _
  have st : Below w.heap.size w w1 ∧ w1.cell? ⟨N, 0, none⟩ = some (.int .i64 R) ∧ w1.cell? ⟨N, 1, none⟩ = some (.int .i64 C) ∧ w1.cell? ⟨N, 2, none⟩ = some (.slice (some ⟨b, off, none⟩) n cap) ∧ Rd w1 b (.slice (some ⟨b, off, none⟩) n cap) zs ∧ w.heap.size ≤ w1.heap.size := ⟨b1, cell_keep b1 HK.out.1, cell_keep b1 HK.out.2.1, cell_keep b1 HK.out.2.2, HH.out.keep b1 (Nat.le_refl _), b1.size⟩
  have kT : w1.heap[NT]? = some (Obj.cells #[.int .i64 0, .int .i64 0, .slice none 0 0] 26) := by rw [hW]; exact FNew.heap_top hM
  have HNT : Hid (w.heap.size ≤ NT) := by simp only [Hid]; omega
  have HNN : Hid (N < NT ∧ NT = w.heap.size) := ⟨by omega, hM⟩
  simp only [← hW, ← hM]
  clear hW hM b1
  have kt := kT
  clear kT
  have bw := st.1
  clear st
  refine wp_region_held_drew (S := (fun ww => Below w.heap.size w ww ∧ ww.cell? ⟨N, 0, none⟩ = some (.int .i64 R) ∧ ww.cell? ⟨N, 1, none⟩ = some (.int .i64 C) ∧ w.heap.size ≤ ww.heap.size)) (by kernel_rfl) ?_ (fun hHeld => ?_)
  · ((try dsimp only); exact ⟨bw.drew, cell_keep bw.drew HK.out.1, cell_keep bw.drew HK.out.2.1, bw.drew.size⟩)
  generalize hD : w1.drew = wD at hHeld ⊢
  replace kt : wD.heap[NT]? = some (Obj.cells #[.int .i64 0, .int .i64 0, .slice none 0 0] 26) := by rw [← hD]; exact kt
  clear hD bw
  (refine wpAnyH_take (i := 0) (v := ?_) rfl ?_ ?_ ?_ (fun _ _ _ h => h) (Or.inl ⟨?_, ?_⟩) ?_ ?_; rotate_left 1; (focus decide +kernel); (focus decide +kernel); (focus decide +kernel); (focus rfl); (focus (intro w hSw; (try dsimp only at hSw); go_simp; (try (with_reducible rfl)); done)); (focus assumption); (try simp only [Act.put, List.setIfInBounds_toArray, List.set_cons_zero, List.set_cons_succ, List.getElem_toArray, List.getElem_cons_succ, List.getElem_cons_zero]))
  (refine wpAnyH_take (i := 1) (v := ?_) rfl ?_ ?_ ?_ (fun _ _ _ h => h) (Or.inl ⟨?_, ?_⟩) ?_ ?_; rotate_left 1; (focus decide +kernel); (focus decide +kernel); (focus decide +kernel); (focus rfl); (focus (intro w hSw; (try dsimp only at hSw); go_simp; (try (with_reducible rfl)); done)); (focus assumption); (try simp only [Act.put, List.setIfInBounds_toArray, List.set_cons_zero, List.set_cons_succ, List.getElem_toArray, List.getElem_cons_succ, List.getElem_cons_zero]))
  (refine wpAnyH_take (i := 2) (v := ?_) rfl ?_ ?_ ?_ (fun _ _ _ h => h) (Or.inl ⟨?_, ?_⟩) ?_ ?_; rotate_left 1; (focus decide +kernel); (focus decide +kernel); (focus decide +kernel); (focus rfl); (focus (intro w hSw; (try dsimp only at hSw); go_simp; (try (with_reducible rfl)); done)); (focus assumption); (try simp only [Act.put, List.setIfInBounds_toArray, List.set_cons_zero, List.set_cons_succ, List.getElem_toArray, List.getElem_cons_succ, List.getElem_cons_zero]))
  (refine wpAnyH_take (i := 3) (v := ?_) rfl ?_ ?_ ?_ (fun _ _ _ h => h) (Or.inl ⟨?_, ?_⟩) ?_ ?_; rotate_left 1; (focus decide +kernel); (focus decide +kernel); (focus decide +kernel); (focus rfl); (focus (intro w hSw; (try dsimp only at hSw); go_simp; (try (with_reducible rfl)); done)); (focus assumption); (try simp only [Act.put, List.setIfInBounds_toArray, List.set_cons_zero, List.set_cons_succ, List.getElem_toArray, List.getElem_cons_succ, List.getElem_cons_zero]))
  (refine wpAnyH_take (i := 4) (v := ?_) rfl ?_ ?_ ?_ (fun _ _ _ h => h) (Or.inl ⟨?_, ?_⟩) ?_ ?_; rotate_left 1; (focus decide +kernel); (focus decide +kernel); (focus decide +kernel); (focus rfl); (focus (intro w hSw; (try dsimp only at hSw); go_simp; (try (with_reducible rfl)); done)); (focus assumption); (try simp only [Act.put, List.setIfInBounds_toArray, List.set_cons_zero, List.set_cons_succ, List.getElem_toArray, List.getElem_cons_succ, List.getElem_cons_zero]))
  (refine wpAnyH_take (i := 5) (v := ?_) rfl ?_ ?_ ?_ (fun _ _ _ h => h) (Or.inl ⟨?_, ?_⟩) ?_ ?_; rotate_left 1; (focus decide +kernel); (focus decide +kernel); (focus decide +kernel); (focus rfl); (focus (intro w hSw; (try dsimp only at hSw); go_simp; (try (with_reducible rfl)); done)); (focus assumption); (try simp only [Act.put, List.setIfInBounds_toArray, List.set_cons_zero, List.set_cons_succ, List.getElem_toArray, List.getElem_cons_succ, List.getElem_cons_zero]))
  (refine wpAnyH_take (i := 6) (v := ?_) rfl ?_ ?_ ?_ (fun _ _ _ h => h) (Or.inl ⟨?_, ?_⟩) ?_ ?_; rotate_left 1; (focus decide +kernel); (focus decide +kernel); (focus decide +kernel); (focus rfl); (focus (intro w hSw; (try dsimp only at hSw); go_simp; (try (with_reducible rfl)); done)); (focus assumption); (try simp only [Act.put, List.setIfInBounds_toArray, List.set_cons_zero, List.set_cons_succ, List.getElem_toArray, List.getElem_cons_succ, List.getElem_cons_zero]))
  (refine wpAnyH_take (i := 7) (v := ?_) rfl ?_ ?_ ?_ (fun _ _ _ h => h) (Or.inl ⟨?_, ?_⟩) ?_ ?_; rotate_left 1; (focus decide +kernel); (focus decide +kernel); (focus decide +kernel); (focus rfl); (focus (intro w hSw; (try dsimp only at hSw); go_simp; (try (with_reducible rfl)); done)); (focus assumption); (try simp only [Act.put, List.setIfInBounds_toArray, List.set_cons_zero, List.set_cons_succ, List.getElem_toArray, List.getElem_cons_succ, List.getElem_cons_zero]))
  refine wpAnyH_ready (rs := [8, 9]) ?_ (by simp) ?_
  · decide +kernel
  refine AllReadyH.cons rfl (fun K hK => ?_) (AllReadyH.cons rfl (fun K hK => ?_) AllReadyH.nil)
  · go_simp
    go_at_call 97
    refine (FNew.l04New HN.out HLE.out).mono ?_
    rintro e w3 ⟨b', rfl, ow, lo, bel⟩
    have hNTb : NT < b' := Nat.lt_of_lt_of_le (Array.getElem?_eq_some_iff.1 kt).1 lo
    replace kt := (bel.block NT (Array.getElem?_eq_some_iff.1 kt).1).trans kt
    have lob : w.heap.size ≤ b' := Nat.le_trans hHeld.1.size lo
    refine hK.out _ _ ?_ (fun hHeld2 => ?_)
    · (try dsimp only); exact next2_0 bel hHeld
    clear hK K hHeld bel lo
    have hHeld := hHeld2
    clear hHeld2
    (try simp only [Act.put, List.setIfInBounds_toArray, List.set_cons_zero, List.set_cons_succ, List.getElem_toArray, List.getElem_cons_succ, List.getElem_cons_zero])
    refine wpAnyH_ready (rs := [9]) ?_ (by simp) ?_
    · decide +kernel
    refine AllReadyH.cons rfl (fun K hK => ?_) AllReadyH.nil
    go_simp
    refine hK.out _ _ ?_ (fun hHeld2 => ?_)
    · (try dsimp only); exact next2_0 (below1 _ _) hHeld
    clear hK K
    obtain ⟨w5, hW5⟩ : ∃ w5, w5 = w3.alloc (Obj.cells #[.int .i64 0, .int .i64 0, .slice none 0 0] 26) := ⟨_, rfl⟩
    obtain ⟨NO, hO⟩ : ∃ NO, NO = w3.heap.size := ⟨_, rfl⟩
    have kO : w5.heap[NO]? = some (Obj.cells #[.int .i64 0, .int .i64 0, .slice none 0 0] 26) := by rw [hW5]; exact FNew.heap_top hO
    have hTO : NT < NO := by rw [hO]; exact (Array.getElem?_eq_some_iff.1 kt).1
    have bel : Below w3.heap.size w3 w5 := by rw [hW5]; exact below1 _ _
    replace kt := (bel.block NT (Array.getElem?_eq_some_iff.1 kt).1).trans kt
    have hNOb : NO ≠ b' := by rw [hO]; exact Nat.ne_of_gt ow.lt
    replace ow := ow.keep bel
    rw [← hW5] at hHeld2
    simp only [← hW5, ← hO]
    clear hHeld bel hW5 hO
    have hHeld := hHeld2
    clear hHeld2
    (try simp only [Act.put, List.setIfInBounds_toArray, List.set_cons_zero, List.set_cons_succ, List.getElem_toArray, List.getElem_cons_succ, List.getElem_cons_zero])
    refine wpAnyH_ready (rs := [10]) ?_ (by simp) ?_
    · decide +kernel
    refine AllReadyH.cons rfl (fun K hK => ?_) AllReadyH.nil
    have y0 : w5.cell? ⟨NO, 0, none⟩ = some (.int .i64 0) := Go.Joins.cell_of_block kO 0
    have y1 : w5.cell? ⟨NO, 1, none⟩ = some (.int .i64 0) := Go.Joins.cell_of_block kO 1
    have y2 : w5.cell? ⟨NO, 2, none⟩ = some (.slice none 0 0) := Go.Joins.cell_of_block kO 2
    have g0 : w5.frozen? ⟨NO, 0, none⟩ = false := Go.Joins.unfrozen_of_block kO 0
    have g1 : w5.frozen? ⟨NO, 1, none⟩ = false := Go.Joins.unfrozen_of_block kO 1
    have g2 : w5.frozen? ⟨NO, 2, none⟩ = false := Go.Joins.unfrozen_of_block kO 2
    have HKx := hid kO
    have HHx := hid hHeld
    have HTO := hid (And.intro hTO (And.intro hNOb (And.intro hNTb lob)))
    have HKt := hid kt
    have HOx := hid ow
    clear kO hTO hNOb hNTb lob kt ow
    go_simp
    obtain ⟨w4, hW⟩ : ∃ w4, w4 = (((w5.setCell ⟨NO, 0, none⟩ (.int .i64 R)).setCell ⟨NO, 1, none⟩ (.int .i64 C)).setCell ⟨NO, 2, none⟩ (.slice (some ⟨b', 0, none⟩) n n)) := ⟨_, rfl⟩
    have kO : w4.heap[NO]? = some (Obj.cells #[.int .i64 R, .int .i64 C, .slice (some ⟨b', 0, none⟩) n n] 26) := by rw [hW]; exact (Go.Joins.block_setCell (i := 2) (Go.Joins.block_setCell (i := 1) (Go.Joins.block_setCell (i := 0) HKx.out (.int .i64 R)) (.int .i64 C)) (.slice (some ⟨b', 0, none⟩) n n))
    have kT : w4.heap[NT]? = some (Obj.cells #[.int .i64 0, .int .i64 0, .slice none 0 0] 26) := by rw [hW]; exact ((Below.heap_setCell ((w5.setCell ⟨NO, 0, none⟩ (.int .i64 R)).setCell ⟨NO, 1, none⟩ (.int .i64 C)) ⟨NO, 2, none⟩ (.slice (some ⟨b', 0, none⟩) n n) NT (Nat.ne_of_lt HTO.out.1)).trans ((Below.heap_setCell (w5.setCell ⟨NO, 0, none⟩ (.int .i64 R)) ⟨NO, 1, none⟩ (.int .i64 C) NT (Nat.ne_of_lt HTO.out.1)).trans ((Below.heap_setCell w5 ⟨NO, 0, none⟩ (.int .i64 R) NT (Nat.ne_of_lt HTO.out.1)).trans HKt.out)))
    have ow : Own 2 w4 b' (.slice (some ⟨b', 0, none⟩) n n) (List.replicate n 0) := by rw [hW]; exact (own_set (own_set (own_set HOx.out ⟨NO, 0, none⟩ (.int .i64 R) HTO.out.2.1) ⟨NO, 1, none⟩ (.int .i64 C) HTO.out.2.1) ⟨NO, 2, none⟩ (.slice (some ⟨b', 0, none⟩) n n) HTO.out.2.1)
    have B4 : Below w.heap.size w w4 := by
      have h1 := HNT.out; have h2 := HTO.out.1
      rw [hW]
      exact ((HHx.out.1.setCell (by simp; omega) _).setCell (by simp; omega) _).setCell (by simp; omega) _
    refine hK.out _ _ ?_ (fun hHeld5 => ?_)
    · (try dsimp only); rw [← hW]; exact ⟨B4, cell_keep B4 HK.out.1, cell_keep B4 HK.out.2.1, B4.size⟩
    clear hK K hHeld5
    simp only [← hW]
    clear hW y0 y1 y2 g0 g1 g2 hHeld
    have HSX : Hid (Below w.heap.size w w4 ∧ w4.cell? ⟨N, 0, none⟩ = some (.int .i64 R) ∧ w4.cell? ⟨N, 1, none⟩ = some (.int .i64 C) ∧ w4.cell? ⟨N, 2, none⟩ = some (.slice (some ⟨b, off, none⟩) n cap) ∧ Rd w4 b (.slice (some ⟨b, off, none⟩) n cap) zs ∧ w.heap.size ≤ w4.heap.size) := ⟨B4, cell_keep B4 HK.out.1, cell_keep B4 HK.out.2.1, cell_keep B4 HK.out.2.2, HH.out.keep B4 (Nat.le_refl _), B4.size⟩
    have HOW := hid ow
    have HKT := hid kT
    have HKO := hid kO
    have HAp := hid (show N < NT ∧ NT < b' ∧ NO ≠ b' ∧ w.heap.size ≤ b' from ⟨HNN.out.1, HTO.out.2.2.1, HTO.out.2.1, HTO.out.2.2.2⟩)
    clear ow kT kO B4
    (try simp only [Act.put, List.setIfInBounds_toArray, List.set_cons_zero, List.set_cons_succ, List.getElem_toArray, List.getElem_cons_succ, List.getElem_cons_zero])
    refine wpAnyH_done (by kernel_rfl) ?_ _
    go_wp2
    have HCLX : Hid (∀ i, i < n → w4.cell? ⟨b, off + i, none⟩ = some (.int .i64 (zs.getD i 0))) := fun i hi => (HSX.out.1.cell (p := ⟨b, off + i, none⟩) HB0.out).trans (HCell.out i hi)
    have HTL : Hid ((voteL zs R C rd).length = n) := by simp only [Hid, voteL, lifeL]; rw [grid_len, HN.out]
    have HBN : Hid (b < w4.heap.size ∧ b ≠ b') := ⟨Nat.lt_of_lt_of_le HB0.out HSX.out.1.size, Nat.ne_of_lt (Nat.lt_of_lt_of_le HB0.out HAp.out.2.2.2)⟩
    have hRC : R ≤ 24 ∧ C ≤ 24 := ⟨HR.out.2, HC.out.2⟩
    go_loopw [6] (fun i wr => ∃ p : Nat, p ≤ R ∧ i = .int .i64 p ∧ Own 2 wr b' (.slice (some ⟨b', 0, none⟩) n n) (filN (voteL zs R C rd) n (p * C)) ∧ w4.grownBy wr (some b')) (fun i _ => R - (intOf i).toNat)
    case atStart => exact ⟨0, Nat.zero_le _, rfl, by rw [Nat.zero_mul, filN_zero]; exact HOW.out, g_refl _ _⟩
    case round =>
      obtain ⟨p, hp, rfl, hown, hg⟩ := hrel
      have c0 := g_cell hg HSX.out.2.1 (Nat.ne_of_lt (Nat.lt_trans HAp.out.1 HAp.out.2.1))
      have c1 := g_cell hg HSX.out.2.2.1 (Nat.ne_of_lt (Nat.lt_trans HAp.out.1 HAp.out.2.1))
      have c2 := g_cell hg HSX.out.2.2.2.1 (Nat.ne_of_lt (Nat.lt_trans HAp.out.1 HAp.out.2.1))
      have d0 := g_cell hg (Go.Joins.cell_of_block HKO.out 0) HAp.out.2.2.1
      have d1 := g_cell hg (Go.Joins.cell_of_block HKO.out 1) HAp.out.2.2.1
      have d2 := g_cell hg (Go.Joins.cell_of_block HKO.out 2) HAp.out.2.2.1
      by_cases hlt : p < R
      · have HO1 := hid hown
        have HG1 := hid hg
        have hpi : (p : Int) < (R : Int) := by omega
        clear hown hg
        go_wp2
        clear c0 c1 c2 d0 d1 d2
        go_loopw [7] (fun k wx => ∃ q : Nat, q ≤ C ∧ k = .int .i64 q ∧ Own 2 wx b' (.slice (some ⟨b', 0, none⟩) n n) (filN (voteL zs R C rd) n (p * C + q)) ∧ w4.grownBy wx (some b')) (fun k _ => C - (intOf k).toNat)
        case atStart => exact ⟨0, Nat.zero_le _, rfl, HO1.out, HG1.out⟩
        case round =>
          clear HO1 HG1
          obtain ⟨q, hq2, rfl, hown, hg⟩ := hrel
          have c0 := g_cell hg HSX.out.2.1 (Nat.ne_of_lt (Nat.lt_trans HAp.out.1 HAp.out.2.1))
          have c1 := g_cell hg HSX.out.2.2.1 (Nat.ne_of_lt (Nat.lt_trans HAp.out.1 HAp.out.2.1))
          have c2 := g_cell hg HSX.out.2.2.2.1 (Nat.ne_of_lt (Nat.lt_trans HAp.out.1 HAp.out.2.1))
          have d0 := g_cell hg (Go.Joins.cell_of_block HKO.out 0) HAp.out.2.2.1
          have d1 := g_cell hg (Go.Joins.cell_of_block HKO.out 1) HAp.out.2.2.1
          have d2 := g_cell hg (Go.Joins.cell_of_block HKO.out 2) HAp.out.2.2.1
          by_cases hlt2 : q < C
          · obtain ⟨T, hT⟩ : ∃ T, T = p * C + q := ⟨_, rfl⟩
            have hTn : T < n := by rw [hT, HN.out]; exact pos_bd hlt hlt2
            have e4 := (wrap_pos (i := p) (C := C) (k := q) (by have := HLE.out; omega)).1
            have e5 := (wrap_pos (i := p) (C := C) (k := q) (by have := HLE.out; omega)).2
            rw [← hT] at e5 hown
            have HBW := hid (g_below HSX.out.1 hg HAp.out.2.2.2)
            have HT := hid hT
            have HO0 := hid hown
            have HG0 := hid hg
            obtain ⟨P2, hP2⟩ : ∃ P2, P2 = p * C := ⟨_, rfl⟩
            rw [← hP2] at e4 e5
            have hpi : (p : Int) < (R : Int) := by omega
            have hqi : (q : Int) < (C : Int) := by omega
            have hTi : (T : Int) < (n : Int) := by omega
            obtain ⟨A, hA⟩ : ∃ A, A = aro zs R C rd p q := ⟨_, rfl⟩
            have hA8 : 0 ≤ A ∧ A ≤ 8 := by rw [hA]; exact aro_bd HPL.out R C rd p q
            have HA8 := hid hA8
            have HA := hid hA
            clear hown hg hP2 hT hA
            have CC := hid (And.intro c0 (And.intro c1 c2))
            have HAr : Hid (∀ m, Calls Try.prog 98 #[.pointer (some ⟨N, 0, none⟩), .int .i64 p, .int .i64 q, .bool rd] (wr.drewN m) fun e w' => e = .returned (.int .i64 A) ∧ ∃ k, w' = (wr.drewN m).drewN k) := by
              intro m
              have := l04Around (w := wr.drewN m) (rd := rd) CC.out.1 CC.out.2.1 CC.out.2.2 ((HH.out.keep HBW.out (Nat.le_refl _)).keep (FSpec.below_drewN' wr.heap.size wr m) (Nat.le_refl _)) HQ.out HN.out HPL.out hlt hlt2
              rw [← HA.out] at this
              exact this
            have hzb := plain_bd HPL.out T
            obtain ⟨z, hz⟩ : ∃ z, z = zs.getD T 0 := ⟨_, rfl⟩
            rw [← hz] at hzb
            have hcx : wr.cell? ⟨b, off + T, none⟩ = some (.int .i64 z) := by rw [hz]; exact g_cell HG0.out ((HCLX.out T hTn)) (Nat.ne_of_lt (Nat.lt_of_lt_of_le HB0.out HAp.out.2.2.2))
            have HZ := hid hz
            have HZ1 : Hid (z = 0 ∨ z = 1) := by simp only [Hid]; omega
            clear hz CC
            by_cases hB : 5 ≤ A + z
            · have hd : decide ((5 : Int) ≤ A + z) = true := decide_eq_true hB
              have HTX : Hid ((voteL zs R C rd).getD T 0 = 1) := by
                show (voteL zs R C rd).getD T 0 = 1
                unfold voteL lifeL
                rw [HT.out, grid_get _ hlt hlt2, vote_nxt HA.out (by rw [← HT.out]; exact HZ.out) HA8.out HZ1.out]
                exact if_pos hB
              clear hB
              go_upto_region 9 with fail
              go_quiet (first | (go_at_call 98; refine Calls.quiet_of (HAr.out _)))
              obtain ⟨wb, hWb⟩ : ∃ wb, wb = wr.drewN nq := ⟨_, rfl⟩
              have bel : Below wr.heap.size wr wb := by rw [hWb]; exact FSpec.below_drewN' _ _ _
              simp only [← hWb]
              clear hWb hcx c0 c1 c2 d0 d1 d2
              have HO2 := hid (HO0.out.keep bel)
              have HG2 := hid (g_bel HG0.out bel)
              clear bel
              have c0 := g_cell HG2.out HSX.out.2.1 (Nat.ne_of_lt (Nat.lt_trans HAp.out.1 HAp.out.2.1))
              have c1 := g_cell HG2.out HSX.out.2.2.1 (Nat.ne_of_lt (Nat.lt_trans HAp.out.1 HAp.out.2.1))
              have c2 := g_cell HG2.out HSX.out.2.2.2.1 (Nat.ne_of_lt (Nat.lt_trans HAp.out.1 HAp.out.2.1))
              have d0 := g_cell HG2.out (Go.Joins.cell_of_block HKO.out 0) HAp.out.2.2.1
              have d1 := g_cell HG2.out (Go.Joins.cell_of_block HKO.out 1) HAp.out.2.2.1
              have d2 := g_cell HG2.out (Go.Joins.cell_of_block HKO.out 2) HAp.out.2.2.1
              have hox := HO2.out.cell (i := T) (by rw [filN_len _ _ _ HTL.out (Nat.le_of_lt hTn)]; exact hTn)
              have hof := HO2.out.free T
              go_wp2
              go_roundw
              case rel =>
                refine ⟨q + 1, by omega, by go_num, ?_, g_set HG2.out T _⟩
                have hs := filN_set (voteL zs R C rd) n T HTL.out hTn
                rw [HTX.out] at hs
                rw [show p * C + (q + 1) = T + 1 by have := HT.out; omega, ← hs]
                exact HO2.out.set T 1
              case measure => simp [intOf]; omega
            · have hd : decide ((5 : Int) ≤ A + z) = false := decide_eq_false hB
              have HTX : Hid ((voteL zs R C rd).getD T 0 = 0) := by
                show (voteL zs R C rd).getD T 0 = 0
                unfold voteL lifeL
                rw [HT.out, grid_get _ hlt hlt2, vote_nxt HA.out (by rw [← HT.out]; exact HZ.out) HA8.out HZ1.out]
                exact if_neg hB
              clear hB
              go_upto_region 9 with fail
              go_quiet (first | (go_at_call 98; refine Calls.quiet_of (HAr.out _)))
              obtain ⟨wb, hWb⟩ : ∃ wb, wb = wr.drewN nq := ⟨_, rfl⟩
              have bel : Below wr.heap.size wr wb := by rw [hWb]; exact FSpec.below_drewN' _ _ _
              simp only [← hWb]
              clear hWb hcx c0 c1 c2 d0 d1 d2
              have HO2 := hid (HO0.out.keep bel)
              have HG2 := hid (g_bel HG0.out bel)
              clear bel
              have c0 := g_cell HG2.out HSX.out.2.1 (Nat.ne_of_lt (Nat.lt_trans HAp.out.1 HAp.out.2.1))
              have c1 := g_cell HG2.out HSX.out.2.2.1 (Nat.ne_of_lt (Nat.lt_trans HAp.out.1 HAp.out.2.1))
              have c2 := g_cell HG2.out HSX.out.2.2.2.1 (Nat.ne_of_lt (Nat.lt_trans HAp.out.1 HAp.out.2.1))
              have d0 := g_cell HG2.out (Go.Joins.cell_of_block HKO.out 0) HAp.out.2.2.1
              have d1 := g_cell HG2.out (Go.Joins.cell_of_block HKO.out 1) HAp.out.2.2.1
              have d2 := g_cell HG2.out (Go.Joins.cell_of_block HKO.out 2) HAp.out.2.2.1
              go_wp2
              go_roundw
              case rel =>
                refine ⟨q + 1, by omega, by go_num, ?_, HG2.out⟩
                rw [show p * C + (q + 1) = T + 1 by have := HT.out; omega, filN_same _ _ _ HTL.out hTn HTX.out]
                exact HO2.out
              case measure => simp [intOf]; omega
          · have hqR : C = q := by omega
            have HO2 := hid hown
            have HG2 := hid hg
            clear hown hg
            subst hqR
            go_wp2
            go_roundw
            case rel =>
              refine ⟨p + 1, by omega, by go_num, ?_, HG2.out⟩
              rw [Nat.succ_mul]
              exact HO2.out
            case measure => simp [intOf]; omega
      · have hpC : R = p := by omega
        subst hpC
        rw [show R * C = n by rw [HN.out], filN_all _ _ HTL.out] at hown
        have hg2 := hg
        have kTr := g_heap hg HKT.out (Nat.ne_of_lt HAp.out.2.1)
        have HB := hid (g_below HSX.out.1 hg HAp.out.2.2.2)
        have HLo : Hid (w.heap.size ≤ b') := HAp.out.2.2.2
        have HNB : Hid (NT ≠ b') := Nat.ne_of_lt HAp.out.2.1
        have HO := hid hown
        clear hown hg hg2
        have y0 : wr.cell? ⟨NT, 0, none⟩ = some (.int .i64 0) := Go.Joins.cell_of_block kTr 0
        have y1 : wr.cell? ⟨NT, 1, none⟩ = some (.int .i64 0) := Go.Joins.cell_of_block kTr 1
        have y2 : wr.cell? ⟨NT, 2, none⟩ = some (.slice none 0 0) := Go.Joins.cell_of_block kTr 2
        have g0 : wr.frozen? ⟨NT, 0, none⟩ = false := Go.Joins.unfrozen_of_block kTr 0
        have g1 : wr.frozen? ⟨NT, 1, none⟩ = false := Go.Joins.unfrozen_of_block kTr 1
        have g2 : wr.frozen? ⟨NT, 2, none⟩ = false := Go.Joins.unfrozen_of_block kTr 2
        have HKx := hid kTr
        clear kTr
        go_wp2
        obtain ⟨W5, hW⟩ : ∃ W5, W5 = (((wr.setCell ⟨NT, 0, none⟩ (.int .i64 R)).setCell ⟨NT, 1, none⟩ (.int .i64 C)).setCell ⟨NT, 2, none⟩ (.slice (some ⟨b', 0, none⟩) n n)) := ⟨_, rfl⟩
        have q0 := (Go.Joins.block_setCell (i := 2) (Go.Joins.block_setCell (i := 1) (Go.Joins.block_setCell (i := 0) HKx.out (.int .i64 R)) (.int .i64 C)) (.slice (some ⟨b', 0, none⟩) n n))
        rw [← hW] at q0
        have z0 : W5.cell? ⟨NT, 0, none⟩ = some (.int .i64 R) := Go.Joins.cell_of_block q0 0
        have z1 : W5.cell? ⟨NT, 1, none⟩ = some (.int .i64 C) := Go.Joins.cell_of_block q0 1
        have z2 : W5.cell? ⟨NT, 2, none⟩ = some (.slice (some ⟨b', 0, none⟩) n n) := Go.Joins.cell_of_block q0 2
        have O5 := (own_set (own_set (own_set HO.out ⟨NT, 0, none⟩ (.int .i64 R) HNB.out) ⟨NT, 1, none⟩ (.int .i64 C) HNB.out) ⟨NT, 2, none⟩ (.slice (some ⟨b', 0, none⟩) n n) HNB.out)
        rw [← hW] at O5
        have B5 : Below w.heap.size w W5 := by
          have h1 := HNT.out
          rw [hW]
          exact ((HB.out.setCell (by simp; omega) _).setCell (by simp; omega) _).setCell (by simp; omega) _
        simp only [← hW]
        clear hW q0
        simp [bodyPost, results, Try.results52, go_sem, z0, z1, z2]
        exact ⟨O5, HLo.out, B5⟩
  · go_simp
    refine hK.out _ _ ?_ (fun hHeld2 => ?_)
    · (try dsimp only); exact next2_0 (below1 _ _) hHeld
    clear hK K
    obtain ⟨w5, hW5⟩ : ∃ w5, w5 = wD.alloc (Obj.cells #[.int .i64 0, .int .i64 0, .slice none 0 0] 26) := ⟨_, rfl⟩
    obtain ⟨NO, hO⟩ : ∃ NO, NO = wD.heap.size := ⟨_, rfl⟩
    have kO : w5.heap[NO]? = some (Obj.cells #[.int .i64 0, .int .i64 0, .slice none 0 0] 26) := by rw [hW5]; exact FNew.heap_top hO
    have hTO : NT < NO := by rw [hO]; exact (Array.getElem?_eq_some_iff.1 kt).1
    have bel : Below wD.heap.size wD w5 := by rw [hW5]; exact below1 _ _
    replace kt := (bel.block NT (Array.getElem?_eq_some_iff.1 kt).1).trans kt
    rw [← hW5] at hHeld2
    simp only [← hW5, ← hO]
    clear hHeld bel hW5 hO
    have hHeld := hHeld2
    clear hHeld2
    (try simp only [Act.put, List.setIfInBounds_toArray, List.set_cons_zero, List.set_cons_succ, List.getElem_toArray, List.getElem_cons_succ, List.getElem_cons_zero])
    refine wpAnyH_ready (rs := [8]) ?_ (by simp) ?_
    · decide +kernel
    refine AllReadyH.cons rfl (fun K hK => ?_) AllReadyH.nil
    go_simp
    go_at_call 97
    refine (FNew.l04New HN.out HLE.out).mono ?_
    rintro e w3 ⟨b', rfl, ow, lo, bel⟩
    have hNTb : NT < b' := Nat.lt_of_lt_of_le (Array.getElem?_eq_some_iff.1 kt).1 lo
    replace kt := (bel.block NT (Array.getElem?_eq_some_iff.1 kt).1).trans kt
    have lob : w.heap.size ≤ b' := Nat.le_trans hHeld.1.size lo
    have hNOb : NO ≠ b' := Nat.ne_of_lt (Nat.lt_of_lt_of_le (Array.getElem?_eq_some_iff.1 kO).1 lo)
    replace kO := (bel.block NO (Array.getElem?_eq_some_iff.1 kO).1).trans kO
    refine hK.out _ _ ?_ (fun hHeld2 => ?_)
    · (try dsimp only); exact next2_0 bel hHeld
    clear hK K hHeld bel lo
    have hHeld := hHeld2
    clear hHeld2
    (try simp only [Act.put, List.setIfInBounds_toArray, List.set_cons_zero, List.set_cons_succ, List.getElem_toArray, List.getElem_cons_succ, List.getElem_cons_zero])
    refine wpAnyH_ready (rs := [10]) ?_ (by simp) ?_
    · decide +kernel
    refine AllReadyH.cons rfl (fun K hK => ?_) AllReadyH.nil
    have y0 : w3.cell? ⟨NO, 0, none⟩ = some (.int .i64 0) := Go.Joins.cell_of_block kO 0
    have y1 : w3.cell? ⟨NO, 1, none⟩ = some (.int .i64 0) := Go.Joins.cell_of_block kO 1
    have y2 : w3.cell? ⟨NO, 2, none⟩ = some (.slice none 0 0) := Go.Joins.cell_of_block kO 2
    have g0 : w3.frozen? ⟨NO, 0, none⟩ = false := Go.Joins.unfrozen_of_block kO 0
    have g1 : w3.frozen? ⟨NO, 1, none⟩ = false := Go.Joins.unfrozen_of_block kO 1
    have g2 : w3.frozen? ⟨NO, 2, none⟩ = false := Go.Joins.unfrozen_of_block kO 2
    have HKx := hid kO
    have HHx := hid hHeld
    have HTO := hid (And.intro hTO (And.intro hNOb (And.intro hNTb lob)))
    have HKt := hid kt
    have HOx := hid ow
    clear kO hTO hNOb hNTb lob kt ow
    go_simp
    obtain ⟨w4, hW⟩ : ∃ w4, w4 = (((w3.setCell ⟨NO, 0, none⟩ (.int .i64 R)).setCell ⟨NO, 1, none⟩ (.int .i64 C)).setCell ⟨NO, 2, none⟩ (.slice (some ⟨b', 0, none⟩) n n)) := ⟨_, rfl⟩
    have kO : w4.heap[NO]? = some (Obj.cells #[.int .i64 R, .int .i64 C, .slice (some ⟨b', 0, none⟩) n n] 26) := by rw [hW]; exact (Go.Joins.block_setCell (i := 2) (Go.Joins.block_setCell (i := 1) (Go.Joins.block_setCell (i := 0) HKx.out (.int .i64 R)) (.int .i64 C)) (.slice (some ⟨b', 0, none⟩) n n))
    have kT : w4.heap[NT]? = some (Obj.cells #[.int .i64 0, .int .i64 0, .slice none 0 0] 26) := by rw [hW]; exact ((Below.heap_setCell ((w3.setCell ⟨NO, 0, none⟩ (.int .i64 R)).setCell ⟨NO, 1, none⟩ (.int .i64 C)) ⟨NO, 2, none⟩ (.slice (some ⟨b', 0, none⟩) n n) NT (Nat.ne_of_lt HTO.out.1)).trans ((Below.heap_setCell (w3.setCell ⟨NO, 0, none⟩ (.int .i64 R)) ⟨NO, 1, none⟩ (.int .i64 C) NT (Nat.ne_of_lt HTO.out.1)).trans ((Below.heap_setCell w3 ⟨NO, 0, none⟩ (.int .i64 R) NT (Nat.ne_of_lt HTO.out.1)).trans HKt.out)))
    have ow : Own 2 w4 b' (.slice (some ⟨b', 0, none⟩) n n) (List.replicate n 0) := by rw [hW]; exact (own_set (own_set (own_set HOx.out ⟨NO, 0, none⟩ (.int .i64 R) HTO.out.2.1) ⟨NO, 1, none⟩ (.int .i64 C) HTO.out.2.1) ⟨NO, 2, none⟩ (.slice (some ⟨b', 0, none⟩) n n) HTO.out.2.1)
    have B4 : Below w.heap.size w w4 := by
      have h1 := HNT.out; have h2 := HTO.out.1
      rw [hW]
      exact ((HHx.out.1.setCell (by simp; omega) _).setCell (by simp; omega) _).setCell (by simp; omega) _
    refine hK.out _ _ ?_ (fun hHeld5 => ?_)
    · (try dsimp only); rw [← hW]; exact ⟨B4, cell_keep B4 HK.out.1, cell_keep B4 HK.out.2.1, B4.size⟩
    clear hK K hHeld5
    simp only [← hW]
    clear hW y0 y1 y2 g0 g1 g2 hHeld
    have HSX : Hid (Below w.heap.size w w4 ∧ w4.cell? ⟨N, 0, none⟩ = some (.int .i64 R) ∧ w4.cell? ⟨N, 1, none⟩ = some (.int .i64 C) ∧ w4.cell? ⟨N, 2, none⟩ = some (.slice (some ⟨b, off, none⟩) n cap) ∧ Rd w4 b (.slice (some ⟨b, off, none⟩) n cap) zs ∧ w.heap.size ≤ w4.heap.size) := ⟨B4, cell_keep B4 HK.out.1, cell_keep B4 HK.out.2.1, cell_keep B4 HK.out.2.2, HH.out.keep B4 (Nat.le_refl _), B4.size⟩
    have HOW := hid ow
    have HKT := hid kT
    have HKO := hid kO
    have HAp := hid (show N < NT ∧ NT < b' ∧ NO ≠ b' ∧ w.heap.size ≤ b' from ⟨HNN.out.1, HTO.out.2.2.1, HTO.out.2.1, HTO.out.2.2.2⟩)
    clear ow kT kO B4
    (try simp only [Act.put, List.setIfInBounds_toArray, List.set_cons_zero, List.set_cons_succ, List.getElem_toArray, List.getElem_cons_succ, List.getElem_cons_zero])
    refine wpAnyH_done (by kernel_rfl) ?_ _
    go_wp2
    have HCLX : Hid (∀ i, i < n → w4.cell? ⟨b, off + i, none⟩ = some (.int .i64 (zs.getD i 0))) := fun i hi => (HSX.out.1.cell (p := ⟨b, off + i, none⟩) HB0.out).trans (HCell.out i hi)
    have HTL : Hid ((voteL zs R C rd).length = n) := by simp only [Hid, voteL, lifeL]; rw [grid_len, HN.out]
    have HBN : Hid (b < w4.heap.size ∧ b ≠ b') := ⟨Nat.lt_of_lt_of_le HB0.out HSX.out.1.size, Nat.ne_of_lt (Nat.lt_of_lt_of_le HB0.out HAp.out.2.2.2)⟩
    have hRC : R ≤ 24 ∧ C ≤ 24 := ⟨HR.out.2, HC.out.2⟩
    go_loopw [6] (fun i wr => ∃ p : Nat, p ≤ R ∧ i = .int .i64 p ∧ Own 2 wr b' (.slice (some ⟨b', 0, none⟩) n n) (filN (voteL zs R C rd) n (p * C)) ∧ w4.grownBy wr (some b')) (fun i _ => R - (intOf i).toNat)
    case atStart => exact ⟨0, Nat.zero_le _, rfl, by rw [Nat.zero_mul, filN_zero]; exact HOW.out, g_refl _ _⟩
    case round =>
      obtain ⟨p, hp, rfl, hown, hg⟩ := hrel
      have c0 := g_cell hg HSX.out.2.1 (Nat.ne_of_lt (Nat.lt_trans HAp.out.1 HAp.out.2.1))
      have c1 := g_cell hg HSX.out.2.2.1 (Nat.ne_of_lt (Nat.lt_trans HAp.out.1 HAp.out.2.1))
      have c2 := g_cell hg HSX.out.2.2.2.1 (Nat.ne_of_lt (Nat.lt_trans HAp.out.1 HAp.out.2.1))
      have d0 := g_cell hg (Go.Joins.cell_of_block HKO.out 0) HAp.out.2.2.1
      have d1 := g_cell hg (Go.Joins.cell_of_block HKO.out 1) HAp.out.2.2.1
      have d2 := g_cell hg (Go.Joins.cell_of_block HKO.out 2) HAp.out.2.2.1
      by_cases hlt : p < R
      · have HO1 := hid hown
        have HG1 := hid hg
        have hpi : (p : Int) < (R : Int) := by omega
        clear hown hg
        go_wp2
        clear c0 c1 c2 d0 d1 d2
        go_loopw [7] (fun k wx => ∃ q : Nat, q ≤ C ∧ k = .int .i64 q ∧ Own 2 wx b' (.slice (some ⟨b', 0, none⟩) n n) (filN (voteL zs R C rd) n (p * C + q)) ∧ w4.grownBy wx (some b')) (fun k _ => C - (intOf k).toNat)
        case atStart => exact ⟨0, Nat.zero_le _, rfl, HO1.out, HG1.out⟩
        case round =>
          clear HO1 HG1
          obtain ⟨q, hq2, rfl, hown, hg⟩ := hrel
          have c0 := g_cell hg HSX.out.2.1 (Nat.ne_of_lt (Nat.lt_trans HAp.out.1 HAp.out.2.1))
          have c1 := g_cell hg HSX.out.2.2.1 (Nat.ne_of_lt (Nat.lt_trans HAp.out.1 HAp.out.2.1))
          have c2 := g_cell hg HSX.out.2.2.2.1 (Nat.ne_of_lt (Nat.lt_trans HAp.out.1 HAp.out.2.1))
          have d0 := g_cell hg (Go.Joins.cell_of_block HKO.out 0) HAp.out.2.2.1
          have d1 := g_cell hg (Go.Joins.cell_of_block HKO.out 1) HAp.out.2.2.1
          have d2 := g_cell hg (Go.Joins.cell_of_block HKO.out 2) HAp.out.2.2.1
          by_cases hlt2 : q < C
          · obtain ⟨T, hT⟩ : ∃ T, T = p * C + q := ⟨_, rfl⟩
            have hTn : T < n := by rw [hT, HN.out]; exact pos_bd hlt hlt2
            have e4 := (wrap_pos (i := p) (C := C) (k := q) (by have := HLE.out; omega)).1
            have e5 := (wrap_pos (i := p) (C := C) (k := q) (by have := HLE.out; omega)).2
            rw [← hT] at e5 hown
            have HBW := hid (g_below HSX.out.1 hg HAp.out.2.2.2)
            have HT := hid hT
            have HO0 := hid hown
            have HG0 := hid hg
            obtain ⟨P2, hP2⟩ : ∃ P2, P2 = p * C := ⟨_, rfl⟩
            rw [← hP2] at e4 e5
            have hpi : (p : Int) < (R : Int) := by omega
            have hqi : (q : Int) < (C : Int) := by omega
            have hTi : (T : Int) < (n : Int) := by omega
            obtain ⟨A, hA⟩ : ∃ A, A = aro zs R C rd p q := ⟨_, rfl⟩
            have hA8 : 0 ≤ A ∧ A ≤ 8 := by rw [hA]; exact aro_bd HPL.out R C rd p q
            have HA8 := hid hA8
            have HA := hid hA
            clear hown hg hP2 hT hA
            have CC := hid (And.intro c0 (And.intro c1 c2))
            have HAr : Hid (∀ m, Calls Try.prog 98 #[.pointer (some ⟨N, 0, none⟩), .int .i64 p, .int .i64 q, .bool rd] (wr.drewN m) fun e w' => e = .returned (.int .i64 A) ∧ ∃ k, w' = (wr.drewN m).drewN k) := by
              intro m
              have := l04Around (w := wr.drewN m) (rd := rd) CC.out.1 CC.out.2.1 CC.out.2.2 ((HH.out.keep HBW.out (Nat.le_refl _)).keep (FSpec.below_drewN' wr.heap.size wr m) (Nat.le_refl _)) HQ.out HN.out HPL.out hlt hlt2
              rw [← HA.out] at this
              exact this
            have hzb := plain_bd HPL.out T
            obtain ⟨z, hz⟩ : ∃ z, z = zs.getD T 0 := ⟨_, rfl⟩
            rw [← hz] at hzb
            have hcx : wr.cell? ⟨b, off + T, none⟩ = some (.int .i64 z) := by rw [hz]; exact g_cell HG0.out ((HCLX.out T hTn)) (Nat.ne_of_lt (Nat.lt_of_lt_of_le HB0.out HAp.out.2.2.2))
            have HZ := hid hz
            have HZ1 : Hid (z = 0 ∨ z = 1) := by simp only [Hid]; omega
            clear hz CC
            by_cases hB : 5 ≤ A + z
            · have hd : decide ((5 : Int) ≤ A + z) = true := decide_eq_true hB
              have HTX : Hid ((voteL zs R C rd).getD T 0 = 1) := by
                show (voteL zs R C rd).getD T 0 = 1
                unfold voteL lifeL
                rw [HT.out, grid_get _ hlt hlt2, vote_nxt HA.out (by rw [← HT.out]; exact HZ.out) HA8.out HZ1.out]
                exact if_pos hB
              clear hB
              go_upto_region 9 with fail
              go_quiet (first | (go_at_call 98; refine Calls.quiet_of (HAr.out _)))
              obtain ⟨wb, hWb⟩ : ∃ wb, wb = wr.drewN nq := ⟨_, rfl⟩
              have bel : Below wr.heap.size wr wb := by rw [hWb]; exact FSpec.below_drewN' _ _ _
              simp only [← hWb]
              clear hWb hcx c0 c1 c2 d0 d1 d2
              have HO2 := hid (HO0.out.keep bel)
              have HG2 := hid (g_bel HG0.out bel)
              clear bel
              have c0 := g_cell HG2.out HSX.out.2.1 (Nat.ne_of_lt (Nat.lt_trans HAp.out.1 HAp.out.2.1))
              have c1 := g_cell HG2.out HSX.out.2.2.1 (Nat.ne_of_lt (Nat.lt_trans HAp.out.1 HAp.out.2.1))
              have c2 := g_cell HG2.out HSX.out.2.2.2.1 (Nat.ne_of_lt (Nat.lt_trans HAp.out.1 HAp.out.2.1))
              have d0 := g_cell HG2.out (Go.Joins.cell_of_block HKO.out 0) HAp.out.2.2.1
              have d1 := g_cell HG2.out (Go.Joins.cell_of_block HKO.out 1) HAp.out.2.2.1
              have d2 := g_cell HG2.out (Go.Joins.cell_of_block HKO.out 2) HAp.out.2.2.1
              have hox := HO2.out.cell (i := T) (by rw [filN_len _ _ _ HTL.out (Nat.le_of_lt hTn)]; exact hTn)
              have hof := HO2.out.free T
              go_wp2
              go_roundw
              case rel =>
                refine ⟨q + 1, by omega, by go_num, ?_, g_set HG2.out T _⟩
                have hs := filN_set (voteL zs R C rd) n T HTL.out hTn
                rw [HTX.out] at hs
                rw [show p * C + (q + 1) = T + 1 by have := HT.out; omega, ← hs]
                exact HO2.out.set T 1
              case measure => simp [intOf]; omega
            · have hd : decide ((5 : Int) ≤ A + z) = false := decide_eq_false hB
              have HTX : Hid ((voteL zs R C rd).getD T 0 = 0) := by
                show (voteL zs R C rd).getD T 0 = 0
                unfold voteL lifeL
                rw [HT.out, grid_get _ hlt hlt2, vote_nxt HA.out (by rw [← HT.out]; exact HZ.out) HA8.out HZ1.out]
                exact if_neg hB
              clear hB
              go_upto_region 9 with fail
              go_quiet (first | (go_at_call 98; refine Calls.quiet_of (HAr.out _)))
              obtain ⟨wb, hWb⟩ : ∃ wb, wb = wr.drewN nq := ⟨_, rfl⟩
              have bel : Below wr.heap.size wr wb := by rw [hWb]; exact FSpec.below_drewN' _ _ _
              simp only [← hWb]
              clear hWb hcx c0 c1 c2 d0 d1 d2
              have HO2 := hid (HO0.out.keep bel)
              have HG2 := hid (g_bel HG0.out bel)
              clear bel
              have c0 := g_cell HG2.out HSX.out.2.1 (Nat.ne_of_lt (Nat.lt_trans HAp.out.1 HAp.out.2.1))
              have c1 := g_cell HG2.out HSX.out.2.2.1 (Nat.ne_of_lt (Nat.lt_trans HAp.out.1 HAp.out.2.1))
              have c2 := g_cell HG2.out HSX.out.2.2.2.1 (Nat.ne_of_lt (Nat.lt_trans HAp.out.1 HAp.out.2.1))
              have d0 := g_cell HG2.out (Go.Joins.cell_of_block HKO.out 0) HAp.out.2.2.1
              have d1 := g_cell HG2.out (Go.Joins.cell_of_block HKO.out 1) HAp.out.2.2.1
              have d2 := g_cell HG2.out (Go.Joins.cell_of_block HKO.out 2) HAp.out.2.2.1
              go_wp2
              go_roundw
              case rel =>
                refine ⟨q + 1, by omega, by go_num, ?_, HG2.out⟩
                rw [show p * C + (q + 1) = T + 1 by have := HT.out; omega, filN_same _ _ _ HTL.out hTn HTX.out]
                exact HO2.out
              case measure => simp [intOf]; omega
          · have hqR : C = q := by omega
            have HO2 := hid hown
            have HG2 := hid hg
            clear hown hg
            subst hqR
            go_wp2
            go_roundw
            case rel =>
              refine ⟨p + 1, by omega, by go_num, ?_, HG2.out⟩
              rw [Nat.succ_mul]
              exact HO2.out
            case measure => simp [intOf]; omega
      · have hpC : R = p := by omega
        subst hpC
        rw [show R * C = n by rw [HN.out], filN_all _ _ HTL.out] at hown
        have hg2 := hg
        have kTr := g_heap hg HKT.out (Nat.ne_of_lt HAp.out.2.1)
        have HB := hid (g_below HSX.out.1 hg HAp.out.2.2.2)
        have HLo : Hid (w.heap.size ≤ b') := HAp.out.2.2.2
        have HNB : Hid (NT ≠ b') := Nat.ne_of_lt HAp.out.2.1
        have HO := hid hown
        clear hown hg hg2
        have y0 : wr.cell? ⟨NT, 0, none⟩ = some (.int .i64 0) := Go.Joins.cell_of_block kTr 0
        have y1 : wr.cell? ⟨NT, 1, none⟩ = some (.int .i64 0) := Go.Joins.cell_of_block kTr 1
        have y2 : wr.cell? ⟨NT, 2, none⟩ = some (.slice none 0 0) := Go.Joins.cell_of_block kTr 2
        have g0 : wr.frozen? ⟨NT, 0, none⟩ = false := Go.Joins.unfrozen_of_block kTr 0
        have g1 : wr.frozen? ⟨NT, 1, none⟩ = false := Go.Joins.unfrozen_of_block kTr 1
        have g2 : wr.frozen? ⟨NT, 2, none⟩ = false := Go.Joins.unfrozen_of_block kTr 2
        have HKx := hid kTr
        clear kTr
        go_wp2
        obtain ⟨W5, hW⟩ : ∃ W5, W5 = (((wr.setCell ⟨NT, 0, none⟩ (.int .i64 R)).setCell ⟨NT, 1, none⟩ (.int .i64 C)).setCell ⟨NT, 2, none⟩ (.slice (some ⟨b', 0, none⟩) n n)) := ⟨_, rfl⟩
        have q0 := (Go.Joins.block_setCell (i := 2) (Go.Joins.block_setCell (i := 1) (Go.Joins.block_setCell (i := 0) HKx.out (.int .i64 R)) (.int .i64 C)) (.slice (some ⟨b', 0, none⟩) n n))
        rw [← hW] at q0
        have z0 : W5.cell? ⟨NT, 0, none⟩ = some (.int .i64 R) := Go.Joins.cell_of_block q0 0
        have z1 : W5.cell? ⟨NT, 1, none⟩ = some (.int .i64 C) := Go.Joins.cell_of_block q0 1
        have z2 : W5.cell? ⟨NT, 2, none⟩ = some (.slice (some ⟨b', 0, none⟩) n n) := Go.Joins.cell_of_block q0 2
        have O5 := (own_set (own_set (own_set HO.out ⟨NT, 0, none⟩ (.int .i64 R) HNB.out) ⟨NT, 1, none⟩ (.int .i64 C) HNB.out) ⟨NT, 2, none⟩ (.slice (some ⟨b', 0, none⟩) n n) HNB.out)
        rw [← hW] at O5
        have B5 : Below w.heap.size w W5 := by
          have h1 := HNT.out
          rw [hW]
          exact ((HB.out.setCell (by simp; omega) _).setCell (by simp; omega) _).setCell (by simp; omega) _
        simp only [← hW]
        clear hW q0
        simp [bodyPost, results, Try.results52, go_sem, z0, z1, z2]
        exact ⟨O5, HLo.out, B5⟩
end Go.Proofs.Ythcbhbdgbiiagaa.Vt
