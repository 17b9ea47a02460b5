/- impl.IsSumRule, IsAdding, AddingTerms. -/
import Derived.Test.YtonghkooncmjgaaSum
import Derived.Test.YtonghkooncmjgaaAl
import Derived.Test.YtonghkooncmjgaaSame2
import Derived.Deep.Cut
namespace Go.Proofs.Ytonghkooncmjgaa.IsSum
open Go.RowKit Go.Proofs.Ytonghkooncmjgaa.Rd Go.Proofs.Ytonghkooncmjgaa.Help Go.Proofs.Ytonghkooncmjgaa.Ring Go.Proofs.Ytonghkooncmjgaa.Small Go.Proofs.Ytonghkooncmjgaa.Num Go.Proofs.Ytonghkooncmjgaa.Keep Go.Proofs.Ytonghkooncmjgaa.Rule Go.Proofs.Ytonghkooncmjgaa.Dig Go.Proofs.Ytonghkooncmjgaa.DigP Go.Proofs.Ytonghkooncmjgaa.Tell Go.Proofs.Ytonghkooncmjgaa.Sum
set_option linter.unusedVariables false
set_option linter.unusedSimpArgs false

theorem heap_keep {w w' : World} {n : Nat} {o : Obj} (bel : Below w.heap.size w w') (h : w.heap[n]? = some o) : w'.heap[n]? = some o :=
  (bel.block n (Array.getElem?_eq_some_iff.1 h).1).trans h
theorem own_lt {E : TypeId} {w : World} {b n cap : Nat} {zs : List Int} (h : Own E w b (.slice (some ⟨b, 0, none⟩) n cap) zs) : b < w.heap.size := h.lt
theorem set1 {N NB : Nat} {w0 w : World} {i : Nat} {x : Value} {p0 p1 p2 : Addr} {c0 c1 c2 : Value} {b0 : Nat} {v0 : Value} {z0 : List Int} (hN : N ≤ NB) (h0 : p0.block < NB) (h1 : p1.block < NB) (h2 : p2.block < NB) (hb : b0 < NB)
    (h : Below N w0 w ∧ w.cell? p0 = some c0 ∧ w.cell? p1 = some c1 ∧ w.cell? p2 = some c2 ∧ Rd w b0 v0 z0 ∧ N ≤ w.heap.size) :
    Below N w0 (w.setCell ⟨NB, i, none⟩ x) ∧ (w.setCell ⟨NB, i, none⟩ x).cell? p0 = some c0 ∧ (w.setCell ⟨NB, i, none⟩ x).cell? p1 = some c1 ∧ (w.setCell ⟨NB, i, none⟩ x).cell? p2 = some c2 ∧ Rd (w.setCell ⟨NB, i, none⟩ x) b0 v0 z0 ∧ N ≤ (w.setCell ⟨NB, i, none⟩ x).heap.size := by
  have bel : Below NB w (w.setCell ⟨NB, i, none⟩ x) := (Below.refl NB w).setCell (p := ⟨NB, i, none⟩) (Nat.le_refl _) x
  obtain ⟨a0, a1, a2, a3, a4, a5⟩ := h
  exact ⟨a0.trans (bel.mono hN), (bel.cell h0).trans a1, (bel.cell h1).trans a2, (bel.cell h2).trans a3, a4.keepAt bel hb, Nat.le_trans a5 bel.size⟩

/-- The table of the rule of weighed sums that a rule would be. -/
def sumT (s : Int) (tbl : List Int) (L M : Nat) : List Int := tab (fun k => dotK (Al.alo tbl s L) (dig s k L) L % s) M
def isSumB (s r : Int) (tbl : List Int) : Bool := Same.sameB s r tbl s r (sumT s tbl (2 * r + 1).toNat tbl.length)

set_option maxHeartbeats 8000000 in
theorem implIsSumOk {w : World} {s r : Int} {b : Nat} {v : Value} {tbl : List Int} (h : Rd w b v tbl) (hv : validB s r tbl = true) :
    Calls Try.prog 168 #[ruleV s r v] w fun e w' => e = .returned (.tuple #[.bool (isSumB s r tbl), .bool true]) ∧ Below w.heap.size w w' := by
  have HV := hid hv
  obtain ⟨hs, hr, hl, ha⟩ := Al.valid_parts hv
  obtain ⟨L, hL⟩ : ∃ L, L = (2 * r + 1).toNat := ⟨_, rfl⟩
  obtain ⟨M, hM⟩ : ∃ M, M = tbl.length := ⟨_, rfl⟩
  obtain ⟨TT, hTT⟩ : ∃ TT, TT = sumT s tbl L M := ⟨_, rfl⟩
  have HQ : Hid (isSumB s r tbl = Same.sameB s r tbl s r TT) := by simp only [Hid, isSumB, hTT, hL, hM]
  have HS := hid hs
  have HR := hid hr
  have HL := hid hL
  have HM : Hid ((M : Int) = s ^ (2 * r + 1).toNat) := by simp only [Hid]; rw [hM]; exact hl
  have HTT : Hid (TT = tab (fun k => dotK (Al.alo tbl s L) (dig s k L) L % s) M) := hTT
  have HAL : Hid (allB (Al.alo tbl s L) s = true) := Al.alo_all hs ha (by rw [hL]; exact hl) L (Nat.le_refl _)
  have HRd := hid h
  obtain ⟨ao, cap, rfl, hc, hm, h4⟩ := h
  have HB : Hid (b < w.heap.size) := by
    obtain ⟨_, _, hb, _⟩ := h4 (by have := pow_pos' hs (2 * r + 1).toNat; omega)
    exact hb
  rw [HQ.out]
  clear hv hs hr hl ha hL hM hTT hc hm h4
  go_enter Try.func168, Try.ntmps168
  go_wp2_with fail
  obtain ⟨w1, hW⟩ : ∃ w1, w1 = w.alloc (Obj.cells #[.int .i64 s, .int .i64 r, (Value.slice ao tbl.length cap)] 33) := ⟨_, rfl⟩
  obtain ⟨NR, hN⟩ : ∃ NR, NR = w.heap.size := ⟨_, rfl⟩
  have st : Below w.heap.size w w1 ∧ w1.cell? ⟨NR, 0, none⟩ = some (.int .i64 s) ∧ w1.cell? ⟨NR, 1, none⟩ = some (.int .i64 r) ∧ w1.cell? ⟨NR, 2, none⟩ = some (Value.slice ao tbl.length cap) ∧ Rd w1 b (Value.slice ao tbl.length cap) tbl ∧ w.heap.size ≤ w1.heap.size := by
    rw [hW, hN]
    exact ⟨below1 _ _, by simp, by simp, by simp, HRd.out.keep (below1 _ _) (Nat.le_refl _), by simp⟩
  have HNR := hid hN
  simp only [← hW, ← hN]
  clear hW hN
  go_at_call 73
  refine (implValid (rd3_1_0 st)).mono ?_
  rw [HV.out]
  rintro e w2 ⟨rfl, bel⟩
  replace st := next3_1 bel st
  clear bel
  go_upto_region 3 with fail
  go_cut [4, 5] from 6 (fun p q wc => ∃ NB bB : Nat, p = .pointer (some ⟨NB, 0, none⟩) ∧ q = .bool true ∧ (Below w.heap.size w wc ∧ wc.cell? ⟨NR, 0, none⟩ = some (.int .i64 s) ∧ wc.cell? ⟨NR, 1, none⟩ = some (.int .i64 r) ∧ wc.cell? ⟨NR, 2, none⟩ = some (Value.slice ao tbl.length cap) ∧ wc.cell? ⟨NB, 0, none⟩ = some (.int .i64 s) ∧ wc.cell? ⟨NB, 1, none⟩ = some (.int .i64 r) ∧ wc.cell? ⟨NB, 2, none⟩ = some (Value.slice (some ⟨bB, 0, none⟩) M M) ∧ Rd wc b (Value.slice ao tbl.length cap) tbl ∧ Rd wc bB (Value.slice (some ⟨bB, 0, none⟩) M M) TT ∧ w.heap.size ≤ wc.heap.size))
  case first =>
    refine wp_region_held_drew (S := (fun ww => Below w.heap.size w ww ∧ ww.cell? ⟨NR, 0, none⟩ = some (.int .i64 s) ∧ ww.cell? ⟨NR, 1, none⟩ = some (.int .i64 r) ∧ ww.cell? ⟨NR, 2, none⟩ = some (Value.slice ao tbl.length cap) ∧ Rd ww b (Value.slice ao tbl.length cap) tbl ∧ w.heap.size ≤ ww.heap.size)) (by kernel_rfl) ?_ (fun hHeld => ?_)
    · ((try dsimp only); exact drew3_1 st)
    generalize hD : w2.drew = wD at hHeld ⊢
    clear hD st
    first | (refine wpAnyH_take (i := 0) (v := ?_) rfl ?_ ?_ ?_ (fun _ _ _ h => h) (Or.inl ⟨?_, ?_⟩) ?_ ?_; rotate_left 1; (focus decide +kernel); (focus decide +kernel); (focus decide +kernel); (focus rfl); (focus (intro w hSw; (try dsimp only at hSw); go_simp; (try (with_reducible rfl)); done)); (focus assumption); (try simp only [Act.put, List.setIfInBounds_toArray, List.set_cons_zero, List.set_cons_succ, List.getElem_toArray, List.getElem_cons_succ, List.getElem_cons_zero])) | (refine wpAnyH_take (i := 0) (v := undef) rfl ?_ ?_ ?_ (fun _ _ _ h => h) (Or.inr ⟨?_, rfl⟩) ?_ ?_; (focus decide +kernel); (focus decide +kernel); (focus decide +kernel); (focus rfl); (focus assumption); (try simp only [Act.put, List.setIfInBounds_toArray, List.set_cons_zero, List.set_cons_succ, List.getElem_toArray, List.getElem_cons_succ, List.getElem_cons_zero]))
    first | (refine wpAnyH_take (i := 1) (v := ?_) rfl ?_ ?_ ?_ (fun _ _ _ h => h) (Or.inl ⟨?_, ?_⟩) ?_ ?_; rotate_left 1; (focus decide +kernel); (focus decide +kernel); (focus decide +kernel); (focus rfl); (focus (intro w hSw; (try dsimp only at hSw); go_simp; (try (with_reducible rfl)); done)); (focus assumption); (try simp only [Act.put, List.setIfInBounds_toArray, List.set_cons_zero, List.set_cons_succ, List.getElem_toArray, List.getElem_cons_succ, List.getElem_cons_zero])) | (refine wpAnyH_take (i := 1) (v := undef) rfl ?_ ?_ ?_ (fun _ _ _ h => h) (Or.inr ⟨?_, rfl⟩) ?_ ?_; (focus decide +kernel); (focus decide +kernel); (focus decide +kernel); (focus rfl); (focus assumption); (try simp only [Act.put, List.setIfInBounds_toArray, List.set_cons_zero, List.set_cons_succ, List.getElem_toArray, List.getElem_cons_succ, List.getElem_cons_zero]))
    first | (refine wpAnyH_take (i := 2) (v := ?_) rfl ?_ ?_ ?_ (fun _ _ _ h => h) (Or.inl ⟨?_, ?_⟩) ?_ ?_; rotate_left 1; (focus decide +kernel); (focus decide +kernel); (focus decide +kernel); (focus rfl); (focus (intro w hSw; (try dsimp only at hSw); go_simp; (try (with_reducible rfl)); done)); (focus assumption); (try simp only [Act.put, List.setIfInBounds_toArray, List.set_cons_zero, List.set_cons_succ, List.getElem_toArray, List.getElem_cons_succ, List.getElem_cons_zero])) | (refine wpAnyH_take (i := 2) (v := undef) rfl ?_ ?_ ?_ (fun _ _ _ h => h) (Or.inr ⟨?_, rfl⟩) ?_ ?_; (focus decide +kernel); (focus decide +kernel); (focus decide +kernel); (focus rfl); (focus assumption); (try simp only [Act.put, List.setIfInBounds_toArray, List.set_cons_zero, List.set_cons_succ, List.getElem_toArray, List.getElem_cons_succ, List.getElem_cons_zero]))
    refine wpAnyH_ready (rs := [3, 8]) ?_ (by simp) ?_
    · decide +kernel
    refine AllReadyH.cons rfl (fun K hK => ?_) (AllReadyH.cons rfl (fun K hK => ?_) AllReadyH.nil)
    · go_simp
      go_at_call 188
      refine (Al.toldAlone (rd3_1_0 hHeld) HV.out).mono ?_
      rw [Al.alo_length, ← HL.out]
      rintro e wA ⟨bA, rfl, oA, loA, bel⟩
      refine hK.out _ _ ?_ (fun hHeld => ?_)
      · ((try dsimp only); exact next3_1 bel hHeld)
      clear hK K
      (try simp only [Act.put, List.setIfInBounds_toArray, List.set_cons_zero, List.set_cons_succ, List.getElem_toArray, List.getElem_cons_succ, List.getElem_cons_zero])
      refine wpAnyH_ready (rs := [4, 8]) ?_ (by simp) ?_
      · decide +kernel
      refine AllReadyH.cons rfl (fun K hK => ?_) (AllReadyH.cons rfl (fun K hK => ?_) AllReadyH.nil)
      · go_simp
        have hA := implSumOk (M := M) oA.rd HS.out HR.out (by rw [Al.alo_length]; have := HL.out; have := HR.out; omega) HM.out HAL.out
        rw [Al.alo_length] at hA
        go_at_call 187
        refine hA.mono ?_
        clear hA
        rintro e wB ⟨bB, rfl, oB, loB, bel⟩
        clear oA
        refine hK.out _ _ ?_ (fun hHeld => ?_)
        · ((try dsimp only); exact next3_1 bel hHeld)
        clear hK K
        (try simp only [Act.put, List.setIfInBounds_toArray, List.set_cons_zero, List.set_cons_succ, List.getElem_toArray, List.getElem_cons_succ, List.getElem_cons_zero])
        first | (refine wpAnyH_take (i := 5) (v := ?_) rfl ?_ ?_ ?_ (fun _ _ _ h => h) (Or.inl ⟨?_, ?_⟩) ?_ ?_; rotate_left 1; (focus decide +kernel); (focus decide +kernel); (focus decide +kernel); (focus rfl); (focus (intro w hSw; (try dsimp only at hSw); go_simp; (try (with_reducible rfl)); done)); (focus assumption); (try simp only [Act.put, List.setIfInBounds_toArray, List.set_cons_zero, List.set_cons_succ, List.getElem_toArray, List.getElem_cons_succ, List.getElem_cons_zero])) | (refine wpAnyH_take (i := 5) (v := undef) rfl ?_ ?_ ?_ (fun _ _ _ h => h) (Or.inr ⟨?_, rfl⟩) ?_ ?_; (focus decide +kernel); (focus decide +kernel); (focus decide +kernel); (focus rfl); (focus assumption); (try simp only [Act.put, List.setIfInBounds_toArray, List.set_cons_zero, List.set_cons_succ, List.getElem_toArray, List.getElem_cons_succ, List.getElem_cons_zero]))
        first | (refine wpAnyH_take (i := 6) (v := ?_) rfl ?_ ?_ ?_ (fun _ _ _ h => h) (Or.inl ⟨?_, ?_⟩) ?_ ?_; rotate_left 1; (focus decide +kernel); (focus decide +kernel); (focus decide +kernel); (focus rfl); (focus (intro w hSw; (try dsimp only at hSw); go_simp; (try (with_reducible rfl)); done)); (focus assumption); (try simp only [Act.put, List.setIfInBounds_toArray, List.set_cons_zero, List.set_cons_succ, List.getElem_toArray, List.getElem_cons_succ, List.getElem_cons_zero])) | (refine wpAnyH_take (i := 6) (v := undef) rfl ?_ ?_ ?_ (fun _ _ _ h => h) (Or.inr ⟨?_, rfl⟩) ?_ ?_; (focus decide +kernel); (focus decide +kernel); (focus decide +kernel); (focus rfl); (focus assumption); (try simp only [Act.put, List.setIfInBounds_toArray, List.set_cons_zero, List.set_cons_succ, List.getElem_toArray, List.getElem_cons_succ, List.getElem_cons_zero]))
        first | (refine wpAnyH_take (i := 7) (v := ?_) rfl ?_ ?_ ?_ (fun _ _ _ h => h) (Or.inl ⟨?_, ?_⟩) ?_ ?_; rotate_left 1; (focus decide +kernel); (focus decide +kernel); (focus decide +kernel); (focus rfl); (focus (intro w hSw; (try dsimp only at hSw); go_simp; (try (with_reducible rfl)); done)); (focus assumption); (try simp only [Act.put, List.setIfInBounds_toArray, List.set_cons_zero, List.set_cons_succ, List.getElem_toArray, List.getElem_cons_succ, List.getElem_cons_zero])) | (refine wpAnyH_take (i := 7) (v := undef) rfl ?_ ?_ ?_ (fun _ _ _ h => h) (Or.inr ⟨?_, rfl⟩) ?_ ?_; (focus decide +kernel); (focus decide +kernel); (focus decide +kernel); (focus rfl); (focus assumption); (try simp only [Act.put, List.setIfInBounds_toArray, List.set_cons_zero, List.set_cons_succ, List.getElem_toArray, List.getElem_cons_succ, List.getElem_cons_zero]))
        refine wpAnyH_ready (rs := [8]) ?_ (by simp) ?_
        · decide +kernel
        refine AllReadyH.cons rfl (fun K hK => ?_) AllReadyH.nil
        go_simp
        have hOld := hHeld
        refine hK.out _ _ ?_ (fun hHeld => ?_)
        · ((try dsimp only); have bel := below1 wB (Obj.cells #[.int .i64 0, .int .i64 0, .slice none 0 0] 33); exact next3_1 bel hHeld)
        clear hK K
        (try simp only [Act.put, List.setIfInBounds_toArray, List.set_cons_zero, List.set_cons_succ, List.getElem_toArray, List.getElem_cons_succ, List.getElem_cons_zero])
        obtain ⟨va, hW⟩ : ∃ va, va = wB.alloc (Obj.cells #[.int .i64 0, .int .i64 0, .slice none 0 0] 33) := ⟨_, rfl⟩
        obtain ⟨NB, hN⟩ : ∃ NB, NB = wB.heap.size := ⟨_, rfl⟩
        have bel : Below wB.heap.size wB va := by rw [hW]; exact below1 _ _
        have kB : va.heap[NB]? = some (Obj.cells #[.int .i64 0, .int .i64 0, .slice none 0 0] 33) := by rw [hW]; exact heap_top hN
        have nBB : NB ≠ bB := by rw [hN]; exact Nat.ne_of_gt (own_lt oB)
        replace oB := oB.keep bel
        have hNB0 : w.heap.size ≤ NB := by rw [hN]; exact hOld.2.2.2.2.2
        have hNBR : NR < NB := by rw [hN]; exact World.block_lt_of_cell? _ _ hOld.2.1
        have hNBb : b < NB := by rw [hN]; exact Nat.lt_of_lt_of_le HB.out hOld.2.2.2.2.2
        rw [← hW] at hHeld
        simp only [← hW, ← hN]
        clear hW hN bel hOld
        have y0 : va.cell? ⟨NB, 0, none⟩ = some (.int .i64 0) := Go.Joins.cell_of_block kB 0
        have y1 : va.cell? ⟨NB, 1, none⟩ = some (.int .i64 0) := Go.Joins.cell_of_block kB 1
        have y2 : va.cell? ⟨NB, 2, none⟩ = some (.slice none 0 0) := Go.Joins.cell_of_block kB 2
        have g0 : va.frozen? ⟨NB, 0, none⟩ = false := Go.Joins.unfrozen_of_block kB 0
        have g1 : va.frozen? ⟨NB, 1, none⟩ = false := Go.Joins.unfrozen_of_block kB 1
        have g2 : va.frozen? ⟨NB, 2, none⟩ = false := Go.Joins.unfrozen_of_block kB 2
        refine wpAnyH_ready (rs := [9]) ?_ (by simp) ?_
        · decide +kernel
        refine AllReadyH.cons rfl (fun K hK => ?_) AllReadyH.nil
        go_simp
        have q0 := (Go.Joins.block_setCell (i := 2) (Go.Joins.block_setCell (i := 1) (Go.Joins.block_setCell (i := 0) kB (.int .i64 s)) (.int .i64 r)) (.slice (some ⟨bB, 0, none⟩) M M))
        obtain ⟨vs, hW⟩ : ∃ vs, vs = (((va.setCell ⟨NB, 0, none⟩ (.int .i64 s)).setCell ⟨NB, 1, none⟩ (.int .i64 r)).setCell ⟨NB, 2, none⟩ (.slice (some ⟨bB, 0, none⟩) M M)) := ⟨_, rfl⟩
        rw [← hW] at q0
        have oB' := (own_set (own_set (own_set oB ⟨NB, 0, none⟩ (.int .i64 s) nBB) ⟨NB, 1, none⟩ (.int .i64 r) nBB) ⟨NB, 2, none⟩ (.slice (some ⟨bB, 0, none⟩) M M) nBB)
        rw [← hW] at oB'
        have z0 : vs.cell? ⟨NB, 0, none⟩ = some (.int .i64 s) := Go.Joins.cell_of_block q0 0
        have z1 : vs.cell? ⟨NB, 1, none⟩ = some (.int .i64 r) := Go.Joins.cell_of_block q0 1
        have z2 : vs.cell? ⟨NB, 2, none⟩ = some (.slice (some ⟨bB, 0, none⟩) M M) := Go.Joins.cell_of_block q0 2
        have hS : Below w.heap.size w vs ∧ vs.cell? ⟨NR, 0, none⟩ = some (.int .i64 s) ∧ vs.cell? ⟨NR, 1, none⟩ = some (.int .i64 r) ∧ vs.cell? ⟨NR, 2, none⟩ = some (Value.slice ao tbl.length cap) ∧ Rd vs b (Value.slice ao tbl.length cap) tbl ∧ w.heap.size ≤ vs.heap.size := by rw [hW]; exact set1 hNB0 hNBR hNBR hNBR hNBb (set1 hNB0 hNBR hNBR hNBR hNBb (set1 hNB0 hNBR hNBR hNBR hNBb hHeld))
        refine hK.out _ _ ?_ (fun hHeld => ?_)
        · (try dsimp only); rw [← hW]; exact hS
        clear hK K hHeld
        (try simp only [Act.put, List.setIfInBounds_toArray, List.set_cons_zero, List.set_cons_succ, List.getElem_toArray, List.getElem_cons_succ, List.getElem_cons_zero])
        simp only [← hW]
        clear hW q0 y0 g0 y1 g1 y2 g2
        first | (refine wpAnyH_take (i := 10) (v := ?_) rfl ?_ ?_ ?_ (fun _ _ _ h => h) (Or.inl ⟨?_, ?_⟩) ?_ ?_; rotate_left 1; (focus decide +kernel); (focus decide +kernel); (focus decide +kernel); (focus rfl); (focus (intro w hSw; (try dsimp only at hSw); go_simp; (try (with_reducible rfl)); done)); (focus assumption); (try simp only [Act.put, List.setIfInBounds_toArray, List.set_cons_zero, List.set_cons_succ, List.getElem_toArray, List.getElem_cons_succ, List.getElem_cons_zero])) | (refine wpAnyH_take (i := 10) (v := undef) rfl ?_ ?_ ?_ (fun _ _ _ h => h) (Or.inr ⟨?_, rfl⟩) ?_ ?_; (focus decide +kernel); (focus decide +kernel); (focus decide +kernel); (focus rfl); (focus assumption); (try simp only [Act.put, List.setIfInBounds_toArray, List.set_cons_zero, List.set_cons_succ, List.getElem_toArray, List.getElem_cons_succ, List.getElem_cons_zero]))
        refine wpAnyH_done (by kernel_rfl) ?_ _
        go_wp2_with fail
        go_meet
        case rel => exact ⟨NB, bB, rfl, rfl, hS.1, hS.2.1, hS.2.2.1, hS.2.2.2.1, z0, z1, z2, hS.2.2.2.2.1, by rw [HTT.out]; exact oB'.rd, hS.2.2.2.2.2⟩
      · go_simp
        have hOld := hHeld
        refine hK.out _ _ ?_ (fun hHeld => ?_)
        · ((try dsimp only); have bel := below1 wA (Obj.cells #[.int .i64 0, .int .i64 0, .slice none 0 0] 33); exact next3_1 bel hHeld)
        clear hK K
        (try simp only [Act.put, List.setIfInBounds_toArray, List.set_cons_zero, List.set_cons_succ, List.getElem_toArray, List.getElem_cons_succ, List.getElem_cons_zero])
        obtain ⟨va, hW⟩ : ∃ va, va = wA.alloc (Obj.cells #[.int .i64 0, .int .i64 0, .slice none 0 0] 33) := ⟨_, rfl⟩
        obtain ⟨NB, hN⟩ : ∃ NB, NB = wA.heap.size := ⟨_, rfl⟩
        have bel : Below wA.heap.size wA va := by rw [hW]; exact below1 _ _
        have kB : va.heap[NB]? = some (Obj.cells #[.int .i64 0, .int .i64 0, .slice none 0 0] 33) := by rw [hW]; exact heap_top hN
        have nBA : NB ≠ bA := by rw [hN]; exact Nat.ne_of_gt (own_lt oA)
        replace oA := oA.keep bel
        have hNB0 : w.heap.size ≤ NB := by rw [hN]; exact hOld.2.2.2.2.2
        have hNBR : NR < NB := by rw [hN]; exact World.block_lt_of_cell? _ _ hOld.2.1
        have hNBb : b < NB := by rw [hN]; exact Nat.lt_of_lt_of_le HB.out hOld.2.2.2.2.2
        rw [← hW] at hHeld
        simp only [← hW, ← hN]
        clear hW hN bel hOld
        refine wpAnyH_ready (rs := [4]) ?_ (by simp) ?_
        · decide +kernel
        refine AllReadyH.cons rfl (fun K hK => ?_) AllReadyH.nil
        go_simp
        have hA := implSumOk (M := M) oA.rd HS.out HR.out (by rw [Al.alo_length]; have := HL.out; have := HR.out; omega) HM.out HAL.out
        rw [Al.alo_length] at hA
        go_at_call 187
        refine hA.mono ?_
        clear hA
        rintro e wB ⟨bB, rfl, oB, loB, bel⟩
        have ltB := (Array.getElem?_eq_some_iff.1 kB).1
        have nBB : NB ≠ bB := Nat.ne_of_lt (Nat.lt_of_lt_of_le ltB loB)
        replace kB := heap_keep bel kB
        clear oA
        refine hK.out _ _ ?_ (fun hHeld => ?_)
        · ((try dsimp only); exact next3_1 bel hHeld)
        clear hK K
        (try simp only [Act.put, List.setIfInBounds_toArray, List.set_cons_zero, List.set_cons_succ, List.getElem_toArray, List.getElem_cons_succ, List.getElem_cons_zero])
        first | (refine wpAnyH_take (i := 5) (v := ?_) rfl ?_ ?_ ?_ (fun _ _ _ h => h) (Or.inl ⟨?_, ?_⟩) ?_ ?_; rotate_left 1; (focus decide +kernel); (focus decide +kernel); (focus decide +kernel); (focus rfl); (focus (intro w hSw; (try dsimp only at hSw); go_simp; (try (with_reducible rfl)); done)); (focus assumption); (try simp only [Act.put, List.setIfInBounds_toArray, List.set_cons_zero, List.set_cons_succ, List.getElem_toArray, List.getElem_cons_succ, List.getElem_cons_zero])) | (refine wpAnyH_take (i := 5) (v := undef) rfl ?_ ?_ ?_ (fun _ _ _ h => h) (Or.inr ⟨?_, rfl⟩) ?_ ?_; (focus decide +kernel); (focus decide +kernel); (focus decide +kernel); (focus rfl); (focus assumption); (try simp only [Act.put, List.setIfInBounds_toArray, List.set_cons_zero, List.set_cons_succ, List.getElem_toArray, List.getElem_cons_succ, List.getElem_cons_zero]))
        first | (refine wpAnyH_take (i := 6) (v := ?_) rfl ?_ ?_ ?_ (fun _ _ _ h => h) (Or.inl ⟨?_, ?_⟩) ?_ ?_; rotate_left 1; (focus decide +kernel); (focus decide +kernel); (focus decide +kernel); (focus rfl); (focus (intro w hSw; (try dsimp only at hSw); go_simp; (try (with_reducible rfl)); done)); (focus assumption); (try simp only [Act.put, List.setIfInBounds_toArray, List.set_cons_zero, List.set_cons_succ, List.getElem_toArray, List.getElem_cons_succ, List.getElem_cons_zero])) | (refine wpAnyH_take (i := 6) (v := undef) rfl ?_ ?_ ?_ (fun _ _ _ h => h) (Or.inr ⟨?_, rfl⟩) ?_ ?_; (focus decide +kernel); (focus decide +kernel); (focus decide +kernel); (focus rfl); (focus assumption); (try simp only [Act.put, List.setIfInBounds_toArray, List.set_cons_zero, List.set_cons_succ, List.getElem_toArray, List.getElem_cons_succ, List.getElem_cons_zero]))
        first | (refine wpAnyH_take (i := 7) (v := ?_) rfl ?_ ?_ ?_ (fun _ _ _ h => h) (Or.inl ⟨?_, ?_⟩) ?_ ?_; rotate_left 1; (focus decide +kernel); (focus decide +kernel); (focus decide +kernel); (focus rfl); (focus (intro w hSw; (try dsimp only at hSw); go_simp; (try (with_reducible rfl)); done)); (focus assumption); (try simp only [Act.put, List.setIfInBounds_toArray, List.set_cons_zero, List.set_cons_succ, List.getElem_toArray, List.getElem_cons_succ, List.getElem_cons_zero])) | (refine wpAnyH_take (i := 7) (v := undef) rfl ?_ ?_ ?_ (fun _ _ _ h => h) (Or.inr ⟨?_, rfl⟩) ?_ ?_; (focus decide +kernel); (focus decide +kernel); (focus decide +kernel); (focus rfl); (focus assumption); (try simp only [Act.put, List.setIfInBounds_toArray, List.set_cons_zero, List.set_cons_succ, List.getElem_toArray, List.getElem_cons_succ, List.getElem_cons_zero]))
        have y0 : wB.cell? ⟨NB, 0, none⟩ = some (.int .i64 0) := Go.Joins.cell_of_block kB 0
        have y1 : wB.cell? ⟨NB, 1, none⟩ = some (.int .i64 0) := Go.Joins.cell_of_block kB 1
        have y2 : wB.cell? ⟨NB, 2, none⟩ = some (.slice none 0 0) := Go.Joins.cell_of_block kB 2
        have g0 : wB.frozen? ⟨NB, 0, none⟩ = false := Go.Joins.unfrozen_of_block kB 0
        have g1 : wB.frozen? ⟨NB, 1, none⟩ = false := Go.Joins.unfrozen_of_block kB 1
        have g2 : wB.frozen? ⟨NB, 2, none⟩ = false := Go.Joins.unfrozen_of_block kB 2
        refine wpAnyH_ready (rs := [9]) ?_ (by simp) ?_
        · decide +kernel
        refine AllReadyH.cons rfl (fun K hK => ?_) AllReadyH.nil
        go_simp
        have q0 := (Go.Joins.block_setCell (i := 2) (Go.Joins.block_setCell (i := 1) (Go.Joins.block_setCell (i := 0) kB (.int .i64 s)) (.int .i64 r)) (.slice (some ⟨bB, 0, none⟩) M M))
        obtain ⟨vs, hW⟩ : ∃ vs, vs = (((wB.setCell ⟨NB, 0, none⟩ (.int .i64 s)).setCell ⟨NB, 1, none⟩ (.int .i64 r)).setCell ⟨NB, 2, none⟩ (.slice (some ⟨bB, 0, none⟩) M M)) := ⟨_, rfl⟩
        rw [← hW] at q0
        have oB' := (own_set (own_set (own_set oB ⟨NB, 0, none⟩ (.int .i64 s) nBB) ⟨NB, 1, none⟩ (.int .i64 r) nBB) ⟨NB, 2, none⟩ (.slice (some ⟨bB, 0, none⟩) M M) nBB)
        rw [← hW] at oB'
        have z0 : vs.cell? ⟨NB, 0, none⟩ = some (.int .i64 s) := Go.Joins.cell_of_block q0 0
        have z1 : vs.cell? ⟨NB, 1, none⟩ = some (.int .i64 r) := Go.Joins.cell_of_block q0 1
        have z2 : vs.cell? ⟨NB, 2, none⟩ = some (.slice (some ⟨bB, 0, none⟩) M M) := Go.Joins.cell_of_block q0 2
        have hS : Below w.heap.size w vs ∧ vs.cell? ⟨NR, 0, none⟩ = some (.int .i64 s) ∧ vs.cell? ⟨NR, 1, none⟩ = some (.int .i64 r) ∧ vs.cell? ⟨NR, 2, none⟩ = some (Value.slice ao tbl.length cap) ∧ Rd vs b (Value.slice ao tbl.length cap) tbl ∧ w.heap.size ≤ vs.heap.size := by rw [hW]; exact set1 hNB0 hNBR hNBR hNBR hNBb (set1 hNB0 hNBR hNBR hNBR hNBb (set1 hNB0 hNBR hNBR hNBR hNBb hHeld))
        refine hK.out _ _ ?_ (fun hHeld => ?_)
        · (try dsimp only); rw [← hW]; exact hS
        clear hK K hHeld
        (try simp only [Act.put, List.setIfInBounds_toArray, List.set_cons_zero, List.set_cons_succ, List.getElem_toArray, List.getElem_cons_succ, List.getElem_cons_zero])
        simp only [← hW]
        clear hW q0 y0 g0 y1 g1 y2 g2
        first | (refine wpAnyH_take (i := 10) (v := ?_) rfl ?_ ?_ ?_ (fun _ _ _ h => h) (Or.inl ⟨?_, ?_⟩) ?_ ?_; rotate_left 1; (focus decide +kernel); (focus decide +kernel); (focus decide +kernel); (focus rfl); (focus (intro w hSw; (try dsimp only at hSw); go_simp; (try (with_reducible rfl)); done)); (focus assumption); (try simp only [Act.put, List.setIfInBounds_toArray, List.set_cons_zero, List.set_cons_succ, List.getElem_toArray, List.getElem_cons_succ, List.getElem_cons_zero])) | (refine wpAnyH_take (i := 10) (v := undef) rfl ?_ ?_ ?_ (fun _ _ _ h => h) (Or.inr ⟨?_, rfl⟩) ?_ ?_; (focus decide +kernel); (focus decide +kernel); (focus decide +kernel); (focus rfl); (focus assumption); (try simp only [Act.put, List.setIfInBounds_toArray, List.set_cons_zero, List.set_cons_succ, List.getElem_toArray, List.getElem_cons_succ, List.getElem_cons_zero]))
        refine wpAnyH_done (by kernel_rfl) ?_ _
        go_wp2_with fail
        go_meet
        case rel => exact ⟨NB, bB, rfl, rfl, hS.1, hS.2.1, hS.2.2.1, hS.2.2.2.1, z0, z1, z2, hS.2.2.2.2.1, by rw [HTT.out]; exact oB'.rd, hS.2.2.2.2.2⟩
    · go_simp
      have hOld := hHeld
      refine hK.out _ _ ?_ (fun hHeld => ?_)
      · ((try dsimp only); have bel := below1 wD (Obj.cells #[.int .i64 0, .int .i64 0, .slice none 0 0] 33); exact next3_1 bel hHeld)
      clear hK K
      (try simp only [Act.put, List.setIfInBounds_toArray, List.set_cons_zero, List.set_cons_succ, List.getElem_toArray, List.getElem_cons_succ, List.getElem_cons_zero])
      obtain ⟨va, hW⟩ : ∃ va, va = wD.alloc (Obj.cells #[.int .i64 0, .int .i64 0, .slice none 0 0] 33) := ⟨_, rfl⟩
      obtain ⟨NB, hN⟩ : ∃ NB, NB = wD.heap.size := ⟨_, rfl⟩
      have bel : Below wD.heap.size wD va := by rw [hW]; exact below1 _ _
      have kB : va.heap[NB]? = some (Obj.cells #[.int .i64 0, .int .i64 0, .slice none 0 0] 33) := by rw [hW]; exact heap_top hN
      have hNB0 : w.heap.size ≤ NB := by rw [hN]; exact hOld.2.2.2.2.2
      have hNBR : NR < NB := by rw [hN]; exact World.block_lt_of_cell? _ _ hOld.2.1
      have hNBb : b < NB := by rw [hN]; exact Nat.lt_of_lt_of_le HB.out hOld.2.2.2.2.2
      rw [← hW] at hHeld
      simp only [← hW, ← hN]
      clear hW hN bel hOld
      refine wpAnyH_ready (rs := [3]) ?_ (by simp) ?_
      · decide +kernel
      refine AllReadyH.cons rfl (fun K hK => ?_) AllReadyH.nil
      go_simp
      go_at_call 188
      refine (Al.toldAlone (rd3_1_0 hHeld) HV.out).mono ?_
      rw [Al.alo_length, ← HL.out]
      rintro e wA ⟨bA, rfl, oA, loA, bel⟩
      have ltB := (Array.getElem?_eq_some_iff.1 kB).1
      have nBA : NB ≠ bA := Nat.ne_of_lt (Nat.lt_of_lt_of_le ltB loA)
      replace kB := heap_keep bel kB
      refine hK.out _ _ ?_ (fun hHeld => ?_)
      · ((try dsimp only); exact next3_1 bel hHeld)
      clear hK K
      (try simp only [Act.put, List.setIfInBounds_toArray, List.set_cons_zero, List.set_cons_succ, List.getElem_toArray, List.getElem_cons_succ, List.getElem_cons_zero])
      refine wpAnyH_ready (rs := [4]) ?_ (by simp) ?_
      · decide +kernel
      refine AllReadyH.cons rfl (fun K hK => ?_) AllReadyH.nil
      go_simp
      have hA := implSumOk (M := M) oA.rd HS.out HR.out (by rw [Al.alo_length]; have := HL.out; have := HR.out; omega) HM.out HAL.out
      rw [Al.alo_length] at hA
      go_at_call 187
      refine hA.mono ?_
      clear hA
      rintro e wB ⟨bB, rfl, oB, loB, bel⟩
      have ltB := (Array.getElem?_eq_some_iff.1 kB).1
      have nBB : NB ≠ bB := Nat.ne_of_lt (Nat.lt_of_lt_of_le ltB loB)
      replace kB := heap_keep bel kB
      clear oA
      refine hK.out _ _ ?_ (fun hHeld => ?_)
      · ((try dsimp only); exact next3_1 bel hHeld)
      clear hK K
      (try simp only [Act.put, List.setIfInBounds_toArray, List.set_cons_zero, List.set_cons_succ, List.getElem_toArray, List.getElem_cons_succ, List.getElem_cons_zero])
      first | (refine wpAnyH_take (i := 5) (v := ?_) rfl ?_ ?_ ?_ (fun _ _ _ h => h) (Or.inl ⟨?_, ?_⟩) ?_ ?_; rotate_left 1; (focus decide +kernel); (focus decide +kernel); (focus decide +kernel); (focus rfl); (focus (intro w hSw; (try dsimp only at hSw); go_simp; (try (with_reducible rfl)); done)); (focus assumption); (try simp only [Act.put, List.setIfInBounds_toArray, List.set_cons_zero, List.set_cons_succ, List.getElem_toArray, List.getElem_cons_succ, List.getElem_cons_zero])) | (refine wpAnyH_take (i := 5) (v := undef) rfl ?_ ?_ ?_ (fun _ _ _ h => h) (Or.inr ⟨?_, rfl⟩) ?_ ?_; (focus decide +kernel); (focus decide +kernel); (focus decide +kernel); (focus rfl); (focus assumption); (try simp only [Act.put, List.setIfInBounds_toArray, List.set_cons_zero, List.set_cons_succ, List.getElem_toArray, List.getElem_cons_succ, List.getElem_cons_zero]))
      first | (refine wpAnyH_take (i := 6) (v := ?_) rfl ?_ ?_ ?_ (fun _ _ _ h => h) (Or.inl ⟨?_, ?_⟩) ?_ ?_; rotate_left 1; (focus decide +kernel); (focus decide +kernel); (focus decide +kernel); (focus rfl); (focus (intro w hSw; (try dsimp only at hSw); go_simp; (try (with_reducible rfl)); done)); (focus assumption); (try simp only [Act.put, List.setIfInBounds_toArray, List.set_cons_zero, List.set_cons_succ, List.getElem_toArray, List.getElem_cons_succ, List.getElem_cons_zero])) | (refine wpAnyH_take (i := 6) (v := undef) rfl ?_ ?_ ?_ (fun _ _ _ h => h) (Or.inr ⟨?_, rfl⟩) ?_ ?_; (focus decide +kernel); (focus decide +kernel); (focus decide +kernel); (focus rfl); (focus assumption); (try simp only [Act.put, List.setIfInBounds_toArray, List.set_cons_zero, List.set_cons_succ, List.getElem_toArray, List.getElem_cons_succ, List.getElem_cons_zero]))
      first | (refine wpAnyH_take (i := 7) (v := ?_) rfl ?_ ?_ ?_ (fun _ _ _ h => h) (Or.inl ⟨?_, ?_⟩) ?_ ?_; rotate_left 1; (focus decide +kernel); (focus decide +kernel); (focus decide +kernel); (focus rfl); (focus (intro w hSw; (try dsimp only at hSw); go_simp; (try (with_reducible rfl)); done)); (focus assumption); (try simp only [Act.put, List.setIfInBounds_toArray, List.set_cons_zero, List.set_cons_succ, List.getElem_toArray, List.getElem_cons_succ, List.getElem_cons_zero])) | (refine wpAnyH_take (i := 7) (v := undef) rfl ?_ ?_ ?_ (fun _ _ _ h => h) (Or.inr ⟨?_, rfl⟩) ?_ ?_; (focus decide +kernel); (focus decide +kernel); (focus decide +kernel); (focus rfl); (focus assumption); (try simp only [Act.put, List.setIfInBounds_toArray, List.set_cons_zero, List.set_cons_succ, List.getElem_toArray, List.getElem_cons_succ, List.getElem_cons_zero]))
      have y0 : wB.cell? ⟨NB, 0, none⟩ = some (.int .i64 0) := Go.Joins.cell_of_block kB 0
      have y1 : wB.cell? ⟨NB, 1, none⟩ = some (.int .i64 0) := Go.Joins.cell_of_block kB 1
      have y2 : wB.cell? ⟨NB, 2, none⟩ = some (.slice none 0 0) := Go.Joins.cell_of_block kB 2
      have g0 : wB.frozen? ⟨NB, 0, none⟩ = false := Go.Joins.unfrozen_of_block kB 0
      have g1 : wB.frozen? ⟨NB, 1, none⟩ = false := Go.Joins.unfrozen_of_block kB 1
      have g2 : wB.frozen? ⟨NB, 2, none⟩ = false := Go.Joins.unfrozen_of_block kB 2
      refine wpAnyH_ready (rs := [9]) ?_ (by simp) ?_
      · decide +kernel
      refine AllReadyH.cons rfl (fun K hK => ?_) AllReadyH.nil
      go_simp
      have q0 := (Go.Joins.block_setCell (i := 2) (Go.Joins.block_setCell (i := 1) (Go.Joins.block_setCell (i := 0) kB (.int .i64 s)) (.int .i64 r)) (.slice (some ⟨bB, 0, none⟩) M M))
      obtain ⟨vs, hW⟩ : ∃ vs, vs = (((wB.setCell ⟨NB, 0, none⟩ (.int .i64 s)).setCell ⟨NB, 1, none⟩ (.int .i64 r)).setCell ⟨NB, 2, none⟩ (.slice (some ⟨bB, 0, none⟩) M M)) := ⟨_, rfl⟩
      rw [← hW] at q0
      have oB' := (own_set (own_set (own_set oB ⟨NB, 0, none⟩ (.int .i64 s) nBB) ⟨NB, 1, none⟩ (.int .i64 r) nBB) ⟨NB, 2, none⟩ (.slice (some ⟨bB, 0, none⟩) M M) nBB)
      rw [← hW] at oB'
      have z0 : vs.cell? ⟨NB, 0, none⟩ = some (.int .i64 s) := Go.Joins.cell_of_block q0 0
      have z1 : vs.cell? ⟨NB, 1, none⟩ = some (.int .i64 r) := Go.Joins.cell_of_block q0 1
      have z2 : vs.cell? ⟨NB, 2, none⟩ = some (.slice (some ⟨bB, 0, none⟩) M M) := Go.Joins.cell_of_block q0 2
      have hS : Below w.heap.size w vs ∧ vs.cell? ⟨NR, 0, none⟩ = some (.int .i64 s) ∧ vs.cell? ⟨NR, 1, none⟩ = some (.int .i64 r) ∧ vs.cell? ⟨NR, 2, none⟩ = some (Value.slice ao tbl.length cap) ∧ Rd vs b (Value.slice ao tbl.length cap) tbl ∧ w.heap.size ≤ vs.heap.size := by rw [hW]; exact set1 hNB0 hNBR hNBR hNBR hNBb (set1 hNB0 hNBR hNBR hNBR hNBb (set1 hNB0 hNBR hNBR hNBR hNBb hHeld))
      refine hK.out _ _ ?_ (fun hHeld => ?_)
      · (try dsimp only); rw [← hW]; exact hS
      clear hK K hHeld
      (try simp only [Act.put, List.setIfInBounds_toArray, List.set_cons_zero, List.set_cons_succ, List.getElem_toArray, List.getElem_cons_succ, List.getElem_cons_zero])
      simp only [← hW]
      clear hW q0 y0 g0 y1 g1 y2 g2
      first | (refine wpAnyH_take (i := 10) (v := ?_) rfl ?_ ?_ ?_ (fun _ _ _ h => h) (Or.inl ⟨?_, ?_⟩) ?_ ?_; rotate_left 1; (focus decide +kernel); (focus decide +kernel); (focus decide +kernel); (focus rfl); (focus (intro w hSw; (try dsimp only at hSw); go_simp; (try (with_reducible rfl)); done)); (focus assumption); (try simp only [Act.put, List.setIfInBounds_toArray, List.set_cons_zero, List.set_cons_succ, List.getElem_toArray, List.getElem_cons_succ, List.getElem_cons_zero])) | (refine wpAnyH_take (i := 10) (v := undef) rfl ?_ ?_ ?_ (fun _ _ _ h => h) (Or.inr ⟨?_, rfl⟩) ?_ ?_; (focus decide +kernel); (focus decide +kernel); (focus decide +kernel); (focus rfl); (focus assumption); (try simp only [Act.put, List.setIfInBounds_toArray, List.set_cons_zero, List.set_cons_succ, List.getElem_toArray, List.getElem_cons_succ, List.getElem_cons_zero]))
      refine wpAnyH_done (by kernel_rfl) ?_ _
      go_wp2_with fail
      go_meet
      case rel => exact ⟨NB, bB, rfl, rfl, hS.1, hS.2.1, hS.2.2.1, hS.2.2.2.1, z0, z1, z2, hS.2.2.2.2.1, by rw [HTT.out]; exact oB'.rd, hS.2.2.2.2.2⟩
  case rest =>
    obtain ⟨NB, bB, rfl, rfl, st2⟩ := hcut
    clear st
    go_wp2_with fail
    go_at_call 81
    refine (Same.impl_two (rd6_2_0 st2) (rd6_2_1 st2)).mono ?_
    rintro e w9 ⟨rfl, bel⟩
    replace st2 := next6_2 bel st2
    clear bel
    go_wp2
    go_ret2
    exact ⟨rfl, st2.1⟩

theorem implIsSumNo {w : World} {s r : Int} {b : Nat} {v : Value} {tbl : List Int} (h : Rd w b v tbl) (hv : validB s r tbl = false) :
    Calls Try.prog 168 #[ruleV s r v] w fun e w' => e = .returned (.tuple #[.bool false, .bool false]) ∧ Below w.heap.size w w' := by
  have HV := hid hv
  have HRd := hid h
  obtain ⟨ao, cap, rfl, hc, hm, h4⟩ := h
  clear hv hc hm h4
  go_enter Try.func168, Try.ntmps168
  go_wp2_with fail
  obtain ⟨w1, hW⟩ : ∃ w1, w1 = w.alloc (Obj.cells #[.int .i64 s, .int .i64 r, (Value.slice ao tbl.length cap)] 33) := ⟨_, rfl⟩
  obtain ⟨NR, hN⟩ : ∃ NR, NR = w.heap.size := ⟨_, rfl⟩
  have st : Below w.heap.size w w1 ∧ w1.cell? ⟨NR, 0, none⟩ = some (.int .i64 s) ∧ w1.cell? ⟨NR, 1, none⟩ = some (.int .i64 r) ∧ w1.cell? ⟨NR, 2, none⟩ = some (Value.slice ao tbl.length cap) ∧ Rd w1 b (Value.slice ao tbl.length cap) tbl ∧ w.heap.size ≤ w1.heap.size := by
    rw [hW, hN]
    exact ⟨below1 _ _, by simp, by simp, by simp, HRd.out.keep (below1 _ _) (Nat.le_refl _), by simp⟩
  simp only [← hW, ← hN]
  clear hW hN
  go_at_call 73
  refine (implValid (rd3_1_0 st)).mono ?_
  rw [HV.out]
  rintro e w2 ⟨rfl, bel⟩
  replace st := next3_1 bel st
  clear bel
  go_wp2
  go_ret2
  exact ⟨rfl, st.1⟩

theorem implIsSum {w : World} {s r : Int} {b : Nat} {v : Value} {tbl : List Int} (h : Rd w b v tbl) :
    Calls Try.prog 168 #[ruleV s r v] w fun e w' => e = .returned (.tuple #[.bool (validB s r tbl && isSumB s r tbl), .bool (validB s r tbl)]) ∧ Below w.heap.size w w' := by
  cases hv : validB s r tbl with
  | true => rw [Bool.true_and]; exact implIsSumOk h hv
  | false => rw [Bool.false_and]; exact implIsSumNo h hv

theorem implIsAdding {w : World} {s r : Int} {b : Nat} {v : Value} {tbl : List Int} (h : Rd w b v tbl) :
    Calls Try.prog 117 #[ruleV s r v] w fun e w' => e = .returned (.tuple #[.bool (validB s r tbl && isSumB s r tbl), .bool (validB s r tbl)]) ∧ Below w.heap.size w w' := by
  have HRd := hid h
  obtain ⟨ao, cap, rfl, hc, hm, h4⟩ := h
  clear hc hm h4
  obtain ⟨q, hq⟩ : ∃ q, q = (validB s r tbl && isSumB s r tbl) := ⟨_, rfl⟩
  obtain ⟨q2, hq2⟩ : ∃ q2, q2 = validB s r tbl := ⟨_, rfl⟩
  have HQ := hid hq
  have HQ2 := hid hq2
  rw [← hq, ← hq2]
  clear hq hq2
  go_enter Try.func117, Try.ntmps117
  go_wp2_with fail
  go_at_call 168
  refine (implIsSum (HRd.out.keep (below1 _ _) (Nat.le_refl _))).mono ?_
  rw [← HQ.out, ← HQ2.out]
  rintro e w2 ⟨rfl, bel⟩
  go_wp2
  go_ret2
  exact ⟨rfl, (below1 _ _).trans (bel.mono (below1 _ _).size)⟩

end Go.Proofs.Ytonghkooncmjgaa.IsSum
