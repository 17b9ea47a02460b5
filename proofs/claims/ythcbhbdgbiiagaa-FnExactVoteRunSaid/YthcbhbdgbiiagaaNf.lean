/- nextField: a step of a life, the program. -/
import Derived.Test.YthcbhbdgbiiagaaFrm
import Derived.Test.YthcbhbdgbiiagaaCopy
import Derived.Deep.Cut
namespace Go.Proofs.Ythcbhbdgbiiagaa.Nf
open Go.RowKit Go.Proofs.Ythcbhbdgbiiagaa.Rd Go.Proofs.Ythcbhbdgbiiagaa.Help Go.Proofs.Ythcbhbdgbiiagaa.Ring Go.Proofs.Ythcbhbdgbiiagaa.Small Go.Proofs.Ythcbhbdgbiiagaa.FVal Go.Proofs.Ythcbhbdgbiiagaa.Keep Go.Proofs.Ythcbhbdgbiiagaa.Rule Go.Proofs.Ythcbhbdgbiiagaa.Grow Go.Proofs.Ythcbhbdgbiiagaa.Copy Go.Proofs.Ythcbhbdgbiiagaa.Arr Go.Proofs.Ythcbhbdgbiiagaa.Lf Go.Proofs.Ythcbhbdgbiiagaa.Rnd Go.Proofs.Ythcbhbdgbiiagaa.Frm
set_option linter.unusedVariables false
set_option linter.unusedSimpArgs false

theorem heap_keep {w w' : World} {n : Nat} {o : Obj} (bel : Below w.heap.size w w') (h : w.heap[n]? = some o) : w'.heap[n]? = some o :=
  (bel.block n (Array.getElem?_eq_some_iff.1 h).1).trans h
theorem heap_lt {w : World} {n : Nat} {o : Obj} (h : w.heap[n]? = some o) : n < w.heap.size := (Array.getElem?_eq_some_iff.1 h).1
theorem grown_setRow (w : World) (g : Nat) (cs : Array Value) : w.grownBy (w.setRow g cs) (some g) :=
  ⟨rfl, rfl, rfl, by simp [World.setRow], fun k _ hne => setRow_other w g k _ (fun e => hne (by rw [e]))⟩
theorem step_storeA {ops : Array Oper} {o : Oper} {a : Act} {W : World} {K : Act → World → Prop} {Q : Exit → Act → World → Prop} {X : Prop} (hgd : o.guard = none) (ty : TypeId) (x y : Operand) (ho : o.op = .store ty x y)
    (g : Nat) (cells : Array Value) (hx : a.eval x = .pointer (some ⟨g, 0, none⟩)) (hy : a.eval y = .agg cells)
    (t : TypeId) (old : Array Value) (hg : W.heap[g]? = some (.cells old t (0, 0))) (hi : (Try.prog.info? ty).map (·.size) = some cells.size)
    (hold : old.size = cells.size) (h1 : cells.all (·.oneCell') = true) (h : K (a.put o.dst undef) (W.setRow g cells)) :
    if Region.wanted o (yielded ops a.tmps) = true then Oper.wp Try.prog o a W K Q else X := by
  have hw : Region.wanted o (yielded ops a.tmps) = true := by simp [Region.wanted, hgd]
  rw [if_pos hw]
  exact wp_store_row ty x y ho g cells hx hy t old hg hi hold h1 h
theorem fr_cell {zs : List Int} {R C p q : Nat} (rd : Bool) (hp : p < R) (hq : q < C) : fr zs R C rd (p : Int) (q : Int) = zs.getD (p * C + q) 0 :=
  fr_row (by rw [Int.emod_eq_of_lt (by omega) (by omega)]; simp) hq (.inr ⟨by omega, by omega⟩)
theorem at_nxt {xs ys zs : List Int} {R C p q s Z : Nat} {rd : Bool} (hz : zs.getD (p * C + q) 0 = (Z : Int)) (hZ : Z = 0 ∨ Z = 1) (hs : aro zs R C rd p q = (s : Int)) (hs8 : s ≤ 8) :
    nxt xs ys zs R C rd p q = (tabL xs ys xs.length ys.length).getD (Z * 9 + s) 0 := by
  have := tabL_at (xs := xs) (ys := ys) (z := (Z : Int)) (n := s) (by omega) hs8
  rw [Int.toNat_natCast] at this
  rw [this]
  unfold nxt
  rw [hz, hs]

set_option maxHeartbeats 64000000 in
set_option maxRecDepth 4000 in
theorem nextField {w : World} {R C n : Nat} {rd : Bool} {b : Nat} {v : Value} {xs ys zs : List Int} (h : Rd w b v zs) (hq : fieldB R C zs = true) (hn : n = R * C) (hpl : plainB zs = true) :
    Calls Try.prog 102 #[.agg (cellsA (tabL xs ys xs.length ys.length)), ruleV R C v, .bool rd] w fun e w' => ∃ b', e = .returned (ruleV R C (.slice (some ⟨b', 0, none⟩) n n)) ∧ Own 2 w' b' (.slice (some ⟨b', 0, none⟩) n n) (lifeL xs ys zs R C rd) ∧ w.heap.size ≤ b' ∧ Below w.heap.size w w' := by
  obtain ⟨hR, hC, hl, hle⟩ := field_nat hq
  have HH := hid h
  have HQ := hid hq
  obtain ⟨ao, cap, rfl, hc, hm, h4⟩ := h
  rw [← hn] at hle
  have hpos : 0 < zs.length := by rw [hl]; exact Nat.mul_pos hR.1 hC.1
  obtain ⟨off, rfl, hb, hcell⟩ := h4 hpos
  have hln : zs.length = n := by rw [hn]; exact hl
  rw [hln] at HH hc hcell ⊢
  have hsz : n ≤ cap ∧ cap ≤ 9223372036854775807 := by unfold maxLen at hm; omega
  have HCap := hid (show n ≤ cap ∧ cap ≤ maxLen from ⟨hc, hm⟩)
  have HL : Hid (zs.length = n) := by simp only [Hid]; rw [hn]; exact hl
  have HN := hid hn
  have HR := hid hR
  have HC := hid hC
  have HB0 := hid hb
  have HCell := hid hcell
  have HLE := hid hle
  clear hc hm h4 hq hn hl hpos hb hcell hln
  have HPL := hid hpl
  clear hpl
  go_enter Try.func102, Try.ntmps102
  go_wp2_with fail
  obtain ⟨w1, hW⟩ : ∃ w1, w1 = ((w.alloc (Obj.cells (cellsA (tabL xs ys xs.length ys.length)) 123)).alloc (Obj.cells #[.int .i64 R, .int .i64 C, .slice (some ⟨b, off, none⟩) n cap] 26)).alloc (Obj.cells #[.int .i64 0, .int .i64 0, .slice none 0 0] 26) := ⟨_, rfl⟩
  obtain ⟨TB, hN0⟩ : ∃ TB, TB = w.heap.size := ⟨_, rfl⟩
  obtain ⟨N, hN⟩ : ∃ N, N = TB + 1 := ⟨_, rfl⟩
  obtain ⟨NT, hT⟩ : ∃ NT, NT = N + 1 := ⟨_, rfl⟩
  have HZZ : Hid (Try.zeroCells140 = cellsA (List.replicate 676 0)) := by show _ = _; kernel_rfl
  have HB1 : Hid (Below w.heap.size w w1) := by simp only [Hid]; rw [hW]; exact Go.Joins.below_alloc3 _ _ _ _
  have HM : Hid (w1.cell? ⟨N, 0, none⟩ = some (.int .i64 R) ∧ w1.cell? ⟨N, 1, none⟩ = some (.int .i64 C) ∧ w1.cell? ⟨N, 2, none⟩ = some (.slice (some ⟨b, off, none⟩) n cap)) := by
    simp only [Hid]; rw [hW, hN, hN0]
    exact ⟨cell_keep (below1 _ _) (by simp), cell_keep (below1 _ _) (by simp), cell_keep (below1 _ _) (by simp)⟩
  have HT0 : Hid (AB 123 w1 TB (tabL xs ys xs.length ys.length)) := by
    simp only [Hid]; unfold AB; rw [hW]; exact FNew.heap_old (FNew.heap_old (FNew.heap_top hN0))
  have HK0 : Hid (w1.heap[NT]? = some (Obj.cells #[.int .i64 0, .int .i64 0, .slice none 0 0] 26)) := by
    simp only [Hid]; rw [hW]; exact FNew.heap_top (by rw [hT, hN, hN0]; simp)
  have HRd1 : Hid (Rd w1 b (.slice (some ⟨b, off, none⟩) n cap) zs) := HH.out.keep HB1.out (Nat.le_refl _)
  have HNT : Hid (w.heap.size ≤ NT) := by simp only [Hid]; omega
  simp only [← hW, ← hN0, ← hN, ← hT]
  clear hW hN0 hN hT
  go_upto_region 1 with fail
  go_cut [7, 8] from 16 (fun p q wc => ∃ NO NF b' : Nat, p = .pointer (some ⟨NO, 0, none⟩) ∧ q = .pointer (some ⟨NF, 0, none⟩) ∧ (Below w.heap.size w wc ∧ wc.cell? ⟨N, 0, none⟩ = some (.int .i64 R) ∧ wc.cell? ⟨N, 1, none⟩ = some (.int .i64 C) ∧ wc.cell? ⟨N, 2, none⟩ = some (.slice (some ⟨b, off, none⟩) n cap)) ∧ AB 123 wc TB (tabL xs ys xs.length ys.length) ∧ wc.heap[NT]? = some (Obj.cells #[.int .i64 0, .int .i64 0, .slice none 0 0] 26) ∧ wc.heap[NO]? = some (Obj.cells #[.int .i64 R, .int .i64 C, .slice (some ⟨b', 0, none⟩) n n] 26) ∧ AB 140 wc NF (fzL zs R C rd (R + 2)) ∧ Own 2 wc b' (.slice (some ⟨b', 0, none⟩) n n) (List.replicate n 0) ∧ w.heap.size ≤ b' ∧ (NT ≠ b' ∧ NO ≠ b' ∧ NF ≠ b' ∧ TB ≠ b' ∧ N ≠ b' ∧ b ≠ b'))
  case first =>
    refine wp_region_held_drew (S := (fun ww => Below w.heap.size w ww ∧ ww.cell? ⟨N, 0, none⟩ = some (.int .i64 R) ∧ ww.cell? ⟨N, 1, none⟩ = some (.int .i64 C) ∧ ww.cell? ⟨N, 2, none⟩ = some (.slice (some ⟨b, off, none⟩) n cap) ∧ w.heap.size ≤ ww.heap.size)) (by kernel_rfl) ?_ (fun hHeld => ?_)
    · ((try dsimp only); exact ⟨HB1.out.drew, HM.out.1, HM.out.2.1, HM.out.2.2, HB1.out.drew.size⟩)
    have HTB : Hid (AB 123 w1.drew TB (tabL xs ys xs.length ys.length)) := HT0.out
    have HKT : Hid (w1.drew.heap[NT]? = some (Obj.cells #[.int .i64 0, .int .i64 0, .slice none 0 0] 26)) := HK0.out
    have HRD : Hid (Rd w1.drew b (.slice (some ⟨b, off, none⟩) n cap) zs) := HRd1.out
    have HD0 := hid hHeld
    generalize hDr : w1.drew = wD at hHeld HTB HKT HRD HD0 ⊢
    clear hDr
    have belD : Below wD.heap.size wD wD := Below.refl _ _
    (refine wpAnyH_take (i := 0) (v := ?_) rfl ?_ ?_ ?_ (fun _ _ _ h => h) (Or.inl ⟨?_, ?_⟩) ?_ ?_; rotate_left 1; (focus decide +kernel); (focus decide +kernel); (focus decide +kernel); (focus rfl); (focus (intro w hSw; (try dsimp only at hSw); go_simp; (try (with_reducible rfl)); done)); (focus assumption); (try simp only [Act.put, List.setIfInBounds_toArray, List.set_cons_zero, List.set_cons_succ, List.getElem_toArray, List.getElem_cons_succ, List.getElem_cons_zero]))
    (refine wpAnyH_take (i := 3) (v := ?_) rfl ?_ ?_ ?_ (fun _ _ _ h => h) (Or.inl ⟨?_, ?_⟩) ?_ ?_; rotate_left 1; (focus decide +kernel); (focus decide +kernel); (focus decide +kernel); (focus rfl); (focus (intro w hSw; (try dsimp only at hSw); go_simp; (try (with_reducible rfl)); done)); (focus assumption); (try simp only [Act.put, List.setIfInBounds_toArray, List.set_cons_zero, List.set_cons_succ, List.getElem_toArray, List.getElem_cons_succ, List.getElem_cons_zero]))
    (refine wpAnyH_take (i := 4) (v := ?_) rfl ?_ ?_ ?_ (fun _ _ _ h => h) (Or.inl ⟨?_, ?_⟩) ?_ ?_; rotate_left 1; (focus decide +kernel); (focus decide +kernel); (focus decide +kernel); (focus rfl); (focus (intro w hSw; (try dsimp only at hSw); go_simp; (try (with_reducible rfl)); done)); (focus assumption); (try simp only [Act.put, List.setIfInBounds_toArray, List.set_cons_zero, List.set_cons_succ, List.getElem_toArray, List.getElem_cons_succ, List.getElem_cons_zero]))
    refine wpAnyH_ready (rs := [1, 6, 7]) ?_ (by simp) ?_
    · decide +kernel
    refine AllReadyH.cons rfl (fun K hK => ?_) (AllReadyH.cons rfl (fun K hK => ?_) (AllReadyH.cons rfl (fun K hK => ?_) AllReadyH.nil))
    · go_simp
      go_at_call 91
      refine extentOf.mono ?_
      rintro e we ⟨rfl, bel⟩
      replace belD := belD.trans (bel.mono belD.size)
      refine hK.out _ _ ?_ (fun hHeld2 => ?_)
      · (try dsimp only); exact next3_0 belD HD0.out
      clear hK K hHeld bel
      have hHeld := hHeld2
      clear hHeld2
      (try simp only [Act.put, List.setIfInBounds_toArray, List.set_cons_zero, List.set_cons_succ, List.getElem_toArray, List.getElem_cons_succ, List.getElem_cons_zero])
      refine wpAnyH_ready (rs := [2, 6, 7]) ?_ (by simp) ?_
      · decide +kernel
      refine AllReadyH.cons rfl (fun K hK => ?_) (AllReadyH.cons rfl (fun K hK => ?_) (AllReadyH.cons rfl (fun K hK => ?_) AllReadyH.nil))
      · go_simp
        go_at_call 124
        refine (FNew.emptyField HN.out HLE.out).mono ?_
        rintro e wm ⟨b', rfl, ow0, lo, bel⟩
        have lob : wD.heap.size ≤ b' := Nat.le_trans belD.size lo
        replace belD := belD.trans (bel.mono belD.size)
        refine hK.out _ _ ?_ (fun hHeld2 => ?_)
        · (try dsimp only); exact next3_0 belD HD0.out
        clear hK K hHeld bel
        clear lo
        have ow := ow0
        clear ow0
        have hHeld := hHeld2
        clear hHeld2
        (try simp only [Act.put, List.setIfInBounds_toArray, List.set_cons_zero, List.set_cons_succ, List.getElem_toArray, List.getElem_cons_succ, List.getElem_cons_zero])
        refine wpAnyH_ready (rs := [5, 6, 7]) ?_ (by simp) ?_
        · decide +kernel
        refine AllReadyH.cons rfl (fun K hK => ?_) (AllReadyH.cons rfl (fun K hK => ?_) (AllReadyH.cons rfl (fun K hK => ?_) AllReadyH.nil))
        · go_simp
          go_at_call 125
          refine (Frm.framed (HRD.out.keep belD (Nat.le_refl _)) HQ.out HN.out).mono ?_
          rintro e wf ⟨rfl, bel⟩
          replace belD := belD.trans (bel.mono belD.size)
          replace ow := ow.keep bel
          refine hK.out _ _ ?_ (fun hHeld2 => ?_)
          · (try dsimp only); exact next3_0 belD HD0.out
          clear hK K hHeld bel
          have hHeld := hHeld2
          clear hHeld2
          (try simp only [Act.put, List.setIfInBounds_toArray, List.set_cons_zero, List.set_cons_succ, List.getElem_toArray, List.getElem_cons_succ, List.getElem_cons_zero])
          refine wpAnyH_ready (rs := [6, 7]) ?_ (by simp) ?_
          · decide +kernel
          refine AllReadyH.cons rfl (fun K hK => ?_) (AllReadyH.cons rfl (fun K hK => ?_) AllReadyH.nil)
          · go_simp
            have bel := below1 wf (Obj.cells #[.int .i64 0, .int .i64 0, .slice none 0 0] 26)
            have lmS := belD.size
            replace belD := belD.trans (bel.mono belD.size)
            have nOb0 := Nat.ne_of_gt ow.lt
            replace ow := ow.keep bel
            refine hK.out _ _ ?_ (fun hHeld2 => ?_)
            · (try dsimp only); exact next3_0 belD HD0.out
            clear hK K hHeld bel
            obtain ⟨vO, hWa⟩ : ∃ vO, vO = wf.alloc (Obj.cells #[.int .i64 0, .int .i64 0, .slice none 0 0] 26) := ⟨_, rfl⟩
            obtain ⟨NO, hNa⟩ : ∃ NO, NO = wf.heap.size := ⟨_, rfl⟩
            have kO : vO.heap[NO]? = some (Obj.cells #[.int .i64 0, .int .i64 0, .slice none 0 0] 26) := by rw [hWa]; exact FNew.heap_top hNa
            have lmO : wD.heap.size ≤ NO := by rw [hNa]; exact lmS
            clear lmS
            have nOb : NO ≠ b' := by rw [hNa]; exact nOb0
            clear nOb0
            rw [← hWa] at belD ow
            (try dsimp only at hHeld2)
            simp only [← hWa, ← hNa] at hHeld2 ⊢
            clear hWa hNa
            have hHeld := hHeld2
            clear hHeld2
            (try simp only [Act.put, List.setIfInBounds_toArray, List.set_cons_zero, List.set_cons_succ, List.getElem_toArray, List.getElem_cons_succ, List.getElem_cons_zero])
            refine wpAnyH_ready (rs := [7]) ?_ (by simp) ?_
            · decide +kernel
            refine AllReadyH.cons rfl (fun K hK => ?_) AllReadyH.nil
            go_simp
            have bel := below1 vO (Obj.cells Try.zeroCells140 140)
            have lmS := belD.size
            replace belD := belD.trans (bel.mono belD.size)
            have nFb0 := Nat.ne_of_gt ow.lt
            have nOF0 := heap_lt kO
            replace ow := ow.keep bel
            replace kO := heap_keep bel kO
            refine hK.out _ _ ?_ (fun hHeld2 => ?_)
            · (try dsimp only); exact next3_0 belD HD0.out
            clear hK K hHeld bel
            obtain ⟨vF, hWa⟩ : ∃ vF, vF = vO.alloc (Obj.cells Try.zeroCells140 140) := ⟨_, rfl⟩
            obtain ⟨NF, hNa⟩ : ∃ NF, NF = vO.heap.size := ⟨_, rfl⟩
            have kF : AB 140 vF NF (List.replicate 676 0) := by unfold AB; rw [hWa, ← HZZ.out]; exact FNew.heap_top hNa
            have lmF : wD.heap.size ≤ NF := by rw [hNa]; exact lmS
            clear lmS
            have nFb : NF ≠ b' := by rw [hNa]; exact nFb0
            clear nFb0
            have nOF : NO ≠ NF := by rw [hNa]; exact Nat.ne_of_lt nOF0
            clear nOF0
            rw [← hWa] at belD ow kO
            (try dsimp only at hHeld2)
            simp only [← hWa, ← hNa] at hHeld2 ⊢
            clear hWa hNa
            have hHeld := hHeld2
            clear hHeld2
            (try simp only [Act.put, List.setIfInBounds_toArray, List.set_cons_zero, List.set_cons_succ, List.getElem_toArray, List.getElem_cons_succ, List.getElem_cons_zero])
            refine wpAnyH_ready (rs := [8]) ?_ (by simp) ?_
            · decide +kernel
            refine AllReadyH.cons rfl (fun K hK => ?_) AllReadyH.nil
            have y0 : vF.cell? ⟨NO, 0, none⟩ = some (.int .i64 0) := Go.Joins.cell_of_block kO 0
            have y1 : vF.cell? ⟨NO, 1, none⟩ = some (.int .i64 0) := Go.Joins.cell_of_block kO 1
            have y2 : vF.cell? ⟨NO, 2, none⟩ = some (.slice none 0 0) := Go.Joins.cell_of_block kO 2
            have g0 : vF.frozen? ⟨NO, 0, none⟩ = false := Go.Joins.unfrozen_of_block kO 0
            have g1 : vF.frozen? ⟨NO, 1, none⟩ = false := Go.Joins.unfrozen_of_block kO 1
            have g2 : vF.frozen? ⟨NO, 2, none⟩ = false := Go.Joins.unfrozen_of_block kO 2
            have HKO := hid kO
            clear kO
            go_simp
            clear y0 y1 y2 g0 g1 g2
            have q0 := (Go.Joins.block_setCell (i := 2) (Go.Joins.block_setCell (i := 1) (Go.Joins.block_setCell (i := 0) HKO.out (.int .i64 R)) (.int .i64 C)) (.slice (some ⟨b', 0, none⟩) n n))
            have oz := (own_set (own_set (own_set ow ⟨NO, 0, none⟩ (.int .i64 R) nOb) ⟨NO, 1, none⟩ (.int .i64 C) nOb) ⟨NO, 2, none⟩ (.slice (some ⟨b', 0, none⟩) n n) nOb)
            have bz := (((belD.setCell (p := ⟨NO, 0, none⟩) lmO (.int .i64 R)).setCell (p := ⟨NO, 1, none⟩) lmO (.int .i64 C)).setCell (p := ⟨NO, 2, none⟩) lmO (.slice (some ⟨b', 0, none⟩) n n))
            have fz1 := (((kF.setOther ⟨NO, 0, none⟩ (.int .i64 R) (Ne.symm nOF)).setOther ⟨NO, 1, none⟩ (.int .i64 C) (Ne.symm nOF)).setOther ⟨NO, 2, none⟩ (.slice (some ⟨b', 0, none⟩) n n) (Ne.symm nOF))
            obtain ⟨W5, hW5⟩ : ∃ W5, W5 = (((vF.setCell ⟨NO, 0, none⟩ (.int .i64 R)).setCell ⟨NO, 1, none⟩ (.int .i64 C)).setCell ⟨NO, 2, none⟩ (.slice (some ⟨b', 0, none⟩) n n)) := ⟨_, rfl⟩
            rw [← hW5] at q0 oz bz fz1
            have kO : W5.heap[NO]? = some (Obj.cells #[.int .i64 R, .int .i64 C, .slice (some ⟨b', 0, none⟩) n n] 26) := q0
            clear ow belD kF q0 HKO
            have ow := oz
            have belD := bz
            have kF := fz1
            clear oz bz fz1
            refine hK.out _ _ ?_ (fun hHeld2 => ?_)
            · (try dsimp only); rw [← hW5]; exact next3_0 belD HD0.out
            clear hK K hHeld
            (try dsimp only at hHeld2)
            simp only [← hW5] at hHeld2 ⊢
            clear hW5
            have hHeld := hHeld2
            clear hHeld2
            (try simp only [Act.put, List.setIfInBounds_toArray, List.set_cons_zero, List.set_cons_succ, List.getElem_toArray, List.getElem_cons_succ, List.getElem_cons_zero])
            refine wpAnyH_ready (rs := [9]) ?_ (by simp) ?_
            · decide +kernel
            refine AllReadyH.cons rfl (fun K hK => ?_) AllReadyH.nil
            refine step_storeA rfl 140 _ _ rfl NF (cellsA (fzL zs R C rd (R + 2))) rfl rfl 140 _ kF (by rw [cellsA_size, fzL_len]; kernel_rfl) (by rw [cellsA_size, cellsA_size, fzL_len, List.length_replicate]) (cellsA_one _) ?_
            have q1 := setRow_heap _ NF _ (cellsA (fzL zs R C rd (R + 2))) 140 (0, 0) kF
            have q2 := (setRow_other W5 NF NO (cellsA (fzL zs R C rd (R + 2))) nOF).trans kO
            have q3 := ow.grown (grown_setRow W5 NF (cellsA (fzL zs R C rd (R + 2)))) (by simp; exact nFb)
            have q4 := below_setRow (cs := (cellsA (fzL zs R C rd (R + 2)))) belD lmF
            obtain ⟨W6, hW6⟩ : ∃ W6, W6 = W5.setRow NF (cellsA (fzL zs R C rd (R + 2))) := ⟨_, rfl⟩
            rw [← hW6] at q1 q2 q3 q4 ⊢
            clear hW6 kF kO ow belD
            refine hK.out _ _ ?_ (fun hHeld2 => ?_)
            · (try dsimp only); exact next3_0 q4 HD0.out
            clear hK K hHeld
            have hfin : (Below w.heap.size w W6 ∧ W6.cell? ⟨N, 0, none⟩ = some (.int .i64 R) ∧ W6.cell? ⟨N, 1, none⟩ = some (.int .i64 C) ∧ W6.cell? ⟨N, 2, none⟩ = some (.slice (some ⟨b, off, none⟩) n cap)) ∧ AB 123 W6 TB (tabL xs ys xs.length ys.length) ∧ W6.heap[NT]? = some (Obj.cells #[.int .i64 0, .int .i64 0, .slice none 0 0] 26) ∧ W6.heap[NO]? = some (Obj.cells #[.int .i64 R, .int .i64 C, .slice (some ⟨b', 0, none⟩) n n] 26) ∧ AB 140 W6 NF (fzL zs R C rd (R + 2)) ∧ Own 2 W6 b' (.slice (some ⟨b', 0, none⟩) n n) (List.replicate n 0) ∧ w.heap.size ≤ b' ∧ (NT ≠ b' ∧ NO ≠ b' ∧ NF ≠ b' ∧ TB ≠ b' ∧ N ≠ b' ∧ b ≠ b') := ⟨⟨(next3_0 q4 HD0.out).1, (next3_0 q4 HD0.out).2.1, (next3_0 q4 HD0.out).2.2.1, (next3_0 q4 HD0.out).2.2.2.1⟩, HTB.out.keep q4, heap_keep q4 HKT.out, q2, q1, q3, Nat.le_trans HD0.out.1.size lob, Nat.ne_of_lt (Nat.lt_of_lt_of_le (heap_lt HKT.out) lob), nOb, nFb, Nat.ne_of_lt (Nat.lt_of_lt_of_le (AB.lt HTB.out) lob), Nat.ne_of_lt (Nat.lt_of_lt_of_le (World.block_lt_of_cell? _ _ HD0.out.2.1) lob), Nat.ne_of_lt (Nat.lt_of_lt_of_le (Nat.lt_of_lt_of_le HB0.out HD0.out.1.size) lob)⟩
            have HF := hid hfin
            clear hfin q1 q2 q3 q4
            have hHeld := hHeld2
            clear hHeld2
            (try simp only [Act.put, List.setIfInBounds_toArray, List.set_cons_zero, List.set_cons_succ, List.getElem_toArray, List.getElem_cons_succ, List.getElem_cons_zero])
            refine wpAnyH_done (by kernel_rfl) ?_ _
            clear hHeld
            go_wp2_with fail
            go_meet
            case rel => exact ⟨NO, NF, b', rfl, rfl, HF.out⟩
          · go_simp
            have bel := below1 wf (Obj.cells Try.zeroCells140 140)
            have lmS := belD.size
            replace belD := belD.trans (bel.mono belD.size)
            have nFb0 := Nat.ne_of_gt ow.lt
            replace ow := ow.keep bel
            refine hK.out _ _ ?_ (fun hHeld2 => ?_)
            · (try dsimp only); exact next3_0 belD HD0.out
            clear hK K hHeld bel
            obtain ⟨vF, hWa⟩ : ∃ vF, vF = wf.alloc (Obj.cells Try.zeroCells140 140) := ⟨_, rfl⟩
            obtain ⟨NF, hNa⟩ : ∃ NF, NF = wf.heap.size := ⟨_, rfl⟩
            have kF : AB 140 vF NF (List.replicate 676 0) := by unfold AB; rw [hWa, ← HZZ.out]; exact FNew.heap_top hNa
            have lmF : wD.heap.size ≤ NF := by rw [hNa]; exact lmS
            clear lmS
            have nFb : NF ≠ b' := by rw [hNa]; exact nFb0
            clear nFb0
            rw [← hWa] at belD ow
            (try dsimp only at hHeld2)
            simp only [← hWa, ← hNa] at hHeld2 ⊢
            clear hWa hNa
            have hHeld := hHeld2
            clear hHeld2
            (try simp only [Act.put, List.setIfInBounds_toArray, List.set_cons_zero, List.set_cons_succ, List.getElem_toArray, List.getElem_cons_succ, List.getElem_cons_zero])
            refine wpAnyH_ready (rs := [6]) ?_ (by simp) ?_
            · decide +kernel
            refine AllReadyH.cons rfl (fun K hK => ?_) AllReadyH.nil
            go_simp
            have bel := below1 vF (Obj.cells #[.int .i64 0, .int .i64 0, .slice none 0 0] 26)
            have lmS := belD.size
            replace belD := belD.trans (bel.mono belD.size)
            have nOb0 := Nat.ne_of_gt ow.lt
            have nFO0 := AB.lt kF
            replace ow := ow.keep bel
            replace kF := kF.keep bel
            refine hK.out _ _ ?_ (fun hHeld2 => ?_)
            · (try dsimp only); exact next3_0 belD HD0.out
            clear hK K hHeld bel
            obtain ⟨vO, hWa⟩ : ∃ vO, vO = vF.alloc (Obj.cells #[.int .i64 0, .int .i64 0, .slice none 0 0] 26) := ⟨_, rfl⟩
            obtain ⟨NO, hNa⟩ : ∃ NO, NO = vF.heap.size := ⟨_, rfl⟩
            have kO : vO.heap[NO]? = some (Obj.cells #[.int .i64 0, .int .i64 0, .slice none 0 0] 26) := by rw [hWa]; exact FNew.heap_top hNa
            have lmO : wD.heap.size ≤ NO := by rw [hNa]; exact lmS
            clear lmS
            have nOb : NO ≠ b' := by rw [hNa]; exact nOb0
            clear nOb0
            have nOF : NO ≠ NF := by rw [hNa]; exact Nat.ne_of_gt nFO0
            clear nFO0
            rw [← hWa] at belD ow kF
            (try dsimp only at hHeld2)
            simp only [← hWa, ← hNa] at hHeld2 ⊢
            clear hWa hNa
            have hHeld := hHeld2
            clear hHeld2
            (try simp only [Act.put, List.setIfInBounds_toArray, List.set_cons_zero, List.set_cons_succ, List.getElem_toArray, List.getElem_cons_succ, List.getElem_cons_zero])
            refine wpAnyH_ready (rs := [8]) ?_ (by simp) ?_
            · decide +kernel
            refine AllReadyH.cons rfl (fun K hK => ?_) AllReadyH.nil
            have y0 : vO.cell? ⟨NO, 0, none⟩ = some (.int .i64 0) := Go.Joins.cell_of_block kO 0
            have y1 : vO.cell? ⟨NO, 1, none⟩ = some (.int .i64 0) := Go.Joins.cell_of_block kO 1
            have y2 : vO.cell? ⟨NO, 2, none⟩ = some (.slice none 0 0) := Go.Joins.cell_of_block kO 2
            have g0 : vO.frozen? ⟨NO, 0, none⟩ = false := Go.Joins.unfrozen_of_block kO 0
            have g1 : vO.frozen? ⟨NO, 1, none⟩ = false := Go.Joins.unfrozen_of_block kO 1
            have g2 : vO.frozen? ⟨NO, 2, none⟩ = false := Go.Joins.unfrozen_of_block kO 2
            have HKO := hid kO
            clear kO
            go_simp
            clear y0 y1 y2 g0 g1 g2
            have q0 := (Go.Joins.block_setCell (i := 2) (Go.Joins.block_setCell (i := 1) (Go.Joins.block_setCell (i := 0) HKO.out (.int .i64 R)) (.int .i64 C)) (.slice (some ⟨b', 0, none⟩) n n))
            have oz := (own_set (own_set (own_set ow ⟨NO, 0, none⟩ (.int .i64 R) nOb) ⟨NO, 1, none⟩ (.int .i64 C) nOb) ⟨NO, 2, none⟩ (.slice (some ⟨b', 0, none⟩) n n) nOb)
            have bz := (((belD.setCell (p := ⟨NO, 0, none⟩) lmO (.int .i64 R)).setCell (p := ⟨NO, 1, none⟩) lmO (.int .i64 C)).setCell (p := ⟨NO, 2, none⟩) lmO (.slice (some ⟨b', 0, none⟩) n n))
            have fz1 := (((kF.setOther ⟨NO, 0, none⟩ (.int .i64 R) (Ne.symm nOF)).setOther ⟨NO, 1, none⟩ (.int .i64 C) (Ne.symm nOF)).setOther ⟨NO, 2, none⟩ (.slice (some ⟨b', 0, none⟩) n n) (Ne.symm nOF))
            obtain ⟨W5, hW5⟩ : ∃ W5, W5 = (((vO.setCell ⟨NO, 0, none⟩ (.int .i64 R)).setCell ⟨NO, 1, none⟩ (.int .i64 C)).setCell ⟨NO, 2, none⟩ (.slice (some ⟨b', 0, none⟩) n n)) := ⟨_, rfl⟩
            rw [← hW5] at q0 oz bz fz1
            have kO : W5.heap[NO]? = some (Obj.cells #[.int .i64 R, .int .i64 C, .slice (some ⟨b', 0, none⟩) n n] 26) := q0
            clear ow belD kF q0 HKO
            have ow := oz
            have belD := bz
            have kF := fz1
            clear oz bz fz1
            refine hK.out _ _ ?_ (fun hHeld2 => ?_)
            · (try dsimp only); rw [← hW5]; exact next3_0 belD HD0.out
            clear hK K hHeld
            (try dsimp only at hHeld2)
            simp only [← hW5] at hHeld2 ⊢
            clear hW5
            have hHeld := hHeld2
            clear hHeld2
            (try simp only [Act.put, List.setIfInBounds_toArray, List.set_cons_zero, List.set_cons_succ, List.getElem_toArray, List.getElem_cons_succ, List.getElem_cons_zero])
            refine wpAnyH_ready (rs := [9]) ?_ (by simp) ?_
            · decide +kernel
            refine AllReadyH.cons rfl (fun K hK => ?_) AllReadyH.nil
            refine step_storeA rfl 140 _ _ rfl NF (cellsA (fzL zs R C rd (R + 2))) rfl rfl 140 _ kF (by rw [cellsA_size, fzL_len]; kernel_rfl) (by rw [cellsA_size, cellsA_size, fzL_len, List.length_replicate]) (cellsA_one _) ?_
            have q1 := setRow_heap _ NF _ (cellsA (fzL zs R C rd (R + 2))) 140 (0, 0) kF
            have q2 := (setRow_other W5 NF NO (cellsA (fzL zs R C rd (R + 2))) nOF).trans kO
            have q3 := ow.grown (grown_setRow W5 NF (cellsA (fzL zs R C rd (R + 2)))) (by simp; exact nFb)
            have q4 := below_setRow (cs := (cellsA (fzL zs R C rd (R + 2)))) belD lmF
            obtain ⟨W6, hW6⟩ : ∃ W6, W6 = W5.setRow NF (cellsA (fzL zs R C rd (R + 2))) := ⟨_, rfl⟩
            rw [← hW6] at q1 q2 q3 q4 ⊢
            clear hW6 kF kO ow belD
            refine hK.out _ _ ?_ (fun hHeld2 => ?_)
            · (try dsimp only); exact next3_0 q4 HD0.out
            clear hK K hHeld
            have hfin : (Below w.heap.size w W6 ∧ W6.cell? ⟨N, 0, none⟩ = some (.int .i64 R) ∧ W6.cell? ⟨N, 1, none⟩ = some (.int .i64 C) ∧ W6.cell? ⟨N, 2, none⟩ = some (.slice (some ⟨b, off, none⟩) n cap)) ∧ AB 123 W6 TB (tabL xs ys xs.length ys.length) ∧ W6.heap[NT]? = some (Obj.cells #[.int .i64 0, .int .i64 0, .slice none 0 0] 26) ∧ W6.heap[NO]? = some (Obj.cells #[.int .i64 R, .int .i64 C, .slice (some ⟨b', 0, none⟩) n n] 26) ∧ AB 140 W6 NF (fzL zs R C rd (R + 2)) ∧ Own 2 W6 b' (.slice (some ⟨b', 0, none⟩) n n) (List.replicate n 0) ∧ w.heap.size ≤ b' ∧ (NT ≠ b' ∧ NO ≠ b' ∧ NF ≠ b' ∧ TB ≠ b' ∧ N ≠ b' ∧ b ≠ b') := ⟨⟨(next3_0 q4 HD0.out).1, (next3_0 q4 HD0.out).2.1, (next3_0 q4 HD0.out).2.2.1, (next3_0 q4 HD0.out).2.2.2.1⟩, HTB.out.keep q4, heap_keep q4 HKT.out, q2, q1, q3, Nat.le_trans HD0.out.1.size lob, Nat.ne_of_lt (Nat.lt_of_lt_of_le (heap_lt HKT.out) lob), nOb, nFb, Nat.ne_of_lt (Nat.lt_of_lt_of_le (AB.lt HTB.out) lob), Nat.ne_of_lt (Nat.lt_of_lt_of_le (World.block_lt_of_cell? _ _ HD0.out.2.1) lob), Nat.ne_of_lt (Nat.lt_of_lt_of_le (Nat.lt_of_lt_of_le HB0.out HD0.out.1.size) lob)⟩
            have HF := hid hfin
            clear hfin q1 q2 q3 q4
            have hHeld := hHeld2
            clear hHeld2
            (try simp only [Act.put, List.setIfInBounds_toArray, List.set_cons_zero, List.set_cons_succ, List.getElem_toArray, List.getElem_cons_succ, List.getElem_cons_zero])
            refine wpAnyH_done (by kernel_rfl) ?_ _
            clear hHeld
            go_wp2_with fail
            go_meet
            case rel => exact ⟨NO, NF, b', rfl, rfl, HF.out⟩
        · go_simp
          have bel := below1 wm (Obj.cells #[.int .i64 0, .int .i64 0, .slice none 0 0] 26)
          have lmS := belD.size
          replace belD := belD.trans (bel.mono belD.size)
          have nOb0 := Nat.ne_of_gt ow.lt
          replace ow := ow.keep bel
          refine hK.out _ _ ?_ (fun hHeld2 => ?_)
          · (try dsimp only); exact next3_0 belD HD0.out
          clear hK K hHeld bel
          obtain ⟨vO, hWa⟩ : ∃ vO, vO = wm.alloc (Obj.cells #[.int .i64 0, .int .i64 0, .slice none 0 0] 26) := ⟨_, rfl⟩
          obtain ⟨NO, hNa⟩ : ∃ NO, NO = wm.heap.size := ⟨_, rfl⟩
          have kO : vO.heap[NO]? = some (Obj.cells #[.int .i64 0, .int .i64 0, .slice none 0 0] 26) := by rw [hWa]; exact FNew.heap_top hNa
          have lmO : wD.heap.size ≤ NO := by rw [hNa]; exact lmS
          clear lmS
          have nOb : NO ≠ b' := by rw [hNa]; exact nOb0
          clear nOb0
          rw [← hWa] at belD ow
          (try dsimp only at hHeld2)
          simp only [← hWa, ← hNa] at hHeld2 ⊢
          clear hWa hNa
          have hHeld := hHeld2
          clear hHeld2
          (try simp only [Act.put, List.setIfInBounds_toArray, List.set_cons_zero, List.set_cons_succ, List.getElem_toArray, List.getElem_cons_succ, List.getElem_cons_zero])
          refine wpAnyH_ready (rs := [5, 7]) ?_ (by simp) ?_
          · decide +kernel
          refine AllReadyH.cons rfl (fun K hK => ?_) (AllReadyH.cons rfl (fun K hK => ?_) AllReadyH.nil)
          · go_simp
            go_at_call 125
            refine (Frm.framed (HRD.out.keep belD (Nat.le_refl _)) HQ.out HN.out).mono ?_
            rintro e wf ⟨rfl, bel⟩
            replace belD := belD.trans (bel.mono belD.size)
            replace ow := ow.keep bel
            replace kO := heap_keep bel kO
            refine hK.out _ _ ?_ (fun hHeld2 => ?_)
            · (try dsimp only); exact next3_0 belD HD0.out
            clear hK K hHeld bel
            have hHeld := hHeld2
            clear hHeld2
            (try simp only [Act.put, List.setIfInBounds_toArray, List.set_cons_zero, List.set_cons_succ, List.getElem_toArray, List.getElem_cons_succ, List.getElem_cons_zero])
            refine wpAnyH_ready (rs := [7]) ?_ (by simp) ?_
            · decide +kernel
            refine AllReadyH.cons rfl (fun K hK => ?_) AllReadyH.nil
            go_simp
            have bel := below1 wf (Obj.cells Try.zeroCells140 140)
            have lmS := belD.size
            replace belD := belD.trans (bel.mono belD.size)
            have nFb0 := Nat.ne_of_gt ow.lt
            have nOF0 := heap_lt kO
            replace ow := ow.keep bel
            replace kO := heap_keep bel kO
            refine hK.out _ _ ?_ (fun hHeld2 => ?_)
            · (try dsimp only); exact next3_0 belD HD0.out
            clear hK K hHeld bel
            obtain ⟨vF, hWa⟩ : ∃ vF, vF = wf.alloc (Obj.cells Try.zeroCells140 140) := ⟨_, rfl⟩
            obtain ⟨NF, hNa⟩ : ∃ NF, NF = wf.heap.size := ⟨_, rfl⟩
            have kF : AB 140 vF NF (List.replicate 676 0) := by unfold AB; rw [hWa, ← HZZ.out]; exact FNew.heap_top hNa
            have lmF : wD.heap.size ≤ NF := by rw [hNa]; exact lmS
            clear lmS
            have nFb : NF ≠ b' := by rw [hNa]; exact nFb0
            clear nFb0
            have nOF : NO ≠ NF := by rw [hNa]; exact Nat.ne_of_lt nOF0
            clear nOF0
            rw [← hWa] at belD ow kO
            (try dsimp only at hHeld2)
            simp only [← hWa, ← hNa] at hHeld2 ⊢
            clear hWa hNa
            have hHeld := hHeld2
            clear hHeld2
            (try simp only [Act.put, List.setIfInBounds_toArray, List.set_cons_zero, List.set_cons_succ, List.getElem_toArray, List.getElem_cons_succ, List.getElem_cons_zero])
            refine wpAnyH_ready (rs := [8]) ?_ (by simp) ?_
            · decide +kernel
            refine AllReadyH.cons rfl (fun K hK => ?_) AllReadyH.nil
            have y0 : vF.cell? ⟨NO, 0, none⟩ = some (.int .i64 0) := Go.Joins.cell_of_block kO 0
            have y1 : vF.cell? ⟨NO, 1, none⟩ = some (.int .i64 0) := Go.Joins.cell_of_block kO 1
            have y2 : vF.cell? ⟨NO, 2, none⟩ = some (.slice none 0 0) := Go.Joins.cell_of_block kO 2
            have g0 : vF.frozen? ⟨NO, 0, none⟩ = false := Go.Joins.unfrozen_of_block kO 0
            have g1 : vF.frozen? ⟨NO, 1, none⟩ = false := Go.Joins.unfrozen_of_block kO 1
            have g2 : vF.frozen? ⟨NO, 2, none⟩ = false := Go.Joins.unfrozen_of_block kO 2
            have HKO := hid kO
            clear kO
            go_simp
            clear y0 y1 y2 g0 g1 g2
            have q0 := (Go.Joins.block_setCell (i := 2) (Go.Joins.block_setCell (i := 1) (Go.Joins.block_setCell (i := 0) HKO.out (.int .i64 R)) (.int .i64 C)) (.slice (some ⟨b', 0, none⟩) n n))
            have oz := (own_set (own_set (own_set ow ⟨NO, 0, none⟩ (.int .i64 R) nOb) ⟨NO, 1, none⟩ (.int .i64 C) nOb) ⟨NO, 2, none⟩ (.slice (some ⟨b', 0, none⟩) n n) nOb)
            have bz := (((belD.setCell (p := ⟨NO, 0, none⟩) lmO (.int .i64 R)).setCell (p := ⟨NO, 1, none⟩) lmO (.int .i64 C)).setCell (p := ⟨NO, 2, none⟩) lmO (.slice (some ⟨b', 0, none⟩) n n))
            have fz1 := (((kF.setOther ⟨NO, 0, none⟩ (.int .i64 R) (Ne.symm nOF)).setOther ⟨NO, 1, none⟩ (.int .i64 C) (Ne.symm nOF)).setOther ⟨NO, 2, none⟩ (.slice (some ⟨b', 0, none⟩) n n) (Ne.symm nOF))
            obtain ⟨W5, hW5⟩ : ∃ W5, W5 = (((vF.setCell ⟨NO, 0, none⟩ (.int .i64 R)).setCell ⟨NO, 1, none⟩ (.int .i64 C)).setCell ⟨NO, 2, none⟩ (.slice (some ⟨b', 0, none⟩) n n)) := ⟨_, rfl⟩
            rw [← hW5] at q0 oz bz fz1
            have kO : W5.heap[NO]? = some (Obj.cells #[.int .i64 R, .int .i64 C, .slice (some ⟨b', 0, none⟩) n n] 26) := q0
            clear ow belD kF q0 HKO
            have ow := oz
            have belD := bz
            have kF := fz1
            clear oz bz fz1
            refine hK.out _ _ ?_ (fun hHeld2 => ?_)
            · (try dsimp only); rw [← hW5]; exact next3_0 belD HD0.out
            clear hK K hHeld
            (try dsimp only at hHeld2)
            simp only [← hW5] at hHeld2 ⊢
            clear hW5
            have hHeld := hHeld2
            clear hHeld2
            (try simp only [Act.put, List.setIfInBounds_toArray, List.set_cons_zero, List.set_cons_succ, List.getElem_toArray, List.getElem_cons_succ, List.getElem_cons_zero])
            refine wpAnyH_ready (rs := [9]) ?_ (by simp) ?_
            · decide +kernel
            refine AllReadyH.cons rfl (fun K hK => ?_) AllReadyH.nil
            refine step_storeA rfl 140 _ _ rfl NF (cellsA (fzL zs R C rd (R + 2))) rfl rfl 140 _ kF (by rw [cellsA_size, fzL_len]; kernel_rfl) (by rw [cellsA_size, cellsA_size, fzL_len, List.length_replicate]) (cellsA_one _) ?_
            have q1 := setRow_heap _ NF _ (cellsA (fzL zs R C rd (R + 2))) 140 (0, 0) kF
            have q2 := (setRow_other W5 NF NO (cellsA (fzL zs R C rd (R + 2))) nOF).trans kO
            have q3 := ow.grown (grown_setRow W5 NF (cellsA (fzL zs R C rd (R + 2)))) (by simp; exact nFb)
            have q4 := below_setRow (cs := (cellsA (fzL zs R C rd (R + 2)))) belD lmF
            obtain ⟨W6, hW6⟩ : ∃ W6, W6 = W5.setRow NF (cellsA (fzL zs R C rd (R + 2))) := ⟨_, rfl⟩
            rw [← hW6] at q1 q2 q3 q4 ⊢
            clear hW6 kF kO ow belD
            refine hK.out _ _ ?_ (fun hHeld2 => ?_)
            · (try dsimp only); exact next3_0 q4 HD0.out
            clear hK K hHeld
            have hfin : (Below w.heap.size w W6 ∧ W6.cell? ⟨N, 0, none⟩ = some (.int .i64 R) ∧ W6.cell? ⟨N, 1, none⟩ = some (.int .i64 C) ∧ W6.cell? ⟨N, 2, none⟩ = some (.slice (some ⟨b, off, none⟩) n cap)) ∧ AB 123 W6 TB (tabL xs ys xs.length ys.length) ∧ W6.heap[NT]? = some (Obj.cells #[.int .i64 0, .int .i64 0, .slice none 0 0] 26) ∧ W6.heap[NO]? = some (Obj.cells #[.int .i64 R, .int .i64 C, .slice (some ⟨b', 0, none⟩) n n] 26) ∧ AB 140 W6 NF (fzL zs R C rd (R + 2)) ∧ Own 2 W6 b' (.slice (some ⟨b', 0, none⟩) n n) (List.replicate n 0) ∧ w.heap.size ≤ b' ∧ (NT ≠ b' ∧ NO ≠ b' ∧ NF ≠ b' ∧ TB ≠ b' ∧ N ≠ b' ∧ b ≠ b') := ⟨⟨(next3_0 q4 HD0.out).1, (next3_0 q4 HD0.out).2.1, (next3_0 q4 HD0.out).2.2.1, (next3_0 q4 HD0.out).2.2.2.1⟩, HTB.out.keep q4, heap_keep q4 HKT.out, q2, q1, q3, Nat.le_trans HD0.out.1.size lob, Nat.ne_of_lt (Nat.lt_of_lt_of_le (heap_lt HKT.out) lob), nOb, nFb, Nat.ne_of_lt (Nat.lt_of_lt_of_le (AB.lt HTB.out) lob), Nat.ne_of_lt (Nat.lt_of_lt_of_le (World.block_lt_of_cell? _ _ HD0.out.2.1) lob), Nat.ne_of_lt (Nat.lt_of_lt_of_le (Nat.lt_of_lt_of_le HB0.out HD0.out.1.size) lob)⟩
            have HF := hid hfin
            clear hfin q1 q2 q3 q4
            have hHeld := hHeld2
            clear hHeld2
            (try simp only [Act.put, List.setIfInBounds_toArray, List.set_cons_zero, List.set_cons_succ, List.getElem_toArray, List.getElem_cons_succ, List.getElem_cons_zero])
            refine wpAnyH_done (by kernel_rfl) ?_ _
            clear hHeld
            go_wp2_with fail
            go_meet
            case rel => exact ⟨NO, NF, b', rfl, rfl, HF.out⟩
          · go_simp
            have bel := below1 vO (Obj.cells Try.zeroCells140 140)
            have lmS := belD.size
            replace belD := belD.trans (bel.mono belD.size)
            have nFb0 := Nat.ne_of_gt ow.lt
            have nOF0 := heap_lt kO
            replace ow := ow.keep bel
            replace kO := heap_keep bel kO
            refine hK.out _ _ ?_ (fun hHeld2 => ?_)
            · (try dsimp only); exact next3_0 belD HD0.out
            clear hK K hHeld bel
            obtain ⟨vF, hWa⟩ : ∃ vF, vF = vO.alloc (Obj.cells Try.zeroCells140 140) := ⟨_, rfl⟩
            obtain ⟨NF, hNa⟩ : ∃ NF, NF = vO.heap.size := ⟨_, rfl⟩
            have kF : AB 140 vF NF (List.replicate 676 0) := by unfold AB; rw [hWa, ← HZZ.out]; exact FNew.heap_top hNa
            have lmF : wD.heap.size ≤ NF := by rw [hNa]; exact lmS
            clear lmS
            have nFb : NF ≠ b' := by rw [hNa]; exact nFb0
            clear nFb0
            have nOF : NO ≠ NF := by rw [hNa]; exact Nat.ne_of_lt nOF0
            clear nOF0
            rw [← hWa] at belD ow kO
            (try dsimp only at hHeld2)
            simp only [← hWa, ← hNa] at hHeld2 ⊢
            clear hWa hNa
            have hHeld := hHeld2
            clear hHeld2
            (try simp only [Act.put, List.setIfInBounds_toArray, List.set_cons_zero, List.set_cons_succ, List.getElem_toArray, List.getElem_cons_succ, List.getElem_cons_zero])
            refine wpAnyH_ready (rs := [5]) ?_ (by simp) ?_
            · decide +kernel
            refine AllReadyH.cons rfl (fun K hK => ?_) AllReadyH.nil
            go_simp
            go_at_call 125
            refine (Frm.framed (HRD.out.keep belD (Nat.le_refl _)) HQ.out HN.out).mono ?_
            rintro e wf ⟨rfl, bel⟩
            replace belD := belD.trans (bel.mono belD.size)
            replace ow := ow.keep bel
            replace kO := heap_keep bel kO
            replace kF := kF.keep bel
            refine hK.out _ _ ?_ (fun hHeld2 => ?_)
            · (try dsimp only); exact next3_0 belD HD0.out
            clear hK K hHeld bel
            have hHeld := hHeld2
            clear hHeld2
            (try simp only [Act.put, List.setIfInBounds_toArray, List.set_cons_zero, List.set_cons_succ, List.getElem_toArray, List.getElem_cons_succ, List.getElem_cons_zero])
            refine wpAnyH_ready (rs := [8]) ?_ (by simp) ?_
            · decide +kernel
            refine AllReadyH.cons rfl (fun K hK => ?_) AllReadyH.nil
            have y0 : wf.cell? ⟨NO, 0, none⟩ = some (.int .i64 0) := Go.Joins.cell_of_block kO 0
            have y1 : wf.cell? ⟨NO, 1, none⟩ = some (.int .i64 0) := Go.Joins.cell_of_block kO 1
            have y2 : wf.cell? ⟨NO, 2, none⟩ = some (.slice none 0 0) := Go.Joins.cell_of_block kO 2
            have g0 : wf.frozen? ⟨NO, 0, none⟩ = false := Go.Joins.unfrozen_of_block kO 0
            have g1 : wf.frozen? ⟨NO, 1, none⟩ = false := Go.Joins.unfrozen_of_block kO 1
            have g2 : wf.frozen? ⟨NO, 2, none⟩ = false := Go.Joins.unfrozen_of_block kO 2
            have HKO := hid kO
            clear kO
            go_simp
            clear y0 y1 y2 g0 g1 g2
            have q0 := (Go.Joins.block_setCell (i := 2) (Go.Joins.block_setCell (i := 1) (Go.Joins.block_setCell (i := 0) HKO.out (.int .i64 R)) (.int .i64 C)) (.slice (some ⟨b', 0, none⟩) n n))
            have oz := (own_set (own_set (own_set ow ⟨NO, 0, none⟩ (.int .i64 R) nOb) ⟨NO, 1, none⟩ (.int .i64 C) nOb) ⟨NO, 2, none⟩ (.slice (some ⟨b', 0, none⟩) n n) nOb)
            have bz := (((belD.setCell (p := ⟨NO, 0, none⟩) lmO (.int .i64 R)).setCell (p := ⟨NO, 1, none⟩) lmO (.int .i64 C)).setCell (p := ⟨NO, 2, none⟩) lmO (.slice (some ⟨b', 0, none⟩) n n))
            have fz1 := (((kF.setOther ⟨NO, 0, none⟩ (.int .i64 R) (Ne.symm nOF)).setOther ⟨NO, 1, none⟩ (.int .i64 C) (Ne.symm nOF)).setOther ⟨NO, 2, none⟩ (.slice (some ⟨b', 0, none⟩) n n) (Ne.symm nOF))
            obtain ⟨W5, hW5⟩ : ∃ W5, W5 = (((wf.setCell ⟨NO, 0, none⟩ (.int .i64 R)).setCell ⟨NO, 1, none⟩ (.int .i64 C)).setCell ⟨NO, 2, none⟩ (.slice (some ⟨b', 0, none⟩) n n)) := ⟨_, rfl⟩
            rw [← hW5] at q0 oz bz fz1
            have kO : W5.heap[NO]? = some (Obj.cells #[.int .i64 R, .int .i64 C, .slice (some ⟨b', 0, none⟩) n n] 26) := q0
            clear ow belD kF q0 HKO
            have ow := oz
            have belD := bz
            have kF := fz1
            clear oz bz fz1
            refine hK.out _ _ ?_ (fun hHeld2 => ?_)
            · (try dsimp only); rw [← hW5]; exact next3_0 belD HD0.out
            clear hK K hHeld
            (try dsimp only at hHeld2)
            simp only [← hW5] at hHeld2 ⊢
            clear hW5
            have hHeld := hHeld2
            clear hHeld2
            (try simp only [Act.put, List.setIfInBounds_toArray, List.set_cons_zero, List.set_cons_succ, List.getElem_toArray, List.getElem_cons_succ, List.getElem_cons_zero])
            refine wpAnyH_ready (rs := [9]) ?_ (by simp) ?_
            · decide +kernel
            refine AllReadyH.cons rfl (fun K hK => ?_) AllReadyH.nil
            refine step_storeA rfl 140 _ _ rfl NF (cellsA (fzL zs R C rd (R + 2))) rfl rfl 140 _ kF (by rw [cellsA_size, fzL_len]; kernel_rfl) (by rw [cellsA_size, cellsA_size, fzL_len, List.length_replicate]) (cellsA_one _) ?_
            have q1 := setRow_heap _ NF _ (cellsA (fzL zs R C rd (R + 2))) 140 (0, 0) kF
            have q2 := (setRow_other W5 NF NO (cellsA (fzL zs R C rd (R + 2))) nOF).trans kO
            have q3 := ow.grown (grown_setRow W5 NF (cellsA (fzL zs R C rd (R + 2)))) (by simp; exact nFb)
            have q4 := below_setRow (cs := (cellsA (fzL zs R C rd (R + 2)))) belD lmF
            obtain ⟨W6, hW6⟩ : ∃ W6, W6 = W5.setRow NF (cellsA (fzL zs R C rd (R + 2))) := ⟨_, rfl⟩
            rw [← hW6] at q1 q2 q3 q4 ⊢
            clear hW6 kF kO ow belD
            refine hK.out _ _ ?_ (fun hHeld2 => ?_)
            · (try dsimp only); exact next3_0 q4 HD0.out
            clear hK K hHeld
            have hfin : (Below w.heap.size w W6 ∧ W6.cell? ⟨N, 0, none⟩ = some (.int .i64 R) ∧ W6.cell? ⟨N, 1, none⟩ = some (.int .i64 C) ∧ W6.cell? ⟨N, 2, none⟩ = some (.slice (some ⟨b, off, none⟩) n cap)) ∧ AB 123 W6 TB (tabL xs ys xs.length ys.length) ∧ W6.heap[NT]? = some (Obj.cells #[.int .i64 0, .int .i64 0, .slice none 0 0] 26) ∧ W6.heap[NO]? = some (Obj.cells #[.int .i64 R, .int .i64 C, .slice (some ⟨b', 0, none⟩) n n] 26) ∧ AB 140 W6 NF (fzL zs R C rd (R + 2)) ∧ Own 2 W6 b' (.slice (some ⟨b', 0, none⟩) n n) (List.replicate n 0) ∧ w.heap.size ≤ b' ∧ (NT ≠ b' ∧ NO ≠ b' ∧ NF ≠ b' ∧ TB ≠ b' ∧ N ≠ b' ∧ b ≠ b') := ⟨⟨(next3_0 q4 HD0.out).1, (next3_0 q4 HD0.out).2.1, (next3_0 q4 HD0.out).2.2.1, (next3_0 q4 HD0.out).2.2.2.1⟩, HTB.out.keep q4, heap_keep q4 HKT.out, q2, q1, q3, Nat.le_trans HD0.out.1.size lob, Nat.ne_of_lt (Nat.lt_of_lt_of_le (heap_lt HKT.out) lob), nOb, nFb, Nat.ne_of_lt (Nat.lt_of_lt_of_le (AB.lt HTB.out) lob), Nat.ne_of_lt (Nat.lt_of_lt_of_le (World.block_lt_of_cell? _ _ HD0.out.2.1) lob), Nat.ne_of_lt (Nat.lt_of_lt_of_le (Nat.lt_of_lt_of_le HB0.out HD0.out.1.size) lob)⟩
            have HF := hid hfin
            clear hfin q1 q2 q3 q4
            have hHeld := hHeld2
            clear hHeld2
            (try simp only [Act.put, List.setIfInBounds_toArray, List.set_cons_zero, List.set_cons_succ, List.getElem_toArray, List.getElem_cons_succ, List.getElem_cons_zero])
            refine wpAnyH_done (by kernel_rfl) ?_ _
            clear hHeld
            go_wp2_with fail
            go_meet
            case rel => exact ⟨NO, NF, b', rfl, rfl, HF.out⟩
        · go_simp
          have bel := below1 wm (Obj.cells Try.zeroCells140 140)
          have lmS := belD.size
          replace belD := belD.trans (bel.mono belD.size)
          have nFb0 := Nat.ne_of_gt ow.lt
          replace ow := ow.keep bel
          refine hK.out _ _ ?_ (fun hHeld2 => ?_)
          · (try dsimp only); exact next3_0 belD HD0.out
          clear hK K hHeld bel
          obtain ⟨vF, hWa⟩ : ∃ vF, vF = wm.alloc (Obj.cells Try.zeroCells140 140) := ⟨_, rfl⟩
          obtain ⟨NF, hNa⟩ : ∃ NF, NF = wm.heap.size := ⟨_, rfl⟩
          have kF : AB 140 vF NF (List.replicate 676 0) := by unfold AB; rw [hWa, ← HZZ.out]; exact FNew.heap_top hNa
          have lmF : wD.heap.size ≤ NF := by rw [hNa]; exact lmS
          clear lmS
          have nFb : NF ≠ b' := by rw [hNa]; exact nFb0
          clear nFb0
          rw [← hWa] at belD ow
          (try dsimp only at hHeld2)
          simp only [← hWa, ← hNa] at hHeld2 ⊢
          clear hWa hNa
          have hHeld := hHeld2
          clear hHeld2
          (try simp only [Act.put, List.setIfInBounds_toArray, List.set_cons_zero, List.set_cons_succ, List.getElem_toArray, List.getElem_cons_succ, List.getElem_cons_zero])
          refine wpAnyH_ready (rs := [5, 6]) ?_ (by simp) ?_
          · decide +kernel
          refine AllReadyH.cons rfl (fun K hK => ?_) (AllReadyH.cons rfl (fun K hK => ?_) AllReadyH.nil)
          · go_simp
            go_at_call 125
            refine (Frm.framed (HRD.out.keep belD (Nat.le_refl _)) HQ.out HN.out).mono ?_
            rintro e wf ⟨rfl, bel⟩
            replace belD := belD.trans (bel.mono belD.size)
            replace ow := ow.keep bel
            replace kF := kF.keep bel
            refine hK.out _ _ ?_ (fun hHeld2 => ?_)
            · (try dsimp only); exact next3_0 belD HD0.out
            clear hK K hHeld bel
            have hHeld := hHeld2
            clear hHeld2
            (try simp only [Act.put, List.setIfInBounds_toArray, List.set_cons_zero, List.set_cons_succ, List.getElem_toArray, List.getElem_cons_succ, List.getElem_cons_zero])
            refine wpAnyH_ready (rs := [6]) ?_ (by simp) ?_
            · decide +kernel
            refine AllReadyH.cons rfl (fun K hK => ?_) AllReadyH.nil
            go_simp
            have bel := below1 wf (Obj.cells #[.int .i64 0, .int .i64 0, .slice none 0 0] 26)
            have lmS := belD.size
            replace belD := belD.trans (bel.mono belD.size)
            have nOb0 := Nat.ne_of_gt ow.lt
            have nFO0 := AB.lt kF
            replace ow := ow.keep bel
            replace kF := kF.keep bel
            refine hK.out _ _ ?_ (fun hHeld2 => ?_)
            · (try dsimp only); exact next3_0 belD HD0.out
            clear hK K hHeld bel
            obtain ⟨vO, hWa⟩ : ∃ vO, vO = wf.alloc (Obj.cells #[.int .i64 0, .int .i64 0, .slice none 0 0] 26) := ⟨_, rfl⟩
            obtain ⟨NO, hNa⟩ : ∃ NO, NO = wf.heap.size := ⟨_, rfl⟩
            have kO : vO.heap[NO]? = some (Obj.cells #[.int .i64 0, .int .i64 0, .slice none 0 0] 26) := by rw [hWa]; exact FNew.heap_top hNa
            have lmO : wD.heap.size ≤ NO := by rw [hNa]; exact lmS
            clear lmS
            have nOb : NO ≠ b' := by rw [hNa]; exact nOb0
            clear nOb0
            have nOF : NO ≠ NF := by rw [hNa]; exact Nat.ne_of_gt nFO0
            clear nFO0
            rw [← hWa] at belD ow kF
            (try dsimp only at hHeld2)
            simp only [← hWa, ← hNa] at hHeld2 ⊢
            clear hWa hNa
            have hHeld := hHeld2
            clear hHeld2
            (try simp only [Act.put, List.setIfInBounds_toArray, List.set_cons_zero, List.set_cons_succ, List.getElem_toArray, List.getElem_cons_succ, List.getElem_cons_zero])
            refine wpAnyH_ready (rs := [8]) ?_ (by simp) ?_
            · decide +kernel
            refine AllReadyH.cons rfl (fun K hK => ?_) AllReadyH.nil
            have y0 : vO.cell? ⟨NO, 0, none⟩ = some (.int .i64 0) := Go.Joins.cell_of_block kO 0
            have y1 : vO.cell? ⟨NO, 1, none⟩ = some (.int .i64 0) := Go.Joins.cell_of_block kO 1
            have y2 : vO.cell? ⟨NO, 2, none⟩ = some (.slice none 0 0) := Go.Joins.cell_of_block kO 2
            have g0 : vO.frozen? ⟨NO, 0, none⟩ = false := Go.Joins.unfrozen_of_block kO 0
            have g1 : vO.frozen? ⟨NO, 1, none⟩ = false := Go.Joins.unfrozen_of_block kO 1
            have g2 : vO.frozen? ⟨NO, 2, none⟩ = false := Go.Joins.unfrozen_of_block kO 2
            have HKO := hid kO
            clear kO
            go_simp
            clear y0 y1 y2 g0 g1 g2
            have q0 := (Go.Joins.block_setCell (i := 2) (Go.Joins.block_setCell (i := 1) (Go.Joins.block_setCell (i := 0) HKO.out (.int .i64 R)) (.int .i64 C)) (.slice (some ⟨b', 0, none⟩) n n))
            have oz := (own_set (own_set (own_set ow ⟨NO, 0, none⟩ (.int .i64 R) nOb) ⟨NO, 1, none⟩ (.int .i64 C) nOb) ⟨NO, 2, none⟩ (.slice (some ⟨b', 0, none⟩) n n) nOb)
            have bz := (((belD.setCell (p := ⟨NO, 0, none⟩) lmO (.int .i64 R)).setCell (p := ⟨NO, 1, none⟩) lmO (.int .i64 C)).setCell (p := ⟨NO, 2, none⟩) lmO (.slice (some ⟨b', 0, none⟩) n n))
            have fz1 := (((kF.setOther ⟨NO, 0, none⟩ (.int .i64 R) (Ne.symm nOF)).setOther ⟨NO, 1, none⟩ (.int .i64 C) (Ne.symm nOF)).setOther ⟨NO, 2, none⟩ (.slice (some ⟨b', 0, none⟩) n n) (Ne.symm nOF))
            obtain ⟨W5, hW5⟩ : ∃ W5, W5 = (((vO.setCell ⟨NO, 0, none⟩ (.int .i64 R)).setCell ⟨NO, 1, none⟩ (.int .i64 C)).setCell ⟨NO, 2, none⟩ (.slice (some ⟨b', 0, none⟩) n n)) := ⟨_, rfl⟩
            rw [← hW5] at q0 oz bz fz1
            have kO : W5.heap[NO]? = some (Obj.cells #[.int .i64 R, .int .i64 C, .slice (some ⟨b', 0, none⟩) n n] 26) := q0
            clear ow belD kF q0 HKO
            have ow := oz
            have belD := bz
            have kF := fz1
            clear oz bz fz1
            refine hK.out _ _ ?_ (fun hHeld2 => ?_)
            · (try dsimp only); rw [← hW5]; exact next3_0 belD HD0.out
            clear hK K hHeld
            (try dsimp only at hHeld2)
            simp only [← hW5] at hHeld2 ⊢
            clear hW5
            have hHeld := hHeld2
            clear hHeld2
            (try simp only [Act.put, List.setIfInBounds_toArray, List.set_cons_zero, List.set_cons_succ, List.getElem_toArray, List.getElem_cons_succ, List.getElem_cons_zero])
            refine wpAnyH_ready (rs := [9]) ?_ (by simp) ?_
            · decide +kernel
            refine AllReadyH.cons rfl (fun K hK => ?_) AllReadyH.nil
            refine step_storeA rfl 140 _ _ rfl NF (cellsA (fzL zs R C rd (R + 2))) rfl rfl 140 _ kF (by rw [cellsA_size, fzL_len]; kernel_rfl) (by rw [cellsA_size, cellsA_size, fzL_len, List.length_replicate]) (cellsA_one _) ?_
            have q1 := setRow_heap _ NF _ (cellsA (fzL zs R C rd (R + 2))) 140 (0, 0) kF
            have q2 := (setRow_other W5 NF NO (cellsA (fzL zs R C rd (R + 2))) nOF).trans kO
            have q3 := ow.grown (grown_setRow W5 NF (cellsA (fzL zs R C rd (R + 2)))) (by simp; exact nFb)
            have q4 := below_setRow (cs := (cellsA (fzL zs R C rd (R + 2)))) belD lmF
            obtain ⟨W6, hW6⟩ : ∃ W6, W6 = W5.setRow NF (cellsA (fzL zs R C rd (R + 2))) := ⟨_, rfl⟩
            rw [← hW6] at q1 q2 q3 q4 ⊢
            clear hW6 kF kO ow belD
            refine hK.out _ _ ?_ (fun hHeld2 => ?_)
            · (try dsimp only); exact next3_0 q4 HD0.out
            clear hK K hHeld
            have hfin : (Below w.heap.size w W6 ∧ W6.cell? ⟨N, 0, none⟩ = some (.int .i64 R) ∧ W6.cell? ⟨N, 1, none⟩ = some (.int .i64 C) ∧ W6.cell? ⟨N, 2, none⟩ = some (.slice (some ⟨b, off, none⟩) n cap)) ∧ AB 123 W6 TB (tabL xs ys xs.length ys.length) ∧ W6.heap[NT]? = some (Obj.cells #[.int .i64 0, .int .i64 0, .slice none 0 0] 26) ∧ W6.heap[NO]? = some (Obj.cells #[.int .i64 R, .int .i64 C, .slice (some ⟨b', 0, none⟩) n n] 26) ∧ AB 140 W6 NF (fzL zs R C rd (R + 2)) ∧ Own 2 W6 b' (.slice (some ⟨b', 0, none⟩) n n) (List.replicate n 0) ∧ w.heap.size ≤ b' ∧ (NT ≠ b' ∧ NO ≠ b' ∧ NF ≠ b' ∧ TB ≠ b' ∧ N ≠ b' ∧ b ≠ b') := ⟨⟨(next3_0 q4 HD0.out).1, (next3_0 q4 HD0.out).2.1, (next3_0 q4 HD0.out).2.2.1, (next3_0 q4 HD0.out).2.2.2.1⟩, HTB.out.keep q4, heap_keep q4 HKT.out, q2, q1, q3, Nat.le_trans HD0.out.1.size lob, Nat.ne_of_lt (Nat.lt_of_lt_of_le (heap_lt HKT.out) lob), nOb, nFb, Nat.ne_of_lt (Nat.lt_of_lt_of_le (AB.lt HTB.out) lob), Nat.ne_of_lt (Nat.lt_of_lt_of_le (World.block_lt_of_cell? _ _ HD0.out.2.1) lob), Nat.ne_of_lt (Nat.lt_of_lt_of_le (Nat.lt_of_lt_of_le HB0.out HD0.out.1.size) lob)⟩
            have HF := hid hfin
            clear hfin q1 q2 q3 q4
            have hHeld := hHeld2
            clear hHeld2
            (try simp only [Act.put, List.setIfInBounds_toArray, List.set_cons_zero, List.set_cons_succ, List.getElem_toArray, List.getElem_cons_succ, List.getElem_cons_zero])
            refine wpAnyH_done (by kernel_rfl) ?_ _
            clear hHeld
            go_wp2_with fail
            go_meet
            case rel => exact ⟨NO, NF, b', rfl, rfl, HF.out⟩
          · go_simp
            have bel := below1 vF (Obj.cells #[.int .i64 0, .int .i64 0, .slice none 0 0] 26)
            have lmS := belD.size
            replace belD := belD.trans (bel.mono belD.size)
            have nOb0 := Nat.ne_of_gt ow.lt
            have nFO0 := AB.lt kF
            replace ow := ow.keep bel
            replace kF := kF.keep bel
            refine hK.out _ _ ?_ (fun hHeld2 => ?_)
            · (try dsimp only); exact next3_0 belD HD0.out
            clear hK K hHeld bel
            obtain ⟨vO, hWa⟩ : ∃ vO, vO = vF.alloc (Obj.cells #[.int .i64 0, .int .i64 0, .slice none 0 0] 26) := ⟨_, rfl⟩
            obtain ⟨NO, hNa⟩ : ∃ NO, NO = vF.heap.size := ⟨_, rfl⟩
            have kO : vO.heap[NO]? = some (Obj.cells #[.int .i64 0, .int .i64 0, .slice none 0 0] 26) := by rw [hWa]; exact FNew.heap_top hNa
            have lmO : wD.heap.size ≤ NO := by rw [hNa]; exact lmS
            clear lmS
            have nOb : NO ≠ b' := by rw [hNa]; exact nOb0
            clear nOb0
            have nOF : NO ≠ NF := by rw [hNa]; exact Nat.ne_of_gt nFO0
            clear nFO0
            rw [← hWa] at belD ow kF
            (try dsimp only at hHeld2)
            simp only [← hWa, ← hNa] at hHeld2 ⊢
            clear hWa hNa
            have hHeld := hHeld2
            clear hHeld2
            (try simp only [Act.put, List.setIfInBounds_toArray, List.set_cons_zero, List.set_cons_succ, List.getElem_toArray, List.getElem_cons_succ, List.getElem_cons_zero])
            refine wpAnyH_ready (rs := [5]) ?_ (by simp) ?_
            · decide +kernel
            refine AllReadyH.cons rfl (fun K hK => ?_) AllReadyH.nil
            go_simp
            go_at_call 125
            refine (Frm.framed (HRD.out.keep belD (Nat.le_refl _)) HQ.out HN.out).mono ?_
            rintro e wf ⟨rfl, bel⟩
            replace belD := belD.trans (bel.mono belD.size)
            replace ow := ow.keep bel
            replace kF := kF.keep bel
            replace kO := heap_keep bel kO
            refine hK.out _ _ ?_ (fun hHeld2 => ?_)
            · (try dsimp only); exact next3_0 belD HD0.out
            clear hK K hHeld bel
            have hHeld := hHeld2
            clear hHeld2
            (try simp only [Act.put, List.setIfInBounds_toArray, List.set_cons_zero, List.set_cons_succ, List.getElem_toArray, List.getElem_cons_succ, List.getElem_cons_zero])
            refine wpAnyH_ready (rs := [8]) ?_ (by simp) ?_
            · decide +kernel
            refine AllReadyH.cons rfl (fun K hK => ?_) AllReadyH.nil
            have y0 : wf.cell? ⟨NO, 0, none⟩ = some (.int .i64 0) := Go.Joins.cell_of_block kO 0
            have y1 : wf.cell? ⟨NO, 1, none⟩ = some (.int .i64 0) := Go.Joins.cell_of_block kO 1
            have y2 : wf.cell? ⟨NO, 2, none⟩ = some (.slice none 0 0) := Go.Joins.cell_of_block kO 2
            have g0 : wf.frozen? ⟨NO, 0, none⟩ = false := Go.Joins.unfrozen_of_block kO 0
            have g1 : wf.frozen? ⟨NO, 1, none⟩ = false := Go.Joins.unfrozen_of_block kO 1
            have g2 : wf.frozen? ⟨NO, 2, none⟩ = false := Go.Joins.unfrozen_of_block kO 2
            have HKO := hid kO
            clear kO
            go_simp
            clear y0 y1 y2 g0 g1 g2
            have q0 := (Go.Joins.block_setCell (i := 2) (Go.Joins.block_setCell (i := 1) (Go.Joins.block_setCell (i := 0) HKO.out (.int .i64 R)) (.int .i64 C)) (.slice (some ⟨b', 0, none⟩) n n))
            have oz := (own_set (own_set (own_set ow ⟨NO, 0, none⟩ (.int .i64 R) nOb) ⟨NO, 1, none⟩ (.int .i64 C) nOb) ⟨NO, 2, none⟩ (.slice (some ⟨b', 0, none⟩) n n) nOb)
            have bz := (((belD.setCell (p := ⟨NO, 0, none⟩) lmO (.int .i64 R)).setCell (p := ⟨NO, 1, none⟩) lmO (.int .i64 C)).setCell (p := ⟨NO, 2, none⟩) lmO (.slice (some ⟨b', 0, none⟩) n n))
            have fz1 := (((kF.setOther ⟨NO, 0, none⟩ (.int .i64 R) (Ne.symm nOF)).setOther ⟨NO, 1, none⟩ (.int .i64 C) (Ne.symm nOF)).setOther ⟨NO, 2, none⟩ (.slice (some ⟨b', 0, none⟩) n n) (Ne.symm nOF))
            obtain ⟨W5, hW5⟩ : ∃ W5, W5 = (((wf.setCell ⟨NO, 0, none⟩ (.int .i64 R)).setCell ⟨NO, 1, none⟩ (.int .i64 C)).setCell ⟨NO, 2, none⟩ (.slice (some ⟨b', 0, none⟩) n n)) := ⟨_, rfl⟩
            rw [← hW5] at q0 oz bz fz1
            have kO : W5.heap[NO]? = some (Obj.cells #[.int .i64 R, .int .i64 C, .slice (some ⟨b', 0, none⟩) n n] 26) := q0
            clear ow belD kF q0 HKO
            have ow := oz
            have belD := bz
            have kF := fz1
            clear oz bz fz1
            refine hK.out _ _ ?_ (fun hHeld2 => ?_)
            · (try dsimp only); rw [← hW5]; exact next3_0 belD HD0.out
            clear hK K hHeld
            (try dsimp only at hHeld2)
            simp only [← hW5] at hHeld2 ⊢
            clear hW5
            have hHeld := hHeld2
            clear hHeld2
            (try simp only [Act.put, List.setIfInBounds_toArray, List.set_cons_zero, List.set_cons_succ, List.getElem_toArray, List.getElem_cons_succ, List.getElem_cons_zero])
            refine wpAnyH_ready (rs := [9]) ?_ (by simp) ?_
            · decide +kernel
            refine AllReadyH.cons rfl (fun K hK => ?_) AllReadyH.nil
            refine step_storeA rfl 140 _ _ rfl NF (cellsA (fzL zs R C rd (R + 2))) rfl rfl 140 _ kF (by rw [cellsA_size, fzL_len]; kernel_rfl) (by rw [cellsA_size, cellsA_size, fzL_len, List.length_replicate]) (cellsA_one _) ?_
            have q1 := setRow_heap _ NF _ (cellsA (fzL zs R C rd (R + 2))) 140 (0, 0) kF
            have q2 := (setRow_other W5 NF NO (cellsA (fzL zs R C rd (R + 2))) nOF).trans kO
            have q3 := ow.grown (grown_setRow W5 NF (cellsA (fzL zs R C rd (R + 2)))) (by simp; exact nFb)
            have q4 := below_setRow (cs := (cellsA (fzL zs R C rd (R + 2)))) belD lmF
            obtain ⟨W6, hW6⟩ : ∃ W6, W6 = W5.setRow NF (cellsA (fzL zs R C rd (R + 2))) := ⟨_, rfl⟩
            rw [← hW6] at q1 q2 q3 q4 ⊢
            clear hW6 kF kO ow belD
            refine hK.out _ _ ?_ (fun hHeld2 => ?_)
            · (try dsimp only); exact next3_0 q4 HD0.out
            clear hK K hHeld
            have hfin : (Below w.heap.size w W6 ∧ W6.cell? ⟨N, 0, none⟩ = some (.int .i64 R) ∧ W6.cell? ⟨N, 1, none⟩ = some (.int .i64 C) ∧ W6.cell? ⟨N, 2, none⟩ = some (.slice (some ⟨b, off, none⟩) n cap)) ∧ AB 123 W6 TB (tabL xs ys xs.length ys.length) ∧ W6.heap[NT]? = some (Obj.cells #[.int .i64 0, .int .i64 0, .slice none 0 0] 26) ∧ W6.heap[NO]? = some (Obj.cells #[.int .i64 R, .int .i64 C, .slice (some ⟨b', 0, none⟩) n n] 26) ∧ AB 140 W6 NF (fzL zs R C rd (R + 2)) ∧ Own 2 W6 b' (.slice (some ⟨b', 0, none⟩) n n) (List.replicate n 0) ∧ w.heap.size ≤ b' ∧ (NT ≠ b' ∧ NO ≠ b' ∧ NF ≠ b' ∧ TB ≠ b' ∧ N ≠ b' ∧ b ≠ b') := ⟨⟨(next3_0 q4 HD0.out).1, (next3_0 q4 HD0.out).2.1, (next3_0 q4 HD0.out).2.2.1, (next3_0 q4 HD0.out).2.2.2.1⟩, HTB.out.keep q4, heap_keep q4 HKT.out, q2, q1, q3, Nat.le_trans HD0.out.1.size lob, Nat.ne_of_lt (Nat.lt_of_lt_of_le (heap_lt HKT.out) lob), nOb, nFb, Nat.ne_of_lt (Nat.lt_of_lt_of_le (AB.lt HTB.out) lob), Nat.ne_of_lt (Nat.lt_of_lt_of_le (World.block_lt_of_cell? _ _ HD0.out.2.1) lob), Nat.ne_of_lt (Nat.lt_of_lt_of_le (Nat.lt_of_lt_of_le HB0.out HD0.out.1.size) lob)⟩
            have HF := hid hfin
            clear hfin q1 q2 q3 q4
            have hHeld := hHeld2
            clear hHeld2
            (try simp only [Act.put, List.setIfInBounds_toArray, List.set_cons_zero, List.set_cons_succ, List.getElem_toArray, List.getElem_cons_succ, List.getElem_cons_zero])
            refine wpAnyH_done (by kernel_rfl) ?_ _
            clear hHeld
            go_wp2_with fail
            go_meet
            case rel => exact ⟨NO, NF, b', rfl, rfl, HF.out⟩
      · go_simp
        have bel := below1 we (Obj.cells #[.int .i64 0, .int .i64 0, .slice none 0 0] 26)
        have lmS := belD.size
        replace belD := belD.trans (bel.mono belD.size)
        refine hK.out _ _ ?_ (fun hHeld2 => ?_)
        · (try dsimp only); exact next3_0 belD HD0.out
        clear hK K hHeld bel
        obtain ⟨vO, hWa⟩ : ∃ vO, vO = we.alloc (Obj.cells #[.int .i64 0, .int .i64 0, .slice none 0 0] 26) := ⟨_, rfl⟩
        obtain ⟨NO, hNa⟩ : ∃ NO, NO = we.heap.size := ⟨_, rfl⟩
        have kO : vO.heap[NO]? = some (Obj.cells #[.int .i64 0, .int .i64 0, .slice none 0 0] 26) := by rw [hWa]; exact FNew.heap_top hNa
        have lmO : wD.heap.size ≤ NO := by rw [hNa]; exact lmS
        clear lmS
        rw [← hWa] at belD
        (try dsimp only at hHeld2)
        simp only [← hWa, ← hNa] at hHeld2 ⊢
        clear hWa hNa
        have hHeld := hHeld2
        clear hHeld2
        (try simp only [Act.put, List.setIfInBounds_toArray, List.set_cons_zero, List.set_cons_succ, List.getElem_toArray, List.getElem_cons_succ, List.getElem_cons_zero])
        refine wpAnyH_ready (rs := [2, 7]) ?_ (by simp) ?_
        · decide +kernel
        refine AllReadyH.cons rfl (fun K hK => ?_) (AllReadyH.cons rfl (fun K hK => ?_) AllReadyH.nil)
        · go_simp
          go_at_call 124
          refine (FNew.emptyField HN.out HLE.out).mono ?_
          rintro e wm ⟨b', rfl, ow0, lo, bel⟩
          have lob : wD.heap.size ≤ b' := Nat.le_trans belD.size lo
          have nOb : NO ≠ b' := Nat.ne_of_lt (Nat.lt_of_lt_of_le (heap_lt kO) lo)
          replace belD := belD.trans (bel.mono belD.size)
          replace kO := heap_keep bel kO
          refine hK.out _ _ ?_ (fun hHeld2 => ?_)
          · (try dsimp only); exact next3_0 belD HD0.out
          clear hK K hHeld bel
          clear lo
          have ow := ow0
          clear ow0
          have hHeld := hHeld2
          clear hHeld2
          (try simp only [Act.put, List.setIfInBounds_toArray, List.set_cons_zero, List.set_cons_succ, List.getElem_toArray, List.getElem_cons_succ, List.getElem_cons_zero])
          refine wpAnyH_ready (rs := [5, 7]) ?_ (by simp) ?_
          · decide +kernel
          refine AllReadyH.cons rfl (fun K hK => ?_) (AllReadyH.cons rfl (fun K hK => ?_) AllReadyH.nil)
          · go_simp
            go_at_call 125
            refine (Frm.framed (HRD.out.keep belD (Nat.le_refl _)) HQ.out HN.out).mono ?_
            rintro e wf ⟨rfl, bel⟩
            replace belD := belD.trans (bel.mono belD.size)
            replace kO := heap_keep bel kO
            replace ow := ow.keep bel
            refine hK.out _ _ ?_ (fun hHeld2 => ?_)
            · (try dsimp only); exact next3_0 belD HD0.out
            clear hK K hHeld bel
            have hHeld := hHeld2
            clear hHeld2
            (try simp only [Act.put, List.setIfInBounds_toArray, List.set_cons_zero, List.set_cons_succ, List.getElem_toArray, List.getElem_cons_succ, List.getElem_cons_zero])
            refine wpAnyH_ready (rs := [7]) ?_ (by simp) ?_
            · decide +kernel
            refine AllReadyH.cons rfl (fun K hK => ?_) AllReadyH.nil
            go_simp
            have bel := below1 wf (Obj.cells Try.zeroCells140 140)
            have lmS := belD.size
            replace belD := belD.trans (bel.mono belD.size)
            have nFb0 := Nat.ne_of_gt ow.lt
            have nOF0 := heap_lt kO
            replace kO := heap_keep bel kO
            replace ow := ow.keep bel
            refine hK.out _ _ ?_ (fun hHeld2 => ?_)
            · (try dsimp only); exact next3_0 belD HD0.out
            clear hK K hHeld bel
            obtain ⟨vF, hWa⟩ : ∃ vF, vF = wf.alloc (Obj.cells Try.zeroCells140 140) := ⟨_, rfl⟩
            obtain ⟨NF, hNa⟩ : ∃ NF, NF = wf.heap.size := ⟨_, rfl⟩
            have kF : AB 140 vF NF (List.replicate 676 0) := by unfold AB; rw [hWa, ← HZZ.out]; exact FNew.heap_top hNa
            have lmF : wD.heap.size ≤ NF := by rw [hNa]; exact lmS
            clear lmS
            have nFb : NF ≠ b' := by rw [hNa]; exact nFb0
            clear nFb0
            have nOF : NO ≠ NF := by rw [hNa]; exact Nat.ne_of_lt nOF0
            clear nOF0
            rw [← hWa] at belD kO ow
            (try dsimp only at hHeld2)
            simp only [← hWa, ← hNa] at hHeld2 ⊢
            clear hWa hNa
            have hHeld := hHeld2
            clear hHeld2
            (try simp only [Act.put, List.setIfInBounds_toArray, List.set_cons_zero, List.set_cons_succ, List.getElem_toArray, List.getElem_cons_succ, List.getElem_cons_zero])
            refine wpAnyH_ready (rs := [8]) ?_ (by simp) ?_
            · decide +kernel
            refine AllReadyH.cons rfl (fun K hK => ?_) AllReadyH.nil
            have y0 : vF.cell? ⟨NO, 0, none⟩ = some (.int .i64 0) := Go.Joins.cell_of_block kO 0
            have y1 : vF.cell? ⟨NO, 1, none⟩ = some (.int .i64 0) := Go.Joins.cell_of_block kO 1
            have y2 : vF.cell? ⟨NO, 2, none⟩ = some (.slice none 0 0) := Go.Joins.cell_of_block kO 2
            have g0 : vF.frozen? ⟨NO, 0, none⟩ = false := Go.Joins.unfrozen_of_block kO 0
            have g1 : vF.frozen? ⟨NO, 1, none⟩ = false := Go.Joins.unfrozen_of_block kO 1
            have g2 : vF.frozen? ⟨NO, 2, none⟩ = false := Go.Joins.unfrozen_of_block kO 2
            have HKO := hid kO
            clear kO
            go_simp
            clear y0 y1 y2 g0 g1 g2
            have q0 := (Go.Joins.block_setCell (i := 2) (Go.Joins.block_setCell (i := 1) (Go.Joins.block_setCell (i := 0) HKO.out (.int .i64 R)) (.int .i64 C)) (.slice (some ⟨b', 0, none⟩) n n))
            have oz := (own_set (own_set (own_set ow ⟨NO, 0, none⟩ (.int .i64 R) nOb) ⟨NO, 1, none⟩ (.int .i64 C) nOb) ⟨NO, 2, none⟩ (.slice (some ⟨b', 0, none⟩) n n) nOb)
            have bz := (((belD.setCell (p := ⟨NO, 0, none⟩) lmO (.int .i64 R)).setCell (p := ⟨NO, 1, none⟩) lmO (.int .i64 C)).setCell (p := ⟨NO, 2, none⟩) lmO (.slice (some ⟨b', 0, none⟩) n n))
            have fz1 := (((kF.setOther ⟨NO, 0, none⟩ (.int .i64 R) (Ne.symm nOF)).setOther ⟨NO, 1, none⟩ (.int .i64 C) (Ne.symm nOF)).setOther ⟨NO, 2, none⟩ (.slice (some ⟨b', 0, none⟩) n n) (Ne.symm nOF))
            obtain ⟨W5, hW5⟩ : ∃ W5, W5 = (((vF.setCell ⟨NO, 0, none⟩ (.int .i64 R)).setCell ⟨NO, 1, none⟩ (.int .i64 C)).setCell ⟨NO, 2, none⟩ (.slice (some ⟨b', 0, none⟩) n n)) := ⟨_, rfl⟩
            rw [← hW5] at q0 oz bz fz1
            have kO : W5.heap[NO]? = some (Obj.cells #[.int .i64 R, .int .i64 C, .slice (some ⟨b', 0, none⟩) n n] 26) := q0
            clear ow belD kF q0 HKO
            have ow := oz
            have belD := bz
            have kF := fz1
            clear oz bz fz1
            refine hK.out _ _ ?_ (fun hHeld2 => ?_)
            · (try dsimp only); rw [← hW5]; exact next3_0 belD HD0.out
            clear hK K hHeld
            (try dsimp only at hHeld2)
            simp only [← hW5] at hHeld2 ⊢
            clear hW5
            have hHeld := hHeld2
            clear hHeld2
            (try simp only [Act.put, List.setIfInBounds_toArray, List.set_cons_zero, List.set_cons_succ, List.getElem_toArray, List.getElem_cons_succ, List.getElem_cons_zero])
            refine wpAnyH_ready (rs := [9]) ?_ (by simp) ?_
            · decide +kernel
            refine AllReadyH.cons rfl (fun K hK => ?_) AllReadyH.nil
            refine step_storeA rfl 140 _ _ rfl NF (cellsA (fzL zs R C rd (R + 2))) rfl rfl 140 _ kF (by rw [cellsA_size, fzL_len]; kernel_rfl) (by rw [cellsA_size, cellsA_size, fzL_len, List.length_replicate]) (cellsA_one _) ?_
            have q1 := setRow_heap _ NF _ (cellsA (fzL zs R C rd (R + 2))) 140 (0, 0) kF
            have q2 := (setRow_other W5 NF NO (cellsA (fzL zs R C rd (R + 2))) nOF).trans kO
            have q3 := ow.grown (grown_setRow W5 NF (cellsA (fzL zs R C rd (R + 2)))) (by simp; exact nFb)
            have q4 := below_setRow (cs := (cellsA (fzL zs R C rd (R + 2)))) belD lmF
            obtain ⟨W6, hW6⟩ : ∃ W6, W6 = W5.setRow NF (cellsA (fzL zs R C rd (R + 2))) := ⟨_, rfl⟩
            rw [← hW6] at q1 q2 q3 q4 ⊢
            clear hW6 kF kO ow belD
            refine hK.out _ _ ?_ (fun hHeld2 => ?_)
            · (try dsimp only); exact next3_0 q4 HD0.out
            clear hK K hHeld
            have hfin : (Below w.heap.size w W6 ∧ W6.cell? ⟨N, 0, none⟩ = some (.int .i64 R) ∧ W6.cell? ⟨N, 1, none⟩ = some (.int .i64 C) ∧ W6.cell? ⟨N, 2, none⟩ = some (.slice (some ⟨b, off, none⟩) n cap)) ∧ AB 123 W6 TB (tabL xs ys xs.length ys.length) ∧ W6.heap[NT]? = some (Obj.cells #[.int .i64 0, .int .i64 0, .slice none 0 0] 26) ∧ W6.heap[NO]? = some (Obj.cells #[.int .i64 R, .int .i64 C, .slice (some ⟨b', 0, none⟩) n n] 26) ∧ AB 140 W6 NF (fzL zs R C rd (R + 2)) ∧ Own 2 W6 b' (.slice (some ⟨b', 0, none⟩) n n) (List.replicate n 0) ∧ w.heap.size ≤ b' ∧ (NT ≠ b' ∧ NO ≠ b' ∧ NF ≠ b' ∧ TB ≠ b' ∧ N ≠ b' ∧ b ≠ b') := ⟨⟨(next3_0 q4 HD0.out).1, (next3_0 q4 HD0.out).2.1, (next3_0 q4 HD0.out).2.2.1, (next3_0 q4 HD0.out).2.2.2.1⟩, HTB.out.keep q4, heap_keep q4 HKT.out, q2, q1, q3, Nat.le_trans HD0.out.1.size lob, Nat.ne_of_lt (Nat.lt_of_lt_of_le (heap_lt HKT.out) lob), nOb, nFb, Nat.ne_of_lt (Nat.lt_of_lt_of_le (AB.lt HTB.out) lob), Nat.ne_of_lt (Nat.lt_of_lt_of_le (World.block_lt_of_cell? _ _ HD0.out.2.1) lob), Nat.ne_of_lt (Nat.lt_of_lt_of_le (Nat.lt_of_lt_of_le HB0.out HD0.out.1.size) lob)⟩
            have HF := hid hfin
            clear hfin q1 q2 q3 q4
            have hHeld := hHeld2
            clear hHeld2
            (try simp only [Act.put, List.setIfInBounds_toArray, List.set_cons_zero, List.set_cons_succ, List.getElem_toArray, List.getElem_cons_succ, List.getElem_cons_zero])
            refine wpAnyH_done (by kernel_rfl) ?_ _
            clear hHeld
            go_wp2_with fail
            go_meet
            case rel => exact ⟨NO, NF, b', rfl, rfl, HF.out⟩
          · go_simp
            have bel := below1 wm (Obj.cells Try.zeroCells140 140)
            have lmS := belD.size
            replace belD := belD.trans (bel.mono belD.size)
            have nFb0 := Nat.ne_of_gt ow.lt
            have nOF0 := heap_lt kO
            replace kO := heap_keep bel kO
            replace ow := ow.keep bel
            refine hK.out _ _ ?_ (fun hHeld2 => ?_)
            · (try dsimp only); exact next3_0 belD HD0.out
            clear hK K hHeld bel
            obtain ⟨vF, hWa⟩ : ∃ vF, vF = wm.alloc (Obj.cells Try.zeroCells140 140) := ⟨_, rfl⟩
            obtain ⟨NF, hNa⟩ : ∃ NF, NF = wm.heap.size := ⟨_, rfl⟩
            have kF : AB 140 vF NF (List.replicate 676 0) := by unfold AB; rw [hWa, ← HZZ.out]; exact FNew.heap_top hNa
            have lmF : wD.heap.size ≤ NF := by rw [hNa]; exact lmS
            clear lmS
            have nFb : NF ≠ b' := by rw [hNa]; exact nFb0
            clear nFb0
            have nOF : NO ≠ NF := by rw [hNa]; exact Nat.ne_of_lt nOF0
            clear nOF0
            rw [← hWa] at belD kO ow
            (try dsimp only at hHeld2)
            simp only [← hWa, ← hNa] at hHeld2 ⊢
            clear hWa hNa
            have hHeld := hHeld2
            clear hHeld2
            (try simp only [Act.put, List.setIfInBounds_toArray, List.set_cons_zero, List.set_cons_succ, List.getElem_toArray, List.getElem_cons_succ, List.getElem_cons_zero])
            refine wpAnyH_ready (rs := [5]) ?_ (by simp) ?_
            · decide +kernel
            refine AllReadyH.cons rfl (fun K hK => ?_) AllReadyH.nil
            go_simp
            go_at_call 125
            refine (Frm.framed (HRD.out.keep belD (Nat.le_refl _)) HQ.out HN.out).mono ?_
            rintro e wf ⟨rfl, bel⟩
            replace belD := belD.trans (bel.mono belD.size)
            replace kO := heap_keep bel kO
            replace ow := ow.keep bel
            replace kF := kF.keep bel
            refine hK.out _ _ ?_ (fun hHeld2 => ?_)
            · (try dsimp only); exact next3_0 belD HD0.out
            clear hK K hHeld bel
            have hHeld := hHeld2
            clear hHeld2
            (try simp only [Act.put, List.setIfInBounds_toArray, List.set_cons_zero, List.set_cons_succ, List.getElem_toArray, List.getElem_cons_succ, List.getElem_cons_zero])
            refine wpAnyH_ready (rs := [8]) ?_ (by simp) ?_
            · decide +kernel
            refine AllReadyH.cons rfl (fun K hK => ?_) AllReadyH.nil
            have y0 : wf.cell? ⟨NO, 0, none⟩ = some (.int .i64 0) := Go.Joins.cell_of_block kO 0
            have y1 : wf.cell? ⟨NO, 1, none⟩ = some (.int .i64 0) := Go.Joins.cell_of_block kO 1
            have y2 : wf.cell? ⟨NO, 2, none⟩ = some (.slice none 0 0) := Go.Joins.cell_of_block kO 2
            have g0 : wf.frozen? ⟨NO, 0, none⟩ = false := Go.Joins.unfrozen_of_block kO 0
            have g1 : wf.frozen? ⟨NO, 1, none⟩ = false := Go.Joins.unfrozen_of_block kO 1
            have g2 : wf.frozen? ⟨NO, 2, none⟩ = false := Go.Joins.unfrozen_of_block kO 2
            have HKO := hid kO
            clear kO
            go_simp
            clear y0 y1 y2 g0 g1 g2
            have q0 := (Go.Joins.block_setCell (i := 2) (Go.Joins.block_setCell (i := 1) (Go.Joins.block_setCell (i := 0) HKO.out (.int .i64 R)) (.int .i64 C)) (.slice (some ⟨b', 0, none⟩) n n))
            have oz := (own_set (own_set (own_set ow ⟨NO, 0, none⟩ (.int .i64 R) nOb) ⟨NO, 1, none⟩ (.int .i64 C) nOb) ⟨NO, 2, none⟩ (.slice (some ⟨b', 0, none⟩) n n) nOb)
            have bz := (((belD.setCell (p := ⟨NO, 0, none⟩) lmO (.int .i64 R)).setCell (p := ⟨NO, 1, none⟩) lmO (.int .i64 C)).setCell (p := ⟨NO, 2, none⟩) lmO (.slice (some ⟨b', 0, none⟩) n n))
            have fz1 := (((kF.setOther ⟨NO, 0, none⟩ (.int .i64 R) (Ne.symm nOF)).setOther ⟨NO, 1, none⟩ (.int .i64 C) (Ne.symm nOF)).setOther ⟨NO, 2, none⟩ (.slice (some ⟨b', 0, none⟩) n n) (Ne.symm nOF))
            obtain ⟨W5, hW5⟩ : ∃ W5, W5 = (((wf.setCell ⟨NO, 0, none⟩ (.int .i64 R)).setCell ⟨NO, 1, none⟩ (.int .i64 C)).setCell ⟨NO, 2, none⟩ (.slice (some ⟨b', 0, none⟩) n n)) := ⟨_, rfl⟩
            rw [← hW5] at q0 oz bz fz1
            have kO : W5.heap[NO]? = some (Obj.cells #[.int .i64 R, .int .i64 C, .slice (some ⟨b', 0, none⟩) n n] 26) := q0
            clear ow belD kF q0 HKO
            have ow := oz
            have belD := bz
            have kF := fz1
            clear oz bz fz1
            refine hK.out _ _ ?_ (fun hHeld2 => ?_)
            · (try dsimp only); rw [← hW5]; exact next3_0 belD HD0.out
            clear hK K hHeld
            (try dsimp only at hHeld2)
            simp only [← hW5] at hHeld2 ⊢
            clear hW5
            have hHeld := hHeld2
            clear hHeld2
            (try simp only [Act.put, List.setIfInBounds_toArray, List.set_cons_zero, List.set_cons_succ, List.getElem_toArray, List.getElem_cons_succ, List.getElem_cons_zero])
            refine wpAnyH_ready (rs := [9]) ?_ (by simp) ?_
            · decide +kernel
            refine AllReadyH.cons rfl (fun K hK => ?_) AllReadyH.nil
            refine step_storeA rfl 140 _ _ rfl NF (cellsA (fzL zs R C rd (R + 2))) rfl rfl 140 _ kF (by rw [cellsA_size, fzL_len]; kernel_rfl) (by rw [cellsA_size, cellsA_size, fzL_len, List.length_replicate]) (cellsA_one _) ?_
            have q1 := setRow_heap _ NF _ (cellsA (fzL zs R C rd (R + 2))) 140 (0, 0) kF
            have q2 := (setRow_other W5 NF NO (cellsA (fzL zs R C rd (R + 2))) nOF).trans kO
            have q3 := ow.grown (grown_setRow W5 NF (cellsA (fzL zs R C rd (R + 2)))) (by simp; exact nFb)
            have q4 := below_setRow (cs := (cellsA (fzL zs R C rd (R + 2)))) belD lmF
            obtain ⟨W6, hW6⟩ : ∃ W6, W6 = W5.setRow NF (cellsA (fzL zs R C rd (R + 2))) := ⟨_, rfl⟩
            rw [← hW6] at q1 q2 q3 q4 ⊢
            clear hW6 kF kO ow belD
            refine hK.out _ _ ?_ (fun hHeld2 => ?_)
            · (try dsimp only); exact next3_0 q4 HD0.out
            clear hK K hHeld
            have hfin : (Below w.heap.size w W6 ∧ W6.cell? ⟨N, 0, none⟩ = some (.int .i64 R) ∧ W6.cell? ⟨N, 1, none⟩ = some (.int .i64 C) ∧ W6.cell? ⟨N, 2, none⟩ = some (.slice (some ⟨b, off, none⟩) n cap)) ∧ AB 123 W6 TB (tabL xs ys xs.length ys.length) ∧ W6.heap[NT]? = some (Obj.cells #[.int .i64 0, .int .i64 0, .slice none 0 0] 26) ∧ W6.heap[NO]? = some (Obj.cells #[.int .i64 R, .int .i64 C, .slice (some ⟨b', 0, none⟩) n n] 26) ∧ AB 140 W6 NF (fzL zs R C rd (R + 2)) ∧ Own 2 W6 b' (.slice (some ⟨b', 0, none⟩) n n) (List.replicate n 0) ∧ w.heap.size ≤ b' ∧ (NT ≠ b' ∧ NO ≠ b' ∧ NF ≠ b' ∧ TB ≠ b' ∧ N ≠ b' ∧ b ≠ b') := ⟨⟨(next3_0 q4 HD0.out).1, (next3_0 q4 HD0.out).2.1, (next3_0 q4 HD0.out).2.2.1, (next3_0 q4 HD0.out).2.2.2.1⟩, HTB.out.keep q4, heap_keep q4 HKT.out, q2, q1, q3, Nat.le_trans HD0.out.1.size lob, Nat.ne_of_lt (Nat.lt_of_lt_of_le (heap_lt HKT.out) lob), nOb, nFb, Nat.ne_of_lt (Nat.lt_of_lt_of_le (AB.lt HTB.out) lob), Nat.ne_of_lt (Nat.lt_of_lt_of_le (World.block_lt_of_cell? _ _ HD0.out.2.1) lob), Nat.ne_of_lt (Nat.lt_of_lt_of_le (Nat.lt_of_lt_of_le HB0.out HD0.out.1.size) lob)⟩
            have HF := hid hfin
            clear hfin q1 q2 q3 q4
            have hHeld := hHeld2
            clear hHeld2
            (try simp only [Act.put, List.setIfInBounds_toArray, List.set_cons_zero, List.set_cons_succ, List.getElem_toArray, List.getElem_cons_succ, List.getElem_cons_zero])
            refine wpAnyH_done (by kernel_rfl) ?_ _
            clear hHeld
            go_wp2_with fail
            go_meet
            case rel => exact ⟨NO, NF, b', rfl, rfl, HF.out⟩
        · go_simp
          have bel := below1 vO (Obj.cells Try.zeroCells140 140)
          have lmS := belD.size
          replace belD := belD.trans (bel.mono belD.size)
          have nOF0 := heap_lt kO
          replace kO := heap_keep bel kO
          refine hK.out _ _ ?_ (fun hHeld2 => ?_)
          · (try dsimp only); exact next3_0 belD HD0.out
          clear hK K hHeld bel
          obtain ⟨vF, hWa⟩ : ∃ vF, vF = vO.alloc (Obj.cells Try.zeroCells140 140) := ⟨_, rfl⟩
          obtain ⟨NF, hNa⟩ : ∃ NF, NF = vO.heap.size := ⟨_, rfl⟩
          have kF : AB 140 vF NF (List.replicate 676 0) := by unfold AB; rw [hWa, ← HZZ.out]; exact FNew.heap_top hNa
          have lmF : wD.heap.size ≤ NF := by rw [hNa]; exact lmS
          clear lmS
          have nOF : NO ≠ NF := by rw [hNa]; exact Nat.ne_of_lt nOF0
          clear nOF0
          rw [← hWa] at belD kO
          (try dsimp only at hHeld2)
          simp only [← hWa, ← hNa] at hHeld2 ⊢
          clear hWa hNa
          have hHeld := hHeld2
          clear hHeld2
          (try simp only [Act.put, List.setIfInBounds_toArray, List.set_cons_zero, List.set_cons_succ, List.getElem_toArray, List.getElem_cons_succ, List.getElem_cons_zero])
          refine wpAnyH_ready (rs := [2]) ?_ (by simp) ?_
          · decide +kernel
          refine AllReadyH.cons rfl (fun K hK => ?_) AllReadyH.nil
          go_simp
          go_at_call 124
          refine (FNew.emptyField HN.out HLE.out).mono ?_
          rintro e wm ⟨b', rfl, ow0, lo, bel⟩
          have lob : wD.heap.size ≤ b' := Nat.le_trans belD.size lo
          have nOb : NO ≠ b' := Nat.ne_of_lt (Nat.lt_of_lt_of_le (heap_lt kO) lo)
          have nFb : NF ≠ b' := Nat.ne_of_lt (Nat.lt_of_lt_of_le (AB.lt kF) lo)
          replace belD := belD.trans (bel.mono belD.size)
          replace kO := heap_keep bel kO
          replace kF := kF.keep bel
          refine hK.out _ _ ?_ (fun hHeld2 => ?_)
          · (try dsimp only); exact next3_0 belD HD0.out
          clear hK K hHeld bel
          clear lo
          have ow := ow0
          clear ow0
          have hHeld := hHeld2
          clear hHeld2
          (try simp only [Act.put, List.setIfInBounds_toArray, List.set_cons_zero, List.set_cons_succ, List.getElem_toArray, List.getElem_cons_succ, List.getElem_cons_zero])
          refine wpAnyH_ready (rs := [5]) ?_ (by simp) ?_
          · decide +kernel
          refine AllReadyH.cons rfl (fun K hK => ?_) AllReadyH.nil
          go_simp
          go_at_call 125
          refine (Frm.framed (HRD.out.keep belD (Nat.le_refl _)) HQ.out HN.out).mono ?_
          rintro e wf ⟨rfl, bel⟩
          replace belD := belD.trans (bel.mono belD.size)
          replace kO := heap_keep bel kO
          replace kF := kF.keep bel
          replace ow := ow.keep bel
          refine hK.out _ _ ?_ (fun hHeld2 => ?_)
          · (try dsimp only); exact next3_0 belD HD0.out
          clear hK K hHeld bel
          have hHeld := hHeld2
          clear hHeld2
          (try simp only [Act.put, List.setIfInBounds_toArray, List.set_cons_zero, List.set_cons_succ, List.getElem_toArray, List.getElem_cons_succ, List.getElem_cons_zero])
          refine wpAnyH_ready (rs := [8]) ?_ (by simp) ?_
          · decide +kernel
          refine AllReadyH.cons rfl (fun K hK => ?_) AllReadyH.nil
          have y0 : wf.cell? ⟨NO, 0, none⟩ = some (.int .i64 0) := Go.Joins.cell_of_block kO 0
          have y1 : wf.cell? ⟨NO, 1, none⟩ = some (.int .i64 0) := Go.Joins.cell_of_block kO 1
          have y2 : wf.cell? ⟨NO, 2, none⟩ = some (.slice none 0 0) := Go.Joins.cell_of_block kO 2
          have g0 : wf.frozen? ⟨NO, 0, none⟩ = false := Go.Joins.unfrozen_of_block kO 0
          have g1 : wf.frozen? ⟨NO, 1, none⟩ = false := Go.Joins.unfrozen_of_block kO 1
          have g2 : wf.frozen? ⟨NO, 2, none⟩ = false := Go.Joins.unfrozen_of_block kO 2
          have HKO := hid kO
          clear kO
          go_simp
          clear y0 y1 y2 g0 g1 g2
          have q0 := (Go.Joins.block_setCell (i := 2) (Go.Joins.block_setCell (i := 1) (Go.Joins.block_setCell (i := 0) HKO.out (.int .i64 R)) (.int .i64 C)) (.slice (some ⟨b', 0, none⟩) n n))
          have oz := (own_set (own_set (own_set ow ⟨NO, 0, none⟩ (.int .i64 R) nOb) ⟨NO, 1, none⟩ (.int .i64 C) nOb) ⟨NO, 2, none⟩ (.slice (some ⟨b', 0, none⟩) n n) nOb)
          have bz := (((belD.setCell (p := ⟨NO, 0, none⟩) lmO (.int .i64 R)).setCell (p := ⟨NO, 1, none⟩) lmO (.int .i64 C)).setCell (p := ⟨NO, 2, none⟩) lmO (.slice (some ⟨b', 0, none⟩) n n))
          have fz1 := (((kF.setOther ⟨NO, 0, none⟩ (.int .i64 R) (Ne.symm nOF)).setOther ⟨NO, 1, none⟩ (.int .i64 C) (Ne.symm nOF)).setOther ⟨NO, 2, none⟩ (.slice (some ⟨b', 0, none⟩) n n) (Ne.symm nOF))
          obtain ⟨W5, hW5⟩ : ∃ W5, W5 = (((wf.setCell ⟨NO, 0, none⟩ (.int .i64 R)).setCell ⟨NO, 1, none⟩ (.int .i64 C)).setCell ⟨NO, 2, none⟩ (.slice (some ⟨b', 0, none⟩) n n)) := ⟨_, rfl⟩
          rw [← hW5] at q0 oz bz fz1
          have kO : W5.heap[NO]? = some (Obj.cells #[.int .i64 R, .int .i64 C, .slice (some ⟨b', 0, none⟩) n n] 26) := q0
          clear ow belD kF q0 HKO
          have ow := oz
          have belD := bz
          have kF := fz1
          clear oz bz fz1
          refine hK.out _ _ ?_ (fun hHeld2 => ?_)
          · (try dsimp only); rw [← hW5]; exact next3_0 belD HD0.out
          clear hK K hHeld
          (try dsimp only at hHeld2)
          simp only [← hW5] at hHeld2 ⊢
          clear hW5
          have hHeld := hHeld2
          clear hHeld2
          (try simp only [Act.put, List.setIfInBounds_toArray, List.set_cons_zero, List.set_cons_succ, List.getElem_toArray, List.getElem_cons_succ, List.getElem_cons_zero])
          refine wpAnyH_ready (rs := [9]) ?_ (by simp) ?_
          · decide +kernel
          refine AllReadyH.cons rfl (fun K hK => ?_) AllReadyH.nil
          refine step_storeA rfl 140 _ _ rfl NF (cellsA (fzL zs R C rd (R + 2))) rfl rfl 140 _ kF (by rw [cellsA_size, fzL_len]; kernel_rfl) (by rw [cellsA_size, cellsA_size, fzL_len, List.length_replicate]) (cellsA_one _) ?_
          have q1 := setRow_heap _ NF _ (cellsA (fzL zs R C rd (R + 2))) 140 (0, 0) kF
          have q2 := (setRow_other W5 NF NO (cellsA (fzL zs R C rd (R + 2))) nOF).trans kO
          have q3 := ow.grown (grown_setRow W5 NF (cellsA (fzL zs R C rd (R + 2)))) (by simp; exact nFb)
          have q4 := below_setRow (cs := (cellsA (fzL zs R C rd (R + 2)))) belD lmF
          obtain ⟨W6, hW6⟩ : ∃ W6, W6 = W5.setRow NF (cellsA (fzL zs R C rd (R + 2))) := ⟨_, rfl⟩
          rw [← hW6] at q1 q2 q3 q4 ⊢
          clear hW6 kF kO ow belD
          refine hK.out _ _ ?_ (fun hHeld2 => ?_)
          · (try dsimp only); exact next3_0 q4 HD0.out
          clear hK K hHeld
          have hfin : (Below w.heap.size w W6 ∧ W6.cell? ⟨N, 0, none⟩ = some (.int .i64 R) ∧ W6.cell? ⟨N, 1, none⟩ = some (.int .i64 C) ∧ W6.cell? ⟨N, 2, none⟩ = some (.slice (some ⟨b, off, none⟩) n cap)) ∧ AB 123 W6 TB (tabL xs ys xs.length ys.length) ∧ W6.heap[NT]? = some (Obj.cells #[.int .i64 0, .int .i64 0, .slice none 0 0] 26) ∧ W6.heap[NO]? = some (Obj.cells #[.int .i64 R, .int .i64 C, .slice (some ⟨b', 0, none⟩) n n] 26) ∧ AB 140 W6 NF (fzL zs R C rd (R + 2)) ∧ Own 2 W6 b' (.slice (some ⟨b', 0, none⟩) n n) (List.replicate n 0) ∧ w.heap.size ≤ b' ∧ (NT ≠ b' ∧ NO ≠ b' ∧ NF ≠ b' ∧ TB ≠ b' ∧ N ≠ b' ∧ b ≠ b') := ⟨⟨(next3_0 q4 HD0.out).1, (next3_0 q4 HD0.out).2.1, (next3_0 q4 HD0.out).2.2.1, (next3_0 q4 HD0.out).2.2.2.1⟩, HTB.out.keep q4, heap_keep q4 HKT.out, q2, q1, q3, Nat.le_trans HD0.out.1.size lob, Nat.ne_of_lt (Nat.lt_of_lt_of_le (heap_lt HKT.out) lob), nOb, nFb, Nat.ne_of_lt (Nat.lt_of_lt_of_le (AB.lt HTB.out) lob), Nat.ne_of_lt (Nat.lt_of_lt_of_le (World.block_lt_of_cell? _ _ HD0.out.2.1) lob), Nat.ne_of_lt (Nat.lt_of_lt_of_le (Nat.lt_of_lt_of_le HB0.out HD0.out.1.size) lob)⟩
          have HF := hid hfin
          clear hfin q1 q2 q3 q4
          have hHeld := hHeld2
          clear hHeld2
          (try simp only [Act.put, List.setIfInBounds_toArray, List.set_cons_zero, List.set_cons_succ, List.getElem_toArray, List.getElem_cons_succ, List.getElem_cons_zero])
          refine wpAnyH_done (by kernel_rfl) ?_ _
          clear hHeld
          go_wp2_with fail
          go_meet
          case rel => exact ⟨NO, NF, b', rfl, rfl, HF.out⟩
      · go_simp
        have bel := below1 we (Obj.cells Try.zeroCells140 140)
        have lmS := belD.size
        replace belD := belD.trans (bel.mono belD.size)
        refine hK.out _ _ ?_ (fun hHeld2 => ?_)
        · (try dsimp only); exact next3_0 belD HD0.out
        clear hK K hHeld bel
        obtain ⟨vF, hWa⟩ : ∃ vF, vF = we.alloc (Obj.cells Try.zeroCells140 140) := ⟨_, rfl⟩
        obtain ⟨NF, hNa⟩ : ∃ NF, NF = we.heap.size := ⟨_, rfl⟩
        have kF : AB 140 vF NF (List.replicate 676 0) := by unfold AB; rw [hWa, ← HZZ.out]; exact FNew.heap_top hNa
        have lmF : wD.heap.size ≤ NF := by rw [hNa]; exact lmS
        clear lmS
        rw [← hWa] at belD
        (try dsimp only at hHeld2)
        simp only [← hWa, ← hNa] at hHeld2 ⊢
        clear hWa hNa
        have hHeld := hHeld2
        clear hHeld2
        (try simp only [Act.put, List.setIfInBounds_toArray, List.set_cons_zero, List.set_cons_succ, List.getElem_toArray, List.getElem_cons_succ, List.getElem_cons_zero])
        refine wpAnyH_ready (rs := [2, 6]) ?_ (by simp) ?_
        · decide +kernel
        refine AllReadyH.cons rfl (fun K hK => ?_) (AllReadyH.cons rfl (fun K hK => ?_) AllReadyH.nil)
        · go_simp
          go_at_call 124
          refine (FNew.emptyField HN.out HLE.out).mono ?_
          rintro e wm ⟨b', rfl, ow0, lo, bel⟩
          have lob : wD.heap.size ≤ b' := Nat.le_trans belD.size lo
          have nFb : NF ≠ b' := Nat.ne_of_lt (Nat.lt_of_lt_of_le (AB.lt kF) lo)
          replace belD := belD.trans (bel.mono belD.size)
          replace kF := kF.keep bel
          refine hK.out _ _ ?_ (fun hHeld2 => ?_)
          · (try dsimp only); exact next3_0 belD HD0.out
          clear hK K hHeld bel
          clear lo
          have ow := ow0
          clear ow0
          have hHeld := hHeld2
          clear hHeld2
          (try simp only [Act.put, List.setIfInBounds_toArray, List.set_cons_zero, List.set_cons_succ, List.getElem_toArray, List.getElem_cons_succ, List.getElem_cons_zero])
          refine wpAnyH_ready (rs := [5, 6]) ?_ (by simp) ?_
          · decide +kernel
          refine AllReadyH.cons rfl (fun K hK => ?_) (AllReadyH.cons rfl (fun K hK => ?_) AllReadyH.nil)
          · go_simp
            go_at_call 125
            refine (Frm.framed (HRD.out.keep belD (Nat.le_refl _)) HQ.out HN.out).mono ?_
            rintro e wf ⟨rfl, bel⟩
            replace belD := belD.trans (bel.mono belD.size)
            replace kF := kF.keep bel
            replace ow := ow.keep bel
            refine hK.out _ _ ?_ (fun hHeld2 => ?_)
            · (try dsimp only); exact next3_0 belD HD0.out
            clear hK K hHeld bel
            have hHeld := hHeld2
            clear hHeld2
            (try simp only [Act.put, List.setIfInBounds_toArray, List.set_cons_zero, List.set_cons_succ, List.getElem_toArray, List.getElem_cons_succ, List.getElem_cons_zero])
            refine wpAnyH_ready (rs := [6]) ?_ (by simp) ?_
            · decide +kernel
            refine AllReadyH.cons rfl (fun K hK => ?_) AllReadyH.nil
            go_simp
            have bel := below1 wf (Obj.cells #[.int .i64 0, .int .i64 0, .slice none 0 0] 26)
            have lmS := belD.size
            replace belD := belD.trans (bel.mono belD.size)
            have nOb0 := Nat.ne_of_gt ow.lt
            have nFO0 := AB.lt kF
            replace kF := kF.keep bel
            replace ow := ow.keep bel
            refine hK.out _ _ ?_ (fun hHeld2 => ?_)
            · (try dsimp only); exact next3_0 belD HD0.out
            clear hK K hHeld bel
            obtain ⟨vO, hWa⟩ : ∃ vO, vO = wf.alloc (Obj.cells #[.int .i64 0, .int .i64 0, .slice none 0 0] 26) := ⟨_, rfl⟩
            obtain ⟨NO, hNa⟩ : ∃ NO, NO = wf.heap.size := ⟨_, rfl⟩
            have kO : vO.heap[NO]? = some (Obj.cells #[.int .i64 0, .int .i64 0, .slice none 0 0] 26) := by rw [hWa]; exact FNew.heap_top hNa
            have lmO : wD.heap.size ≤ NO := by rw [hNa]; exact lmS
            clear lmS
            have nOb : NO ≠ b' := by rw [hNa]; exact nOb0
            clear nOb0
            have nOF : NO ≠ NF := by rw [hNa]; exact Nat.ne_of_gt nFO0
            clear nFO0
            rw [← hWa] at belD kF ow
            (try dsimp only at hHeld2)
            simp only [← hWa, ← hNa] at hHeld2 ⊢
            clear hWa hNa
            have hHeld := hHeld2
            clear hHeld2
            (try simp only [Act.put, List.setIfInBounds_toArray, List.set_cons_zero, List.set_cons_succ, List.getElem_toArray, List.getElem_cons_succ, List.getElem_cons_zero])
            refine wpAnyH_ready (rs := [8]) ?_ (by simp) ?_
            · decide +kernel
            refine AllReadyH.cons rfl (fun K hK => ?_) AllReadyH.nil
            have y0 : vO.cell? ⟨NO, 0, none⟩ = some (.int .i64 0) := Go.Joins.cell_of_block kO 0
            have y1 : vO.cell? ⟨NO, 1, none⟩ = some (.int .i64 0) := Go.Joins.cell_of_block kO 1
            have y2 : vO.cell? ⟨NO, 2, none⟩ = some (.slice none 0 0) := Go.Joins.cell_of_block kO 2
            have g0 : vO.frozen? ⟨NO, 0, none⟩ = false := Go.Joins.unfrozen_of_block kO 0
            have g1 : vO.frozen? ⟨NO, 1, none⟩ = false := Go.Joins.unfrozen_of_block kO 1
            have g2 : vO.frozen? ⟨NO, 2, none⟩ = false := Go.Joins.unfrozen_of_block kO 2
            have HKO := hid kO
            clear kO
            go_simp
            clear y0 y1 y2 g0 g1 g2
            have q0 := (Go.Joins.block_setCell (i := 2) (Go.Joins.block_setCell (i := 1) (Go.Joins.block_setCell (i := 0) HKO.out (.int .i64 R)) (.int .i64 C)) (.slice (some ⟨b', 0, none⟩) n n))
            have oz := (own_set (own_set (own_set ow ⟨NO, 0, none⟩ (.int .i64 R) nOb) ⟨NO, 1, none⟩ (.int .i64 C) nOb) ⟨NO, 2, none⟩ (.slice (some ⟨b', 0, none⟩) n n) nOb)
            have bz := (((belD.setCell (p := ⟨NO, 0, none⟩) lmO (.int .i64 R)).setCell (p := ⟨NO, 1, none⟩) lmO (.int .i64 C)).setCell (p := ⟨NO, 2, none⟩) lmO (.slice (some ⟨b', 0, none⟩) n n))
            have fz1 := (((kF.setOther ⟨NO, 0, none⟩ (.int .i64 R) (Ne.symm nOF)).setOther ⟨NO, 1, none⟩ (.int .i64 C) (Ne.symm nOF)).setOther ⟨NO, 2, none⟩ (.slice (some ⟨b', 0, none⟩) n n) (Ne.symm nOF))
            obtain ⟨W5, hW5⟩ : ∃ W5, W5 = (((vO.setCell ⟨NO, 0, none⟩ (.int .i64 R)).setCell ⟨NO, 1, none⟩ (.int .i64 C)).setCell ⟨NO, 2, none⟩ (.slice (some ⟨b', 0, none⟩) n n)) := ⟨_, rfl⟩
            rw [← hW5] at q0 oz bz fz1
            have kO : W5.heap[NO]? = some (Obj.cells #[.int .i64 R, .int .i64 C, .slice (some ⟨b', 0, none⟩) n n] 26) := q0
            clear ow belD kF q0 HKO
            have ow := oz
            have belD := bz
            have kF := fz1
            clear oz bz fz1
            refine hK.out _ _ ?_ (fun hHeld2 => ?_)
            · (try dsimp only); rw [← hW5]; exact next3_0 belD HD0.out
            clear hK K hHeld
            (try dsimp only at hHeld2)
            simp only [← hW5] at hHeld2 ⊢
            clear hW5
            have hHeld := hHeld2
            clear hHeld2
            (try simp only [Act.put, List.setIfInBounds_toArray, List.set_cons_zero, List.set_cons_succ, List.getElem_toArray, List.getElem_cons_succ, List.getElem_cons_zero])
            refine wpAnyH_ready (rs := [9]) ?_ (by simp) ?_
            · decide +kernel
            refine AllReadyH.cons rfl (fun K hK => ?_) AllReadyH.nil
            refine step_storeA rfl 140 _ _ rfl NF (cellsA (fzL zs R C rd (R + 2))) rfl rfl 140 _ kF (by rw [cellsA_size, fzL_len]; kernel_rfl) (by rw [cellsA_size, cellsA_size, fzL_len, List.length_replicate]) (cellsA_one _) ?_
            have q1 := setRow_heap _ NF _ (cellsA (fzL zs R C rd (R + 2))) 140 (0, 0) kF
            have q2 := (setRow_other W5 NF NO (cellsA (fzL zs R C rd (R + 2))) nOF).trans kO
            have q3 := ow.grown (grown_setRow W5 NF (cellsA (fzL zs R C rd (R + 2)))) (by simp; exact nFb)
            have q4 := below_setRow (cs := (cellsA (fzL zs R C rd (R + 2)))) belD lmF
            obtain ⟨W6, hW6⟩ : ∃ W6, W6 = W5.setRow NF (cellsA (fzL zs R C rd (R + 2))) := ⟨_, rfl⟩
            rw [← hW6] at q1 q2 q3 q4 ⊢
            clear hW6 kF kO ow belD
            refine hK.out _ _ ?_ (fun hHeld2 => ?_)
            · (try dsimp only); exact next3_0 q4 HD0.out
            clear hK K hHeld
            have hfin : (Below w.heap.size w W6 ∧ W6.cell? ⟨N, 0, none⟩ = some (.int .i64 R) ∧ W6.cell? ⟨N, 1, none⟩ = some (.int .i64 C) ∧ W6.cell? ⟨N, 2, none⟩ = some (.slice (some ⟨b, off, none⟩) n cap)) ∧ AB 123 W6 TB (tabL xs ys xs.length ys.length) ∧ W6.heap[NT]? = some (Obj.cells #[.int .i64 0, .int .i64 0, .slice none 0 0] 26) ∧ W6.heap[NO]? = some (Obj.cells #[.int .i64 R, .int .i64 C, .slice (some ⟨b', 0, none⟩) n n] 26) ∧ AB 140 W6 NF (fzL zs R C rd (R + 2)) ∧ Own 2 W6 b' (.slice (some ⟨b', 0, none⟩) n n) (List.replicate n 0) ∧ w.heap.size ≤ b' ∧ (NT ≠ b' ∧ NO ≠ b' ∧ NF ≠ b' ∧ TB ≠ b' ∧ N ≠ b' ∧ b ≠ b') := ⟨⟨(next3_0 q4 HD0.out).1, (next3_0 q4 HD0.out).2.1, (next3_0 q4 HD0.out).2.2.1, (next3_0 q4 HD0.out).2.2.2.1⟩, HTB.out.keep q4, heap_keep q4 HKT.out, q2, q1, q3, Nat.le_trans HD0.out.1.size lob, Nat.ne_of_lt (Nat.lt_of_lt_of_le (heap_lt HKT.out) lob), nOb, nFb, Nat.ne_of_lt (Nat.lt_of_lt_of_le (AB.lt HTB.out) lob), Nat.ne_of_lt (Nat.lt_of_lt_of_le (World.block_lt_of_cell? _ _ HD0.out.2.1) lob), Nat.ne_of_lt (Nat.lt_of_lt_of_le (Nat.lt_of_lt_of_le HB0.out HD0.out.1.size) lob)⟩
            have HF := hid hfin
            clear hfin q1 q2 q3 q4
            have hHeld := hHeld2
            clear hHeld2
            (try simp only [Act.put, List.setIfInBounds_toArray, List.set_cons_zero, List.set_cons_succ, List.getElem_toArray, List.getElem_cons_succ, List.getElem_cons_zero])
            refine wpAnyH_done (by kernel_rfl) ?_ _
            clear hHeld
            go_wp2_with fail
            go_meet
            case rel => exact ⟨NO, NF, b', rfl, rfl, HF.out⟩
          · go_simp
            have bel := below1 wm (Obj.cells #[.int .i64 0, .int .i64 0, .slice none 0 0] 26)
            have lmS := belD.size
            replace belD := belD.trans (bel.mono belD.size)
            have nOb0 := Nat.ne_of_gt ow.lt
            have nFO0 := AB.lt kF
            replace kF := kF.keep bel
            replace ow := ow.keep bel
            refine hK.out _ _ ?_ (fun hHeld2 => ?_)
            · (try dsimp only); exact next3_0 belD HD0.out
            clear hK K hHeld bel
            obtain ⟨vO, hWa⟩ : ∃ vO, vO = wm.alloc (Obj.cells #[.int .i64 0, .int .i64 0, .slice none 0 0] 26) := ⟨_, rfl⟩
            obtain ⟨NO, hNa⟩ : ∃ NO, NO = wm.heap.size := ⟨_, rfl⟩
            have kO : vO.heap[NO]? = some (Obj.cells #[.int .i64 0, .int .i64 0, .slice none 0 0] 26) := by rw [hWa]; exact FNew.heap_top hNa
            have lmO : wD.heap.size ≤ NO := by rw [hNa]; exact lmS
            clear lmS
            have nOb : NO ≠ b' := by rw [hNa]; exact nOb0
            clear nOb0
            have nOF : NO ≠ NF := by rw [hNa]; exact Nat.ne_of_gt nFO0
            clear nFO0
            rw [← hWa] at belD kF ow
            (try dsimp only at hHeld2)
            simp only [← hWa, ← hNa] at hHeld2 ⊢
            clear hWa hNa
            have hHeld := hHeld2
            clear hHeld2
            (try simp only [Act.put, List.setIfInBounds_toArray, List.set_cons_zero, List.set_cons_succ, List.getElem_toArray, List.getElem_cons_succ, List.getElem_cons_zero])
            refine wpAnyH_ready (rs := [5]) ?_ (by simp) ?_
            · decide +kernel
            refine AllReadyH.cons rfl (fun K hK => ?_) AllReadyH.nil
            go_simp
            go_at_call 125
            refine (Frm.framed (HRD.out.keep belD (Nat.le_refl _)) HQ.out HN.out).mono ?_
            rintro e wf ⟨rfl, bel⟩
            replace belD := belD.trans (bel.mono belD.size)
            replace kF := kF.keep bel
            replace ow := ow.keep bel
            replace kO := heap_keep bel kO
            refine hK.out _ _ ?_ (fun hHeld2 => ?_)
            · (try dsimp only); exact next3_0 belD HD0.out
            clear hK K hHeld bel
            have hHeld := hHeld2
            clear hHeld2
            (try simp only [Act.put, List.setIfInBounds_toArray, List.set_cons_zero, List.set_cons_succ, List.getElem_toArray, List.getElem_cons_succ, List.getElem_cons_zero])
            refine wpAnyH_ready (rs := [8]) ?_ (by simp) ?_
            · decide +kernel
            refine AllReadyH.cons rfl (fun K hK => ?_) AllReadyH.nil
            have y0 : wf.cell? ⟨NO, 0, none⟩ = some (.int .i64 0) := Go.Joins.cell_of_block kO 0
            have y1 : wf.cell? ⟨NO, 1, none⟩ = some (.int .i64 0) := Go.Joins.cell_of_block kO 1
            have y2 : wf.cell? ⟨NO, 2, none⟩ = some (.slice none 0 0) := Go.Joins.cell_of_block kO 2
            have g0 : wf.frozen? ⟨NO, 0, none⟩ = false := Go.Joins.unfrozen_of_block kO 0
            have g1 : wf.frozen? ⟨NO, 1, none⟩ = false := Go.Joins.unfrozen_of_block kO 1
            have g2 : wf.frozen? ⟨NO, 2, none⟩ = false := Go.Joins.unfrozen_of_block kO 2
            have HKO := hid kO
            clear kO
            go_simp
            clear y0 y1 y2 g0 g1 g2
            have q0 := (Go.Joins.block_setCell (i := 2) (Go.Joins.block_setCell (i := 1) (Go.Joins.block_setCell (i := 0) HKO.out (.int .i64 R)) (.int .i64 C)) (.slice (some ⟨b', 0, none⟩) n n))
            have oz := (own_set (own_set (own_set ow ⟨NO, 0, none⟩ (.int .i64 R) nOb) ⟨NO, 1, none⟩ (.int .i64 C) nOb) ⟨NO, 2, none⟩ (.slice (some ⟨b', 0, none⟩) n n) nOb)
            have bz := (((belD.setCell (p := ⟨NO, 0, none⟩) lmO (.int .i64 R)).setCell (p := ⟨NO, 1, none⟩) lmO (.int .i64 C)).setCell (p := ⟨NO, 2, none⟩) lmO (.slice (some ⟨b', 0, none⟩) n n))
            have fz1 := (((kF.setOther ⟨NO, 0, none⟩ (.int .i64 R) (Ne.symm nOF)).setOther ⟨NO, 1, none⟩ (.int .i64 C) (Ne.symm nOF)).setOther ⟨NO, 2, none⟩ (.slice (some ⟨b', 0, none⟩) n n) (Ne.symm nOF))
            obtain ⟨W5, hW5⟩ : ∃ W5, W5 = (((wf.setCell ⟨NO, 0, none⟩ (.int .i64 R)).setCell ⟨NO, 1, none⟩ (.int .i64 C)).setCell ⟨NO, 2, none⟩ (.slice (some ⟨b', 0, none⟩) n n)) := ⟨_, rfl⟩
            rw [← hW5] at q0 oz bz fz1
            have kO : W5.heap[NO]? = some (Obj.cells #[.int .i64 R, .int .i64 C, .slice (some ⟨b', 0, none⟩) n n] 26) := q0
            clear ow belD kF q0 HKO
            have ow := oz
            have belD := bz
            have kF := fz1
            clear oz bz fz1
            refine hK.out _ _ ?_ (fun hHeld2 => ?_)
            · (try dsimp only); rw [← hW5]; exact next3_0 belD HD0.out
            clear hK K hHeld
            (try dsimp only at hHeld2)
            simp only [← hW5] at hHeld2 ⊢
            clear hW5
            have hHeld := hHeld2
            clear hHeld2
            (try simp only [Act.put, List.setIfInBounds_toArray, List.set_cons_zero, List.set_cons_succ, List.getElem_toArray, List.getElem_cons_succ, List.getElem_cons_zero])
            refine wpAnyH_ready (rs := [9]) ?_ (by simp) ?_
            · decide +kernel
            refine AllReadyH.cons rfl (fun K hK => ?_) AllReadyH.nil
            refine step_storeA rfl 140 _ _ rfl NF (cellsA (fzL zs R C rd (R + 2))) rfl rfl 140 _ kF (by rw [cellsA_size, fzL_len]; kernel_rfl) (by rw [cellsA_size, cellsA_size, fzL_len, List.length_replicate]) (cellsA_one _) ?_
            have q1 := setRow_heap _ NF _ (cellsA (fzL zs R C rd (R + 2))) 140 (0, 0) kF
            have q2 := (setRow_other W5 NF NO (cellsA (fzL zs R C rd (R + 2))) nOF).trans kO
            have q3 := ow.grown (grown_setRow W5 NF (cellsA (fzL zs R C rd (R + 2)))) (by simp; exact nFb)
            have q4 := below_setRow (cs := (cellsA (fzL zs R C rd (R + 2)))) belD lmF
            obtain ⟨W6, hW6⟩ : ∃ W6, W6 = W5.setRow NF (cellsA (fzL zs R C rd (R + 2))) := ⟨_, rfl⟩
            rw [← hW6] at q1 q2 q3 q4 ⊢
            clear hW6 kF kO ow belD
            refine hK.out _ _ ?_ (fun hHeld2 => ?_)
            · (try dsimp only); exact next3_0 q4 HD0.out
            clear hK K hHeld
            have hfin : (Below w.heap.size w W6 ∧ W6.cell? ⟨N, 0, none⟩ = some (.int .i64 R) ∧ W6.cell? ⟨N, 1, none⟩ = some (.int .i64 C) ∧ W6.cell? ⟨N, 2, none⟩ = some (.slice (some ⟨b, off, none⟩) n cap)) ∧ AB 123 W6 TB (tabL xs ys xs.length ys.length) ∧ W6.heap[NT]? = some (Obj.cells #[.int .i64 0, .int .i64 0, .slice none 0 0] 26) ∧ W6.heap[NO]? = some (Obj.cells #[.int .i64 R, .int .i64 C, .slice (some ⟨b', 0, none⟩) n n] 26) ∧ AB 140 W6 NF (fzL zs R C rd (R + 2)) ∧ Own 2 W6 b' (.slice (some ⟨b', 0, none⟩) n n) (List.replicate n 0) ∧ w.heap.size ≤ b' ∧ (NT ≠ b' ∧ NO ≠ b' ∧ NF ≠ b' ∧ TB ≠ b' ∧ N ≠ b' ∧ b ≠ b') := ⟨⟨(next3_0 q4 HD0.out).1, (next3_0 q4 HD0.out).2.1, (next3_0 q4 HD0.out).2.2.1, (next3_0 q4 HD0.out).2.2.2.1⟩, HTB.out.keep q4, heap_keep q4 HKT.out, q2, q1, q3, Nat.le_trans HD0.out.1.size lob, Nat.ne_of_lt (Nat.lt_of_lt_of_le (heap_lt HKT.out) lob), nOb, nFb, Nat.ne_of_lt (Nat.lt_of_lt_of_le (AB.lt HTB.out) lob), Nat.ne_of_lt (Nat.lt_of_lt_of_le (World.block_lt_of_cell? _ _ HD0.out.2.1) lob), Nat.ne_of_lt (Nat.lt_of_lt_of_le (Nat.lt_of_lt_of_le HB0.out HD0.out.1.size) lob)⟩
            have HF := hid hfin
            clear hfin q1 q2 q3 q4
            have hHeld := hHeld2
            clear hHeld2
            (try simp only [Act.put, List.setIfInBounds_toArray, List.set_cons_zero, List.set_cons_succ, List.getElem_toArray, List.getElem_cons_succ, List.getElem_cons_zero])
            refine wpAnyH_done (by kernel_rfl) ?_ _
            clear hHeld
            go_wp2_with fail
            go_meet
            case rel => exact ⟨NO, NF, b', rfl, rfl, HF.out⟩
        · go_simp
          have bel := below1 vF (Obj.cells #[.int .i64 0, .int .i64 0, .slice none 0 0] 26)
          have lmS := belD.size
          replace belD := belD.trans (bel.mono belD.size)
          have nFO0 := AB.lt kF
          replace kF := kF.keep bel
          refine hK.out _ _ ?_ (fun hHeld2 => ?_)
          · (try dsimp only); exact next3_0 belD HD0.out
          clear hK K hHeld bel
          obtain ⟨vO, hWa⟩ : ∃ vO, vO = vF.alloc (Obj.cells #[.int .i64 0, .int .i64 0, .slice none 0 0] 26) := ⟨_, rfl⟩
          obtain ⟨NO, hNa⟩ : ∃ NO, NO = vF.heap.size := ⟨_, rfl⟩
          have kO : vO.heap[NO]? = some (Obj.cells #[.int .i64 0, .int .i64 0, .slice none 0 0] 26) := by rw [hWa]; exact FNew.heap_top hNa
          have lmO : wD.heap.size ≤ NO := by rw [hNa]; exact lmS
          clear lmS
          have nOF : NO ≠ NF := by rw [hNa]; exact Nat.ne_of_gt nFO0
          clear nFO0
          rw [← hWa] at belD kF
          (try dsimp only at hHeld2)
          simp only [← hWa, ← hNa] at hHeld2 ⊢
          clear hWa hNa
          have hHeld := hHeld2
          clear hHeld2
          (try simp only [Act.put, List.setIfInBounds_toArray, List.set_cons_zero, List.set_cons_succ, List.getElem_toArray, List.getElem_cons_succ, List.getElem_cons_zero])
          refine wpAnyH_ready (rs := [2]) ?_ (by simp) ?_
          · decide +kernel
          refine AllReadyH.cons rfl (fun K hK => ?_) AllReadyH.nil
          go_simp
          go_at_call 124
          refine (FNew.emptyField HN.out HLE.out).mono ?_
          rintro e wm ⟨b', rfl, ow0, lo, bel⟩
          have lob : wD.heap.size ≤ b' := Nat.le_trans belD.size lo
          have nOb : NO ≠ b' := Nat.ne_of_lt (Nat.lt_of_lt_of_le (heap_lt kO) lo)
          have nFb : NF ≠ b' := Nat.ne_of_lt (Nat.lt_of_lt_of_le (AB.lt kF) lo)
          replace belD := belD.trans (bel.mono belD.size)
          replace kF := kF.keep bel
          replace kO := heap_keep bel kO
          refine hK.out _ _ ?_ (fun hHeld2 => ?_)
          · (try dsimp only); exact next3_0 belD HD0.out
          clear hK K hHeld bel
          clear lo
          have ow := ow0
          clear ow0
          have hHeld := hHeld2
          clear hHeld2
          (try simp only [Act.put, List.setIfInBounds_toArray, List.set_cons_zero, List.set_cons_succ, List.getElem_toArray, List.getElem_cons_succ, List.getElem_cons_zero])
          refine wpAnyH_ready (rs := [5]) ?_ (by simp) ?_
          · decide +kernel
          refine AllReadyH.cons rfl (fun K hK => ?_) AllReadyH.nil
          go_simp
          go_at_call 125
          refine (Frm.framed (HRD.out.keep belD (Nat.le_refl _)) HQ.out HN.out).mono ?_
          rintro e wf ⟨rfl, bel⟩
          replace belD := belD.trans (bel.mono belD.size)
          replace kF := kF.keep bel
          replace kO := heap_keep bel kO
          replace ow := ow.keep bel
          refine hK.out _ _ ?_ (fun hHeld2 => ?_)
          · (try dsimp only); exact next3_0 belD HD0.out
          clear hK K hHeld bel
          have hHeld := hHeld2
          clear hHeld2
          (try simp only [Act.put, List.setIfInBounds_toArray, List.set_cons_zero, List.set_cons_succ, List.getElem_toArray, List.getElem_cons_succ, List.getElem_cons_zero])
          refine wpAnyH_ready (rs := [8]) ?_ (by simp) ?_
          · decide +kernel
          refine AllReadyH.cons rfl (fun K hK => ?_) AllReadyH.nil
          have y0 : wf.cell? ⟨NO, 0, none⟩ = some (.int .i64 0) := Go.Joins.cell_of_block kO 0
          have y1 : wf.cell? ⟨NO, 1, none⟩ = some (.int .i64 0) := Go.Joins.cell_of_block kO 1
          have y2 : wf.cell? ⟨NO, 2, none⟩ = some (.slice none 0 0) := Go.Joins.cell_of_block kO 2
          have g0 : wf.frozen? ⟨NO, 0, none⟩ = false := Go.Joins.unfrozen_of_block kO 0
          have g1 : wf.frozen? ⟨NO, 1, none⟩ = false := Go.Joins.unfrozen_of_block kO 1
          have g2 : wf.frozen? ⟨NO, 2, none⟩ = false := Go.Joins.unfrozen_of_block kO 2
          have HKO := hid kO
          clear kO
          go_simp
          clear y0 y1 y2 g0 g1 g2
          have q0 := (Go.Joins.block_setCell (i := 2) (Go.Joins.block_setCell (i := 1) (Go.Joins.block_setCell (i := 0) HKO.out (.int .i64 R)) (.int .i64 C)) (.slice (some ⟨b', 0, none⟩) n n))
          have oz := (own_set (own_set (own_set ow ⟨NO, 0, none⟩ (.int .i64 R) nOb) ⟨NO, 1, none⟩ (.int .i64 C) nOb) ⟨NO, 2, none⟩ (.slice (some ⟨b', 0, none⟩) n n) nOb)
          have bz := (((belD.setCell (p := ⟨NO, 0, none⟩) lmO (.int .i64 R)).setCell (p := ⟨NO, 1, none⟩) lmO (.int .i64 C)).setCell (p := ⟨NO, 2, none⟩) lmO (.slice (some ⟨b', 0, none⟩) n n))
          have fz1 := (((kF.setOther ⟨NO, 0, none⟩ (.int .i64 R) (Ne.symm nOF)).setOther ⟨NO, 1, none⟩ (.int .i64 C) (Ne.symm nOF)).setOther ⟨NO, 2, none⟩ (.slice (some ⟨b', 0, none⟩) n n) (Ne.symm nOF))
          obtain ⟨W5, hW5⟩ : ∃ W5, W5 = (((wf.setCell ⟨NO, 0, none⟩ (.int .i64 R)).setCell ⟨NO, 1, none⟩ (.int .i64 C)).setCell ⟨NO, 2, none⟩ (.slice (some ⟨b', 0, none⟩) n n)) := ⟨_, rfl⟩
          rw [← hW5] at q0 oz bz fz1
          have kO : W5.heap[NO]? = some (Obj.cells #[.int .i64 R, .int .i64 C, .slice (some ⟨b', 0, none⟩) n n] 26) := q0
          clear ow belD kF q0 HKO
          have ow := oz
          have belD := bz
          have kF := fz1
          clear oz bz fz1
          refine hK.out _ _ ?_ (fun hHeld2 => ?_)
          · (try dsimp only); rw [← hW5]; exact next3_0 belD HD0.out
          clear hK K hHeld
          (try dsimp only at hHeld2)
          simp only [← hW5] at hHeld2 ⊢
          clear hW5
          have hHeld := hHeld2
          clear hHeld2
          (try simp only [Act.put, List.setIfInBounds_toArray, List.set_cons_zero, List.set_cons_succ, List.getElem_toArray, List.getElem_cons_succ, List.getElem_cons_zero])
          refine wpAnyH_ready (rs := [9]) ?_ (by simp) ?_
          · decide +kernel
          refine AllReadyH.cons rfl (fun K hK => ?_) AllReadyH.nil
          refine step_storeA rfl 140 _ _ rfl NF (cellsA (fzL zs R C rd (R + 2))) rfl rfl 140 _ kF (by rw [cellsA_size, fzL_len]; kernel_rfl) (by rw [cellsA_size, cellsA_size, fzL_len, List.length_replicate]) (cellsA_one _) ?_
          have q1 := setRow_heap _ NF _ (cellsA (fzL zs R C rd (R + 2))) 140 (0, 0) kF
          have q2 := (setRow_other W5 NF NO (cellsA (fzL zs R C rd (R + 2))) nOF).trans kO
          have q3 := ow.grown (grown_setRow W5 NF (cellsA (fzL zs R C rd (R + 2)))) (by simp; exact nFb)
          have q4 := below_setRow (cs := (cellsA (fzL zs R C rd (R + 2)))) belD lmF
          obtain ⟨W6, hW6⟩ : ∃ W6, W6 = W5.setRow NF (cellsA (fzL zs R C rd (R + 2))) := ⟨_, rfl⟩
          rw [← hW6] at q1 q2 q3 q4 ⊢
          clear hW6 kF kO ow belD
          refine hK.out _ _ ?_ (fun hHeld2 => ?_)
          · (try dsimp only); exact next3_0 q4 HD0.out
          clear hK K hHeld
          have hfin : (Below w.heap.size w W6 ∧ W6.cell? ⟨N, 0, none⟩ = some (.int .i64 R) ∧ W6.cell? ⟨N, 1, none⟩ = some (.int .i64 C) ∧ W6.cell? ⟨N, 2, none⟩ = some (.slice (some ⟨b, off, none⟩) n cap)) ∧ AB 123 W6 TB (tabL xs ys xs.length ys.length) ∧ W6.heap[NT]? = some (Obj.cells #[.int .i64 0, .int .i64 0, .slice none 0 0] 26) ∧ W6.heap[NO]? = some (Obj.cells #[.int .i64 R, .int .i64 C, .slice (some ⟨b', 0, none⟩) n n] 26) ∧ AB 140 W6 NF (fzL zs R C rd (R + 2)) ∧ Own 2 W6 b' (.slice (some ⟨b', 0, none⟩) n n) (List.replicate n 0) ∧ w.heap.size ≤ b' ∧ (NT ≠ b' ∧ NO ≠ b' ∧ NF ≠ b' ∧ TB ≠ b' ∧ N ≠ b' ∧ b ≠ b') := ⟨⟨(next3_0 q4 HD0.out).1, (next3_0 q4 HD0.out).2.1, (next3_0 q4 HD0.out).2.2.1, (next3_0 q4 HD0.out).2.2.2.1⟩, HTB.out.keep q4, heap_keep q4 HKT.out, q2, q1, q3, Nat.le_trans HD0.out.1.size lob, Nat.ne_of_lt (Nat.lt_of_lt_of_le (heap_lt HKT.out) lob), nOb, nFb, Nat.ne_of_lt (Nat.lt_of_lt_of_le (AB.lt HTB.out) lob), Nat.ne_of_lt (Nat.lt_of_lt_of_le (World.block_lt_of_cell? _ _ HD0.out.2.1) lob), Nat.ne_of_lt (Nat.lt_of_lt_of_le (Nat.lt_of_lt_of_le HB0.out HD0.out.1.size) lob)⟩
          have HF := hid hfin
          clear hfin q1 q2 q3 q4
          have hHeld := hHeld2
          clear hHeld2
          (try simp only [Act.put, List.setIfInBounds_toArray, List.set_cons_zero, List.set_cons_succ, List.getElem_toArray, List.getElem_cons_succ, List.getElem_cons_zero])
          refine wpAnyH_done (by kernel_rfl) ?_ _
          clear hHeld
          go_wp2_with fail
          go_meet
          case rel => exact ⟨NO, NF, b', rfl, rfl, HF.out⟩
    · go_simp
      have bel := below1 wD (Obj.cells #[.int .i64 0, .int .i64 0, .slice none 0 0] 26)
      have lmS := belD.size
      replace belD := belD.trans (bel.mono belD.size)
      refine hK.out _ _ ?_ (fun hHeld2 => ?_)
      · (try dsimp only); exact next3_0 belD HD0.out
      clear hK K hHeld bel
      obtain ⟨vO, hWa⟩ : ∃ vO, vO = wD.alloc (Obj.cells #[.int .i64 0, .int .i64 0, .slice none 0 0] 26) := ⟨_, rfl⟩
      obtain ⟨NO, hNa⟩ : ∃ NO, NO = wD.heap.size := ⟨_, rfl⟩
      have kO : vO.heap[NO]? = some (Obj.cells #[.int .i64 0, .int .i64 0, .slice none 0 0] 26) := by rw [hWa]; exact FNew.heap_top hNa
      have lmO : wD.heap.size ≤ NO := by rw [hNa]; exact lmS
      clear lmS
      rw [← hWa] at belD
      (try dsimp only at hHeld2)
      simp only [← hWa, ← hNa] at hHeld2 ⊢
      clear hWa hNa
      have hHeld := hHeld2
      clear hHeld2
      (try simp only [Act.put, List.setIfInBounds_toArray, List.set_cons_zero, List.set_cons_succ, List.getElem_toArray, List.getElem_cons_succ, List.getElem_cons_zero])
      refine wpAnyH_ready (rs := [1, 7]) ?_ (by simp) ?_
      · decide +kernel
      refine AllReadyH.cons rfl (fun K hK => ?_) (AllReadyH.cons rfl (fun K hK => ?_) AllReadyH.nil)
      · go_simp
        go_at_call 91
        refine extentOf.mono ?_
        rintro e we ⟨rfl, bel⟩
        replace belD := belD.trans (bel.mono belD.size)
        replace kO := heap_keep bel kO
        refine hK.out _ _ ?_ (fun hHeld2 => ?_)
        · (try dsimp only); exact next3_0 belD HD0.out
        clear hK K hHeld bel
        have hHeld := hHeld2
        clear hHeld2
        (try simp only [Act.put, List.setIfInBounds_toArray, List.set_cons_zero, List.set_cons_succ, List.getElem_toArray, List.getElem_cons_succ, List.getElem_cons_zero])
        refine wpAnyH_ready (rs := [2, 7]) ?_ (by simp) ?_
        · decide +kernel
        refine AllReadyH.cons rfl (fun K hK => ?_) (AllReadyH.cons rfl (fun K hK => ?_) AllReadyH.nil)
        · go_simp
          go_at_call 124
          refine (FNew.emptyField HN.out HLE.out).mono ?_
          rintro e wm ⟨b', rfl, ow0, lo, bel⟩
          have lob : wD.heap.size ≤ b' := Nat.le_trans belD.size lo
          have nOb : NO ≠ b' := Nat.ne_of_lt (Nat.lt_of_lt_of_le (heap_lt kO) lo)
          replace belD := belD.trans (bel.mono belD.size)
          replace kO := heap_keep bel kO
          refine hK.out _ _ ?_ (fun hHeld2 => ?_)
          · (try dsimp only); exact next3_0 belD HD0.out
          clear hK K hHeld bel
          clear lo
          have ow := ow0
          clear ow0
          have hHeld := hHeld2
          clear hHeld2
          (try simp only [Act.put, List.setIfInBounds_toArray, List.set_cons_zero, List.set_cons_succ, List.getElem_toArray, List.getElem_cons_succ, List.getElem_cons_zero])
          refine wpAnyH_ready (rs := [5, 7]) ?_ (by simp) ?_
          · decide +kernel
          refine AllReadyH.cons rfl (fun K hK => ?_) (AllReadyH.cons rfl (fun K hK => ?_) AllReadyH.nil)
          · go_simp
            go_at_call 125
            refine (Frm.framed (HRD.out.keep belD (Nat.le_refl _)) HQ.out HN.out).mono ?_
            rintro e wf ⟨rfl, bel⟩
            replace belD := belD.trans (bel.mono belD.size)
            replace kO := heap_keep bel kO
            replace ow := ow.keep bel
            refine hK.out _ _ ?_ (fun hHeld2 => ?_)
            · (try dsimp only); exact next3_0 belD HD0.out
            clear hK K hHeld bel
            have hHeld := hHeld2
            clear hHeld2
            (try simp only [Act.put, List.setIfInBounds_toArray, List.set_cons_zero, List.set_cons_succ, List.getElem_toArray, List.getElem_cons_succ, List.getElem_cons_zero])
            refine wpAnyH_ready (rs := [7]) ?_ (by simp) ?_
            · decide +kernel
            refine AllReadyH.cons rfl (fun K hK => ?_) AllReadyH.nil
            go_simp
            have bel := below1 wf (Obj.cells Try.zeroCells140 140)
            have lmS := belD.size
            replace belD := belD.trans (bel.mono belD.size)
            have nFb0 := Nat.ne_of_gt ow.lt
            have nOF0 := heap_lt kO
            replace kO := heap_keep bel kO
            replace ow := ow.keep bel
            refine hK.out _ _ ?_ (fun hHeld2 => ?_)
            · (try dsimp only); exact next3_0 belD HD0.out
            clear hK K hHeld bel
            obtain ⟨vF, hWa⟩ : ∃ vF, vF = wf.alloc (Obj.cells Try.zeroCells140 140) := ⟨_, rfl⟩
            obtain ⟨NF, hNa⟩ : ∃ NF, NF = wf.heap.size := ⟨_, rfl⟩
            have kF : AB 140 vF NF (List.replicate 676 0) := by unfold AB; rw [hWa, ← HZZ.out]; exact FNew.heap_top hNa
            have lmF : wD.heap.size ≤ NF := by rw [hNa]; exact lmS
            clear lmS
            have nFb : NF ≠ b' := by rw [hNa]; exact nFb0
            clear nFb0
            have nOF : NO ≠ NF := by rw [hNa]; exact Nat.ne_of_lt nOF0
            clear nOF0
            rw [← hWa] at belD kO ow
            (try dsimp only at hHeld2)
            simp only [← hWa, ← hNa] at hHeld2 ⊢
            clear hWa hNa
            have hHeld := hHeld2
            clear hHeld2
            (try simp only [Act.put, List.setIfInBounds_toArray, List.set_cons_zero, List.set_cons_succ, List.getElem_toArray, List.getElem_cons_succ, List.getElem_cons_zero])
            refine wpAnyH_ready (rs := [8]) ?_ (by simp) ?_
            · decide +kernel
            refine AllReadyH.cons rfl (fun K hK => ?_) AllReadyH.nil
            have y0 : vF.cell? ⟨NO, 0, none⟩ = some (.int .i64 0) := Go.Joins.cell_of_block kO 0
            have y1 : vF.cell? ⟨NO, 1, none⟩ = some (.int .i64 0) := Go.Joins.cell_of_block kO 1
            have y2 : vF.cell? ⟨NO, 2, none⟩ = some (.slice none 0 0) := Go.Joins.cell_of_block kO 2
            have g0 : vF.frozen? ⟨NO, 0, none⟩ = false := Go.Joins.unfrozen_of_block kO 0
            have g1 : vF.frozen? ⟨NO, 1, none⟩ = false := Go.Joins.unfrozen_of_block kO 1
            have g2 : vF.frozen? ⟨NO, 2, none⟩ = false := Go.Joins.unfrozen_of_block kO 2
            have HKO := hid kO
            clear kO
            go_simp
            clear y0 y1 y2 g0 g1 g2
            have q0 := (Go.Joins.block_setCell (i := 2) (Go.Joins.block_setCell (i := 1) (Go.Joins.block_setCell (i := 0) HKO.out (.int .i64 R)) (.int .i64 C)) (.slice (some ⟨b', 0, none⟩) n n))
            have oz := (own_set (own_set (own_set ow ⟨NO, 0, none⟩ (.int .i64 R) nOb) ⟨NO, 1, none⟩ (.int .i64 C) nOb) ⟨NO, 2, none⟩ (.slice (some ⟨b', 0, none⟩) n n) nOb)
            have bz := (((belD.setCell (p := ⟨NO, 0, none⟩) lmO (.int .i64 R)).setCell (p := ⟨NO, 1, none⟩) lmO (.int .i64 C)).setCell (p := ⟨NO, 2, none⟩) lmO (.slice (some ⟨b', 0, none⟩) n n))
            have fz1 := (((kF.setOther ⟨NO, 0, none⟩ (.int .i64 R) (Ne.symm nOF)).setOther ⟨NO, 1, none⟩ (.int .i64 C) (Ne.symm nOF)).setOther ⟨NO, 2, none⟩ (.slice (some ⟨b', 0, none⟩) n n) (Ne.symm nOF))
            obtain ⟨W5, hW5⟩ : ∃ W5, W5 = (((vF.setCell ⟨NO, 0, none⟩ (.int .i64 R)).setCell ⟨NO, 1, none⟩ (.int .i64 C)).setCell ⟨NO, 2, none⟩ (.slice (some ⟨b', 0, none⟩) n n)) := ⟨_, rfl⟩
            rw [← hW5] at q0 oz bz fz1
            have kO : W5.heap[NO]? = some (Obj.cells #[.int .i64 R, .int .i64 C, .slice (some ⟨b', 0, none⟩) n n] 26) := q0
            clear ow belD kF q0 HKO
            have ow := oz
            have belD := bz
            have kF := fz1
            clear oz bz fz1
            refine hK.out _ _ ?_ (fun hHeld2 => ?_)
            · (try dsimp only); rw [← hW5]; exact next3_0 belD HD0.out
            clear hK K hHeld
            (try dsimp only at hHeld2)
            simp only [← hW5] at hHeld2 ⊢
            clear hW5
            have hHeld := hHeld2
            clear hHeld2
            (try simp only [Act.put, List.setIfInBounds_toArray, List.set_cons_zero, List.set_cons_succ, List.getElem_toArray, List.getElem_cons_succ, List.getElem_cons_zero])
            refine wpAnyH_ready (rs := [9]) ?_ (by simp) ?_
            · decide +kernel
            refine AllReadyH.cons rfl (fun K hK => ?_) AllReadyH.nil
            refine step_storeA rfl 140 _ _ rfl NF (cellsA (fzL zs R C rd (R + 2))) rfl rfl 140 _ kF (by rw [cellsA_size, fzL_len]; kernel_rfl) (by rw [cellsA_size, cellsA_size, fzL_len, List.length_replicate]) (cellsA_one _) ?_
            have q1 := setRow_heap _ NF _ (cellsA (fzL zs R C rd (R + 2))) 140 (0, 0) kF
            have q2 := (setRow_other W5 NF NO (cellsA (fzL zs R C rd (R + 2))) nOF).trans kO
            have q3 := ow.grown (grown_setRow W5 NF (cellsA (fzL zs R C rd (R + 2)))) (by simp; exact nFb)
            have q4 := below_setRow (cs := (cellsA (fzL zs R C rd (R + 2)))) belD lmF
            obtain ⟨W6, hW6⟩ : ∃ W6, W6 = W5.setRow NF (cellsA (fzL zs R C rd (R + 2))) := ⟨_, rfl⟩
            rw [← hW6] at q1 q2 q3 q4 ⊢
            clear hW6 kF kO ow belD
            refine hK.out _ _ ?_ (fun hHeld2 => ?_)
            · (try dsimp only); exact next3_0 q4 HD0.out
            clear hK K hHeld
            have hfin : (Below w.heap.size w W6 ∧ W6.cell? ⟨N, 0, none⟩ = some (.int .i64 R) ∧ W6.cell? ⟨N, 1, none⟩ = some (.int .i64 C) ∧ W6.cell? ⟨N, 2, none⟩ = some (.slice (some ⟨b, off, none⟩) n cap)) ∧ AB 123 W6 TB (tabL xs ys xs.length ys.length) ∧ W6.heap[NT]? = some (Obj.cells #[.int .i64 0, .int .i64 0, .slice none 0 0] 26) ∧ W6.heap[NO]? = some (Obj.cells #[.int .i64 R, .int .i64 C, .slice (some ⟨b', 0, none⟩) n n] 26) ∧ AB 140 W6 NF (fzL zs R C rd (R + 2)) ∧ Own 2 W6 b' (.slice (some ⟨b', 0, none⟩) n n) (List.replicate n 0) ∧ w.heap.size ≤ b' ∧ (NT ≠ b' ∧ NO ≠ b' ∧ NF ≠ b' ∧ TB ≠ b' ∧ N ≠ b' ∧ b ≠ b') := ⟨⟨(next3_0 q4 HD0.out).1, (next3_0 q4 HD0.out).2.1, (next3_0 q4 HD0.out).2.2.1, (next3_0 q4 HD0.out).2.2.2.1⟩, HTB.out.keep q4, heap_keep q4 HKT.out, q2, q1, q3, Nat.le_trans HD0.out.1.size lob, Nat.ne_of_lt (Nat.lt_of_lt_of_le (heap_lt HKT.out) lob), nOb, nFb, Nat.ne_of_lt (Nat.lt_of_lt_of_le (AB.lt HTB.out) lob), Nat.ne_of_lt (Nat.lt_of_lt_of_le (World.block_lt_of_cell? _ _ HD0.out.2.1) lob), Nat.ne_of_lt (Nat.lt_of_lt_of_le (Nat.lt_of_lt_of_le HB0.out HD0.out.1.size) lob)⟩
            have HF := hid hfin
            clear hfin q1 q2 q3 q4
            have hHeld := hHeld2
            clear hHeld2
            (try simp only [Act.put, List.setIfInBounds_toArray, List.set_cons_zero, List.set_cons_succ, List.getElem_toArray, List.getElem_cons_succ, List.getElem_cons_zero])
            refine wpAnyH_done (by kernel_rfl) ?_ _
            clear hHeld
            go_wp2_with fail
            go_meet
            case rel => exact ⟨NO, NF, b', rfl, rfl, HF.out⟩
          · go_simp
            have bel := below1 wm (Obj.cells Try.zeroCells140 140)
            have lmS := belD.size
            replace belD := belD.trans (bel.mono belD.size)
            have nFb0 := Nat.ne_of_gt ow.lt
            have nOF0 := heap_lt kO
            replace kO := heap_keep bel kO
            replace ow := ow.keep bel
            refine hK.out _ _ ?_ (fun hHeld2 => ?_)
            · (try dsimp only); exact next3_0 belD HD0.out
            clear hK K hHeld bel
            obtain ⟨vF, hWa⟩ : ∃ vF, vF = wm.alloc (Obj.cells Try.zeroCells140 140) := ⟨_, rfl⟩
            obtain ⟨NF, hNa⟩ : ∃ NF, NF = wm.heap.size := ⟨_, rfl⟩
            have kF : AB 140 vF NF (List.replicate 676 0) := by unfold AB; rw [hWa, ← HZZ.out]; exact FNew.heap_top hNa
            have lmF : wD.heap.size ≤ NF := by rw [hNa]; exact lmS
            clear lmS
            have nFb : NF ≠ b' := by rw [hNa]; exact nFb0
            clear nFb0
            have nOF : NO ≠ NF := by rw [hNa]; exact Nat.ne_of_lt nOF0
            clear nOF0
            rw [← hWa] at belD kO ow
            (try dsimp only at hHeld2)
            simp only [← hWa, ← hNa] at hHeld2 ⊢
            clear hWa hNa
            have hHeld := hHeld2
            clear hHeld2
            (try simp only [Act.put, List.setIfInBounds_toArray, List.set_cons_zero, List.set_cons_succ, List.getElem_toArray, List.getElem_cons_succ, List.getElem_cons_zero])
            refine wpAnyH_ready (rs := [5]) ?_ (by simp) ?_
            · decide +kernel
            refine AllReadyH.cons rfl (fun K hK => ?_) AllReadyH.nil
            go_simp
            go_at_call 125
            refine (Frm.framed (HRD.out.keep belD (Nat.le_refl _)) HQ.out HN.out).mono ?_
            rintro e wf ⟨rfl, bel⟩
            replace belD := belD.trans (bel.mono belD.size)
            replace kO := heap_keep bel kO
            replace ow := ow.keep bel
            replace kF := kF.keep bel
            refine hK.out _ _ ?_ (fun hHeld2 => ?_)
            · (try dsimp only); exact next3_0 belD HD0.out
            clear hK K hHeld bel
            have hHeld := hHeld2
            clear hHeld2
            (try simp only [Act.put, List.setIfInBounds_toArray, List.set_cons_zero, List.set_cons_succ, List.getElem_toArray, List.getElem_cons_succ, List.getElem_cons_zero])
            refine wpAnyH_ready (rs := [8]) ?_ (by simp) ?_
            · decide +kernel
            refine AllReadyH.cons rfl (fun K hK => ?_) AllReadyH.nil
            have y0 : wf.cell? ⟨NO, 0, none⟩ = some (.int .i64 0) := Go.Joins.cell_of_block kO 0
            have y1 : wf.cell? ⟨NO, 1, none⟩ = some (.int .i64 0) := Go.Joins.cell_of_block kO 1
            have y2 : wf.cell? ⟨NO, 2, none⟩ = some (.slice none 0 0) := Go.Joins.cell_of_block kO 2
            have g0 : wf.frozen? ⟨NO, 0, none⟩ = false := Go.Joins.unfrozen_of_block kO 0
            have g1 : wf.frozen? ⟨NO, 1, none⟩ = false := Go.Joins.unfrozen_of_block kO 1
            have g2 : wf.frozen? ⟨NO, 2, none⟩ = false := Go.Joins.unfrozen_of_block kO 2
            have HKO := hid kO
            clear kO
            go_simp
            clear y0 y1 y2 g0 g1 g2
            have q0 := (Go.Joins.block_setCell (i := 2) (Go.Joins.block_setCell (i := 1) (Go.Joins.block_setCell (i := 0) HKO.out (.int .i64 R)) (.int .i64 C)) (.slice (some ⟨b', 0, none⟩) n n))
            have oz := (own_set (own_set (own_set ow ⟨NO, 0, none⟩ (.int .i64 R) nOb) ⟨NO, 1, none⟩ (.int .i64 C) nOb) ⟨NO, 2, none⟩ (.slice (some ⟨b', 0, none⟩) n n) nOb)
            have bz := (((belD.setCell (p := ⟨NO, 0, none⟩) lmO (.int .i64 R)).setCell (p := ⟨NO, 1, none⟩) lmO (.int .i64 C)).setCell (p := ⟨NO, 2, none⟩) lmO (.slice (some ⟨b', 0, none⟩) n n))
            have fz1 := (((kF.setOther ⟨NO, 0, none⟩ (.int .i64 R) (Ne.symm nOF)).setOther ⟨NO, 1, none⟩ (.int .i64 C) (Ne.symm nOF)).setOther ⟨NO, 2, none⟩ (.slice (some ⟨b', 0, none⟩) n n) (Ne.symm nOF))
            obtain ⟨W5, hW5⟩ : ∃ W5, W5 = (((wf.setCell ⟨NO, 0, none⟩ (.int .i64 R)).setCell ⟨NO, 1, none⟩ (.int .i64 C)).setCell ⟨NO, 2, none⟩ (.slice (some ⟨b', 0, none⟩) n n)) := ⟨_, rfl⟩
            rw [← hW5] at q0 oz bz fz1
            have kO : W5.heap[NO]? = some (Obj.cells #[.int .i64 R, .int .i64 C, .slice (some ⟨b', 0, none⟩) n n] 26) := q0
            clear ow belD kF q0 HKO
            have ow := oz
            have belD := bz
            have kF := fz1
            clear oz bz fz1
            refine hK.out _ _ ?_ (fun hHeld2 => ?_)
            · (try dsimp only); rw [← hW5]; exact next3_0 belD HD0.out
            clear hK K hHeld
            (try dsimp only at hHeld2)
            simp only [← hW5] at hHeld2 ⊢
            clear hW5
            have hHeld := hHeld2
            clear hHeld2
            (try simp only [Act.put, List.setIfInBounds_toArray, List.set_cons_zero, List.set_cons_succ, List.getElem_toArray, List.getElem_cons_succ, List.getElem_cons_zero])
            refine wpAnyH_ready (rs := [9]) ?_ (by simp) ?_
            · decide +kernel
            refine AllReadyH.cons rfl (fun K hK => ?_) AllReadyH.nil
            refine step_storeA rfl 140 _ _ rfl NF (cellsA (fzL zs R C rd (R + 2))) rfl rfl 140 _ kF (by rw [cellsA_size, fzL_len]; kernel_rfl) (by rw [cellsA_size, cellsA_size, fzL_len, List.length_replicate]) (cellsA_one _) ?_
            have q1 := setRow_heap _ NF _ (cellsA (fzL zs R C rd (R + 2))) 140 (0, 0) kF
            have q2 := (setRow_other W5 NF NO (cellsA (fzL zs R C rd (R + 2))) nOF).trans kO
            have q3 := ow.grown (grown_setRow W5 NF (cellsA (fzL zs R C rd (R + 2)))) (by simp; exact nFb)
            have q4 := below_setRow (cs := (cellsA (fzL zs R C rd (R + 2)))) belD lmF
            obtain ⟨W6, hW6⟩ : ∃ W6, W6 = W5.setRow NF (cellsA (fzL zs R C rd (R + 2))) := ⟨_, rfl⟩
            rw [← hW6] at q1 q2 q3 q4 ⊢
            clear hW6 kF kO ow belD
            refine hK.out _ _ ?_ (fun hHeld2 => ?_)
            · (try dsimp only); exact next3_0 q4 HD0.out
            clear hK K hHeld
            have hfin : (Below w.heap.size w W6 ∧ W6.cell? ⟨N, 0, none⟩ = some (.int .i64 R) ∧ W6.cell? ⟨N, 1, none⟩ = some (.int .i64 C) ∧ W6.cell? ⟨N, 2, none⟩ = some (.slice (some ⟨b, off, none⟩) n cap)) ∧ AB 123 W6 TB (tabL xs ys xs.length ys.length) ∧ W6.heap[NT]? = some (Obj.cells #[.int .i64 0, .int .i64 0, .slice none 0 0] 26) ∧ W6.heap[NO]? = some (Obj.cells #[.int .i64 R, .int .i64 C, .slice (some ⟨b', 0, none⟩) n n] 26) ∧ AB 140 W6 NF (fzL zs R C rd (R + 2)) ∧ Own 2 W6 b' (.slice (some ⟨b', 0, none⟩) n n) (List.replicate n 0) ∧ w.heap.size ≤ b' ∧ (NT ≠ b' ∧ NO ≠ b' ∧ NF ≠ b' ∧ TB ≠ b' ∧ N ≠ b' ∧ b ≠ b') := ⟨⟨(next3_0 q4 HD0.out).1, (next3_0 q4 HD0.out).2.1, (next3_0 q4 HD0.out).2.2.1, (next3_0 q4 HD0.out).2.2.2.1⟩, HTB.out.keep q4, heap_keep q4 HKT.out, q2, q1, q3, Nat.le_trans HD0.out.1.size lob, Nat.ne_of_lt (Nat.lt_of_lt_of_le (heap_lt HKT.out) lob), nOb, nFb, Nat.ne_of_lt (Nat.lt_of_lt_of_le (AB.lt HTB.out) lob), Nat.ne_of_lt (Nat.lt_of_lt_of_le (World.block_lt_of_cell? _ _ HD0.out.2.1) lob), Nat.ne_of_lt (Nat.lt_of_lt_of_le (Nat.lt_of_lt_of_le HB0.out HD0.out.1.size) lob)⟩
            have HF := hid hfin
            clear hfin q1 q2 q3 q4
            have hHeld := hHeld2
            clear hHeld2
            (try simp only [Act.put, List.setIfInBounds_toArray, List.set_cons_zero, List.set_cons_succ, List.getElem_toArray, List.getElem_cons_succ, List.getElem_cons_zero])
            refine wpAnyH_done (by kernel_rfl) ?_ _
            clear hHeld
            go_wp2_with fail
            go_meet
            case rel => exact ⟨NO, NF, b', rfl, rfl, HF.out⟩
        · go_simp
          have bel := below1 we (Obj.cells Try.zeroCells140 140)
          have lmS := belD.size
          replace belD := belD.trans (bel.mono belD.size)
          have nOF0 := heap_lt kO
          replace kO := heap_keep bel kO
          refine hK.out _ _ ?_ (fun hHeld2 => ?_)
          · (try dsimp only); exact next3_0 belD HD0.out
          clear hK K hHeld bel
          obtain ⟨vF, hWa⟩ : ∃ vF, vF = we.alloc (Obj.cells Try.zeroCells140 140) := ⟨_, rfl⟩
          obtain ⟨NF, hNa⟩ : ∃ NF, NF = we.heap.size := ⟨_, rfl⟩
          have kF : AB 140 vF NF (List.replicate 676 0) := by unfold AB; rw [hWa, ← HZZ.out]; exact FNew.heap_top hNa
          have lmF : wD.heap.size ≤ NF := by rw [hNa]; exact lmS
          clear lmS
          have nOF : NO ≠ NF := by rw [hNa]; exact Nat.ne_of_lt nOF0
          clear nOF0
          rw [← hWa] at belD kO
          (try dsimp only at hHeld2)
          simp only [← hWa, ← hNa] at hHeld2 ⊢
          clear hWa hNa
          have hHeld := hHeld2
          clear hHeld2
          (try simp only [Act.put, List.setIfInBounds_toArray, List.set_cons_zero, List.set_cons_succ, List.getElem_toArray, List.getElem_cons_succ, List.getElem_cons_zero])
          refine wpAnyH_ready (rs := [2]) ?_ (by simp) ?_
          · decide +kernel
          refine AllReadyH.cons rfl (fun K hK => ?_) AllReadyH.nil
          go_simp
          go_at_call 124
          refine (FNew.emptyField HN.out HLE.out).mono ?_
          rintro e wm ⟨b', rfl, ow0, lo, bel⟩
          have lob : wD.heap.size ≤ b' := Nat.le_trans belD.size lo
          have nOb : NO ≠ b' := Nat.ne_of_lt (Nat.lt_of_lt_of_le (heap_lt kO) lo)
          have nFb : NF ≠ b' := Nat.ne_of_lt (Nat.lt_of_lt_of_le (AB.lt kF) lo)
          replace belD := belD.trans (bel.mono belD.size)
          replace kO := heap_keep bel kO
          replace kF := kF.keep bel
          refine hK.out _ _ ?_ (fun hHeld2 => ?_)
          · (try dsimp only); exact next3_0 belD HD0.out
          clear hK K hHeld bel
          clear lo
          have ow := ow0
          clear ow0
          have hHeld := hHeld2
          clear hHeld2
          (try simp only [Act.put, List.setIfInBounds_toArray, List.set_cons_zero, List.set_cons_succ, List.getElem_toArray, List.getElem_cons_succ, List.getElem_cons_zero])
          refine wpAnyH_ready (rs := [5]) ?_ (by simp) ?_
          · decide +kernel
          refine AllReadyH.cons rfl (fun K hK => ?_) AllReadyH.nil
          go_simp
          go_at_call 125
          refine (Frm.framed (HRD.out.keep belD (Nat.le_refl _)) HQ.out HN.out).mono ?_
          rintro e wf ⟨rfl, bel⟩
          replace belD := belD.trans (bel.mono belD.size)
          replace kO := heap_keep bel kO
          replace kF := kF.keep bel
          replace ow := ow.keep bel
          refine hK.out _ _ ?_ (fun hHeld2 => ?_)
          · (try dsimp only); exact next3_0 belD HD0.out
          clear hK K hHeld bel
          have hHeld := hHeld2
          clear hHeld2
          (try simp only [Act.put, List.setIfInBounds_toArray, List.set_cons_zero, List.set_cons_succ, List.getElem_toArray, List.getElem_cons_succ, List.getElem_cons_zero])
          refine wpAnyH_ready (rs := [8]) ?_ (by simp) ?_
          · decide +kernel
          refine AllReadyH.cons rfl (fun K hK => ?_) AllReadyH.nil
          have y0 : wf.cell? ⟨NO, 0, none⟩ = some (.int .i64 0) := Go.Joins.cell_of_block kO 0
          have y1 : wf.cell? ⟨NO, 1, none⟩ = some (.int .i64 0) := Go.Joins.cell_of_block kO 1
          have y2 : wf.cell? ⟨NO, 2, none⟩ = some (.slice none 0 0) := Go.Joins.cell_of_block kO 2
          have g0 : wf.frozen? ⟨NO, 0, none⟩ = false := Go.Joins.unfrozen_of_block kO 0
          have g1 : wf.frozen? ⟨NO, 1, none⟩ = false := Go.Joins.unfrozen_of_block kO 1
          have g2 : wf.frozen? ⟨NO, 2, none⟩ = false := Go.Joins.unfrozen_of_block kO 2
          have HKO := hid kO
          clear kO
          go_simp
          clear y0 y1 y2 g0 g1 g2
          have q0 := (Go.Joins.block_setCell (i := 2) (Go.Joins.block_setCell (i := 1) (Go.Joins.block_setCell (i := 0) HKO.out (.int .i64 R)) (.int .i64 C)) (.slice (some ⟨b', 0, none⟩) n n))
          have oz := (own_set (own_set (own_set ow ⟨NO, 0, none⟩ (.int .i64 R) nOb) ⟨NO, 1, none⟩ (.int .i64 C) nOb) ⟨NO, 2, none⟩ (.slice (some ⟨b', 0, none⟩) n n) nOb)
          have bz := (((belD.setCell (p := ⟨NO, 0, none⟩) lmO (.int .i64 R)).setCell (p := ⟨NO, 1, none⟩) lmO (.int .i64 C)).setCell (p := ⟨NO, 2, none⟩) lmO (.slice (some ⟨b', 0, none⟩) n n))
          have fz1 := (((kF.setOther ⟨NO, 0, none⟩ (.int .i64 R) (Ne.symm nOF)).setOther ⟨NO, 1, none⟩ (.int .i64 C) (Ne.symm nOF)).setOther ⟨NO, 2, none⟩ (.slice (some ⟨b', 0, none⟩) n n) (Ne.symm nOF))
          obtain ⟨W5, hW5⟩ : ∃ W5, W5 = (((wf.setCell ⟨NO, 0, none⟩ (.int .i64 R)).setCell ⟨NO, 1, none⟩ (.int .i64 C)).setCell ⟨NO, 2, none⟩ (.slice (some ⟨b', 0, none⟩) n n)) := ⟨_, rfl⟩
          rw [← hW5] at q0 oz bz fz1
          have kO : W5.heap[NO]? = some (Obj.cells #[.int .i64 R, .int .i64 C, .slice (some ⟨b', 0, none⟩) n n] 26) := q0
          clear ow belD kF q0 HKO
          have ow := oz
          have belD := bz
          have kF := fz1
          clear oz bz fz1
          refine hK.out _ _ ?_ (fun hHeld2 => ?_)
          · (try dsimp only); rw [← hW5]; exact next3_0 belD HD0.out
          clear hK K hHeld
          (try dsimp only at hHeld2)
          simp only [← hW5] at hHeld2 ⊢
          clear hW5
          have hHeld := hHeld2
          clear hHeld2
          (try simp only [Act.put, List.setIfInBounds_toArray, List.set_cons_zero, List.set_cons_succ, List.getElem_toArray, List.getElem_cons_succ, List.getElem_cons_zero])
          refine wpAnyH_ready (rs := [9]) ?_ (by simp) ?_
          · decide +kernel
          refine AllReadyH.cons rfl (fun K hK => ?_) AllReadyH.nil
          refine step_storeA rfl 140 _ _ rfl NF (cellsA (fzL zs R C rd (R + 2))) rfl rfl 140 _ kF (by rw [cellsA_size, fzL_len]; kernel_rfl) (by rw [cellsA_size, cellsA_size, fzL_len, List.length_replicate]) (cellsA_one _) ?_
          have q1 := setRow_heap _ NF _ (cellsA (fzL zs R C rd (R + 2))) 140 (0, 0) kF
          have q2 := (setRow_other W5 NF NO (cellsA (fzL zs R C rd (R + 2))) nOF).trans kO
          have q3 := ow.grown (grown_setRow W5 NF (cellsA (fzL zs R C rd (R + 2)))) (by simp; exact nFb)
          have q4 := below_setRow (cs := (cellsA (fzL zs R C rd (R + 2)))) belD lmF
          obtain ⟨W6, hW6⟩ : ∃ W6, W6 = W5.setRow NF (cellsA (fzL zs R C rd (R + 2))) := ⟨_, rfl⟩
          rw [← hW6] at q1 q2 q3 q4 ⊢
          clear hW6 kF kO ow belD
          refine hK.out _ _ ?_ (fun hHeld2 => ?_)
          · (try dsimp only); exact next3_0 q4 HD0.out
          clear hK K hHeld
          have hfin : (Below w.heap.size w W6 ∧ W6.cell? ⟨N, 0, none⟩ = some (.int .i64 R) ∧ W6.cell? ⟨N, 1, none⟩ = some (.int .i64 C) ∧ W6.cell? ⟨N, 2, none⟩ = some (.slice (some ⟨b, off, none⟩) n cap)) ∧ AB 123 W6 TB (tabL xs ys xs.length ys.length) ∧ W6.heap[NT]? = some (Obj.cells #[.int .i64 0, .int .i64 0, .slice none 0 0] 26) ∧ W6.heap[NO]? = some (Obj.cells #[.int .i64 R, .int .i64 C, .slice (some ⟨b', 0, none⟩) n n] 26) ∧ AB 140 W6 NF (fzL zs R C rd (R + 2)) ∧ Own 2 W6 b' (.slice (some ⟨b', 0, none⟩) n n) (List.replicate n 0) ∧ w.heap.size ≤ b' ∧ (NT ≠ b' ∧ NO ≠ b' ∧ NF ≠ b' ∧ TB ≠ b' ∧ N ≠ b' ∧ b ≠ b') := ⟨⟨(next3_0 q4 HD0.out).1, (next3_0 q4 HD0.out).2.1, (next3_0 q4 HD0.out).2.2.1, (next3_0 q4 HD0.out).2.2.2.1⟩, HTB.out.keep q4, heap_keep q4 HKT.out, q2, q1, q3, Nat.le_trans HD0.out.1.size lob, Nat.ne_of_lt (Nat.lt_of_lt_of_le (heap_lt HKT.out) lob), nOb, nFb, Nat.ne_of_lt (Nat.lt_of_lt_of_le (AB.lt HTB.out) lob), Nat.ne_of_lt (Nat.lt_of_lt_of_le (World.block_lt_of_cell? _ _ HD0.out.2.1) lob), Nat.ne_of_lt (Nat.lt_of_lt_of_le (Nat.lt_of_lt_of_le HB0.out HD0.out.1.size) lob)⟩
          have HF := hid hfin
          clear hfin q1 q2 q3 q4
          have hHeld := hHeld2
          clear hHeld2
          (try simp only [Act.put, List.setIfInBounds_toArray, List.set_cons_zero, List.set_cons_succ, List.getElem_toArray, List.getElem_cons_succ, List.getElem_cons_zero])
          refine wpAnyH_done (by kernel_rfl) ?_ _
          clear hHeld
          go_wp2_with fail
          go_meet
          case rel => exact ⟨NO, NF, b', rfl, rfl, HF.out⟩
      · go_simp
        have bel := below1 vO (Obj.cells Try.zeroCells140 140)
        have lmS := belD.size
        replace belD := belD.trans (bel.mono belD.size)
        have nOF0 := heap_lt kO
        replace kO := heap_keep bel kO
        refine hK.out _ _ ?_ (fun hHeld2 => ?_)
        · (try dsimp only); exact next3_0 belD HD0.out
        clear hK K hHeld bel
        obtain ⟨vF, hWa⟩ : ∃ vF, vF = vO.alloc (Obj.cells Try.zeroCells140 140) := ⟨_, rfl⟩
        obtain ⟨NF, hNa⟩ : ∃ NF, NF = vO.heap.size := ⟨_, rfl⟩
        have kF : AB 140 vF NF (List.replicate 676 0) := by unfold AB; rw [hWa, ← HZZ.out]; exact FNew.heap_top hNa
        have lmF : wD.heap.size ≤ NF := by rw [hNa]; exact lmS
        clear lmS
        have nOF : NO ≠ NF := by rw [hNa]; exact Nat.ne_of_lt nOF0
        clear nOF0
        rw [← hWa] at belD kO
        (try dsimp only at hHeld2)
        simp only [← hWa, ← hNa] at hHeld2 ⊢
        clear hWa hNa
        have hHeld := hHeld2
        clear hHeld2
        (try simp only [Act.put, List.setIfInBounds_toArray, List.set_cons_zero, List.set_cons_succ, List.getElem_toArray, List.getElem_cons_succ, List.getElem_cons_zero])
        refine wpAnyH_ready (rs := [1]) ?_ (by simp) ?_
        · decide +kernel
        refine AllReadyH.cons rfl (fun K hK => ?_) AllReadyH.nil
        go_simp
        go_at_call 91
        refine extentOf.mono ?_
        rintro e we ⟨rfl, bel⟩
        replace belD := belD.trans (bel.mono belD.size)
        replace kO := heap_keep bel kO
        replace kF := kF.keep bel
        refine hK.out _ _ ?_ (fun hHeld2 => ?_)
        · (try dsimp only); exact next3_0 belD HD0.out
        clear hK K hHeld bel
        have hHeld := hHeld2
        clear hHeld2
        (try simp only [Act.put, List.setIfInBounds_toArray, List.set_cons_zero, List.set_cons_succ, List.getElem_toArray, List.getElem_cons_succ, List.getElem_cons_zero])
        refine wpAnyH_ready (rs := [2]) ?_ (by simp) ?_
        · decide +kernel
        refine AllReadyH.cons rfl (fun K hK => ?_) AllReadyH.nil
        go_simp
        go_at_call 124
        refine (FNew.emptyField HN.out HLE.out).mono ?_
        rintro e wm ⟨b', rfl, ow0, lo, bel⟩
        have lob : wD.heap.size ≤ b' := Nat.le_trans belD.size lo
        have nOb : NO ≠ b' := Nat.ne_of_lt (Nat.lt_of_lt_of_le (heap_lt kO) lo)
        have nFb : NF ≠ b' := Nat.ne_of_lt (Nat.lt_of_lt_of_le (AB.lt kF) lo)
        replace belD := belD.trans (bel.mono belD.size)
        replace kO := heap_keep bel kO
        replace kF := kF.keep bel
        refine hK.out _ _ ?_ (fun hHeld2 => ?_)
        · (try dsimp only); exact next3_0 belD HD0.out
        clear hK K hHeld bel
        clear lo
        have ow := ow0
        clear ow0
        have hHeld := hHeld2
        clear hHeld2
        (try simp only [Act.put, List.setIfInBounds_toArray, List.set_cons_zero, List.set_cons_succ, List.getElem_toArray, List.getElem_cons_succ, List.getElem_cons_zero])
        refine wpAnyH_ready (rs := [5]) ?_ (by simp) ?_
        · decide +kernel
        refine AllReadyH.cons rfl (fun K hK => ?_) AllReadyH.nil
        go_simp
        go_at_call 125
        refine (Frm.framed (HRD.out.keep belD (Nat.le_refl _)) HQ.out HN.out).mono ?_
        rintro e wf ⟨rfl, bel⟩
        replace belD := belD.trans (bel.mono belD.size)
        replace kO := heap_keep bel kO
        replace kF := kF.keep bel
        replace ow := ow.keep bel
        refine hK.out _ _ ?_ (fun hHeld2 => ?_)
        · (try dsimp only); exact next3_0 belD HD0.out
        clear hK K hHeld bel
        have hHeld := hHeld2
        clear hHeld2
        (try simp only [Act.put, List.setIfInBounds_toArray, List.set_cons_zero, List.set_cons_succ, List.getElem_toArray, List.getElem_cons_succ, List.getElem_cons_zero])
        refine wpAnyH_ready (rs := [8]) ?_ (by simp) ?_
        · decide +kernel
        refine AllReadyH.cons rfl (fun K hK => ?_) AllReadyH.nil
        have y0 : wf.cell? ⟨NO, 0, none⟩ = some (.int .i64 0) := Go.Joins.cell_of_block kO 0
        have y1 : wf.cell? ⟨NO, 1, none⟩ = some (.int .i64 0) := Go.Joins.cell_of_block kO 1
        have y2 : wf.cell? ⟨NO, 2, none⟩ = some (.slice none 0 0) := Go.Joins.cell_of_block kO 2
        have g0 : wf.frozen? ⟨NO, 0, none⟩ = false := Go.Joins.unfrozen_of_block kO 0
        have g1 : wf.frozen? ⟨NO, 1, none⟩ = false := Go.Joins.unfrozen_of_block kO 1
        have g2 : wf.frozen? ⟨NO, 2, none⟩ = false := Go.Joins.unfrozen_of_block kO 2
        have HKO := hid kO
        clear kO
        go_simp
        clear y0 y1 y2 g0 g1 g2
        have q0 := (Go.Joins.block_setCell (i := 2) (Go.Joins.block_setCell (i := 1) (Go.Joins.block_setCell (i := 0) HKO.out (.int .i64 R)) (.int .i64 C)) (.slice (some ⟨b', 0, none⟩) n n))
        have oz := (own_set (own_set (own_set ow ⟨NO, 0, none⟩ (.int .i64 R) nOb) ⟨NO, 1, none⟩ (.int .i64 C) nOb) ⟨NO, 2, none⟩ (.slice (some ⟨b', 0, none⟩) n n) nOb)
        have bz := (((belD.setCell (p := ⟨NO, 0, none⟩) lmO (.int .i64 R)).setCell (p := ⟨NO, 1, none⟩) lmO (.int .i64 C)).setCell (p := ⟨NO, 2, none⟩) lmO (.slice (some ⟨b', 0, none⟩) n n))
        have fz1 := (((kF.setOther ⟨NO, 0, none⟩ (.int .i64 R) (Ne.symm nOF)).setOther ⟨NO, 1, none⟩ (.int .i64 C) (Ne.symm nOF)).setOther ⟨NO, 2, none⟩ (.slice (some ⟨b', 0, none⟩) n n) (Ne.symm nOF))
        obtain ⟨W5, hW5⟩ : ∃ W5, W5 = (((wf.setCell ⟨NO, 0, none⟩ (.int .i64 R)).setCell ⟨NO, 1, none⟩ (.int .i64 C)).setCell ⟨NO, 2, none⟩ (.slice (some ⟨b', 0, none⟩) n n)) := ⟨_, rfl⟩
        rw [← hW5] at q0 oz bz fz1
        have kO : W5.heap[NO]? = some (Obj.cells #[.int .i64 R, .int .i64 C, .slice (some ⟨b', 0, none⟩) n n] 26) := q0
        clear ow belD kF q0 HKO
        have ow := oz
        have belD := bz
        have kF := fz1
        clear oz bz fz1
        refine hK.out _ _ ?_ (fun hHeld2 => ?_)
        · (try dsimp only); rw [← hW5]; exact next3_0 belD HD0.out
        clear hK K hHeld
        (try dsimp only at hHeld2)
        simp only [← hW5] at hHeld2 ⊢
        clear hW5
        have hHeld := hHeld2
        clear hHeld2
        (try simp only [Act.put, List.setIfInBounds_toArray, List.set_cons_zero, List.set_cons_succ, List.getElem_toArray, List.getElem_cons_succ, List.getElem_cons_zero])
        refine wpAnyH_ready (rs := [9]) ?_ (by simp) ?_
        · decide +kernel
        refine AllReadyH.cons rfl (fun K hK => ?_) AllReadyH.nil
        refine step_storeA rfl 140 _ _ rfl NF (cellsA (fzL zs R C rd (R + 2))) rfl rfl 140 _ kF (by rw [cellsA_size, fzL_len]; kernel_rfl) (by rw [cellsA_size, cellsA_size, fzL_len, List.length_replicate]) (cellsA_one _) ?_
        have q1 := setRow_heap _ NF _ (cellsA (fzL zs R C rd (R + 2))) 140 (0, 0) kF
        have q2 := (setRow_other W5 NF NO (cellsA (fzL zs R C rd (R + 2))) nOF).trans kO
        have q3 := ow.grown (grown_setRow W5 NF (cellsA (fzL zs R C rd (R + 2)))) (by simp; exact nFb)
        have q4 := below_setRow (cs := (cellsA (fzL zs R C rd (R + 2)))) belD lmF
        obtain ⟨W6, hW6⟩ : ∃ W6, W6 = W5.setRow NF (cellsA (fzL zs R C rd (R + 2))) := ⟨_, rfl⟩
        rw [← hW6] at q1 q2 q3 q4 ⊢
        clear hW6 kF kO ow belD
        refine hK.out _ _ ?_ (fun hHeld2 => ?_)
        · (try dsimp only); exact next3_0 q4 HD0.out
        clear hK K hHeld
        have hfin : (Below w.heap.size w W6 ∧ W6.cell? ⟨N, 0, none⟩ = some (.int .i64 R) ∧ W6.cell? ⟨N, 1, none⟩ = some (.int .i64 C) ∧ W6.cell? ⟨N, 2, none⟩ = some (.slice (some ⟨b, off, none⟩) n cap)) ∧ AB 123 W6 TB (tabL xs ys xs.length ys.length) ∧ W6.heap[NT]? = some (Obj.cells #[.int .i64 0, .int .i64 0, .slice none 0 0] 26) ∧ W6.heap[NO]? = some (Obj.cells #[.int .i64 R, .int .i64 C, .slice (some ⟨b', 0, none⟩) n n] 26) ∧ AB 140 W6 NF (fzL zs R C rd (R + 2)) ∧ Own 2 W6 b' (.slice (some ⟨b', 0, none⟩) n n) (List.replicate n 0) ∧ w.heap.size ≤ b' ∧ (NT ≠ b' ∧ NO ≠ b' ∧ NF ≠ b' ∧ TB ≠ b' ∧ N ≠ b' ∧ b ≠ b') := ⟨⟨(next3_0 q4 HD0.out).1, (next3_0 q4 HD0.out).2.1, (next3_0 q4 HD0.out).2.2.1, (next3_0 q4 HD0.out).2.2.2.1⟩, HTB.out.keep q4, heap_keep q4 HKT.out, q2, q1, q3, Nat.le_trans HD0.out.1.size lob, Nat.ne_of_lt (Nat.lt_of_lt_of_le (heap_lt HKT.out) lob), nOb, nFb, Nat.ne_of_lt (Nat.lt_of_lt_of_le (AB.lt HTB.out) lob), Nat.ne_of_lt (Nat.lt_of_lt_of_le (World.block_lt_of_cell? _ _ HD0.out.2.1) lob), Nat.ne_of_lt (Nat.lt_of_lt_of_le (Nat.lt_of_lt_of_le HB0.out HD0.out.1.size) lob)⟩
        have HF := hid hfin
        clear hfin q1 q2 q3 q4
        have hHeld := hHeld2
        clear hHeld2
        (try simp only [Act.put, List.setIfInBounds_toArray, List.set_cons_zero, List.set_cons_succ, List.getElem_toArray, List.getElem_cons_succ, List.getElem_cons_zero])
        refine wpAnyH_done (by kernel_rfl) ?_ _
        clear hHeld
        go_wp2_with fail
        go_meet
        case rel => exact ⟨NO, NF, b', rfl, rfl, HF.out⟩
    · go_simp
      have bel := below1 wD (Obj.cells Try.zeroCells140 140)
      have lmS := belD.size
      replace belD := belD.trans (bel.mono belD.size)
      refine hK.out _ _ ?_ (fun hHeld2 => ?_)
      · (try dsimp only); exact next3_0 belD HD0.out
      clear hK K hHeld bel
      obtain ⟨vF, hWa⟩ : ∃ vF, vF = wD.alloc (Obj.cells Try.zeroCells140 140) := ⟨_, rfl⟩
      obtain ⟨NF, hNa⟩ : ∃ NF, NF = wD.heap.size := ⟨_, rfl⟩
      have kF : AB 140 vF NF (List.replicate 676 0) := by unfold AB; rw [hWa, ← HZZ.out]; exact FNew.heap_top hNa
      have lmF : wD.heap.size ≤ NF := by rw [hNa]; exact lmS
      clear lmS
      rw [← hWa] at belD
      (try dsimp only at hHeld2)
      simp only [← hWa, ← hNa] at hHeld2 ⊢
      clear hWa hNa
      have hHeld := hHeld2
      clear hHeld2
      (try simp only [Act.put, List.setIfInBounds_toArray, List.set_cons_zero, List.set_cons_succ, List.getElem_toArray, List.getElem_cons_succ, List.getElem_cons_zero])
      refine wpAnyH_ready (rs := [1, 6]) ?_ (by simp) ?_
      · decide +kernel
      refine AllReadyH.cons rfl (fun K hK => ?_) (AllReadyH.cons rfl (fun K hK => ?_) AllReadyH.nil)
      · go_simp
        go_at_call 91
        refine extentOf.mono ?_
        rintro e we ⟨rfl, bel⟩
        replace belD := belD.trans (bel.mono belD.size)
        replace kF := kF.keep bel
        refine hK.out _ _ ?_ (fun hHeld2 => ?_)
        · (try dsimp only); exact next3_0 belD HD0.out
        clear hK K hHeld bel
        have hHeld := hHeld2
        clear hHeld2
        (try simp only [Act.put, List.setIfInBounds_toArray, List.set_cons_zero, List.set_cons_succ, List.getElem_toArray, List.getElem_cons_succ, List.getElem_cons_zero])
        refine wpAnyH_ready (rs := [2, 6]) ?_ (by simp) ?_
        · decide +kernel
        refine AllReadyH.cons rfl (fun K hK => ?_) (AllReadyH.cons rfl (fun K hK => ?_) AllReadyH.nil)
        · go_simp
          go_at_call 124
          refine (FNew.emptyField HN.out HLE.out).mono ?_
          rintro e wm ⟨b', rfl, ow0, lo, bel⟩
          have lob : wD.heap.size ≤ b' := Nat.le_trans belD.size lo
          have nFb : NF ≠ b' := Nat.ne_of_lt (Nat.lt_of_lt_of_le (AB.lt kF) lo)
          replace belD := belD.trans (bel.mono belD.size)
          replace kF := kF.keep bel
          refine hK.out _ _ ?_ (fun hHeld2 => ?_)
          · (try dsimp only); exact next3_0 belD HD0.out
          clear hK K hHeld bel
          clear lo
          have ow := ow0
          clear ow0
          have hHeld := hHeld2
          clear hHeld2
          (try simp only [Act.put, List.setIfInBounds_toArray, List.set_cons_zero, List.set_cons_succ, List.getElem_toArray, List.getElem_cons_succ, List.getElem_cons_zero])
          refine wpAnyH_ready (rs := [5, 6]) ?_ (by simp) ?_
          · decide +kernel
          refine AllReadyH.cons rfl (fun K hK => ?_) (AllReadyH.cons rfl (fun K hK => ?_) AllReadyH.nil)
          · go_simp
            go_at_call 125
            refine (Frm.framed (HRD.out.keep belD (Nat.le_refl _)) HQ.out HN.out).mono ?_
            rintro e wf ⟨rfl, bel⟩
            replace belD := belD.trans (bel.mono belD.size)
            replace kF := kF.keep bel
            replace ow := ow.keep bel
            refine hK.out _ _ ?_ (fun hHeld2 => ?_)
            · (try dsimp only); exact next3_0 belD HD0.out
            clear hK K hHeld bel
            have hHeld := hHeld2
            clear hHeld2
            (try simp only [Act.put, List.setIfInBounds_toArray, List.set_cons_zero, List.set_cons_succ, List.getElem_toArray, List.getElem_cons_succ, List.getElem_cons_zero])
            refine wpAnyH_ready (rs := [6]) ?_ (by simp) ?_
            · decide +kernel
            refine AllReadyH.cons rfl (fun K hK => ?_) AllReadyH.nil
            go_simp
            have bel := below1 wf (Obj.cells #[.int .i64 0, .int .i64 0, .slice none 0 0] 26)
            have lmS := belD.size
            replace belD := belD.trans (bel.mono belD.size)
            have nOb0 := Nat.ne_of_gt ow.lt
            have nFO0 := AB.lt kF
            replace kF := kF.keep bel
            replace ow := ow.keep bel
            refine hK.out _ _ ?_ (fun hHeld2 => ?_)
            · (try dsimp only); exact next3_0 belD HD0.out
            clear hK K hHeld bel
            obtain ⟨vO, hWa⟩ : ∃ vO, vO = wf.alloc (Obj.cells #[.int .i64 0, .int .i64 0, .slice none 0 0] 26) := ⟨_, rfl⟩
            obtain ⟨NO, hNa⟩ : ∃ NO, NO = wf.heap.size := ⟨_, rfl⟩
            have kO : vO.heap[NO]? = some (Obj.cells #[.int .i64 0, .int .i64 0, .slice none 0 0] 26) := by rw [hWa]; exact FNew.heap_top hNa
            have lmO : wD.heap.size ≤ NO := by rw [hNa]; exact lmS
            clear lmS
            have nOb : NO ≠ b' := by rw [hNa]; exact nOb0
            clear nOb0
            have nOF : NO ≠ NF := by rw [hNa]; exact Nat.ne_of_gt nFO0
            clear nFO0
            rw [← hWa] at belD kF ow
            (try dsimp only at hHeld2)
            simp only [← hWa, ← hNa] at hHeld2 ⊢
            clear hWa hNa
            have hHeld := hHeld2
            clear hHeld2
            (try simp only [Act.put, List.setIfInBounds_toArray, List.set_cons_zero, List.set_cons_succ, List.getElem_toArray, List.getElem_cons_succ, List.getElem_cons_zero])
            refine wpAnyH_ready (rs := [8]) ?_ (by simp) ?_
            · decide +kernel
            refine AllReadyH.cons rfl (fun K hK => ?_) AllReadyH.nil
            have y0 : vO.cell? ⟨NO, 0, none⟩ = some (.int .i64 0) := Go.Joins.cell_of_block kO 0
            have y1 : vO.cell? ⟨NO, 1, none⟩ = some (.int .i64 0) := Go.Joins.cell_of_block kO 1
            have y2 : vO.cell? ⟨NO, 2, none⟩ = some (.slice none 0 0) := Go.Joins.cell_of_block kO 2
            have g0 : vO.frozen? ⟨NO, 0, none⟩ = false := Go.Joins.unfrozen_of_block kO 0
            have g1 : vO.frozen? ⟨NO, 1, none⟩ = false := Go.Joins.unfrozen_of_block kO 1
            have g2 : vO.frozen? ⟨NO, 2, none⟩ = false := Go.Joins.unfrozen_of_block kO 2
            have HKO := hid kO
            clear kO
            go_simp
            clear y0 y1 y2 g0 g1 g2
            have q0 := (Go.Joins.block_setCell (i := 2) (Go.Joins.block_setCell (i := 1) (Go.Joins.block_setCell (i := 0) HKO.out (.int .i64 R)) (.int .i64 C)) (.slice (some ⟨b', 0, none⟩) n n))
            have oz := (own_set (own_set (own_set ow ⟨NO, 0, none⟩ (.int .i64 R) nOb) ⟨NO, 1, none⟩ (.int .i64 C) nOb) ⟨NO, 2, none⟩ (.slice (some ⟨b', 0, none⟩) n n) nOb)
            have bz := (((belD.setCell (p := ⟨NO, 0, none⟩) lmO (.int .i64 R)).setCell (p := ⟨NO, 1, none⟩) lmO (.int .i64 C)).setCell (p := ⟨NO, 2, none⟩) lmO (.slice (some ⟨b', 0, none⟩) n n))
            have fz1 := (((kF.setOther ⟨NO, 0, none⟩ (.int .i64 R) (Ne.symm nOF)).setOther ⟨NO, 1, none⟩ (.int .i64 C) (Ne.symm nOF)).setOther ⟨NO, 2, none⟩ (.slice (some ⟨b', 0, none⟩) n n) (Ne.symm nOF))
            obtain ⟨W5, hW5⟩ : ∃ W5, W5 = (((vO.setCell ⟨NO, 0, none⟩ (.int .i64 R)).setCell ⟨NO, 1, none⟩ (.int .i64 C)).setCell ⟨NO, 2, none⟩ (.slice (some ⟨b', 0, none⟩) n n)) := ⟨_, rfl⟩
            rw [← hW5] at q0 oz bz fz1
            have kO : W5.heap[NO]? = some (Obj.cells #[.int .i64 R, .int .i64 C, .slice (some ⟨b', 0, none⟩) n n] 26) := q0
            clear ow belD kF q0 HKO
            have ow := oz
            have belD := bz
            have kF := fz1
            clear oz bz fz1
            refine hK.out _ _ ?_ (fun hHeld2 => ?_)
            · (try dsimp only); rw [← hW5]; exact next3_0 belD HD0.out
            clear hK K hHeld
            (try dsimp only at hHeld2)
            simp only [← hW5] at hHeld2 ⊢
            clear hW5
            have hHeld := hHeld2
            clear hHeld2
            (try simp only [Act.put, List.setIfInBounds_toArray, List.set_cons_zero, List.set_cons_succ, List.getElem_toArray, List.getElem_cons_succ, List.getElem_cons_zero])
            refine wpAnyH_ready (rs := [9]) ?_ (by simp) ?_
            · decide +kernel
            refine AllReadyH.cons rfl (fun K hK => ?_) AllReadyH.nil
            refine step_storeA rfl 140 _ _ rfl NF (cellsA (fzL zs R C rd (R + 2))) rfl rfl 140 _ kF (by rw [cellsA_size, fzL_len]; kernel_rfl) (by rw [cellsA_size, cellsA_size, fzL_len, List.length_replicate]) (cellsA_one _) ?_
            have q1 := setRow_heap _ NF _ (cellsA (fzL zs R C rd (R + 2))) 140 (0, 0) kF
            have q2 := (setRow_other W5 NF NO (cellsA (fzL zs R C rd (R + 2))) nOF).trans kO
            have q3 := ow.grown (grown_setRow W5 NF (cellsA (fzL zs R C rd (R + 2)))) (by simp; exact nFb)
            have q4 := below_setRow (cs := (cellsA (fzL zs R C rd (R + 2)))) belD lmF
            obtain ⟨W6, hW6⟩ : ∃ W6, W6 = W5.setRow NF (cellsA (fzL zs R C rd (R + 2))) := ⟨_, rfl⟩
            rw [← hW6] at q1 q2 q3 q4 ⊢
            clear hW6 kF kO ow belD
            refine hK.out _ _ ?_ (fun hHeld2 => ?_)
            · (try dsimp only); exact next3_0 q4 HD0.out
            clear hK K hHeld
            have hfin : (Below w.heap.size w W6 ∧ W6.cell? ⟨N, 0, none⟩ = some (.int .i64 R) ∧ W6.cell? ⟨N, 1, none⟩ = some (.int .i64 C) ∧ W6.cell? ⟨N, 2, none⟩ = some (.slice (some ⟨b, off, none⟩) n cap)) ∧ AB 123 W6 TB (tabL xs ys xs.length ys.length) ∧ W6.heap[NT]? = some (Obj.cells #[.int .i64 0, .int .i64 0, .slice none 0 0] 26) ∧ W6.heap[NO]? = some (Obj.cells #[.int .i64 R, .int .i64 C, .slice (some ⟨b', 0, none⟩) n n] 26) ∧ AB 140 W6 NF (fzL zs R C rd (R + 2)) ∧ Own 2 W6 b' (.slice (some ⟨b', 0, none⟩) n n) (List.replicate n 0) ∧ w.heap.size ≤ b' ∧ (NT ≠ b' ∧ NO ≠ b' ∧ NF ≠ b' ∧ TB ≠ b' ∧ N ≠ b' ∧ b ≠ b') := ⟨⟨(next3_0 q4 HD0.out).1, (next3_0 q4 HD0.out).2.1, (next3_0 q4 HD0.out).2.2.1, (next3_0 q4 HD0.out).2.2.2.1⟩, HTB.out.keep q4, heap_keep q4 HKT.out, q2, q1, q3, Nat.le_trans HD0.out.1.size lob, Nat.ne_of_lt (Nat.lt_of_lt_of_le (heap_lt HKT.out) lob), nOb, nFb, Nat.ne_of_lt (Nat.lt_of_lt_of_le (AB.lt HTB.out) lob), Nat.ne_of_lt (Nat.lt_of_lt_of_le (World.block_lt_of_cell? _ _ HD0.out.2.1) lob), Nat.ne_of_lt (Nat.lt_of_lt_of_le (Nat.lt_of_lt_of_le HB0.out HD0.out.1.size) lob)⟩
            have HF := hid hfin
            clear hfin q1 q2 q3 q4
            have hHeld := hHeld2
            clear hHeld2
            (try simp only [Act.put, List.setIfInBounds_toArray, List.set_cons_zero, List.set_cons_succ, List.getElem_toArray, List.getElem_cons_succ, List.getElem_cons_zero])
            refine wpAnyH_done (by kernel_rfl) ?_ _
            clear hHeld
            go_wp2_with fail
            go_meet
            case rel => exact ⟨NO, NF, b', rfl, rfl, HF.out⟩
          · go_simp
            have bel := below1 wm (Obj.cells #[.int .i64 0, .int .i64 0, .slice none 0 0] 26)
            have lmS := belD.size
            replace belD := belD.trans (bel.mono belD.size)
            have nOb0 := Nat.ne_of_gt ow.lt
            have nFO0 := AB.lt kF
            replace kF := kF.keep bel
            replace ow := ow.keep bel
            refine hK.out _ _ ?_ (fun hHeld2 => ?_)
            · (try dsimp only); exact next3_0 belD HD0.out
            clear hK K hHeld bel
            obtain ⟨vO, hWa⟩ : ∃ vO, vO = wm.alloc (Obj.cells #[.int .i64 0, .int .i64 0, .slice none 0 0] 26) := ⟨_, rfl⟩
            obtain ⟨NO, hNa⟩ : ∃ NO, NO = wm.heap.size := ⟨_, rfl⟩
            have kO : vO.heap[NO]? = some (Obj.cells #[.int .i64 0, .int .i64 0, .slice none 0 0] 26) := by rw [hWa]; exact FNew.heap_top hNa
            have lmO : wD.heap.size ≤ NO := by rw [hNa]; exact lmS
            clear lmS
            have nOb : NO ≠ b' := by rw [hNa]; exact nOb0
            clear nOb0
            have nOF : NO ≠ NF := by rw [hNa]; exact Nat.ne_of_gt nFO0
            clear nFO0
            rw [← hWa] at belD kF ow
            (try dsimp only at hHeld2)
            simp only [← hWa, ← hNa] at hHeld2 ⊢
            clear hWa hNa
            have hHeld := hHeld2
            clear hHeld2
            (try simp only [Act.put, List.setIfInBounds_toArray, List.set_cons_zero, List.set_cons_succ, List.getElem_toArray, List.getElem_cons_succ, List.getElem_cons_zero])
            refine wpAnyH_ready (rs := [5]) ?_ (by simp) ?_
            · decide +kernel
            refine AllReadyH.cons rfl (fun K hK => ?_) AllReadyH.nil
            go_simp
            go_at_call 125
            refine (Frm.framed (HRD.out.keep belD (Nat.le_refl _)) HQ.out HN.out).mono ?_
            rintro e wf ⟨rfl, bel⟩
            replace belD := belD.trans (bel.mono belD.size)
            replace kF := kF.keep bel
            replace ow := ow.keep bel
            replace kO := heap_keep bel kO
            refine hK.out _ _ ?_ (fun hHeld2 => ?_)
            · (try dsimp only); exact next3_0 belD HD0.out
            clear hK K hHeld bel
            have hHeld := hHeld2
            clear hHeld2
            (try simp only [Act.put, List.setIfInBounds_toArray, List.set_cons_zero, List.set_cons_succ, List.getElem_toArray, List.getElem_cons_succ, List.getElem_cons_zero])
            refine wpAnyH_ready (rs := [8]) ?_ (by simp) ?_
            · decide +kernel
            refine AllReadyH.cons rfl (fun K hK => ?_) AllReadyH.nil
            have y0 : wf.cell? ⟨NO, 0, none⟩ = some (.int .i64 0) := Go.Joins.cell_of_block kO 0
            have y1 : wf.cell? ⟨NO, 1, none⟩ = some (.int .i64 0) := Go.Joins.cell_of_block kO 1
            have y2 : wf.cell? ⟨NO, 2, none⟩ = some (.slice none 0 0) := Go.Joins.cell_of_block kO 2
            have g0 : wf.frozen? ⟨NO, 0, none⟩ = false := Go.Joins.unfrozen_of_block kO 0
            have g1 : wf.frozen? ⟨NO, 1, none⟩ = false := Go.Joins.unfrozen_of_block kO 1
            have g2 : wf.frozen? ⟨NO, 2, none⟩ = false := Go.Joins.unfrozen_of_block kO 2
            have HKO := hid kO
            clear kO
            go_simp
            clear y0 y1 y2 g0 g1 g2
            have q0 := (Go.Joins.block_setCell (i := 2) (Go.Joins.block_setCell (i := 1) (Go.Joins.block_setCell (i := 0) HKO.out (.int .i64 R)) (.int .i64 C)) (.slice (some ⟨b', 0, none⟩) n n))
            have oz := (own_set (own_set (own_set ow ⟨NO, 0, none⟩ (.int .i64 R) nOb) ⟨NO, 1, none⟩ (.int .i64 C) nOb) ⟨NO, 2, none⟩ (.slice (some ⟨b', 0, none⟩) n n) nOb)
            have bz := (((belD.setCell (p := ⟨NO, 0, none⟩) lmO (.int .i64 R)).setCell (p := ⟨NO, 1, none⟩) lmO (.int .i64 C)).setCell (p := ⟨NO, 2, none⟩) lmO (.slice (some ⟨b', 0, none⟩) n n))
            have fz1 := (((kF.setOther ⟨NO, 0, none⟩ (.int .i64 R) (Ne.symm nOF)).setOther ⟨NO, 1, none⟩ (.int .i64 C) (Ne.symm nOF)).setOther ⟨NO, 2, none⟩ (.slice (some ⟨b', 0, none⟩) n n) (Ne.symm nOF))
            obtain ⟨W5, hW5⟩ : ∃ W5, W5 = (((wf.setCell ⟨NO, 0, none⟩ (.int .i64 R)).setCell ⟨NO, 1, none⟩ (.int .i64 C)).setCell ⟨NO, 2, none⟩ (.slice (some ⟨b', 0, none⟩) n n)) := ⟨_, rfl⟩
            rw [← hW5] at q0 oz bz fz1
            have kO : W5.heap[NO]? = some (Obj.cells #[.int .i64 R, .int .i64 C, .slice (some ⟨b', 0, none⟩) n n] 26) := q0
            clear ow belD kF q0 HKO
            have ow := oz
            have belD := bz
            have kF := fz1
            clear oz bz fz1
            refine hK.out _ _ ?_ (fun hHeld2 => ?_)
            · (try dsimp only); rw [← hW5]; exact next3_0 belD HD0.out
            clear hK K hHeld
            (try dsimp only at hHeld2)
            simp only [← hW5] at hHeld2 ⊢
            clear hW5
            have hHeld := hHeld2
            clear hHeld2
            (try simp only [Act.put, List.setIfInBounds_toArray, List.set_cons_zero, List.set_cons_succ, List.getElem_toArray, List.getElem_cons_succ, List.getElem_cons_zero])
            refine wpAnyH_ready (rs := [9]) ?_ (by simp) ?_
            · decide +kernel
            refine AllReadyH.cons rfl (fun K hK => ?_) AllReadyH.nil
            refine step_storeA rfl 140 _ _ rfl NF (cellsA (fzL zs R C rd (R + 2))) rfl rfl 140 _ kF (by rw [cellsA_size, fzL_len]; kernel_rfl) (by rw [cellsA_size, cellsA_size, fzL_len, List.length_replicate]) (cellsA_one _) ?_
            have q1 := setRow_heap _ NF _ (cellsA (fzL zs R C rd (R + 2))) 140 (0, 0) kF
            have q2 := (setRow_other W5 NF NO (cellsA (fzL zs R C rd (R + 2))) nOF).trans kO
            have q3 := ow.grown (grown_setRow W5 NF (cellsA (fzL zs R C rd (R + 2)))) (by simp; exact nFb)
            have q4 := below_setRow (cs := (cellsA (fzL zs R C rd (R + 2)))) belD lmF
            obtain ⟨W6, hW6⟩ : ∃ W6, W6 = W5.setRow NF (cellsA (fzL zs R C rd (R + 2))) := ⟨_, rfl⟩
            rw [← hW6] at q1 q2 q3 q4 ⊢
            clear hW6 kF kO ow belD
            refine hK.out _ _ ?_ (fun hHeld2 => ?_)
            · (try dsimp only); exact next3_0 q4 HD0.out
            clear hK K hHeld
            have hfin : (Below w.heap.size w W6 ∧ W6.cell? ⟨N, 0, none⟩ = some (.int .i64 R) ∧ W6.cell? ⟨N, 1, none⟩ = some (.int .i64 C) ∧ W6.cell? ⟨N, 2, none⟩ = some (.slice (some ⟨b, off, none⟩) n cap)) ∧ AB 123 W6 TB (tabL xs ys xs.length ys.length) ∧ W6.heap[NT]? = some (Obj.cells #[.int .i64 0, .int .i64 0, .slice none 0 0] 26) ∧ W6.heap[NO]? = some (Obj.cells #[.int .i64 R, .int .i64 C, .slice (some ⟨b', 0, none⟩) n n] 26) ∧ AB 140 W6 NF (fzL zs R C rd (R + 2)) ∧ Own 2 W6 b' (.slice (some ⟨b', 0, none⟩) n n) (List.replicate n 0) ∧ w.heap.size ≤ b' ∧ (NT ≠ b' ∧ NO ≠ b' ∧ NF ≠ b' ∧ TB ≠ b' ∧ N ≠ b' ∧ b ≠ b') := ⟨⟨(next3_0 q4 HD0.out).1, (next3_0 q4 HD0.out).2.1, (next3_0 q4 HD0.out).2.2.1, (next3_0 q4 HD0.out).2.2.2.1⟩, HTB.out.keep q4, heap_keep q4 HKT.out, q2, q1, q3, Nat.le_trans HD0.out.1.size lob, Nat.ne_of_lt (Nat.lt_of_lt_of_le (heap_lt HKT.out) lob), nOb, nFb, Nat.ne_of_lt (Nat.lt_of_lt_of_le (AB.lt HTB.out) lob), Nat.ne_of_lt (Nat.lt_of_lt_of_le (World.block_lt_of_cell? _ _ HD0.out.2.1) lob), Nat.ne_of_lt (Nat.lt_of_lt_of_le (Nat.lt_of_lt_of_le HB0.out HD0.out.1.size) lob)⟩
            have HF := hid hfin
            clear hfin q1 q2 q3 q4
            have hHeld := hHeld2
            clear hHeld2
            (try simp only [Act.put, List.setIfInBounds_toArray, List.set_cons_zero, List.set_cons_succ, List.getElem_toArray, List.getElem_cons_succ, List.getElem_cons_zero])
            refine wpAnyH_done (by kernel_rfl) ?_ _
            clear hHeld
            go_wp2_with fail
            go_meet
            case rel => exact ⟨NO, NF, b', rfl, rfl, HF.out⟩
        · go_simp
          have bel := below1 we (Obj.cells #[.int .i64 0, .int .i64 0, .slice none 0 0] 26)
          have lmS := belD.size
          replace belD := belD.trans (bel.mono belD.size)
          have nFO0 := AB.lt kF
          replace kF := kF.keep bel
          refine hK.out _ _ ?_ (fun hHeld2 => ?_)
          · (try dsimp only); exact next3_0 belD HD0.out
          clear hK K hHeld bel
          obtain ⟨vO, hWa⟩ : ∃ vO, vO = we.alloc (Obj.cells #[.int .i64 0, .int .i64 0, .slice none 0 0] 26) := ⟨_, rfl⟩
          obtain ⟨NO, hNa⟩ : ∃ NO, NO = we.heap.size := ⟨_, rfl⟩
          have kO : vO.heap[NO]? = some (Obj.cells #[.int .i64 0, .int .i64 0, .slice none 0 0] 26) := by rw [hWa]; exact FNew.heap_top hNa
          have lmO : wD.heap.size ≤ NO := by rw [hNa]; exact lmS
          clear lmS
          have nOF : NO ≠ NF := by rw [hNa]; exact Nat.ne_of_gt nFO0
          clear nFO0
          rw [← hWa] at belD kF
          (try dsimp only at hHeld2)
          simp only [← hWa, ← hNa] at hHeld2 ⊢
          clear hWa hNa
          have hHeld := hHeld2
          clear hHeld2
          (try simp only [Act.put, List.setIfInBounds_toArray, List.set_cons_zero, List.set_cons_succ, List.getElem_toArray, List.getElem_cons_succ, List.getElem_cons_zero])
          refine wpAnyH_ready (rs := [2]) ?_ (by simp) ?_
          · decide +kernel
          refine AllReadyH.cons rfl (fun K hK => ?_) AllReadyH.nil
          go_simp
          go_at_call 124
          refine (FNew.emptyField HN.out HLE.out).mono ?_
          rintro e wm ⟨b', rfl, ow0, lo, bel⟩
          have lob : wD.heap.size ≤ b' := Nat.le_trans belD.size lo
          have nOb : NO ≠ b' := Nat.ne_of_lt (Nat.lt_of_lt_of_le (heap_lt kO) lo)
          have nFb : NF ≠ b' := Nat.ne_of_lt (Nat.lt_of_lt_of_le (AB.lt kF) lo)
          replace belD := belD.trans (bel.mono belD.size)
          replace kF := kF.keep bel
          replace kO := heap_keep bel kO
          refine hK.out _ _ ?_ (fun hHeld2 => ?_)
          · (try dsimp only); exact next3_0 belD HD0.out
          clear hK K hHeld bel
          clear lo
          have ow := ow0
          clear ow0
          have hHeld := hHeld2
          clear hHeld2
          (try simp only [Act.put, List.setIfInBounds_toArray, List.set_cons_zero, List.set_cons_succ, List.getElem_toArray, List.getElem_cons_succ, List.getElem_cons_zero])
          refine wpAnyH_ready (rs := [5]) ?_ (by simp) ?_
          · decide +kernel
          refine AllReadyH.cons rfl (fun K hK => ?_) AllReadyH.nil
          go_simp
          go_at_call 125
          refine (Frm.framed (HRD.out.keep belD (Nat.le_refl _)) HQ.out HN.out).mono ?_
          rintro e wf ⟨rfl, bel⟩
          replace belD := belD.trans (bel.mono belD.size)
          replace kF := kF.keep bel
          replace kO := heap_keep bel kO
          replace ow := ow.keep bel
          refine hK.out _ _ ?_ (fun hHeld2 => ?_)
          · (try dsimp only); exact next3_0 belD HD0.out
          clear hK K hHeld bel
          have hHeld := hHeld2
          clear hHeld2
          (try simp only [Act.put, List.setIfInBounds_toArray, List.set_cons_zero, List.set_cons_succ, List.getElem_toArray, List.getElem_cons_succ, List.getElem_cons_zero])
          refine wpAnyH_ready (rs := [8]) ?_ (by simp) ?_
          · decide +kernel
          refine AllReadyH.cons rfl (fun K hK => ?_) AllReadyH.nil
          have y0 : wf.cell? ⟨NO, 0, none⟩ = some (.int .i64 0) := Go.Joins.cell_of_block kO 0
          have y1 : wf.cell? ⟨NO, 1, none⟩ = some (.int .i64 0) := Go.Joins.cell_of_block kO 1
          have y2 : wf.cell? ⟨NO, 2, none⟩ = some (.slice none 0 0) := Go.Joins.cell_of_block kO 2
          have g0 : wf.frozen? ⟨NO, 0, none⟩ = false := Go.Joins.unfrozen_of_block kO 0
          have g1 : wf.frozen? ⟨NO, 1, none⟩ = false := Go.Joins.unfrozen_of_block kO 1
          have g2 : wf.frozen? ⟨NO, 2, none⟩ = false := Go.Joins.unfrozen_of_block kO 2
          have HKO := hid kO
          clear kO
          go_simp
          clear y0 y1 y2 g0 g1 g2
          have q0 := (Go.Joins.block_setCell (i := 2) (Go.Joins.block_setCell (i := 1) (Go.Joins.block_setCell (i := 0) HKO.out (.int .i64 R)) (.int .i64 C)) (.slice (some ⟨b', 0, none⟩) n n))
          have oz := (own_set (own_set (own_set ow ⟨NO, 0, none⟩ (.int .i64 R) nOb) ⟨NO, 1, none⟩ (.int .i64 C) nOb) ⟨NO, 2, none⟩ (.slice (some ⟨b', 0, none⟩) n n) nOb)
          have bz := (((belD.setCell (p := ⟨NO, 0, none⟩) lmO (.int .i64 R)).setCell (p := ⟨NO, 1, none⟩) lmO (.int .i64 C)).setCell (p := ⟨NO, 2, none⟩) lmO (.slice (some ⟨b', 0, none⟩) n n))
          have fz1 := (((kF.setOther ⟨NO, 0, none⟩ (.int .i64 R) (Ne.symm nOF)).setOther ⟨NO, 1, none⟩ (.int .i64 C) (Ne.symm nOF)).setOther ⟨NO, 2, none⟩ (.slice (some ⟨b', 0, none⟩) n n) (Ne.symm nOF))
          obtain ⟨W5, hW5⟩ : ∃ W5, W5 = (((wf.setCell ⟨NO, 0, none⟩ (.int .i64 R)).setCell ⟨NO, 1, none⟩ (.int .i64 C)).setCell ⟨NO, 2, none⟩ (.slice (some ⟨b', 0, none⟩) n n)) := ⟨_, rfl⟩
          rw [← hW5] at q0 oz bz fz1
          have kO : W5.heap[NO]? = some (Obj.cells #[.int .i64 R, .int .i64 C, .slice (some ⟨b', 0, none⟩) n n] 26) := q0
          clear ow belD kF q0 HKO
          have ow := oz
          have belD := bz
          have kF := fz1
          clear oz bz fz1
          refine hK.out _ _ ?_ (fun hHeld2 => ?_)
          · (try dsimp only); rw [← hW5]; exact next3_0 belD HD0.out
          clear hK K hHeld
          (try dsimp only at hHeld2)
          simp only [← hW5] at hHeld2 ⊢
          clear hW5
          have hHeld := hHeld2
          clear hHeld2
          (try simp only [Act.put, List.setIfInBounds_toArray, List.set_cons_zero, List.set_cons_succ, List.getElem_toArray, List.getElem_cons_succ, List.getElem_cons_zero])
          refine wpAnyH_ready (rs := [9]) ?_ (by simp) ?_
          · decide +kernel
          refine AllReadyH.cons rfl (fun K hK => ?_) AllReadyH.nil
          refine step_storeA rfl 140 _ _ rfl NF (cellsA (fzL zs R C rd (R + 2))) rfl rfl 140 _ kF (by rw [cellsA_size, fzL_len]; kernel_rfl) (by rw [cellsA_size, cellsA_size, fzL_len, List.length_replicate]) (cellsA_one _) ?_
          have q1 := setRow_heap _ NF _ (cellsA (fzL zs R C rd (R + 2))) 140 (0, 0) kF
          have q2 := (setRow_other W5 NF NO (cellsA (fzL zs R C rd (R + 2))) nOF).trans kO
          have q3 := ow.grown (grown_setRow W5 NF (cellsA (fzL zs R C rd (R + 2)))) (by simp; exact nFb)
          have q4 := below_setRow (cs := (cellsA (fzL zs R C rd (R + 2)))) belD lmF
          obtain ⟨W6, hW6⟩ : ∃ W6, W6 = W5.setRow NF (cellsA (fzL zs R C rd (R + 2))) := ⟨_, rfl⟩
          rw [← hW6] at q1 q2 q3 q4 ⊢
          clear hW6 kF kO ow belD
          refine hK.out _ _ ?_ (fun hHeld2 => ?_)
          · (try dsimp only); exact next3_0 q4 HD0.out
          clear hK K hHeld
          have hfin : (Below w.heap.size w W6 ∧ W6.cell? ⟨N, 0, none⟩ = some (.int .i64 R) ∧ W6.cell? ⟨N, 1, none⟩ = some (.int .i64 C) ∧ W6.cell? ⟨N, 2, none⟩ = some (.slice (some ⟨b, off, none⟩) n cap)) ∧ AB 123 W6 TB (tabL xs ys xs.length ys.length) ∧ W6.heap[NT]? = some (Obj.cells #[.int .i64 0, .int .i64 0, .slice none 0 0] 26) ∧ W6.heap[NO]? = some (Obj.cells #[.int .i64 R, .int .i64 C, .slice (some ⟨b', 0, none⟩) n n] 26) ∧ AB 140 W6 NF (fzL zs R C rd (R + 2)) ∧ Own 2 W6 b' (.slice (some ⟨b', 0, none⟩) n n) (List.replicate n 0) ∧ w.heap.size ≤ b' ∧ (NT ≠ b' ∧ NO ≠ b' ∧ NF ≠ b' ∧ TB ≠ b' ∧ N ≠ b' ∧ b ≠ b') := ⟨⟨(next3_0 q4 HD0.out).1, (next3_0 q4 HD0.out).2.1, (next3_0 q4 HD0.out).2.2.1, (next3_0 q4 HD0.out).2.2.2.1⟩, HTB.out.keep q4, heap_keep q4 HKT.out, q2, q1, q3, Nat.le_trans HD0.out.1.size lob, Nat.ne_of_lt (Nat.lt_of_lt_of_le (heap_lt HKT.out) lob), nOb, nFb, Nat.ne_of_lt (Nat.lt_of_lt_of_le (AB.lt HTB.out) lob), Nat.ne_of_lt (Nat.lt_of_lt_of_le (World.block_lt_of_cell? _ _ HD0.out.2.1) lob), Nat.ne_of_lt (Nat.lt_of_lt_of_le (Nat.lt_of_lt_of_le HB0.out HD0.out.1.size) lob)⟩
          have HF := hid hfin
          clear hfin q1 q2 q3 q4
          have hHeld := hHeld2
          clear hHeld2
          (try simp only [Act.put, List.setIfInBounds_toArray, List.set_cons_zero, List.set_cons_succ, List.getElem_toArray, List.getElem_cons_succ, List.getElem_cons_zero])
          refine wpAnyH_done (by kernel_rfl) ?_ _
          clear hHeld
          go_wp2_with fail
          go_meet
          case rel => exact ⟨NO, NF, b', rfl, rfl, HF.out⟩
      · go_simp
        have bel := below1 vF (Obj.cells #[.int .i64 0, .int .i64 0, .slice none 0 0] 26)
        have lmS := belD.size
        replace belD := belD.trans (bel.mono belD.size)
        have nFO0 := AB.lt kF
        replace kF := kF.keep bel
        refine hK.out _ _ ?_ (fun hHeld2 => ?_)
        · (try dsimp only); exact next3_0 belD HD0.out
        clear hK K hHeld bel
        obtain ⟨vO, hWa⟩ : ∃ vO, vO = vF.alloc (Obj.cells #[.int .i64 0, .int .i64 0, .slice none 0 0] 26) := ⟨_, rfl⟩
        obtain ⟨NO, hNa⟩ : ∃ NO, NO = vF.heap.size := ⟨_, rfl⟩
        have kO : vO.heap[NO]? = some (Obj.cells #[.int .i64 0, .int .i64 0, .slice none 0 0] 26) := by rw [hWa]; exact FNew.heap_top hNa
        have lmO : wD.heap.size ≤ NO := by rw [hNa]; exact lmS
        clear lmS
        have nOF : NO ≠ NF := by rw [hNa]; exact Nat.ne_of_gt nFO0
        clear nFO0
        rw [← hWa] at belD kF
        (try dsimp only at hHeld2)
        simp only [← hWa, ← hNa] at hHeld2 ⊢
        clear hWa hNa
        have hHeld := hHeld2
        clear hHeld2
        (try simp only [Act.put, List.setIfInBounds_toArray, List.set_cons_zero, List.set_cons_succ, List.getElem_toArray, List.getElem_cons_succ, List.getElem_cons_zero])
        refine wpAnyH_ready (rs := [1]) ?_ (by simp) ?_
        · decide +kernel
        refine AllReadyH.cons rfl (fun K hK => ?_) AllReadyH.nil
        go_simp
        go_at_call 91
        refine extentOf.mono ?_
        rintro e we ⟨rfl, bel⟩
        replace belD := belD.trans (bel.mono belD.size)
        replace kF := kF.keep bel
        replace kO := heap_keep bel kO
        refine hK.out _ _ ?_ (fun hHeld2 => ?_)
        · (try dsimp only); exact next3_0 belD HD0.out
        clear hK K hHeld bel
        have hHeld := hHeld2
        clear hHeld2
        (try simp only [Act.put, List.setIfInBounds_toArray, List.set_cons_zero, List.set_cons_succ, List.getElem_toArray, List.getElem_cons_succ, List.getElem_cons_zero])
        refine wpAnyH_ready (rs := [2]) ?_ (by simp) ?_
        · decide +kernel
        refine AllReadyH.cons rfl (fun K hK => ?_) AllReadyH.nil
        go_simp
        go_at_call 124
        refine (FNew.emptyField HN.out HLE.out).mono ?_
        rintro e wm ⟨b', rfl, ow0, lo, bel⟩
        have lob : wD.heap.size ≤ b' := Nat.le_trans belD.size lo
        have nOb : NO ≠ b' := Nat.ne_of_lt (Nat.lt_of_lt_of_le (heap_lt kO) lo)
        have nFb : NF ≠ b' := Nat.ne_of_lt (Nat.lt_of_lt_of_le (AB.lt kF) lo)
        replace belD := belD.trans (bel.mono belD.size)
        replace kF := kF.keep bel
        replace kO := heap_keep bel kO
        refine hK.out _ _ ?_ (fun hHeld2 => ?_)
        · (try dsimp only); exact next3_0 belD HD0.out
        clear hK K hHeld bel
        clear lo
        have ow := ow0
        clear ow0
        have hHeld := hHeld2
        clear hHeld2
        (try simp only [Act.put, List.setIfInBounds_toArray, List.set_cons_zero, List.set_cons_succ, List.getElem_toArray, List.getElem_cons_succ, List.getElem_cons_zero])
        refine wpAnyH_ready (rs := [5]) ?_ (by simp) ?_
        · decide +kernel
        refine AllReadyH.cons rfl (fun K hK => ?_) AllReadyH.nil
        go_simp
        go_at_call 125
        refine (Frm.framed (HRD.out.keep belD (Nat.le_refl _)) HQ.out HN.out).mono ?_
        rintro e wf ⟨rfl, bel⟩
        replace belD := belD.trans (bel.mono belD.size)
        replace kF := kF.keep bel
        replace kO := heap_keep bel kO
        replace ow := ow.keep bel
        refine hK.out _ _ ?_ (fun hHeld2 => ?_)
        · (try dsimp only); exact next3_0 belD HD0.out
        clear hK K hHeld bel
        have hHeld := hHeld2
        clear hHeld2
        (try simp only [Act.put, List.setIfInBounds_toArray, List.set_cons_zero, List.set_cons_succ, List.getElem_toArray, List.getElem_cons_succ, List.getElem_cons_zero])
        refine wpAnyH_ready (rs := [8]) ?_ (by simp) ?_
        · decide +kernel
        refine AllReadyH.cons rfl (fun K hK => ?_) AllReadyH.nil
        have y0 : wf.cell? ⟨NO, 0, none⟩ = some (.int .i64 0) := Go.Joins.cell_of_block kO 0
        have y1 : wf.cell? ⟨NO, 1, none⟩ = some (.int .i64 0) := Go.Joins.cell_of_block kO 1
        have y2 : wf.cell? ⟨NO, 2, none⟩ = some (.slice none 0 0) := Go.Joins.cell_of_block kO 2
        have g0 : wf.frozen? ⟨NO, 0, none⟩ = false := Go.Joins.unfrozen_of_block kO 0
        have g1 : wf.frozen? ⟨NO, 1, none⟩ = false := Go.Joins.unfrozen_of_block kO 1
        have g2 : wf.frozen? ⟨NO, 2, none⟩ = false := Go.Joins.unfrozen_of_block kO 2
        have HKO := hid kO
        clear kO
        go_simp
        clear y0 y1 y2 g0 g1 g2
        have q0 := (Go.Joins.block_setCell (i := 2) (Go.Joins.block_setCell (i := 1) (Go.Joins.block_setCell (i := 0) HKO.out (.int .i64 R)) (.int .i64 C)) (.slice (some ⟨b', 0, none⟩) n n))
        have oz := (own_set (own_set (own_set ow ⟨NO, 0, none⟩ (.int .i64 R) nOb) ⟨NO, 1, none⟩ (.int .i64 C) nOb) ⟨NO, 2, none⟩ (.slice (some ⟨b', 0, none⟩) n n) nOb)
        have bz := (((belD.setCell (p := ⟨NO, 0, none⟩) lmO (.int .i64 R)).setCell (p := ⟨NO, 1, none⟩) lmO (.int .i64 C)).setCell (p := ⟨NO, 2, none⟩) lmO (.slice (some ⟨b', 0, none⟩) n n))
        have fz1 := (((kF.setOther ⟨NO, 0, none⟩ (.int .i64 R) (Ne.symm nOF)).setOther ⟨NO, 1, none⟩ (.int .i64 C) (Ne.symm nOF)).setOther ⟨NO, 2, none⟩ (.slice (some ⟨b', 0, none⟩) n n) (Ne.symm nOF))
        obtain ⟨W5, hW5⟩ : ∃ W5, W5 = (((wf.setCell ⟨NO, 0, none⟩ (.int .i64 R)).setCell ⟨NO, 1, none⟩ (.int .i64 C)).setCell ⟨NO, 2, none⟩ (.slice (some ⟨b', 0, none⟩) n n)) := ⟨_, rfl⟩
        rw [← hW5] at q0 oz bz fz1
        have kO : W5.heap[NO]? = some (Obj.cells #[.int .i64 R, .int .i64 C, .slice (some ⟨b', 0, none⟩) n n] 26) := q0
        clear ow belD kF q0 HKO
        have ow := oz
        have belD := bz
        have kF := fz1
        clear oz bz fz1
        refine hK.out _ _ ?_ (fun hHeld2 => ?_)
        · (try dsimp only); rw [← hW5]; exact next3_0 belD HD0.out
        clear hK K hHeld
        (try dsimp only at hHeld2)
        simp only [← hW5] at hHeld2 ⊢
        clear hW5
        have hHeld := hHeld2
        clear hHeld2
        (try simp only [Act.put, List.setIfInBounds_toArray, List.set_cons_zero, List.set_cons_succ, List.getElem_toArray, List.getElem_cons_succ, List.getElem_cons_zero])
        refine wpAnyH_ready (rs := [9]) ?_ (by simp) ?_
        · decide +kernel
        refine AllReadyH.cons rfl (fun K hK => ?_) AllReadyH.nil
        refine step_storeA rfl 140 _ _ rfl NF (cellsA (fzL zs R C rd (R + 2))) rfl rfl 140 _ kF (by rw [cellsA_size, fzL_len]; kernel_rfl) (by rw [cellsA_size, cellsA_size, fzL_len, List.length_replicate]) (cellsA_one _) ?_
        have q1 := setRow_heap _ NF _ (cellsA (fzL zs R C rd (R + 2))) 140 (0, 0) kF
        have q2 := (setRow_other W5 NF NO (cellsA (fzL zs R C rd (R + 2))) nOF).trans kO
        have q3 := ow.grown (grown_setRow W5 NF (cellsA (fzL zs R C rd (R + 2)))) (by simp; exact nFb)
        have q4 := below_setRow (cs := (cellsA (fzL zs R C rd (R + 2)))) belD lmF
        obtain ⟨W6, hW6⟩ : ∃ W6, W6 = W5.setRow NF (cellsA (fzL zs R C rd (R + 2))) := ⟨_, rfl⟩
        rw [← hW6] at q1 q2 q3 q4 ⊢
        clear hW6 kF kO ow belD
        refine hK.out _ _ ?_ (fun hHeld2 => ?_)
        · (try dsimp only); exact next3_0 q4 HD0.out
        clear hK K hHeld
        have hfin : (Below w.heap.size w W6 ∧ W6.cell? ⟨N, 0, none⟩ = some (.int .i64 R) ∧ W6.cell? ⟨N, 1, none⟩ = some (.int .i64 C) ∧ W6.cell? ⟨N, 2, none⟩ = some (.slice (some ⟨b, off, none⟩) n cap)) ∧ AB 123 W6 TB (tabL xs ys xs.length ys.length) ∧ W6.heap[NT]? = some (Obj.cells #[.int .i64 0, .int .i64 0, .slice none 0 0] 26) ∧ W6.heap[NO]? = some (Obj.cells #[.int .i64 R, .int .i64 C, .slice (some ⟨b', 0, none⟩) n n] 26) ∧ AB 140 W6 NF (fzL zs R C rd (R + 2)) ∧ Own 2 W6 b' (.slice (some ⟨b', 0, none⟩) n n) (List.replicate n 0) ∧ w.heap.size ≤ b' ∧ (NT ≠ b' ∧ NO ≠ b' ∧ NF ≠ b' ∧ TB ≠ b' ∧ N ≠ b' ∧ b ≠ b') := ⟨⟨(next3_0 q4 HD0.out).1, (next3_0 q4 HD0.out).2.1, (next3_0 q4 HD0.out).2.2.1, (next3_0 q4 HD0.out).2.2.2.1⟩, HTB.out.keep q4, heap_keep q4 HKT.out, q2, q1, q3, Nat.le_trans HD0.out.1.size lob, Nat.ne_of_lt (Nat.lt_of_lt_of_le (heap_lt HKT.out) lob), nOb, nFb, Nat.ne_of_lt (Nat.lt_of_lt_of_le (AB.lt HTB.out) lob), Nat.ne_of_lt (Nat.lt_of_lt_of_le (World.block_lt_of_cell? _ _ HD0.out.2.1) lob), Nat.ne_of_lt (Nat.lt_of_lt_of_le (Nat.lt_of_lt_of_le HB0.out HD0.out.1.size) lob)⟩
        have HF := hid hfin
        clear hfin q1 q2 q3 q4
        have hHeld := hHeld2
        clear hHeld2
        (try simp only [Act.put, List.setIfInBounds_toArray, List.set_cons_zero, List.set_cons_succ, List.getElem_toArray, List.getElem_cons_succ, List.getElem_cons_zero])
        refine wpAnyH_done (by kernel_rfl) ?_ _
        clear hHeld
        go_wp2_with fail
        go_meet
        case rel => exact ⟨NO, NF, b', rfl, rfl, HF.out⟩
  case rest =>
    obtain ⟨NO, NF, b', rfl, rfl, hrelF⟩ := hcut
    rename World => w4
    have HC4 := hid hrelF
    have HLO : Hid (w.heap.size ≤ b') := hrelF.2.2.2.2.2.2.1
    have HNE := hid hrelF.2.2.2.2.2.2.2
    have HOW := hid hrelF.2.2.2.2.2.1
    have HTL : Hid ((lifeL xs ys zs R C rd).length = n) := by show (lifeL xs ys zs R C rd).length = n; unfold lifeL; rw [grid_len, HN.out]
    have m0 := hrelF.1.2.1
    clear hrelF
    have hRi : 1 ≤ (R : Int) ∧ (R : Int) ≤ 24 := by have := HR.out; omega
    have hCi : 1 ≤ (C : Int) ∧ (C : Int) ≤ 24 := by have := HC.out; omega
    have HNX : Hid (n ≤ maxLen) := by have := HLE.out; simp only [Hid, maxLen]; omega
    go_wp2
    go_loopw [24] (fun i wr => ∃ p : Nat, p ≤ R ∧ i = .int .i64 p ∧ Own 2 wr b' (.slice (some ⟨b', 0, none⟩) n n) (filN (lifeL xs ys zs R C rd) n (p * C)) ∧ w4.grownBy wr (some b')) (fun i _ => R - (intOf i).toNat)
    case atStart => exact ⟨0, Nat.zero_le _, rfl, by rw [Nat.zero_mul, filN_zero]; exact HOW.out, g_refl _ _⟩
    case round =>
      clear m0
      obtain ⟨p, hp, rfl, hown, hg⟩ := hrel
      by_cases hlt : p < R
      · have HO1 := hid hown
        have HG1 := hid hg
        have n0 := g_cell hg (Go.Joins.cell_of_block HC4.out.2.2.2.1 0) HNE.out.2.1
        have n1 := g_cell hg (Go.Joins.cell_of_block HC4.out.2.2.2.1 1) HNE.out.2.1
        have n2 := g_cell hg (Go.Joins.cell_of_block HC4.out.2.2.2.1 2) HNE.out.2.1
        have hpi : (p : Int) < (R : Int) := by omega
        have t1 : ((p : Int) + 1).toNat = p + 1 := by omega
        have t2 : ((p : Int) + 2).toNat = p + 2 := by omega
        have t3 : (p : Int) + 1 < 26 := by omega
        have t4 : (p : Int) + 2 < 26 := by omega
        have t5 : (p : Int) < 26 := by omega
        have t6 : p < 26 := by omega
        have t7 : (0 : Int) ≤ (p : Int) + 1 := by omega
        have t8 : (0 : Int) ≤ (p : Int) + 2 := by omega
        have t9 : IntKind.i64.wrap ((p : Int) + 1) = (p : Int) + 1 := by rw [IntKind.wrap_i64]; omega
        have t10 : IntKind.i64.wrap ((p : Int) + 2) = (p : Int) + 2 := by rw [IntKind.wrap_i64]; omega
        obtain ⟨P1, hP1⟩ : ∃ P1, P1 = p * C := ⟨_, rfl⟩
        have HP1 := hid hP1
        clear hown hg hP1
        go_wp2_with fail
        go_quiet (fail)
        obtain ⟨A0, hA0⟩ : ∃ A0, A0 = p * 26 := ⟨_, rfl⟩
        obtain ⟨A1, hA1⟩ : ∃ A1, A1 = (p + 1) * 26 := ⟨_, rfl⟩
        obtain ⟨A2, hA2⟩ : ∃ A2, A2 = (p + 2) * 26 := ⟨_, rfl⟩
        simp only [← hA0, ← hA1, ← hA2]
        have HA0 : Hid (A0 = (p + 0) * 26) := hA0
        have HA1 := hid hA1
        have HA2 := hid hA2
        clear hA0 hA1 hA2 n0 n1 n2 t1 t2 t3 t4 t5 t6 t7 t8 t9 t10
        obtain ⟨wq, hwq⟩ : ∃ wq, wq = wr.drewN nq := ⟨_, rfl⟩
        have bel := FSpec.below_drewN' wr.heap.size wr nq
        rw [← hwq] at bel ⊢
        clear hwq
        replace HO1 := hid (HO1.out.keep bel)
        replace HG1 := hid (g_bel HG1.out bel)
        clear bel
        have hg := HG1.out
        have n0 := g_cell hg (Go.Joins.cell_of_block HC4.out.2.2.2.1 0) HNE.out.2.1
        have n1 := g_cell hg (Go.Joins.cell_of_block HC4.out.2.2.2.1 1) HNE.out.2.1
        have n2 := g_cell hg (Go.Joins.cell_of_block HC4.out.2.2.2.1 2) HNE.out.2.1
        clear hg
        go_wp2_with fail
        go_at_call 126
        refine (rowOf0 HP1.out HN.out HLE.out hlt HR.out.2 HC.out (Nat.le_refl _) HNX.out).mono ?_
        rintro e wb ⟨rfl, bel⟩
        replace HO1 := hid (HO1.out.keep bel)
        replace HG1 := hid (g_bel HG1.out bel)
        clear bel n0 n1 n2
        go_wp2
        go_loopw [40] (fun k wx => ∃ q : Nat, q ≤ C ∧ k = .int .i64 q ∧ Own 2 wx b' (.slice (some ⟨b', 0, none⟩) n n) (filN (lifeL xs ys zs R C rd) n (p * C + q)) ∧ w4.grownBy wx (some b')) (fun k _ => C - (intOf k).toNat)
        case atStart => exact ⟨0, Nat.zero_le _, rfl, HO1.out, HG1.out⟩
        case round =>
          clear HO1 HG1
          obtain ⟨q, hq2, rfl, hown, hg⟩ := hrel
          by_cases hlt2 : q < C
          · obtain ⟨T, hT⟩ : ∃ T, T = p * C + q := ⟨_, rfl⟩
            have hTn : T < n := by rw [hT, HN.out]; exact pos_bd hlt hlt2
            rw [← hT] at hown
            have HO0 := hid hown
            have HG0 := hid hg
            clear hown hg
            obtain ⟨f0, hf0⟩ : ∃ f0, f0 = fr zs R C rd ((p : Int) - 1) ((q : Int) - 1) := ⟨_, rfl⟩
            have bf0 := fr_bd HPL.out R C rd ((p : Int) - 1) ((q : Int) - 1)
            rw [← hf0] at bf0
            have kf0 : wr.cell? ⟨NF, A0 + q, none⟩ = some (.int .i64 f0) := by
              have h1 := (AB.grown HC4.out.2.2.2.2.1 HG0.out HNE.out.2.2.1).cell (i := (p + 0) * 26 + (q + 0)) (by rw [fzL_len]; omega)
              rw [fz_at (by omega) (by omega) HR.out.2 HC.out.2, show ((p + 0 : Nat) : Int) - 1 = (p : Int) - 1 by omega, show ((q + 0 : Nat) : Int) - 1 = (q : Int) - 1 by omega, ← hf0] at h1
              rw [HA0.out]
              exact h1
            obtain ⟨f1, hf1⟩ : ∃ f1, f1 = fr zs R C rd ((p : Int) - 1) ((q : Int)) := ⟨_, rfl⟩
            have bf1 := fr_bd HPL.out R C rd ((p : Int) - 1) ((q : Int))
            rw [← hf1] at bf1
            have kf1 : wr.cell? ⟨NF, A0 + (q + 1), none⟩ = some (.int .i64 f1) := by
              have h1 := (AB.grown HC4.out.2.2.2.2.1 HG0.out HNE.out.2.2.1).cell (i := (p + 0) * 26 + (q + 1)) (by rw [fzL_len]; omega)
              rw [fz_at (by omega) (by omega) HR.out.2 HC.out.2, show ((p + 0 : Nat) : Int) - 1 = (p : Int) - 1 by omega, show ((q + 1 : Nat) : Int) - 1 = (q : Int) by omega, ← hf1] at h1
              rw [HA0.out]
              exact h1
            obtain ⟨f2, hf2⟩ : ∃ f2, f2 = fr zs R C rd ((p : Int) - 1) ((q : Int) + 1) := ⟨_, rfl⟩
            have bf2 := fr_bd HPL.out R C rd ((p : Int) - 1) ((q : Int) + 1)
            rw [← hf2] at bf2
            have kf2 : wr.cell? ⟨NF, A0 + (q + 2), none⟩ = some (.int .i64 f2) := by
              have h1 := (AB.grown HC4.out.2.2.2.2.1 HG0.out HNE.out.2.2.1).cell (i := (p + 0) * 26 + (q + 2)) (by rw [fzL_len]; omega)
              rw [fz_at (by omega) (by omega) HR.out.2 HC.out.2, show ((p + 0 : Nat) : Int) - 1 = (p : Int) - 1 by omega, show ((q + 2 : Nat) : Int) - 1 = (q : Int) + 1 by omega, ← hf2] at h1
              rw [HA0.out]
              exact h1
            obtain ⟨f3, hf3⟩ : ∃ f3, f3 = fr zs R C rd ((p : Int)) ((q : Int) - 1) := ⟨_, rfl⟩
            have bf3 := fr_bd HPL.out R C rd ((p : Int)) ((q : Int) - 1)
            rw [← hf3] at bf3
            have kf3 : wr.cell? ⟨NF, A1 + q, none⟩ = some (.int .i64 f3) := by
              have h1 := (AB.grown HC4.out.2.2.2.2.1 HG0.out HNE.out.2.2.1).cell (i := (p + 1) * 26 + (q + 0)) (by rw [fzL_len]; omega)
              rw [fz_at (by omega) (by omega) HR.out.2 HC.out.2, show ((p + 1 : Nat) : Int) - 1 = (p : Int) by omega, show ((q + 0 : Nat) : Int) - 1 = (q : Int) - 1 by omega, ← hf3] at h1
              rw [HA1.out]
              exact h1
            obtain ⟨f4, hf4⟩ : ∃ f4, f4 = fr zs R C rd ((p : Int)) ((q : Int) + 1) := ⟨_, rfl⟩
            have bf4 := fr_bd HPL.out R C rd ((p : Int)) ((q : Int) + 1)
            rw [← hf4] at bf4
            have kf4 : wr.cell? ⟨NF, A1 + (q + 2), none⟩ = some (.int .i64 f4) := by
              have h1 := (AB.grown HC4.out.2.2.2.2.1 HG0.out HNE.out.2.2.1).cell (i := (p + 1) * 26 + (q + 2)) (by rw [fzL_len]; omega)
              rw [fz_at (by omega) (by omega) HR.out.2 HC.out.2, show ((p + 1 : Nat) : Int) - 1 = (p : Int) by omega, show ((q + 2 : Nat) : Int) - 1 = (q : Int) + 1 by omega, ← hf4] at h1
              rw [HA1.out]
              exact h1
            obtain ⟨f5, hf5⟩ : ∃ f5, f5 = fr zs R C rd ((p : Int) + 1) ((q : Int) - 1) := ⟨_, rfl⟩
            have bf5 := fr_bd HPL.out R C rd ((p : Int) + 1) ((q : Int) - 1)
            rw [← hf5] at bf5
            have kf5 : wr.cell? ⟨NF, A2 + q, none⟩ = some (.int .i64 f5) := by
              have h1 := (AB.grown HC4.out.2.2.2.2.1 HG0.out HNE.out.2.2.1).cell (i := (p + 2) * 26 + (q + 0)) (by rw [fzL_len]; omega)
              rw [fz_at (by omega) (by omega) HR.out.2 HC.out.2, show ((p + 2 : Nat) : Int) - 1 = (p : Int) + 1 by omega, show ((q + 0 : Nat) : Int) - 1 = (q : Int) - 1 by omega, ← hf5] at h1
              rw [HA2.out]
              exact h1
            obtain ⟨f6, hf6⟩ : ∃ f6, f6 = fr zs R C rd ((p : Int) + 1) ((q : Int)) := ⟨_, rfl⟩
            have bf6 := fr_bd HPL.out R C rd ((p : Int) + 1) ((q : Int))
            rw [← hf6] at bf6
            have kf6 : wr.cell? ⟨NF, A2 + (q + 1), none⟩ = some (.int .i64 f6) := by
              have h1 := (AB.grown HC4.out.2.2.2.2.1 HG0.out HNE.out.2.2.1).cell (i := (p + 2) * 26 + (q + 1)) (by rw [fzL_len]; omega)
              rw [fz_at (by omega) (by omega) HR.out.2 HC.out.2, show ((p + 2 : Nat) : Int) - 1 = (p : Int) + 1 by omega, show ((q + 1 : Nat) : Int) - 1 = (q : Int) by omega, ← hf6] at h1
              rw [HA2.out]
              exact h1
            obtain ⟨f7, hf7⟩ : ∃ f7, f7 = fr zs R C rd ((p : Int) + 1) ((q : Int) + 1) := ⟨_, rfl⟩
            have bf7 := fr_bd HPL.out R C rd ((p : Int) + 1) ((q : Int) + 1)
            rw [← hf7] at bf7
            have kf7 : wr.cell? ⟨NF, A2 + (q + 2), none⟩ = some (.int .i64 f7) := by
              have h1 := (AB.grown HC4.out.2.2.2.2.1 HG0.out HNE.out.2.2.1).cell (i := (p + 2) * 26 + (q + 2)) (by rw [fzL_len]; omega)
              rw [fz_at (by omega) (by omega) HR.out.2 HC.out.2, show ((p + 2 : Nat) : Int) - 1 = (p : Int) + 1 by omega, show ((q + 2 : Nat) : Int) - 1 = (q : Int) + 1 by omega, ← hf7] at h1
              rw [HA2.out]
              exact h1
            obtain ⟨f8, hf8⟩ : ∃ f8, f8 = fr zs R C rd ((p : Int)) ((q : Int)) := ⟨_, rfl⟩
            have bf8 := fr_bd HPL.out R C rd ((p : Int)) ((q : Int))
            rw [← hf8] at bf8
            have kf8 : wr.cell? ⟨NF, A1 + (q + 1), none⟩ = some (.int .i64 f8) := by
              have h1 := (AB.grown HC4.out.2.2.2.2.1 HG0.out HNE.out.2.2.1).cell (i := (p + 1) * 26 + (q + 1)) (by rw [fzL_len]; omega)
              rw [fz_at (by omega) (by omega) HR.out.2 HC.out.2, show ((p + 1 : Nat) : Int) - 1 = (p : Int) by omega, show ((q + 1 : Nat) : Int) - 1 = (q : Int) by omega, ← hf8] at h1
              rw [HA1.out]
              exact h1
            have hw1 : IntKind.i64.wrap (f0 + f1) = f0 + f1 := by rw [IntKind.wrap_i64]; omega
            have hw2 : IntKind.i64.wrap (f0 + f1 + f2) = f0 + f1 + f2 := by rw [IntKind.wrap_i64]; omega
            have hw3 : IntKind.i64.wrap (f0 + f1 + f2 + f3) = f0 + f1 + f2 + f3 := by rw [IntKind.wrap_i64]; omega
            have hw4 : IntKind.i64.wrap (f0 + f1 + f2 + f3 + f4) = f0 + f1 + f2 + f3 + f4 := by rw [IntKind.wrap_i64]; omega
            have hw5 : IntKind.i64.wrap (f0 + f1 + f2 + f3 + f4 + f5) = f0 + f1 + f2 + f3 + f4 + f5 := by rw [IntKind.wrap_i64]; omega
            have hw6 : IntKind.i64.wrap (f0 + f1 + f2 + f3 + f4 + f5 + f6) = f0 + f1 + f2 + f3 + f4 + f5 + f6 := by rw [IntKind.wrap_i64]; omega
            have hsum : f0 + f1 + f2 + f3 + f4 + f5 + f6 + f7 = aro zs R C rd p q := by rw [aro_eq, hf0, hf1, hf2, hf3, hf4, hf5, hf6, hf7]
            have hs8 := aro_bd HPL.out R C rd p q
            obtain ⟨s, hs⟩ : ∃ s : Nat, aro zs R C rd p q = (s : Int) := ⟨(aro zs R C rd p q).toNat, by omega⟩
            have hw7 : IntKind.i64.wrap (f0 + f1 + f2 + f3 + f4 + f5 + f6 + f7) = (s : Int) := by rw [hsum, hs, IntKind.wrap_i64]; omega
            have hsn : s < 9 := by omega
            have hsi : (s : Int) < 9 := by omega
            have hzc : zs.getD (p * C + q) 0 = f8 := by rw [hf8]; exact (fr_cell rd hlt hlt2).symm
            obtain ⟨Z, hZ⟩ : ∃ Z : Nat, f8 = (Z : Int) := ⟨f8.toNat, by omega⟩
            have hZ01 : Z = 0 ∨ Z = 1 := by omega
            have hZn : Z < 2 := by omega
            have hZi : (Z : Int) < 2 := by omega
            rw [hZ] at kf8 hzc
            obtain ⟨x, hx⟩ : ∃ x, x = (tabL xs ys xs.length ys.length).getD (Z * 9 + s) 0 := ⟨_, rfl⟩
            have kt : wr.cell? ⟨TB, Z * 9 + s, none⟩ = some (.int .i64 x) := by rw [hx]; exact (AB.grown HC4.out.2.1 HG0.out HNE.out.2.2.2.1).cell (by rw [tabL_len]; omega)
            have HTX : Hid ((lifeL xs ys zs R C rd).getD T 0 = x) := by
              show (lifeL xs ys zs R C rd).getD T 0 = x
              unfold lifeL
              rw [hT, grid_get _ hlt hlt2, hx]
              exact at_nxt hzc hZ01 hs (by omega)
            have hox := HO0.out.cell (i := T) (by rw [filN_len _ _ _ HTL.out (Nat.le_of_lt hTn)]; exact hTn)
            have hof := HO0.out.free T
            have HT := hid hT
            have hP1T : P1 + q = T := by rw [hT, HP1.out]
            have hqi : (q : Int) < (C : Int) := by omega
            have t1 : ((q : Int) + 1).toNat = q + 1 := by omega
            have t2 : ((q : Int) + 2).toNat = q + 2 := by omega
            have t3 : (q : Int) + 1 < 26 := by omega
            have t4 : (q : Int) + 2 < 26 := by omega
            have t5 : (q : Int) < 26 := by omega
            have t6 : q < 26 := by omega
            have t7 : (0 : Int) ≤ (q : Int) + 1 := by omega
            have t8 : (0 : Int) ≤ (q : Int) + 2 := by omega
            have t9 : IntKind.i64.wrap ((q : Int) + 1) = (q : Int) + 1 := by rw [IntKind.wrap_i64]; omega
            have t10 : IntKind.i64.wrap ((q : Int) + 2) = (q : Int) + 2 := by rw [IntKind.wrap_i64]; omega
            clear hf0 hf1 hf2 hf3 hf4 hf5 hf6 hf7 hf8 bf0 bf1 bf2 bf3 bf4 bf5 bf6 bf7 bf8 hsum hs8 hs hzc hZ hZ01 hx hT
            go_wp2_with fail
            go_quiet (fail)
            obtain ⟨wq, hwq⟩ : ∃ wq, wq = wr.drewN nq := ⟨_, rfl⟩
            have bel := FSpec.below_drewN' wr.heap.size wr nq
            have kf8' : wq.cell? ⟨NF, A1 + (q + 1), none⟩ = some (.int .i64 (Z : Int)) := by rw [hwq]; exact kf8
            have kt' : wq.cell? ⟨TB, Z * 9 + s, none⟩ = some (.int .i64 x) := by rw [hwq]; exact kt
            have hox' : wq.cell? ⟨b', T, none⟩ = some (.int .i64 ((filN (lifeL xs ys zs R C rd) n T).getD T 0)) := by rw [hwq]; exact hox
            have hof' : wq.frozen? ⟨b', T, none⟩ = false := by rw [hwq]; exact hof
            rw [← hwq] at bel ⊢
            have HO2 := hid (HO0.out.keep bel)
            have HG2 := hid (g_bel HG0.out bel)
            clear hwq bel kf8 kt hox hof HO0 HG0 kf0 kf1 kf2 kf3 kf4 kf5 kf6 kf7 hw1 hw2 hw3 hw4 hw5 hw6 hw7
            go_wp2
            go_roundw
            case rel =>
              refine ⟨q + 1, by omega, by go_num, ?_, g_set HG2.out T _⟩
              have hs := filN_set (lifeL xs ys zs R C rd) n T HTL.out hTn
              rw [HTX.out] at hs
              rw [show p * C + (q + 1) = T + 1 by have := HT.out; omega, ← hs]
              exact HO2.out.set T x
            case measure => simp [intOf]; omega
          · have hqR : C = q := by omega
            have HO2 := hid hown
            have HG2 := hid hg
            clear hown hg
            subst hqR
            go_wp2
            go_roundw
            case rel =>
              refine ⟨p + 1, by omega, by go_num, ?_, HG2.out⟩
              rw [Nat.succ_mul]
              exact HO2.out
            case measure => simp [intOf]; omega
      · have hpC : R = p := by omega
        subst hpC
        rw [show R * C = n by rw [HN.out], filN_all _ _ HTL.out] at hown
        have kTr := g_heap hg HC4.out.2.2.1 HNE.out.1
        have HB := hid (g_below HC4.out.1.1 hg HLO.out)
        have HLo : Hid (w.heap.size ≤ b') := HLO.out
        have HNB : Hid (NT ≠ b') := HNE.out.1
        have HO := hid hown
        have n0 := g_cell hg (Go.Joins.cell_of_block HC4.out.2.2.2.1 0) HNE.out.2.1
        have n1 := g_cell hg (Go.Joins.cell_of_block HC4.out.2.2.2.1 1) HNE.out.2.1
        have n2 := g_cell hg (Go.Joins.cell_of_block HC4.out.2.2.2.1 2) HNE.out.2.1
        clear hown hg
        have y0 : wr.cell? ⟨NT, 0, none⟩ = some (.int .i64 0) := Go.Joins.cell_of_block kTr 0
        have y1 : wr.cell? ⟨NT, 1, none⟩ = some (.int .i64 0) := Go.Joins.cell_of_block kTr 1
        have y2 : wr.cell? ⟨NT, 2, none⟩ = some (.slice none 0 0) := Go.Joins.cell_of_block kTr 2
        have g0 : wr.frozen? ⟨NT, 0, none⟩ = false := Go.Joins.unfrozen_of_block kTr 0
        have g1 : wr.frozen? ⟨NT, 1, none⟩ = false := Go.Joins.unfrozen_of_block kTr 1
        have g2 : wr.frozen? ⟨NT, 2, none⟩ = false := Go.Joins.unfrozen_of_block kTr 2
        have HKx := hid kTr
        clear kTr
        go_wp2
        obtain ⟨W5, hW⟩ : ∃ W5, W5 = (((wr.setCell ⟨NT, 0, none⟩ (.int .i64 R)).setCell ⟨NT, 1, none⟩ (.int .i64 C)).setCell ⟨NT, 2, none⟩ (.slice (some ⟨b', 0, none⟩) n n)) := ⟨_, rfl⟩
        have q0 := (Go.Joins.block_setCell (i := 2) (Go.Joins.block_setCell (i := 1) (Go.Joins.block_setCell (i := 0) HKx.out (.int .i64 R)) (.int .i64 C)) (.slice (some ⟨b', 0, none⟩) n n))
        rw [← hW] at q0
        have z0 : W5.cell? ⟨NT, 0, none⟩ = some (.int .i64 R) := Go.Joins.cell_of_block q0 0
        have z1 : W5.cell? ⟨NT, 1, none⟩ = some (.int .i64 C) := Go.Joins.cell_of_block q0 1
        have z2 : W5.cell? ⟨NT, 2, none⟩ = some (.slice (some ⟨b', 0, none⟩) n n) := Go.Joins.cell_of_block q0 2
        have O5 := (own_set (own_set (own_set HO.out ⟨NT, 0, none⟩ (.int .i64 R) HNB.out) ⟨NT, 1, none⟩ (.int .i64 C) HNB.out) ⟨NT, 2, none⟩ (.slice (some ⟨b', 0, none⟩) n n) HNB.out)
        rw [← hW] at O5
        have B5 : Below w.heap.size w W5 := by
          have h1 := HNT.out
          rw [hW]
          exact ((HB.out.setCell (by simp; omega) _).setCell (by simp; omega) _).setCell (by simp; omega) _
        simp only [← hW]
        clear hW q0
        simp [bodyPost, results, Try.results102, go_sem, z0, z1, z2]
        exact ⟨O5, HLo.out, B5⟩


end Go.Proofs.Ythcbhbdgbiiagaa.Nf
