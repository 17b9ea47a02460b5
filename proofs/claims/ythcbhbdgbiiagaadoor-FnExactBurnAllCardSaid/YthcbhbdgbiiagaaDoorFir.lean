/- fireAfter: a fire that spreads once, the program. -/
import Derived.Test.YthcbhbdgbiiagaaDoorBes
import Derived.Test.YthcbhbdgbiiagaaDoorBox
import Derived.Deep.Cut
namespace Go.Proofs.YthcbhbdgbiiagaaDoor.Fir
open Go.RowKit Go.Shelf Go.Proofs.YthcbhbdgbiiagaaDoor.Rd Go.Proofs.YthcbhbdgbiiagaaDoor.Help Go.Proofs.YthcbhbdgbiiagaaDoor.Ring Go.Proofs.YthcbhbdgbiiagaaDoor.Small Go.Proofs.YthcbhbdgbiiagaaDoor.FVal Go.Proofs.YthcbhbdgbiiagaaDoor.Keep Go.Proofs.YthcbhbdgbiiagaaDoor.Rule Go.Proofs.YthcbhbdgbiiagaaDoor.Grow Go.Proofs.YthcbhbdgbiiagaaDoor.Bes Go.Proofs.YthcbhbdgbiiagaaDoor.Box Go.Proofs.YthcbhbdgbiiagaaDoor.FMir
set_option linter.unusedVariables false
set_option linter.unusedSimpArgs false
attribute [local go_sem] Oper.semAt_some

def burnt (zs : List Int) (R C p i : Nat) : Bool := (List.range p).any fun j => decide (zs.getD j 0 = 2) && (besL R C j 4).contains i
/-- A cell when the fires ahead of p have spread. -/
def fv (zs : List Int) (R C p i : Nat) : Int := if zs.getD i 0 = 2 then (if i < p then 0 else 2) else if zs.getD i 0 = 1 ∧ burnt zs R C p i = true then 2 else zs.getD i 0
/-- A cell when, besides, the fire of p has spread to the places pre. -/
def fvI (zs : List Int) (R C p : Nat) (pre : List Nat) (i : Nat) : Int := if zs.getD i 0 = 2 then (if i < p + 1 then 0 else 2) else if zs.getD i 0 = 1 ∧ (burnt zs R C p i || pre.contains i) = true then 2 else zs.getD i 0
theorem burnt_succ (zs : List Int) (R C p i : Nat) : burnt zs R C (p + 1) i = (burnt zs R C p i || (decide (zs.getD p 0 = 2) && (besL R C p 4).contains i)) := by
  unfold burnt; rw [List.range_succ, List.any_append]; simp
theorem fv_zero (zs : List Int) (R C i : Nat) : fv zs R C 0 i = zs.getD i 0 := by
  unfold fv burnt
  simp
  intro h; exact h.symm
theorem fv_skip {zs : List Int} {R C p : Nat} (h : zs.getD p 0 ≠ 2) (i : Nat) : fv zs R C p i = fv zs R C (p + 1) i := by
  unfold fv
  rw [burnt_succ, decide_eq_false h, Bool.false_and, Bool.or_false]
  by_cases hi : zs.getD i 0 = 2
  · rw [if_pos hi, if_pos hi]
    have : i ≠ p := fun e => h (e ▸ hi)
    by_cases hp : i < p
    · rw [if_pos hp, if_pos (by omega)]
    · rw [if_neg hp, if_neg (by omega)]
  · rw [if_neg hi, if_neg hi]
theorem fv_start {zs : List Int} {R C p : Nat} (h : zs.getD p 0 = 2) (i : Nat) : (if i = p then 0 else fv zs R C p i) = fvI zs R C p [] i := by
  unfold fv fvI
  by_cases hp : i = p
  · subst hp
    rw [if_pos rfl, if_pos h, if_pos (by omega)]
  · rw [if_neg hp]
    by_cases hi : zs.getD i 0 = 2
    · rw [if_pos hi, if_pos hi]
      by_cases hq : i < p
      · rw [if_pos hq, if_pos (by omega)]
      · rw [if_neg hq, if_neg (by omega)]
    · rw [if_neg hi, if_neg hi]; simp
theorem fvI_one {zs : List Int} {R C p x : Nat} {pre : List Nat} (h : zs.getD x 0 = 1) (i : Nat) : (if i = x then 2 else fvI zs R C p pre i) = fvI zs R C p (pre ++ [x]) i := by
  unfold fvI
  by_cases hp : i = x
  · subst hp
    rw [if_pos rfl, if_neg (by rw [h]; decide), if_pos ⟨h, by simp⟩]
  · rw [if_neg hp]
    have : (pre ++ [x]).contains i = pre.contains i := by simp [hp]
    rw [this]
theorem fvI_skip {zs : List Int} {R C p x : Nat} {pre : List Nat} (h : zs.getD x 0 ≠ 1) (i : Nat) : fvI zs R C p pre i = fvI zs R C p (pre ++ [x]) i := by
  unfold fvI
  by_cases hi : zs.getD i 0 = 1
  · have hne : i ≠ x := fun e => h (e ▸ hi)
    have : (pre ++ [x]).contains i = pre.contains i := by simp [hne]
    rw [this]
  · by_cases h2 : zs.getD i 0 = 2
    · rw [if_pos h2, if_pos h2]
    · rw [if_neg h2, if_neg h2, if_neg (fun e => hi e.1), if_neg (fun e => hi e.1)]
theorem fvI_end {zs : List Int} {R C p : Nat} (h : zs.getD p 0 = 2) (i : Nat) : fvI zs R C p (besL R C p 4) i = fv zs R C (p + 1) i := by
  unfold fvI fv
  rw [burnt_succ, decide_eq_true h, Bool.true_and]
def fireL (zs : List Int) (R C n : Nat) : List Int := (List.range n).map (fv zs R C n)

set_option maxHeartbeats 16000000 in
set_option maxRecDepth 100000 in
theorem fireAfter {w : World} {R C n : Nat} {b : Nat} {v : Value} {zs : List Int} (h : Rd w b v zs) (hq : fieldB R C zs = true) (hn : n = R * C) (hg : GW w) :
    Calls Tryd.prog 37 #[ruleV R C v] w fun e w' => ∃ b' k, e = .returned (ruleV R C (.slice (some ⟨b', 0, none⟩) n k)) ∧ Rd.Own 2 w' b' (.slice (some ⟨b', 0, none⟩) n k) (fireL zs R C n) ∧ w.heap.size ≤ b' ∧ Below w.heap.size w w' := by
  obtain ⟨hR, hC, hl, hle⟩ := field_nat hq
  have HH0 := hid h
  obtain ⟨ao, cap, rfl, hc, hm, h4⟩ := h
  rw [← hn] at hle
  have hpos : 0 < zs.length := by rw [hl]; exact Nat.mul_pos hR.1 hC.1
  obtain ⟨off, rfl, hb, hcell⟩ := h4 hpos
  have hln : zs.length = n := by rw [hn]; exact hl
  have HH : Hid (Rd w b (.slice (some ⟨b, off, none⟩) n cap) zs) := by simp only [Hid]; rw [← hln]; exact HH0.out
  clear HH0
  rw [hln] at hc hcell ⊢
  have hsz : n ≤ cap ∧ cap ≤ 9223372036854775807 := by unfold maxLen at hm; omega
  have HL := hid hln
  have HZ : Hid (1 ≤ zs.length ∧ zs.length ≤ 1048576) := by simp only [Hid]; omega
  have HN := hid hn
  have HB0 := hid hb
  have HCell := hid hcell
  have HGW := hid hg
  have hn5 : 1 ≤ n ∧ n ≤ 576 := by omega
  clear hc hm h4 hq hn hl hpos hb hcell hln hg hle
  refine (callsIn_wide (n := 9)).1 ?_
  refine callsIn_of_wp_marks Tryd.func37 rfl trivial ?_ rfl
  refine wpIn_wide.2 ?_
  simp only [Tryd.ntmps37, List.size_toArray, List.length_cons, List.length_nil, Nat.reduceAdd, Nat.reduceSub, Array.replicate_succ, Array.replicate_zero, List.push_toArray, List.append_toArray, List.nil_append, List.cons_append]
  go_upto_region 1 with fail
  obtain ⟨w1, hW⟩ : ∃ w1, w1 = (w.alloc (Obj.cells #[.int .i64 R, .int .i64 C, .slice (some ⟨b, off, none⟩) n cap] 26)).alloc (Obj.cells #[.int .i64 0, .int .i64 0, .slice none 0 0] 26) := ⟨_, rfl⟩
  obtain ⟨NF, hN⟩ : ∃ NF, NF = w.heap.size := ⟨_, rfl⟩
  obtain ⟨NT, hT⟩ : ∃ NT, NT = NF + 1 := ⟨_, rfl⟩
  have HB1 : Hid (Below w.heap.size w w1) := by simp only [Hid]; rw [hW]; exact Go.Joins.below_alloc2 _ _ _
  have HF0 : Hid (w1.heap[NF]? = some (Obj.cells #[.int .i64 R, .int .i64 C, .slice (some ⟨b, off, none⟩) n cap] 26)) := by simp only [Hid]; rw [hW]; exact FNew.heap_old (FNew.heap_top hN)
  have HK0 : Hid (w1.heap[NT]? = some (Obj.cells #[.int .i64 0, .int .i64 0, .slice none 0 0] 26)) := by simp only [Hid]; rw [hW]; exact FNew.heap_top (by rw [hT, hN]; simp)
  have HM : Hid (w1.cell? ⟨NF, 0, none⟩ = some (.int .i64 R) ∧ w1.cell? ⟨NF, 1, none⟩ = some (.int .i64 C) ∧ w1.cell? ⟨NF, 2, none⟩ = some (.slice (some ⟨b, off, none⟩) n cap)) := ⟨Go.Joins.cell_of_block HF0.out 0, Go.Joins.cell_of_block HF0.out 1, Go.Joins.cell_of_block HF0.out 2⟩
  have HNT : Hid (w.heap.size ≤ NT) := by simp only [Hid]; omega
  simp only [← hW, ← hN, ← hT]
  clear hW hN hT
  go_cut [3, 4] from 8 (fun p q wc => ∃ NX NE b' k : Nat, p = .pointer (some ⟨NX, 0, none⟩) ∧ q = .pointer (some ⟨NE, 0, none⟩) ∧ Rd.Own 2 wc b' (.slice (some ⟨b', 0, none⟩) n k) zs ∧ wc.heap[NX]? = some (Obj.cells #[.int .i64 R, .int .i64 C, .slice (some ⟨b', 0, none⟩) n k] 26) ∧ wc.heap[NE]? = some (Obj.cells #[.int .i64 R, .int .i64 C] 60) ∧ wc.heap[NF]? = some (Obj.cells #[.int .i64 R, .int .i64 C, .slice (some ⟨b, off, none⟩) n cap] 26) ∧ wc.heap[NT]? = some (Obj.cells #[.int .i64 0, .int .i64 0, .slice none 0 0] 26) ∧ w.heap.size ≤ b' ∧ NX ≠ b' ∧ NE ≠ b' ∧ NF ≠ b' ∧ NT ≠ b' ∧ w.heap.size ≤ NT ∧ Below w.heap.size w wc)
  case first =>
    refine wp_noPanic ?_
    refine wp_region_held_drew (S := (fun ww => Below w.heap.size w ww ∧ ww.cell? ⟨NF, 0, none⟩ = some (.int .i64 R) ∧ ww.cell? ⟨NF, 1, none⟩ = some (.int .i64 C) ∧ ww.cell? ⟨NF, 2, none⟩ = some (.slice (some ⟨b, off, none⟩) n cap) ∧ w.heap.size ≤ ww.heap.size)) (by kernel_rfl) ?_ (fun hHeld => ?_)
    · ((try dsimp only); exact ⟨HB1.out.drew, HM.out.1, HM.out.2.1, HM.out.2.2, HB1.out.drew.size⟩)
    generalize hD : w1.drew = wD at hHeld ⊢
    have HKT : Hid (wD.heap[NT]? = some (Obj.cells #[.int .i64 0, .int .i64 0, .slice none 0 0] 26)) := by simp only [Hid]; rw [← hD]; exact HK0.out
    have HKF : Hid (wD.heap[NF]? = some (Obj.cells #[.int .i64 R, .int .i64 C, .slice (some ⟨b, off, none⟩) n cap] 26)) := by simp only [Hid]; rw [← hD]; exact HF0.out
    have HD0 := hid hHeld
    clear hD
    have belD : Below wD.heap.size wD wD := Below.refl _ _
    (refine wpAnyH_take (i := 0) (v := ?_) rfl ?_ ?_ ?_ (fun _ _ _ h => h) (Or.inl ⟨?_, ?_⟩) ?_ ?_; rotate_left 1; (focus decide +kernel); (focus decide +kernel); (focus decide +kernel); (focus rfl); (focus (intro w hSw; (try dsimp only at hSw); go_simp; (try (with_reducible rfl)); done)); (focus assumption); (try simp only [Act.put, List.setIfInBounds_toArray, List.set_cons_zero, List.set_cons_succ, List.getElem_toArray, List.getElem_cons_succ, List.getElem_cons_zero]))
    (refine wpAnyH_take (i := 2) (v := ?_) rfl ?_ ?_ ?_ (fun _ _ _ h => h) (Or.inl ⟨?_, ?_⟩) ?_ ?_; rotate_left 1; (focus decide +kernel); (focus decide +kernel); (focus decide +kernel); (focus rfl); (focus (intro w hSw; (try dsimp only at hSw); go_simp; (try (with_reducible rfl)); done)); (focus assumption); (try simp only [Act.put, List.setIfInBounds_toArray, List.set_cons_zero, List.set_cons_succ, List.getElem_toArray, List.getElem_cons_succ, List.getElem_cons_zero]))
    refine wpAnyH_ready (rs := [1, 4, 5]) ?_ (by simp) ?_
    · decide +kernel
    refine AllReadyH.cons rfl (fun K hK => ?_) (AllReadyH.cons rfl (fun K hK => ?_) (AllReadyH.cons rfl (fun K hK => ?_) AllReadyH.nil))
    · go_simp
      go_at_call 32
      refine (copyOfN (HH.out.keep (HD0.out.1.trans (belD.mono HD0.out.1.size)) (Nat.le_refl _)) HZ.out HL.out).mono ?_
      rintro e wc ⟨b', k, rfl, oC, loC, bel⟩
      have lmC : wD.heap.size ≤ b' := Nat.le_trans belD.size loC
      clear loC
      replace belD := belD.trans (bel.mono belD.size)
      refine hK.out _ _ ?_ (fun hHeld2 => ?_)
      · (try dsimp only); exact next3_0 belD HD0.out
      clear hK K hHeld bel
      have hHeld := hHeld2
      clear hHeld2
      (try simp only [Act.put, List.setIfInBounds_toArray, List.set_cons_zero, List.set_cons_succ, List.getElem_toArray, List.getElem_cons_succ, List.getElem_cons_zero])
      refine wpAnyH_ready (rs := [3, 4, 5]) ?_ (by simp) ?_
      · decide +kernel
      refine AllReadyH.cons rfl (fun K hK => ?_) (AllReadyH.cons rfl (fun K hK => ?_) (AllReadyH.cons rfl (fun K hK => ?_) AllReadyH.nil))
      · go_simp
        go_at_call 50
        refine (extentOf).mono ?_
        rintro e we ⟨rfl, bel⟩
        replace belD := belD.trans (bel.mono belD.size)
        replace oC := oC.keep bel
        refine hK.out _ _ ?_ (fun hHeld2 => ?_)
        · (try dsimp only); exact next3_0 belD HD0.out
        clear hK K hHeld bel
        have hHeld := hHeld2
        clear hHeld2
        (try simp only [Act.put, List.setIfInBounds_toArray, List.set_cons_zero, List.set_cons_succ, List.getElem_toArray, List.getElem_cons_succ, List.getElem_cons_zero])
        refine wpAnyH_ready (rs := [4, 5]) ?_ (by simp) ?_
        · decide +kernel
        refine AllReadyH.cons rfl (fun K hK => ?_) (AllReadyH.cons rfl (fun K hK => ?_) AllReadyH.nil)
        · go_simp
          have bel := below1 we (Obj.cells #[.int .i64 0, .int .i64 0, .slice none 0 0] 26)
          have lmS := belD.size
          have ltC := (oC.lt)
          replace belD := belD.trans (bel.mono belD.size)
          replace oC := oC.keep bel
          refine hK.out _ _ ?_ (fun hHeld2 => ?_)
          · (try dsimp only); exact next3_0 belD HD0.out
          clear hK K hHeld bel
          obtain ⟨vo, hWa⟩ : ∃ vo, vo = we.alloc (Obj.cells #[.int .i64 0, .int .i64 0, .slice none 0 0] 26) := ⟨_, rfl⟩
          obtain ⟨NX, hNa⟩ : ∃ NX, NX = we.heap.size := ⟨_, rfl⟩
          have kX : vo.heap[NX]? = some (Obj.cells #[.int .i64 0, .int .i64 0, .slice none 0 0] 26) := by rw [hWa]; exact FNew.heap_top hNa
          have lmX : wD.heap.size ≤ NX := by rw [hNa]; exact lmS
          clear lmS
          have nC_X : b' ≠ NX := by rw [hNa]; exact Nat.ne_of_lt ltC
          clear ltC
          rw [← hWa] at belD oC
          (try dsimp only at hHeld2)
          simp only [← hWa, ← hNa] at hHeld2 ⊢
          clear hWa hNa
          have hHeld := hHeld2
          clear hHeld2
          (try simp only [Act.put, List.setIfInBounds_toArray, List.set_cons_zero, List.set_cons_succ, List.getElem_toArray, List.getElem_cons_succ, List.getElem_cons_zero])
          refine wpAnyH_ready (rs := [5]) ?_ (by simp) ?_
          · decide +kernel
          refine AllReadyH.cons rfl (fun K hK => ?_) AllReadyH.nil
          go_simp
          have bel := below1 vo (Obj.cells #[.int .i64 0, .int .i64 0] 60)
          have lmS := belD.size
          have ltC := (oC.lt)
          have ltX := (heap_lt kX)
          replace belD := belD.trans (bel.mono belD.size)
          replace oC := oC.keep bel
          replace kX := heap_keep bel kX
          refine hK.out _ _ ?_ (fun hHeld2 => ?_)
          · (try dsimp only); exact next3_0 belD HD0.out
          clear hK K hHeld bel
          obtain ⟨ve, hWa⟩ : ∃ ve, ve = vo.alloc (Obj.cells #[.int .i64 0, .int .i64 0] 60) := ⟨_, rfl⟩
          obtain ⟨NE, hNa⟩ : ∃ NE, NE = vo.heap.size := ⟨_, rfl⟩
          have kE : ve.heap[NE]? = some (Obj.cells #[.int .i64 0, .int .i64 0] 60) := by rw [hWa]; exact FNew.heap_top hNa
          have lmE : wD.heap.size ≤ NE := by rw [hNa]; exact lmS
          clear lmS
          have nC_E : b' ≠ NE := by rw [hNa]; exact Nat.ne_of_lt ltC
          clear ltC
          have nX_E : NX ≠ NE := by rw [hNa]; exact Nat.ne_of_lt ltX
          clear ltX
          rw [← hWa] at belD oC kX
          (try dsimp only at hHeld2)
          simp only [← hWa, ← hNa] at hHeld2 ⊢
          clear hWa hNa
          have hHeld := hHeld2
          clear hHeld2
          (try simp only [Act.put, List.setIfInBounds_toArray, List.set_cons_zero, List.set_cons_succ, List.getElem_toArray, List.getElem_cons_succ, List.getElem_cons_zero])
          refine wpAnyH_ready (rs := [6]) ?_ (by simp) ?_
          · decide +kernel
          refine AllReadyH.cons rfl (fun K hK => ?_) AllReadyH.nil
          have y0 : ve.cell? ⟨NX, 0, none⟩ = some (.int .i64 0) := Go.Joins.cell_of_block kX 0
          have y1 : ve.cell? ⟨NX, 1, none⟩ = some (.int .i64 0) := Go.Joins.cell_of_block kX 1
          have y2 : ve.cell? ⟨NX, 2, none⟩ = some (.slice none 0 0) := Go.Joins.cell_of_block kX 2
          have g0 : ve.frozen? ⟨NX, 0, none⟩ = false := Go.Joins.unfrozen_of_block kX 0
          have g1 : ve.frozen? ⟨NX, 1, none⟩ = false := Go.Joins.unfrozen_of_block kX 1
          have g2 : ve.frozen? ⟨NX, 2, none⟩ = false := Go.Joins.unfrozen_of_block kX 2
          have HKX := hid kX
          clear kX
          have HKE := hid kE
          clear kE
          go_simp
          clear y0 g0 y1 g1 y2 g2
          have qX := (Go.Joins.block_setCell (i := 2) (Go.Joins.block_setCell (i := 1) (Go.Joins.block_setCell (i := 0) HKX.out (.int .i64 R)) (.int .i64 C)) (.slice (some ⟨b', 0, none⟩) n k))
          have bz := (((belD.setCell (p := ⟨NX, 0, none⟩) lmX (.int .i64 R)).setCell (p := ⟨NX, 1, none⟩) lmX (.int .i64 C)).setCell (p := ⟨NX, 2, none⟩) lmX (.slice (some ⟨b', 0, none⟩) n k))
          have qC := (own_set (own_set (own_set oC ⟨NX, 0, none⟩ (.int .i64 R) (Ne.symm nC_X)) ⟨NX, 1, none⟩ (.int .i64 C) (Ne.symm nC_X)) ⟨NX, 2, none⟩ (.slice (some ⟨b', 0, none⟩) n k) (Ne.symm nC_X))
          have qE := ((Below.heap_setCell _ ⟨NX, 2, none⟩ (.slice (some ⟨b', 0, none⟩) n k) _ (Ne.symm nX_E)).trans ((Below.heap_setCell _ ⟨NX, 1, none⟩ (.int .i64 C) _ (Ne.symm nX_E)).trans ((Below.heap_setCell _ ⟨NX, 0, none⟩ (.int .i64 R) _ (Ne.symm nX_E)).trans HKE.out)))
          obtain ⟨ws, hW5⟩ : ∃ ws, ws = (((ve.setCell ⟨NX, 0, none⟩ (.int .i64 R)).setCell ⟨NX, 1, none⟩ (.int .i64 C)).setCell ⟨NX, 2, none⟩ (.slice (some ⟨b', 0, none⟩) n k)) := ⟨_, rfl⟩
          rw [← hW5] at qX bz qC qE
          clear HKX belD oC HKE
          have kX : ws.heap[NX]? = some (Obj.cells #[.int .i64 R, .int .i64 C, .slice (some ⟨b', 0, none⟩) n k] 26) := qX
          have belD := bz
          have oC := qC
          have kE := qE
          clear qX bz qC qE
          refine hK.out _ _ ?_ (fun hHeld2 => ?_)
          · (try dsimp only); rw [← hW5]; exact next3_0 belD HD0.out
          clear hK K hHeld
          (try dsimp only at hHeld2)
          simp only [← hW5] at hHeld2 ⊢
          clear hW5
          have hHeld := hHeld2
          clear hHeld2
          (try simp only [Act.put, List.setIfInBounds_toArray, List.set_cons_zero, List.set_cons_succ, List.getElem_toArray, List.getElem_cons_succ, List.getElem_cons_zero])
          refine wpAnyH_ready (rs := [7]) ?_ (by simp) ?_
          · decide +kernel
          refine AllReadyH.cons rfl (fun K hK => ?_) AllReadyH.nil
          have y0 : ws.cell? ⟨NE, 0, none⟩ = some (.int .i64 0) := Go.Joins.cell_of_block kE 0
          have y1 : ws.cell? ⟨NE, 1, none⟩ = some (.int .i64 0) := Go.Joins.cell_of_block kE 1
          have g0 : ws.frozen? ⟨NE, 0, none⟩ = false := Go.Joins.unfrozen_of_block kE 0
          have g1 : ws.frozen? ⟨NE, 1, none⟩ = false := Go.Joins.unfrozen_of_block kE 1
          have HKE := hid kE
          clear kE
          have HKX := hid kX
          clear kX
          go_simp
          clear y0 g0 y1 g1
          have qE := (Go.Joins.block_setCell (i := 1) (Go.Joins.block_setCell (i := 0) HKE.out (.int .i64 R)) (.int .i64 C))
          have bz := ((belD.setCell (p := ⟨NE, 0, none⟩) lmE (.int .i64 R)).setCell (p := ⟨NE, 1, none⟩) lmE (.int .i64 C))
          have qC := (own_set (own_set oC ⟨NE, 0, none⟩ (.int .i64 R) (Ne.symm nC_E)) ⟨NE, 1, none⟩ (.int .i64 C) (Ne.symm nC_E))
          have qX := ((Below.heap_setCell _ ⟨NE, 1, none⟩ (.int .i64 C) _ nX_E).trans ((Below.heap_setCell _ ⟨NE, 0, none⟩ (.int .i64 R) _ nX_E).trans HKX.out))
          obtain ⟨wz, hW5⟩ : ∃ wz, wz = ((ws.setCell ⟨NE, 0, none⟩ (.int .i64 R)).setCell ⟨NE, 1, none⟩ (.int .i64 C)) := ⟨_, rfl⟩
          rw [← hW5] at qE bz qC qX
          clear HKE belD oC HKX
          have kE : wz.heap[NE]? = some (Obj.cells #[.int .i64 R, .int .i64 C] 60) := qE
          have belD := bz
          have oC := qC
          have kX := qX
          clear qE bz qC qX
          refine hK.out _ _ ?_ (fun hHeld2 => ?_)
          · (try dsimp only); rw [← hW5]; exact next3_0 belD HD0.out
          clear hK K hHeld
          (try dsimp only at hHeld2)
          simp only [← hW5] at hHeld2 ⊢
          clear hW5
          have hHeld := hHeld2
          clear hHeld2
          (try simp only [Act.put, List.setIfInBounds_toArray, List.set_cons_zero, List.set_cons_succ, List.getElem_toArray, List.getElem_cons_succ, List.getElem_cons_zero])
          refine wpAnyH_done (by kernel_rfl) ?_ _
          clear hHeld
          have hfin : Rd.Own 2 wz b' (.slice (some ⟨b', 0, none⟩) n k) zs ∧ wz.heap[NX]? = some (Obj.cells #[.int .i64 R, .int .i64 C, .slice (some ⟨b', 0, none⟩) n k] 26) ∧ wz.heap[NE]? = some (Obj.cells #[.int .i64 R, .int .i64 C] 60) ∧ wz.heap[NF]? = some (Obj.cells #[.int .i64 R, .int .i64 C, .slice (some ⟨b, off, none⟩) n cap] 26) ∧ wz.heap[NT]? = some (Obj.cells #[.int .i64 0, .int .i64 0, .slice none 0 0] 26) ∧ w.heap.size ≤ b' ∧ NX ≠ b' ∧ NE ≠ b' ∧ NF ≠ b' ∧ NT ≠ b' ∧ w.heap.size ≤ NT ∧ Below w.heap.size w wz := ⟨oC, kX, kE, heap_keep belD HKF.out, heap_keep belD HKT.out, Nat.le_trans HD0.out.1.size lmC, (Ne.symm nC_X), (Ne.symm nC_E), Nat.ne_of_lt (Nat.lt_of_lt_of_le (heap_lt HKF.out) lmC), Nat.ne_of_lt (Nat.lt_of_lt_of_le (heap_lt HKT.out) lmC), HNT.out, (HD0.out.1.trans (belD.mono HD0.out.1.size))⟩
          have HFI := hid hfin
          clear hfin oC kX kE belD
          go_wp2_with fail
          go_meet
          case rel => exact ⟨NX, NE, b', k, rfl, rfl, HFI.out⟩
        · go_simp
          have bel := below1 we (Obj.cells #[.int .i64 0, .int .i64 0] 60)
          have lmS := belD.size
          have ltC := (oC.lt)
          replace belD := belD.trans (bel.mono belD.size)
          replace oC := oC.keep bel
          refine hK.out _ _ ?_ (fun hHeld2 => ?_)
          · (try dsimp only); exact next3_0 belD HD0.out
          clear hK K hHeld bel
          obtain ⟨ve, hWa⟩ : ∃ ve, ve = we.alloc (Obj.cells #[.int .i64 0, .int .i64 0] 60) := ⟨_, rfl⟩
          obtain ⟨NE, hNa⟩ : ∃ NE, NE = we.heap.size := ⟨_, rfl⟩
          have kE : ve.heap[NE]? = some (Obj.cells #[.int .i64 0, .int .i64 0] 60) := by rw [hWa]; exact FNew.heap_top hNa
          have lmE : wD.heap.size ≤ NE := by rw [hNa]; exact lmS
          clear lmS
          have nC_E : b' ≠ NE := by rw [hNa]; exact Nat.ne_of_lt ltC
          clear ltC
          rw [← hWa] at belD oC
          (try dsimp only at hHeld2)
          simp only [← hWa, ← hNa] at hHeld2 ⊢
          clear hWa hNa
          have hHeld := hHeld2
          clear hHeld2
          (try simp only [Act.put, List.setIfInBounds_toArray, List.set_cons_zero, List.set_cons_succ, List.getElem_toArray, List.getElem_cons_succ, List.getElem_cons_zero])
          refine wpAnyH_ready (rs := [4]) ?_ (by simp) ?_
          · decide +kernel
          refine AllReadyH.cons rfl (fun K hK => ?_) AllReadyH.nil
          go_simp
          have bel := below1 ve (Obj.cells #[.int .i64 0, .int .i64 0, .slice none 0 0] 26)
          have lmS := belD.size
          have ltC := (oC.lt)
          have ltE := (heap_lt kE)
          replace belD := belD.trans (bel.mono belD.size)
          replace oC := oC.keep bel
          replace kE := heap_keep bel kE
          refine hK.out _ _ ?_ (fun hHeld2 => ?_)
          · (try dsimp only); exact next3_0 belD HD0.out
          clear hK K hHeld bel
          obtain ⟨vo, hWa⟩ : ∃ vo, vo = ve.alloc (Obj.cells #[.int .i64 0, .int .i64 0, .slice none 0 0] 26) := ⟨_, rfl⟩
          obtain ⟨NX, hNa⟩ : ∃ NX, NX = ve.heap.size := ⟨_, rfl⟩
          have kX : vo.heap[NX]? = some (Obj.cells #[.int .i64 0, .int .i64 0, .slice none 0 0] 26) := by rw [hWa]; exact FNew.heap_top hNa
          have lmX : wD.heap.size ≤ NX := by rw [hNa]; exact lmS
          clear lmS
          have nC_X : b' ≠ NX := by rw [hNa]; exact Nat.ne_of_lt ltC
          clear ltC
          have nE_X : NE ≠ NX := by rw [hNa]; exact Nat.ne_of_lt ltE
          clear ltE
          rw [← hWa] at belD oC kE
          (try dsimp only at hHeld2)
          simp only [← hWa, ← hNa] at hHeld2 ⊢
          clear hWa hNa
          have hHeld := hHeld2
          clear hHeld2
          (try simp only [Act.put, List.setIfInBounds_toArray, List.set_cons_zero, List.set_cons_succ, List.getElem_toArray, List.getElem_cons_succ, List.getElem_cons_zero])
          refine wpAnyH_ready (rs := [6]) ?_ (by simp) ?_
          · decide +kernel
          refine AllReadyH.cons rfl (fun K hK => ?_) AllReadyH.nil
          have y0 : vo.cell? ⟨NX, 0, none⟩ = some (.int .i64 0) := Go.Joins.cell_of_block kX 0
          have y1 : vo.cell? ⟨NX, 1, none⟩ = some (.int .i64 0) := Go.Joins.cell_of_block kX 1
          have y2 : vo.cell? ⟨NX, 2, none⟩ = some (.slice none 0 0) := Go.Joins.cell_of_block kX 2
          have g0 : vo.frozen? ⟨NX, 0, none⟩ = false := Go.Joins.unfrozen_of_block kX 0
          have g1 : vo.frozen? ⟨NX, 1, none⟩ = false := Go.Joins.unfrozen_of_block kX 1
          have g2 : vo.frozen? ⟨NX, 2, none⟩ = false := Go.Joins.unfrozen_of_block kX 2
          have HKX := hid kX
          clear kX
          have HKE := hid kE
          clear kE
          go_simp
          clear y0 g0 y1 g1 y2 g2
          have qX := (Go.Joins.block_setCell (i := 2) (Go.Joins.block_setCell (i := 1) (Go.Joins.block_setCell (i := 0) HKX.out (.int .i64 R)) (.int .i64 C)) (.slice (some ⟨b', 0, none⟩) n k))
          have bz := (((belD.setCell (p := ⟨NX, 0, none⟩) lmX (.int .i64 R)).setCell (p := ⟨NX, 1, none⟩) lmX (.int .i64 C)).setCell (p := ⟨NX, 2, none⟩) lmX (.slice (some ⟨b', 0, none⟩) n k))
          have qC := (own_set (own_set (own_set oC ⟨NX, 0, none⟩ (.int .i64 R) (Ne.symm nC_X)) ⟨NX, 1, none⟩ (.int .i64 C) (Ne.symm nC_X)) ⟨NX, 2, none⟩ (.slice (some ⟨b', 0, none⟩) n k) (Ne.symm nC_X))
          have qE := ((Below.heap_setCell _ ⟨NX, 2, none⟩ (.slice (some ⟨b', 0, none⟩) n k) _ nE_X).trans ((Below.heap_setCell _ ⟨NX, 1, none⟩ (.int .i64 C) _ nE_X).trans ((Below.heap_setCell _ ⟨NX, 0, none⟩ (.int .i64 R) _ nE_X).trans HKE.out)))
          obtain ⟨ws, hW5⟩ : ∃ ws, ws = (((vo.setCell ⟨NX, 0, none⟩ (.int .i64 R)).setCell ⟨NX, 1, none⟩ (.int .i64 C)).setCell ⟨NX, 2, none⟩ (.slice (some ⟨b', 0, none⟩) n k)) := ⟨_, rfl⟩
          rw [← hW5] at qX bz qC qE
          clear HKX belD oC HKE
          have kX : ws.heap[NX]? = some (Obj.cells #[.int .i64 R, .int .i64 C, .slice (some ⟨b', 0, none⟩) n k] 26) := qX
          have belD := bz
          have oC := qC
          have kE := qE
          clear qX bz qC qE
          refine hK.out _ _ ?_ (fun hHeld2 => ?_)
          · (try dsimp only); rw [← hW5]; exact next3_0 belD HD0.out
          clear hK K hHeld
          (try dsimp only at hHeld2)
          simp only [← hW5] at hHeld2 ⊢
          clear hW5
          have hHeld := hHeld2
          clear hHeld2
          (try simp only [Act.put, List.setIfInBounds_toArray, List.set_cons_zero, List.set_cons_succ, List.getElem_toArray, List.getElem_cons_succ, List.getElem_cons_zero])
          refine wpAnyH_ready (rs := [7]) ?_ (by simp) ?_
          · decide +kernel
          refine AllReadyH.cons rfl (fun K hK => ?_) AllReadyH.nil
          have y0 : ws.cell? ⟨NE, 0, none⟩ = some (.int .i64 0) := Go.Joins.cell_of_block kE 0
          have y1 : ws.cell? ⟨NE, 1, none⟩ = some (.int .i64 0) := Go.Joins.cell_of_block kE 1
          have g0 : ws.frozen? ⟨NE, 0, none⟩ = false := Go.Joins.unfrozen_of_block kE 0
          have g1 : ws.frozen? ⟨NE, 1, none⟩ = false := Go.Joins.unfrozen_of_block kE 1
          have HKE := hid kE
          clear kE
          have HKX := hid kX
          clear kX
          go_simp
          clear y0 g0 y1 g1
          have qE := (Go.Joins.block_setCell (i := 1) (Go.Joins.block_setCell (i := 0) HKE.out (.int .i64 R)) (.int .i64 C))
          have bz := ((belD.setCell (p := ⟨NE, 0, none⟩) lmE (.int .i64 R)).setCell (p := ⟨NE, 1, none⟩) lmE (.int .i64 C))
          have qC := (own_set (own_set oC ⟨NE, 0, none⟩ (.int .i64 R) (Ne.symm nC_E)) ⟨NE, 1, none⟩ (.int .i64 C) (Ne.symm nC_E))
          have qX := ((Below.heap_setCell _ ⟨NE, 1, none⟩ (.int .i64 C) _ (Ne.symm nE_X)).trans ((Below.heap_setCell _ ⟨NE, 0, none⟩ (.int .i64 R) _ (Ne.symm nE_X)).trans HKX.out))
          obtain ⟨wz, hW5⟩ : ∃ wz, wz = ((ws.setCell ⟨NE, 0, none⟩ (.int .i64 R)).setCell ⟨NE, 1, none⟩ (.int .i64 C)) := ⟨_, rfl⟩
          rw [← hW5] at qE bz qC qX
          clear HKE belD oC HKX
          have kE : wz.heap[NE]? = some (Obj.cells #[.int .i64 R, .int .i64 C] 60) := qE
          have belD := bz
          have oC := qC
          have kX := qX
          clear qE bz qC qX
          refine hK.out _ _ ?_ (fun hHeld2 => ?_)
          · (try dsimp only); rw [← hW5]; exact next3_0 belD HD0.out
          clear hK K hHeld
          (try dsimp only at hHeld2)
          simp only [← hW5] at hHeld2 ⊢
          clear hW5
          have hHeld := hHeld2
          clear hHeld2
          (try simp only [Act.put, List.setIfInBounds_toArray, List.set_cons_zero, List.set_cons_succ, List.getElem_toArray, List.getElem_cons_succ, List.getElem_cons_zero])
          refine wpAnyH_done (by kernel_rfl) ?_ _
          clear hHeld
          have hfin : Rd.Own 2 wz b' (.slice (some ⟨b', 0, none⟩) n k) zs ∧ wz.heap[NX]? = some (Obj.cells #[.int .i64 R, .int .i64 C, .slice (some ⟨b', 0, none⟩) n k] 26) ∧ wz.heap[NE]? = some (Obj.cells #[.int .i64 R, .int .i64 C] 60) ∧ wz.heap[NF]? = some (Obj.cells #[.int .i64 R, .int .i64 C, .slice (some ⟨b, off, none⟩) n cap] 26) ∧ wz.heap[NT]? = some (Obj.cells #[.int .i64 0, .int .i64 0, .slice none 0 0] 26) ∧ w.heap.size ≤ b' ∧ NX ≠ b' ∧ NE ≠ b' ∧ NF ≠ b' ∧ NT ≠ b' ∧ w.heap.size ≤ NT ∧ Below w.heap.size w wz := ⟨oC, kX, kE, heap_keep belD HKF.out, heap_keep belD HKT.out, Nat.le_trans HD0.out.1.size lmC, (Ne.symm nC_X), (Ne.symm nC_E), Nat.ne_of_lt (Nat.lt_of_lt_of_le (heap_lt HKF.out) lmC), Nat.ne_of_lt (Nat.lt_of_lt_of_le (heap_lt HKT.out) lmC), HNT.out, (HD0.out.1.trans (belD.mono HD0.out.1.size))⟩
          have HFI := hid hfin
          clear hfin oC kX kE belD
          go_wp2_with fail
          go_meet
          case rel => exact ⟨NX, NE, b', k, rfl, rfl, HFI.out⟩
      · go_simp
        have bel := below1 wc (Obj.cells #[.int .i64 0, .int .i64 0, .slice none 0 0] 26)
        have lmS := belD.size
        have ltC := (oC.lt)
        replace belD := belD.trans (bel.mono belD.size)
        replace oC := oC.keep bel
        refine hK.out _ _ ?_ (fun hHeld2 => ?_)
        · (try dsimp only); exact next3_0 belD HD0.out
        clear hK K hHeld bel
        obtain ⟨vo, hWa⟩ : ∃ vo, vo = wc.alloc (Obj.cells #[.int .i64 0, .int .i64 0, .slice none 0 0] 26) := ⟨_, rfl⟩
        obtain ⟨NX, hNa⟩ : ∃ NX, NX = wc.heap.size := ⟨_, rfl⟩
        have kX : vo.heap[NX]? = some (Obj.cells #[.int .i64 0, .int .i64 0, .slice none 0 0] 26) := by rw [hWa]; exact FNew.heap_top hNa
        have lmX : wD.heap.size ≤ NX := by rw [hNa]; exact lmS
        clear lmS
        have nC_X : b' ≠ NX := by rw [hNa]; exact Nat.ne_of_lt ltC
        clear ltC
        rw [← hWa] at belD oC
        (try dsimp only at hHeld2)
        simp only [← hWa, ← hNa] at hHeld2 ⊢
        clear hWa hNa
        have hHeld := hHeld2
        clear hHeld2
        (try simp only [Act.put, List.setIfInBounds_toArray, List.set_cons_zero, List.set_cons_succ, List.getElem_toArray, List.getElem_cons_succ, List.getElem_cons_zero])
        refine wpAnyH_ready (rs := [3, 5]) ?_ (by simp) ?_
        · decide +kernel
        refine AllReadyH.cons rfl (fun K hK => ?_) (AllReadyH.cons rfl (fun K hK => ?_) AllReadyH.nil)
        · go_simp
          go_at_call 50
          refine (extentOf).mono ?_
          rintro e we ⟨rfl, bel⟩
          replace belD := belD.trans (bel.mono belD.size)
          replace oC := oC.keep bel
          replace kX := heap_keep bel kX
          refine hK.out _ _ ?_ (fun hHeld2 => ?_)
          · (try dsimp only); exact next3_0 belD HD0.out
          clear hK K hHeld bel
          have hHeld := hHeld2
          clear hHeld2
          (try simp only [Act.put, List.setIfInBounds_toArray, List.set_cons_zero, List.set_cons_succ, List.getElem_toArray, List.getElem_cons_succ, List.getElem_cons_zero])
          refine wpAnyH_ready (rs := [5]) ?_ (by simp) ?_
          · decide +kernel
          refine AllReadyH.cons rfl (fun K hK => ?_) AllReadyH.nil
          go_simp
          have bel := below1 we (Obj.cells #[.int .i64 0, .int .i64 0] 60)
          have lmS := belD.size
          have ltC := (oC.lt)
          have ltX := (heap_lt kX)
          replace belD := belD.trans (bel.mono belD.size)
          replace oC := oC.keep bel
          replace kX := heap_keep bel kX
          refine hK.out _ _ ?_ (fun hHeld2 => ?_)
          · (try dsimp only); exact next3_0 belD HD0.out
          clear hK K hHeld bel
          obtain ⟨ve, hWa⟩ : ∃ ve, ve = we.alloc (Obj.cells #[.int .i64 0, .int .i64 0] 60) := ⟨_, rfl⟩
          obtain ⟨NE, hNa⟩ : ∃ NE, NE = we.heap.size := ⟨_, rfl⟩
          have kE : ve.heap[NE]? = some (Obj.cells #[.int .i64 0, .int .i64 0] 60) := by rw [hWa]; exact FNew.heap_top hNa
          have lmE : wD.heap.size ≤ NE := by rw [hNa]; exact lmS
          clear lmS
          have nC_E : b' ≠ NE := by rw [hNa]; exact Nat.ne_of_lt ltC
          clear ltC
          have nX_E : NX ≠ NE := by rw [hNa]; exact Nat.ne_of_lt ltX
          clear ltX
          rw [← hWa] at belD oC kX
          (try dsimp only at hHeld2)
          simp only [← hWa, ← hNa] at hHeld2 ⊢
          clear hWa hNa
          have hHeld := hHeld2
          clear hHeld2
          (try simp only [Act.put, List.setIfInBounds_toArray, List.set_cons_zero, List.set_cons_succ, List.getElem_toArray, List.getElem_cons_succ, List.getElem_cons_zero])
          refine wpAnyH_ready (rs := [6]) ?_ (by simp) ?_
          · decide +kernel
          refine AllReadyH.cons rfl (fun K hK => ?_) AllReadyH.nil
          have y0 : ve.cell? ⟨NX, 0, none⟩ = some (.int .i64 0) := Go.Joins.cell_of_block kX 0
          have y1 : ve.cell? ⟨NX, 1, none⟩ = some (.int .i64 0) := Go.Joins.cell_of_block kX 1
          have y2 : ve.cell? ⟨NX, 2, none⟩ = some (.slice none 0 0) := Go.Joins.cell_of_block kX 2
          have g0 : ve.frozen? ⟨NX, 0, none⟩ = false := Go.Joins.unfrozen_of_block kX 0
          have g1 : ve.frozen? ⟨NX, 1, none⟩ = false := Go.Joins.unfrozen_of_block kX 1
          have g2 : ve.frozen? ⟨NX, 2, none⟩ = false := Go.Joins.unfrozen_of_block kX 2
          have HKX := hid kX
          clear kX
          have HKE := hid kE
          clear kE
          go_simp
          clear y0 g0 y1 g1 y2 g2
          have qX := (Go.Joins.block_setCell (i := 2) (Go.Joins.block_setCell (i := 1) (Go.Joins.block_setCell (i := 0) HKX.out (.int .i64 R)) (.int .i64 C)) (.slice (some ⟨b', 0, none⟩) n k))
          have bz := (((belD.setCell (p := ⟨NX, 0, none⟩) lmX (.int .i64 R)).setCell (p := ⟨NX, 1, none⟩) lmX (.int .i64 C)).setCell (p := ⟨NX, 2, none⟩) lmX (.slice (some ⟨b', 0, none⟩) n k))
          have qC := (own_set (own_set (own_set oC ⟨NX, 0, none⟩ (.int .i64 R) (Ne.symm nC_X)) ⟨NX, 1, none⟩ (.int .i64 C) (Ne.symm nC_X)) ⟨NX, 2, none⟩ (.slice (some ⟨b', 0, none⟩) n k) (Ne.symm nC_X))
          have qE := ((Below.heap_setCell _ ⟨NX, 2, none⟩ (.slice (some ⟨b', 0, none⟩) n k) _ (Ne.symm nX_E)).trans ((Below.heap_setCell _ ⟨NX, 1, none⟩ (.int .i64 C) _ (Ne.symm nX_E)).trans ((Below.heap_setCell _ ⟨NX, 0, none⟩ (.int .i64 R) _ (Ne.symm nX_E)).trans HKE.out)))
          obtain ⟨ws, hW5⟩ : ∃ ws, ws = (((ve.setCell ⟨NX, 0, none⟩ (.int .i64 R)).setCell ⟨NX, 1, none⟩ (.int .i64 C)).setCell ⟨NX, 2, none⟩ (.slice (some ⟨b', 0, none⟩) n k)) := ⟨_, rfl⟩
          rw [← hW5] at qX bz qC qE
          clear HKX belD oC HKE
          have kX : ws.heap[NX]? = some (Obj.cells #[.int .i64 R, .int .i64 C, .slice (some ⟨b', 0, none⟩) n k] 26) := qX
          have belD := bz
          have oC := qC
          have kE := qE
          clear qX bz qC qE
          refine hK.out _ _ ?_ (fun hHeld2 => ?_)
          · (try dsimp only); rw [← hW5]; exact next3_0 belD HD0.out
          clear hK K hHeld
          (try dsimp only at hHeld2)
          simp only [← hW5] at hHeld2 ⊢
          clear hW5
          have hHeld := hHeld2
          clear hHeld2
          (try simp only [Act.put, List.setIfInBounds_toArray, List.set_cons_zero, List.set_cons_succ, List.getElem_toArray, List.getElem_cons_succ, List.getElem_cons_zero])
          refine wpAnyH_ready (rs := [7]) ?_ (by simp) ?_
          · decide +kernel
          refine AllReadyH.cons rfl (fun K hK => ?_) AllReadyH.nil
          have y0 : ws.cell? ⟨NE, 0, none⟩ = some (.int .i64 0) := Go.Joins.cell_of_block kE 0
          have y1 : ws.cell? ⟨NE, 1, none⟩ = some (.int .i64 0) := Go.Joins.cell_of_block kE 1
          have g0 : ws.frozen? ⟨NE, 0, none⟩ = false := Go.Joins.unfrozen_of_block kE 0
          have g1 : ws.frozen? ⟨NE, 1, none⟩ = false := Go.Joins.unfrozen_of_block kE 1
          have HKE := hid kE
          clear kE
          have HKX := hid kX
          clear kX
          go_simp
          clear y0 g0 y1 g1
          have qE := (Go.Joins.block_setCell (i := 1) (Go.Joins.block_setCell (i := 0) HKE.out (.int .i64 R)) (.int .i64 C))
          have bz := ((belD.setCell (p := ⟨NE, 0, none⟩) lmE (.int .i64 R)).setCell (p := ⟨NE, 1, none⟩) lmE (.int .i64 C))
          have qC := (own_set (own_set oC ⟨NE, 0, none⟩ (.int .i64 R) (Ne.symm nC_E)) ⟨NE, 1, none⟩ (.int .i64 C) (Ne.symm nC_E))
          have qX := ((Below.heap_setCell _ ⟨NE, 1, none⟩ (.int .i64 C) _ nX_E).trans ((Below.heap_setCell _ ⟨NE, 0, none⟩ (.int .i64 R) _ nX_E).trans HKX.out))
          obtain ⟨wz, hW5⟩ : ∃ wz, wz = ((ws.setCell ⟨NE, 0, none⟩ (.int .i64 R)).setCell ⟨NE, 1, none⟩ (.int .i64 C)) := ⟨_, rfl⟩
          rw [← hW5] at qE bz qC qX
          clear HKE belD oC HKX
          have kE : wz.heap[NE]? = some (Obj.cells #[.int .i64 R, .int .i64 C] 60) := qE
          have belD := bz
          have oC := qC
          have kX := qX
          clear qE bz qC qX
          refine hK.out _ _ ?_ (fun hHeld2 => ?_)
          · (try dsimp only); rw [← hW5]; exact next3_0 belD HD0.out
          clear hK K hHeld
          (try dsimp only at hHeld2)
          simp only [← hW5] at hHeld2 ⊢
          clear hW5
          have hHeld := hHeld2
          clear hHeld2
          (try simp only [Act.put, List.setIfInBounds_toArray, List.set_cons_zero, List.set_cons_succ, List.getElem_toArray, List.getElem_cons_succ, List.getElem_cons_zero])
          refine wpAnyH_done (by kernel_rfl) ?_ _
          clear hHeld
          have hfin : Rd.Own 2 wz b' (.slice (some ⟨b', 0, none⟩) n k) zs ∧ wz.heap[NX]? = some (Obj.cells #[.int .i64 R, .int .i64 C, .slice (some ⟨b', 0, none⟩) n k] 26) ∧ wz.heap[NE]? = some (Obj.cells #[.int .i64 R, .int .i64 C] 60) ∧ wz.heap[NF]? = some (Obj.cells #[.int .i64 R, .int .i64 C, .slice (some ⟨b, off, none⟩) n cap] 26) ∧ wz.heap[NT]? = some (Obj.cells #[.int .i64 0, .int .i64 0, .slice none 0 0] 26) ∧ w.heap.size ≤ b' ∧ NX ≠ b' ∧ NE ≠ b' ∧ NF ≠ b' ∧ NT ≠ b' ∧ w.heap.size ≤ NT ∧ Below w.heap.size w wz := ⟨oC, kX, kE, heap_keep belD HKF.out, heap_keep belD HKT.out, Nat.le_trans HD0.out.1.size lmC, (Ne.symm nC_X), (Ne.symm nC_E), Nat.ne_of_lt (Nat.lt_of_lt_of_le (heap_lt HKF.out) lmC), Nat.ne_of_lt (Nat.lt_of_lt_of_le (heap_lt HKT.out) lmC), HNT.out, (HD0.out.1.trans (belD.mono HD0.out.1.size))⟩
          have HFI := hid hfin
          clear hfin oC kX kE belD
          go_wp2_with fail
          go_meet
          case rel => exact ⟨NX, NE, b', k, rfl, rfl, HFI.out⟩
        · go_simp
          have bel := below1 vo (Obj.cells #[.int .i64 0, .int .i64 0] 60)
          have lmS := belD.size
          have ltC := (oC.lt)
          have ltX := (heap_lt kX)
          replace belD := belD.trans (bel.mono belD.size)
          replace oC := oC.keep bel
          replace kX := heap_keep bel kX
          refine hK.out _ _ ?_ (fun hHeld2 => ?_)
          · (try dsimp only); exact next3_0 belD HD0.out
          clear hK K hHeld bel
          obtain ⟨ve, hWa⟩ : ∃ ve, ve = vo.alloc (Obj.cells #[.int .i64 0, .int .i64 0] 60) := ⟨_, rfl⟩
          obtain ⟨NE, hNa⟩ : ∃ NE, NE = vo.heap.size := ⟨_, rfl⟩
          have kE : ve.heap[NE]? = some (Obj.cells #[.int .i64 0, .int .i64 0] 60) := by rw [hWa]; exact FNew.heap_top hNa
          have lmE : wD.heap.size ≤ NE := by rw [hNa]; exact lmS
          clear lmS
          have nC_E : b' ≠ NE := by rw [hNa]; exact Nat.ne_of_lt ltC
          clear ltC
          have nX_E : NX ≠ NE := by rw [hNa]; exact Nat.ne_of_lt ltX
          clear ltX
          rw [← hWa] at belD oC kX
          (try dsimp only at hHeld2)
          simp only [← hWa, ← hNa] at hHeld2 ⊢
          clear hWa hNa
          have hHeld := hHeld2
          clear hHeld2
          (try simp only [Act.put, List.setIfInBounds_toArray, List.set_cons_zero, List.set_cons_succ, List.getElem_toArray, List.getElem_cons_succ, List.getElem_cons_zero])
          refine wpAnyH_ready (rs := [3]) ?_ (by simp) ?_
          · decide +kernel
          refine AllReadyH.cons rfl (fun K hK => ?_) AllReadyH.nil
          go_simp
          go_at_call 50
          refine (extentOf).mono ?_
          rintro e we ⟨rfl, bel⟩
          replace belD := belD.trans (bel.mono belD.size)
          replace oC := oC.keep bel
          replace kX := heap_keep bel kX
          replace kE := heap_keep bel kE
          refine hK.out _ _ ?_ (fun hHeld2 => ?_)
          · (try dsimp only); exact next3_0 belD HD0.out
          clear hK K hHeld bel
          have hHeld := hHeld2
          clear hHeld2
          (try simp only [Act.put, List.setIfInBounds_toArray, List.set_cons_zero, List.set_cons_succ, List.getElem_toArray, List.getElem_cons_succ, List.getElem_cons_zero])
          refine wpAnyH_ready (rs := [6]) ?_ (by simp) ?_
          · decide +kernel
          refine AllReadyH.cons rfl (fun K hK => ?_) AllReadyH.nil
          have y0 : we.cell? ⟨NX, 0, none⟩ = some (.int .i64 0) := Go.Joins.cell_of_block kX 0
          have y1 : we.cell? ⟨NX, 1, none⟩ = some (.int .i64 0) := Go.Joins.cell_of_block kX 1
          have y2 : we.cell? ⟨NX, 2, none⟩ = some (.slice none 0 0) := Go.Joins.cell_of_block kX 2
          have g0 : we.frozen? ⟨NX, 0, none⟩ = false := Go.Joins.unfrozen_of_block kX 0
          have g1 : we.frozen? ⟨NX, 1, none⟩ = false := Go.Joins.unfrozen_of_block kX 1
          have g2 : we.frozen? ⟨NX, 2, none⟩ = false := Go.Joins.unfrozen_of_block kX 2
          have HKX := hid kX
          clear kX
          have HKE := hid kE
          clear kE
          go_simp
          clear y0 g0 y1 g1 y2 g2
          have qX := (Go.Joins.block_setCell (i := 2) (Go.Joins.block_setCell (i := 1) (Go.Joins.block_setCell (i := 0) HKX.out (.int .i64 R)) (.int .i64 C)) (.slice (some ⟨b', 0, none⟩) n k))
          have bz := (((belD.setCell (p := ⟨NX, 0, none⟩) lmX (.int .i64 R)).setCell (p := ⟨NX, 1, none⟩) lmX (.int .i64 C)).setCell (p := ⟨NX, 2, none⟩) lmX (.slice (some ⟨b', 0, none⟩) n k))
          have qC := (own_set (own_set (own_set oC ⟨NX, 0, none⟩ (.int .i64 R) (Ne.symm nC_X)) ⟨NX, 1, none⟩ (.int .i64 C) (Ne.symm nC_X)) ⟨NX, 2, none⟩ (.slice (some ⟨b', 0, none⟩) n k) (Ne.symm nC_X))
          have qE := ((Below.heap_setCell _ ⟨NX, 2, none⟩ (.slice (some ⟨b', 0, none⟩) n k) _ (Ne.symm nX_E)).trans ((Below.heap_setCell _ ⟨NX, 1, none⟩ (.int .i64 C) _ (Ne.symm nX_E)).trans ((Below.heap_setCell _ ⟨NX, 0, none⟩ (.int .i64 R) _ (Ne.symm nX_E)).trans HKE.out)))
          obtain ⟨ws, hW5⟩ : ∃ ws, ws = (((we.setCell ⟨NX, 0, none⟩ (.int .i64 R)).setCell ⟨NX, 1, none⟩ (.int .i64 C)).setCell ⟨NX, 2, none⟩ (.slice (some ⟨b', 0, none⟩) n k)) := ⟨_, rfl⟩
          rw [← hW5] at qX bz qC qE
          clear HKX belD oC HKE
          have kX : ws.heap[NX]? = some (Obj.cells #[.int .i64 R, .int .i64 C, .slice (some ⟨b', 0, none⟩) n k] 26) := qX
          have belD := bz
          have oC := qC
          have kE := qE
          clear qX bz qC qE
          refine hK.out _ _ ?_ (fun hHeld2 => ?_)
          · (try dsimp only); rw [← hW5]; exact next3_0 belD HD0.out
          clear hK K hHeld
          (try dsimp only at hHeld2)
          simp only [← hW5] at hHeld2 ⊢
          clear hW5
          have hHeld := hHeld2
          clear hHeld2
          (try simp only [Act.put, List.setIfInBounds_toArray, List.set_cons_zero, List.set_cons_succ, List.getElem_toArray, List.getElem_cons_succ, List.getElem_cons_zero])
          refine wpAnyH_ready (rs := [7]) ?_ (by simp) ?_
          · decide +kernel
          refine AllReadyH.cons rfl (fun K hK => ?_) AllReadyH.nil
          have y0 : ws.cell? ⟨NE, 0, none⟩ = some (.int .i64 0) := Go.Joins.cell_of_block kE 0
          have y1 : ws.cell? ⟨NE, 1, none⟩ = some (.int .i64 0) := Go.Joins.cell_of_block kE 1
          have g0 : ws.frozen? ⟨NE, 0, none⟩ = false := Go.Joins.unfrozen_of_block kE 0
          have g1 : ws.frozen? ⟨NE, 1, none⟩ = false := Go.Joins.unfrozen_of_block kE 1
          have HKE := hid kE
          clear kE
          have HKX := hid kX
          clear kX
          go_simp
          clear y0 g0 y1 g1
          have qE := (Go.Joins.block_setCell (i := 1) (Go.Joins.block_setCell (i := 0) HKE.out (.int .i64 R)) (.int .i64 C))
          have bz := ((belD.setCell (p := ⟨NE, 0, none⟩) lmE (.int .i64 R)).setCell (p := ⟨NE, 1, none⟩) lmE (.int .i64 C))
          have qC := (own_set (own_set oC ⟨NE, 0, none⟩ (.int .i64 R) (Ne.symm nC_E)) ⟨NE, 1, none⟩ (.int .i64 C) (Ne.symm nC_E))
          have qX := ((Below.heap_setCell _ ⟨NE, 1, none⟩ (.int .i64 C) _ nX_E).trans ((Below.heap_setCell _ ⟨NE, 0, none⟩ (.int .i64 R) _ nX_E).trans HKX.out))
          obtain ⟨wz, hW5⟩ : ∃ wz, wz = ((ws.setCell ⟨NE, 0, none⟩ (.int .i64 R)).setCell ⟨NE, 1, none⟩ (.int .i64 C)) := ⟨_, rfl⟩
          rw [← hW5] at qE bz qC qX
          clear HKE belD oC HKX
          have kE : wz.heap[NE]? = some (Obj.cells #[.int .i64 R, .int .i64 C] 60) := qE
          have belD := bz
          have oC := qC
          have kX := qX
          clear qE bz qC qX
          refine hK.out _ _ ?_ (fun hHeld2 => ?_)
          · (try dsimp only); rw [← hW5]; exact next3_0 belD HD0.out
          clear hK K hHeld
          (try dsimp only at hHeld2)
          simp only [← hW5] at hHeld2 ⊢
          clear hW5
          have hHeld := hHeld2
          clear hHeld2
          (try simp only [Act.put, List.setIfInBounds_toArray, List.set_cons_zero, List.set_cons_succ, List.getElem_toArray, List.getElem_cons_succ, List.getElem_cons_zero])
          refine wpAnyH_done (by kernel_rfl) ?_ _
          clear hHeld
          have hfin : Rd.Own 2 wz b' (.slice (some ⟨b', 0, none⟩) n k) zs ∧ wz.heap[NX]? = some (Obj.cells #[.int .i64 R, .int .i64 C, .slice (some ⟨b', 0, none⟩) n k] 26) ∧ wz.heap[NE]? = some (Obj.cells #[.int .i64 R, .int .i64 C] 60) ∧ wz.heap[NF]? = some (Obj.cells #[.int .i64 R, .int .i64 C, .slice (some ⟨b, off, none⟩) n cap] 26) ∧ wz.heap[NT]? = some (Obj.cells #[.int .i64 0, .int .i64 0, .slice none 0 0] 26) ∧ w.heap.size ≤ b' ∧ NX ≠ b' ∧ NE ≠ b' ∧ NF ≠ b' ∧ NT ≠ b' ∧ w.heap.size ≤ NT ∧ Below w.heap.size w wz := ⟨oC, kX, kE, heap_keep belD HKF.out, heap_keep belD HKT.out, Nat.le_trans HD0.out.1.size lmC, (Ne.symm nC_X), (Ne.symm nC_E), Nat.ne_of_lt (Nat.lt_of_lt_of_le (heap_lt HKF.out) lmC), Nat.ne_of_lt (Nat.lt_of_lt_of_le (heap_lt HKT.out) lmC), HNT.out, (HD0.out.1.trans (belD.mono HD0.out.1.size))⟩
          have HFI := hid hfin
          clear hfin oC kX kE belD
          go_wp2_with fail
          go_meet
          case rel => exact ⟨NX, NE, b', k, rfl, rfl, HFI.out⟩
      · go_simp
        have bel := below1 wc (Obj.cells #[.int .i64 0, .int .i64 0] 60)
        have lmS := belD.size
        have ltC := (oC.lt)
        replace belD := belD.trans (bel.mono belD.size)
        replace oC := oC.keep bel
        refine hK.out _ _ ?_ (fun hHeld2 => ?_)
        · (try dsimp only); exact next3_0 belD HD0.out
        clear hK K hHeld bel
        obtain ⟨ve, hWa⟩ : ∃ ve, ve = wc.alloc (Obj.cells #[.int .i64 0, .int .i64 0] 60) := ⟨_, rfl⟩
        obtain ⟨NE, hNa⟩ : ∃ NE, NE = wc.heap.size := ⟨_, rfl⟩
        have kE : ve.heap[NE]? = some (Obj.cells #[.int .i64 0, .int .i64 0] 60) := by rw [hWa]; exact FNew.heap_top hNa
        have lmE : wD.heap.size ≤ NE := by rw [hNa]; exact lmS
        clear lmS
        have nC_E : b' ≠ NE := by rw [hNa]; exact Nat.ne_of_lt ltC
        clear ltC
        rw [← hWa] at belD oC
        (try dsimp only at hHeld2)
        simp only [← hWa, ← hNa] at hHeld2 ⊢
        clear hWa hNa
        have hHeld := hHeld2
        clear hHeld2
        (try simp only [Act.put, List.setIfInBounds_toArray, List.set_cons_zero, List.set_cons_succ, List.getElem_toArray, List.getElem_cons_succ, List.getElem_cons_zero])
        refine wpAnyH_ready (rs := [3, 4]) ?_ (by simp) ?_
        · decide +kernel
        refine AllReadyH.cons rfl (fun K hK => ?_) (AllReadyH.cons rfl (fun K hK => ?_) AllReadyH.nil)
        · go_simp
          go_at_call 50
          refine (extentOf).mono ?_
          rintro e we ⟨rfl, bel⟩
          replace belD := belD.trans (bel.mono belD.size)
          replace oC := oC.keep bel
          replace kE := heap_keep bel kE
          refine hK.out _ _ ?_ (fun hHeld2 => ?_)
          · (try dsimp only); exact next3_0 belD HD0.out
          clear hK K hHeld bel
          have hHeld := hHeld2
          clear hHeld2
          (try simp only [Act.put, List.setIfInBounds_toArray, List.set_cons_zero, List.set_cons_succ, List.getElem_toArray, List.getElem_cons_succ, List.getElem_cons_zero])
          refine wpAnyH_ready (rs := [4]) ?_ (by simp) ?_
          · decide +kernel
          refine AllReadyH.cons rfl (fun K hK => ?_) AllReadyH.nil
          go_simp
          have bel := below1 we (Obj.cells #[.int .i64 0, .int .i64 0, .slice none 0 0] 26)
          have lmS := belD.size
          have ltC := (oC.lt)
          have ltE := (heap_lt kE)
          replace belD := belD.trans (bel.mono belD.size)
          replace oC := oC.keep bel
          replace kE := heap_keep bel kE
          refine hK.out _ _ ?_ (fun hHeld2 => ?_)
          · (try dsimp only); exact next3_0 belD HD0.out
          clear hK K hHeld bel
          obtain ⟨vo, hWa⟩ : ∃ vo, vo = we.alloc (Obj.cells #[.int .i64 0, .int .i64 0, .slice none 0 0] 26) := ⟨_, rfl⟩
          obtain ⟨NX, hNa⟩ : ∃ NX, NX = we.heap.size := ⟨_, rfl⟩
          have kX : vo.heap[NX]? = some (Obj.cells #[.int .i64 0, .int .i64 0, .slice none 0 0] 26) := by rw [hWa]; exact FNew.heap_top hNa
          have lmX : wD.heap.size ≤ NX := by rw [hNa]; exact lmS
          clear lmS
          have nC_X : b' ≠ NX := by rw [hNa]; exact Nat.ne_of_lt ltC
          clear ltC
          have nE_X : NE ≠ NX := by rw [hNa]; exact Nat.ne_of_lt ltE
          clear ltE
          rw [← hWa] at belD oC kE
          (try dsimp only at hHeld2)
          simp only [← hWa, ← hNa] at hHeld2 ⊢
          clear hWa hNa
          have hHeld := hHeld2
          clear hHeld2
          (try simp only [Act.put, List.setIfInBounds_toArray, List.set_cons_zero, List.set_cons_succ, List.getElem_toArray, List.getElem_cons_succ, List.getElem_cons_zero])
          refine wpAnyH_ready (rs := [6]) ?_ (by simp) ?_
          · decide +kernel
          refine AllReadyH.cons rfl (fun K hK => ?_) AllReadyH.nil
          have y0 : vo.cell? ⟨NX, 0, none⟩ = some (.int .i64 0) := Go.Joins.cell_of_block kX 0
          have y1 : vo.cell? ⟨NX, 1, none⟩ = some (.int .i64 0) := Go.Joins.cell_of_block kX 1
          have y2 : vo.cell? ⟨NX, 2, none⟩ = some (.slice none 0 0) := Go.Joins.cell_of_block kX 2
          have g0 : vo.frozen? ⟨NX, 0, none⟩ = false := Go.Joins.unfrozen_of_block kX 0
          have g1 : vo.frozen? ⟨NX, 1, none⟩ = false := Go.Joins.unfrozen_of_block kX 1
          have g2 : vo.frozen? ⟨NX, 2, none⟩ = false := Go.Joins.unfrozen_of_block kX 2
          have HKX := hid kX
          clear kX
          have HKE := hid kE
          clear kE
          go_simp
          clear y0 g0 y1 g1 y2 g2
          have qX := (Go.Joins.block_setCell (i := 2) (Go.Joins.block_setCell (i := 1) (Go.Joins.block_setCell (i := 0) HKX.out (.int .i64 R)) (.int .i64 C)) (.slice (some ⟨b', 0, none⟩) n k))
          have bz := (((belD.setCell (p := ⟨NX, 0, none⟩) lmX (.int .i64 R)).setCell (p := ⟨NX, 1, none⟩) lmX (.int .i64 C)).setCell (p := ⟨NX, 2, none⟩) lmX (.slice (some ⟨b', 0, none⟩) n k))
          have qC := (own_set (own_set (own_set oC ⟨NX, 0, none⟩ (.int .i64 R) (Ne.symm nC_X)) ⟨NX, 1, none⟩ (.int .i64 C) (Ne.symm nC_X)) ⟨NX, 2, none⟩ (.slice (some ⟨b', 0, none⟩) n k) (Ne.symm nC_X))
          have qE := ((Below.heap_setCell _ ⟨NX, 2, none⟩ (.slice (some ⟨b', 0, none⟩) n k) _ nE_X).trans ((Below.heap_setCell _ ⟨NX, 1, none⟩ (.int .i64 C) _ nE_X).trans ((Below.heap_setCell _ ⟨NX, 0, none⟩ (.int .i64 R) _ nE_X).trans HKE.out)))
          obtain ⟨ws, hW5⟩ : ∃ ws, ws = (((vo.setCell ⟨NX, 0, none⟩ (.int .i64 R)).setCell ⟨NX, 1, none⟩ (.int .i64 C)).setCell ⟨NX, 2, none⟩ (.slice (some ⟨b', 0, none⟩) n k)) := ⟨_, rfl⟩
          rw [← hW5] at qX bz qC qE
          clear HKX belD oC HKE
          have kX : ws.heap[NX]? = some (Obj.cells #[.int .i64 R, .int .i64 C, .slice (some ⟨b', 0, none⟩) n k] 26) := qX
          have belD := bz
          have oC := qC
          have kE := qE
          clear qX bz qC qE
          refine hK.out _ _ ?_ (fun hHeld2 => ?_)
          · (try dsimp only); rw [← hW5]; exact next3_0 belD HD0.out
          clear hK K hHeld
          (try dsimp only at hHeld2)
          simp only [← hW5] at hHeld2 ⊢
          clear hW5
          have hHeld := hHeld2
          clear hHeld2
          (try simp only [Act.put, List.setIfInBounds_toArray, List.set_cons_zero, List.set_cons_succ, List.getElem_toArray, List.getElem_cons_succ, List.getElem_cons_zero])
          refine wpAnyH_ready (rs := [7]) ?_ (by simp) ?_
          · decide +kernel
          refine AllReadyH.cons rfl (fun K hK => ?_) AllReadyH.nil
          have y0 : ws.cell? ⟨NE, 0, none⟩ = some (.int .i64 0) := Go.Joins.cell_of_block kE 0
          have y1 : ws.cell? ⟨NE, 1, none⟩ = some (.int .i64 0) := Go.Joins.cell_of_block kE 1
          have g0 : ws.frozen? ⟨NE, 0, none⟩ = false := Go.Joins.unfrozen_of_block kE 0
          have g1 : ws.frozen? ⟨NE, 1, none⟩ = false := Go.Joins.unfrozen_of_block kE 1
          have HKE := hid kE
          clear kE
          have HKX := hid kX
          clear kX
          go_simp
          clear y0 g0 y1 g1
          have qE := (Go.Joins.block_setCell (i := 1) (Go.Joins.block_setCell (i := 0) HKE.out (.int .i64 R)) (.int .i64 C))
          have bz := ((belD.setCell (p := ⟨NE, 0, none⟩) lmE (.int .i64 R)).setCell (p := ⟨NE, 1, none⟩) lmE (.int .i64 C))
          have qC := (own_set (own_set oC ⟨NE, 0, none⟩ (.int .i64 R) (Ne.symm nC_E)) ⟨NE, 1, none⟩ (.int .i64 C) (Ne.symm nC_E))
          have qX := ((Below.heap_setCell _ ⟨NE, 1, none⟩ (.int .i64 C) _ (Ne.symm nE_X)).trans ((Below.heap_setCell _ ⟨NE, 0, none⟩ (.int .i64 R) _ (Ne.symm nE_X)).trans HKX.out))
          obtain ⟨wz, hW5⟩ : ∃ wz, wz = ((ws.setCell ⟨NE, 0, none⟩ (.int .i64 R)).setCell ⟨NE, 1, none⟩ (.int .i64 C)) := ⟨_, rfl⟩
          rw [← hW5] at qE bz qC qX
          clear HKE belD oC HKX
          have kE : wz.heap[NE]? = some (Obj.cells #[.int .i64 R, .int .i64 C] 60) := qE
          have belD := bz
          have oC := qC
          have kX := qX
          clear qE bz qC qX
          refine hK.out _ _ ?_ (fun hHeld2 => ?_)
          · (try dsimp only); rw [← hW5]; exact next3_0 belD HD0.out
          clear hK K hHeld
          (try dsimp only at hHeld2)
          simp only [← hW5] at hHeld2 ⊢
          clear hW5
          have hHeld := hHeld2
          clear hHeld2
          (try simp only [Act.put, List.setIfInBounds_toArray, List.set_cons_zero, List.set_cons_succ, List.getElem_toArray, List.getElem_cons_succ, List.getElem_cons_zero])
          refine wpAnyH_done (by kernel_rfl) ?_ _
          clear hHeld
          have hfin : Rd.Own 2 wz b' (.slice (some ⟨b', 0, none⟩) n k) zs ∧ wz.heap[NX]? = some (Obj.cells #[.int .i64 R, .int .i64 C, .slice (some ⟨b', 0, none⟩) n k] 26) ∧ wz.heap[NE]? = some (Obj.cells #[.int .i64 R, .int .i64 C] 60) ∧ wz.heap[NF]? = some (Obj.cells #[.int .i64 R, .int .i64 C, .slice (some ⟨b, off, none⟩) n cap] 26) ∧ wz.heap[NT]? = some (Obj.cells #[.int .i64 0, .int .i64 0, .slice none 0 0] 26) ∧ w.heap.size ≤ b' ∧ NX ≠ b' ∧ NE ≠ b' ∧ NF ≠ b' ∧ NT ≠ b' ∧ w.heap.size ≤ NT ∧ Below w.heap.size w wz := ⟨oC, kX, kE, heap_keep belD HKF.out, heap_keep belD HKT.out, Nat.le_trans HD0.out.1.size lmC, (Ne.symm nC_X), (Ne.symm nC_E), Nat.ne_of_lt (Nat.lt_of_lt_of_le (heap_lt HKF.out) lmC), Nat.ne_of_lt (Nat.lt_of_lt_of_le (heap_lt HKT.out) lmC), HNT.out, (HD0.out.1.trans (belD.mono HD0.out.1.size))⟩
          have HFI := hid hfin
          clear hfin oC kX kE belD
          go_wp2_with fail
          go_meet
          case rel => exact ⟨NX, NE, b', k, rfl, rfl, HFI.out⟩
        · go_simp
          have bel := below1 ve (Obj.cells #[.int .i64 0, .int .i64 0, .slice none 0 0] 26)
          have lmS := belD.size
          have ltC := (oC.lt)
          have ltE := (heap_lt kE)
          replace belD := belD.trans (bel.mono belD.size)
          replace oC := oC.keep bel
          replace kE := heap_keep bel kE
          refine hK.out _ _ ?_ (fun hHeld2 => ?_)
          · (try dsimp only); exact next3_0 belD HD0.out
          clear hK K hHeld bel
          obtain ⟨vo, hWa⟩ : ∃ vo, vo = ve.alloc (Obj.cells #[.int .i64 0, .int .i64 0, .slice none 0 0] 26) := ⟨_, rfl⟩
          obtain ⟨NX, hNa⟩ : ∃ NX, NX = ve.heap.size := ⟨_, rfl⟩
          have kX : vo.heap[NX]? = some (Obj.cells #[.int .i64 0, .int .i64 0, .slice none 0 0] 26) := by rw [hWa]; exact FNew.heap_top hNa
          have lmX : wD.heap.size ≤ NX := by rw [hNa]; exact lmS
          clear lmS
          have nC_X : b' ≠ NX := by rw [hNa]; exact Nat.ne_of_lt ltC
          clear ltC
          have nE_X : NE ≠ NX := by rw [hNa]; exact Nat.ne_of_lt ltE
          clear ltE
          rw [← hWa] at belD oC kE
          (try dsimp only at hHeld2)
          simp only [← hWa, ← hNa] at hHeld2 ⊢
          clear hWa hNa
          have hHeld := hHeld2
          clear hHeld2
          (try simp only [Act.put, List.setIfInBounds_toArray, List.set_cons_zero, List.set_cons_succ, List.getElem_toArray, List.getElem_cons_succ, List.getElem_cons_zero])
          refine wpAnyH_ready (rs := [3]) ?_ (by simp) ?_
          · decide +kernel
          refine AllReadyH.cons rfl (fun K hK => ?_) AllReadyH.nil
          go_simp
          go_at_call 50
          refine (extentOf).mono ?_
          rintro e we ⟨rfl, bel⟩
          replace belD := belD.trans (bel.mono belD.size)
          replace oC := oC.keep bel
          replace kE := heap_keep bel kE
          replace kX := heap_keep bel kX
          refine hK.out _ _ ?_ (fun hHeld2 => ?_)
          · (try dsimp only); exact next3_0 belD HD0.out
          clear hK K hHeld bel
          have hHeld := hHeld2
          clear hHeld2
          (try simp only [Act.put, List.setIfInBounds_toArray, List.set_cons_zero, List.set_cons_succ, List.getElem_toArray, List.getElem_cons_succ, List.getElem_cons_zero])
          refine wpAnyH_ready (rs := [6]) ?_ (by simp) ?_
          · decide +kernel
          refine AllReadyH.cons rfl (fun K hK => ?_) AllReadyH.nil
          have y0 : we.cell? ⟨NX, 0, none⟩ = some (.int .i64 0) := Go.Joins.cell_of_block kX 0
          have y1 : we.cell? ⟨NX, 1, none⟩ = some (.int .i64 0) := Go.Joins.cell_of_block kX 1
          have y2 : we.cell? ⟨NX, 2, none⟩ = some (.slice none 0 0) := Go.Joins.cell_of_block kX 2
          have g0 : we.frozen? ⟨NX, 0, none⟩ = false := Go.Joins.unfrozen_of_block kX 0
          have g1 : we.frozen? ⟨NX, 1, none⟩ = false := Go.Joins.unfrozen_of_block kX 1
          have g2 : we.frozen? ⟨NX, 2, none⟩ = false := Go.Joins.unfrozen_of_block kX 2
          have HKX := hid kX
          clear kX
          have HKE := hid kE
          clear kE
          go_simp
          clear y0 g0 y1 g1 y2 g2
          have qX := (Go.Joins.block_setCell (i := 2) (Go.Joins.block_setCell (i := 1) (Go.Joins.block_setCell (i := 0) HKX.out (.int .i64 R)) (.int .i64 C)) (.slice (some ⟨b', 0, none⟩) n k))
          have bz := (((belD.setCell (p := ⟨NX, 0, none⟩) lmX (.int .i64 R)).setCell (p := ⟨NX, 1, none⟩) lmX (.int .i64 C)).setCell (p := ⟨NX, 2, none⟩) lmX (.slice (some ⟨b', 0, none⟩) n k))
          have qC := (own_set (own_set (own_set oC ⟨NX, 0, none⟩ (.int .i64 R) (Ne.symm nC_X)) ⟨NX, 1, none⟩ (.int .i64 C) (Ne.symm nC_X)) ⟨NX, 2, none⟩ (.slice (some ⟨b', 0, none⟩) n k) (Ne.symm nC_X))
          have qE := ((Below.heap_setCell _ ⟨NX, 2, none⟩ (.slice (some ⟨b', 0, none⟩) n k) _ nE_X).trans ((Below.heap_setCell _ ⟨NX, 1, none⟩ (.int .i64 C) _ nE_X).trans ((Below.heap_setCell _ ⟨NX, 0, none⟩ (.int .i64 R) _ nE_X).trans HKE.out)))
          obtain ⟨ws, hW5⟩ : ∃ ws, ws = (((we.setCell ⟨NX, 0, none⟩ (.int .i64 R)).setCell ⟨NX, 1, none⟩ (.int .i64 C)).setCell ⟨NX, 2, none⟩ (.slice (some ⟨b', 0, none⟩) n k)) := ⟨_, rfl⟩
          rw [← hW5] at qX bz qC qE
          clear HKX belD oC HKE
          have kX : ws.heap[NX]? = some (Obj.cells #[.int .i64 R, .int .i64 C, .slice (some ⟨b', 0, none⟩) n k] 26) := qX
          have belD := bz
          have oC := qC
          have kE := qE
          clear qX bz qC qE
          refine hK.out _ _ ?_ (fun hHeld2 => ?_)
          · (try dsimp only); rw [← hW5]; exact next3_0 belD HD0.out
          clear hK K hHeld
          (try dsimp only at hHeld2)
          simp only [← hW5] at hHeld2 ⊢
          clear hW5
          have hHeld := hHeld2
          clear hHeld2
          (try simp only [Act.put, List.setIfInBounds_toArray, List.set_cons_zero, List.set_cons_succ, List.getElem_toArray, List.getElem_cons_succ, List.getElem_cons_zero])
          refine wpAnyH_ready (rs := [7]) ?_ (by simp) ?_
          · decide +kernel
          refine AllReadyH.cons rfl (fun K hK => ?_) AllReadyH.nil
          have y0 : ws.cell? ⟨NE, 0, none⟩ = some (.int .i64 0) := Go.Joins.cell_of_block kE 0
          have y1 : ws.cell? ⟨NE, 1, none⟩ = some (.int .i64 0) := Go.Joins.cell_of_block kE 1
          have g0 : ws.frozen? ⟨NE, 0, none⟩ = false := Go.Joins.unfrozen_of_block kE 0
          have g1 : ws.frozen? ⟨NE, 1, none⟩ = false := Go.Joins.unfrozen_of_block kE 1
          have HKE := hid kE
          clear kE
          have HKX := hid kX
          clear kX
          go_simp
          clear y0 g0 y1 g1
          have qE := (Go.Joins.block_setCell (i := 1) (Go.Joins.block_setCell (i := 0) HKE.out (.int .i64 R)) (.int .i64 C))
          have bz := ((belD.setCell (p := ⟨NE, 0, none⟩) lmE (.int .i64 R)).setCell (p := ⟨NE, 1, none⟩) lmE (.int .i64 C))
          have qC := (own_set (own_set oC ⟨NE, 0, none⟩ (.int .i64 R) (Ne.symm nC_E)) ⟨NE, 1, none⟩ (.int .i64 C) (Ne.symm nC_E))
          have qX := ((Below.heap_setCell _ ⟨NE, 1, none⟩ (.int .i64 C) _ (Ne.symm nE_X)).trans ((Below.heap_setCell _ ⟨NE, 0, none⟩ (.int .i64 R) _ (Ne.symm nE_X)).trans HKX.out))
          obtain ⟨wz, hW5⟩ : ∃ wz, wz = ((ws.setCell ⟨NE, 0, none⟩ (.int .i64 R)).setCell ⟨NE, 1, none⟩ (.int .i64 C)) := ⟨_, rfl⟩
          rw [← hW5] at qE bz qC qX
          clear HKE belD oC HKX
          have kE : wz.heap[NE]? = some (Obj.cells #[.int .i64 R, .int .i64 C] 60) := qE
          have belD := bz
          have oC := qC
          have kX := qX
          clear qE bz qC qX
          refine hK.out _ _ ?_ (fun hHeld2 => ?_)
          · (try dsimp only); rw [← hW5]; exact next3_0 belD HD0.out
          clear hK K hHeld
          (try dsimp only at hHeld2)
          simp only [← hW5] at hHeld2 ⊢
          clear hW5
          have hHeld := hHeld2
          clear hHeld2
          (try simp only [Act.put, List.setIfInBounds_toArray, List.set_cons_zero, List.set_cons_succ, List.getElem_toArray, List.getElem_cons_succ, List.getElem_cons_zero])
          refine wpAnyH_done (by kernel_rfl) ?_ _
          clear hHeld
          have hfin : Rd.Own 2 wz b' (.slice (some ⟨b', 0, none⟩) n k) zs ∧ wz.heap[NX]? = some (Obj.cells #[.int .i64 R, .int .i64 C, .slice (some ⟨b', 0, none⟩) n k] 26) ∧ wz.heap[NE]? = some (Obj.cells #[.int .i64 R, .int .i64 C] 60) ∧ wz.heap[NF]? = some (Obj.cells #[.int .i64 R, .int .i64 C, .slice (some ⟨b, off, none⟩) n cap] 26) ∧ wz.heap[NT]? = some (Obj.cells #[.int .i64 0, .int .i64 0, .slice none 0 0] 26) ∧ w.heap.size ≤ b' ∧ NX ≠ b' ∧ NE ≠ b' ∧ NF ≠ b' ∧ NT ≠ b' ∧ w.heap.size ≤ NT ∧ Below w.heap.size w wz := ⟨oC, kX, kE, heap_keep belD HKF.out, heap_keep belD HKT.out, Nat.le_trans HD0.out.1.size lmC, (Ne.symm nC_X), (Ne.symm nC_E), Nat.ne_of_lt (Nat.lt_of_lt_of_le (heap_lt HKF.out) lmC), Nat.ne_of_lt (Nat.lt_of_lt_of_le (heap_lt HKT.out) lmC), HNT.out, (HD0.out.1.trans (belD.mono HD0.out.1.size))⟩
          have HFI := hid hfin
          clear hfin oC kX kE belD
          go_wp2_with fail
          go_meet
          case rel => exact ⟨NX, NE, b', k, rfl, rfl, HFI.out⟩
    · go_simp
      have bel := below1 wD (Obj.cells #[.int .i64 0, .int .i64 0, .slice none 0 0] 26)
      have lmS := belD.size
      replace belD := belD.trans (bel.mono belD.size)
      refine hK.out _ _ ?_ (fun hHeld2 => ?_)
      · (try dsimp only); exact next3_0 belD HD0.out
      clear hK K hHeld bel
      obtain ⟨vo, hWa⟩ : ∃ vo, vo = wD.alloc (Obj.cells #[.int .i64 0, .int .i64 0, .slice none 0 0] 26) := ⟨_, rfl⟩
      obtain ⟨NX, hNa⟩ : ∃ NX, NX = wD.heap.size := ⟨_, rfl⟩
      have kX : vo.heap[NX]? = some (Obj.cells #[.int .i64 0, .int .i64 0, .slice none 0 0] 26) := by rw [hWa]; exact FNew.heap_top hNa
      have lmX : wD.heap.size ≤ NX := by rw [hNa]; exact lmS
      clear lmS
      rw [← hWa] at belD
      (try dsimp only at hHeld2)
      simp only [← hWa, ← hNa] at hHeld2 ⊢
      clear hWa hNa
      have hHeld := hHeld2
      clear hHeld2
      (try simp only [Act.put, List.setIfInBounds_toArray, List.set_cons_zero, List.set_cons_succ, List.getElem_toArray, List.getElem_cons_succ, List.getElem_cons_zero])
      refine wpAnyH_ready (rs := [1, 5]) ?_ (by simp) ?_
      · decide +kernel
      refine AllReadyH.cons rfl (fun K hK => ?_) (AllReadyH.cons rfl (fun K hK => ?_) AllReadyH.nil)
      · go_simp
        go_at_call 32
        refine (copyOfN (HH.out.keep (HD0.out.1.trans (belD.mono HD0.out.1.size)) (Nat.le_refl _)) HZ.out HL.out).mono ?_
        rintro e wc ⟨b', k, rfl, oC, loC, bel⟩
        have lmC : wD.heap.size ≤ b' := Nat.le_trans belD.size loC
        have nX_C : NX ≠ b' := Nat.ne_of_lt (Nat.lt_of_lt_of_le (heap_lt kX) loC)
        clear loC
        replace belD := belD.trans (bel.mono belD.size)
        replace kX := heap_keep bel kX
        refine hK.out _ _ ?_ (fun hHeld2 => ?_)
        · (try dsimp only); exact next3_0 belD HD0.out
        clear hK K hHeld bel
        have hHeld := hHeld2
        clear hHeld2
        (try simp only [Act.put, List.setIfInBounds_toArray, List.set_cons_zero, List.set_cons_succ, List.getElem_toArray, List.getElem_cons_succ, List.getElem_cons_zero])
        refine wpAnyH_ready (rs := [3, 5]) ?_ (by simp) ?_
        · decide +kernel
        refine AllReadyH.cons rfl (fun K hK => ?_) (AllReadyH.cons rfl (fun K hK => ?_) AllReadyH.nil)
        · go_simp
          go_at_call 50
          refine (extentOf).mono ?_
          rintro e we ⟨rfl, bel⟩
          replace belD := belD.trans (bel.mono belD.size)
          replace kX := heap_keep bel kX
          replace oC := oC.keep bel
          refine hK.out _ _ ?_ (fun hHeld2 => ?_)
          · (try dsimp only); exact next3_0 belD HD0.out
          clear hK K hHeld bel
          have hHeld := hHeld2
          clear hHeld2
          (try simp only [Act.put, List.setIfInBounds_toArray, List.set_cons_zero, List.set_cons_succ, List.getElem_toArray, List.getElem_cons_succ, List.getElem_cons_zero])
          refine wpAnyH_ready (rs := [5]) ?_ (by simp) ?_
          · decide +kernel
          refine AllReadyH.cons rfl (fun K hK => ?_) AllReadyH.nil
          go_simp
          have bel := below1 we (Obj.cells #[.int .i64 0, .int .i64 0] 60)
          have lmS := belD.size
          have ltX := (heap_lt kX)
          have ltC := (oC.lt)
          replace belD := belD.trans (bel.mono belD.size)
          replace kX := heap_keep bel kX
          replace oC := oC.keep bel
          refine hK.out _ _ ?_ (fun hHeld2 => ?_)
          · (try dsimp only); exact next3_0 belD HD0.out
          clear hK K hHeld bel
          obtain ⟨ve, hWa⟩ : ∃ ve, ve = we.alloc (Obj.cells #[.int .i64 0, .int .i64 0] 60) := ⟨_, rfl⟩
          obtain ⟨NE, hNa⟩ : ∃ NE, NE = we.heap.size := ⟨_, rfl⟩
          have kE : ve.heap[NE]? = some (Obj.cells #[.int .i64 0, .int .i64 0] 60) := by rw [hWa]; exact FNew.heap_top hNa
          have lmE : wD.heap.size ≤ NE := by rw [hNa]; exact lmS
          clear lmS
          have nX_E : NX ≠ NE := by rw [hNa]; exact Nat.ne_of_lt ltX
          clear ltX
          have nC_E : b' ≠ NE := by rw [hNa]; exact Nat.ne_of_lt ltC
          clear ltC
          rw [← hWa] at belD kX oC
          (try dsimp only at hHeld2)
          simp only [← hWa, ← hNa] at hHeld2 ⊢
          clear hWa hNa
          have hHeld := hHeld2
          clear hHeld2
          (try simp only [Act.put, List.setIfInBounds_toArray, List.set_cons_zero, List.set_cons_succ, List.getElem_toArray, List.getElem_cons_succ, List.getElem_cons_zero])
          refine wpAnyH_ready (rs := [6]) ?_ (by simp) ?_
          · decide +kernel
          refine AllReadyH.cons rfl (fun K hK => ?_) AllReadyH.nil
          have y0 : ve.cell? ⟨NX, 0, none⟩ = some (.int .i64 0) := Go.Joins.cell_of_block kX 0
          have y1 : ve.cell? ⟨NX, 1, none⟩ = some (.int .i64 0) := Go.Joins.cell_of_block kX 1
          have y2 : ve.cell? ⟨NX, 2, none⟩ = some (.slice none 0 0) := Go.Joins.cell_of_block kX 2
          have g0 : ve.frozen? ⟨NX, 0, none⟩ = false := Go.Joins.unfrozen_of_block kX 0
          have g1 : ve.frozen? ⟨NX, 1, none⟩ = false := Go.Joins.unfrozen_of_block kX 1
          have g2 : ve.frozen? ⟨NX, 2, none⟩ = false := Go.Joins.unfrozen_of_block kX 2
          have HKX := hid kX
          clear kX
          have HKE := hid kE
          clear kE
          go_simp
          clear y0 g0 y1 g1 y2 g2
          have qX := (Go.Joins.block_setCell (i := 2) (Go.Joins.block_setCell (i := 1) (Go.Joins.block_setCell (i := 0) HKX.out (.int .i64 R)) (.int .i64 C)) (.slice (some ⟨b', 0, none⟩) n k))
          have bz := (((belD.setCell (p := ⟨NX, 0, none⟩) lmX (.int .i64 R)).setCell (p := ⟨NX, 1, none⟩) lmX (.int .i64 C)).setCell (p := ⟨NX, 2, none⟩) lmX (.slice (some ⟨b', 0, none⟩) n k))
          have qC := (own_set (own_set (own_set oC ⟨NX, 0, none⟩ (.int .i64 R) nX_C) ⟨NX, 1, none⟩ (.int .i64 C) nX_C) ⟨NX, 2, none⟩ (.slice (some ⟨b', 0, none⟩) n k) nX_C)
          have qE := ((Below.heap_setCell _ ⟨NX, 2, none⟩ (.slice (some ⟨b', 0, none⟩) n k) _ (Ne.symm nX_E)).trans ((Below.heap_setCell _ ⟨NX, 1, none⟩ (.int .i64 C) _ (Ne.symm nX_E)).trans ((Below.heap_setCell _ ⟨NX, 0, none⟩ (.int .i64 R) _ (Ne.symm nX_E)).trans HKE.out)))
          obtain ⟨ws, hW5⟩ : ∃ ws, ws = (((ve.setCell ⟨NX, 0, none⟩ (.int .i64 R)).setCell ⟨NX, 1, none⟩ (.int .i64 C)).setCell ⟨NX, 2, none⟩ (.slice (some ⟨b', 0, none⟩) n k)) := ⟨_, rfl⟩
          rw [← hW5] at qX bz qC qE
          clear HKX belD oC HKE
          have kX : ws.heap[NX]? = some (Obj.cells #[.int .i64 R, .int .i64 C, .slice (some ⟨b', 0, none⟩) n k] 26) := qX
          have belD := bz
          have oC := qC
          have kE := qE
          clear qX bz qC qE
          refine hK.out _ _ ?_ (fun hHeld2 => ?_)
          · (try dsimp only); rw [← hW5]; exact next3_0 belD HD0.out
          clear hK K hHeld
          (try dsimp only at hHeld2)
          simp only [← hW5] at hHeld2 ⊢
          clear hW5
          have hHeld := hHeld2
          clear hHeld2
          (try simp only [Act.put, List.setIfInBounds_toArray, List.set_cons_zero, List.set_cons_succ, List.getElem_toArray, List.getElem_cons_succ, List.getElem_cons_zero])
          refine wpAnyH_ready (rs := [7]) ?_ (by simp) ?_
          · decide +kernel
          refine AllReadyH.cons rfl (fun K hK => ?_) AllReadyH.nil
          have y0 : ws.cell? ⟨NE, 0, none⟩ = some (.int .i64 0) := Go.Joins.cell_of_block kE 0
          have y1 : ws.cell? ⟨NE, 1, none⟩ = some (.int .i64 0) := Go.Joins.cell_of_block kE 1
          have g0 : ws.frozen? ⟨NE, 0, none⟩ = false := Go.Joins.unfrozen_of_block kE 0
          have g1 : ws.frozen? ⟨NE, 1, none⟩ = false := Go.Joins.unfrozen_of_block kE 1
          have HKE := hid kE
          clear kE
          have HKX := hid kX
          clear kX
          go_simp
          clear y0 g0 y1 g1
          have qE := (Go.Joins.block_setCell (i := 1) (Go.Joins.block_setCell (i := 0) HKE.out (.int .i64 R)) (.int .i64 C))
          have bz := ((belD.setCell (p := ⟨NE, 0, none⟩) lmE (.int .i64 R)).setCell (p := ⟨NE, 1, none⟩) lmE (.int .i64 C))
          have qX := ((Below.heap_setCell _ ⟨NE, 1, none⟩ (.int .i64 C) _ nX_E).trans ((Below.heap_setCell _ ⟨NE, 0, none⟩ (.int .i64 R) _ nX_E).trans HKX.out))
          have qC := (own_set (own_set oC ⟨NE, 0, none⟩ (.int .i64 R) (Ne.symm nC_E)) ⟨NE, 1, none⟩ (.int .i64 C) (Ne.symm nC_E))
          obtain ⟨wz, hW5⟩ : ∃ wz, wz = ((ws.setCell ⟨NE, 0, none⟩ (.int .i64 R)).setCell ⟨NE, 1, none⟩ (.int .i64 C)) := ⟨_, rfl⟩
          rw [← hW5] at qE bz qX qC
          clear HKE belD HKX oC
          have kE : wz.heap[NE]? = some (Obj.cells #[.int .i64 R, .int .i64 C] 60) := qE
          have belD := bz
          have kX := qX
          have oC := qC
          clear qE bz qX qC
          refine hK.out _ _ ?_ (fun hHeld2 => ?_)
          · (try dsimp only); rw [← hW5]; exact next3_0 belD HD0.out
          clear hK K hHeld
          (try dsimp only at hHeld2)
          simp only [← hW5] at hHeld2 ⊢
          clear hW5
          have hHeld := hHeld2
          clear hHeld2
          (try simp only [Act.put, List.setIfInBounds_toArray, List.set_cons_zero, List.set_cons_succ, List.getElem_toArray, List.getElem_cons_succ, List.getElem_cons_zero])
          refine wpAnyH_done (by kernel_rfl) ?_ _
          clear hHeld
          have hfin : Rd.Own 2 wz b' (.slice (some ⟨b', 0, none⟩) n k) zs ∧ wz.heap[NX]? = some (Obj.cells #[.int .i64 R, .int .i64 C, .slice (some ⟨b', 0, none⟩) n k] 26) ∧ wz.heap[NE]? = some (Obj.cells #[.int .i64 R, .int .i64 C] 60) ∧ wz.heap[NF]? = some (Obj.cells #[.int .i64 R, .int .i64 C, .slice (some ⟨b, off, none⟩) n cap] 26) ∧ wz.heap[NT]? = some (Obj.cells #[.int .i64 0, .int .i64 0, .slice none 0 0] 26) ∧ w.heap.size ≤ b' ∧ NX ≠ b' ∧ NE ≠ b' ∧ NF ≠ b' ∧ NT ≠ b' ∧ w.heap.size ≤ NT ∧ Below w.heap.size w wz := ⟨oC, kX, kE, heap_keep belD HKF.out, heap_keep belD HKT.out, Nat.le_trans HD0.out.1.size lmC, nX_C, (Ne.symm nC_E), Nat.ne_of_lt (Nat.lt_of_lt_of_le (heap_lt HKF.out) lmC), Nat.ne_of_lt (Nat.lt_of_lt_of_le (heap_lt HKT.out) lmC), HNT.out, (HD0.out.1.trans (belD.mono HD0.out.1.size))⟩
          have HFI := hid hfin
          clear hfin oC kX kE belD
          go_wp2_with fail
          go_meet
          case rel => exact ⟨NX, NE, b', k, rfl, rfl, HFI.out⟩
        · go_simp
          have bel := below1 wc (Obj.cells #[.int .i64 0, .int .i64 0] 60)
          have lmS := belD.size
          have ltX := (heap_lt kX)
          have ltC := (oC.lt)
          replace belD := belD.trans (bel.mono belD.size)
          replace kX := heap_keep bel kX
          replace oC := oC.keep bel
          refine hK.out _ _ ?_ (fun hHeld2 => ?_)
          · (try dsimp only); exact next3_0 belD HD0.out
          clear hK K hHeld bel
          obtain ⟨ve, hWa⟩ : ∃ ve, ve = wc.alloc (Obj.cells #[.int .i64 0, .int .i64 0] 60) := ⟨_, rfl⟩
          obtain ⟨NE, hNa⟩ : ∃ NE, NE = wc.heap.size := ⟨_, rfl⟩
          have kE : ve.heap[NE]? = some (Obj.cells #[.int .i64 0, .int .i64 0] 60) := by rw [hWa]; exact FNew.heap_top hNa
          have lmE : wD.heap.size ≤ NE := by rw [hNa]; exact lmS
          clear lmS
          have nX_E : NX ≠ NE := by rw [hNa]; exact Nat.ne_of_lt ltX
          clear ltX
          have nC_E : b' ≠ NE := by rw [hNa]; exact Nat.ne_of_lt ltC
          clear ltC
          rw [← hWa] at belD kX oC
          (try dsimp only at hHeld2)
          simp only [← hWa, ← hNa] at hHeld2 ⊢
          clear hWa hNa
          have hHeld := hHeld2
          clear hHeld2
          (try simp only [Act.put, List.setIfInBounds_toArray, List.set_cons_zero, List.set_cons_succ, List.getElem_toArray, List.getElem_cons_succ, List.getElem_cons_zero])
          refine wpAnyH_ready (rs := [3]) ?_ (by simp) ?_
          · decide +kernel
          refine AllReadyH.cons rfl (fun K hK => ?_) AllReadyH.nil
          go_simp
          go_at_call 50
          refine (extentOf).mono ?_
          rintro e we ⟨rfl, bel⟩
          replace belD := belD.trans (bel.mono belD.size)
          replace kX := heap_keep bel kX
          replace oC := oC.keep bel
          replace kE := heap_keep bel kE
          refine hK.out _ _ ?_ (fun hHeld2 => ?_)
          · (try dsimp only); exact next3_0 belD HD0.out
          clear hK K hHeld bel
          have hHeld := hHeld2
          clear hHeld2
          (try simp only [Act.put, List.setIfInBounds_toArray, List.set_cons_zero, List.set_cons_succ, List.getElem_toArray, List.getElem_cons_succ, List.getElem_cons_zero])
          refine wpAnyH_ready (rs := [6]) ?_ (by simp) ?_
          · decide +kernel
          refine AllReadyH.cons rfl (fun K hK => ?_) AllReadyH.nil
          have y0 : we.cell? ⟨NX, 0, none⟩ = some (.int .i64 0) := Go.Joins.cell_of_block kX 0
          have y1 : we.cell? ⟨NX, 1, none⟩ = some (.int .i64 0) := Go.Joins.cell_of_block kX 1
          have y2 : we.cell? ⟨NX, 2, none⟩ = some (.slice none 0 0) := Go.Joins.cell_of_block kX 2
          have g0 : we.frozen? ⟨NX, 0, none⟩ = false := Go.Joins.unfrozen_of_block kX 0
          have g1 : we.frozen? ⟨NX, 1, none⟩ = false := Go.Joins.unfrozen_of_block kX 1
          have g2 : we.frozen? ⟨NX, 2, none⟩ = false := Go.Joins.unfrozen_of_block kX 2
          have HKX := hid kX
          clear kX
          have HKE := hid kE
          clear kE
          go_simp
          clear y0 g0 y1 g1 y2 g2
          have qX := (Go.Joins.block_setCell (i := 2) (Go.Joins.block_setCell (i := 1) (Go.Joins.block_setCell (i := 0) HKX.out (.int .i64 R)) (.int .i64 C)) (.slice (some ⟨b', 0, none⟩) n k))
          have bz := (((belD.setCell (p := ⟨NX, 0, none⟩) lmX (.int .i64 R)).setCell (p := ⟨NX, 1, none⟩) lmX (.int .i64 C)).setCell (p := ⟨NX, 2, none⟩) lmX (.slice (some ⟨b', 0, none⟩) n k))
          have qC := (own_set (own_set (own_set oC ⟨NX, 0, none⟩ (.int .i64 R) nX_C) ⟨NX, 1, none⟩ (.int .i64 C) nX_C) ⟨NX, 2, none⟩ (.slice (some ⟨b', 0, none⟩) n k) nX_C)
          have qE := ((Below.heap_setCell _ ⟨NX, 2, none⟩ (.slice (some ⟨b', 0, none⟩) n k) _ (Ne.symm nX_E)).trans ((Below.heap_setCell _ ⟨NX, 1, none⟩ (.int .i64 C) _ (Ne.symm nX_E)).trans ((Below.heap_setCell _ ⟨NX, 0, none⟩ (.int .i64 R) _ (Ne.symm nX_E)).trans HKE.out)))
          obtain ⟨ws, hW5⟩ : ∃ ws, ws = (((we.setCell ⟨NX, 0, none⟩ (.int .i64 R)).setCell ⟨NX, 1, none⟩ (.int .i64 C)).setCell ⟨NX, 2, none⟩ (.slice (some ⟨b', 0, none⟩) n k)) := ⟨_, rfl⟩
          rw [← hW5] at qX bz qC qE
          clear HKX belD oC HKE
          have kX : ws.heap[NX]? = some (Obj.cells #[.int .i64 R, .int .i64 C, .slice (some ⟨b', 0, none⟩) n k] 26) := qX
          have belD := bz
          have oC := qC
          have kE := qE
          clear qX bz qC qE
          refine hK.out _ _ ?_ (fun hHeld2 => ?_)
          · (try dsimp only); rw [← hW5]; exact next3_0 belD HD0.out
          clear hK K hHeld
          (try dsimp only at hHeld2)
          simp only [← hW5] at hHeld2 ⊢
          clear hW5
          have hHeld := hHeld2
          clear hHeld2
          (try simp only [Act.put, List.setIfInBounds_toArray, List.set_cons_zero, List.set_cons_succ, List.getElem_toArray, List.getElem_cons_succ, List.getElem_cons_zero])
          refine wpAnyH_ready (rs := [7]) ?_ (by simp) ?_
          · decide +kernel
          refine AllReadyH.cons rfl (fun K hK => ?_) AllReadyH.nil
          have y0 : ws.cell? ⟨NE, 0, none⟩ = some (.int .i64 0) := Go.Joins.cell_of_block kE 0
          have y1 : ws.cell? ⟨NE, 1, none⟩ = some (.int .i64 0) := Go.Joins.cell_of_block kE 1
          have g0 : ws.frozen? ⟨NE, 0, none⟩ = false := Go.Joins.unfrozen_of_block kE 0
          have g1 : ws.frozen? ⟨NE, 1, none⟩ = false := Go.Joins.unfrozen_of_block kE 1
          have HKE := hid kE
          clear kE
          have HKX := hid kX
          clear kX
          go_simp
          clear y0 g0 y1 g1
          have qE := (Go.Joins.block_setCell (i := 1) (Go.Joins.block_setCell (i := 0) HKE.out (.int .i64 R)) (.int .i64 C))
          have bz := ((belD.setCell (p := ⟨NE, 0, none⟩) lmE (.int .i64 R)).setCell (p := ⟨NE, 1, none⟩) lmE (.int .i64 C))
          have qX := ((Below.heap_setCell _ ⟨NE, 1, none⟩ (.int .i64 C) _ nX_E).trans ((Below.heap_setCell _ ⟨NE, 0, none⟩ (.int .i64 R) _ nX_E).trans HKX.out))
          have qC := (own_set (own_set oC ⟨NE, 0, none⟩ (.int .i64 R) (Ne.symm nC_E)) ⟨NE, 1, none⟩ (.int .i64 C) (Ne.symm nC_E))
          obtain ⟨wz, hW5⟩ : ∃ wz, wz = ((ws.setCell ⟨NE, 0, none⟩ (.int .i64 R)).setCell ⟨NE, 1, none⟩ (.int .i64 C)) := ⟨_, rfl⟩
          rw [← hW5] at qE bz qX qC
          clear HKE belD HKX oC
          have kE : wz.heap[NE]? = some (Obj.cells #[.int .i64 R, .int .i64 C] 60) := qE
          have belD := bz
          have kX := qX
          have oC := qC
          clear qE bz qX qC
          refine hK.out _ _ ?_ (fun hHeld2 => ?_)
          · (try dsimp only); rw [← hW5]; exact next3_0 belD HD0.out
          clear hK K hHeld
          (try dsimp only at hHeld2)
          simp only [← hW5] at hHeld2 ⊢
          clear hW5
          have hHeld := hHeld2
          clear hHeld2
          (try simp only [Act.put, List.setIfInBounds_toArray, List.set_cons_zero, List.set_cons_succ, List.getElem_toArray, List.getElem_cons_succ, List.getElem_cons_zero])
          refine wpAnyH_done (by kernel_rfl) ?_ _
          clear hHeld
          have hfin : Rd.Own 2 wz b' (.slice (some ⟨b', 0, none⟩) n k) zs ∧ wz.heap[NX]? = some (Obj.cells #[.int .i64 R, .int .i64 C, .slice (some ⟨b', 0, none⟩) n k] 26) ∧ wz.heap[NE]? = some (Obj.cells #[.int .i64 R, .int .i64 C] 60) ∧ wz.heap[NF]? = some (Obj.cells #[.int .i64 R, .int .i64 C, .slice (some ⟨b, off, none⟩) n cap] 26) ∧ wz.heap[NT]? = some (Obj.cells #[.int .i64 0, .int .i64 0, .slice none 0 0] 26) ∧ w.heap.size ≤ b' ∧ NX ≠ b' ∧ NE ≠ b' ∧ NF ≠ b' ∧ NT ≠ b' ∧ w.heap.size ≤ NT ∧ Below w.heap.size w wz := ⟨oC, kX, kE, heap_keep belD HKF.out, heap_keep belD HKT.out, Nat.le_trans HD0.out.1.size lmC, nX_C, (Ne.symm nC_E), Nat.ne_of_lt (Nat.lt_of_lt_of_le (heap_lt HKF.out) lmC), Nat.ne_of_lt (Nat.lt_of_lt_of_le (heap_lt HKT.out) lmC), HNT.out, (HD0.out.1.trans (belD.mono HD0.out.1.size))⟩
          have HFI := hid hfin
          clear hfin oC kX kE belD
          go_wp2_with fail
          go_meet
          case rel => exact ⟨NX, NE, b', k, rfl, rfl, HFI.out⟩
      · go_simp
        have bel := below1 vo (Obj.cells #[.int .i64 0, .int .i64 0] 60)
        have lmS := belD.size
        have ltX := (heap_lt kX)
        replace belD := belD.trans (bel.mono belD.size)
        replace kX := heap_keep bel kX
        refine hK.out _ _ ?_ (fun hHeld2 => ?_)
        · (try dsimp only); exact next3_0 belD HD0.out
        clear hK K hHeld bel
        obtain ⟨ve, hWa⟩ : ∃ ve, ve = vo.alloc (Obj.cells #[.int .i64 0, .int .i64 0] 60) := ⟨_, rfl⟩
        obtain ⟨NE, hNa⟩ : ∃ NE, NE = vo.heap.size := ⟨_, rfl⟩
        have kE : ve.heap[NE]? = some (Obj.cells #[.int .i64 0, .int .i64 0] 60) := by rw [hWa]; exact FNew.heap_top hNa
        have lmE : wD.heap.size ≤ NE := by rw [hNa]; exact lmS
        clear lmS
        have nX_E : NX ≠ NE := by rw [hNa]; exact Nat.ne_of_lt ltX
        clear ltX
        rw [← hWa] at belD kX
        (try dsimp only at hHeld2)
        simp only [← hWa, ← hNa] at hHeld2 ⊢
        clear hWa hNa
        have hHeld := hHeld2
        clear hHeld2
        (try simp only [Act.put, List.setIfInBounds_toArray, List.set_cons_zero, List.set_cons_succ, List.getElem_toArray, List.getElem_cons_succ, List.getElem_cons_zero])
        refine wpAnyH_ready (rs := [1]) ?_ (by simp) ?_
        · decide +kernel
        refine AllReadyH.cons rfl (fun K hK => ?_) AllReadyH.nil
        go_simp
        go_at_call 32
        refine (copyOfN (HH.out.keep (HD0.out.1.trans (belD.mono HD0.out.1.size)) (Nat.le_refl _)) HZ.out HL.out).mono ?_
        rintro e wc ⟨b', k, rfl, oC, loC, bel⟩
        have lmC : wD.heap.size ≤ b' := Nat.le_trans belD.size loC
        have nX_C : NX ≠ b' := Nat.ne_of_lt (Nat.lt_of_lt_of_le (heap_lt kX) loC)
        have nE_C : NE ≠ b' := Nat.ne_of_lt (Nat.lt_of_lt_of_le (heap_lt kE) loC)
        clear loC
        replace belD := belD.trans (bel.mono belD.size)
        replace kX := heap_keep bel kX
        replace kE := heap_keep bel kE
        refine hK.out _ _ ?_ (fun hHeld2 => ?_)
        · (try dsimp only); exact next3_0 belD HD0.out
        clear hK K hHeld bel
        have hHeld := hHeld2
        clear hHeld2
        (try simp only [Act.put, List.setIfInBounds_toArray, List.set_cons_zero, List.set_cons_succ, List.getElem_toArray, List.getElem_cons_succ, List.getElem_cons_zero])
        refine wpAnyH_ready (rs := [3]) ?_ (by simp) ?_
        · decide +kernel
        refine AllReadyH.cons rfl (fun K hK => ?_) AllReadyH.nil
        go_simp
        go_at_call 50
        refine (extentOf).mono ?_
        rintro e we ⟨rfl, bel⟩
        replace belD := belD.trans (bel.mono belD.size)
        replace kX := heap_keep bel kX
        replace kE := heap_keep bel kE
        replace oC := oC.keep bel
        refine hK.out _ _ ?_ (fun hHeld2 => ?_)
        · (try dsimp only); exact next3_0 belD HD0.out
        clear hK K hHeld bel
        have hHeld := hHeld2
        clear hHeld2
        (try simp only [Act.put, List.setIfInBounds_toArray, List.set_cons_zero, List.set_cons_succ, List.getElem_toArray, List.getElem_cons_succ, List.getElem_cons_zero])
        refine wpAnyH_ready (rs := [6]) ?_ (by simp) ?_
        · decide +kernel
        refine AllReadyH.cons rfl (fun K hK => ?_) AllReadyH.nil
        have y0 : we.cell? ⟨NX, 0, none⟩ = some (.int .i64 0) := Go.Joins.cell_of_block kX 0
        have y1 : we.cell? ⟨NX, 1, none⟩ = some (.int .i64 0) := Go.Joins.cell_of_block kX 1
        have y2 : we.cell? ⟨NX, 2, none⟩ = some (.slice none 0 0) := Go.Joins.cell_of_block kX 2
        have g0 : we.frozen? ⟨NX, 0, none⟩ = false := Go.Joins.unfrozen_of_block kX 0
        have g1 : we.frozen? ⟨NX, 1, none⟩ = false := Go.Joins.unfrozen_of_block kX 1
        have g2 : we.frozen? ⟨NX, 2, none⟩ = false := Go.Joins.unfrozen_of_block kX 2
        have HKX := hid kX
        clear kX
        have HKE := hid kE
        clear kE
        go_simp
        clear y0 g0 y1 g1 y2 g2
        have qX := (Go.Joins.block_setCell (i := 2) (Go.Joins.block_setCell (i := 1) (Go.Joins.block_setCell (i := 0) HKX.out (.int .i64 R)) (.int .i64 C)) (.slice (some ⟨b', 0, none⟩) n k))
        have bz := (((belD.setCell (p := ⟨NX, 0, none⟩) lmX (.int .i64 R)).setCell (p := ⟨NX, 1, none⟩) lmX (.int .i64 C)).setCell (p := ⟨NX, 2, none⟩) lmX (.slice (some ⟨b', 0, none⟩) n k))
        have qE := ((Below.heap_setCell _ ⟨NX, 2, none⟩ (.slice (some ⟨b', 0, none⟩) n k) _ (Ne.symm nX_E)).trans ((Below.heap_setCell _ ⟨NX, 1, none⟩ (.int .i64 C) _ (Ne.symm nX_E)).trans ((Below.heap_setCell _ ⟨NX, 0, none⟩ (.int .i64 R) _ (Ne.symm nX_E)).trans HKE.out)))
        have qC := (own_set (own_set (own_set oC ⟨NX, 0, none⟩ (.int .i64 R) nX_C) ⟨NX, 1, none⟩ (.int .i64 C) nX_C) ⟨NX, 2, none⟩ (.slice (some ⟨b', 0, none⟩) n k) nX_C)
        obtain ⟨ws, hW5⟩ : ∃ ws, ws = (((we.setCell ⟨NX, 0, none⟩ (.int .i64 R)).setCell ⟨NX, 1, none⟩ (.int .i64 C)).setCell ⟨NX, 2, none⟩ (.slice (some ⟨b', 0, none⟩) n k)) := ⟨_, rfl⟩
        rw [← hW5] at qX bz qE qC
        clear HKX belD HKE oC
        have kX : ws.heap[NX]? = some (Obj.cells #[.int .i64 R, .int .i64 C, .slice (some ⟨b', 0, none⟩) n k] 26) := qX
        have belD := bz
        have kE := qE
        have oC := qC
        clear qX bz qE qC
        refine hK.out _ _ ?_ (fun hHeld2 => ?_)
        · (try dsimp only); rw [← hW5]; exact next3_0 belD HD0.out
        clear hK K hHeld
        (try dsimp only at hHeld2)
        simp only [← hW5] at hHeld2 ⊢
        clear hW5
        have hHeld := hHeld2
        clear hHeld2
        (try simp only [Act.put, List.setIfInBounds_toArray, List.set_cons_zero, List.set_cons_succ, List.getElem_toArray, List.getElem_cons_succ, List.getElem_cons_zero])
        refine wpAnyH_ready (rs := [7]) ?_ (by simp) ?_
        · decide +kernel
        refine AllReadyH.cons rfl (fun K hK => ?_) AllReadyH.nil
        have y0 : ws.cell? ⟨NE, 0, none⟩ = some (.int .i64 0) := Go.Joins.cell_of_block kE 0
        have y1 : ws.cell? ⟨NE, 1, none⟩ = some (.int .i64 0) := Go.Joins.cell_of_block kE 1
        have g0 : ws.frozen? ⟨NE, 0, none⟩ = false := Go.Joins.unfrozen_of_block kE 0
        have g1 : ws.frozen? ⟨NE, 1, none⟩ = false := Go.Joins.unfrozen_of_block kE 1
        have HKE := hid kE
        clear kE
        have HKX := hid kX
        clear kX
        go_simp
        clear y0 g0 y1 g1
        have qE := (Go.Joins.block_setCell (i := 1) (Go.Joins.block_setCell (i := 0) HKE.out (.int .i64 R)) (.int .i64 C))
        have bz := ((belD.setCell (p := ⟨NE, 0, none⟩) lmE (.int .i64 R)).setCell (p := ⟨NE, 1, none⟩) lmE (.int .i64 C))
        have qX := ((Below.heap_setCell _ ⟨NE, 1, none⟩ (.int .i64 C) _ nX_E).trans ((Below.heap_setCell _ ⟨NE, 0, none⟩ (.int .i64 R) _ nX_E).trans HKX.out))
        have qC := (own_set (own_set oC ⟨NE, 0, none⟩ (.int .i64 R) nE_C) ⟨NE, 1, none⟩ (.int .i64 C) nE_C)
        obtain ⟨wz, hW5⟩ : ∃ wz, wz = ((ws.setCell ⟨NE, 0, none⟩ (.int .i64 R)).setCell ⟨NE, 1, none⟩ (.int .i64 C)) := ⟨_, rfl⟩
        rw [← hW5] at qE bz qX qC
        clear HKE belD HKX oC
        have kE : wz.heap[NE]? = some (Obj.cells #[.int .i64 R, .int .i64 C] 60) := qE
        have belD := bz
        have kX := qX
        have oC := qC
        clear qE bz qX qC
        refine hK.out _ _ ?_ (fun hHeld2 => ?_)
        · (try dsimp only); rw [← hW5]; exact next3_0 belD HD0.out
        clear hK K hHeld
        (try dsimp only at hHeld2)
        simp only [← hW5] at hHeld2 ⊢
        clear hW5
        have hHeld := hHeld2
        clear hHeld2
        (try simp only [Act.put, List.setIfInBounds_toArray, List.set_cons_zero, List.set_cons_succ, List.getElem_toArray, List.getElem_cons_succ, List.getElem_cons_zero])
        refine wpAnyH_done (by kernel_rfl) ?_ _
        clear hHeld
        have hfin : Rd.Own 2 wz b' (.slice (some ⟨b', 0, none⟩) n k) zs ∧ wz.heap[NX]? = some (Obj.cells #[.int .i64 R, .int .i64 C, .slice (some ⟨b', 0, none⟩) n k] 26) ∧ wz.heap[NE]? = some (Obj.cells #[.int .i64 R, .int .i64 C] 60) ∧ wz.heap[NF]? = some (Obj.cells #[.int .i64 R, .int .i64 C, .slice (some ⟨b, off, none⟩) n cap] 26) ∧ wz.heap[NT]? = some (Obj.cells #[.int .i64 0, .int .i64 0, .slice none 0 0] 26) ∧ w.heap.size ≤ b' ∧ NX ≠ b' ∧ NE ≠ b' ∧ NF ≠ b' ∧ NT ≠ b' ∧ w.heap.size ≤ NT ∧ Below w.heap.size w wz := ⟨oC, kX, kE, heap_keep belD HKF.out, heap_keep belD HKT.out, Nat.le_trans HD0.out.1.size lmC, nX_C, nE_C, Nat.ne_of_lt (Nat.lt_of_lt_of_le (heap_lt HKF.out) lmC), Nat.ne_of_lt (Nat.lt_of_lt_of_le (heap_lt HKT.out) lmC), HNT.out, (HD0.out.1.trans (belD.mono HD0.out.1.size))⟩
        have HFI := hid hfin
        clear hfin oC kX kE belD
        go_wp2_with fail
        go_meet
        case rel => exact ⟨NX, NE, b', k, rfl, rfl, HFI.out⟩
    · go_simp
      have bel := below1 wD (Obj.cells #[.int .i64 0, .int .i64 0] 60)
      have lmS := belD.size
      replace belD := belD.trans (bel.mono belD.size)
      refine hK.out _ _ ?_ (fun hHeld2 => ?_)
      · (try dsimp only); exact next3_0 belD HD0.out
      clear hK K hHeld bel
      obtain ⟨ve, hWa⟩ : ∃ ve, ve = wD.alloc (Obj.cells #[.int .i64 0, .int .i64 0] 60) := ⟨_, rfl⟩
      obtain ⟨NE, hNa⟩ : ∃ NE, NE = wD.heap.size := ⟨_, rfl⟩
      have kE : ve.heap[NE]? = some (Obj.cells #[.int .i64 0, .int .i64 0] 60) := by rw [hWa]; exact FNew.heap_top hNa
      have lmE : wD.heap.size ≤ NE := by rw [hNa]; exact lmS
      clear lmS
      rw [← hWa] at belD
      (try dsimp only at hHeld2)
      simp only [← hWa, ← hNa] at hHeld2 ⊢
      clear hWa hNa
      have hHeld := hHeld2
      clear hHeld2
      (try simp only [Act.put, List.setIfInBounds_toArray, List.set_cons_zero, List.set_cons_succ, List.getElem_toArray, List.getElem_cons_succ, List.getElem_cons_zero])
      refine wpAnyH_ready (rs := [1, 4]) ?_ (by simp) ?_
      · decide +kernel
      refine AllReadyH.cons rfl (fun K hK => ?_) (AllReadyH.cons rfl (fun K hK => ?_) AllReadyH.nil)
      · go_simp
        go_at_call 32
        refine (copyOfN (HH.out.keep (HD0.out.1.trans (belD.mono HD0.out.1.size)) (Nat.le_refl _)) HZ.out HL.out).mono ?_
        rintro e wc ⟨b', k, rfl, oC, loC, bel⟩
        have lmC : wD.heap.size ≤ b' := Nat.le_trans belD.size loC
        have nE_C : NE ≠ b' := Nat.ne_of_lt (Nat.lt_of_lt_of_le (heap_lt kE) loC)
        clear loC
        replace belD := belD.trans (bel.mono belD.size)
        replace kE := heap_keep bel kE
        refine hK.out _ _ ?_ (fun hHeld2 => ?_)
        · (try dsimp only); exact next3_0 belD HD0.out
        clear hK K hHeld bel
        have hHeld := hHeld2
        clear hHeld2
        (try simp only [Act.put, List.setIfInBounds_toArray, List.set_cons_zero, List.set_cons_succ, List.getElem_toArray, List.getElem_cons_succ, List.getElem_cons_zero])
        refine wpAnyH_ready (rs := [3, 4]) ?_ (by simp) ?_
        · decide +kernel
        refine AllReadyH.cons rfl (fun K hK => ?_) (AllReadyH.cons rfl (fun K hK => ?_) AllReadyH.nil)
        · go_simp
          go_at_call 50
          refine (extentOf).mono ?_
          rintro e we ⟨rfl, bel⟩
          replace belD := belD.trans (bel.mono belD.size)
          replace kE := heap_keep bel kE
          replace oC := oC.keep bel
          refine hK.out _ _ ?_ (fun hHeld2 => ?_)
          · (try dsimp only); exact next3_0 belD HD0.out
          clear hK K hHeld bel
          have hHeld := hHeld2
          clear hHeld2
          (try simp only [Act.put, List.setIfInBounds_toArray, List.set_cons_zero, List.set_cons_succ, List.getElem_toArray, List.getElem_cons_succ, List.getElem_cons_zero])
          refine wpAnyH_ready (rs := [4]) ?_ (by simp) ?_
          · decide +kernel
          refine AllReadyH.cons rfl (fun K hK => ?_) AllReadyH.nil
          go_simp
          have bel := below1 we (Obj.cells #[.int .i64 0, .int .i64 0, .slice none 0 0] 26)
          have lmS := belD.size
          have ltE := (heap_lt kE)
          have ltC := (oC.lt)
          replace belD := belD.trans (bel.mono belD.size)
          replace kE := heap_keep bel kE
          replace oC := oC.keep bel
          refine hK.out _ _ ?_ (fun hHeld2 => ?_)
          · (try dsimp only); exact next3_0 belD HD0.out
          clear hK K hHeld bel
          obtain ⟨vo, hWa⟩ : ∃ vo, vo = we.alloc (Obj.cells #[.int .i64 0, .int .i64 0, .slice none 0 0] 26) := ⟨_, rfl⟩
          obtain ⟨NX, hNa⟩ : ∃ NX, NX = we.heap.size := ⟨_, rfl⟩
          have kX : vo.heap[NX]? = some (Obj.cells #[.int .i64 0, .int .i64 0, .slice none 0 0] 26) := by rw [hWa]; exact FNew.heap_top hNa
          have lmX : wD.heap.size ≤ NX := by rw [hNa]; exact lmS
          clear lmS
          have nE_X : NE ≠ NX := by rw [hNa]; exact Nat.ne_of_lt ltE
          clear ltE
          have nC_X : b' ≠ NX := by rw [hNa]; exact Nat.ne_of_lt ltC
          clear ltC
          rw [← hWa] at belD kE oC
          (try dsimp only at hHeld2)
          simp only [← hWa, ← hNa] at hHeld2 ⊢
          clear hWa hNa
          have hHeld := hHeld2
          clear hHeld2
          (try simp only [Act.put, List.setIfInBounds_toArray, List.set_cons_zero, List.set_cons_succ, List.getElem_toArray, List.getElem_cons_succ, List.getElem_cons_zero])
          refine wpAnyH_ready (rs := [6]) ?_ (by simp) ?_
          · decide +kernel
          refine AllReadyH.cons rfl (fun K hK => ?_) AllReadyH.nil
          have y0 : vo.cell? ⟨NX, 0, none⟩ = some (.int .i64 0) := Go.Joins.cell_of_block kX 0
          have y1 : vo.cell? ⟨NX, 1, none⟩ = some (.int .i64 0) := Go.Joins.cell_of_block kX 1
          have y2 : vo.cell? ⟨NX, 2, none⟩ = some (.slice none 0 0) := Go.Joins.cell_of_block kX 2
          have g0 : vo.frozen? ⟨NX, 0, none⟩ = false := Go.Joins.unfrozen_of_block kX 0
          have g1 : vo.frozen? ⟨NX, 1, none⟩ = false := Go.Joins.unfrozen_of_block kX 1
          have g2 : vo.frozen? ⟨NX, 2, none⟩ = false := Go.Joins.unfrozen_of_block kX 2
          have HKX := hid kX
          clear kX
          have HKE := hid kE
          clear kE
          go_simp
          clear y0 g0 y1 g1 y2 g2
          have qX := (Go.Joins.block_setCell (i := 2) (Go.Joins.block_setCell (i := 1) (Go.Joins.block_setCell (i := 0) HKX.out (.int .i64 R)) (.int .i64 C)) (.slice (some ⟨b', 0, none⟩) n k))
          have bz := (((belD.setCell (p := ⟨NX, 0, none⟩) lmX (.int .i64 R)).setCell (p := ⟨NX, 1, none⟩) lmX (.int .i64 C)).setCell (p := ⟨NX, 2, none⟩) lmX (.slice (some ⟨b', 0, none⟩) n k))
          have qE := ((Below.heap_setCell _ ⟨NX, 2, none⟩ (.slice (some ⟨b', 0, none⟩) n k) _ nE_X).trans ((Below.heap_setCell _ ⟨NX, 1, none⟩ (.int .i64 C) _ nE_X).trans ((Below.heap_setCell _ ⟨NX, 0, none⟩ (.int .i64 R) _ nE_X).trans HKE.out)))
          have qC := (own_set (own_set (own_set oC ⟨NX, 0, none⟩ (.int .i64 R) (Ne.symm nC_X)) ⟨NX, 1, none⟩ (.int .i64 C) (Ne.symm nC_X)) ⟨NX, 2, none⟩ (.slice (some ⟨b', 0, none⟩) n k) (Ne.symm nC_X))
          obtain ⟨ws, hW5⟩ : ∃ ws, ws = (((vo.setCell ⟨NX, 0, none⟩ (.int .i64 R)).setCell ⟨NX, 1, none⟩ (.int .i64 C)).setCell ⟨NX, 2, none⟩ (.slice (some ⟨b', 0, none⟩) n k)) := ⟨_, rfl⟩
          rw [← hW5] at qX bz qE qC
          clear HKX belD HKE oC
          have kX : ws.heap[NX]? = some (Obj.cells #[.int .i64 R, .int .i64 C, .slice (some ⟨b', 0, none⟩) n k] 26) := qX
          have belD := bz
          have kE := qE
          have oC := qC
          clear qX bz qE qC
          refine hK.out _ _ ?_ (fun hHeld2 => ?_)
          · (try dsimp only); rw [← hW5]; exact next3_0 belD HD0.out
          clear hK K hHeld
          (try dsimp only at hHeld2)
          simp only [← hW5] at hHeld2 ⊢
          clear hW5
          have hHeld := hHeld2
          clear hHeld2
          (try simp only [Act.put, List.setIfInBounds_toArray, List.set_cons_zero, List.set_cons_succ, List.getElem_toArray, List.getElem_cons_succ, List.getElem_cons_zero])
          refine wpAnyH_ready (rs := [7]) ?_ (by simp) ?_
          · decide +kernel
          refine AllReadyH.cons rfl (fun K hK => ?_) AllReadyH.nil
          have y0 : ws.cell? ⟨NE, 0, none⟩ = some (.int .i64 0) := Go.Joins.cell_of_block kE 0
          have y1 : ws.cell? ⟨NE, 1, none⟩ = some (.int .i64 0) := Go.Joins.cell_of_block kE 1
          have g0 : ws.frozen? ⟨NE, 0, none⟩ = false := Go.Joins.unfrozen_of_block kE 0
          have g1 : ws.frozen? ⟨NE, 1, none⟩ = false := Go.Joins.unfrozen_of_block kE 1
          have HKE := hid kE
          clear kE
          have HKX := hid kX
          clear kX
          go_simp
          clear y0 g0 y1 g1
          have qE := (Go.Joins.block_setCell (i := 1) (Go.Joins.block_setCell (i := 0) HKE.out (.int .i64 R)) (.int .i64 C))
          have bz := ((belD.setCell (p := ⟨NE, 0, none⟩) lmE (.int .i64 R)).setCell (p := ⟨NE, 1, none⟩) lmE (.int .i64 C))
          have qC := (own_set (own_set oC ⟨NE, 0, none⟩ (.int .i64 R) nE_C) ⟨NE, 1, none⟩ (.int .i64 C) nE_C)
          have qX := ((Below.heap_setCell _ ⟨NE, 1, none⟩ (.int .i64 C) _ (Ne.symm nE_X)).trans ((Below.heap_setCell _ ⟨NE, 0, none⟩ (.int .i64 R) _ (Ne.symm nE_X)).trans HKX.out))
          obtain ⟨wz, hW5⟩ : ∃ wz, wz = ((ws.setCell ⟨NE, 0, none⟩ (.int .i64 R)).setCell ⟨NE, 1, none⟩ (.int .i64 C)) := ⟨_, rfl⟩
          rw [← hW5] at qE bz qC qX
          clear HKE belD oC HKX
          have kE : wz.heap[NE]? = some (Obj.cells #[.int .i64 R, .int .i64 C] 60) := qE
          have belD := bz
          have oC := qC
          have kX := qX
          clear qE bz qC qX
          refine hK.out _ _ ?_ (fun hHeld2 => ?_)
          · (try dsimp only); rw [← hW5]; exact next3_0 belD HD0.out
          clear hK K hHeld
          (try dsimp only at hHeld2)
          simp only [← hW5] at hHeld2 ⊢
          clear hW5
          have hHeld := hHeld2
          clear hHeld2
          (try simp only [Act.put, List.setIfInBounds_toArray, List.set_cons_zero, List.set_cons_succ, List.getElem_toArray, List.getElem_cons_succ, List.getElem_cons_zero])
          refine wpAnyH_done (by kernel_rfl) ?_ _
          clear hHeld
          have hfin : Rd.Own 2 wz b' (.slice (some ⟨b', 0, none⟩) n k) zs ∧ wz.heap[NX]? = some (Obj.cells #[.int .i64 R, .int .i64 C, .slice (some ⟨b', 0, none⟩) n k] 26) ∧ wz.heap[NE]? = some (Obj.cells #[.int .i64 R, .int .i64 C] 60) ∧ wz.heap[NF]? = some (Obj.cells #[.int .i64 R, .int .i64 C, .slice (some ⟨b, off, none⟩) n cap] 26) ∧ wz.heap[NT]? = some (Obj.cells #[.int .i64 0, .int .i64 0, .slice none 0 0] 26) ∧ w.heap.size ≤ b' ∧ NX ≠ b' ∧ NE ≠ b' ∧ NF ≠ b' ∧ NT ≠ b' ∧ w.heap.size ≤ NT ∧ Below w.heap.size w wz := ⟨oC, kX, kE, heap_keep belD HKF.out, heap_keep belD HKT.out, Nat.le_trans HD0.out.1.size lmC, (Ne.symm nC_X), nE_C, Nat.ne_of_lt (Nat.lt_of_lt_of_le (heap_lt HKF.out) lmC), Nat.ne_of_lt (Nat.lt_of_lt_of_le (heap_lt HKT.out) lmC), HNT.out, (HD0.out.1.trans (belD.mono HD0.out.1.size))⟩
          have HFI := hid hfin
          clear hfin oC kX kE belD
          go_wp2_with fail
          go_meet
          case rel => exact ⟨NX, NE, b', k, rfl, rfl, HFI.out⟩
        · go_simp
          have bel := below1 wc (Obj.cells #[.int .i64 0, .int .i64 0, .slice none 0 0] 26)
          have lmS := belD.size
          have ltE := (heap_lt kE)
          have ltC := (oC.lt)
          replace belD := belD.trans (bel.mono belD.size)
          replace kE := heap_keep bel kE
          replace oC := oC.keep bel
          refine hK.out _ _ ?_ (fun hHeld2 => ?_)
          · (try dsimp only); exact next3_0 belD HD0.out
          clear hK K hHeld bel
          obtain ⟨vo, hWa⟩ : ∃ vo, vo = wc.alloc (Obj.cells #[.int .i64 0, .int .i64 0, .slice none 0 0] 26) := ⟨_, rfl⟩
          obtain ⟨NX, hNa⟩ : ∃ NX, NX = wc.heap.size := ⟨_, rfl⟩
          have kX : vo.heap[NX]? = some (Obj.cells #[.int .i64 0, .int .i64 0, .slice none 0 0] 26) := by rw [hWa]; exact FNew.heap_top hNa
          have lmX : wD.heap.size ≤ NX := by rw [hNa]; exact lmS
          clear lmS
          have nE_X : NE ≠ NX := by rw [hNa]; exact Nat.ne_of_lt ltE
          clear ltE
          have nC_X : b' ≠ NX := by rw [hNa]; exact Nat.ne_of_lt ltC
          clear ltC
          rw [← hWa] at belD kE oC
          (try dsimp only at hHeld2)
          simp only [← hWa, ← hNa] at hHeld2 ⊢
          clear hWa hNa
          have hHeld := hHeld2
          clear hHeld2
          (try simp only [Act.put, List.setIfInBounds_toArray, List.set_cons_zero, List.set_cons_succ, List.getElem_toArray, List.getElem_cons_succ, List.getElem_cons_zero])
          refine wpAnyH_ready (rs := [3]) ?_ (by simp) ?_
          · decide +kernel
          refine AllReadyH.cons rfl (fun K hK => ?_) AllReadyH.nil
          go_simp
          go_at_call 50
          refine (extentOf).mono ?_
          rintro e we ⟨rfl, bel⟩
          replace belD := belD.trans (bel.mono belD.size)
          replace kE := heap_keep bel kE
          replace oC := oC.keep bel
          replace kX := heap_keep bel kX
          refine hK.out _ _ ?_ (fun hHeld2 => ?_)
          · (try dsimp only); exact next3_0 belD HD0.out
          clear hK K hHeld bel
          have hHeld := hHeld2
          clear hHeld2
          (try simp only [Act.put, List.setIfInBounds_toArray, List.set_cons_zero, List.set_cons_succ, List.getElem_toArray, List.getElem_cons_succ, List.getElem_cons_zero])
          refine wpAnyH_ready (rs := [6]) ?_ (by simp) ?_
          · decide +kernel
          refine AllReadyH.cons rfl (fun K hK => ?_) AllReadyH.nil
          have y0 : we.cell? ⟨NX, 0, none⟩ = some (.int .i64 0) := Go.Joins.cell_of_block kX 0
          have y1 : we.cell? ⟨NX, 1, none⟩ = some (.int .i64 0) := Go.Joins.cell_of_block kX 1
          have y2 : we.cell? ⟨NX, 2, none⟩ = some (.slice none 0 0) := Go.Joins.cell_of_block kX 2
          have g0 : we.frozen? ⟨NX, 0, none⟩ = false := Go.Joins.unfrozen_of_block kX 0
          have g1 : we.frozen? ⟨NX, 1, none⟩ = false := Go.Joins.unfrozen_of_block kX 1
          have g2 : we.frozen? ⟨NX, 2, none⟩ = false := Go.Joins.unfrozen_of_block kX 2
          have HKX := hid kX
          clear kX
          have HKE := hid kE
          clear kE
          go_simp
          clear y0 g0 y1 g1 y2 g2
          have qX := (Go.Joins.block_setCell (i := 2) (Go.Joins.block_setCell (i := 1) (Go.Joins.block_setCell (i := 0) HKX.out (.int .i64 R)) (.int .i64 C)) (.slice (some ⟨b', 0, none⟩) n k))
          have bz := (((belD.setCell (p := ⟨NX, 0, none⟩) lmX (.int .i64 R)).setCell (p := ⟨NX, 1, none⟩) lmX (.int .i64 C)).setCell (p := ⟨NX, 2, none⟩) lmX (.slice (some ⟨b', 0, none⟩) n k))
          have qE := ((Below.heap_setCell _ ⟨NX, 2, none⟩ (.slice (some ⟨b', 0, none⟩) n k) _ nE_X).trans ((Below.heap_setCell _ ⟨NX, 1, none⟩ (.int .i64 C) _ nE_X).trans ((Below.heap_setCell _ ⟨NX, 0, none⟩ (.int .i64 R) _ nE_X).trans HKE.out)))
          have qC := (own_set (own_set (own_set oC ⟨NX, 0, none⟩ (.int .i64 R) (Ne.symm nC_X)) ⟨NX, 1, none⟩ (.int .i64 C) (Ne.symm nC_X)) ⟨NX, 2, none⟩ (.slice (some ⟨b', 0, none⟩) n k) (Ne.symm nC_X))
          obtain ⟨ws, hW5⟩ : ∃ ws, ws = (((we.setCell ⟨NX, 0, none⟩ (.int .i64 R)).setCell ⟨NX, 1, none⟩ (.int .i64 C)).setCell ⟨NX, 2, none⟩ (.slice (some ⟨b', 0, none⟩) n k)) := ⟨_, rfl⟩
          rw [← hW5] at qX bz qE qC
          clear HKX belD HKE oC
          have kX : ws.heap[NX]? = some (Obj.cells #[.int .i64 R, .int .i64 C, .slice (some ⟨b', 0, none⟩) n k] 26) := qX
          have belD := bz
          have kE := qE
          have oC := qC
          clear qX bz qE qC
          refine hK.out _ _ ?_ (fun hHeld2 => ?_)
          · (try dsimp only); rw [← hW5]; exact next3_0 belD HD0.out
          clear hK K hHeld
          (try dsimp only at hHeld2)
          simp only [← hW5] at hHeld2 ⊢
          clear hW5
          have hHeld := hHeld2
          clear hHeld2
          (try simp only [Act.put, List.setIfInBounds_toArray, List.set_cons_zero, List.set_cons_succ, List.getElem_toArray, List.getElem_cons_succ, List.getElem_cons_zero])
          refine wpAnyH_ready (rs := [7]) ?_ (by simp) ?_
          · decide +kernel
          refine AllReadyH.cons rfl (fun K hK => ?_) AllReadyH.nil
          have y0 : ws.cell? ⟨NE, 0, none⟩ = some (.int .i64 0) := Go.Joins.cell_of_block kE 0
          have y1 : ws.cell? ⟨NE, 1, none⟩ = some (.int .i64 0) := Go.Joins.cell_of_block kE 1
          have g0 : ws.frozen? ⟨NE, 0, none⟩ = false := Go.Joins.unfrozen_of_block kE 0
          have g1 : ws.frozen? ⟨NE, 1, none⟩ = false := Go.Joins.unfrozen_of_block kE 1
          have HKE := hid kE
          clear kE
          have HKX := hid kX
          clear kX
          go_simp
          clear y0 g0 y1 g1
          have qE := (Go.Joins.block_setCell (i := 1) (Go.Joins.block_setCell (i := 0) HKE.out (.int .i64 R)) (.int .i64 C))
          have bz := ((belD.setCell (p := ⟨NE, 0, none⟩) lmE (.int .i64 R)).setCell (p := ⟨NE, 1, none⟩) lmE (.int .i64 C))
          have qC := (own_set (own_set oC ⟨NE, 0, none⟩ (.int .i64 R) nE_C) ⟨NE, 1, none⟩ (.int .i64 C) nE_C)
          have qX := ((Below.heap_setCell _ ⟨NE, 1, none⟩ (.int .i64 C) _ (Ne.symm nE_X)).trans ((Below.heap_setCell _ ⟨NE, 0, none⟩ (.int .i64 R) _ (Ne.symm nE_X)).trans HKX.out))
          obtain ⟨wz, hW5⟩ : ∃ wz, wz = ((ws.setCell ⟨NE, 0, none⟩ (.int .i64 R)).setCell ⟨NE, 1, none⟩ (.int .i64 C)) := ⟨_, rfl⟩
          rw [← hW5] at qE bz qC qX
          clear HKE belD oC HKX
          have kE : wz.heap[NE]? = some (Obj.cells #[.int .i64 R, .int .i64 C] 60) := qE
          have belD := bz
          have oC := qC
          have kX := qX
          clear qE bz qC qX
          refine hK.out _ _ ?_ (fun hHeld2 => ?_)
          · (try dsimp only); rw [← hW5]; exact next3_0 belD HD0.out
          clear hK K hHeld
          (try dsimp only at hHeld2)
          simp only [← hW5] at hHeld2 ⊢
          clear hW5
          have hHeld := hHeld2
          clear hHeld2
          (try simp only [Act.put, List.setIfInBounds_toArray, List.set_cons_zero, List.set_cons_succ, List.getElem_toArray, List.getElem_cons_succ, List.getElem_cons_zero])
          refine wpAnyH_done (by kernel_rfl) ?_ _
          clear hHeld
          have hfin : Rd.Own 2 wz b' (.slice (some ⟨b', 0, none⟩) n k) zs ∧ wz.heap[NX]? = some (Obj.cells #[.int .i64 R, .int .i64 C, .slice (some ⟨b', 0, none⟩) n k] 26) ∧ wz.heap[NE]? = some (Obj.cells #[.int .i64 R, .int .i64 C] 60) ∧ wz.heap[NF]? = some (Obj.cells #[.int .i64 R, .int .i64 C, .slice (some ⟨b, off, none⟩) n cap] 26) ∧ wz.heap[NT]? = some (Obj.cells #[.int .i64 0, .int .i64 0, .slice none 0 0] 26) ∧ w.heap.size ≤ b' ∧ NX ≠ b' ∧ NE ≠ b' ∧ NF ≠ b' ∧ NT ≠ b' ∧ w.heap.size ≤ NT ∧ Below w.heap.size w wz := ⟨oC, kX, kE, heap_keep belD HKF.out, heap_keep belD HKT.out, Nat.le_trans HD0.out.1.size lmC, (Ne.symm nC_X), nE_C, Nat.ne_of_lt (Nat.lt_of_lt_of_le (heap_lt HKF.out) lmC), Nat.ne_of_lt (Nat.lt_of_lt_of_le (heap_lt HKT.out) lmC), HNT.out, (HD0.out.1.trans (belD.mono HD0.out.1.size))⟩
          have HFI := hid hfin
          clear hfin oC kX kE belD
          go_wp2_with fail
          go_meet
          case rel => exact ⟨NX, NE, b', k, rfl, rfl, HFI.out⟩
      · go_simp
        have bel := below1 ve (Obj.cells #[.int .i64 0, .int .i64 0, .slice none 0 0] 26)
        have lmS := belD.size
        have ltE := (heap_lt kE)
        replace belD := belD.trans (bel.mono belD.size)
        replace kE := heap_keep bel kE
        refine hK.out _ _ ?_ (fun hHeld2 => ?_)
        · (try dsimp only); exact next3_0 belD HD0.out
        clear hK K hHeld bel
        obtain ⟨vo, hWa⟩ : ∃ vo, vo = ve.alloc (Obj.cells #[.int .i64 0, .int .i64 0, .slice none 0 0] 26) := ⟨_, rfl⟩
        obtain ⟨NX, hNa⟩ : ∃ NX, NX = ve.heap.size := ⟨_, rfl⟩
        have kX : vo.heap[NX]? = some (Obj.cells #[.int .i64 0, .int .i64 0, .slice none 0 0] 26) := by rw [hWa]; exact FNew.heap_top hNa
        have lmX : wD.heap.size ≤ NX := by rw [hNa]; exact lmS
        clear lmS
        have nE_X : NE ≠ NX := by rw [hNa]; exact Nat.ne_of_lt ltE
        clear ltE
        rw [← hWa] at belD kE
        (try dsimp only at hHeld2)
        simp only [← hWa, ← hNa] at hHeld2 ⊢
        clear hWa hNa
        have hHeld := hHeld2
        clear hHeld2
        (try simp only [Act.put, List.setIfInBounds_toArray, List.set_cons_zero, List.set_cons_succ, List.getElem_toArray, List.getElem_cons_succ, List.getElem_cons_zero])
        refine wpAnyH_ready (rs := [1]) ?_ (by simp) ?_
        · decide +kernel
        refine AllReadyH.cons rfl (fun K hK => ?_) AllReadyH.nil
        go_simp
        go_at_call 32
        refine (copyOfN (HH.out.keep (HD0.out.1.trans (belD.mono HD0.out.1.size)) (Nat.le_refl _)) HZ.out HL.out).mono ?_
        rintro e wc ⟨b', k, rfl, oC, loC, bel⟩
        have lmC : wD.heap.size ≤ b' := Nat.le_trans belD.size loC
        have nE_C : NE ≠ b' := Nat.ne_of_lt (Nat.lt_of_lt_of_le (heap_lt kE) loC)
        have nX_C : NX ≠ b' := Nat.ne_of_lt (Nat.lt_of_lt_of_le (heap_lt kX) loC)
        clear loC
        replace belD := belD.trans (bel.mono belD.size)
        replace kE := heap_keep bel kE
        replace kX := heap_keep bel kX
        refine hK.out _ _ ?_ (fun hHeld2 => ?_)
        · (try dsimp only); exact next3_0 belD HD0.out
        clear hK K hHeld bel
        have hHeld := hHeld2
        clear hHeld2
        (try simp only [Act.put, List.setIfInBounds_toArray, List.set_cons_zero, List.set_cons_succ, List.getElem_toArray, List.getElem_cons_succ, List.getElem_cons_zero])
        refine wpAnyH_ready (rs := [3]) ?_ (by simp) ?_
        · decide +kernel
        refine AllReadyH.cons rfl (fun K hK => ?_) AllReadyH.nil
        go_simp
        go_at_call 50
        refine (extentOf).mono ?_
        rintro e we ⟨rfl, bel⟩
        replace belD := belD.trans (bel.mono belD.size)
        replace kE := heap_keep bel kE
        replace kX := heap_keep bel kX
        replace oC := oC.keep bel
        refine hK.out _ _ ?_ (fun hHeld2 => ?_)
        · (try dsimp only); exact next3_0 belD HD0.out
        clear hK K hHeld bel
        have hHeld := hHeld2
        clear hHeld2
        (try simp only [Act.put, List.setIfInBounds_toArray, List.set_cons_zero, List.set_cons_succ, List.getElem_toArray, List.getElem_cons_succ, List.getElem_cons_zero])
        refine wpAnyH_ready (rs := [6]) ?_ (by simp) ?_
        · decide +kernel
        refine AllReadyH.cons rfl (fun K hK => ?_) AllReadyH.nil
        have y0 : we.cell? ⟨NX, 0, none⟩ = some (.int .i64 0) := Go.Joins.cell_of_block kX 0
        have y1 : we.cell? ⟨NX, 1, none⟩ = some (.int .i64 0) := Go.Joins.cell_of_block kX 1
        have y2 : we.cell? ⟨NX, 2, none⟩ = some (.slice none 0 0) := Go.Joins.cell_of_block kX 2
        have g0 : we.frozen? ⟨NX, 0, none⟩ = false := Go.Joins.unfrozen_of_block kX 0
        have g1 : we.frozen? ⟨NX, 1, none⟩ = false := Go.Joins.unfrozen_of_block kX 1
        have g2 : we.frozen? ⟨NX, 2, none⟩ = false := Go.Joins.unfrozen_of_block kX 2
        have HKX := hid kX
        clear kX
        have HKE := hid kE
        clear kE
        go_simp
        clear y0 g0 y1 g1 y2 g2
        have qX := (Go.Joins.block_setCell (i := 2) (Go.Joins.block_setCell (i := 1) (Go.Joins.block_setCell (i := 0) HKX.out (.int .i64 R)) (.int .i64 C)) (.slice (some ⟨b', 0, none⟩) n k))
        have bz := (((belD.setCell (p := ⟨NX, 0, none⟩) lmX (.int .i64 R)).setCell (p := ⟨NX, 1, none⟩) lmX (.int .i64 C)).setCell (p := ⟨NX, 2, none⟩) lmX (.slice (some ⟨b', 0, none⟩) n k))
        have qE := ((Below.heap_setCell _ ⟨NX, 2, none⟩ (.slice (some ⟨b', 0, none⟩) n k) _ nE_X).trans ((Below.heap_setCell _ ⟨NX, 1, none⟩ (.int .i64 C) _ nE_X).trans ((Below.heap_setCell _ ⟨NX, 0, none⟩ (.int .i64 R) _ nE_X).trans HKE.out)))
        have qC := (own_set (own_set (own_set oC ⟨NX, 0, none⟩ (.int .i64 R) nX_C) ⟨NX, 1, none⟩ (.int .i64 C) nX_C) ⟨NX, 2, none⟩ (.slice (some ⟨b', 0, none⟩) n k) nX_C)
        obtain ⟨ws, hW5⟩ : ∃ ws, ws = (((we.setCell ⟨NX, 0, none⟩ (.int .i64 R)).setCell ⟨NX, 1, none⟩ (.int .i64 C)).setCell ⟨NX, 2, none⟩ (.slice (some ⟨b', 0, none⟩) n k)) := ⟨_, rfl⟩
        rw [← hW5] at qX bz qE qC
        clear HKX belD HKE oC
        have kX : ws.heap[NX]? = some (Obj.cells #[.int .i64 R, .int .i64 C, .slice (some ⟨b', 0, none⟩) n k] 26) := qX
        have belD := bz
        have kE := qE
        have oC := qC
        clear qX bz qE qC
        refine hK.out _ _ ?_ (fun hHeld2 => ?_)
        · (try dsimp only); rw [← hW5]; exact next3_0 belD HD0.out
        clear hK K hHeld
        (try dsimp only at hHeld2)
        simp only [← hW5] at hHeld2 ⊢
        clear hW5
        have hHeld := hHeld2
        clear hHeld2
        (try simp only [Act.put, List.setIfInBounds_toArray, List.set_cons_zero, List.set_cons_succ, List.getElem_toArray, List.getElem_cons_succ, List.getElem_cons_zero])
        refine wpAnyH_ready (rs := [7]) ?_ (by simp) ?_
        · decide +kernel
        refine AllReadyH.cons rfl (fun K hK => ?_) AllReadyH.nil
        have y0 : ws.cell? ⟨NE, 0, none⟩ = some (.int .i64 0) := Go.Joins.cell_of_block kE 0
        have y1 : ws.cell? ⟨NE, 1, none⟩ = some (.int .i64 0) := Go.Joins.cell_of_block kE 1
        have g0 : ws.frozen? ⟨NE, 0, none⟩ = false := Go.Joins.unfrozen_of_block kE 0
        have g1 : ws.frozen? ⟨NE, 1, none⟩ = false := Go.Joins.unfrozen_of_block kE 1
        have HKE := hid kE
        clear kE
        have HKX := hid kX
        clear kX
        go_simp
        clear y0 g0 y1 g1
        have qE := (Go.Joins.block_setCell (i := 1) (Go.Joins.block_setCell (i := 0) HKE.out (.int .i64 R)) (.int .i64 C))
        have bz := ((belD.setCell (p := ⟨NE, 0, none⟩) lmE (.int .i64 R)).setCell (p := ⟨NE, 1, none⟩) lmE (.int .i64 C))
        have qX := ((Below.heap_setCell _ ⟨NE, 1, none⟩ (.int .i64 C) _ (Ne.symm nE_X)).trans ((Below.heap_setCell _ ⟨NE, 0, none⟩ (.int .i64 R) _ (Ne.symm nE_X)).trans HKX.out))
        have qC := (own_set (own_set oC ⟨NE, 0, none⟩ (.int .i64 R) nE_C) ⟨NE, 1, none⟩ (.int .i64 C) nE_C)
        obtain ⟨wz, hW5⟩ : ∃ wz, wz = ((ws.setCell ⟨NE, 0, none⟩ (.int .i64 R)).setCell ⟨NE, 1, none⟩ (.int .i64 C)) := ⟨_, rfl⟩
        rw [← hW5] at qE bz qX qC
        clear HKE belD HKX oC
        have kE : wz.heap[NE]? = some (Obj.cells #[.int .i64 R, .int .i64 C] 60) := qE
        have belD := bz
        have kX := qX
        have oC := qC
        clear qE bz qX qC
        refine hK.out _ _ ?_ (fun hHeld2 => ?_)
        · (try dsimp only); rw [← hW5]; exact next3_0 belD HD0.out
        clear hK K hHeld
        (try dsimp only at hHeld2)
        simp only [← hW5] at hHeld2 ⊢
        clear hW5
        have hHeld := hHeld2
        clear hHeld2
        (try simp only [Act.put, List.setIfInBounds_toArray, List.set_cons_zero, List.set_cons_succ, List.getElem_toArray, List.getElem_cons_succ, List.getElem_cons_zero])
        refine wpAnyH_done (by kernel_rfl) ?_ _
        clear hHeld
        have hfin : Rd.Own 2 wz b' (.slice (some ⟨b', 0, none⟩) n k) zs ∧ wz.heap[NX]? = some (Obj.cells #[.int .i64 R, .int .i64 C, .slice (some ⟨b', 0, none⟩) n k] 26) ∧ wz.heap[NE]? = some (Obj.cells #[.int .i64 R, .int .i64 C] 60) ∧ wz.heap[NF]? = some (Obj.cells #[.int .i64 R, .int .i64 C, .slice (some ⟨b, off, none⟩) n cap] 26) ∧ wz.heap[NT]? = some (Obj.cells #[.int .i64 0, .int .i64 0, .slice none 0 0] 26) ∧ w.heap.size ≤ b' ∧ NX ≠ b' ∧ NE ≠ b' ∧ NF ≠ b' ∧ NT ≠ b' ∧ w.heap.size ≤ NT ∧ Below w.heap.size w wz := ⟨oC, kX, kE, heap_keep belD HKF.out, heap_keep belD HKT.out, Nat.le_trans HD0.out.1.size lmC, nX_C, nE_C, Nat.ne_of_lt (Nat.lt_of_lt_of_le (heap_lt HKF.out) lmC), Nat.ne_of_lt (Nat.lt_of_lt_of_le (heap_lt HKT.out) lmC), HNT.out, (HD0.out.1.trans (belD.mono HD0.out.1.size))⟩
        have HFI := hid hfin
        clear hfin oC kX kE belD
        go_wp2_with fail
        go_meet
        case rel => exact ⟨NX, NE, b', k, rfl, rfl, HFI.out⟩
  case rest =>
    obtain ⟨NX, NE, b', k, rfl, rfl, hfin⟩ := hcut
    have HFI := hid hfin
    clear hfin HB1 HF0 HK0 HM
    have f2 : wc.cell? ⟨NF, 2, none⟩ = some (.slice (some ⟨b, off, none⟩) n cap) := Go.Joins.cell_of_block HFI.out.2.2.2.1 2
    go_wp2
    obtain ⟨P0, hP0⟩ : ∃ P0 : Prop, P0 := ⟨True, trivial⟩
    refine wp_loop (fun a' wr => ∃ (p : Nat) (ds : List Nat) (x5 x6 x7 x16 x17 x18 x19 x20 x21 x22 x23 x24 x25 x26 x27 x28 x29 x30 x31 x32 x33 x34 x35 x36 x37 x38 x39 x40 : Value), (p ≤ n ∧ Marks wr ds ∧ (∀ D ∈ ds, wc.heap.size ≤ D) ∧ wc.grownBy wr (some b') ∧ ∃ ys, At ys n (fv zs R C p) ∧ Rd.Own 2 wr b' (.slice (some ⟨b', 0, none⟩) n k) ys) ∧ a' = { tmps := #[ruleV (R : Int) (C : Int) (.slice (some ⟨b, off, none⟩) n cap), .pointer (some ⟨NF, 0, none⟩), .pointer (some ⟨NT, 0, none⟩), .pointer (some ⟨NX, 0, none⟩), .pointer (some ⟨NE, 0, none⟩), x5, x6, x7, u8, u9, u10, u11, .pointer (some ⟨NF, 2, none⟩), .slice (some ⟨b, off, none⟩) n cap, .int .i64 (n : Int), .int .i64 (p : Int), x16, x17, x18, x19, x20, x21, x22, x23, x24, x25, x26, x27, x28, x29, x30, x31, x32, x33, x34, x35, x36, x37, x38, x39, x40, u41], defers := ds.map mk }) (fun a' _ => n - (intOf (a'.tmps.getD 15 undef)).toNat) ?_ ?_
    · exact ⟨0, [], _, _, _, _, _, _, _, _, _, _, _, _, _, _, _, _, _, _, _, _, _, _, _, _, _, _, _, _, ⟨Nat.zero_le _, ⟨List.nodup_nil, by simp⟩, by simp, g_refl _ _, zs, ⟨HL.out, fun i _ => (fv_zero zs R C i).symm⟩, HFI.out.1⟩, rfl⟩
    · rintro _ wr ⟨p, ds, x5, x6, x7, x16, x17, x18, x19, x20, x21, x22, x23, x24, x25, x26, x27, x28, x29, x30, x31, x32, x33, x34, x35, x36, x37, x38, x39, x40, ⟨hp, hmk, hlo, hg, ys, hat, hown⟩, rfl⟩
      have HMK := hid hmk
      have HLO := hid hlo
      have HG := hid hg
      have HAT := hid hat
      have HOW := hid hown
      have HBW := hid (g_below HFI.out.2.2.2.2.2.2.2.2.2.2.2 hg HFI.out.2.2.2.2.2.1)
      clear hmk hlo hg hat hown f2
      by_cases hlt : p < n
      · have zc : wr.cell? ⟨b, off + p, none⟩ = some (.int .i64 (zs.getD p 0)) := (HBW.out.cell (p := ⟨b, off + p, none⟩) HB0.out).trans (HCell.out p hlt)
        by_cases hz : zs.getD p 0 = 2
        · have HZ2 := hid hz
          rw [hz] at zc
          clear hz
          have x2 : wr.cell? ⟨NX, 2, none⟩ = some (.slice (some ⟨b', 0, none⟩) n k) := g_cell HG.out (Go.Joins.cell_of_block HFI.out.2.1 2) HFI.out.2.2.2.2.2.2.1
          have oc := HOW.out.cell (i := p) (by rw [HAT.out.1]; exact hlt)
          have of := HOW.out.free p
          go_upto_region 7 with fail
          obtain ⟨w2, hw2⟩ : ∃ w2, w2 = wr.setCell ⟨b', p, none⟩ (.int .i64 0) := ⟨_, rfl⟩
          have qo := HOW.out.set p 0
          have qg := g_set HG.out p (.int .i64 0)
          have qm : Marks w2 ds := by rw [hw2]; exact marks_set HMK.out HOW.out p _
          rw [← hw2] at qo qg
          have qa : At (ys.set p 0) n (fvI zs R C p []) := at_congr (at_set HAT.out hlt 0) (fun i _ => fv_start HZ2.out i)
          simp only [← hw2]
          clear hw2 zc x2 oc of
          have HQ := hid (And.intro qo (And.intro qg (And.intro qm qa)))
          have HBW2 := hid (g_below HFI.out.2.2.2.2.2.2.2.2.2.2.2 qg HFI.out.2.2.2.2.2.1)
          have e0 : w2.cell? ⟨NE, 0, none⟩ = some (.int .i64 (R : Int)) := g_cell qg (Go.Joins.cell_of_block HFI.out.2.2.1 0) HFI.out.2.2.2.2.2.2.2.1
          have e1 : w2.cell? ⟨NE, 1, none⟩ = some (.int .i64 (C : Int)) := g_cell qg (Go.Joins.cell_of_block HFI.out.2.2.1 1) HFI.out.2.2.2.2.2.2.2.1
          clear qo qg qm qa
          go_wp2_with fail
          go_at_call 46
          refine (beside (R := R) (C := C) (A := p) (gw_bel HGW.out HBW2.out)).mono ?_
          rintro e w5 ⟨NA, NS, rfl, hcap, hA, hS, bel⟩
          have HCP := hid hcap
          have HG5 := hid (g_bel HQ.out.2.1 bel)
          have HO5 := hid (HQ.out.1.keep bel)
          have HM5 : Hid (Marks w5 ds) := marks_bel HQ.out.2.2.1 bel
          have HKB : Hid (NA ≠ b' ∧ NS ≠ b' ∧ 0 ≠ b') := ⟨Nat.ne_of_gt (Nat.lt_of_lt_of_le HQ.out.1.lt hA), Nat.ne_of_gt (Nat.lt_of_lt_of_le HQ.out.1.lt hS), gw_ne HGW.out HFI.out.2.2.2.2.2.1⟩
          clear bel hA hS e0 e1
          go_wp2
          refine (wpIn_wide (n := 9)).1 ?_
          refine wpIn_rangeFunc_ownG (w := w5) rfl (by omega) (gf := 58) (lb := #[.pointer (some ⟨NS, 0, none⟩), .pointer (some ⟨NA, 0, none⟩)]) rfl trivial (enters_of Tryd.func58 (by kernel_rfl) rfl)
            (beside_stops hR hC (by have := HN.out; omega) HCP.out) (fun h k => KpB.t h k) (KpB.b (heap_lt HCP.out.1) (heap_lt HCP.out.2.1) (gw_lt HCP.out.2.2)) (Below.refl _ _) (fun _ => rfl)
            (fun pre W => ∃ ys, At ys n (fvI zs R C p (pre.map (·.1))) ∧ Rd.Own 2 W b' (.slice (some ⟨b', 0, none⟩) n k) ys ∧ wc.grownBy W (some b') ∧ Marks W ds ∧ w5.heap.size ≤ W.heap.size)
            (fun _ _ _ => False) ?own (fun _ _ _ _ _ hs _ _ => hs) ⟨ys.set p 0, HQ.out.2.2.2, HO5.out, HG5.out, HM5.out, Nat.le_refl _⟩ ?a1 ?assign ?body ?done ?stop
          case own =>
            refine ownFrom_of ?_ (fun s W hs => hs.choose_spec.2.2.2.2)
            rintro pre W W' ⟨ys, h1, h2, h3, h4, h5⟩ hB bel
            exact ⟨ys, h1, h2.keepAt bel HO5.out.lt, g_keep h3 HG5.out.size bel, marks_at h4 bel (fun D hD => heap_lt (HM5.out.2 D hD)), Nat.le_trans hB bel.size⟩
          case assign =>
            intro l x W K hK
            simp only [encP]
            gi_wp2
            exact hK
          case body =>
            rintro l pre ⟨X, hX⟩ W ⟨ys2, h1, h2, h3, h4, h5⟩ _
            have hXn : X < n := by have := HN.out; omega
            have HB6 := hid (g_below HFI.out.2.2.2.2.2.2.2.2.2.2.2 h3 HFI.out.2.2.2.2.2.1)
            have f2 : W.cell? ⟨NF, 2, none⟩ = some (.slice (some ⟨b, off, none⟩) n cap) := g_cell h3 (Go.Joins.cell_of_block HFI.out.2.2.2.1 2) HFI.out.2.2.2.2.2.2.2.2.1
            have x2 : W.cell? ⟨NX, 2, none⟩ = some (.slice (some ⟨b', 0, none⟩) n k) := g_cell h3 (Go.Joins.cell_of_block HFI.out.2.1 2) HFI.out.2.2.2.2.2.2.1
            have zc : W.cell? ⟨b, off + X, none⟩ = some (.int .i64 (zs.getD X 0)) := (HB6.out.cell (p := ⟨b, off + X, none⟩) HB0.out).trans (HCell.out X hXn)
            have oc := h2.cell (i := X) (by rw [h1.1]; exact hXn)
            have of := h2.free X
            have H1 := hid h1
            have H2 := hid h2
            have H3 := hid h3
            have H4 := hid h4
            have H5 := hid h5
            clear h1 h2 h3 h4 h5
            by_cases hz : zs.getD X 0 = 1
            · have HZX := hid hz
              rw [hz] at zc
              clear hz
              gi_wp2
              exact ⟨(KeepsOthers.setCell _ _ _).from _, KpB.set HKB.out _ _ _,
                ys2.set X 2, at_congr (at_set H1.out hXn 2) (fun i _ => by rw [List.map_append]; exact fvI_one HZX.out i), H2.out.set X 2, g_set H3.out X _, marks_set H4.out H2.out X _, by have := H5.out; simp [World.setCell]; exact this⟩
            · have HZX := hid hz
              obtain ⟨z, hzv⟩ : ∃ z, z = zs.getD X 0 := ⟨_, rfl⟩
              rw [← hzv] at zc hz
              have hzi : (z == 1) = false := by simpa using hz
              clear hz hzv
              gi_wp2
              exact ⟨KeepsFrom.refl _ _, ⟨Nat.le_refl _, fun _ _ => rfl⟩, ys2, at_congr H1.out (fun i _ => by rw [List.map_append]; exact fvI_skip HZX.out i), H2.out, H3.out, H4.out, H5.out⟩
          case done =>
            rintro D xs W hD hS ⟨ys2, h1, h2, h3, h4, h5⟩ hK
            have hS2 : xs.map (·.1) = besL R C p 4 := hS
            rw [hS2] at h1
            have hDn : D ∉ ds := fun hh => by have h6 := heap_lt (HM5.out.2 D hh); omega
            have HF := hid (And.intro (at_congr h1 (fun i _ => fvI_end HZ2.out i)) (And.intro h2 (And.intro h3 (show Marks W (D :: ds) from ⟨List.nodup_cons.2 ⟨hDn, h4.1⟩, fun E hE => by
              rcases List.mem_cons.1 hE with rfl | hE
              · exact hK
              · exact h4.2 E hE⟩))))
            have HLO2 : Hid (∀ E ∈ D :: ds, wc.heap.size ≤ E) := fun E hE => by
              rcases List.mem_cons.1 hE with rfl | hE
              · exact Nat.le_trans HG5.out.size hD
              · exact HLO.out E hE
            clear h1 h2 h3 h4 h5 hS hS2 hK hDn
            go_wp2
            refine ⟨⟨p + 1, D :: ds, _, _, _, _, _, _, _, _, _, _, _, _, _, _, _, _, _, _, _, _, _, _, _, _, _, _, _, _, ⟨by omega, HF.out.2.2.2, HLO2.out, HF.out.2.2.1, ys2, HF.out.1, HF.out.2.1⟩, rfl⟩, ?_⟩
            simp [intOf]; omega
          case stop =>
            rintro D c pre W _ _ hh _
            exact hh.elim
        · have HZ2 := hid hz
          obtain ⟨z, hzv⟩ : ∃ z, z = zs.getD p 0 := ⟨_, rfl⟩
          rw [← hzv] at zc hz
          have hzi : (z == 2) = false := by simpa using hz
          have hzi2 : (z != 2) = true := by simpa using hz
          clear hz hzv
          go_wp2
          refine ⟨⟨p + 1, ds, _, _, _, _, _, _, _, _, _, _, _, _, _, _, _, _, _, _, _, _, _, _, _, _, _, _, _, _, ⟨by omega, HMK.out, HLO.out, HG.out, ys, at_congr HAT.out (fun i _ => fv_skip HZ2.out i), HOW.out⟩, rfl⟩, ?_⟩
          simp [intOf]; omega
      · have hpn : p = n := by omega
        subst hpn
        have HLo : Hid (w.heap.size ≤ b') := HFI.out.2.2.2.2.2.1
        have x0 : wr.cell? ⟨NX, 0, none⟩ = some (.int .i64 R) := g_cell HG.out (Go.Joins.cell_of_block HFI.out.2.1 0) HFI.out.2.2.2.2.2.2.1
        have x1 : wr.cell? ⟨NX, 1, none⟩ = some (.int .i64 C) := g_cell HG.out (Go.Joins.cell_of_block HFI.out.2.1 1) HFI.out.2.2.2.2.2.2.1
        have x2 : wr.cell? ⟨NX, 2, none⟩ = some (.slice (some ⟨b', 0, none⟩) p k) := g_cell HG.out (Go.Joins.cell_of_block HFI.out.2.1 2) HFI.out.2.2.2.2.2.2.1
        have kT := g_heap HG.out HFI.out.2.2.2.2.1 HFI.out.2.2.2.2.2.2.2.2.2.1
        have y0 : wr.cell? ⟨NT, 0, none⟩ = some (.int .i64 0) := Go.Joins.cell_of_block kT 0
        have y1 : wr.cell? ⟨NT, 1, none⟩ = some (.int .i64 0) := Go.Joins.cell_of_block kT 1
        have y2 : wr.cell? ⟨NT, 2, none⟩ = some (.slice none 0 0) := Go.Joins.cell_of_block kT 2
        have g0 : wr.frozen? ⟨NT, 0, none⟩ = false := Go.Joins.unfrozen_of_block kT 0
        have g1 : wr.frozen? ⟨NT, 1, none⟩ = false := Go.Joins.unfrozen_of_block kT 1
        have g2 : wr.frozen? ⟨NT, 2, none⟩ = false := Go.Joins.unfrozen_of_block kT 2
        have HKT := hid kT
        clear kT
        go_wp2
        have hTb : NT ≠ b' := HFI.out.2.2.2.2.2.2.2.2.2.1
        have hTl : w.heap.size ≤ NT := HFI.out.2.2.2.2.2.2.2.2.2.2.1
        have hTm := marks_ne HMK.out HKT.out
        have q0 := (Go.Joins.block_setCell (i := 2) (Go.Joins.block_setCell (i := 1) (Go.Joins.block_setCell (i := 0) HKT.out (.int .i64 (R : Int))) (.int .i64 (C : Int))) (.slice (some ⟨b', 0, none⟩) p k))
        have q1 := (own_set (own_set (own_set HOW.out ⟨NT, 0, none⟩ (.int .i64 (R : Int)) hTb) ⟨NT, 1, none⟩ (.int .i64 (C : Int)) hTb) ⟨NT, 2, none⟩ (.slice (some ⟨b', 0, none⟩) p k) hTb)
        have q2 := (((HBW.out.setCell (p := ⟨NT, 0, none⟩) hTl (.int .i64 (R : Int))).setCell (p := ⟨NT, 1, none⟩) hTl (.int .i64 (C : Int))).setCell (p := ⟨NT, 2, none⟩) hTl (.slice (some ⟨b', 0, none⟩) p k))
        have q3 := (marks_cells (marks_cells (marks_cells HMK.out NT 0 (.int .i64 (R : Int)) hTm) NT 1 (.int .i64 (C : Int)) hTm) NT 2 (.slice (some ⟨b', 0, none⟩) p k) hTm)
        obtain ⟨W5, hW⟩ : ∃ W5, W5 = (((wr.setCell ⟨NT, 0, none⟩ (.int .i64 (R : Int))).setCell ⟨NT, 1, none⟩ (.int .i64 (C : Int))).setCell ⟨NT, 2, none⟩ (.slice (some ⟨b', 0, none⟩) p k)) := ⟨_, rfl⟩
        rw [← hW] at q0 q1 q2 q3
        rw [← hW]
        clear hW y0 y1 y2 g0 g1 g2 x0 x1 x2
        refine leaves_marks (B := wc.heap.size) ds W5 q3 HLO.out (fun w' hb hc => ?_)
        have q4 := hc NT _ q0 rfl
        have z0 : w'.cell? ⟨NT, 0, none⟩ = some (.int .i64 R) := Go.Joins.cell_of_block q4 0
        have z1 : w'.cell? ⟨NT, 1, none⟩ = some (.int .i64 C) := Go.Joins.cell_of_block q4 1
        have z2 : w'.cell? ⟨NT, 2, none⟩ = some (.slice (some ⟨b', 0, none⟩) p k) := Go.Joins.cell_of_block q4 2
        have hfl : ys = fireL zs R C p := at_list HAT.out
        refine ⟨ruleV R C (.slice (some ⟨b', 0, none⟩) p k), by simp [results, Tryd.f37, go_sem, z0, z1, z2], b', k, rfl, ?_, HLo.out, q2.trans (hb.mono HFI.out.2.2.2.2.2.2.2.2.2.2.2.size)⟩
        rw [← hfl]
        exact own_cells q1 hc

end Go.Proofs.YthcbhbdgbiiagaaDoor.Fir
