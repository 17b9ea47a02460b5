/- ShiftField, the program. -/
import Derived.Test.YtcdbbbifdidpdaaGrow
import Derived.Test.YtcdbbbifdidpdaaCopy
import Derived.Test.YtcdbbbifdidpdaaFSh
import Derived.Test.YtcdbbbifdidpdaaRnd
import Derived.Test.YtcdbbbifdidpdaaRot
namespace Go.Proofs.Ytcdbbbifdidpdaa.FShI
open Go.RowKit Go.Proofs.Ytcdbbbifdidpdaa.Rd Go.Proofs.Ytcdbbbifdidpdaa.Help Go.Proofs.Ytcdbbbifdidpdaa.Ring Go.Proofs.Ytcdbbbifdidpdaa.Small Go.Proofs.Ytcdbbbifdidpdaa.FVal Go.Proofs.Ytcdbbbifdidpdaa.Keep Go.Proofs.Ytcdbbbifdidpdaa.Rule Go.Proofs.Ytcdbbbifdidpdaa.Grow Go.Proofs.Ytcdbbbifdidpdaa.Copy Go.Proofs.Ytcdbbbifdidpdaa.Rnd Go.Proofs.Ytcdbbbifdidpdaa.FSh
set_option linter.unusedVariables false
set_option linter.unusedSimpArgs false

theorem gTrans {w0 w w' : World} {b : Nat} (g : w0.grownBy w (some b)) (h : w.grownBy w' (some b)) : w0.grownBy w' (some b) :=
  ⟨h.os.trans g.os, h.tape.trans g.tape, h.output.trans g.output, Nat.le_trans g.size h.size, fun k hk hne => (h.block k (Nat.lt_of_lt_of_le hk g.size) hne).trans (g.block k hk hne)⟩
theorem onRoundQ {w : World} {f : Int} {n X : Nat} (hX : X = (f % (n : Int)).toNat) (hf : -1000000 ≤ f ∧ f ≤ 1000000) (hn : 1 ≤ n ∧ n ≤ 1000000) :
    Calls Try.prog 86 #[.int .i64 f, .int .i64 n] w fun e w' => e = .returned (.int .i64 X) ∧ w = w' := by
  refine (Round.onRound hf hn).mono ?_
  rintro e w' ⟨rfl, rfl⟩
  rw [hX, (rnd_lt f hn.1).1]
  exact ⟨rfl, rfl⟩
theorem turn_col (sc : Int) (k : Nat) {C : Nat} (hC : 1 ≤ C) : (k + ((-sc) % (C : Int)).toNat) % C = (((k : Int) - sc) % (C : Int)).toNat := by
  have h1 := (rnd_lt (-sc) hC).1
  have h2 := (rnd_lt ((k : Int) - sc) hC).1
  have h3 : (((k + ((-sc) % (C : Int)).toNat) % C : Nat) : Int) = ((k : Int) - sc) % (C : Int) := by
    rw [Int.natCast_emod, Int.natCast_add, h1, Int.add_emod_emod]
    rfl
  omega

set_option maxHeartbeats 16000000 in
theorem shifted {w : World} {R C n : Nat} {sr sc : Int} {b : Nat} {v : Value} {zs : List Int} (h : Rd w b v zs) (hq : fieldB R C zs = true) (hn : n = R * C) (hsr : -24 ≤ sr ∧ sr ≤ 24) (hsc : -24 ≤ sc ∧ sc ≤ 24) :
    Calls Try.prog 78 #[ruleV R C v, shapeV sr sc] w fun e w' => ∃ b', e = .returned (ruleV R C (.slice (some ⟨b', 0, none⟩) n n)) ∧ Own 2 w' b' (.slice (some ⟨b', 0, none⟩) n n) (shL zs R C sr sc) ∧ w.heap.size ≤ b' ∧ Below w.heap.size w w' := by
  obtain ⟨hR, hC, hl, hle⟩ := field_nat hq
  have HH := hid h
  have HQ := hid hq
  obtain ⟨ao, cap, rfl, hc, hm, h4⟩ := h
  rw [← hn] at hle
  have hpos : 0 < zs.length := by rw [hl]; exact Nat.mul_pos hR.1 hC.1
  obtain ⟨off, rfl, hb, hcell⟩ := h4 hpos
  have hln : zs.length = n := by rw [hn]; exact hl
  rw [hln] at HH hc hcell ⊢
  have hsz : n ≤ cap ∧ cap ≤ 9223372036854775807 := by unfold maxLen at hm; omega
  have HCap := hid (show n ≤ cap ∧ cap ≤ maxLen from ⟨hc, hm⟩)
  have HL : Hid (zs.length = n) := by simp only [Hid]; rw [hn]; exact hl
  have HN := hid hn
  have HR := hid hR
  have HC := hid hC
  have HB0 := hid hb
  have HCell := hid hcell
  have HLE := hid hle
  clear hc hm h4 hq hn hl hpos hb hcell hln
  have HSR := hid hsr
  have HSC := hid hsc
  clear hsr hsc
  go_enter Try.func78, Try.ntmps78
  go_wp2_with fail
  obtain ⟨w1, hW⟩ : ∃ w1, w1 = ((w.alloc (Obj.cells #[.int .i64 R, .int .i64 C, .slice (some ⟨b, off, none⟩) n cap] 27)).alloc (Obj.cells #[.int .i64 sr, .int .i64 sc] 61)).alloc (Obj.cells #[.int .i64 0, .int .i64 0, .slice none 0 0] 27) := ⟨_, rfl⟩
  obtain ⟨N, hN⟩ : ∃ N, N = w.heap.size := ⟨_, rfl⟩
  obtain ⟨NE, hE⟩ : ∃ NE, NE = N + 1 := ⟨_, rfl⟩
  obtain ⟨NT, hM⟩ : ∃ NT, NT = NE + 1 := ⟨_, rfl⟩
  have st : Below w.heap.size w w1 ∧ w1.cell? ⟨N, 0, none⟩ = some (.int .i64 R) ∧ w1.cell? ⟨N, 1, none⟩ = some (.int .i64 C) ∧ w1.cell? ⟨N, 2, none⟩ = some (.slice (some ⟨b, off, none⟩) n cap) ∧ w1.cell? ⟨NE, 0, none⟩ = some (.int .i64 sr) ∧ w1.cell? ⟨NE, 1, none⟩ = some (.int .i64 sc) ∧ Rd w1 b (.slice (some ⟨b, off, none⟩) n cap) zs ∧ w.heap.size ≤ w1.heap.size := by
    rw [hW, hE, hN]
    exact ⟨Go.Joins.below_alloc3 _ _ _ _, Go.Joins.cell_of_block (FNew.heap_old (FNew.heap_old (FNew.heap_top rfl))) 0, Go.Joins.cell_of_block (FNew.heap_old (FNew.heap_old (FNew.heap_top rfl))) 1, Go.Joins.cell_of_block (FNew.heap_old (FNew.heap_old (FNew.heap_top rfl))) 2, Go.Joins.cell_of_block (FNew.heap_old (FNew.heap_top (by simp))) 0, Go.Joins.cell_of_block (FNew.heap_old (FNew.heap_top (by simp))) 1, HH.out.keep (Go.Joins.below_alloc3 _ _ _ _) (Nat.le_refl _), by simp; omega⟩
  have kT : w1.heap[NT]? = some (Obj.cells #[.int .i64 0, .int .i64 0, .slice none 0 0] 27) := by rw [hW]; exact FNew.heap_top (by rw [hM, hE, hN]; simp)
  have HNT : Hid (w.heap.size ≤ NT) := by simp only [Hid]; omega
  have HNN : Hid (NE = N + 1 ∧ NT = NE + 1 ∧ N = w.heap.size) := ⟨hE, hM, hN⟩
  simp only [← hW, ← hN, ← hE, ← hM]
  clear hW hN hM hE
  go_at_call 50
  refine extentOf.mono ?_
  rintro e w2 ⟨rfl, bel⟩
  replace st := next5_1 bel st
  replace kT := (bel.block NT (Array.getElem?_eq_some_iff.1 kT).1).trans kT
  clear bel
  go_wp2_with fail
  go_at_call 59
  refine (FNew.emptyField HN.out HLE.out).mono ?_
  rintro e w3 ⟨b', rfl, ow, lo, bel⟩
  have hNTb : NT < b' := Nat.lt_of_lt_of_le (Array.getElem?_eq_some_iff.1 kT).1 lo
  have lob : w.heap.size ≤ b' := Nat.le_trans st.1.size lo
  replace st := next5_1 bel st
  replace kT := (bel.block NT (Array.getElem?_eq_some_iff.1 kT).1).trans kT
  have hb3 : b' < w3.heap.size := ow.lt
  clear bel lo
  obtain ⟨w4, hW⟩ : ∃ w4, w4 = w3.alloc (Obj.cells #[.int .i64 R, .int .i64 C, .slice (some ⟨b', 0, none⟩) n n] 27) := ⟨_, rfl⟩
  obtain ⟨NO, hO⟩ : ∃ NO, NO = w3.heap.size := ⟨_, rfl⟩
  have bel : Below w3.heap.size w3 w4 := by rw [hW]; exact below1 _ _
  replace st := next5_1 bel st
  have hTO : NT < NO := by rw [hO]; exact (Array.getElem?_eq_some_iff.1 kT).1
  replace kT := (bel.block NT (Array.getElem?_eq_some_iff.1 kT).1).trans kT
  replace ow := ow.keep bel
  have kO : w4.heap[NO]? = some (Obj.cells #[.int .i64 R, .int .i64 C, .slice (some ⟨b', 0, none⟩) n n] 27) := by rw [hW]; exact FNew.heap_top hO
  have hbO : b' < NO := by rw [hO]; exact hb3
  have hNb : N < b' := by have := HNN.out; omega
  have HSX := hid st
  have HOW := hid ow
  have HKT := hid kT
  have HKO := hid kO
  have HAp := hid (show N < NT ∧ NT < b' ∧ b' < NO ∧ w.heap.size ≤ b' from ⟨by have := HNN.out; omega, hNTb, hbO, lob⟩)
  clear st ow kT kO bel hb3 hNTb hTO hbO hNb lob
  have cx0 := HSX.out.2.1
  rw [hW] at cx0
  go_wp2
  clear cx0
  simp only [← hW, ← hO]
  clear hW hO
  have HNE : Hid (NE ≠ b') := by have h1 := HNN.out; have h2 := HAp.out; simp only [Hid]; omega
  have HCLX : Hid (∀ i, i < n → w4.cell? ⟨b, off + i, none⟩ = some (.int .i64 (zs.getD i 0))) := fun i hi => (HSX.out.1.cell (p := ⟨b, off + i, none⟩) HB0.out).trans (HCell.out i hi)
  have hRC : R ≤ 24 ∧ C ≤ 24 := ⟨HR.out.2, HC.out.2⟩
  go_loopw [6, 7, 13] (fun i0 i1 i wr => ∃ p : Nat, p ≤ R ∧ i = .int .i64 p ∧ ∃ ys, AtG ys R C (upTo (fun i k => zs.getD (shS R C sr sc i k) 0) (fun _ _ => 0) p) ∧ Own 2 wr b' (.slice (some ⟨b', 0, none⟩) n n) ys ∧ w4.grownBy wr (some b')) (fun _ _ i _ => R - (intOf i).toNat)
  case atStart => exact ⟨0, Nat.zero_le _, rfl, List.replicate n 0, rows_start (by rw [List.length_replicate, HN.out]) (fun i k _ _ => zeros_get), HOW.out, g_refl _ _⟩
  case round =>
    obtain ⟨p, hp, rfl, ys, hat, hown, hg⟩ := hrel
    have c0 := g_cell hg HSX.out.2.1 (Nat.ne_of_lt (Nat.lt_trans HAp.out.1 HAp.out.2.1))
    have c1 := g_cell hg HSX.out.2.2.1 (Nat.ne_of_lt (Nat.lt_trans HAp.out.1 HAp.out.2.1))
    have c2 := g_cell hg HSX.out.2.2.2.1 (Nat.ne_of_lt (Nat.lt_trans HAp.out.1 HAp.out.2.1))
    have d0 := g_cell hg (Go.Joins.cell_of_block HKO.out 0) (Nat.ne_of_gt HAp.out.2.2.1)
    have d1 := g_cell hg (Go.Joins.cell_of_block HKO.out 1) (Nat.ne_of_gt HAp.out.2.2.1)
    have d2 := g_cell hg (Go.Joins.cell_of_block HKO.out 2) (Nat.ne_of_gt HAp.out.2.2.1)
    have n0 := g_cell hg HSX.out.2.2.2.2.1 HNE.out
    have n1 := g_cell hg HSX.out.2.2.2.2.2.1 HNE.out
    by_cases hlt : p < R
    · obtain ⟨X, hX⟩ : ∃ X, X = (((p : Int) - sr) % (R : Int)).toNat := ⟨_, rfl⟩
      obtain ⟨Y, hY⟩ : ∃ Y, Y = ((-sc) % (C : Int)).toNat := ⟨_, rfl⟩
      have HXr := hid hX
      have HYr := hid hY
      have HXlt : Hid (X < R) := by simp only [Hid]; rw [hX]; exact (rnd_lt _ HR.out.1).2
      have HYlt : Hid (Y < C) := by simp only [Hid]; rw [hY]; exact (rnd_lt _ HC.out.1).2
      obtain ⟨P1, hP1⟩ : ∃ P1, P1 = X * C := ⟨_, rfl⟩
      obtain ⟨P2, hP2⟩ : ∃ P2, P2 = p * C := ⟨_, rfl⟩
      obtain ⟨RL, hRL⟩ : ∃ RL, RL = (List.range C).map (fun k => zs.getD (P1 + k) 0) := ⟨_, rfl⟩
      have HRL : Hid (RL.length = C) := by simp only [Hid]; rw [hRL]; simp
      have HRG : Hid (∀ k, k < C → RL.getD k 0 = zs.getD (P1 + k) 0) := by intro k hk; rw [hRL]; simp [List.getD, hk]
      obtain ⟨XS, hXS⟩ : ∃ XS, XS = Rot.rot RL Y C := ⟨_, rfl⟩
      have HXL : Hid (XS.length = C) := by simp only [Hid]; rw [hXS, Rot.rot_length]
      have HXG : Hid (∀ k, k < C → (Rot.rot RL Y C).getD k 0 = XS.getD k 0) := by intro k hk; rw [hXS]
      have HXF : Hid (∀ k, k < C → XS.getD k 0 = zs.getD (shS R C sr sc p k) 0) := by
        intro k hk
        rw [hXS, Rot.rot_getD _ _ _ _ hk, HRL.out, HRG.out _ (Nat.mod_lt _ (by have := HC.out; omega)), hY, turn_col sc k HC.out.1, hP1, hX]
        rfl
      have HIN : Hid (P1 + C ≤ n) := by simp only [Hid]; rw [hP1, HN.out]; exact Row.row_in (C := C) HXlt.out
      have HIN2 : Hid (P2 + C ≤ n) := by simp only [Hid]; rw [hP2, HN.out]; exact Row.row_in (C := C) hlt
      have HYL : Hid (ys.length = n) := by simp only [Hid]; rw [hat.1, HN.out]
      have e0 : IntKind.i64.wrap ((p : Int) - sr) = (p : Int) - sr := by have := HSR.out; rw [IntKind.wrap_i64]; omega
      have e1 : IntKind.i64.wrap (-sc) = -sc := by have := HSC.out; rw [IntKind.wrap_i64]; omega
      have HBW := g_below HSX.out.1 hg HAp.out.2.2.2
      have hx1 : N ≠ b' := Nat.ne_of_lt (Nat.lt_trans HAp.out.1 HAp.out.2.1)
      have hx2 : NO ≠ b' := Nat.ne_of_gt HAp.out.2.2.1
      have hx4 : NE ≠ b' := HNE.out
      have HAT := hid hat
      have HO1 := hid hown
      have HG1 := hid hg
      have HP1 := hid hP1
      have HP2 := hid hP2
      have hpi : (p : Int) < (R : Int) := by omega
      clear hX hY hRL hXS hat hown hg hP1 hP2
      go_wp2_with fail
      refine wp_region_held_drew (S := (fun ww => Below w.heap.size w ww ∧ ww.cell? ⟨N, 0, none⟩ = some (.int .i64 R) ∧ ww.cell? ⟨N, 1, none⟩ = some (.int .i64 C) ∧ ww.cell? ⟨N, 2, none⟩ = some (.slice (some ⟨b, off, none⟩) n cap) ∧ ww.cell? ⟨NE, 0, none⟩ = some (.int .i64 sr) ∧ ww.cell? ⟨NE, 1, none⟩ = some (.int .i64 sc) ∧ ww.cell? ⟨NO, 0, none⟩ = some (.int .i64 R) ∧ ww.cell? ⟨NO, 1, none⟩ = some (.int .i64 C) ∧ ww.cell? ⟨NO, 2, none⟩ = some (.slice (some ⟨b', 0, none⟩) n n) ∧ w.heap.size ≤ ww.heap.size)) (by kernel_rfl) ?_ (fun hHeld => ?_)
      · ((try dsimp only); exact ⟨HBW.drew, c0, c1, c2, n0, n1, d0, d1, d2, Nat.le_trans HSX.out.2.2.2.2.2.2.2 HG1.out.size⟩)
      have ow : Own 2 wr.drew b' (.slice (some ⟨b', 0, none⟩) n n) ys := HO1.out
      have g : w4.grownBy wr.drew (some b') := g_drew HG1.out
      clear c0 c1 c2 n0 n1 d0 d1 d2 HBW
      (refine wpAnyH_take (i := 0) (v := ?_) rfl ?_ ?_ ?_ (fun _ _ _ h => h) (Or.inl ⟨?_, ?_⟩) ?_ ?_; rotate_left 1; (focus decide +kernel); (focus decide +kernel); (focus decide +kernel); (focus rfl); (focus (intro w hSw; (try dsimp only at hSw); go_simp; (try (with_reducible rfl)); done)); (focus assumption); (try simp only [Act.put, List.setIfInBounds_toArray, List.set_cons_zero, List.set_cons_succ, List.getElem_toArray, List.getElem_cons_succ, List.getElem_cons_zero]))
      (refine wpAnyH_take (i := 1) (v := ?_) rfl ?_ ?_ ?_ (fun _ _ _ h => h) (Or.inl ⟨?_, ?_⟩) ?_ ?_; rotate_left 1; (focus decide +kernel); (focus decide +kernel); (focus decide +kernel); (focus rfl); (focus (intro w hSw; (try dsimp only at hSw); go_simp; (try (with_reducible rfl)); done)); (focus assumption); (try simp only [Act.put, List.setIfInBounds_toArray, List.set_cons_zero, List.set_cons_succ, List.getElem_toArray, List.getElem_cons_succ, List.getElem_cons_zero]))
      (refine wpAnyH_take (i := 2) (v := ?_) rfl ?_ ?_ ?_ (fun _ _ _ h => h) (Or.inl ⟨?_, ?_⟩) ?_ ?_; rotate_left 1; (focus decide +kernel); (focus decide +kernel); (focus decide +kernel); (focus rfl); (focus (intro w hSw; (try dsimp only at hSw); go_simp; (try (with_reducible rfl)); done)); (focus assumption); (try simp only [Act.put, List.setIfInBounds_toArray, List.set_cons_zero, List.set_cons_succ, List.getElem_toArray, List.getElem_cons_succ, List.getElem_cons_zero]))
      (refine wpAnyH_take (i := 3) (v := ?_) rfl ?_ ?_ ?_ (fun _ _ _ h => h) (Or.inl ⟨?_, ?_⟩) ?_ ?_; rotate_left 1; (focus decide +kernel); (focus decide +kernel); (focus decide +kernel); (focus rfl); (focus (intro w hSw; (try dsimp only at hSw); go_simp; (try (with_reducible rfl)); done)); (focus assumption); (try simp only [Act.put, List.setIfInBounds_toArray, List.set_cons_zero, List.set_cons_succ, List.getElem_toArray, List.getElem_cons_succ, List.getElem_cons_zero]))
      (refine wpAnyH_take (i := 4) (v := ?_) rfl ?_ ?_ ?_ (fun _ _ _ h => h) (Or.inl ⟨?_, ?_⟩) ?_ ?_; rotate_left 1; (focus decide +kernel); (focus decide +kernel); (focus decide +kernel); (focus rfl); (focus (intro w hSw; (try dsimp only at hSw); go_simp; (try (with_reducible rfl)); done)); (focus assumption); (try simp only [Act.put, List.setIfInBounds_toArray, List.set_cons_zero, List.set_cons_succ, List.getElem_toArray, List.getElem_cons_succ, List.getElem_cons_zero]))
      (refine wpAnyH_take (i := 5) (v := ?_) rfl ?_ ?_ ?_ (fun _ _ _ h => h) (Or.inl ⟨?_, ?_⟩) ?_ ?_; rotate_left 1; (focus decide +kernel); (focus decide +kernel); (focus decide +kernel); (focus rfl); (focus (intro w hSw; (try dsimp only at hSw); go_simp; (try (with_reducible rfl)); done)); (focus assumption); (try simp only [Act.put, List.setIfInBounds_toArray, List.set_cons_zero, List.set_cons_succ, List.getElem_toArray, List.getElem_cons_succ, List.getElem_cons_zero]))
      (refine wpAnyH_take (i := 6) (v := ?_) rfl ?_ ?_ ?_ (fun _ _ _ h => h) (Or.inl ⟨?_, ?_⟩) ?_ ?_; rotate_left 1; (focus decide +kernel); (focus decide +kernel); (focus decide +kernel); (focus rfl); (focus (intro w hSw; (try dsimp only at hSw); go_simp; (try (with_reducible rfl)); done)); (focus assumption); (try simp only [Act.put, List.setIfInBounds_toArray, List.set_cons_zero, List.set_cons_succ, List.getElem_toArray, List.getElem_cons_succ, List.getElem_cons_zero]))
      refine wpAnyH_ready (rs := [7]) ?_ (by simp) ?_
      · decide +kernel
      refine AllReadyH.cons rfl (fun K hK => ?_) AllReadyH.nil
      go_simp
      go_at_call 86
      refine (onRoundQ (f := (p : Int) - sr) HXr.out (by have := HSR.out; omega) (by have := HR.out; omega)).mono ?_
      rintro e wq ⟨rfl, rfl⟩
      refine hK.out _ _ ?_ (fun hHeld2 => ?_)
      · (try dsimp only); exact hHeld
      clear hK K hHeld
      have hHeld := hHeld2
      clear hHeld2
      (try simp only [Act.put, List.setIfInBounds_toArray, List.set_cons_zero, List.set_cons_succ, List.getElem_toArray, List.getElem_cons_succ, List.getElem_cons_zero])
      refine wpAnyH_ready (rs := [8]) ?_ (by simp) ?_
      · decide +kernel
      refine AllReadyH.cons rfl (fun K hK => ?_) AllReadyH.nil
      go_simp
      go_at_call 69
      refine (rowOfP HP1.out HN.out HLE.out HXlt.out HR.out.2 HC.out HCap.out.1 HCap.out.2).mono ?_
      rintro e wb ⟨rfl, bel⟩
      replace ow := ow.keep bel
      replace g := g_bel g bel
      refine hK.out _ _ ?_ (fun hHeld2 => ?_)
      · (try dsimp only); exact next8_0 bel hHeld
      clear hK K hHeld bel
      have hHeld := hHeld2
      clear hHeld2
      (try simp only [Act.put, List.setIfInBounds_toArray, List.set_cons_zero, List.set_cons_succ, List.getElem_toArray, List.getElem_cons_succ, List.getElem_cons_zero])
      (refine wpAnyH_take (i := 9) (v := ?_) rfl ?_ ?_ ?_ (fun _ _ _ h => h) (Or.inl ⟨?_, ?_⟩) ?_ ?_; rotate_left 1; (focus decide +kernel); (focus decide +kernel); (focus decide +kernel); (focus rfl); (focus (intro w hSw; (try dsimp only at hSw); go_simp; (try (with_reducible rfl)); done)); (focus assumption); (try simp only [Act.put, List.setIfInBounds_toArray, List.set_cons_zero, List.set_cons_succ, List.getElem_toArray, List.getElem_cons_succ, List.getElem_cons_zero]))
      refine wpAnyH_done (by kernel_rfl) ?_ _
      have HO5 := hid ow
      have HG5 := hid g
      have HH5 := hid hHeld
      clear ow g hHeld
      have c1 := HH5.out.2.2.1
      go_wp2_with fail
      clear c1
      refine wp_region_held_drew (S := (fun ww => Below w.heap.size w ww ∧ ww.cell? ⟨N, 0, none⟩ = some (.int .i64 R) ∧ ww.cell? ⟨N, 1, none⟩ = some (.int .i64 C) ∧ ww.cell? ⟨N, 2, none⟩ = some (.slice (some ⟨b, off, none⟩) n cap) ∧ ww.cell? ⟨NE, 0, none⟩ = some (.int .i64 sr) ∧ ww.cell? ⟨NE, 1, none⟩ = some (.int .i64 sc) ∧ ww.cell? ⟨NO, 0, none⟩ = some (.int .i64 R) ∧ ww.cell? ⟨NO, 1, none⟩ = some (.int .i64 C) ∧ ww.cell? ⟨NO, 2, none⟩ = some (.slice (some ⟨b', 0, none⟩) n n) ∧ w.heap.size ≤ ww.heap.size)) (by kernel_rfl) ?_ (fun hHeld => ?_)
      · ((try dsimp only); exact drew8_0 HH5.out)
      generalize hD : wb.drew = wE at hHeld ⊢
      have ow : Own 2 wE b' (.slice (some ⟨b', 0, none⟩) n n) ys := by rw [← hD]; exact HO5.out
      have g : w4.grownBy wE (some b') := by rw [← hD]; exact g_drew HG5.out
      clear hD
      (refine wpAnyH_take (i := 0) (v := ?_) rfl ?_ ?_ ?_ (fun _ _ _ h => h) (Or.inl ⟨?_, ?_⟩) ?_ ?_; rotate_left 1; (focus decide +kernel); (focus decide +kernel); (focus decide +kernel); (focus rfl); (focus (intro w hSw; (try dsimp only at hSw); go_simp; (try (with_reducible rfl)); done)); (focus assumption); (try simp only [Act.put, List.setIfInBounds_toArray, List.set_cons_zero, List.set_cons_succ, List.getElem_toArray, List.getElem_cons_succ, List.getElem_cons_zero]))
      (refine wpAnyH_take (i := 1) (v := ?_) rfl ?_ ?_ ?_ (fun _ _ _ h => h) (Or.inl ⟨?_, ?_⟩) ?_ ?_; rotate_left 1; (focus decide +kernel); (focus decide +kernel); (focus decide +kernel); (focus rfl); (focus (intro w hSw; (try dsimp only at hSw); go_simp; (try (with_reducible rfl)); done)); (focus assumption); (try simp only [Act.put, List.setIfInBounds_toArray, List.set_cons_zero, List.set_cons_succ, List.getElem_toArray, List.getElem_cons_succ, List.getElem_cons_zero]))
      (refine wpAnyH_take (i := 3) (v := ?_) rfl ?_ ?_ ?_ (fun _ _ _ h => h) (Or.inl ⟨?_, ?_⟩) ?_ ?_; rotate_left 1; (focus decide +kernel); (focus decide +kernel); (focus decide +kernel); (focus rfl); (focus (intro w hSw; (try dsimp only at hSw); go_simp; (try (with_reducible rfl)); done)); (focus assumption); (try simp only [Act.put, List.setIfInBounds_toArray, List.set_cons_zero, List.set_cons_succ, List.getElem_toArray, List.getElem_cons_succ, List.getElem_cons_zero]))
      (refine wpAnyH_take (i := 4) (v := ?_) rfl ?_ ?_ ?_ (fun _ _ _ h => h) (Or.inl ⟨?_, ?_⟩) ?_ ?_; rotate_left 1; (focus decide +kernel); (focus decide +kernel); (focus decide +kernel); (focus rfl); (focus (intro w hSw; (try dsimp only at hSw); go_simp; (try (with_reducible rfl)); done)); (focus assumption); (try simp only [Act.put, List.setIfInBounds_toArray, List.set_cons_zero, List.set_cons_succ, List.getElem_toArray, List.getElem_cons_succ, List.getElem_cons_zero]))
      (refine wpAnyH_take (i := 5) (v := ?_) rfl ?_ ?_ ?_ (fun _ _ _ h => h) (Or.inl ⟨?_, ?_⟩) ?_ ?_; rotate_left 1; (focus decide +kernel); (focus decide +kernel); (focus decide +kernel); (focus rfl); (focus (intro w hSw; (try dsimp only at hSw); go_simp; (try (with_reducible rfl)); done)); (focus assumption); (try simp only [Act.put, List.setIfInBounds_toArray, List.set_cons_zero, List.set_cons_succ, List.getElem_toArray, List.getElem_cons_succ, List.getElem_cons_zero]))
      (refine wpAnyH_take (i := 6) (v := ?_) rfl ?_ ?_ ?_ (fun _ _ _ h => h) (Or.inl ⟨?_, ?_⟩) ?_ ?_; rotate_left 1; (focus decide +kernel); (focus decide +kernel); (focus decide +kernel); (focus rfl); (focus (intro w hSw; (try dsimp only at hSw); go_simp; (try (with_reducible rfl)); done)); (focus assumption); (try simp only [Act.put, List.setIfInBounds_toArray, List.set_cons_zero, List.set_cons_succ, List.getElem_toArray, List.getElem_cons_succ, List.getElem_cons_zero]))
      (refine wpAnyH_take (i := 7) (v := ?_) rfl ?_ ?_ ?_ (fun _ _ _ h => h) (Or.inl ⟨?_, ?_⟩) ?_ ?_; rotate_left 1; (focus decide +kernel); (focus decide +kernel); (focus decide +kernel); (focus rfl); (focus (intro w hSw; (try dsimp only at hSw); go_simp; (try (with_reducible rfl)); done)); (focus assumption); (try simp only [Act.put, List.setIfInBounds_toArray, List.set_cons_zero, List.set_cons_succ, List.getElem_toArray, List.getElem_cons_succ, List.getElem_cons_zero]))
      (refine wpAnyH_take (i := 8) (v := ?_) rfl ?_ ?_ ?_ (fun _ _ _ h => h) (Or.inl ⟨?_, ?_⟩) ?_ ?_; rotate_left 1; (focus decide +kernel); (focus decide +kernel); (focus decide +kernel); (focus rfl); (focus (intro w hSw; (try dsimp only at hSw); go_simp; (try (with_reducible rfl)); done)); (focus assumption); (try simp only [Act.put, List.setIfInBounds_toArray, List.set_cons_zero, List.set_cons_succ, List.getElem_toArray, List.getElem_cons_succ, List.getElem_cons_zero]))
      refine wpAnyH_ready (rs := [2]) ?_ (by simp) ?_
      · decide +kernel
      refine AllReadyH.cons rfl (fun K hK => ?_) AllReadyH.nil
      go_simp
      go_at_call 69
      refine (rowOf0 HP2.out HN.out HLE.out hlt HR.out.2 HC.out (Nat.le_refl _) (by have := HLE.out; unfold maxLen; omega)).mono ?_
      rintro e wa ⟨rfl, bel⟩
      replace ow := ow.keep bel
      replace g := g_bel g bel
      refine hK.out _ _ ?_ (fun hHeld2 => ?_)
      · (try dsimp only); exact next8_0 bel hHeld
      clear hK K hHeld bel
      have hHeld := hHeld2
      clear hHeld2
      (try simp only [Act.put, List.setIfInBounds_toArray, List.set_cons_zero, List.set_cons_succ, List.getElem_toArray, List.getElem_cons_succ, List.getElem_cons_zero])
      refine wpAnyH_ready (rs := [9]) ?_ (by simp) ?_
      · decide +kernel
      refine AllReadyH.cons rfl (fun K hK => ?_) AllReadyH.nil
      go_simp
      go_at_call 86
      refine (onRoundQ (f := -sc) HYr.out (by have := HSC.out; omega) (by have := HC.out; omega)).mono ?_
      rintro e wq ⟨rfl, rfl⟩
      refine hK.out _ _ ?_ (fun hHeld2 => ?_)
      · (try dsimp only); exact hHeld
      clear hK K hHeld
      have hHeld := hHeld2
      clear hHeld2
      (try simp only [Act.put, List.setIfInBounds_toArray, List.set_cons_zero, List.set_cons_succ, List.getElem_toArray, List.getElem_cons_succ, List.getElem_cons_zero])
      refine wpAnyH_ready (rs := [10]) ?_ (by simp) ?_
      · decide +kernel
      refine AllReadyH.cons rfl (fun K hK => ?_) AllReadyH.nil
      go_simp
      have hrd : Rd wa b (.slice (some ⟨b, off + P1, none⟩) C C) RL := ⟨_, C, by rw [HRL.out], by rw [HRL.out]; exact Nat.le_refl _, by have := HC.out; unfold maxLen; omega, fun _ => ⟨off + P1, rfl, Nat.lt_of_lt_of_le HB0.out hHeld.1.size, fun i hi => by rw [HRL.out] at hi; rw [HRG.out i hi, Nat.add_assoc]; exact g_cell g (HCLX.out (P1 + i) (by have := HIN.out; omega)) (Nat.ne_of_lt (Nat.lt_of_lt_of_le HB0.out HAp.out.2.2.2))⟩⟩
      go_at_call 87
      refine (Rot.implTurned hrd (by rw [HRL.out]; have := HC.out; omega) (by rw [HRL.out]; exact HYlt.out)).mono ?_
      rintro e wt ⟨v5, b5, rfl, o5, lo5, bel⟩
      clear hrd
      rw [HRL.out] at o5
      rcases o5.form with ⟨_, he⟩ | ⟨cap5, rfl, _, _, _⟩
      · exact absurd he (by intro e; have h1 := Rot.rot_length RL Y C; rw [e] at h1; have := HC.out; simp at h1; omega)
      rw [Rot.rot_length] at o5 ⊢
      replace ow := ow.keep bel
      replace g := g_bel g bel
      refine hK.out _ _ ?_ (fun hHeld2 => ?_)
      · (try dsimp only); exact next8_0 bel hHeld
      clear hK K hHeld bel
      have hHeld := hHeld2
      clear hHeld2
      (try simp only [Act.put, List.setIfInBounds_toArray, List.set_cons_zero, List.set_cons_succ, List.getElem_toArray, List.getElem_cons_succ, List.getElem_cons_zero])
      refine wpAnyH_ready (rs := [11]) ?_ (by simp) ?_
      · decide +kernel
      refine AllReadyH.cons rfl (fun K hK => ?_) AllReadyH.nil
      refine step_copy (xs := XS) rfl _ _ rfl ow HYL.out P2 C C b5 0 C cap5 rfl rfl ?c1 ?c2 ?c3 ?_
      case c1 => rw [HXL.out]; show C = min C C; omega
      case c2 => intro i hi; rw [HXL.out] at hi; have hc := o5.cell (i := i) (by rw [Rot.rot_length]; exact hi); rw [Nat.zero_add, hc, HXG.out i hi]
      case c3 => rw [HXL.out]; have := HIN2.out; omega
      intro w9 ow9 g9
      have hgg := gTrans g g9
      refine hK.out _ _ ?_ (fun hHeld5 => ?_)
      · (try dsimp only); obtain ⟨h0, h1, h2, h3, h4, h5, h6, h7, h8, h9⟩ := hHeld; exact ⟨g_below h0 g9 HAp.out.2.2.2, g_cell g9 h1 hx1, g_cell g9 h2 hx1, g_cell g9 h3 hx1, g_cell g9 h4 hx4, g_cell g9 h5 hx4, g_cell g9 h6 hx2, g_cell g9 h7 hx2, g_cell g9 h8 hx2, Nat.le_trans h9 g9.size⟩
      clear hK K hHeld5 hHeld g9 g ow o5
      (try simp only [Act.put, List.setIfInBounds_toArray, List.set_cons_zero, List.set_cons_succ, List.getElem_toArray, List.getElem_cons_succ, List.getElem_cons_zero])
      refine wpAnyH_done (by kernel_rfl) ?_ _
      have HO3 := hid ow9
      have HG3 := hid hgg
      clear ow9 hgg
      go_wp2
      go_roundw
      case rel =>
        refine ⟨p + 1, by omega, by go_num, _, row_step (p := p) hlt HAT.out HXL.out HXF.out, ?_, HG3.out⟩
        rw [← HP2.out]; exact HO3.out
      case measure => simp [intOf]; omega
    · have hpC : R = p := by omega
      subst hpC
      rw [rows_end hat] at hown
      clear n0 n1
      have hg2 := hg
      have kTr := g_heap hg HKT.out (Nat.ne_of_lt HAp.out.2.1)
      have HB := hid (g_below HSX.out.1 hg HAp.out.2.2.2)
      have HLo : Hid (w.heap.size ≤ b') := HAp.out.2.2.2
      have HNB : Hid (NT ≠ b') := Nat.ne_of_lt HAp.out.2.1
      have HO := hid hown
      clear hown hg hg2
      have y0 : wr.cell? ⟨NT, 0, none⟩ = some (.int .i64 0) := Go.Joins.cell_of_block kTr 0
      have y1 : wr.cell? ⟨NT, 1, none⟩ = some (.int .i64 0) := Go.Joins.cell_of_block kTr 1
      have y2 : wr.cell? ⟨NT, 2, none⟩ = some (.slice none 0 0) := Go.Joins.cell_of_block kTr 2
      have g0 : wr.frozen? ⟨NT, 0, none⟩ = false := Go.Joins.unfrozen_of_block kTr 0
      have g1 : wr.frozen? ⟨NT, 1, none⟩ = false := Go.Joins.unfrozen_of_block kTr 1
      have g2 : wr.frozen? ⟨NT, 2, none⟩ = false := Go.Joins.unfrozen_of_block kTr 2
      have HKx := hid kTr
      clear kTr
      go_wp2
      obtain ⟨W5, hW⟩ : ∃ W5, W5 = (((wr.setCell ⟨NT, 0, none⟩ (.int .i64 R)).setCell ⟨NT, 1, none⟩ (.int .i64 C)).setCell ⟨NT, 2, none⟩ (.slice (some ⟨b', 0, none⟩) n n)) := ⟨_, rfl⟩
      have q0 := (Go.Joins.block_setCell (i := 2) (Go.Joins.block_setCell (i := 1) (Go.Joins.block_setCell (i := 0) HKx.out (.int .i64 R)) (.int .i64 C)) (.slice (some ⟨b', 0, none⟩) n n))
      rw [← hW] at q0
      have z0 : W5.cell? ⟨NT, 0, none⟩ = some (.int .i64 R) := Go.Joins.cell_of_block q0 0
      have z1 : W5.cell? ⟨NT, 1, none⟩ = some (.int .i64 C) := Go.Joins.cell_of_block q0 1
      have z2 : W5.cell? ⟨NT, 2, none⟩ = some (.slice (some ⟨b', 0, none⟩) n n) := Go.Joins.cell_of_block q0 2
      have O5 := (own_set (own_set (own_set HO.out ⟨NT, 0, none⟩ (.int .i64 R) HNB.out) ⟨NT, 1, none⟩ (.int .i64 C) HNB.out) ⟨NT, 2, none⟩ (.slice (some ⟨b', 0, none⟩) n n) HNB.out)
      rw [← hW] at O5
      have B5 : Below w.heap.size w W5 := by
        have h1 := HNT.out
        rw [hW]
        exact ((HB.out.setCell (by simp; omega) _).setCell (by simp; omega) _).setCell (by simp; omega) _
      simp only [← hW]
      clear hW q0
      simp [bodyPost, results, Try.results78, go_sem, z0, z1, z2]
      exact ⟨O5, HLo.out, B5⟩

set_option maxHeartbeats 2000000 in
theorem implNo1 {w : World} {s r sr sc : Int} {b : Nat} {v : Value} {zs : List Int} (h : Rd w b v zs) (hq : fieldB s r zs = false) :
    Calls Try.prog 46 #[ruleV s r v, .int .i64 sr, .int .i64 sc] w fun e w' => e = .returned (.tuple #[ruleV 0 0 (.slice none 0 0), .bool false]) ∧ Below w.heap.size w w' := by
  have HH := hid h
  have HQ := hid hq
  obtain ⟨ao, cap, rfl, hc, hm, _⟩ := h
  clear hc hm hq
  go_enter Try.func46, Try.ntmps46
  go_wp2_with fail
  obtain ⟨w1, hW⟩ : ∃ w1, w1 = (w.alloc (Obj.cells #[.int .i64 s, .int .i64 r, .slice ao zs.length cap] 27)).alloc (Obj.cells #[.int .i64 0, .int .i64 0, .slice none 0 0] 27) := ⟨_, rfl⟩
  obtain ⟨N, hN⟩ : ∃ N, N = w.heap.size := ⟨_, rfl⟩
  obtain ⟨NT, hM⟩ : ∃ NT, NT = N + 1 := ⟨_, rfl⟩
  have st : Below w.heap.size w w1 ∧ w1.cell? ⟨N, 0, none⟩ = some (.int .i64 s) ∧ w1.cell? ⟨N, 1, none⟩ = some (.int .i64 r) ∧ w1.cell? ⟨N, 2, none⟩ = some (.slice ao zs.length cap) ∧ Rd w1 b (.slice ao zs.length cap) zs ∧ w.heap.size ≤ w1.heap.size := by
    rw [hW, hN]
    exact ⟨Go.Joins.below_alloc2 _ _ _, by simp, by simp, by simp, HH.out.keep (Go.Joins.below_alloc2 _ _ _) (Nat.le_refl _), by simp; omega⟩
  have kT : w1.heap[NT]? = some (Obj.cells #[.int .i64 0, .int .i64 0, .slice none 0 0] 27) := by rw [hW]; exact FNew.heap_top (by rw [hM, hN]; simp)
  have HNT : Hid (w.heap.size ≤ NT) := by simp only [Hid]; omega
  have HNN : Hid (NT = N + 1 ∧ N = w.heap.size) := ⟨hM, hN⟩
  simp only [← hW, ← hN, ← hM]
  clear hW hN hM
  go_at_call 18
  refine (implValid (rd3_1_0 st)).mono ?_
  rw [HQ.out]
  rintro e w2 ⟨rfl, bel⟩
  replace st := next3_1 bel st
  replace kT := (bel.block NT (Array.getElem?_eq_some_iff.1 kT).1).trans kT
  clear bel

  have HB := hid st.1
  have y0 : w2.cell? ⟨NT, 0, none⟩ = some (.int .i64 0) := Go.Joins.cell_of_block kT 0
  have y1 : w2.cell? ⟨NT, 1, none⟩ = some (.int .i64 0) := Go.Joins.cell_of_block kT 1
  have y2 : w2.cell? ⟨NT, 2, none⟩ = some (.slice none 0 0) := Go.Joins.cell_of_block kT 2
  have g0 : w2.frozen? ⟨NT, 0, none⟩ = false := Go.Joins.unfrozen_of_block kT 0
  have g1 : w2.frozen? ⟨NT, 1, none⟩ = false := Go.Joins.unfrozen_of_block kT 1
  have g2 : w2.frozen? ⟨NT, 2, none⟩ = false := Go.Joins.unfrozen_of_block kT 2
  have HKx := hid kT
  clear kT
  go_wp2
  obtain ⟨W5, hW⟩ : ∃ W5, W5 = (((w2.setCell ⟨NT, 0, none⟩ (.int .i64 0)).setCell ⟨NT, 1, none⟩ (.int .i64 0)).setCell ⟨NT, 2, none⟩ (.slice none 0 0)) := ⟨_, rfl⟩
  have q0 := (Go.Joins.block_setCell (i := 2) (Go.Joins.block_setCell (i := 1) (Go.Joins.block_setCell (i := 0) HKx.out (.int .i64 0)) (.int .i64 0)) (.slice none 0 0))
  rw [← hW] at q0
  have z0 : W5.cell? ⟨NT, 0, none⟩ = some (.int .i64 0) := Go.Joins.cell_of_block q0 0
  have z1 : W5.cell? ⟨NT, 1, none⟩ = some (.int .i64 0) := Go.Joins.cell_of_block q0 1
  have z2 : W5.cell? ⟨NT, 2, none⟩ = some (.slice none 0 0) := Go.Joins.cell_of_block q0 2
  have B5 : Below w.heap.size w W5 := by
    have h1 := HNT.out
    rw [hW]
    exact ((HB.out.setCell (by simp; omega) _).setCell (by simp; omega) _).setCell (by simp; omega) _
  simp only [← hW]
  clear hW q0
  simp [bodyPost, results, Try.results46, go_sem, z0, z1, z2]
  exact B5

set_option maxHeartbeats 2000000 in
theorem implNo2 {w : World} {s r sr sc : Int} {b : Nat} {v : Value} {zs : List Int} (h : Rd w b v zs) (hq : fieldB s r zs = true) (hk : decide (-24 ≤ sr ∧ sr ≤ 24) = false) :
    Calls Try.prog 46 #[ruleV s r v, .int .i64 sr, .int .i64 sc] w fun e w' => e = .returned (.tuple #[ruleV 0 0 (.slice none 0 0), .bool false]) ∧ Below w.heap.size w w' := by
  have HH := hid h
  have HQ := hid hq
  obtain ⟨ao, cap, rfl, hc, hm, _⟩ := h
  have HK := hid hk
  clear hc hm hq hk
  go_enter Try.func46, Try.ntmps46
  go_wp2_with fail
  obtain ⟨w1, hW⟩ : ∃ w1, w1 = (w.alloc (Obj.cells #[.int .i64 s, .int .i64 r, .slice ao zs.length cap] 27)).alloc (Obj.cells #[.int .i64 0, .int .i64 0, .slice none 0 0] 27) := ⟨_, rfl⟩
  obtain ⟨N, hN⟩ : ∃ N, N = w.heap.size := ⟨_, rfl⟩
  obtain ⟨NT, hM⟩ : ∃ NT, NT = N + 1 := ⟨_, rfl⟩
  have st : Below w.heap.size w w1 ∧ w1.cell? ⟨N, 0, none⟩ = some (.int .i64 s) ∧ w1.cell? ⟨N, 1, none⟩ = some (.int .i64 r) ∧ w1.cell? ⟨N, 2, none⟩ = some (.slice ao zs.length cap) ∧ Rd w1 b (.slice ao zs.length cap) zs ∧ w.heap.size ≤ w1.heap.size := by
    rw [hW, hN]
    exact ⟨Go.Joins.below_alloc2 _ _ _, by simp, by simp, by simp, HH.out.keep (Go.Joins.below_alloc2 _ _ _) (Nat.le_refl _), by simp; omega⟩
  have kT : w1.heap[NT]? = some (Obj.cells #[.int .i64 0, .int .i64 0, .slice none 0 0] 27) := by rw [hW]; exact FNew.heap_top (by rw [hM, hN]; simp)
  have HNT : Hid (w.heap.size ≤ NT) := by simp only [Hid]; omega
  have HNN : Hid (NT = N + 1 ∧ N = w.heap.size) := ⟨hM, hN⟩
  simp only [← hW, ← hN, ← hM]
  clear hW hN hM
  go_at_call 18
  refine (implValid (rd3_1_0 st)).mono ?_
  rw [HQ.out]
  rintro e w2 ⟨rfl, bel⟩
  replace st := next3_1 bel st
  replace kT := (bel.block NT (Array.getElem?_eq_some_iff.1 kT).1).trans kT
  clear bel

  go_wp2_with fail
  go_at_call 77
  refine isFromB.mono ?_
  rw [HK.out]
  rintro e w5 ⟨rfl, rfl⟩
  have HB := hid st.1
  have y0 : w2.cell? ⟨NT, 0, none⟩ = some (.int .i64 0) := Go.Joins.cell_of_block kT 0
  have y1 : w2.cell? ⟨NT, 1, none⟩ = some (.int .i64 0) := Go.Joins.cell_of_block kT 1
  have y2 : w2.cell? ⟨NT, 2, none⟩ = some (.slice none 0 0) := Go.Joins.cell_of_block kT 2
  have g0 : w2.frozen? ⟨NT, 0, none⟩ = false := Go.Joins.unfrozen_of_block kT 0
  have g1 : w2.frozen? ⟨NT, 1, none⟩ = false := Go.Joins.unfrozen_of_block kT 1
  have g2 : w2.frozen? ⟨NT, 2, none⟩ = false := Go.Joins.unfrozen_of_block kT 2
  have HKx := hid kT
  clear kT
  go_wp2
  obtain ⟨W5, hW⟩ : ∃ W5, W5 = (((w2.setCell ⟨NT, 0, none⟩ (.int .i64 0)).setCell ⟨NT, 1, none⟩ (.int .i64 0)).setCell ⟨NT, 2, none⟩ (.slice none 0 0)) := ⟨_, rfl⟩
  have q0 := (Go.Joins.block_setCell (i := 2) (Go.Joins.block_setCell (i := 1) (Go.Joins.block_setCell (i := 0) HKx.out (.int .i64 0)) (.int .i64 0)) (.slice none 0 0))
  rw [← hW] at q0
  have z0 : W5.cell? ⟨NT, 0, none⟩ = some (.int .i64 0) := Go.Joins.cell_of_block q0 0
  have z1 : W5.cell? ⟨NT, 1, none⟩ = some (.int .i64 0) := Go.Joins.cell_of_block q0 1
  have z2 : W5.cell? ⟨NT, 2, none⟩ = some (.slice none 0 0) := Go.Joins.cell_of_block q0 2
  have B5 : Below w.heap.size w W5 := by
    have h1 := HNT.out
    rw [hW]
    exact ((HB.out.setCell (by simp; omega) _).setCell (by simp; omega) _).setCell (by simp; omega) _
  simp only [← hW]
  clear hW q0
  simp [bodyPost, results, Try.results46, go_sem, z0, z1, z2]
  exact B5

set_option maxHeartbeats 2000000 in
theorem implNo3 {w : World} {s r sr sc : Int} {b : Nat} {v : Value} {zs : List Int} (h : Rd w b v zs) (hq : fieldB s r zs = true) (hk : decide (-24 ≤ sr ∧ sr ≤ 24) = true) (hk2 : decide (-24 ≤ sc ∧ sc ≤ 24) = false) :
    Calls Try.prog 46 #[ruleV s r v, .int .i64 sr, .int .i64 sc] w fun e w' => e = .returned (.tuple #[ruleV 0 0 (.slice none 0 0), .bool false]) ∧ Below w.heap.size w w' := by
  have HH := hid h
  have HQ := hid hq
  obtain ⟨ao, cap, rfl, hc, hm, _⟩ := h
  have HK := hid hk
  have HK2 := hid hk2
  clear hc hm hq hk hk2
  go_enter Try.func46, Try.ntmps46
  go_wp2_with fail
  obtain ⟨w1, hW⟩ : ∃ w1, w1 = (w.alloc (Obj.cells #[.int .i64 s, .int .i64 r, .slice ao zs.length cap] 27)).alloc (Obj.cells #[.int .i64 0, .int .i64 0, .slice none 0 0] 27) := ⟨_, rfl⟩
  obtain ⟨N, hN⟩ : ∃ N, N = w.heap.size := ⟨_, rfl⟩
  obtain ⟨NT, hM⟩ : ∃ NT, NT = N + 1 := ⟨_, rfl⟩
  have st : Below w.heap.size w w1 ∧ w1.cell? ⟨N, 0, none⟩ = some (.int .i64 s) ∧ w1.cell? ⟨N, 1, none⟩ = some (.int .i64 r) ∧ w1.cell? ⟨N, 2, none⟩ = some (.slice ao zs.length cap) ∧ Rd w1 b (.slice ao zs.length cap) zs ∧ w.heap.size ≤ w1.heap.size := by
    rw [hW, hN]
    exact ⟨Go.Joins.below_alloc2 _ _ _, by simp, by simp, by simp, HH.out.keep (Go.Joins.below_alloc2 _ _ _) (Nat.le_refl _), by simp; omega⟩
  have kT : w1.heap[NT]? = some (Obj.cells #[.int .i64 0, .int .i64 0, .slice none 0 0] 27) := by rw [hW]; exact FNew.heap_top (by rw [hM, hN]; simp)
  have HNT : Hid (w.heap.size ≤ NT) := by simp only [Hid]; omega
  have HNN : Hid (NT = N + 1 ∧ N = w.heap.size) := ⟨hM, hN⟩
  simp only [← hW, ← hN, ← hM]
  clear hW hN hM
  go_at_call 18
  refine (implValid (rd3_1_0 st)).mono ?_
  rw [HQ.out]
  rintro e w2 ⟨rfl, bel⟩
  replace st := next3_1 bel st
  replace kT := (bel.block NT (Array.getElem?_eq_some_iff.1 kT).1).trans kT
  clear bel

  go_wp2_with fail
  go_at_call 77
  refine isFromB.mono ?_
  rw [HK.out]
  rintro e w5 ⟨rfl, rfl⟩
  go_wp2_with fail
  go_at_call 77
  refine isFromB.mono ?_
  rw [HK2.out]
  rintro e w5 ⟨rfl, rfl⟩
  have HB := hid st.1
  have y0 : w2.cell? ⟨NT, 0, none⟩ = some (.int .i64 0) := Go.Joins.cell_of_block kT 0
  have y1 : w2.cell? ⟨NT, 1, none⟩ = some (.int .i64 0) := Go.Joins.cell_of_block kT 1
  have y2 : w2.cell? ⟨NT, 2, none⟩ = some (.slice none 0 0) := Go.Joins.cell_of_block kT 2
  have g0 : w2.frozen? ⟨NT, 0, none⟩ = false := Go.Joins.unfrozen_of_block kT 0
  have g1 : w2.frozen? ⟨NT, 1, none⟩ = false := Go.Joins.unfrozen_of_block kT 1
  have g2 : w2.frozen? ⟨NT, 2, none⟩ = false := Go.Joins.unfrozen_of_block kT 2
  have HKx := hid kT
  clear kT
  go_wp2
  obtain ⟨W5, hW⟩ : ∃ W5, W5 = (((w2.setCell ⟨NT, 0, none⟩ (.int .i64 0)).setCell ⟨NT, 1, none⟩ (.int .i64 0)).setCell ⟨NT, 2, none⟩ (.slice none 0 0)) := ⟨_, rfl⟩
  have q0 := (Go.Joins.block_setCell (i := 2) (Go.Joins.block_setCell (i := 1) (Go.Joins.block_setCell (i := 0) HKx.out (.int .i64 0)) (.int .i64 0)) (.slice none 0 0))
  rw [← hW] at q0
  have z0 : W5.cell? ⟨NT, 0, none⟩ = some (.int .i64 0) := Go.Joins.cell_of_block q0 0
  have z1 : W5.cell? ⟨NT, 1, none⟩ = some (.int .i64 0) := Go.Joins.cell_of_block q0 1
  have z2 : W5.cell? ⟨NT, 2, none⟩ = some (.slice none 0 0) := Go.Joins.cell_of_block q0 2
  have B5 : Below w.heap.size w W5 := by
    have h1 := HNT.out
    rw [hW]
    exact ((HB.out.setCell (by simp; omega) _).setCell (by simp; omega) _).setCell (by simp; omega) _
  simp only [← hW]
  clear hW q0
  simp [bodyPost, results, Try.results46, go_sem, z0, z1, z2]
  exact B5

set_option maxHeartbeats 4000000 in
theorem implOk {w : World} {R C n : Nat} {sr sc : Int} {b : Nat} {v : Value} {zs : List Int} (h : Rd w b v zs) (hq : fieldB R C zs = true) (hn : n = R * C) (hsr : -24 ≤ sr ∧ sr ≤ 24) (hsc : -24 ≤ sc ∧ sc ≤ 24) :
    Calls Try.prog 46 #[ruleV R C v, .int .i64 sr, .int .i64 sc] w fun e w' => ∃ b', e = .returned ((.tuple #[ruleV R C (.slice (some ⟨b', 0, none⟩) n n), .bool true])) ∧ Own 2 w' b' (.slice (some ⟨b', 0, none⟩) n n) (shL zs R C sr sc) ∧ w.heap.size ≤ b' ∧ Below w.heap.size w w' := by
  obtain ⟨hR, hC, hl, hle⟩ := field_nat hq
  have HH := hid h
  have HQ := hid hq
  obtain ⟨ao, cap, rfl, hc, hm, h4⟩ := h
  rw [← hn] at hle
  have hpos : 0 < zs.length := by rw [hl]; exact Nat.mul_pos hR.1 hC.1
  obtain ⟨off, rfl, hb, hcell⟩ := h4 hpos
  have hln : zs.length = n := by rw [hn]; exact hl
  rw [hln] at HH hc hcell ⊢
  have hsz : n ≤ cap ∧ cap ≤ 9223372036854775807 := by unfold maxLen at hm; omega
  have HCap := hid (show n ≤ cap ∧ cap ≤ maxLen from ⟨hc, hm⟩)
  have HL : Hid (zs.length = n) := by simp only [Hid]; rw [hn]; exact hl
  have HN := hid hn
  have HR := hid hR
  have HC := hid hC
  have HB0 := hid hb
  have HCell := hid hcell
  have HLE := hid hle
  clear hc hm h4 hq hn hl hpos hb hcell hln
  have HSR := hid hsr
  have HSC := hid hsc
  have HS1 : Hid (decide (-24 ≤ sr ∧ sr ≤ 24) = true) := decide_eq_true hsr
  have HS2 : Hid (decide (-24 ≤ sc ∧ sc ≤ 24) = true) := decide_eq_true hsc
  clear hsr hsc
  go_enter Try.func46, Try.ntmps46
  go_wp2_with fail
  obtain ⟨w1, hW⟩ : ∃ w1, w1 = (w.alloc (Obj.cells #[.int .i64 R, .int .i64 C, .slice (some ⟨b, off, none⟩) n cap] 27)).alloc (Obj.cells #[.int .i64 0, .int .i64 0, .slice none 0 0] 27) := ⟨_, rfl⟩
  obtain ⟨N, hN⟩ : ∃ N, N = w.heap.size := ⟨_, rfl⟩
  obtain ⟨NT, hM⟩ : ∃ NT, NT = N + 1 := ⟨_, rfl⟩
  have st : Below w.heap.size w w1 ∧ w1.cell? ⟨N, 0, none⟩ = some (.int .i64 R) ∧ w1.cell? ⟨N, 1, none⟩ = some (.int .i64 C) ∧ w1.cell? ⟨N, 2, none⟩ = some (.slice (some ⟨b, off, none⟩) n cap) ∧ Rd w1 b (.slice (some ⟨b, off, none⟩) n cap) zs ∧ w.heap.size ≤ w1.heap.size := by
    rw [hW, hN]
    exact ⟨Go.Joins.below_alloc2 _ _ _, by simp, by simp, by simp, HH.out.keep (Go.Joins.below_alloc2 _ _ _) (Nat.le_refl _), by simp; omega⟩
  have kT : w1.heap[NT]? = some (Obj.cells #[.int .i64 0, .int .i64 0, .slice none 0 0] 27) := by rw [hW]; exact FNew.heap_top (by rw [hM, hN]; simp)
  have HNT : Hid (w.heap.size ≤ NT) := by simp only [Hid]; omega
  have HNN : Hid (NT = N + 1 ∧ N = w.heap.size) := ⟨hM, hN⟩
  simp only [← hW, ← hN, ← hM]
  clear hW hN hM
  go_at_call 18
  refine (implValid (rd3_1_0 st)).mono ?_
  rw [HQ.out]
  rintro e w2 ⟨rfl, bel⟩
  replace st := next3_1 bel st
  replace kT := (bel.block NT (Array.getElem?_eq_some_iff.1 kT).1).trans kT
  clear bel

  go_wp2_with fail
  go_at_call 77
  refine isFromB.mono ?_
  rw [HS1.out]
  rintro e w5 ⟨rfl, rfl⟩
  go_wp2_with fail
  go_at_call 77
  refine isFromB.mono ?_
  rw [HS2.out]
  rintro e w5 ⟨rfl, rfl⟩
  go_wp2_with fail
  go_at_call 78
  refine (shifted (rd3_1_0 st) HQ.out HN.out HSR.out HSC.out).mono ?_
  rintro e w3 ⟨b', rfl, ow, lo, bel⟩
  have kb3 := (bel.block NT (Array.getElem?_eq_some_iff.1 kT).1).trans kT
  have HB := hid (st.1.trans (bel.mono st.1.size))
  have HNB : Hid (NT ≠ b') := Nat.ne_of_lt (Nat.lt_of_lt_of_le (Array.getElem?_eq_some_iff.1 kT).1 lo)
  have HLo : Hid (w.heap.size ≤ b') := Nat.le_trans st.1.size lo
  have HO := hid ow
  clear ow lo bel st kT
  have y0 : w3.cell? ⟨NT, 0, none⟩ = some (.int .i64 0) := Go.Joins.cell_of_block kb3 0
  have y1 : w3.cell? ⟨NT, 1, none⟩ = some (.int .i64 0) := Go.Joins.cell_of_block kb3 1
  have y2 : w3.cell? ⟨NT, 2, none⟩ = some (.slice none 0 0) := Go.Joins.cell_of_block kb3 2
  have g0 : w3.frozen? ⟨NT, 0, none⟩ = false := Go.Joins.unfrozen_of_block kb3 0
  have g1 : w3.frozen? ⟨NT, 1, none⟩ = false := Go.Joins.unfrozen_of_block kb3 1
  have g2 : w3.frozen? ⟨NT, 2, none⟩ = false := Go.Joins.unfrozen_of_block kb3 2
  have HKx := hid kb3
  clear kb3
  go_wp2
  obtain ⟨W5, hW⟩ : ∃ W5, W5 = (((w3.setCell ⟨NT, 0, none⟩ (.int .i64 R)).setCell ⟨NT, 1, none⟩ (.int .i64 C)).setCell ⟨NT, 2, none⟩ (.slice (some ⟨b', 0, none⟩) n n)) := ⟨_, rfl⟩
  have q0 := (Go.Joins.block_setCell (i := 2) (Go.Joins.block_setCell (i := 1) (Go.Joins.block_setCell (i := 0) HKx.out (.int .i64 R)) (.int .i64 C)) (.slice (some ⟨b', 0, none⟩) n n))
  rw [← hW] at q0
  have z0 : W5.cell? ⟨NT, 0, none⟩ = some (.int .i64 R) := Go.Joins.cell_of_block q0 0
  have z1 : W5.cell? ⟨NT, 1, none⟩ = some (.int .i64 C) := Go.Joins.cell_of_block q0 1
  have z2 : W5.cell? ⟨NT, 2, none⟩ = some (.slice (some ⟨b', 0, none⟩) n n) := Go.Joins.cell_of_block q0 2
  have O5 := (own_set (own_set (own_set HO.out ⟨NT, 0, none⟩ (.int .i64 R) HNB.out) ⟨NT, 1, none⟩ (.int .i64 C) HNB.out) ⟨NT, 2, none⟩ (.slice (some ⟨b', 0, none⟩) n n) HNB.out)
  rw [← hW] at O5
  have B5 : Below w.heap.size w W5 := by
    have h1 := HNT.out
    rw [hW]
    exact ((HB.out.setCell (by simp; omega) _).setCell (by simp; omega) _).setCell (by simp; omega) _
  simp only [← hW]
  clear hW q0
  simp [bodyPost, results, Try.results46, go_sem, z0, z1, z2]
  exact ⟨O5, HLo.out, B5⟩

theorem agree (s r : Int) (zs : List Int) (sr sc : Int) : ∃ (qs qr : Int) (rs : List Int) (ok : Bool), rs.length ≤ 1000000 ∧
    (∀ (w : World) (b : Nat) (v : Value), Rd w b v zs → Calls Try.prog 45 #[ruleV s r v, .int .i64 sr, .int .i64 sc] w fun e w' => ∃ ao c b', e = .returned (.tuple #[ruleV qs qr (.slice ao rs.length c), .bool ok]) ∧ Own 2 w' b' (.slice ao rs.length c) rs ∧ w.heap.size ≤ b' ∧ Below w.heap.size w w') ∧
    (∀ (w : World) (b : Nat) (v : Value), Rd w b v zs → Calls Try.prog 46 #[ruleV s r v, .int .i64 sr, .int .i64 sc] w fun e w' => ∃ ao c b', e = .returned (.tuple #[ruleV qs qr (.slice ao rs.length c), .bool ok]) ∧ Own 2 w' b' (.slice ao rs.length c) rs ∧ w.heap.size ≤ b' ∧ Below w.heap.size w w') := by
  have none_ : (∀ (w : World) (b : Nat) (v : Value), Rd w b v zs → Calls Try.prog 45 #[ruleV s r v, .int .i64 sr, .int .i64 sc] w fun e w' => e = .returned (.tuple #[ruleV 0 0 (.slice none 0 0), .bool false]) ∧ Below w.heap.size w w') → (∀ (w : World) (b : Nat) (v : Value), Rd w b v zs → Calls Try.prog 46 #[ruleV s r v, .int .i64 sr, .int .i64 sc] w fun e w' => e = .returned (.tuple #[ruleV 0 0 (.slice none 0 0), .bool false]) ∧ Below w.heap.size w w') →
      ∃ (qs qr : Int) (rs : List Int) (ok : Bool), rs.length ≤ 1000000 ∧
    (∀ (w : World) (b : Nat) (v : Value), Rd w b v zs → Calls Try.prog 45 #[ruleV s r v, .int .i64 sr, .int .i64 sc] w fun e w' => ∃ ao c b', e = .returned (.tuple #[ruleV qs qr (.slice ao rs.length c), .bool ok]) ∧ Own 2 w' b' (.slice ao rs.length c) rs ∧ w.heap.size ≤ b' ∧ Below w.heap.size w w') ∧
    (∀ (w : World) (b : Nat) (v : Value), Rd w b v zs → Calls Try.prog 46 #[ruleV s r v, .int .i64 sr, .int .i64 sc] w fun e w' => ∃ ao c b', e = .returned (.tuple #[ruleV qs qr (.slice ao rs.length c), .bool ok]) ∧ Own 2 w' b' (.slice ao rs.length c) rs ∧ w.heap.size ≤ b' ∧ Below w.heap.size w w') := by
    intro h1 h2
    refine ⟨0, 0, [], false, by simp, fun w b v h => (h1 w b v h).mono ?_, fun w b v h => (h2 w b v h).mono ?_⟩
    · rintro e w' ⟨rfl, bel⟩
      exact ⟨none, 0, w.heap.size, rfl, Own.nil _ _ _, Nat.le_refl _, bel⟩
    · rintro e w' ⟨rfl, bel⟩
      exact ⟨none, 0, w.heap.size, rfl, Own.nil _ _ _, Nat.le_refl _, bel⟩
  cases hq : fieldB s r zs with
  | false => exact none_ (fun w b v h => specNo1 h hq) (fun w b v h => implNo1 h hq)
  | true =>
    cases hk : decide (-24 ≤ sr ∧ sr ≤ 24) with
    | false => exact none_ (fun w b v h => specNo2 h hq hk) (fun w b v h => implNo2 h hq hk)
    | true =>
      cases hk2 : decide (-24 ≤ sc ∧ sc ≤ 24) with
      | false => exact none_ (fun w b v h => specNo3 h hq hk hk2) (fun w b v h => implNo3 h hq hk hk2)
      | true =>
        have hb : (1 ≤ s ∧ s ≤ 24) ∧ 1 ≤ r ∧ r ≤ 24 := by
          have hq2 := hq
          simp only [fieldB, Bool.and_eq_true] at hq2
          have := hq2.1
          simp [sidesB] at this; omega
        have e1 := of_decide_eq_true hk
        have e2 := of_decide_eq_true hk2
        obtain ⟨R, rfl⟩ := Int.eq_ofNat_of_zero_le (show 0 ≤ s by omega)
        obtain ⟨C, rfl⟩ := Int.eq_ofNat_of_zero_le (show 0 ≤ r by omega)
        have hlen : (shL zs R C sr sc).length = R * C := by simp only [shL]; rw [grid_len]
        have hle : R * C ≤ 24 * 24 := Nat.mul_le_mul (by omega) (by omega)
        refine ⟨R, C, shL zs R C sr sc, true, by omega, fun w b v h => (specOk h hq rfl e1 e2).mono ?_, fun w b v h => (implOk h hq rfl e1 e2).mono ?_⟩
        · rintro e w' ⟨b', rfl, ow, lo, bel⟩
          exact ⟨some ⟨b', 0, none⟩, R * C, b', by rw [hlen], by rw [hlen]; exact ow, lo, bel⟩
        · rintro e w' ⟨b', rfl, ow, lo, bel⟩
          exact ⟨some ⟨b', 0, none⟩, R * C, b', by rw [hlen], by rw [hlen]; exact ow, lo, bel⟩

end Go.Proofs.Ytcdbbbifdidpdaa.FShI
