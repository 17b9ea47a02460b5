/- JoinRules: what is told, the closure, the program's side. -/
import Derived.Test.YtejchjjkehmgaaaTold
import Derived.Test.YtejchjjkehmgaaaAl
import Derived.Test.YtejchjjkehmgaaaSpec
namespace Go.Proofs.Ytejchjjkehmgaaa.Joi
open Go.RowKit Go.Proofs.Ytejchjjkehmgaaa.Rd Go.Proofs.Ytejchjjkehmgaaa.Help Go.Proofs.Ytejchjjkehmgaaa.Ring Go.Proofs.Ytejchjjkehmgaaa.Small Go.Proofs.Ytejchjjkehmgaaa.Num Go.Proofs.Ytejchjjkehmgaaa.Keep Go.Proofs.Ytejchjjkehmgaaa.Rule Go.Proofs.Ytejchjjkehmgaaa.Dig Go.Proofs.Ytejchjjkehmgaaa.DigP Go.Proofs.Ytejchjjkehmgaaa.Tell
set_option linter.unusedVariables false
set_option linter.unusedSimpArgs false

/-- What the first rule tells at a place of some cells. -/
def midE (s : Int) (tA ds : List Int) (LA i : Nat) : Int := tA.getD (numL ((ds.drop i).take LA) s).toNat 0
/-- What the joined rule tells. -/
def joinT (s : Int) (tA tB : List Int) (LA LB LL k : Nat) : Int := tB.getD (numL (tab (midE s tA (dig s k LL) LA) LB) s).toNat 0
theorem part_facts {s : Int} (hs : 2 ≤ s ∧ s ≤ 3) {tA ds : List Int} {LA : Nat} (hl : (tA.length : Int) = s ^ LA) (hd : allB ds s = true) {i : Nat} (hi : i + LA ≤ ds.length) :
    ((ds.drop i).take LA).length = LA ∧ allB ((ds.drop i).take LA) s = true ∧ numL ((ds.drop i).take LA) s < (tA.length : Int) := by
  have h1 : ((ds.drop i).take LA).length = LA := by simp; omega
  have h2 : allB ((ds.drop i).take LA) s = true := all_take (all_drop hd _) _
  have h3 := (numL_bd hs h2).2
  rw [h1, ← hl] at h3
  exact ⟨h1, h2, h3⟩
theorem all_tab {T : Nat → Int} {s : Int} {k : Nat} (h : ∀ i, i < k → 0 ≤ T i ∧ T i ≤ s - 1) : allB (tab T k) s = true := by
  induction k with
  | zero => simp [allB, tab]
  | succ k ih =>
    have h1 := ih (fun i hi => h i (by omega))
    have h2 := h k (by omega)
    rw [tab_succ]
    unfold allB at *
    rw [List.all_append, h1]
    simp [okB]; omega
theorem mid_bd {s : Int} (hs : 2 ≤ s ∧ s ≤ 3) {tA ds : List Int} {LA : Nat} (hl : (tA.length : Int) = s ^ LA) (ha : allB tA s = true) (hd : allB ds s = true) {i : Nat} (hi : i + LA ≤ ds.length) : 0 ≤ midE s tA ds LA i ∧ midE s tA ds LA i ≤ s - 1 := by
  obtain ⟨h1, h2, h3⟩ := part_facts hs hl hd hi
  have h0 := (numL_bd hs h2).1
  exact all_get ha (by omega)
theorem mid_facts {s : Int} (hs : 2 ≤ s ∧ s ≤ 3) {tA tB ds : List Int} {LA LB : Nat} (hl : (tA.length : Int) = s ^ LA) (hlB : (tB.length : Int) = s ^ LB) (ha : allB tA s = true) (hd : allB ds s = true) (hi : LB + LA ≤ ds.length + 1) :
    allB (tab (midE s tA ds LA) LB) s = true ∧ numL (tab (midE s tA ds LA) LB) s < (tB.length : Int) := by
  have h1 : allB (tab (midE s tA ds LA) LB) s = true := all_tab fun i hi2 => mid_bd hs hl ha hd (by omega)
  have h3 := (numL_bd hs h1).2
  rw [tab_length, ← hlB] at h3
  exact ⟨h1, h3⟩

set_option maxHeartbeats 4000000 in
set_option maxRecDepth 100000 in
theorem clo {w : World} {NS NA NF NB b bA bB k LA LB LL : Nat} {s rA rB : Int} {vA vB : Value} {tA tB : List Int}
    (cS : w.cell? ⟨NS, 0, none⟩ = some (.int .i64 LB)) (cF : w.cell? ⟨NF, 0, none⟩ = some (.int .i64 LA)) (a0 : w.cell? ⟨NA, 0, none⟩ = some (.int .i64 s)) (a1 : w.cell? ⟨NA, 1, none⟩ = some (.int .i64 rA)) (a2 : w.cell? ⟨NA, 2, none⟩ = some vA)
    (b0 : w.cell? ⟨NB, 0, none⟩ = some (.int .i64 s)) (b1 : w.cell? ⟨NB, 1, none⟩ = some (.int .i64 rB)) (b2 : w.cell? ⟨NB, 2, none⟩ = some vB) (hA : Rd w bA vA tA) (hB : Rd w bB vB tB) (hs : 2 ≤ s ∧ s ≤ 3) (lA : (tA.length : Int) = s ^ LA) (lB : (tB.length : Int) = s ^ LB) (ha : allB tA s = true)
    (hL : (1 ≤ LA ∧ LA ≤ 5) ∧ (1 ≤ LB ∧ LB ≤ 5) ∧ LL + 1 = LA + LB) (h : Own 2 w b (.slice (some ⟨b, 0, none⟩) LL LL) (dig s k LL)) :
    Calls Try.prog 121 #[.slice (some ⟨b, 0, none⟩) LL LL, .pointer (some ⟨NS, 0, none⟩), .pointer (some ⟨NA, 0, none⟩), .pointer (some ⟨NF, 0, none⟩), .pointer (some ⟨NB, 0, none⟩)] w fun e w' => e = .returned (.int .i64 (joinT s tA tB LA LB LL k)) ∧ Below w.heap.size w w' := by
  obtain ⟨ds, hds⟩ : ∃ ds, ds = dig s k LL := ⟨_, rfl⟩
  have hdl : ds.length = LL := by rw [hds, dig_length]
  have hda : allB ds s = true := by rw [hds]; exact dig_all hs _ _
  obtain ⟨J, hJ⟩ : ∃ J, J = joinT s tA tB LA LB LL k := ⟨_, rfl⟩
  have HJ : Hid (J = tB.getD (numL (tab (midE s tA ds LA) LB) s).toNat 0) := by rw [hJ, hds]; rfl
  rw [← hJ]
  rw [← hds] at h
  have HOd := hid h.rd
  have HS := hid hs
  have HA := hid hA
  have HBt := hid hB
  have HDL := hid hdl
  have HDD := hid hda
  have HLA := hid lA
  have HLB := hid lB
  have HAA := hid ha
  have HLL := hid hL
  obtain ⟨⟨l1, l2⟩, ⟨l3, l4⟩, l5⟩ := hL
  obtain ⟨ao, capA, rfl, _, _, _⟩ := hA
  obtain ⟨aoB, capB, rfl, _, _, _⟩ := hB
  obtain ⟨bM, hbM⟩ : ∃ bM, bM = w.heap.size := ⟨_, rfl⟩
  have HBM := hid hbM
  have HMK : Hid (∀ ww, Below w.heap.size w ww → Below w.heap.size w ww ∧ ww.cell? ⟨NF, 0, none⟩ = some (.int .i64 LA) ∧ ww.cell? ⟨NA, 0, none⟩ = some (.int .i64 s) ∧ ww.cell? ⟨NA, 1, none⟩ = some (.int .i64 rA) ∧ ww.cell? ⟨NA, 2, none⟩ = some (Value.slice ao tA.length capA) ∧ w.heap.size ≤ ww.heap.size) := fun ww bel => ⟨bel, (bel.cell (World.block_lt_of_cell? _ _ cF)).trans cF, (bel.cell (World.block_lt_of_cell? _ _ a0)).trans a0, (bel.cell (World.block_lt_of_cell? _ _ a1)).trans a1, (bel.cell (World.block_lt_of_cell? _ _ a2)).trans a2, bel.size⟩
  have HB3 : Hid (w.cell? ⟨NB, 0, none⟩ = some (.int .i64 s) ∧ w.cell? ⟨NB, 1, none⟩ = some (.int .i64 rB) ∧ w.cell? ⟨NB, 2, none⟩ = some (.slice aoB tB.length capB)) := ⟨b0, b1, b2⟩
  have hmk := run_make_row' (P := Try.prog) 43 2 (.int .i64 0) 8 Try.underlying43 infoI rfl .i64 .i64 LB (by omega) (by omega)
  have cS' : (w.alloc (.cells (madeCells #[.int .i64 0] LB) 2)).cell? ⟨NS, 0, none⟩ = some (.int .i64 LB) := cell_old cS
  have hown0 : Own 2 (w.alloc (.cells (madeCells #[.int .i64 0] LB) 2)) bM (.slice (some ⟨bM, 0, none⟩) LB LB) (List.replicate LB 0) := by
    have := Own.made 2 w LB (by unfold maxLen; omega)
    rw [← hbM] at this; exact this
  have hb0 : Below w.heap.size w (w.alloc (.cells (madeCells #[.int .i64 0] LB) 2)) := below1 _ _
  clear hds hJ h hdl hda hs ha lA lB a0 a1 a2 b0 b1 b2 cF
  go_enter Try.func121, Try.ntmps121
  go_wp2
  simp only [← hbM]
  go_loopw [8, 12] (fun j t wr => ∃ i : Nat, i ≤ LB ∧ t = .int .i64 i ∧ Own 2 wr bM (.slice (some ⟨bM, 0, none⟩) LB LB) (tab (midE s tA ds LA) i ++ List.replicate (LB - i) 0) ∧ Below w.heap.size w wr) (fun _ t _ => LB - (intOf t).toNat)
  case atStart => exact ⟨0, Nat.zero_le _, rfl, by simpa [tab] using hown0, hb0⟩
  case round =>
    clear hown0 hb0 cS' hmk hbM
    obtain ⟨i, hi, rfl, hown, hbel⟩ := hrel
    by_cases hlt : i < LB
    · have hpart := Told.rd_part HOd.out i LA (by have := HDL.out; omega)
      rw [Nat.zero_add] at hpart
      obtain ⟨f1, f2, f3⟩ := part_facts HS.out HLA.out HDD.out (i := i) (by have := HDL.out; omega)
      obtain ⟨zs, hzs⟩ : ∃ zs, zs = (ds.drop i).take LA := ⟨_, rfl⟩
      have HX0 : tA.getD (numL zs s).toNat 0 = midE s tA ds LA i := by rw [hzs]; rfl
      rw [← hzs] at hpart f1 f2 f3
      obtain ⟨x, hx⟩ : ∃ x, x = midE s tA ds LA i := ⟨_, rfl⟩
      rw [← hx] at HX0
      have HXE := hid hx
      have HX := hid HX0
      have HP := hid hpart
      have HZ : Hid (zs.length ≤ 16) := by simp only [Hid]; omega
      have HDA := hid f2
      have HLt := hid f3
      have HO := hid hown
      have HM : Hid (w.heap.size ≤ bM ∧ i < LB) := ⟨by rw [HBM.out]; exact Nat.le_refl _, hlt⟩
      have st := HMK.out wr hbel
      have hki : (i : Int) < (LB : Int) := by omega
      have e1 : IntKind.i64.wrap ((i : Int) + (LA : Int)) = (i : Int) + (LA : Int) := by rw [IntKind.wrap_i64]; omega
      have e2 : max ((i : Int) + (LA : Int)) 0 = (i : Int) + (LA : Int) := by omega
      have e3 : ((i : Int) + (LA : Int)).toNat - i = LA := by omega
      have e4 : (i : Int) ≤ (i : Int) + (LA : Int) := by omega
      have e5 : (i : Int) + (LA : Int) ≤ (LL : Int) := by omega
      have e6 : (0 : Int) ≤ (i : Int) + (LA : Int) := by omega
      have e7 : ¬ LL = i := by omega
      clear hpart f1 f2 f3 hzs HX0 hown hbel hx
      go_wp2_with fail
      refine wp_region_held_drew (S := (fun ww => Below w.heap.size w ww ∧ ww.cell? ⟨NF, 0, none⟩ = some (.int .i64 LA) ∧ ww.cell? ⟨NA, 0, none⟩ = some (.int .i64 s) ∧ ww.cell? ⟨NA, 1, none⟩ = some (.int .i64 rA) ∧ ww.cell? ⟨NA, 2, none⟩ = some (Value.slice ao tA.length capA) ∧ w.heap.size ≤ ww.heap.size)) (by kernel_rfl) ?_ (fun hHeld => ?_)
      · ((try dsimp only); exact drew4_0 st)
      have oM : Own 2 wr.drew bM (.slice (some ⟨bM, 0, none⟩) LB LB) (tab (midE s tA ds LA) i ++ List.replicate (LB - i) 0) := HO.out
      (refine wpAnyH_take (i := 0) (v := ?_) rfl ?_ ?_ ?_ (fun _ _ _ h => h) (Or.inl ⟨?_, ?_⟩) ?_ ?_; rotate_left 1; (focus decide +kernel); (focus decide +kernel); (focus decide +kernel); (focus rfl); (focus (intro w hSw; (try dsimp only at hSw); go_simp; (try (with_reducible rfl)); done)); (focus assumption); (try simp only [Act.put, List.setIfInBounds_toArray, List.set_cons_zero, List.set_cons_succ, List.getElem_toArray, List.getElem_cons_succ, List.getElem_cons_zero]))
      (refine wpAnyH_take (i := 1) (v := ?_) rfl ?_ ?_ ?_ (fun _ _ _ h => h) (Or.inl ⟨?_, ?_⟩) ?_ ?_; rotate_left 1; (focus decide +kernel); (focus decide +kernel); (focus decide +kernel); (focus rfl); (focus (intro w hSw; (try dsimp only at hSw); go_simp; (try (with_reducible rfl)); done)); (focus assumption); (try simp only [Act.put, List.setIfInBounds_toArray, List.set_cons_zero, List.set_cons_succ, List.getElem_toArray, List.getElem_cons_succ, List.getElem_cons_zero]))
      (refine wpAnyH_take (i := 2) (v := ?_) rfl ?_ ?_ ?_ (fun _ _ _ h => h) (Or.inl ⟨?_, ?_⟩) ?_ ?_; rotate_left 1; (focus decide +kernel); (focus decide +kernel); (focus decide +kernel); (focus rfl); (focus (intro w hSw; (try dsimp only at hSw); go_simp; (try (with_reducible rfl)); done)); (focus assumption); (try simp only [Act.put, List.setIfInBounds_toArray, List.set_cons_zero, List.set_cons_succ, List.getElem_toArray, List.getElem_cons_succ, List.getElem_cons_zero]))
      (refine wpAnyH_take (i := 3) (v := ?_) rfl ?_ ?_ ?_ (fun _ _ _ h => h) (Or.inl ⟨?_, ?_⟩) ?_ ?_; rotate_left 1; (focus decide +kernel); (focus decide +kernel); (focus decide +kernel); (focus rfl); (focus (intro w hSw; (try dsimp only at hSw); go_simp; (try (with_reducible rfl)); done)); (focus assumption); (try simp only [Act.put, List.setIfInBounds_toArray, List.set_cons_zero, List.set_cons_succ, List.getElem_toArray, List.getElem_cons_succ, List.getElem_cons_zero]))
      (refine wpAnyH_take (i := 4) (v := ?_) rfl ?_ ?_ ?_ (fun _ _ _ h => h) (Or.inl ⟨?_, ?_⟩) ?_ ?_; rotate_left 1; (focus decide +kernel); (focus decide +kernel); (focus decide +kernel); (focus rfl); (focus (intro w hSw; (try dsimp only at hSw); go_simp; (try (with_reducible rfl)); done)); (focus assumption); (try simp only [Act.put, List.setIfInBounds_toArray, List.set_cons_zero, List.set_cons_succ, List.getElem_toArray, List.getElem_cons_succ, List.getElem_cons_zero]))
      (refine wpAnyH_take (i := 5) (v := ?_) rfl ?_ ?_ ?_ (fun _ _ _ h => h) (Or.inl ⟨?_, ?_⟩) ?_ ?_; rotate_left 1; (focus decide +kernel); (focus decide +kernel); (focus decide +kernel); (focus rfl); (focus (intro w hSw; (try dsimp only at hSw); go_simp; (try (with_reducible rfl)); done)); (focus assumption); (try simp only [Act.put, List.setIfInBounds_toArray, List.set_cons_zero, List.set_cons_succ, List.getElem_toArray, List.getElem_cons_succ, List.getElem_cons_zero]))
      (refine wpAnyH_take (i := 6) (v := ?_) rfl ?_ ?_ ?_ (fun _ _ _ h => h) (Or.inl ⟨?_, ?_⟩) ?_ ?_; rotate_left 1; (focus decide +kernel); (focus decide +kernel); (focus decide +kernel); (focus rfl); (focus (intro w hSw; (try dsimp only at hSw); go_simp; (try (with_reducible rfl)); done)); (focus assumption); (try simp only [Act.put, List.setIfInBounds_toArray, List.set_cons_zero, List.set_cons_succ, List.getElem_toArray, List.getElem_cons_succ, List.getElem_cons_zero]))
      (refine wpAnyH_take (i := 7) (v := ?_) rfl ?_ ?_ ?_ (fun _ _ _ h => h) (Or.inl ⟨?_, ?_⟩) ?_ ?_; rotate_left 1; (focus decide +kernel); (focus decide +kernel); (focus decide +kernel); (focus rfl); (focus (intro w hSw; (try dsimp only at hSw); go_simp; (try (with_reducible rfl)); done)); (focus assumption); (try simp only [Act.put, List.setIfInBounds_toArray, List.set_cons_zero, List.set_cons_succ, List.getElem_toArray, List.getElem_cons_succ, List.getElem_cons_zero]))
      (refine wpAnyH_take (i := 8) (v := ?_) rfl ?_ ?_ ?_ (fun _ _ _ h => h) (Or.inl ⟨?_, ?_⟩) ?_ ?_; rotate_left 1; (focus decide +kernel); (focus decide +kernel); (focus decide +kernel); (focus rfl); (focus (intro w hSw; (try dsimp only at hSw); go_simp; (try (with_reducible rfl)); done)); (focus assumption); (try simp only [Act.put, List.setIfInBounds_toArray, List.set_cons_zero, List.set_cons_succ, List.getElem_toArray, List.getElem_cons_succ, List.getElem_cons_zero]))
      refine wpAnyH_ready (rs := [9]) ?_ (by simp) ?_
      · decide +kernel
      refine AllReadyH.cons rfl (fun K hK => ?_) AllReadyH.nil
      go_simp
      go_at_call 122
      refine (Told.toldOf (HA.out.keep hHeld.1 (Nat.le_refl _)) (HP.out.keep hHeld.1 (Nat.le_refl _)) HS.out HZ.out HDA.out HLt.out).mono ?_
      rw [HX.out]
      rintro e w4 ⟨rfl, bel⟩
      replace oM := oM.keep bel
      refine hK.out _ _ ?_ (fun hHeld => ?_)
      · (try dsimp only); exact next4_0 bel hHeld
      clear hK K bel
      (try simp only [Act.put, List.setIfInBounds_toArray, List.set_cons_zero, List.set_cons_succ, List.getElem_toArray, List.getElem_cons_succ, List.getElem_cons_zero])
      (refine wpAnyH_take (i := 10) (v := ?_) rfl ?_ ?_ ?_ (fun _ _ _ h => h) (Or.inl ⟨?_, ?_⟩) ?_ ?_; rotate_left 1; (focus decide +kernel); (focus decide +kernel); (focus decide +kernel); (focus rfl); (focus (intro w hSw; (try dsimp only at hSw); go_simp; (try (with_reducible rfl)); done)); (focus assumption); (try simp only [Act.put, List.setIfInBounds_toArray, List.set_cons_zero, List.set_cons_succ, List.getElem_toArray, List.getElem_cons_succ, List.getElem_cons_zero]))
      refine wpAnyH_ready (rs := [11]) ?_ (by simp) ?_
      · decide +kernel
      refine AllReadyH.cons rfl (fun K hK => ?_) AllReadyH.nil
      have hlen : (tab (midE s tA ds LA) i ++ List.replicate (LB - i) 0).length = LB := by simp [tab_length]; omega
      have hox := oM.cell (i := i) (by omega)
      have hof := oM.free i
      have HO6 := hid oM
      have HB6 := hid (And.left hHeld)
      clear oM hlen
      go_simp
      refine hK.out _ _ ?_ (fun hHeld2 => ?_)
      · (try dsimp only); exact HMK.out _ (HB6.out.setCell HM.out.1 _)
      clear hK K
      (try simp only [Act.put, List.setIfInBounds_toArray, List.set_cons_zero, List.set_cons_succ, List.getElem_toArray, List.getElem_cons_succ, List.getElem_cons_zero])
      refine wpAnyH_done (by kernel_rfl) ?_ _
      clear st hHeld hHeld2 hox hof
      go_wp2
      go_roundw
      case rel =>
        refine ⟨i + 1, by omega, by go_num, ?_, HB6.out.setCell HM.out.1 _⟩
        rw [← set_tab (midE s tA ds LA) LB i HM.out.2]
        rw [← HXE.out]; exact HO6.out.set i x
      case measure => simp [intOf]; omega
    · have hkn : i = LB := by omega
      subst hkn
      obtain ⟨g1, g2⟩ := mid_facts HS.out (tB := tB) HLA.out HLB.out HAA.out HDD.out (LB := i) (by have := HDL.out; have := HLL.out; omega)
      have hor : Rd wr bM (.slice (some ⟨bM, 0, none⟩) i i) (tab (midE s tA ds LA) i) := by have := hown.rd; simpa using this
      obtain ⟨zs, hzs⟩ : ∃ zs, zs = tab (midE s tA ds LA) i := ⟨_, rfl⟩
      have hzl : zs.length = i := by rw [hzs, tab_length]
      rw [← hzs] at g1 g2 hor HJ
      have HZ : Hid (zs.length ≤ 16) := by simp only [Hid]; omega
      have HDA := hid g1
      have HLt := hid g2
      have HR := hid hor
      have HBel := hid hbel
      have c0 := (hbel.cell (World.block_lt_of_cell? _ _ HB3.out.1)).trans HB3.out.1
      have c1 := (hbel.cell (World.block_lt_of_cell? _ _ HB3.out.2.1)).trans HB3.out.2.1
      have c2 := (hbel.cell (World.block_lt_of_cell? _ _ HB3.out.2.2)).trans HB3.out.2.2
      clear hown hor g1 g2 hzs hzl hbel
      go_wp2_with (go_at_call 122; refine (Told.toldOf (HBt.out.keep HBel.out (Nat.le_refl _)) HR.out HS.out HZ.out HDA.out HLt.out).mono ?_; rw [← HJ.out]; rintro e w4 ⟨rfl, bel⟩)
      go_ret
      exact ⟨rfl, HBel.out.trans (bel.mono HBel.out.size)⟩

end Go.Proofs.Ytejchjjkehmgaaa.Joi
