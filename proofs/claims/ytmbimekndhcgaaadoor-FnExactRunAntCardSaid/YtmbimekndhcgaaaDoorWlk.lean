/- The walk of the ant. -/
import Derived.Test.YtmbimekndhcgaaaDoorAnt
import Derived.Test.YtmbimekndhcgaaaDoorLawKit
import Derived.Laws.EntriesVeiled
namespace Go.Proofs.YtmbimekndhcgaaaDoor.Wlk
open Go.RowKit Go.Proofs.YtmbimekndhcgaaaDoor.Rd Go.Proofs.YtmbimekndhcgaaaDoor.Help Go.Proofs.YtmbimekndhcgaaaDoor.Small Go.Proofs.YtmbimekndhcgaaaDoor.FVal Go.Proofs.YtmbimekndhcgaaaDoor.Keep Go.Proofs.YtmbimekndhcgaaaDoor.Rule Go.Proofs.YtmbimekndhcgaaaDoor.Grow Go.Proofs.YtmbimekndhcgaaaDoor.Bes Go.Proofs.YtmbimekndhcgaaaDoor.Round Go.Proofs.YtmbimekndhcgaaaDoor.Ant
set_option linter.unusedVariables false
set_option linter.unusedSimpArgs false

/-- The ant and its field. -/
structure St where
  z : List Int
  r : Nat
  c : Nat
  y : Int
def trn (x y : Int) : Int := if x = 0 then (y + 1) % 4 else (y + 3) % 4
def stp (R C : Nat) (s : St) : St :=
  ⟨s.z.set (s.r * C + s.c) (1 - s.z.getD (s.r * C + s.c) 0), (((s.r : Int) + ddr (trn (s.z.getD (s.r * C + s.c) 0) s.y)) % (R : Int)).toNat, (((s.c : Int) + ddc (trn (s.z.getD (s.r * C + s.c) 0) s.y)) % (C : Int)).toNat, trn (s.z.getD (s.r * C + s.c) 0) s.y⟩
def run (R C : Nat) (s : St) : Nat → St
  | 0 => s
  | k + 1 => stp R C (run R C s k)
def okS (R C n : Nat) (s : St) : Prop := s.z.length = n ∧ (∀ i, s.z.getD i 0 = 0 ∨ s.z.getD i 0 = 1) ∧ s.r < R ∧ s.c < C ∧ 0 ≤ s.y ∧ s.y ≤ 3
theorem trn_bd (x y : Int) : 0 ≤ trn x y ∧ trn x y ≤ 3 := by unfold trn; split <;> omega
theorem getD_setq (z : List Int) (p i : Nat) (x : Int) (hp : p < z.length) : (z.set p x).getD i 0 = if i = p then x else z.getD i 0 := by
  by_cases h : i = p
  · subst h; rw [if_pos rfl]; simp [List.getD_eq_getElem?_getD, hp]
  · rw [if_neg h]; simp [List.getD_eq_getElem?_getD, List.getElem?_set_ne (Ne.symm h)]
theorem ok_stp {R C n : Nat} {s : St} (hn : n = R * C) (h : okS R C n s) : okS R C n (stp R C s) := by
  obtain ⟨h1, h2, h3, h4, h5, h6⟩ := h
  have hp := pos_bd h3 h4
  refine ⟨by simp only [stp, List.length_set]; exact h1, fun i => ?_, (Rnd.rnd_lt _ (by omega)).2, (Rnd.rnd_lt _ (by omega)).2, (trn_bd _ _).1, (trn_bd _ _).2⟩
  simp only [stp]
  rw [getD_setq _ _ _ _ (by rw [h1, hn]; exact hp)]
  split
  · rcases h2 (s.r * C + s.c) with h | h <;> rw [h] <;> decide
  · exact h2 i
theorem ok_run {R C n : Nat} {s : St} (hn : n = R * C) (h : okS R C n s) (j : Nat) : okS R C n (run R C s j) := by
  induction j with
  | zero => exact h
  | succ j ih => exact ok_stp hn ih

set_option maxHeartbeats 8000000 in
theorem walk {w0 w : World} {NW b' R C n k S : Nat} {s : St} (bel : Below w0.heap.size w0 w) (kW : w.heap[NW]? = some (antO R C (.slice (some ⟨b', 0, none⟩) n k) s.r s.c s.y)) (ho : Rd.Own 2 w b' (.slice (some ⟨b', 0, none⟩) n k) s.z) (hne : NW ≠ b') (hNW : w0.heap.size ≤ NW) (hb0 : w0.heap.size ≤ b') (hg : GW w0) (hok : okS R C n s) (hn : n = R * C) (hR : 1 ≤ R ∧ R ≤ 24) (hC : 1 ≤ C ∧ C ≤ 24) (hk : n ≤ k ∧ k ≤ maxLen) (hS : S ≤ 4096) :
    Calls Tryd.prog 22 #[.pointer (some ⟨NW, 0, none⟩), .int .i64 (S : Int)] w fun e w' => (∃ x, e = .returned x) ∧ w'.heap[NW]? = some (antO R C (.slice (some ⟨b', 0, none⟩) n k) (run R C s S).r (run R C s S).c (run R C s S).y) ∧ Rd.Own 2 w' b' (.slice (some ⟨b', 0, none⟩) n k) (run R C s S).z ∧ Below w0.heap.size w0 w' := by
  have HLE : Hid (n ≤ 576) := by simp only [Hid]; rw [hn]; exact Nat.le_trans (Nat.mul_le_mul hR.2 hC.2) (by decide)
  have HN := hid hn
  have HR := hid hR
  have HC := hid hC
  have HKB := hid hk
  have HG := hid hg
  have HOK := hid (ok_run hn hok)
  have HNB := hid hne
  have HNW := hid hNW
  have HBO := hid hb0
  have HKW0 := hid kW
  have HO0 := hid ho
  have HB0 := hid bel
  clear hn hk hg hok hne hNW hb0 kW ho bel
  go_enter Tryd.func22, Tryd.ntmps22
  go_wp2_with fail
  obtain ⟨w4, hW⟩ : ∃ w4, w4 = w.alloc (Obj.cells #[(.func (.func 30) #[.pointer (some ⟨NW, 0, none⟩)] #[]), (.func (.func 31) #[.pointer (some ⟨NW, 0, none⟩)] #[])] 52) := ⟨_, rfl⟩
  obtain ⟨NF, hN⟩ : ∃ NF, NF = w.heap.size := ⟨_, rfl⟩
  have bel : Below w.heap.size w w4 := by rw [hW]; exact below1 _ _
  have HF4 : Hid (w4.heap[NF]? = some (Obj.cells #[(.func (.func 30) #[.pointer (some ⟨NW, 0, none⟩)] #[]), (.func (.func 31) #[.pointer (some ⟨NW, 0, none⟩)] #[])] 52)) := by simp only [Hid]; rw [hW]; exact FNew.heap_top hN
  have HK4 := hid (Box.heap_keep bel HKW0.out)
  have HO4 := hid (HO0.out.keep bel)
  have HB4 := hid (HB0.out.trans (bel.mono HB0.out.size))
  have HNF : Hid (NF ≠ NW) := by simp only [Hid]; rw [hN]; exact Nat.ne_of_gt (Array.getElem?_eq_some_iff.1 HKW0.out).1
  have HFB : Hid (NF ≠ b') := by simp only [Hid]; rw [hN]; exact Nat.ne_of_gt HO0.out.lt
  simp only [← hW, ← hN]
  clear hW hN bel
  go_loopw [12] (fun t wr => ∃ j : Nat, j ≤ S ∧ t = .int .i64 (j : Int) ∧ wr.heap[NW]? = some (antO R C (.slice (some ⟨b', 0, none⟩) n k) (run R C s j).r (run R C s j).c (run R C s j).y) ∧ wr.heap[NF]? = some (Obj.cells #[(.func (.func 30) #[.pointer (some ⟨NW, 0, none⟩)] #[]), (.func (.func 31) #[.pointer (some ⟨NW, 0, none⟩)] #[])] 52) ∧ Rd.Own 2 wr b' (.slice (some ⟨b', 0, none⟩) n k) (run R C s j).z ∧ Below w0.heap.size w0 wr) (fun t _ => S - (intOf t).toNat)
  case atStart => exact ⟨0, Nat.zero_le _, rfl, HK4.out, HF4.out, HO4.out, HB4.out⟩
  case round =>
    obtain ⟨j, hj, rfl, kW, kF, ho, hb⟩ := hrel
    have HB := hid hb
    clear hb
    by_cases hlt : j < S
    · have hok := HOK.out j
      obtain ⟨s1, hs1⟩ : ∃ s1, s1 = run R C s j := ⟨_, rfl⟩
      rw [← hs1] at kW ho hok
      obtain ⟨z, r, c, y⟩ := s1
      have HS1 := hid hs1
      clear hs1
      obtain ⟨h1, h2, h3, h4, h5, h6⟩ := hok
      (try dsimp only at kW ho h1 h2 h3 h4 h5 h6)
      have HY : Hid (0 ≤ y ∧ y ≤ 3) := ⟨h5, h6⟩
      have HXR := hid h3
      have HRB : Hid (0 ≤ (r : Int) ∧ (r : Int) ≤ 24) := by simp only [Hid]; omega
      have HCB : Hid (0 ≤ (c : Int) ∧ (c : Int) ≤ 24) := by simp only [Hid]; omega
      obtain ⟨L, hL⟩ : ∃ L, L = r * C := ⟨_, rfl⟩
      have hpl : L + c < z.length := by rw [h1, HN.out, hL]; exact pos_bd h3 h4
      have HPL := hid hpl
      have HL := hid hL
      have hx2 := h2 (L + c)
      have hci : (c : Int) < (C : Int) := by omega
      have HKW := hid kW
      have HFW := hid kF
      have HOW := hid ho
      have HBW := HB
      obtain ⟨a0, a1, a2, a3, a4, a5⟩ := ant_cells kW
      clear kW kF ho h1 h2 h3 h5 h6 hL hpl a5
      go_wp2_with fail
      (try refine Box.wp_noPanic ?_)
      refine wp_region_held_drew (S := (fun ww => Below w0.heap.size w0 ww ∧ ww.cell? ⟨NW, 0, none⟩ = some (.int .i64 (R : Int)) ∧ ww.cell? ⟨NW, 1, none⟩ = some (.int .i64 (C : Int)) ∧ ww.cell? ⟨NW, 2, none⟩ = some (.slice (some ⟨b', 0, none⟩) n k) ∧ ww.cell? ⟨NW, 3, none⟩ = some (.int .i64 (r : Int)) ∧ ww.cell? ⟨NW, 4, none⟩ = some (.int .i64 (c : Int)) ∧ w0.heap.size ≤ ww.heap.size)) (by kernel_rfl) ?_ (fun hHeld => ?_)
      · ((try dsimp only); exact ⟨HBW.out.drew, a0, a1, a2, a3, a4, HBW.out.size⟩)
      obtain ⟨wD, hDr⟩ : ∃ wD, wD = wr.drew := ⟨_, rfl⟩
      have HKD : Hid (wD.heap[NW]? = some (antO R C (.slice (some ⟨b', 0, none⟩) n k) (r : Int) (c : Int) y)) := by simp only [Hid]; rw [hDr]; exact HKW.out
      have HFD : Hid (wD.heap[NF]? = some (Obj.cells #[(.func (.func 30) #[.pointer (some ⟨NW, 0, none⟩)] #[]), (.func (.func 31) #[.pointer (some ⟨NW, 0, none⟩)] #[])] 52)) := by simp only [Hid]; rw [hDr]; exact HFW.out
      have HOD : Hid (Rd.Own 2 wD b' (.slice (some ⟨b', 0, none⟩) n k) z) := by simp only [Hid]; rw [hDr]; exact HOW.out
      have HBD : Hid (Below w0.heap.size w0 wD) := by simp only [Hid]; rw [hDr]; exact HBW.out.drew
      simp only [← hDr] at hHeld ⊢
      clear hDr a0 a1 a2 a3 a4
      (try dsimp only at hHeld)
      (refine wpAnyH_take (i := 0) (v := ?_) rfl ?_ ?_ ?_ (fun _ _ _ h => h) (Or.inl ⟨?_, ?_⟩) ?_ ?_; rotate_left 1; (focus decide +kernel); (focus decide +kernel); (focus decide +kernel); (focus rfl); (focus (intro w hSw; (try dsimp only at hSw); go_simp; (try (with_reducible rfl)); done)); (focus assumption); (try simp only [Act.put, List.setIfInBounds_toArray, List.set_cons_zero, List.set_cons_succ, List.getElem_toArray, List.getElem_cons_succ, List.getElem_cons_zero]))
      (refine wpAnyH_take (i := 1) (v := ?_) rfl ?_ ?_ ?_ (fun _ _ _ h => h) (Or.inl ⟨?_, ?_⟩) ?_ ?_; rotate_left 1; (focus decide +kernel); (focus decide +kernel); (focus decide +kernel); (focus rfl); (focus (intro w hSw; (try dsimp only at hSw); go_simp; (try (with_reducible rfl)); done)); (focus assumption); (try simp only [Act.put, List.setIfInBounds_toArray, List.set_cons_zero, List.set_cons_succ, List.getElem_toArray, List.getElem_cons_succ, List.getElem_cons_zero]))
      (refine wpAnyH_take (i := 2) (v := ?_) rfl ?_ ?_ ?_ (fun _ _ _ h => h) (Or.inl ⟨?_, ?_⟩) ?_ ?_; rotate_left 1; (focus decide +kernel); (focus decide +kernel); (focus decide +kernel); (focus rfl); (focus (intro w hSw; (try dsimp only at hSw); go_simp; (try (with_reducible rfl)); done)); (focus assumption); (try simp only [Act.put, List.setIfInBounds_toArray, List.set_cons_zero, List.set_cons_succ, List.getElem_toArray, List.getElem_cons_succ, List.getElem_cons_zero]))
      (refine wpAnyH_take (i := 3) (v := ?_) rfl ?_ ?_ ?_ (fun _ _ _ h => h) (Or.inl ⟨?_, ?_⟩) ?_ ?_; rotate_left 1; (focus decide +kernel); (focus decide +kernel); (focus decide +kernel); (focus rfl); (focus (intro w hSw; (try dsimp only at hSw); go_simp; (try (with_reducible rfl)); done)); (focus assumption); (try simp only [Act.put, List.setIfInBounds_toArray, List.set_cons_zero, List.set_cons_succ, List.getElem_toArray, List.getElem_cons_succ, List.getElem_cons_zero]))
      (refine wpAnyH_take (i := 4) (v := ?_) rfl ?_ ?_ ?_ (fun _ _ _ h => h) (Or.inl ⟨?_, ?_⟩) ?_ ?_; rotate_left 1; (focus decide +kernel); (focus decide +kernel); (focus decide +kernel); (focus rfl); (focus (intro w hSw; (try dsimp only at hSw); go_simp; (try (with_reducible rfl)); done)); (focus assumption); (try simp only [Act.put, List.setIfInBounds_toArray, List.set_cons_zero, List.set_cons_succ, List.getElem_toArray, List.getElem_cons_succ, List.getElem_cons_zero]))
      (refine wpAnyH_take (i := 5) (v := ?_) rfl ?_ ?_ ?_ (fun _ _ _ h => h) (Or.inl ⟨?_, ?_⟩) ?_ ?_; rotate_left 1; (focus decide +kernel); (focus decide +kernel); (focus decide +kernel); (focus rfl); (focus (intro w hSw; (try dsimp only at hSw); go_simp; (try (with_reducible rfl)); done)); (focus assumption); (try simp only [Act.put, List.setIfInBounds_toArray, List.set_cons_zero, List.set_cons_succ, List.getElem_toArray, List.getElem_cons_succ, List.getElem_cons_zero]))
      (refine wpAnyH_take (i := 6) (v := ?_) rfl ?_ ?_ ?_ (fun _ _ _ h => h) (Or.inl ⟨?_, ?_⟩) ?_ ?_; rotate_left 1; (focus decide +kernel); (focus decide +kernel); (focus decide +kernel); (focus rfl); (focus (intro w hSw; (try dsimp only at hSw); go_simp; (try (with_reducible rfl)); done)); (focus assumption); (try simp only [Act.put, List.setIfInBounds_toArray, List.set_cons_zero, List.set_cons_succ, List.getElem_toArray, List.getElem_cons_succ, List.getElem_cons_zero]))
      (refine wpAnyH_take (i := 7) (v := ?_) rfl ?_ ?_ ?_ (fun _ _ _ h => h) (Or.inl ⟨?_, ?_⟩) ?_ ?_; rotate_left 1; (focus decide +kernel); (focus decide +kernel); (focus decide +kernel); (focus rfl); (focus (intro w hSw; (try dsimp only at hSw); go_simp; (try (with_reducible rfl)); done)); (focus assumption); (try simp only [Act.put, List.setIfInBounds_toArray, List.set_cons_zero, List.set_cons_succ, List.getElem_toArray, List.getElem_cons_succ, List.getElem_cons_zero]))
      (refine wpAnyH_take (i := 9) (v := ?_) rfl ?_ ?_ ?_ (fun _ _ _ h => h) (Or.inl ⟨?_, ?_⟩) ?_ ?_; rotate_left 1; (focus decide +kernel); (focus decide +kernel); (focus decide +kernel); (focus rfl); (focus (intro w hSw; (try dsimp only at hSw); go_simp; (try (with_reducible rfl)); done)); (focus assumption); (try simp only [Act.put, List.setIfInBounds_toArray, List.set_cons_zero, List.set_cons_succ, List.getElem_toArray, List.getElem_cons_succ, List.getElem_cons_zero]))
      (refine wpAnyH_take (i := 10) (v := ?_) rfl ?_ ?_ ?_ (fun _ _ _ h => h) (Or.inl ⟨?_, ?_⟩) ?_ ?_; rotate_left 1; (focus decide +kernel); (focus decide +kernel); (focus decide +kernel); (focus rfl); (focus (intro w hSw; (try dsimp only at hSw); go_simp; (try (with_reducible rfl)); done)); (focus assumption); (try simp only [Act.put, List.setIfInBounds_toArray, List.set_cons_zero, List.set_cons_succ, List.getElem_toArray, List.getElem_cons_succ, List.getElem_cons_zero]))
      (refine wpAnyH_take (i := 11) (v := ?_) rfl ?_ ?_ ?_ (fun _ _ _ h => h) (Or.inl ⟨?_, ?_⟩) ?_ ?_; rotate_left 1; (focus decide +kernel); (focus decide +kernel); (focus decide +kernel); (focus rfl); (focus (intro w hSw; (try dsimp only at hSw); go_simp; (try (with_reducible rfl)); done)); (focus assumption); (try simp only [Act.put, List.setIfInBounds_toArray, List.set_cons_zero, List.set_cons_succ, List.getElem_toArray, List.getElem_cons_succ, List.getElem_cons_zero]))
      (refine wpAnyH_take (i := 12) (v := ?_) rfl ?_ ?_ ?_ (fun _ _ _ h => h) (Or.inl ⟨?_, ?_⟩) ?_ ?_; rotate_left 1; (focus decide +kernel); (focus decide +kernel); (focus decide +kernel); (focus rfl); (focus (intro w hSw; (try dsimp only at hSw); go_simp; (try (with_reducible rfl)); done)); (focus assumption); (try simp only [Act.put, List.setIfInBounds_toArray, List.set_cons_zero, List.set_cons_succ, List.getElem_toArray, List.getElem_cons_succ, List.getElem_cons_zero]))
      refine wpAnyH_ready (rs := [8]) ?_ (by simp) ?_
      · decide +kernel
      refine AllReadyH.cons rfl (fun K hK => ?_) AllReadyH.nil
      go_simp
      go_at_call 32
      refine (rowOf0 HL.out HN.out HLE.out HXR.out HR.out.2 HC.out HKB.out.1 HKB.out.2).mono ?_
      rintro e wb ⟨rfl, bel⟩
      have HKb := hid (Box.heap_keep bel HKD.out)
      have HFb := hid (Box.heap_keep bel HFD.out)
      have HOb := hid (HOD.out.keep bel)
      have HBb := hid (HBD.out.trans (bel.mono HBD.out.size))
      refine hK.out _ _ ?_ (fun hHeld2 => ?_)
      · (try dsimp only); exact next5_0 bel hHeld
      clear hK K hHeld bel
      have hHeld := hHeld2
      clear hHeld2
      (try simp only [Act.put, List.setIfInBounds_toArray, List.set_cons_zero, List.set_cons_succ, List.getElem_toArray, List.getElem_cons_succ, List.getElem_cons_zero])
      (refine wpAnyH_take (i := 13) (v := ?_) rfl ?_ ?_ ?_ (fun _ _ _ h => h) (Or.inl ⟨?_, ?_⟩) ?_ ?_; rotate_left 1; (focus decide +kernel); (focus decide +kernel); (focus decide +kernel); (focus rfl); (focus (intro w hSw; (try dsimp only at hSw); go_simp; (try (with_reducible rfl)); done)); (focus assumption); (try simp only [Act.put, List.setIfInBounds_toArray, List.set_cons_zero, List.set_cons_succ, List.getElem_toArray, List.getElem_cons_succ, List.getElem_cons_zero]))
      (refine wpAnyH_take (i := 14) (v := ?_) rfl ?_ ?_ ?_ (fun _ _ _ h => h) (Or.inl ⟨?_, ?_⟩) ?_ ?_; rotate_left 1; (focus decide +kernel); (focus decide +kernel); (focus decide +kernel); (focus rfl); (focus (intro w hSw; (try dsimp only at hSw); go_simp; (try (with_reducible rfl)); done)); (focus assumption); (try simp only [Act.put, List.setIfInBounds_toArray, List.set_cons_zero, List.set_cons_succ, List.getElem_toArray, List.getElem_cons_succ, List.getElem_cons_zero]))
      refine wpAnyH_done (by kernel_rfl) ?_ _
      clear hHeld HKD HFD HOD HBD
      have oc : wb.cell? ⟨b', L + c, none⟩ = some (.int .i64 (z.getD (L + c) 0)) := HOb.out.cell HPL.out
      rcases hx2 with hx | hx
      · have HX := hid hx
        rw [hx] at oc
        clear hx
        have fc : wb.cell? ⟨NF, 0, none⟩ = some (.func (.func 30) #[.pointer (some ⟨NW, 0, none⟩)] #[]) := Go.Joins.cell_of_block HFb.out 0
        go_wp2_with fail
        go_at_call 30
        refine (Ant.toRight HKb.out HY.out).mono ?_
        rintro e w5 ⟨⟨_, rfl⟩, k5, g5⟩
        have HK5 := hid k5
        have HF5 := hid (g_heap g5 HFb.out HNF.out)
        have HO5 := hid (Help.beside HOb.out g5 (.inr HNB.out.symm))
        have HB5 := hid (g_below HBb.out g5 HNW.out)
        clear k5 g5 fc oc
        have oc : w5.cell? ⟨b', L + c, none⟩ = some (.int .i64 0) := by rw [← HX.out]; exact HO5.out.cell HPL.out
        have of := HO5.out.free (L + c)
        go_upto_region 6 with fail
        obtain ⟨w6, hW6⟩ : ∃ w6, w6 = w5.setCell ⟨b', L + c, none⟩ (.int .i64 1) := ⟨_, rfl⟩
        have g6 : w5.grownBy w6 (some b') := by rw [hW6]; exact g_set (g_refl _ _) _ _
        have HK6 := hid (g_heap g6 HK5.out HNB.out)
        have HF6 := hid (g_heap g6 HF5.out HFB.out)
        have HO6 : Hid (Rd.Own 2 w6 b' (.slice (some ⟨b', 0, none⟩) n k) (z.set (L + c) 1)) := by simp only [Hid]; rw [hW6]; exact HO5.out.set (L + c) 1
        have HB6 := hid (g_below HB5.out g6 HBO.out)
        simp only [← hW6]
        clear hW6 g6 oc of
        go_wp2_with fail
        go_at_call 33
        refine (Ant.goOn HK6.out (gw_bel HG.out HB6.out) (by omega) HR.out HC.out HRB.out HCB.out).mono ?_
        rintro e w7 ⟨⟨_, rfl⟩, k7, g7⟩
        have HF7 := hid (g_heap g7 HF6.out HNF.out)
        have HO7 := hid (Help.beside HO6.out g7 (.inr HNB.out.symm))
        have HB7 := hid (g_below HB6.out g7 HNW.out)
        have HK7 := hid k7
        clear k7 g7
        go_wp2
        go_roundw
        case rel =>
          refine ⟨j + 1, by omega, by go_num, ?_, HF7.out, ?_, HB7.out⟩
          · show _ = some (antO R C _ _ _ _)
            simp only [run, stp]
            rw [← HS1.out, ← HL.out, HX.out]
            simp only [trn, (Rnd.rnd_lt _ HR.out.1).1, (Rnd.rnd_lt _ HC.out.1).1]
            exact HK7.out
          · simp only [run, stp]
            rw [← HS1.out, ← HL.out, HX.out]
            exact HO7.out
        case measure => simp [intOf]; omega
      · have HX := hid hx
        rw [hx] at oc
        clear hx
        have fc : wb.cell? ⟨NF, 1, none⟩ = some (.func (.func 31) #[.pointer (some ⟨NW, 0, none⟩)] #[]) := Go.Joins.cell_of_block HFb.out 1
        go_wp2_with fail
        go_at_call 31
        refine (Ant.toLeft HKb.out HY.out).mono ?_
        rintro e w5 ⟨⟨_, rfl⟩, k5, g5⟩
        have HK5 := hid k5
        have HF5 := hid (g_heap g5 HFb.out HNF.out)
        have HO5 := hid (Help.beside HOb.out g5 (.inr HNB.out.symm))
        have HB5 := hid (g_below HBb.out g5 HNW.out)
        clear k5 g5 fc oc
        have oc : w5.cell? ⟨b', L + c, none⟩ = some (.int .i64 1) := by rw [← HX.out]; exact HO5.out.cell HPL.out
        have of := HO5.out.free (L + c)
        go_upto_region 6 with fail
        obtain ⟨w6, hW6⟩ : ∃ w6, w6 = w5.setCell ⟨b', L + c, none⟩ (.int .i64 0) := ⟨_, rfl⟩
        have g6 : w5.grownBy w6 (some b') := by rw [hW6]; exact g_set (g_refl _ _) _ _
        have HK6 := hid (g_heap g6 HK5.out HNB.out)
        have HF6 := hid (g_heap g6 HF5.out HFB.out)
        have HO6 : Hid (Rd.Own 2 w6 b' (.slice (some ⟨b', 0, none⟩) n k) (z.set (L + c) 0)) := by simp only [Hid]; rw [hW6]; exact HO5.out.set (L + c) 0
        have HB6 := hid (g_below HB5.out g6 HBO.out)
        simp only [← hW6]
        clear hW6 g6 oc of
        go_wp2_with fail
        go_at_call 33
        refine (Ant.goOn HK6.out (gw_bel HG.out HB6.out) (by omega) HR.out HC.out HRB.out HCB.out).mono ?_
        rintro e w7 ⟨⟨_, rfl⟩, k7, g7⟩
        have HF7 := hid (g_heap g7 HF6.out HNF.out)
        have HO7 := hid (Help.beside HO6.out g7 (.inr HNB.out.symm))
        have HB7 := hid (g_below HB6.out g7 HNW.out)
        have HK7 := hid k7
        clear k7 g7
        go_wp2
        go_roundw
        case rel =>
          refine ⟨j + 1, by omega, by go_num, ?_, HF7.out, ?_, HB7.out⟩
          · show _ = some (antO R C _ _ _ _)
            simp only [run, stp]
            rw [← HS1.out, ← HL.out, HX.out]
            simp only [trn, (Rnd.rnd_lt _ HR.out.1).1, (Rnd.rnd_lt _ HC.out.1).1]
            exact HK7.out
          · simp only [run, stp]
            rw [← HS1.out, ← HL.out, HX.out]
            exact HO7.out
        case measure => simp [intOf]; omega
    · have hjS : j = S := by omega
      subst hjS
      have HKW := hid kW
      have HOW := hid ho
      clear kW kF ho
      go_wp2
      go_end0
      exact ⟨⟨_, rfl⟩, HKW.out, HOW.out, HB.out⟩

end Go.Proofs.YtmbimekndhcgaaaDoor.Wlk
