/- l06Collide. -/
import Derived.Test.YtnpjhhkhdeomcaaRev
import Derived.Test.YtnpjhhkhdeomcaaCol
namespace Go.Proofs.Ytnpjhhkhdeomcaa.Cld
open Go.RowKit Go.Proofs.Ytnpjhhkhdeomcaa.Rd Go.Proofs.Ytnpjhhkhdeomcaa.Rdb Go.Proofs.Ytnpjhhkhdeomcaa.Help Go.Proofs.Ytnpjhhkhdeomcaa.Ring Go.Proofs.Ytnpjhhkhdeomcaa.Small Go.Proofs.Ytnpjhhkhdeomcaa.FVal Go.Proofs.Ytnpjhhkhdeomcaa.Keep Go.Proofs.Ytnpjhhkhdeomcaa.Rule Go.Proofs.Ytnpjhhkhdeomcaa.GVal Go.Proofs.Ytnpjhhkhdeomcaa.GOwn Go.Proofs.Ytnpjhhkhdeomcaa.Trn Go.Proofs.Ytnpjhhkhdeomcaa.Rev
set_option linter.unusedVariables false
set_option linter.unusedSimpArgs false
/-- A cell behind a collision. -/
def colC (g : Nat) (left wall : Bool) (c : Nat) : Nat := if wall then trn c g (g / 2 : Nat) g else Ones.col c g left
def colL (g : Nat) (left : Bool) (xs : List Int) (ys : List Bool) : List Int := (List.range xs.length).map fun k => (colC g left (ys.getD k false) (xs.getD k 0).toNat : Int)
theorem colL_get {g : Nat} {left : Bool} {xs : List Int} {ys : List Bool} {k : Nat} (h : k < xs.length) : (colL g left xs ys).getD k 0 = (colC g left (ys.getD k false) (xs.getD k 0).toNat : Int) := by simp [colL, List.getD, h]
set_option maxHeartbeats 16000000 in
theorem specCollide4 {w : World} {N : Nat} {s r : Int} {b1 b2 : Nat} {v1 v2 : Value} {xs : List Int} {ys : List Bool} {left : Bool} (k0 : w.cell? ⟨N, 0, none⟩ = some (.int .i64 4)) (k1 : w.cell? ⟨N, 1, none⟩ = some (.int .i64 s)) (k2 : w.cell? ⟨N, 2, none⟩ = some (.int .i64 r)) (k3 : w.cell? ⟨N, 3, none⟩ = some (v1)) (k4 : w.cell? ⟨N, 4, none⟩ = some (v2)) (h1 : Rd w b1 v1 xs) (h2 : RdB w b2 v2 ys) (hq : gasB 4 s r xs ys = true) :
    Calls Try.prog 56 #[.pointer (some ⟨N, 0, none⟩), .bool left] w fun e w' => ∃ p kp q kq, e = .returned (gasV 4 s r (.slice (some ⟨p, 0, none⟩) xs.length kp) (.slice (some ⟨q, 0, none⟩) ys.length kq)) ∧ Own 2 w' p (.slice (some ⟨p, 0, none⟩) xs.length kp) (colL 4 left xs ys) ∧ OwnB 4 w' q (.slice (some ⟨q, 0, none⟩) ys.length kq) ys ∧ w.heap.size ≤ p ∧ p < q ∧ xs.length ≤ kp ∧ kp ≤ maxLen ∧ Below w.heap.size w w' := by
  obtain ⟨hg4, hn, hn256, hym, hcb⟩ := gas_parts hq
  have H1 := hid h1
  have H2 := hid h2
  have HQ := hid hq
  have HCB := hid hcb
  have HG4 := hid hg4
  obtain ⟨ao1, cap1, rfl, hc1, hm1, h41⟩ := h1
  obtain ⟨ao2, cap2, rfl, hc2, hm2, h42⟩ := h2
  obtain ⟨off1, rfl, hb1, hcell1⟩ := h41 (by omega)
  obtain ⟨off2, rfl, hb2, hcell2⟩ := h42 (by omega)
  have HC1 := hid hcell1
  have HC2 := hid hcell2
  have HBL := hid (And.intro hb1 hb2)
  have HYM := hid hym
  have hnI : (xs.length : Int) ≤ 256 := by omega
  have HLE : Hid (1 ≤ xs.length ∧ xs.length ≤ 256) := ⟨hn, hn256⟩
  clear hq hcb hg4 hc1 hm1 h41 hc2 hm2 h42 hb1 hb2 hcell1 hcell2 hym hn hn256
  have hNw := World.block_lt_of_cell? w _ k0
  have HKK := hid (And.intro k0 (And.intro k1 (And.intro k2 (And.intro k3 k4))))
  clear k0 k1 k2 k3 k4
  go_enter Try.func56, Try.ntmps56
  go_wp2_with fail
  obtain ⟨w1, hW⟩ : ∃ w1, w1 = w.alloc (Obj.cells #[.int .i64 0, .int .i64 0, .int .i64 0, .slice none 0 0, .slice none 0 0] 31) := ⟨_, rfl⟩
  obtain ⟨NT, hM⟩ : ∃ NT, NT = w.heap.size := ⟨_, rfl⟩
  have st : Below w.heap.size w w1 ∧ w1.cell? ⟨N, 0, none⟩ = some (.int .i64 4) ∧ w1.cell? ⟨N, 1, none⟩ = some (.int .i64 s) ∧ w1.cell? ⟨N, 2, none⟩ = some (.int .i64 r) ∧ w1.cell? ⟨N, 3, none⟩ = some ((Value.slice (some ⟨b1, off1, none⟩) xs.length cap1)) ∧ w1.cell? ⟨N, 4, none⟩ = some ((Value.slice (some ⟨b2, off2, none⟩) ys.length cap2)) ∧ Rd w1 b1 (Value.slice (some ⟨b1, off1, none⟩) xs.length cap1) xs ∧ RdB w1 b2 (Value.slice (some ⟨b2, off2, none⟩) ys.length cap2) ys ∧ w.heap.size ≤ w1.heap.size := by
    have B : Below w.heap.size w w1 := by rw [hW]; exact below1 _ _
    exact ⟨B, cell_keep B HKK.out.1, cell_keep B HKK.out.2.1, cell_keep B HKK.out.2.2.1, cell_keep B HKK.out.2.2.2.1, cell_keep B HKK.out.2.2.2.2, H1.out.keep B (Nat.le_refl _), H2.out.keep B (Nat.le_refl _), B.size⟩
  have kT : w1.heap[NT]? = some (Obj.cells #[.int .i64 0, .int .i64 0, .int .i64 0, .slice none 0 0, .slice none 0 0] 31) := by rw [hW]; exact FNew.heap_top hM
  have HNT : Hid (w.heap.size ≤ NT) := by simp only [Hid]; omega
  have HNN : Hid (N < NT) := by simp only [Hid]; rw [hM]; exact hNw
  simp only [← hW, ← hM]
  clear hW hM hNw
  go_at_call 50
  refine (GOwn.l06Own st.2.1 st.2.2.1 st.2.2.2.1 st.2.2.2.2.1 st.2.2.2.2.2.1 (rdx5_IB_0 st) (rdx5_IB_1 st) (by have := HLE.out; omega) (by have := HLE.out; have := HYM.out; omega)).mono ?_
  rintro e w3 ⟨p, kp, q, kq, rfl, op, oq, lop, lpq, hkp, hkm, bel⟩
  have hNTp : NT < p := Nat.lt_of_lt_of_le (Array.getElem?_eq_some_iff.1 kT).1 lop
  have lob : w.heap.size ≤ p := Nat.le_trans st.1.size lop
  replace st := nx5_IB bel st
  replace kT := (bel.block NT (Array.getElem?_eq_some_iff.1 kT).1).trans kT
  clear bel lop
  obtain ⟨w4, hW⟩ : ∃ w4, w4 = w3.alloc (Obj.cells #[.int .i64 4, .int .i64 s, .int .i64 r, (Value.slice (some ⟨p, 0, none⟩) xs.length kp), (Value.slice (some ⟨q, 0, none⟩) ys.length kq)] 31) := ⟨_, rfl⟩
  obtain ⟨NO, hO⟩ : ∃ NO, NO = w3.heap.size := ⟨_, rfl⟩
  have hqO : q < NO := by
    rw [hO]
    rcases oq.form with ⟨hv, _⟩ | ⟨_, _, _, _, hb⟩
    · cases hv
    · exact hb
  have bel : Below w3.heap.size w3 w4 := by rw [hW]; exact below1 _ _
  replace st := nx5_IB bel st
  replace kT := (bel.block NT (Array.getElem?_eq_some_iff.1 kT).1).trans kT
  replace op := op.keep bel
  replace oq := oq.keep bel
  have kO : w4.heap[NO]? = some (Obj.cells #[.int .i64 4, .int .i64 s, .int .i64 r, (Value.slice (some ⟨p, 0, none⟩) xs.length kp), (Value.slice (some ⟨q, 0, none⟩) ys.length kq)] 31) := by rw [hW]; exact FNew.heap_top hO
  have HSX := hid st
  have HOP := hid op
  have HOQ := hid oq
  have HKT := hid kT
  have HKO := hid kO
  have HKP := hid (And.intro hkp hkm)
  have HAp := hid (show N < NT ∧ NT < p ∧ p < q ∧ q < NO ∧ w.heap.size ≤ p from ⟨HNN.out, hNTp, lpq, hqO, lob⟩)
  clear st op oq kT kO bel hNTp hqO lob lpq hkp hkm
  go_wp2
  simp only [← hW, ← hO]
  clear hW hO
  have HTL : Hid ((colL 4 left xs ys).length = xs.length) := by simp [Hid, colL]
  go_loopw [6] (fun i wr => ∃ k : Nat, k ≤ xs.length ∧ i = .int .i64 k ∧ Own 2 wr p (Value.slice (some ⟨p, 0, none⟩) xs.length kp) (mixN (colL 4 left xs ys) xs k) ∧ w4.grownBy wr (some p)) (fun i _ => xs.length - (intOf i).toNat)
  case atStart => exact ⟨0, Nat.zero_le _, rfl, by rw [mixN_zero]; exact HOP.out, World.grownBy.refl _ _⟩
  case round =>
    obtain ⟨k, hk, rfl, hown, hg⟩ := hrel
    have hpN : N ≠ p := Nat.ne_of_lt (Nat.lt_trans HAp.out.1 HAp.out.2.1)
    have hpO : NO ≠ p := Nat.ne_of_gt (Nat.lt_trans HAp.out.2.2.1 HAp.out.2.2.2.1)
    have c0 := Grow.g_cell hg HSX.out.2.1 hpN
    have c1 := Grow.g_cell hg HSX.out.2.2.1 hpN
    have c2 := Grow.g_cell hg HSX.out.2.2.2.1 hpN
    have c3 := Grow.g_cell hg HSX.out.2.2.2.2.1 hpN
    have c4 := Grow.g_cell hg HSX.out.2.2.2.2.2.1 hpN
    have d0 := Grow.g_cell hg (Go.Joins.cell_of_block HKO.out 0) hpO
    have d1 := Grow.g_cell hg (Go.Joins.cell_of_block HKO.out 1) hpO
    have d2 := Grow.g_cell hg (Go.Joins.cell_of_block HKO.out 2) hpO
    have d3 := Grow.g_cell hg (Go.Joins.cell_of_block HKO.out 3) hpO
    have d4 := Grow.g_cell hg (Go.Joins.cell_of_block HKO.out 4) hpO
    by_cases hlt : k < xs.length
    · obtain ⟨y, hy⟩ : ∃ y, y = xs.getD k 0 := ⟨_, rfl⟩
      have hyb : 0 ≤ y ∧ y < 16 := by
        have h1 := cell_bd HCB.out hlt
        rw [← hy] at h1
        have ht : top (4) = 16 - 1 := by simp [top]
        omega
      obtain ⟨x, rfl⟩ := Int.eq_ofNat_of_zero_le hyb.1
      have HXS : Hid (x < 16) := by simp only [Hid]; omega
      have HXB : Hid (x < 64) := by simp only [Hid]; omega
      have hpb : b1 ≠ p := Nat.ne_of_lt (Nat.lt_of_lt_of_le HBL.out.1 HAp.out.2.2.2.2)
      have hpb2 : b2 ≠ p := Nat.ne_of_lt (Nat.lt_of_lt_of_le HBL.out.2 HAp.out.2.2.2.2)
      have hcx : wr.cell? ⟨b1, off1 + k, none⟩ = some (.int .i64 (x : Int)) := Grow.g_cell hg (by rw [hy]; exact (HSX.out.1.cell (p := ⟨b1, off1 + k, none⟩) HBL.out.1).trans (HC1.out k hlt)) hpb
      obtain ⟨wl, hwl⟩ : ∃ wl, wl = ys.getD k false := ⟨_, rfl⟩
      have hcw : wr.cell? ⟨b2, off2 + k, none⟩ = some (.bool wl) := Grow.g_cell hg (by rw [hwl]; exact (HSX.out.1.cell (p := ⟨b2, off2 + k, none⟩) HBL.out.2).trans (HC2.out k (by have := HYM.out; omega))) hpb2
      have HTX : Hid ((colL 4 left xs ys).getD k 0 = (colC 4 left wl x : Int)) := by simp only [Hid]; rw [colL_get hlt, ← hy, ← hwl]; rfl
      have hki : (k : Int) < (xs.length : Int) := by omega
      have hkj : (k : Int) < (ys.length : Int) := by have := HYM.out; omega
      have HO1 := hid hown
      have HG1 := hid hg
      clear hown hg hy hyb hwl
      have hwr : IntKind.i64.wrap 2 = 2 := by rw [IntKind.wrap_i64]; omega
      cases wl with
      | true =>
        go_wp2_with fail
        refine wp_region_held_drew (S := (fun ww => w4.grownBy ww (some p) ∧ ww.cell? ⟨N, 0, none⟩ = some (.int .i64 4) ∧ ww.cell? ⟨N, 3, none⟩ = some ((Value.slice (some ⟨b1, off1, none⟩) xs.length cap1)) ∧ ww.cell? ⟨NO, 3, none⟩ = some ((Value.slice (some ⟨p, 0, none⟩) xs.length kp)) ∧ ww.cell? ⟨b1, off1 + k, none⟩ = some (.int .i64 (x : Int)) ∧ w4.heap.size ≤ ww.heap.size)) (by kernel_rfl) ?_ (fun hHeld => ?_)
        · ((try dsimp only); exact ⟨Grow.g_drew HG1.out, c0, c3, d3, hcx, HG1.out.size⟩)
        have ow : Own 2 wr.drew p (Value.slice (some ⟨p, 0, none⟩) xs.length kp) (mixN (colL 4 left xs ys) xs k) := HO1.out
        generalize hD : wr.drew = wD at hHeld ow ⊢
        clear hcx hcw c0 c1 c2 c3 c4 d0 d1 d2 d3 d4 hD
        (refine wpAnyH_take (i := 0) (v := ?_) rfl ?_ ?_ ?_ (fun _ _ _ h => h) (Or.inl ⟨?_, ?_⟩) ?_ ?_; rotate_left 1; (focus decide +kernel); (focus decide +kernel); (focus decide +kernel); (focus rfl); (focus (intro w hSw; (try dsimp only at hSw); go_simp; (try (with_reducible rfl)); done)); (focus assumption); (try simp only [Act.put, List.setIfInBounds_toArray, List.set_cons_zero, List.set_cons_succ, List.getElem_toArray, List.getElem_cons_succ, List.getElem_cons_zero]))
        (refine wpAnyH_take (i := 1) (v := ?_) rfl ?_ ?_ ?_ (fun _ _ _ h => h) (Or.inl ⟨?_, ?_⟩) ?_ ?_; rotate_left 1; (focus decide +kernel); (focus decide +kernel); (focus decide +kernel); (focus rfl); (focus (intro w hSw; (try dsimp only at hSw); go_simp; (try (with_reducible rfl)); done)); (focus assumption); (try simp only [Act.put, List.setIfInBounds_toArray, List.set_cons_zero, List.set_cons_succ, List.getElem_toArray, List.getElem_cons_succ, List.getElem_cons_zero]))
        (refine wpAnyH_take (i := 2) (v := ?_) rfl ?_ ?_ ?_ (fun _ _ _ h => h) (Or.inl ⟨?_, ?_⟩) ?_ ?_; rotate_left 1; (focus decide +kernel); (focus decide +kernel); (focus decide +kernel); (focus rfl); (focus (intro w hSw; (try dsimp only at hSw); go_simp; (try (with_reducible rfl)); done)); (focus assumption); (try simp only [Act.put, List.setIfInBounds_toArray, List.set_cons_zero, List.set_cons_succ, List.getElem_toArray, List.getElem_cons_succ, List.getElem_cons_zero]))
        (refine wpAnyH_take (i := 3) (v := ?_) rfl ?_ ?_ ?_ (fun _ _ _ h => h) (Or.inl ⟨?_, ?_⟩) ?_ ?_; rotate_left 1; (focus decide +kernel); (focus decide +kernel); (focus decide +kernel); (focus rfl); (focus (intro w hSw; (try dsimp only at hSw); go_simp; (try (with_reducible rfl)); done)); (focus assumption); (try simp only [Act.put, List.setIfInBounds_toArray, List.set_cons_zero, List.set_cons_succ, List.getElem_toArray, List.getElem_cons_succ, List.getElem_cons_zero]))
        (refine wpAnyH_take (i := 4) (v := ?_) rfl ?_ ?_ ?_ (fun _ _ _ h => h) (Or.inl ⟨?_, ?_⟩) ?_ ?_; rotate_left 1; (focus decide +kernel); (focus decide +kernel); (focus decide +kernel); (focus rfl); (focus (intro w hSw; (try dsimp only at hSw); go_simp; (try (with_reducible rfl)); done)); (focus assumption); (try simp only [Act.put, List.setIfInBounds_toArray, List.set_cons_zero, List.set_cons_succ, List.getElem_toArray, List.getElem_cons_succ, List.getElem_cons_zero]))
        (refine wpAnyH_take (i := 5) (v := ?_) rfl ?_ ?_ ?_ (fun _ _ _ h => h) (Or.inl ⟨?_, ?_⟩) ?_ ?_; rotate_left 1; (focus decide +kernel); (focus decide +kernel); (focus decide +kernel); (focus rfl); (focus (intro w hSw; (try dsimp only at hSw); go_simp; (try (with_reducible rfl)); done)); (focus assumption); (try simp only [Act.put, List.setIfInBounds_toArray, List.set_cons_zero, List.set_cons_succ, List.getElem_toArray, List.getElem_cons_succ, List.getElem_cons_zero]))
        (refine wpAnyH_take (i := 6) (v := ?_) rfl ?_ ?_ ?_ (fun _ _ _ h => h) (Or.inl ⟨?_, ?_⟩) ?_ ?_; rotate_left 1; (focus decide +kernel); (focus decide +kernel); (focus decide +kernel); (focus rfl); (focus (intro w hSw; (try dsimp only at hSw); go_simp; (try (with_reducible rfl)); done)); (focus assumption); (try simp only [Act.put, List.setIfInBounds_toArray, List.set_cons_zero, List.set_cons_succ, List.getElem_toArray, List.getElem_cons_succ, List.getElem_cons_zero]))
        (refine wpAnyH_take (i := 7) (v := ?_) rfl ?_ ?_ ?_ (fun _ _ _ h => h) (Or.inl ⟨?_, ?_⟩) ?_ ?_; rotate_left 1; (focus decide +kernel); (focus decide +kernel); (focus decide +kernel); (focus rfl); (focus (intro w hSw; (try dsimp only at hSw); go_simp; (try (with_reducible rfl)); done)); (focus assumption); (try simp only [Act.put, List.setIfInBounds_toArray, List.set_cons_zero, List.set_cons_succ, List.getElem_toArray, List.getElem_cons_succ, List.getElem_cons_zero]))
        (refine wpAnyH_take (i := 8) (v := ?_) rfl ?_ ?_ ?_ (fun _ _ _ h => h) (Or.inl ⟨?_, ?_⟩) ?_ ?_; rotate_left 1; (focus decide +kernel); (focus decide +kernel); (focus decide +kernel); (focus rfl); (focus (intro w hSw; (try dsimp only at hSw); go_simp; (try (with_reducible rfl)); done)); (focus assumption); (try simp only [Act.put, List.setIfInBounds_toArray, List.set_cons_zero, List.set_cons_succ, List.getElem_toArray, List.getElem_cons_succ, List.getElem_cons_zero]))
        (refine wpAnyH_take (i := 9) (v := ?_) rfl ?_ ?_ ?_ (fun _ _ _ h => h) (Or.inl ⟨?_, ?_⟩) ?_ ?_; rotate_left 1; (focus decide +kernel); (focus decide +kernel); (focus decide +kernel); (focus rfl); (focus (intro w hSw; (try dsimp only at hSw); go_simp; (try (with_reducible rfl)); done)); (focus assumption); (try simp only [Act.put, List.setIfInBounds_toArray, List.set_cons_zero, List.set_cons_succ, List.getElem_toArray, List.getElem_cons_succ, List.getElem_cons_zero]))
        (refine wpAnyH_take (i := 10) (v := ?_) rfl ?_ ?_ ?_ (fun _ _ _ h => h) (Or.inl ⟨?_, ?_⟩) ?_ ?_; rotate_left 1; (focus decide +kernel); (focus decide +kernel); (focus decide +kernel); (focus rfl); (focus (intro w hSw; (try dsimp only at hSw); go_simp; (try (with_reducible rfl)); done)); (focus assumption); (try simp only [Act.put, List.setIfInBounds_toArray, List.set_cons_zero, List.set_cons_succ, List.getElem_toArray, List.getElem_cons_succ, List.getElem_cons_zero]))
        (refine wpAnyH_take (i := 11) (v := ?_) rfl ?_ ?_ ?_ (fun _ _ _ h => h) (Or.inl ⟨?_, ?_⟩) ?_ ?_; rotate_left 1; (focus decide +kernel); (focus decide +kernel); (focus decide +kernel); (focus rfl); (focus (intro w hSw; (try dsimp only at hSw); go_simp; (try (with_reducible rfl)); done)); (focus assumption); (try simp only [Act.put, List.setIfInBounds_toArray, List.set_cons_zero, List.set_cons_succ, List.getElem_toArray, List.getElem_cons_succ, List.getElem_cons_zero]))
        (refine wpAnyH_take (i := 12) (v := ?_) rfl ?_ ?_ ?_ (fun _ _ _ h => h) (Or.inl ⟨?_, ?_⟩) ?_ ?_; rotate_left 1; (focus decide +kernel); (focus decide +kernel); (focus decide +kernel); (focus rfl); (focus (intro w hSw; (try dsimp only at hSw); go_simp; (try (with_reducible rfl)); done)); (focus assumption); (try simp only [Act.put, List.setIfInBounds_toArray, List.set_cons_zero, List.set_cons_succ, List.getElem_toArray, List.getElem_cons_succ, List.getElem_cons_zero]))
        (refine wpAnyH_take (i := 13) (v := ?_) rfl ?_ ?_ ?_ (fun _ _ _ h => h) (Or.inl ⟨?_, ?_⟩) ?_ ?_; rotate_left 1; (focus decide +kernel); (focus decide +kernel); (focus decide +kernel); (focus rfl); (focus (intro w hSw; (try dsimp only at hSw); go_simp; (try (with_reducible rfl)); done)); (focus assumption); (try simp only [Act.put, List.setIfInBounds_toArray, List.set_cons_zero, List.set_cons_succ, List.getElem_toArray, List.getElem_cons_succ, List.getElem_cons_zero]))
        (refine wpAnyH_take (i := 14) (v := ?_) rfl ?_ ?_ ?_ (fun _ _ _ h => h) (Or.inl ⟨?_, ?_⟩) ?_ ?_; rotate_left 1; (focus decide +kernel); (focus decide +kernel); (focus decide +kernel); (focus rfl); (focus (intro w hSw; (try dsimp only at hSw); go_simp; (try (with_reducible rfl)); done)); (focus assumption); (try simp only [Act.put, List.setIfInBounds_toArray, List.set_cons_zero, List.set_cons_succ, List.getElem_toArray, List.getElem_cons_succ, List.getElem_cons_zero]))
        (refine wpAnyH_take (i := 15) (v := ?_) rfl ?_ ?_ ?_ (fun _ _ _ h => h) (Or.inl ⟨?_, ?_⟩) ?_ ?_; rotate_left 1; (focus decide +kernel); (focus decide +kernel); (focus decide +kernel); (focus rfl); (focus (intro w hSw; (try dsimp only at hSw); go_simp; (try (with_reducible rfl)); done)); (focus assumption); (try simp only [Act.put, List.setIfInBounds_toArray, List.set_cons_zero, List.set_cons_succ, List.getElem_toArray, List.getElem_cons_succ, List.getElem_cons_zero]))
        (refine wpAnyH_take (i := 16) (v := ?_) rfl ?_ ?_ ?_ (fun _ _ _ h => h) (Or.inl ⟨?_, ?_⟩) ?_ ?_; rotate_left 1; (focus decide +kernel); (focus decide +kernel); (focus decide +kernel); (focus rfl); (focus (intro w hSw; (try dsimp only at hSw); go_simp; (try (with_reducible rfl)); done)); (focus assumption); (try simp only [Act.put, List.setIfInBounds_toArray, List.set_cons_zero, List.set_cons_succ, List.getElem_toArray, List.getElem_cons_succ, List.getElem_cons_zero]))
        (refine wpAnyH_take (i := 17) (v := ?_) rfl ?_ ?_ ?_ (fun _ _ _ h => h) (Or.inl ⟨?_, ?_⟩) ?_ ?_; rotate_left 1; (focus decide +kernel); (focus decide +kernel); (focus decide +kernel); (focus rfl); (focus (intro w hSw; (try dsimp only at hSw); go_simp; (try (with_reducible rfl)); done)); (focus assumption); (try simp only [Act.put, List.setIfInBounds_toArray, List.set_cons_zero, List.set_cons_succ, List.getElem_toArray, List.getElem_cons_succ, List.getElem_cons_zero]))
        (refine wpAnyH_take (i := 18) (v := ?_) rfl ?_ ?_ ?_ (fun _ _ _ h => h) (Or.inl ⟨?_, ?_⟩) ?_ ?_; rotate_left 1; (focus decide +kernel); (focus decide +kernel); (focus decide +kernel); (focus rfl); (focus (intro w hSw; (try dsimp only at hSw); go_simp; (try (with_reducible rfl)); done)); (focus assumption); (try simp only [Act.put, List.setIfInBounds_toArray, List.set_cons_zero, List.set_cons_succ, List.getElem_toArray, List.getElem_cons_succ, List.getElem_cons_zero]))
        refine wpAnyH_ready (rs := [19]) ?_ (by simp) ?_
        · decide +kernel
        refine AllReadyH.cons rfl (fun K hK => ?_) AllReadyH.nil
        go_simp
        go_at_call 51
        refine (specTurned4 HXB.out (by omega)).mono ?_
        rintro e w' ⟨rfl, rfl⟩
        refine hK.out _ _ ?_ (fun hHeld2 => ?_)
        · (try dsimp only); exact hHeld
        clear hK K hHeld
        have hHeld := hHeld2
        clear hHeld2
        (try simp only [Act.put, List.setIfInBounds_toArray, List.set_cons_zero, List.set_cons_succ, List.getElem_toArray, List.getElem_cons_succ, List.getElem_cons_zero])
        (refine wpAnyH_take (i := 20) (v := ?_) rfl ?_ ?_ ?_ (fun _ _ _ h => h) (Or.inl ⟨?_, ?_⟩) ?_ ?_; rotate_left 1; (focus decide +kernel); (focus decide +kernel); (focus decide +kernel); (focus rfl); (focus (intro w hSw; (try dsimp only at hSw); go_simp; (try (with_reducible rfl)); done)); (focus assumption); (try simp only [Act.put, List.setIfInBounds_toArray, List.set_cons_zero, List.set_cons_succ, List.getElem_toArray, List.getElem_cons_succ, List.getElem_cons_zero]))
        refine wpAnyH_ready (rs := [21]) ?_ (by simp) ?_
        · decide +kernel
        refine AllReadyH.cons rfl (fun K hK => ?_) AllReadyH.nil
        have hox := ow.cell (i := k) (by rw [mixN_len _ _ _ HTL.out (Nat.le_of_lt hlt)]; exact hlt)
        have hof := ow.free k
        go_simp
        have ow2 := ow.set k (Trn.trn x 4 2 4 : Int)
        have g2 := Grow.g_set hHeld.1 k (.int .i64 (Trn.trn x 4 2 4 : Int))
        refine hK.out _ _ ?_ (fun hHeld5 => ?_)
        · (try dsimp only); obtain ⟨h0, h1, h2, h3, h4, h5⟩ := hHeld; exact ⟨g2, FNew.set_cell h1 hpN, FNew.set_cell h2 hpN, FNew.set_cell h3 hpO, FNew.set_cell h4 hpb, by simpa [World.setCell] using h5⟩
        clear hK K hHeld5
        obtain ⟨wz, hz⟩ : ∃ wz, wz = wD.setCell ⟨p, k, none⟩ (.int .i64 (Trn.trn x 4 2 4 : Int)) := ⟨_, rfl⟩
        rw [← hz] at ow2 g2
        simp only [← hz]
        clear hz hox hof hHeld
        (try simp only [Act.put, List.setIfInBounds_toArray, List.set_cons_zero, List.set_cons_succ, List.getElem_toArray, List.getElem_cons_succ, List.getElem_cons_zero])
        refine wpAnyH_done (by kernel_rfl) ?_ _
        have HO3 := hid ow2
        have HG3 := hid g2
        clear ow ow2 g2
        go_wp2
        go_roundw
        case rel =>
          refine ⟨k + 1, by omega, by go_num, ?_, HG3.out⟩
          have hs := mixN_set (colL 4 left xs ys) xs k HTL.out hlt
          rw [HTX.out] at hs
          rw [← hs]
          exact HO3.out
        case measure => simp [intOf]; omega
      | false =>
        go_wp2_with fail
        refine wp_region_held_drew (S := (fun ww => w4.grownBy ww (some p) ∧ ww.cell? ⟨N, 0, none⟩ = some (.int .i64 4) ∧ ww.cell? ⟨N, 3, none⟩ = some ((Value.slice (some ⟨b1, off1, none⟩) xs.length cap1)) ∧ ww.cell? ⟨NO, 3, none⟩ = some ((Value.slice (some ⟨p, 0, none⟩) xs.length kp)) ∧ ww.cell? ⟨b1, off1 + k, none⟩ = some (.int .i64 (x : Int)) ∧ w4.heap.size ≤ ww.heap.size)) (by kernel_rfl) ?_ (fun hHeld => ?_)
        · ((try dsimp only); exact ⟨Grow.g_drew HG1.out, c0, c3, d3, hcx, HG1.out.size⟩)
        have ow : Own 2 wr.drew p (Value.slice (some ⟨p, 0, none⟩) xs.length kp) (mixN (colL 4 left xs ys) xs k) := HO1.out
        generalize hD : wr.drew = wD at hHeld ow ⊢
        clear hcx hcw c0 c1 c2 c3 c4 d0 d1 d2 d3 d4 hD
        (refine wpAnyH_take (i := 0) (v := ?_) rfl ?_ ?_ ?_ (fun _ _ _ h => h) (Or.inl ⟨?_, ?_⟩) ?_ ?_; rotate_left 1; (focus decide +kernel); (focus decide +kernel); (focus decide +kernel); (focus rfl); (focus (intro w hSw; (try dsimp only at hSw); go_simp; (try (with_reducible rfl)); done)); (focus assumption); (try simp only [Act.put, List.setIfInBounds_toArray, List.set_cons_zero, List.set_cons_succ, List.getElem_toArray, List.getElem_cons_succ, List.getElem_cons_zero]))
        (refine wpAnyH_take (i := 1) (v := ?_) rfl ?_ ?_ ?_ (fun _ _ _ h => h) (Or.inl ⟨?_, ?_⟩) ?_ ?_; rotate_left 1; (focus decide +kernel); (focus decide +kernel); (focus decide +kernel); (focus rfl); (focus (intro w hSw; (try dsimp only at hSw); go_simp; (try (with_reducible rfl)); done)); (focus assumption); (try simp only [Act.put, List.setIfInBounds_toArray, List.set_cons_zero, List.set_cons_succ, List.getElem_toArray, List.getElem_cons_succ, List.getElem_cons_zero]))
        (refine wpAnyH_take (i := 2) (v := ?_) rfl ?_ ?_ ?_ (fun _ _ _ h => h) (Or.inl ⟨?_, ?_⟩) ?_ ?_; rotate_left 1; (focus decide +kernel); (focus decide +kernel); (focus decide +kernel); (focus rfl); (focus (intro w hSw; (try dsimp only at hSw); go_simp; (try (with_reducible rfl)); done)); (focus assumption); (try simp only [Act.put, List.setIfInBounds_toArray, List.set_cons_zero, List.set_cons_succ, List.getElem_toArray, List.getElem_cons_succ, List.getElem_cons_zero]))
        (refine wpAnyH_take (i := 3) (v := ?_) rfl ?_ ?_ ?_ (fun _ _ _ h => h) (Or.inl ⟨?_, ?_⟩) ?_ ?_; rotate_left 1; (focus decide +kernel); (focus decide +kernel); (focus decide +kernel); (focus rfl); (focus (intro w hSw; (try dsimp only at hSw); go_simp; (try (with_reducible rfl)); done)); (focus assumption); (try simp only [Act.put, List.setIfInBounds_toArray, List.set_cons_zero, List.set_cons_succ, List.getElem_toArray, List.getElem_cons_succ, List.getElem_cons_zero]))
        (refine wpAnyH_take (i := 4) (v := ?_) rfl ?_ ?_ ?_ (fun _ _ _ h => h) (Or.inl ⟨?_, ?_⟩) ?_ ?_; rotate_left 1; (focus decide +kernel); (focus decide +kernel); (focus decide +kernel); (focus rfl); (focus (intro w hSw; (try dsimp only at hSw); go_simp; (try (with_reducible rfl)); done)); (focus assumption); (try simp only [Act.put, List.setIfInBounds_toArray, List.set_cons_zero, List.set_cons_succ, List.getElem_toArray, List.getElem_cons_succ, List.getElem_cons_zero]))
        (refine wpAnyH_take (i := 5) (v := ?_) rfl ?_ ?_ ?_ (fun _ _ _ h => h) (Or.inl ⟨?_, ?_⟩) ?_ ?_; rotate_left 1; (focus decide +kernel); (focus decide +kernel); (focus decide +kernel); (focus rfl); (focus (intro w hSw; (try dsimp only at hSw); go_simp; (try (with_reducible rfl)); done)); (focus assumption); (try simp only [Act.put, List.setIfInBounds_toArray, List.set_cons_zero, List.set_cons_succ, List.getElem_toArray, List.getElem_cons_succ, List.getElem_cons_zero]))
        (refine wpAnyH_take (i := 6) (v := ?_) rfl ?_ ?_ ?_ (fun _ _ _ h => h) (Or.inl ⟨?_, ?_⟩) ?_ ?_; rotate_left 1; (focus decide +kernel); (focus decide +kernel); (focus decide +kernel); (focus rfl); (focus (intro w hSw; (try dsimp only at hSw); go_simp; (try (with_reducible rfl)); done)); (focus assumption); (try simp only [Act.put, List.setIfInBounds_toArray, List.set_cons_zero, List.set_cons_succ, List.getElem_toArray, List.getElem_cons_succ, List.getElem_cons_zero]))
        (refine wpAnyH_take (i := 7) (v := ?_) rfl ?_ ?_ ?_ (fun _ _ _ h => h) (Or.inl ⟨?_, ?_⟩) ?_ ?_; rotate_left 1; (focus decide +kernel); (focus decide +kernel); (focus decide +kernel); (focus rfl); (focus (intro w hSw; (try dsimp only at hSw); go_simp; (try (with_reducible rfl)); done)); (focus assumption); (try simp only [Act.put, List.setIfInBounds_toArray, List.set_cons_zero, List.set_cons_succ, List.getElem_toArray, List.getElem_cons_succ, List.getElem_cons_zero]))
        (refine wpAnyH_take (i := 8) (v := ?_) rfl ?_ ?_ ?_ (fun _ _ _ h => h) (Or.inl ⟨?_, ?_⟩) ?_ ?_; rotate_left 1; (focus decide +kernel); (focus decide +kernel); (focus decide +kernel); (focus rfl); (focus (intro w hSw; (try dsimp only at hSw); go_simp; (try (with_reducible rfl)); done)); (focus assumption); (try simp only [Act.put, List.setIfInBounds_toArray, List.set_cons_zero, List.set_cons_succ, List.getElem_toArray, List.getElem_cons_succ, List.getElem_cons_zero]))
        (refine wpAnyH_take (i := 9) (v := ?_) rfl ?_ ?_ ?_ (fun _ _ _ h => h) (Or.inl ⟨?_, ?_⟩) ?_ ?_; rotate_left 1; (focus decide +kernel); (focus decide +kernel); (focus decide +kernel); (focus rfl); (focus (intro w hSw; (try dsimp only at hSw); go_simp; (try (with_reducible rfl)); done)); (focus assumption); (try simp only [Act.put, List.setIfInBounds_toArray, List.set_cons_zero, List.set_cons_succ, List.getElem_toArray, List.getElem_cons_succ, List.getElem_cons_zero]))
        (refine wpAnyH_take (i := 10) (v := ?_) rfl ?_ ?_ ?_ (fun _ _ _ h => h) (Or.inl ⟨?_, ?_⟩) ?_ ?_; rotate_left 1; (focus decide +kernel); (focus decide +kernel); (focus decide +kernel); (focus rfl); (focus (intro w hSw; (try dsimp only at hSw); go_simp; (try (with_reducible rfl)); done)); (focus assumption); (try simp only [Act.put, List.setIfInBounds_toArray, List.set_cons_zero, List.set_cons_succ, List.getElem_toArray, List.getElem_cons_succ, List.getElem_cons_zero]))
        (refine wpAnyH_take (i := 11) (v := ?_) rfl ?_ ?_ ?_ (fun _ _ _ h => h) (Or.inl ⟨?_, ?_⟩) ?_ ?_; rotate_left 1; (focus decide +kernel); (focus decide +kernel); (focus decide +kernel); (focus rfl); (focus (intro w hSw; (try dsimp only at hSw); go_simp; (try (with_reducible rfl)); done)); (focus assumption); (try simp only [Act.put, List.setIfInBounds_toArray, List.set_cons_zero, List.set_cons_succ, List.getElem_toArray, List.getElem_cons_succ, List.getElem_cons_zero]))
        (refine wpAnyH_take (i := 12) (v := ?_) rfl ?_ ?_ ?_ (fun _ _ _ h => h) (Or.inl ⟨?_, ?_⟩) ?_ ?_; rotate_left 1; (focus decide +kernel); (focus decide +kernel); (focus decide +kernel); (focus rfl); (focus (intro w hSw; (try dsimp only at hSw); go_simp; (try (with_reducible rfl)); done)); (focus assumption); (try simp only [Act.put, List.setIfInBounds_toArray, List.set_cons_zero, List.set_cons_succ, List.getElem_toArray, List.getElem_cons_succ, List.getElem_cons_zero]))
        (refine wpAnyH_take (i := 13) (v := ?_) rfl ?_ ?_ ?_ (fun _ _ _ h => h) (Or.inl ⟨?_, ?_⟩) ?_ ?_; rotate_left 1; (focus decide +kernel); (focus decide +kernel); (focus decide +kernel); (focus rfl); (focus (intro w hSw; (try dsimp only at hSw); go_simp; (try (with_reducible rfl)); done)); (focus assumption); (try simp only [Act.put, List.setIfInBounds_toArray, List.set_cons_zero, List.set_cons_succ, List.getElem_toArray, List.getElem_cons_succ, List.getElem_cons_zero]))
        (refine wpAnyH_take (i := 14) (v := ?_) rfl ?_ ?_ ?_ (fun _ _ _ h => h) (Or.inl ⟨?_, ?_⟩) ?_ ?_; rotate_left 1; (focus decide +kernel); (focus decide +kernel); (focus decide +kernel); (focus rfl); (focus (intro w hSw; (try dsimp only at hSw); go_simp; (try (with_reducible rfl)); done)); (focus assumption); (try simp only [Act.put, List.setIfInBounds_toArray, List.set_cons_zero, List.set_cons_succ, List.getElem_toArray, List.getElem_cons_succ, List.getElem_cons_zero]))
        refine wpAnyH_ready (rs := [15]) ?_ (by simp) ?_
        · decide +kernel
        refine AllReadyH.cons rfl (fun K hK => ?_) AllReadyH.nil
        go_simp
        go_at_call 69
        refine (Ones.specCol4 HXS.out).mono ?_
        rintro e w' ⟨rfl, rfl⟩
        refine hK.out _ _ ?_ (fun hHeld2 => ?_)
        · (try dsimp only); exact hHeld
        clear hK K hHeld
        have hHeld := hHeld2
        clear hHeld2
        (try simp only [Act.put, List.setIfInBounds_toArray, List.set_cons_zero, List.set_cons_succ, List.getElem_toArray, List.getElem_cons_succ, List.getElem_cons_zero])
        (refine wpAnyH_take (i := 16) (v := ?_) rfl ?_ ?_ ?_ (fun _ _ _ h => h) (Or.inl ⟨?_, ?_⟩) ?_ ?_; rotate_left 1; (focus decide +kernel); (focus decide +kernel); (focus decide +kernel); (focus rfl); (focus (intro w hSw; (try dsimp only at hSw); go_simp; (try (with_reducible rfl)); done)); (focus assumption); (try simp only [Act.put, List.setIfInBounds_toArray, List.set_cons_zero, List.set_cons_succ, List.getElem_toArray, List.getElem_cons_succ, List.getElem_cons_zero]))
        refine wpAnyH_ready (rs := [17]) ?_ (by simp) ?_
        · decide +kernel
        refine AllReadyH.cons rfl (fun K hK => ?_) AllReadyH.nil
        have hox := ow.cell (i := k) (by rw [mixN_len _ _ _ HTL.out (Nat.le_of_lt hlt)]; exact hlt)
        have hof := ow.free k
        go_simp
        have ow2 := ow.set k (Ones.col x 4 left : Int)
        have g2 := Grow.g_set hHeld.1 k (.int .i64 (Ones.col x 4 left : Int))
        refine hK.out _ _ ?_ (fun hHeld5 => ?_)
        · (try dsimp only); obtain ⟨h0, h1, h2, h3, h4, h5⟩ := hHeld; exact ⟨g2, FNew.set_cell h1 hpN, FNew.set_cell h2 hpN, FNew.set_cell h3 hpO, FNew.set_cell h4 hpb, by simpa [World.setCell] using h5⟩
        clear hK K hHeld5
        obtain ⟨wz, hz⟩ : ∃ wz, wz = wD.setCell ⟨p, k, none⟩ (.int .i64 (Ones.col x 4 left : Int)) := ⟨_, rfl⟩
        rw [← hz] at ow2 g2
        simp only [← hz]
        clear hz hox hof hHeld
        (try simp only [Act.put, List.setIfInBounds_toArray, List.set_cons_zero, List.set_cons_succ, List.getElem_toArray, List.getElem_cons_succ, List.getElem_cons_zero])
        refine wpAnyH_done (by kernel_rfl) ?_ _
        have HO3 := hid ow2
        have HG3 := hid g2
        clear ow ow2 g2
        go_wp2
        go_roundw
        case rel =>
          refine ⟨k + 1, by omega, by go_num, ?_, HG3.out⟩
          have hs := mixN_set (colL 4 left xs ys) xs k HTL.out hlt
          rw [HTX.out] at hs
          rw [← hs]
          exact HO3.out
        case measure => simp [intOf]; omega
    · have hkn : k = xs.length := by omega
      subst hkn
      rw [mixN_all _ _ HTL.out] at hown
      have kTr := Grow.g_heap hg HKT.out (Nat.ne_of_lt HAp.out.2.1)
      have HB := hid (Grow.g_below HSX.out.1 hg HAp.out.2.2.2.2)
      have HO := hid hown
      have HQ2 := hid (besideO HOQ.out hg (.inr (Nat.ne_of_gt HAp.out.2.2.1)))
      clear hown hg hpN hpO
      have y0 : wr.cell? ⟨NT, 0, none⟩ = some (.int .i64 0) := Go.Joins.cell_of_block kTr 0
      have y1 : wr.cell? ⟨NT, 1, none⟩ = some (.int .i64 0) := Go.Joins.cell_of_block kTr 1
      have y2 : wr.cell? ⟨NT, 2, none⟩ = some (.int .i64 0) := Go.Joins.cell_of_block kTr 2
      have y3 : wr.cell? ⟨NT, 3, none⟩ = some (.slice none 0 0) := Go.Joins.cell_of_block kTr 3
      have y4 : wr.cell? ⟨NT, 4, none⟩ = some (.slice none 0 0) := Go.Joins.cell_of_block kTr 4
      have g0 : wr.frozen? ⟨NT, 0, none⟩ = false := Go.Joins.unfrozen_of_block kTr 0
      have g1 : wr.frozen? ⟨NT, 1, none⟩ = false := Go.Joins.unfrozen_of_block kTr 1
      have g2 : wr.frozen? ⟨NT, 2, none⟩ = false := Go.Joins.unfrozen_of_block kTr 2
      have g3 : wr.frozen? ⟨NT, 3, none⟩ = false := Go.Joins.unfrozen_of_block kTr 3
      have g4 : wr.frozen? ⟨NT, 4, none⟩ = false := Go.Joins.unfrozen_of_block kTr 4
      have HKx := hid kTr
      clear kTr
      go_wp2
      have q0 := (Go.Joins.block_setCell (i := 4) (Go.Joins.block_setCell (i := 3) (Go.Joins.block_setCell (i := 2) (Go.Joins.block_setCell (i := 1) (Go.Joins.block_setCell (i := 0) HKx.out (.int .i64 4)) (.int .i64 s)) (.int .i64 r)) ((Value.slice (some ⟨p, 0, none⟩) xs.length kp))) ((Value.slice (some ⟨q, 0, none⟩) ys.length kq)))
      have B5 := (((((HB.out.setCell (p := ⟨NT, 0, none⟩) HNT.out (.int .i64 4)).setCell (p := ⟨NT, 1, none⟩) HNT.out (.int .i64 s)).setCell (p := ⟨NT, 2, none⟩) HNT.out (.int .i64 r)).setCell (p := ⟨NT, 3, none⟩) HNT.out ((Value.slice (some ⟨p, 0, none⟩) xs.length kp))).setCell (p := ⟨NT, 4, none⟩) HNT.out ((Value.slice (some ⟨q, 0, none⟩) ys.length kq)))
      have O0 := (own_set (own_set (own_set (own_set (own_set HO.out ⟨NT, 0, none⟩ (.int .i64 4) (Nat.ne_of_lt HAp.out.2.1)) ⟨NT, 1, none⟩ (.int .i64 s) (Nat.ne_of_lt HAp.out.2.1)) ⟨NT, 2, none⟩ (.int .i64 r) (Nat.ne_of_lt HAp.out.2.1)) ⟨NT, 3, none⟩ ((Value.slice (some ⟨p, 0, none⟩) xs.length kp)) (Nat.ne_of_lt HAp.out.2.1)) ⟨NT, 4, none⟩ ((Value.slice (some ⟨q, 0, none⟩) ys.length kq)) (Nat.ne_of_lt HAp.out.2.1))
      have O1 := (ownB_set (ownB_set (ownB_set (ownB_set (ownB_set HQ2.out ⟨NT, 0, none⟩ (.int .i64 4) (Nat.ne_of_lt (Nat.lt_trans HAp.out.2.1 HAp.out.2.2.1))) ⟨NT, 1, none⟩ (.int .i64 s) (Nat.ne_of_lt (Nat.lt_trans HAp.out.2.1 HAp.out.2.2.1))) ⟨NT, 2, none⟩ (.int .i64 r) (Nat.ne_of_lt (Nat.lt_trans HAp.out.2.1 HAp.out.2.2.1))) ⟨NT, 3, none⟩ ((Value.slice (some ⟨p, 0, none⟩) xs.length kp)) (Nat.ne_of_lt (Nat.lt_trans HAp.out.2.1 HAp.out.2.2.1))) ⟨NT, 4, none⟩ ((Value.slice (some ⟨q, 0, none⟩) ys.length kq)) (Nat.ne_of_lt (Nat.lt_trans HAp.out.2.1 HAp.out.2.2.1)))
      obtain ⟨W5, hW⟩ : ∃ W5, W5 = (((((wr.setCell ⟨NT, 0, none⟩ (.int .i64 4)).setCell ⟨NT, 1, none⟩ (.int .i64 s)).setCell ⟨NT, 2, none⟩ (.int .i64 r)).setCell ⟨NT, 3, none⟩ ((Value.slice (some ⟨p, 0, none⟩) xs.length kp))).setCell ⟨NT, 4, none⟩ ((Value.slice (some ⟨q, 0, none⟩) ys.length kq))) := ⟨_, rfl⟩
      rw [← hW] at q0 B5 O0 O1
      have z0 : W5.cell? ⟨NT, 0, none⟩ = some (.int .i64 4) := Go.Joins.cell_of_block q0 0
      have z1 : W5.cell? ⟨NT, 1, none⟩ = some (.int .i64 s) := Go.Joins.cell_of_block q0 1
      have z2 : W5.cell? ⟨NT, 2, none⟩ = some (.int .i64 r) := Go.Joins.cell_of_block q0 2
      have z3 : W5.cell? ⟨NT, 3, none⟩ = some ((Value.slice (some ⟨p, 0, none⟩) xs.length kp)) := Go.Joins.cell_of_block q0 3
      have z4 : W5.cell? ⟨NT, 4, none⟩ = some ((Value.slice (some ⟨q, 0, none⟩) ys.length kq)) := Go.Joins.cell_of_block q0 4
      simp only [← hW]
      clear hW q0
      simp [bodyPost, results, Try.results56, go_sem, z0, z1, z2, z3, z4]
      exact ⟨p, kp, q, kq, by simp, O0, O1, HAp.out.2.2.2.2, HAp.out.2.2.1, HKP.out.1, HKP.out.2, B5⟩


set_option maxHeartbeats 16000000 in
theorem specCollide6 {w : World} {N : Nat} {s r : Int} {b1 b2 : Nat} {v1 v2 : Value} {xs : List Int} {ys : List Bool} {left : Bool} (k0 : w.cell? ⟨N, 0, none⟩ = some (.int .i64 6)) (k1 : w.cell? ⟨N, 1, none⟩ = some (.int .i64 s)) (k2 : w.cell? ⟨N, 2, none⟩ = some (.int .i64 r)) (k3 : w.cell? ⟨N, 3, none⟩ = some (v1)) (k4 : w.cell? ⟨N, 4, none⟩ = some (v2)) (h1 : Rd w b1 v1 xs) (h2 : RdB w b2 v2 ys) (hq : gasB 6 s r xs ys = true) :
    Calls Try.prog 56 #[.pointer (some ⟨N, 0, none⟩), .bool left] w fun e w' => ∃ p kp q kq, e = .returned (gasV 6 s r (.slice (some ⟨p, 0, none⟩) xs.length kp) (.slice (some ⟨q, 0, none⟩) ys.length kq)) ∧ Own 2 w' p (.slice (some ⟨p, 0, none⟩) xs.length kp) (colL 6 left xs ys) ∧ OwnB 4 w' q (.slice (some ⟨q, 0, none⟩) ys.length kq) ys ∧ w.heap.size ≤ p ∧ p < q ∧ xs.length ≤ kp ∧ kp ≤ maxLen ∧ Below w.heap.size w w' := by
  obtain ⟨hg4, hn, hn256, hym, hcb⟩ := gas_parts hq
  have H1 := hid h1
  have H2 := hid h2
  have HQ := hid hq
  have HCB := hid hcb
  have HG4 := hid hg4
  obtain ⟨ao1, cap1, rfl, hc1, hm1, h41⟩ := h1
  obtain ⟨ao2, cap2, rfl, hc2, hm2, h42⟩ := h2
  obtain ⟨off1, rfl, hb1, hcell1⟩ := h41 (by omega)
  obtain ⟨off2, rfl, hb2, hcell2⟩ := h42 (by omega)
  have HC1 := hid hcell1
  have HC2 := hid hcell2
  have HBL := hid (And.intro hb1 hb2)
  have HYM := hid hym
  have hnI : (xs.length : Int) ≤ 256 := by omega
  have HLE : Hid (1 ≤ xs.length ∧ xs.length ≤ 256) := ⟨hn, hn256⟩
  clear hq hcb hg4 hc1 hm1 h41 hc2 hm2 h42 hb1 hb2 hcell1 hcell2 hym hn hn256
  have hNw := World.block_lt_of_cell? w _ k0
  have HKK := hid (And.intro k0 (And.intro k1 (And.intro k2 (And.intro k3 k4))))
  clear k0 k1 k2 k3 k4
  go_enter Try.func56, Try.ntmps56
  go_wp2_with fail
  obtain ⟨w1, hW⟩ : ∃ w1, w1 = w.alloc (Obj.cells #[.int .i64 0, .int .i64 0, .int .i64 0, .slice none 0 0, .slice none 0 0] 31) := ⟨_, rfl⟩
  obtain ⟨NT, hM⟩ : ∃ NT, NT = w.heap.size := ⟨_, rfl⟩
  have st : Below w.heap.size w w1 ∧ w1.cell? ⟨N, 0, none⟩ = some (.int .i64 6) ∧ w1.cell? ⟨N, 1, none⟩ = some (.int .i64 s) ∧ w1.cell? ⟨N, 2, none⟩ = some (.int .i64 r) ∧ w1.cell? ⟨N, 3, none⟩ = some ((Value.slice (some ⟨b1, off1, none⟩) xs.length cap1)) ∧ w1.cell? ⟨N, 4, none⟩ = some ((Value.slice (some ⟨b2, off2, none⟩) ys.length cap2)) ∧ Rd w1 b1 (Value.slice (some ⟨b1, off1, none⟩) xs.length cap1) xs ∧ RdB w1 b2 (Value.slice (some ⟨b2, off2, none⟩) ys.length cap2) ys ∧ w.heap.size ≤ w1.heap.size := by
    have B : Below w.heap.size w w1 := by rw [hW]; exact below1 _ _
    exact ⟨B, cell_keep B HKK.out.1, cell_keep B HKK.out.2.1, cell_keep B HKK.out.2.2.1, cell_keep B HKK.out.2.2.2.1, cell_keep B HKK.out.2.2.2.2, H1.out.keep B (Nat.le_refl _), H2.out.keep B (Nat.le_refl _), B.size⟩
  have kT : w1.heap[NT]? = some (Obj.cells #[.int .i64 0, .int .i64 0, .int .i64 0, .slice none 0 0, .slice none 0 0] 31) := by rw [hW]; exact FNew.heap_top hM
  have HNT : Hid (w.heap.size ≤ NT) := by simp only [Hid]; omega
  have HNN : Hid (N < NT) := by simp only [Hid]; rw [hM]; exact hNw
  simp only [← hW, ← hM]
  clear hW hM hNw
  go_at_call 50
  refine (GOwn.l06Own st.2.1 st.2.2.1 st.2.2.2.1 st.2.2.2.2.1 st.2.2.2.2.2.1 (rdx5_IB_0 st) (rdx5_IB_1 st) (by have := HLE.out; omega) (by have := HLE.out; have := HYM.out; omega)).mono ?_
  rintro e w3 ⟨p, kp, q, kq, rfl, op, oq, lop, lpq, hkp, hkm, bel⟩
  have hNTp : NT < p := Nat.lt_of_lt_of_le (Array.getElem?_eq_some_iff.1 kT).1 lop
  have lob : w.heap.size ≤ p := Nat.le_trans st.1.size lop
  replace st := nx5_IB bel st
  replace kT := (bel.block NT (Array.getElem?_eq_some_iff.1 kT).1).trans kT
  clear bel lop
  obtain ⟨w4, hW⟩ : ∃ w4, w4 = w3.alloc (Obj.cells #[.int .i64 6, .int .i64 s, .int .i64 r, (Value.slice (some ⟨p, 0, none⟩) xs.length kp), (Value.slice (some ⟨q, 0, none⟩) ys.length kq)] 31) := ⟨_, rfl⟩
  obtain ⟨NO, hO⟩ : ∃ NO, NO = w3.heap.size := ⟨_, rfl⟩
  have hqO : q < NO := by
    rw [hO]
    rcases oq.form with ⟨hv, _⟩ | ⟨_, _, _, _, hb⟩
    · cases hv
    · exact hb
  have bel : Below w3.heap.size w3 w4 := by rw [hW]; exact below1 _ _
  replace st := nx5_IB bel st
  replace kT := (bel.block NT (Array.getElem?_eq_some_iff.1 kT).1).trans kT
  replace op := op.keep bel
  replace oq := oq.keep bel
  have kO : w4.heap[NO]? = some (Obj.cells #[.int .i64 6, .int .i64 s, .int .i64 r, (Value.slice (some ⟨p, 0, none⟩) xs.length kp), (Value.slice (some ⟨q, 0, none⟩) ys.length kq)] 31) := by rw [hW]; exact FNew.heap_top hO
  have HSX := hid st
  have HOP := hid op
  have HOQ := hid oq
  have HKT := hid kT
  have HKO := hid kO
  have HKP := hid (And.intro hkp hkm)
  have HAp := hid (show N < NT ∧ NT < p ∧ p < q ∧ q < NO ∧ w.heap.size ≤ p from ⟨HNN.out, hNTp, lpq, hqO, lob⟩)
  clear st op oq kT kO bel hNTp hqO lob lpq hkp hkm
  go_wp2
  simp only [← hW, ← hO]
  clear hW hO
  have HTL : Hid ((colL 6 left xs ys).length = xs.length) := by simp [Hid, colL]
  go_loopw [6] (fun i wr => ∃ k : Nat, k ≤ xs.length ∧ i = .int .i64 k ∧ Own 2 wr p (Value.slice (some ⟨p, 0, none⟩) xs.length kp) (mixN (colL 6 left xs ys) xs k) ∧ w4.grownBy wr (some p)) (fun i _ => xs.length - (intOf i).toNat)
  case atStart => exact ⟨0, Nat.zero_le _, rfl, by rw [mixN_zero]; exact HOP.out, World.grownBy.refl _ _⟩
  case round =>
    obtain ⟨k, hk, rfl, hown, hg⟩ := hrel
    have hpN : N ≠ p := Nat.ne_of_lt (Nat.lt_trans HAp.out.1 HAp.out.2.1)
    have hpO : NO ≠ p := Nat.ne_of_gt (Nat.lt_trans HAp.out.2.2.1 HAp.out.2.2.2.1)
    have c0 := Grow.g_cell hg HSX.out.2.1 hpN
    have c1 := Grow.g_cell hg HSX.out.2.2.1 hpN
    have c2 := Grow.g_cell hg HSX.out.2.2.2.1 hpN
    have c3 := Grow.g_cell hg HSX.out.2.2.2.2.1 hpN
    have c4 := Grow.g_cell hg HSX.out.2.2.2.2.2.1 hpN
    have d0 := Grow.g_cell hg (Go.Joins.cell_of_block HKO.out 0) hpO
    have d1 := Grow.g_cell hg (Go.Joins.cell_of_block HKO.out 1) hpO
    have d2 := Grow.g_cell hg (Go.Joins.cell_of_block HKO.out 2) hpO
    have d3 := Grow.g_cell hg (Go.Joins.cell_of_block HKO.out 3) hpO
    have d4 := Grow.g_cell hg (Go.Joins.cell_of_block HKO.out 4) hpO
    by_cases hlt : k < xs.length
    · obtain ⟨y, hy⟩ : ∃ y, y = xs.getD k 0 := ⟨_, rfl⟩
      have hyb : 0 ≤ y ∧ y < 64 := by
        have h1 := cell_bd HCB.out hlt
        rw [← hy] at h1
        have ht : top (6) = 64 - 1 := by simp [top]
        omega
      obtain ⟨x, rfl⟩ := Int.eq_ofNat_of_zero_le hyb.1
      have HXS : Hid (x < 64) := by simp only [Hid]; omega
      have HXB : Hid (x < 64) := by simp only [Hid]; omega
      have hpb : b1 ≠ p := Nat.ne_of_lt (Nat.lt_of_lt_of_le HBL.out.1 HAp.out.2.2.2.2)
      have hpb2 : b2 ≠ p := Nat.ne_of_lt (Nat.lt_of_lt_of_le HBL.out.2 HAp.out.2.2.2.2)
      have hcx : wr.cell? ⟨b1, off1 + k, none⟩ = some (.int .i64 (x : Int)) := Grow.g_cell hg (by rw [hy]; exact (HSX.out.1.cell (p := ⟨b1, off1 + k, none⟩) HBL.out.1).trans (HC1.out k hlt)) hpb
      obtain ⟨wl, hwl⟩ : ∃ wl, wl = ys.getD k false := ⟨_, rfl⟩
      have hcw : wr.cell? ⟨b2, off2 + k, none⟩ = some (.bool wl) := Grow.g_cell hg (by rw [hwl]; exact (HSX.out.1.cell (p := ⟨b2, off2 + k, none⟩) HBL.out.2).trans (HC2.out k (by have := HYM.out; omega))) hpb2
      have HTX : Hid ((colL 6 left xs ys).getD k 0 = (colC 6 left wl x : Int)) := by simp only [Hid]; rw [colL_get hlt, ← hy, ← hwl]; rfl
      have hki : (k : Int) < (xs.length : Int) := by omega
      have hkj : (k : Int) < (ys.length : Int) := by have := HYM.out; omega
      have HO1 := hid hown
      have HG1 := hid hg
      clear hown hg hy hyb hwl
      have hwr : IntKind.i64.wrap 3 = 3 := by rw [IntKind.wrap_i64]; omega
      cases wl with
      | true =>
        go_wp2_with fail
        refine wp_region_held_drew (S := (fun ww => w4.grownBy ww (some p) ∧ ww.cell? ⟨N, 0, none⟩ = some (.int .i64 6) ∧ ww.cell? ⟨N, 3, none⟩ = some ((Value.slice (some ⟨b1, off1, none⟩) xs.length cap1)) ∧ ww.cell? ⟨NO, 3, none⟩ = some ((Value.slice (some ⟨p, 0, none⟩) xs.length kp)) ∧ ww.cell? ⟨b1, off1 + k, none⟩ = some (.int .i64 (x : Int)) ∧ w4.heap.size ≤ ww.heap.size)) (by kernel_rfl) ?_ (fun hHeld => ?_)
        · ((try dsimp only); exact ⟨Grow.g_drew HG1.out, c0, c3, d3, hcx, HG1.out.size⟩)
        have ow : Own 2 wr.drew p (Value.slice (some ⟨p, 0, none⟩) xs.length kp) (mixN (colL 6 left xs ys) xs k) := HO1.out
        generalize hD : wr.drew = wD at hHeld ow ⊢
        clear hcx hcw c0 c1 c2 c3 c4 d0 d1 d2 d3 d4 hD
        (refine wpAnyH_take (i := 0) (v := ?_) rfl ?_ ?_ ?_ (fun _ _ _ h => h) (Or.inl ⟨?_, ?_⟩) ?_ ?_; rotate_left 1; (focus decide +kernel); (focus decide +kernel); (focus decide +kernel); (focus rfl); (focus (intro w hSw; (try dsimp only at hSw); go_simp; (try (with_reducible rfl)); done)); (focus assumption); (try simp only [Act.put, List.setIfInBounds_toArray, List.set_cons_zero, List.set_cons_succ, List.getElem_toArray, List.getElem_cons_succ, List.getElem_cons_zero]))
        (refine wpAnyH_take (i := 1) (v := ?_) rfl ?_ ?_ ?_ (fun _ _ _ h => h) (Or.inl ⟨?_, ?_⟩) ?_ ?_; rotate_left 1; (focus decide +kernel); (focus decide +kernel); (focus decide +kernel); (focus rfl); (focus (intro w hSw; (try dsimp only at hSw); go_simp; (try (with_reducible rfl)); done)); (focus assumption); (try simp only [Act.put, List.setIfInBounds_toArray, List.set_cons_zero, List.set_cons_succ, List.getElem_toArray, List.getElem_cons_succ, List.getElem_cons_zero]))
        (refine wpAnyH_take (i := 2) (v := ?_) rfl ?_ ?_ ?_ (fun _ _ _ h => h) (Or.inl ⟨?_, ?_⟩) ?_ ?_; rotate_left 1; (focus decide +kernel); (focus decide +kernel); (focus decide +kernel); (focus rfl); (focus (intro w hSw; (try dsimp only at hSw); go_simp; (try (with_reducible rfl)); done)); (focus assumption); (try simp only [Act.put, List.setIfInBounds_toArray, List.set_cons_zero, List.set_cons_succ, List.getElem_toArray, List.getElem_cons_succ, List.getElem_cons_zero]))
        (refine wpAnyH_take (i := 3) (v := ?_) rfl ?_ ?_ ?_ (fun _ _ _ h => h) (Or.inl ⟨?_, ?_⟩) ?_ ?_; rotate_left 1; (focus decide +kernel); (focus decide +kernel); (focus decide +kernel); (focus rfl); (focus (intro w hSw; (try dsimp only at hSw); go_simp; (try (with_reducible rfl)); done)); (focus assumption); (try simp only [Act.put, List.setIfInBounds_toArray, List.set_cons_zero, List.set_cons_succ, List.getElem_toArray, List.getElem_cons_succ, List.getElem_cons_zero]))
        (refine wpAnyH_take (i := 4) (v := ?_) rfl ?_ ?_ ?_ (fun _ _ _ h => h) (Or.inl ⟨?_, ?_⟩) ?_ ?_; rotate_left 1; (focus decide +kernel); (focus decide +kernel); (focus decide +kernel); (focus rfl); (focus (intro w hSw; (try dsimp only at hSw); go_simp; (try (with_reducible rfl)); done)); (focus assumption); (try simp only [Act.put, List.setIfInBounds_toArray, List.set_cons_zero, List.set_cons_succ, List.getElem_toArray, List.getElem_cons_succ, List.getElem_cons_zero]))
        (refine wpAnyH_take (i := 5) (v := ?_) rfl ?_ ?_ ?_ (fun _ _ _ h => h) (Or.inl ⟨?_, ?_⟩) ?_ ?_; rotate_left 1; (focus decide +kernel); (focus decide +kernel); (focus decide +kernel); (focus rfl); (focus (intro w hSw; (try dsimp only at hSw); go_simp; (try (with_reducible rfl)); done)); (focus assumption); (try simp only [Act.put, List.setIfInBounds_toArray, List.set_cons_zero, List.set_cons_succ, List.getElem_toArray, List.getElem_cons_succ, List.getElem_cons_zero]))
        (refine wpAnyH_take (i := 6) (v := ?_) rfl ?_ ?_ ?_ (fun _ _ _ h => h) (Or.inl ⟨?_, ?_⟩) ?_ ?_; rotate_left 1; (focus decide +kernel); (focus decide +kernel); (focus decide +kernel); (focus rfl); (focus (intro w hSw; (try dsimp only at hSw); go_simp; (try (with_reducible rfl)); done)); (focus assumption); (try simp only [Act.put, List.setIfInBounds_toArray, List.set_cons_zero, List.set_cons_succ, List.getElem_toArray, List.getElem_cons_succ, List.getElem_cons_zero]))
        (refine wpAnyH_take (i := 7) (v := ?_) rfl ?_ ?_ ?_ (fun _ _ _ h => h) (Or.inl ⟨?_, ?_⟩) ?_ ?_; rotate_left 1; (focus decide +kernel); (focus decide +kernel); (focus decide +kernel); (focus rfl); (focus (intro w hSw; (try dsimp only at hSw); go_simp; (try (with_reducible rfl)); done)); (focus assumption); (try simp only [Act.put, List.setIfInBounds_toArray, List.set_cons_zero, List.set_cons_succ, List.getElem_toArray, List.getElem_cons_succ, List.getElem_cons_zero]))
        (refine wpAnyH_take (i := 8) (v := ?_) rfl ?_ ?_ ?_ (fun _ _ _ h => h) (Or.inl ⟨?_, ?_⟩) ?_ ?_; rotate_left 1; (focus decide +kernel); (focus decide +kernel); (focus decide +kernel); (focus rfl); (focus (intro w hSw; (try dsimp only at hSw); go_simp; (try (with_reducible rfl)); done)); (focus assumption); (try simp only [Act.put, List.setIfInBounds_toArray, List.set_cons_zero, List.set_cons_succ, List.getElem_toArray, List.getElem_cons_succ, List.getElem_cons_zero]))
        (refine wpAnyH_take (i := 9) (v := ?_) rfl ?_ ?_ ?_ (fun _ _ _ h => h) (Or.inl ⟨?_, ?_⟩) ?_ ?_; rotate_left 1; (focus decide +kernel); (focus decide +kernel); (focus decide +kernel); (focus rfl); (focus (intro w hSw; (try dsimp only at hSw); go_simp; (try (with_reducible rfl)); done)); (focus assumption); (try simp only [Act.put, List.setIfInBounds_toArray, List.set_cons_zero, List.set_cons_succ, List.getElem_toArray, List.getElem_cons_succ, List.getElem_cons_zero]))
        (refine wpAnyH_take (i := 10) (v := ?_) rfl ?_ ?_ ?_ (fun _ _ _ h => h) (Or.inl ⟨?_, ?_⟩) ?_ ?_; rotate_left 1; (focus decide +kernel); (focus decide +kernel); (focus decide +kernel); (focus rfl); (focus (intro w hSw; (try dsimp only at hSw); go_simp; (try (with_reducible rfl)); done)); (focus assumption); (try simp only [Act.put, List.setIfInBounds_toArray, List.set_cons_zero, List.set_cons_succ, List.getElem_toArray, List.getElem_cons_succ, List.getElem_cons_zero]))
        (refine wpAnyH_take (i := 11) (v := ?_) rfl ?_ ?_ ?_ (fun _ _ _ h => h) (Or.inl ⟨?_, ?_⟩) ?_ ?_; rotate_left 1; (focus decide +kernel); (focus decide +kernel); (focus decide +kernel); (focus rfl); (focus (intro w hSw; (try dsimp only at hSw); go_simp; (try (with_reducible rfl)); done)); (focus assumption); (try simp only [Act.put, List.setIfInBounds_toArray, List.set_cons_zero, List.set_cons_succ, List.getElem_toArray, List.getElem_cons_succ, List.getElem_cons_zero]))
        (refine wpAnyH_take (i := 12) (v := ?_) rfl ?_ ?_ ?_ (fun _ _ _ h => h) (Or.inl ⟨?_, ?_⟩) ?_ ?_; rotate_left 1; (focus decide +kernel); (focus decide +kernel); (focus decide +kernel); (focus rfl); (focus (intro w hSw; (try dsimp only at hSw); go_simp; (try (with_reducible rfl)); done)); (focus assumption); (try simp only [Act.put, List.setIfInBounds_toArray, List.set_cons_zero, List.set_cons_succ, List.getElem_toArray, List.getElem_cons_succ, List.getElem_cons_zero]))
        (refine wpAnyH_take (i := 13) (v := ?_) rfl ?_ ?_ ?_ (fun _ _ _ h => h) (Or.inl ⟨?_, ?_⟩) ?_ ?_; rotate_left 1; (focus decide +kernel); (focus decide +kernel); (focus decide +kernel); (focus rfl); (focus (intro w hSw; (try dsimp only at hSw); go_simp; (try (with_reducible rfl)); done)); (focus assumption); (try simp only [Act.put, List.setIfInBounds_toArray, List.set_cons_zero, List.set_cons_succ, List.getElem_toArray, List.getElem_cons_succ, List.getElem_cons_zero]))
        (refine wpAnyH_take (i := 14) (v := ?_) rfl ?_ ?_ ?_ (fun _ _ _ h => h) (Or.inl ⟨?_, ?_⟩) ?_ ?_; rotate_left 1; (focus decide +kernel); (focus decide +kernel); (focus decide +kernel); (focus rfl); (focus (intro w hSw; (try dsimp only at hSw); go_simp; (try (with_reducible rfl)); done)); (focus assumption); (try simp only [Act.put, List.setIfInBounds_toArray, List.set_cons_zero, List.set_cons_succ, List.getElem_toArray, List.getElem_cons_succ, List.getElem_cons_zero]))
        (refine wpAnyH_take (i := 15) (v := ?_) rfl ?_ ?_ ?_ (fun _ _ _ h => h) (Or.inl ⟨?_, ?_⟩) ?_ ?_; rotate_left 1; (focus decide +kernel); (focus decide +kernel); (focus decide +kernel); (focus rfl); (focus (intro w hSw; (try dsimp only at hSw); go_simp; (try (with_reducible rfl)); done)); (focus assumption); (try simp only [Act.put, List.setIfInBounds_toArray, List.set_cons_zero, List.set_cons_succ, List.getElem_toArray, List.getElem_cons_succ, List.getElem_cons_zero]))
        (refine wpAnyH_take (i := 16) (v := ?_) rfl ?_ ?_ ?_ (fun _ _ _ h => h) (Or.inl ⟨?_, ?_⟩) ?_ ?_; rotate_left 1; (focus decide +kernel); (focus decide +kernel); (focus decide +kernel); (focus rfl); (focus (intro w hSw; (try dsimp only at hSw); go_simp; (try (with_reducible rfl)); done)); (focus assumption); (try simp only [Act.put, List.setIfInBounds_toArray, List.set_cons_zero, List.set_cons_succ, List.getElem_toArray, List.getElem_cons_succ, List.getElem_cons_zero]))
        (refine wpAnyH_take (i := 17) (v := ?_) rfl ?_ ?_ ?_ (fun _ _ _ h => h) (Or.inl ⟨?_, ?_⟩) ?_ ?_; rotate_left 1; (focus decide +kernel); (focus decide +kernel); (focus decide +kernel); (focus rfl); (focus (intro w hSw; (try dsimp only at hSw); go_simp; (try (with_reducible rfl)); done)); (focus assumption); (try simp only [Act.put, List.setIfInBounds_toArray, List.set_cons_zero, List.set_cons_succ, List.getElem_toArray, List.getElem_cons_succ, List.getElem_cons_zero]))
        (refine wpAnyH_take (i := 18) (v := ?_) rfl ?_ ?_ ?_ (fun _ _ _ h => h) (Or.inl ⟨?_, ?_⟩) ?_ ?_; rotate_left 1; (focus decide +kernel); (focus decide +kernel); (focus decide +kernel); (focus rfl); (focus (intro w hSw; (try dsimp only at hSw); go_simp; (try (with_reducible rfl)); done)); (focus assumption); (try simp only [Act.put, List.setIfInBounds_toArray, List.set_cons_zero, List.set_cons_succ, List.getElem_toArray, List.getElem_cons_succ, List.getElem_cons_zero]))
        refine wpAnyH_ready (rs := [19]) ?_ (by simp) ?_
        · decide +kernel
        refine AllReadyH.cons rfl (fun K hK => ?_) AllReadyH.nil
        go_simp
        go_at_call 51
        refine (specTurned6 HXB.out (by omega)).mono ?_
        rintro e w' ⟨rfl, rfl⟩
        refine hK.out _ _ ?_ (fun hHeld2 => ?_)
        · (try dsimp only); exact hHeld
        clear hK K hHeld
        have hHeld := hHeld2
        clear hHeld2
        (try simp only [Act.put, List.setIfInBounds_toArray, List.set_cons_zero, List.set_cons_succ, List.getElem_toArray, List.getElem_cons_succ, List.getElem_cons_zero])
        (refine wpAnyH_take (i := 20) (v := ?_) rfl ?_ ?_ ?_ (fun _ _ _ h => h) (Or.inl ⟨?_, ?_⟩) ?_ ?_; rotate_left 1; (focus decide +kernel); (focus decide +kernel); (focus decide +kernel); (focus rfl); (focus (intro w hSw; (try dsimp only at hSw); go_simp; (try (with_reducible rfl)); done)); (focus assumption); (try simp only [Act.put, List.setIfInBounds_toArray, List.set_cons_zero, List.set_cons_succ, List.getElem_toArray, List.getElem_cons_succ, List.getElem_cons_zero]))
        refine wpAnyH_ready (rs := [21]) ?_ (by simp) ?_
        · decide +kernel
        refine AllReadyH.cons rfl (fun K hK => ?_) AllReadyH.nil
        have hox := ow.cell (i := k) (by rw [mixN_len _ _ _ HTL.out (Nat.le_of_lt hlt)]; exact hlt)
        have hof := ow.free k
        go_simp
        have ow2 := ow.set k (Trn.trn x 6 3 6 : Int)
        have g2 := Grow.g_set hHeld.1 k (.int .i64 (Trn.trn x 6 3 6 : Int))
        refine hK.out _ _ ?_ (fun hHeld5 => ?_)
        · (try dsimp only); obtain ⟨h0, h1, h2, h3, h4, h5⟩ := hHeld; exact ⟨g2, FNew.set_cell h1 hpN, FNew.set_cell h2 hpN, FNew.set_cell h3 hpO, FNew.set_cell h4 hpb, by simpa [World.setCell] using h5⟩
        clear hK K hHeld5
        obtain ⟨wz, hz⟩ : ∃ wz, wz = wD.setCell ⟨p, k, none⟩ (.int .i64 (Trn.trn x 6 3 6 : Int)) := ⟨_, rfl⟩
        rw [← hz] at ow2 g2
        simp only [← hz]
        clear hz hox hof hHeld
        (try simp only [Act.put, List.setIfInBounds_toArray, List.set_cons_zero, List.set_cons_succ, List.getElem_toArray, List.getElem_cons_succ, List.getElem_cons_zero])
        refine wpAnyH_done (by kernel_rfl) ?_ _
        have HO3 := hid ow2
        have HG3 := hid g2
        clear ow ow2 g2
        go_wp2
        go_roundw
        case rel =>
          refine ⟨k + 1, by omega, by go_num, ?_, HG3.out⟩
          have hs := mixN_set (colL 6 left xs ys) xs k HTL.out hlt
          rw [HTX.out] at hs
          rw [← hs]
          exact HO3.out
        case measure => simp [intOf]; omega
      | false =>
        go_wp2_with fail
        refine wp_region_held_drew (S := (fun ww => w4.grownBy ww (some p) ∧ ww.cell? ⟨N, 0, none⟩ = some (.int .i64 6) ∧ ww.cell? ⟨N, 3, none⟩ = some ((Value.slice (some ⟨b1, off1, none⟩) xs.length cap1)) ∧ ww.cell? ⟨NO, 3, none⟩ = some ((Value.slice (some ⟨p, 0, none⟩) xs.length kp)) ∧ ww.cell? ⟨b1, off1 + k, none⟩ = some (.int .i64 (x : Int)) ∧ w4.heap.size ≤ ww.heap.size)) (by kernel_rfl) ?_ (fun hHeld => ?_)
        · ((try dsimp only); exact ⟨Grow.g_drew HG1.out, c0, c3, d3, hcx, HG1.out.size⟩)
        have ow : Own 2 wr.drew p (Value.slice (some ⟨p, 0, none⟩) xs.length kp) (mixN (colL 6 left xs ys) xs k) := HO1.out
        generalize hD : wr.drew = wD at hHeld ow ⊢
        clear hcx hcw c0 c1 c2 c3 c4 d0 d1 d2 d3 d4 hD
        (refine wpAnyH_take (i := 0) (v := ?_) rfl ?_ ?_ ?_ (fun _ _ _ h => h) (Or.inl ⟨?_, ?_⟩) ?_ ?_; rotate_left 1; (focus decide +kernel); (focus decide +kernel); (focus decide +kernel); (focus rfl); (focus (intro w hSw; (try dsimp only at hSw); go_simp; (try (with_reducible rfl)); done)); (focus assumption); (try simp only [Act.put, List.setIfInBounds_toArray, List.set_cons_zero, List.set_cons_succ, List.getElem_toArray, List.getElem_cons_succ, List.getElem_cons_zero]))
        (refine wpAnyH_take (i := 1) (v := ?_) rfl ?_ ?_ ?_ (fun _ _ _ h => h) (Or.inl ⟨?_, ?_⟩) ?_ ?_; rotate_left 1; (focus decide +kernel); (focus decide +kernel); (focus decide +kernel); (focus rfl); (focus (intro w hSw; (try dsimp only at hSw); go_simp; (try (with_reducible rfl)); done)); (focus assumption); (try simp only [Act.put, List.setIfInBounds_toArray, List.set_cons_zero, List.set_cons_succ, List.getElem_toArray, List.getElem_cons_succ, List.getElem_cons_zero]))
        (refine wpAnyH_take (i := 2) (v := ?_) rfl ?_ ?_ ?_ (fun _ _ _ h => h) (Or.inl ⟨?_, ?_⟩) ?_ ?_; rotate_left 1; (focus decide +kernel); (focus decide +kernel); (focus decide +kernel); (focus rfl); (focus (intro w hSw; (try dsimp only at hSw); go_simp; (try (with_reducible rfl)); done)); (focus assumption); (try simp only [Act.put, List.setIfInBounds_toArray, List.set_cons_zero, List.set_cons_succ, List.getElem_toArray, List.getElem_cons_succ, List.getElem_cons_zero]))
        (refine wpAnyH_take (i := 3) (v := ?_) rfl ?_ ?_ ?_ (fun _ _ _ h => h) (Or.inl ⟨?_, ?_⟩) ?_ ?_; rotate_left 1; (focus decide +kernel); (focus decide +kernel); (focus decide +kernel); (focus rfl); (focus (intro w hSw; (try dsimp only at hSw); go_simp; (try (with_reducible rfl)); done)); (focus assumption); (try simp only [Act.put, List.setIfInBounds_toArray, List.set_cons_zero, List.set_cons_succ, List.getElem_toArray, List.getElem_cons_succ, List.getElem_cons_zero]))
        (refine wpAnyH_take (i := 4) (v := ?_) rfl ?_ ?_ ?_ (fun _ _ _ h => h) (Or.inl ⟨?_, ?_⟩) ?_ ?_; rotate_left 1; (focus decide +kernel); (focus decide +kernel); (focus decide +kernel); (focus rfl); (focus (intro w hSw; (try dsimp only at hSw); go_simp; (try (with_reducible rfl)); done)); (focus assumption); (try simp only [Act.put, List.setIfInBounds_toArray, List.set_cons_zero, List.set_cons_succ, List.getElem_toArray, List.getElem_cons_succ, List.getElem_cons_zero]))
        (refine wpAnyH_take (i := 5) (v := ?_) rfl ?_ ?_ ?_ (fun _ _ _ h => h) (Or.inl ⟨?_, ?_⟩) ?_ ?_; rotate_left 1; (focus decide +kernel); (focus decide +kernel); (focus decide +kernel); (focus rfl); (focus (intro w hSw; (try dsimp only at hSw); go_simp; (try (with_reducible rfl)); done)); (focus assumption); (try simp only [Act.put, List.setIfInBounds_toArray, List.set_cons_zero, List.set_cons_succ, List.getElem_toArray, List.getElem_cons_succ, List.getElem_cons_zero]))
        (refine wpAnyH_take (i := 6) (v := ?_) rfl ?_ ?_ ?_ (fun _ _ _ h => h) (Or.inl ⟨?_, ?_⟩) ?_ ?_; rotate_left 1; (focus decide +kernel); (focus decide +kernel); (focus decide +kernel); (focus rfl); (focus (intro w hSw; (try dsimp only at hSw); go_simp; (try (with_reducible rfl)); done)); (focus assumption); (try simp only [Act.put, List.setIfInBounds_toArray, List.set_cons_zero, List.set_cons_succ, List.getElem_toArray, List.getElem_cons_succ, List.getElem_cons_zero]))
        (refine wpAnyH_take (i := 7) (v := ?_) rfl ?_ ?_ ?_ (fun _ _ _ h => h) (Or.inl ⟨?_, ?_⟩) ?_ ?_; rotate_left 1; (focus decide +kernel); (focus decide +kernel); (focus decide +kernel); (focus rfl); (focus (intro w hSw; (try dsimp only at hSw); go_simp; (try (with_reducible rfl)); done)); (focus assumption); (try simp only [Act.put, List.setIfInBounds_toArray, List.set_cons_zero, List.set_cons_succ, List.getElem_toArray, List.getElem_cons_succ, List.getElem_cons_zero]))
        (refine wpAnyH_take (i := 8) (v := ?_) rfl ?_ ?_ ?_ (fun _ _ _ h => h) (Or.inl ⟨?_, ?_⟩) ?_ ?_; rotate_left 1; (focus decide +kernel); (focus decide +kernel); (focus decide +kernel); (focus rfl); (focus (intro w hSw; (try dsimp only at hSw); go_simp; (try (with_reducible rfl)); done)); (focus assumption); (try simp only [Act.put, List.setIfInBounds_toArray, List.set_cons_zero, List.set_cons_succ, List.getElem_toArray, List.getElem_cons_succ, List.getElem_cons_zero]))
        (refine wpAnyH_take (i := 9) (v := ?_) rfl ?_ ?_ ?_ (fun _ _ _ h => h) (Or.inl ⟨?_, ?_⟩) ?_ ?_; rotate_left 1; (focus decide +kernel); (focus decide +kernel); (focus decide +kernel); (focus rfl); (focus (intro w hSw; (try dsimp only at hSw); go_simp; (try (with_reducible rfl)); done)); (focus assumption); (try simp only [Act.put, List.setIfInBounds_toArray, List.set_cons_zero, List.set_cons_succ, List.getElem_toArray, List.getElem_cons_succ, List.getElem_cons_zero]))
        (refine wpAnyH_take (i := 10) (v := ?_) rfl ?_ ?_ ?_ (fun _ _ _ h => h) (Or.inl ⟨?_, ?_⟩) ?_ ?_; rotate_left 1; (focus decide +kernel); (focus decide +kernel); (focus decide +kernel); (focus rfl); (focus (intro w hSw; (try dsimp only at hSw); go_simp; (try (with_reducible rfl)); done)); (focus assumption); (try simp only [Act.put, List.setIfInBounds_toArray, List.set_cons_zero, List.set_cons_succ, List.getElem_toArray, List.getElem_cons_succ, List.getElem_cons_zero]))
        (refine wpAnyH_take (i := 11) (v := ?_) rfl ?_ ?_ ?_ (fun _ _ _ h => h) (Or.inl ⟨?_, ?_⟩) ?_ ?_; rotate_left 1; (focus decide +kernel); (focus decide +kernel); (focus decide +kernel); (focus rfl); (focus (intro w hSw; (try dsimp only at hSw); go_simp; (try (with_reducible rfl)); done)); (focus assumption); (try simp only [Act.put, List.setIfInBounds_toArray, List.set_cons_zero, List.set_cons_succ, List.getElem_toArray, List.getElem_cons_succ, List.getElem_cons_zero]))
        (refine wpAnyH_take (i := 12) (v := ?_) rfl ?_ ?_ ?_ (fun _ _ _ h => h) (Or.inl ⟨?_, ?_⟩) ?_ ?_; rotate_left 1; (focus decide +kernel); (focus decide +kernel); (focus decide +kernel); (focus rfl); (focus (intro w hSw; (try dsimp only at hSw); go_simp; (try (with_reducible rfl)); done)); (focus assumption); (try simp only [Act.put, List.setIfInBounds_toArray, List.set_cons_zero, List.set_cons_succ, List.getElem_toArray, List.getElem_cons_succ, List.getElem_cons_zero]))
        (refine wpAnyH_take (i := 13) (v := ?_) rfl ?_ ?_ ?_ (fun _ _ _ h => h) (Or.inl ⟨?_, ?_⟩) ?_ ?_; rotate_left 1; (focus decide +kernel); (focus decide +kernel); (focus decide +kernel); (focus rfl); (focus (intro w hSw; (try dsimp only at hSw); go_simp; (try (with_reducible rfl)); done)); (focus assumption); (try simp only [Act.put, List.setIfInBounds_toArray, List.set_cons_zero, List.set_cons_succ, List.getElem_toArray, List.getElem_cons_succ, List.getElem_cons_zero]))
        (refine wpAnyH_take (i := 14) (v := ?_) rfl ?_ ?_ ?_ (fun _ _ _ h => h) (Or.inl ⟨?_, ?_⟩) ?_ ?_; rotate_left 1; (focus decide +kernel); (focus decide +kernel); (focus decide +kernel); (focus rfl); (focus (intro w hSw; (try dsimp only at hSw); go_simp; (try (with_reducible rfl)); done)); (focus assumption); (try simp only [Act.put, List.setIfInBounds_toArray, List.set_cons_zero, List.set_cons_succ, List.getElem_toArray, List.getElem_cons_succ, List.getElem_cons_zero]))
        refine wpAnyH_ready (rs := [15]) ?_ (by simp) ?_
        · decide +kernel
        refine AllReadyH.cons rfl (fun K hK => ?_) AllReadyH.nil
        go_simp
        go_at_call 69
        refine (Ones.specCol6 HXS.out).mono ?_
        rintro e w' ⟨rfl, rfl⟩
        refine hK.out _ _ ?_ (fun hHeld2 => ?_)
        · (try dsimp only); exact hHeld
        clear hK K hHeld
        have hHeld := hHeld2
        clear hHeld2
        (try simp only [Act.put, List.setIfInBounds_toArray, List.set_cons_zero, List.set_cons_succ, List.getElem_toArray, List.getElem_cons_succ, List.getElem_cons_zero])
        (refine wpAnyH_take (i := 16) (v := ?_) rfl ?_ ?_ ?_ (fun _ _ _ h => h) (Or.inl ⟨?_, ?_⟩) ?_ ?_; rotate_left 1; (focus decide +kernel); (focus decide +kernel); (focus decide +kernel); (focus rfl); (focus (intro w hSw; (try dsimp only at hSw); go_simp; (try (with_reducible rfl)); done)); (focus assumption); (try simp only [Act.put, List.setIfInBounds_toArray, List.set_cons_zero, List.set_cons_succ, List.getElem_toArray, List.getElem_cons_succ, List.getElem_cons_zero]))
        refine wpAnyH_ready (rs := [17]) ?_ (by simp) ?_
        · decide +kernel
        refine AllReadyH.cons rfl (fun K hK => ?_) AllReadyH.nil
        have hox := ow.cell (i := k) (by rw [mixN_len _ _ _ HTL.out (Nat.le_of_lt hlt)]; exact hlt)
        have hof := ow.free k
        go_simp
        have ow2 := ow.set k (Ones.col x 6 left : Int)
        have g2 := Grow.g_set hHeld.1 k (.int .i64 (Ones.col x 6 left : Int))
        refine hK.out _ _ ?_ (fun hHeld5 => ?_)
        · (try dsimp only); obtain ⟨h0, h1, h2, h3, h4, h5⟩ := hHeld; exact ⟨g2, FNew.set_cell h1 hpN, FNew.set_cell h2 hpN, FNew.set_cell h3 hpO, FNew.set_cell h4 hpb, by simpa [World.setCell] using h5⟩
        clear hK K hHeld5
        obtain ⟨wz, hz⟩ : ∃ wz, wz = wD.setCell ⟨p, k, none⟩ (.int .i64 (Ones.col x 6 left : Int)) := ⟨_, rfl⟩
        rw [← hz] at ow2 g2
        simp only [← hz]
        clear hz hox hof hHeld
        (try simp only [Act.put, List.setIfInBounds_toArray, List.set_cons_zero, List.set_cons_succ, List.getElem_toArray, List.getElem_cons_succ, List.getElem_cons_zero])
        refine wpAnyH_done (by kernel_rfl) ?_ _
        have HO3 := hid ow2
        have HG3 := hid g2
        clear ow ow2 g2
        go_wp2
        go_roundw
        case rel =>
          refine ⟨k + 1, by omega, by go_num, ?_, HG3.out⟩
          have hs := mixN_set (colL 6 left xs ys) xs k HTL.out hlt
          rw [HTX.out] at hs
          rw [← hs]
          exact HO3.out
        case measure => simp [intOf]; omega
    · have hkn : k = xs.length := by omega
      subst hkn
      rw [mixN_all _ _ HTL.out] at hown
      have kTr := Grow.g_heap hg HKT.out (Nat.ne_of_lt HAp.out.2.1)
      have HB := hid (Grow.g_below HSX.out.1 hg HAp.out.2.2.2.2)
      have HO := hid hown
      have HQ2 := hid (besideO HOQ.out hg (.inr (Nat.ne_of_gt HAp.out.2.2.1)))
      clear hown hg hpN hpO
      have y0 : wr.cell? ⟨NT, 0, none⟩ = some (.int .i64 0) := Go.Joins.cell_of_block kTr 0
      have y1 : wr.cell? ⟨NT, 1, none⟩ = some (.int .i64 0) := Go.Joins.cell_of_block kTr 1
      have y2 : wr.cell? ⟨NT, 2, none⟩ = some (.int .i64 0) := Go.Joins.cell_of_block kTr 2
      have y3 : wr.cell? ⟨NT, 3, none⟩ = some (.slice none 0 0) := Go.Joins.cell_of_block kTr 3
      have y4 : wr.cell? ⟨NT, 4, none⟩ = some (.slice none 0 0) := Go.Joins.cell_of_block kTr 4
      have g0 : wr.frozen? ⟨NT, 0, none⟩ = false := Go.Joins.unfrozen_of_block kTr 0
      have g1 : wr.frozen? ⟨NT, 1, none⟩ = false := Go.Joins.unfrozen_of_block kTr 1
      have g2 : wr.frozen? ⟨NT, 2, none⟩ = false := Go.Joins.unfrozen_of_block kTr 2
      have g3 : wr.frozen? ⟨NT, 3, none⟩ = false := Go.Joins.unfrozen_of_block kTr 3
      have g4 : wr.frozen? ⟨NT, 4, none⟩ = false := Go.Joins.unfrozen_of_block kTr 4
      have HKx := hid kTr
      clear kTr
      go_wp2
      have q0 := (Go.Joins.block_setCell (i := 4) (Go.Joins.block_setCell (i := 3) (Go.Joins.block_setCell (i := 2) (Go.Joins.block_setCell (i := 1) (Go.Joins.block_setCell (i := 0) HKx.out (.int .i64 6)) (.int .i64 s)) (.int .i64 r)) ((Value.slice (some ⟨p, 0, none⟩) xs.length kp))) ((Value.slice (some ⟨q, 0, none⟩) ys.length kq)))
      have B5 := (((((HB.out.setCell (p := ⟨NT, 0, none⟩) HNT.out (.int .i64 6)).setCell (p := ⟨NT, 1, none⟩) HNT.out (.int .i64 s)).setCell (p := ⟨NT, 2, none⟩) HNT.out (.int .i64 r)).setCell (p := ⟨NT, 3, none⟩) HNT.out ((Value.slice (some ⟨p, 0, none⟩) xs.length kp))).setCell (p := ⟨NT, 4, none⟩) HNT.out ((Value.slice (some ⟨q, 0, none⟩) ys.length kq)))
      have O0 := (own_set (own_set (own_set (own_set (own_set HO.out ⟨NT, 0, none⟩ (.int .i64 6) (Nat.ne_of_lt HAp.out.2.1)) ⟨NT, 1, none⟩ (.int .i64 s) (Nat.ne_of_lt HAp.out.2.1)) ⟨NT, 2, none⟩ (.int .i64 r) (Nat.ne_of_lt HAp.out.2.1)) ⟨NT, 3, none⟩ ((Value.slice (some ⟨p, 0, none⟩) xs.length kp)) (Nat.ne_of_lt HAp.out.2.1)) ⟨NT, 4, none⟩ ((Value.slice (some ⟨q, 0, none⟩) ys.length kq)) (Nat.ne_of_lt HAp.out.2.1))
      have O1 := (ownB_set (ownB_set (ownB_set (ownB_set (ownB_set HQ2.out ⟨NT, 0, none⟩ (.int .i64 6) (Nat.ne_of_lt (Nat.lt_trans HAp.out.2.1 HAp.out.2.2.1))) ⟨NT, 1, none⟩ (.int .i64 s) (Nat.ne_of_lt (Nat.lt_trans HAp.out.2.1 HAp.out.2.2.1))) ⟨NT, 2, none⟩ (.int .i64 r) (Nat.ne_of_lt (Nat.lt_trans HAp.out.2.1 HAp.out.2.2.1))) ⟨NT, 3, none⟩ ((Value.slice (some ⟨p, 0, none⟩) xs.length kp)) (Nat.ne_of_lt (Nat.lt_trans HAp.out.2.1 HAp.out.2.2.1))) ⟨NT, 4, none⟩ ((Value.slice (some ⟨q, 0, none⟩) ys.length kq)) (Nat.ne_of_lt (Nat.lt_trans HAp.out.2.1 HAp.out.2.2.1)))
      obtain ⟨W5, hW⟩ : ∃ W5, W5 = (((((wr.setCell ⟨NT, 0, none⟩ (.int .i64 6)).setCell ⟨NT, 1, none⟩ (.int .i64 s)).setCell ⟨NT, 2, none⟩ (.int .i64 r)).setCell ⟨NT, 3, none⟩ ((Value.slice (some ⟨p, 0, none⟩) xs.length kp))).setCell ⟨NT, 4, none⟩ ((Value.slice (some ⟨q, 0, none⟩) ys.length kq))) := ⟨_, rfl⟩
      rw [← hW] at q0 B5 O0 O1
      have z0 : W5.cell? ⟨NT, 0, none⟩ = some (.int .i64 6) := Go.Joins.cell_of_block q0 0
      have z1 : W5.cell? ⟨NT, 1, none⟩ = some (.int .i64 s) := Go.Joins.cell_of_block q0 1
      have z2 : W5.cell? ⟨NT, 2, none⟩ = some (.int .i64 r) := Go.Joins.cell_of_block q0 2
      have z3 : W5.cell? ⟨NT, 3, none⟩ = some ((Value.slice (some ⟨p, 0, none⟩) xs.length kp)) := Go.Joins.cell_of_block q0 3
      have z4 : W5.cell? ⟨NT, 4, none⟩ = some ((Value.slice (some ⟨q, 0, none⟩) ys.length kq)) := Go.Joins.cell_of_block q0 4
      simp only [← hW]
      clear hW q0
      simp [bodyPost, results, Try.results56, go_sem, z0, z1, z2, z3, z4]
      exact ⟨p, kp, q, kq, by simp, O0, O1, HAp.out.2.2.2.2, HAp.out.2.2.1, HKP.out.1, HKP.out.2, B5⟩


end Go.Proofs.Ytnpjhhkhdeomcaa.Cld
