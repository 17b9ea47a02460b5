/- EnergyOf of both sides. -/
import Derived.Test.YtnpjhhkhdeomcaaDoorPln
import Derived.Test.YtnpjhhkhdeomcaaDoorBes
import Derived.Test.YtnpjhhkhdeomcaaDoorRnd
import Derived.Test.YtnpjhhkhdeomcaaDoorGrow
import Derived.Test.YtnpjhhkhdeomcaaDoorFldKit
import Derived.Laws.EntriesVeiled
namespace Go.Proofs.YtnpjhhkhdeomcaaDoor.En
open Go.RowKit Go.Proofs.YtnpjhhkhdeomcaaDoor.Rd Go.Proofs.YtnpjhhkhdeomcaaDoor.Help Go.Proofs.YtnpjhhkhdeomcaaDoor.Ring Go.Proofs.YtnpjhhkhdeomcaaDoor.Small Go.Proofs.YtnpjhhkhdeomcaaDoor.FVal Go.Proofs.YtnpjhhkhdeomcaaDoor.Keep Go.Proofs.YtnpjhhkhdeomcaaDoor.Rule Go.Proofs.YtnpjhhkhdeomcaaDoor.Bes
set_option linter.unusedVariables false
set_option linter.unusedSimpArgs false

/-- A spin. -/
def sp (zs : List Int) (t : Nat) : Int := 2 * zs.getD t 0 - 1
def ix (R C : Nat) (x y : Int) : Nat := (x % (R : Int)).toNat * C + (y % (C : Int)).toNat
/-- The spins to the right and below, together. -/
def nb (zs : List Int) (R C k l : Nat) : Int := sp zs (ix R C k ((l : Int) + 1)) + sp zs (ix R C ((k : Int) + 1) l)
/-- The sum over the first t cells. -/
def en (zs : List Int) (R C : Nat) : Nat → Int
  | 0 => 0
  | t + 1 => en zs R C t + sp zs t * nb zs R C (t / C) (t % C)
theorem sp_bd {zs : List Int} (h : allB zs 2 = true) (t : Nat) : -1 ≤ sp zs t ∧ sp zs t ≤ 1 := by
  have h1 : 0 ≤ zs.getD t 0 ∧ zs.getD t 0 ≤ 1 := by
    by_cases ht : t < zs.length
    · unfold allB at h
      rw [List.all_eq_true] at h
      have := h (zs.getD t 0) (by simp [List.getD, ht])
      simpa [okB] using this
    · have : zs.getD t 0 = 0 := by simp [List.getD, ht]
      omega
  unfold sp; omega
theorem mul_bd {a b : Int} (ha : -1 ≤ a ∧ a ≤ 1) (hb : -2 ≤ b ∧ b ≤ 2) : -2 ≤ a * b ∧ a * b ≤ 2 := by
  rcases (show a = -1 ∨ a = 0 ∨ a = 1 by omega) with rfl | rfl | rfl <;> omega
theorem nb_bd {zs : List Int} (h : allB zs 2 = true) (R C k l : Nat) : -2 ≤ nb zs R C k l ∧ nb zs R C k l ≤ 2 := by
  have h1 := sp_bd h (ix R C k ((l : Int) + 1))
  have h2 := sp_bd h (ix R C ((k : Int) + 1) l)
  unfold nb; omega
theorem en_bd {zs : List Int} (h : allB zs 2 = true) (R C : Nat) : ∀ t : Nat, -(2 * (t : Int)) ≤ en zs R C t ∧ en zs R C t ≤ 2 * (t : Int)
  | 0 => by simp [en]
  | t + 1 => by
    have h1 := en_bd h R C t
    have h2 := mul_bd (sp_bd h t) (nb_bd h R C (t / C) (t % C))
    simp only [en]
    omega
theorem ix_at {R C k l : Nat} (hk : k < R) (hl : l < C) : ix R C k l = k * C + l := by
  unfold ix
  rw [Int.emod_eq_of_lt (by omega) (by omega), Int.emod_eq_of_lt (by omega) (by omega)]
  simp
theorem ix_lt {R C : Nat} (x y : Int) (hR : 1 ≤ R) (hC : 1 ≤ C) : ix R C x y < R * C := by
  unfold ix
  have h1 := Int.emod_nonneg x (show (R : Int) ≠ 0 by omega)
  have h2 := Int.emod_lt_of_pos x (show (0 : Int) < R by omega)
  have h3 := Int.emod_nonneg y (show (C : Int) ≠ 0 by omega)
  have h4 := Int.emod_lt_of_pos y (show (0 : Int) < C by omega)
  exact Grow.pos_bd (by omega) (by omega)
theorem plain_parts {R C : Nat} {zs : List Int} (h : (fieldB R C zs && allB zs 2) = true) : (1 ≤ R ∧ R ≤ 24) ∧ (1 ≤ C ∧ C ≤ 24) ∧ zs.length = R * C ∧ R * C ≤ 576 ∧ allB zs 2 = true := by
  simp only [Bool.and_eq_true] at h
  obtain ⟨h1, h2, h3, h4⟩ := Grow.field_nat h.1
  exact ⟨h1, h2, h3, h4, h.2⟩

set_option maxHeartbeats 4000000 in
theorem l06Spin {w : World} {N R C b : Nat} {v : Value} {zs : List Int} {x y : Int} (c0 : w.cell? ⟨N, 0, none⟩ = some (.int .i64 R)) (c1 : w.cell? ⟨N, 1, none⟩ = some (.int .i64 C)) (c2 : w.cell? ⟨N, 2, none⟩ = some v) (h : Rd w b v zs) (hR : 1 ≤ R ∧ R ≤ 24) (hC : 1 ≤ C ∧ C ≤ 24) (hz : zs.length = R * C) (hp : allB zs 2 = true) (hx : -1000000 ≤ x ∧ x ≤ 1000000) (hy : -1000000 ≤ y ∧ y ≤ 1000000) :
    Calls Tryd.prog 25 #[.pointer (some ⟨N, 0, none⟩), .int .i64 x, .int .i64 y] w fun e w' => e = .returned (.int .i64 (sp zs (ix R C x y))) ∧ Below w.heap.size w w' := by
  have hTl := ix_lt x y hR.1 hC.1
  rw [← hz] at hTl
  obtain ⟨ao, cap, rfl, hc, hm, h4⟩ := h
  obtain ⟨off, rfl, hb, hcell⟩ := h4 (by omega)
  obtain ⟨T, hT⟩ : ∃ T, T = ix R C x y := ⟨_, rfl⟩
  rw [← hT] at hTl ⊢
  have HT : Hid (((x % (R : Int)).toNat * C + (y % (C : Int)).toNat : Nat) = T) := hT.symm
  obtain ⟨z, hzz⟩ : ∃ z, z = zs.getD T 0 := ⟨_, rfl⟩
  have hcz : w.cell? ⟨b, off + T, none⟩ = some (.int .i64 z) := by rw [hzz]; exact hcell T hTl
  have hsb := sp_bd hp T
  have hse : sp zs T = 2 * z - 1 := by unfold sp; rw [← hzz]
  rw [hse] at hsb ⊢
  have e1 : IntKind.i64.wrap (2 * z) = 2 * z := by rw [IntKind.wrap_i64]; omega
  have e2 : IntKind.i64.wrap (2 * z - 1) = 2 * z - 1 := by rw [IntKind.wrap_i64]; omega
  have hTi : (T : Int) < (zs.length : Int) := Int.ofNat_lt.2 hTl
  have HR := hid hR
  have HC := hid hC
  have HXY := hid (And.intro hx hy)
  have st : Below w.heap.size w w ∧ w.cell? ⟨N, 2, none⟩ = some (Value.slice (some ⟨b, off, none⟩) zs.length cap) ∧ w.cell? ⟨N, 0, none⟩ = some (.int .i64 R) ∧ w.cell? ⟨N, 1, none⟩ = some (.int .i64 C) ∧ w.heap.size ≤ w.heap.size := ⟨Below.refl _ _, c2, c0, c1, Nat.le_refl _⟩
  have hsz : zs.length ≤ 9223372036854775807 := by unfold maxLen at hm; omega
  clear hc hm h4 hcell hT hzz hse hz hp hx hy hR hC c0 c1 c2 hb hTl
  go_enter Tryd.func25, Tryd.ntmps25
  go_wp2_with fail
  refine wp_region_held_drew (S := (fun ww => Below w.heap.size w ww ∧ ww.cell? ⟨N, 2, none⟩ = some (Value.slice (some ⟨b, off, none⟩) zs.length cap) ∧ ww.cell? ⟨b, off + T, none⟩ = some (.int .i64 z) ∧ ww.cell? ⟨N, 0, none⟩ = some (.int .i64 R) ∧ ww.cell? ⟨N, 1, none⟩ = some (.int .i64 C) ∧ w.heap.size ≤ ww.heap.size)) (by kernel_rfl) ?_ (fun hHeld => ?_)
  · ((try dsimp only); exact ⟨st.1.drew, st.2.1, hcz, st.2.2.1, st.2.2.2.1, st.2.2.2.2⟩)
  generalize hD : w.drew = wD at hHeld ⊢
  clear hD st hcz
  (refine wpAnyH_take (i := 0) (v := ?_) rfl ?_ ?_ ?_ (fun _ _ _ h => h) (Or.inl ⟨?_, ?_⟩) ?_ ?_; rotate_left 1; (focus decide +kernel); (focus decide +kernel); (focus decide +kernel); (focus rfl); (focus (intro w hSw; (try dsimp only at hSw); go_simp; (try (with_reducible rfl)); done)); (focus assumption); (try simp only [Act.put, List.setIfInBounds_toArray, List.set_cons_zero, List.set_cons_succ, List.getElem_toArray, List.getElem_cons_succ, List.getElem_cons_zero]))
  (refine wpAnyH_take (i := 1) (v := ?_) rfl ?_ ?_ ?_ (fun _ _ _ h => h) (Or.inl ⟨?_, ?_⟩) ?_ ?_; rotate_left 1; (focus decide +kernel); (focus decide +kernel); (focus decide +kernel); (focus rfl); (focus (intro w hSw; (try dsimp only at hSw); go_simp; (try (with_reducible rfl)); done)); (focus assumption); (try simp only [Act.put, List.setIfInBounds_toArray, List.set_cons_zero, List.set_cons_succ, List.getElem_toArray, List.getElem_cons_succ, List.getElem_cons_zero]))
  (refine wpAnyH_take (i := 2) (v := ?_) rfl ?_ ?_ ?_ (fun _ _ _ h => h) (Or.inl ⟨?_, ?_⟩) ?_ ?_; rotate_left 1; (focus decide +kernel); (focus decide +kernel); (focus decide +kernel); (focus rfl); (focus (intro w hSw; (try dsimp only at hSw); go_simp; (try (with_reducible rfl)); done)); (focus assumption); (try simp only [Act.put, List.setIfInBounds_toArray, List.set_cons_zero, List.set_cons_succ, List.getElem_toArray, List.getElem_cons_succ, List.getElem_cons_zero]))
  (refine wpAnyH_take (i := 3) (v := ?_) rfl ?_ ?_ ?_ (fun _ _ _ h => h) (Or.inl ⟨?_, ?_⟩) ?_ ?_; rotate_left 1; (focus decide +kernel); (focus decide +kernel); (focus decide +kernel); (focus rfl); (focus (intro w hSw; (try dsimp only at hSw); go_simp; (try (with_reducible rfl)); done)); (focus assumption); (try simp only [Act.put, List.setIfInBounds_toArray, List.set_cons_zero, List.set_cons_succ, List.getElem_toArray, List.getElem_cons_succ, List.getElem_cons_zero]))
  (refine wpAnyH_take (i := 4) (v := ?_) rfl ?_ ?_ ?_ (fun _ _ _ h => h) (Or.inl ⟨?_, ?_⟩) ?_ ?_; rotate_left 1; (focus decide +kernel); (focus decide +kernel); (focus decide +kernel); (focus rfl); (focus (intro w hSw; (try dsimp only at hSw); go_simp; (try (with_reducible rfl)); done)); (focus assumption); (try simp only [Act.put, List.setIfInBounds_toArray, List.set_cons_zero, List.set_cons_succ, List.getElem_toArray, List.getElem_cons_succ, List.getElem_cons_zero]))
  (refine wpAnyH_take (i := 5) (v := ?_) rfl ?_ ?_ ?_ (fun _ _ _ h => h) (Or.inl ⟨?_, ?_⟩) ?_ ?_; rotate_left 1; (focus decide +kernel); (focus decide +kernel); (focus decide +kernel); (focus rfl); (focus (intro w hSw; (try dsimp only at hSw); go_simp; (try (with_reducible rfl)); done)); (focus assumption); (try simp only [Act.put, List.setIfInBounds_toArray, List.set_cons_zero, List.set_cons_succ, List.getElem_toArray, List.getElem_cons_succ, List.getElem_cons_zero]))
  (refine wpAnyH_take (i := 6) (v := ?_) rfl ?_ ?_ ?_ (fun _ _ _ h => h) (Or.inl ⟨?_, ?_⟩) ?_ ?_; rotate_left 1; (focus decide +kernel); (focus decide +kernel); (focus decide +kernel); (focus rfl); (focus (intro w hSw; (try dsimp only at hSw); go_simp; (try (with_reducible rfl)); done)); (focus assumption); (try simp only [Act.put, List.setIfInBounds_toArray, List.set_cons_zero, List.set_cons_succ, List.getElem_toArray, List.getElem_cons_succ, List.getElem_cons_zero]))
  refine wpAnyH_ready (rs := [7]) ?_ (by simp) ?_
  · decide +kernel
  refine AllReadyH.cons rfl (fun K hK => ?_) AllReadyH.nil
  go_simp
  go_at_call 56
  refine (Rnd.l04Round hHeld.2.2.2.1 hHeld.2.2.2.2.1 HR.out HC.out HXY.out.1 HXY.out.2).mono ?_
  rw [HT.out]
  rintro e w' ⟨rfl, hm⟩
  have bel := Can.below_m hm
  clear hm
  refine hK.out _ _ ?_ (fun hHeld2 => ?_)
  · (try dsimp only); obtain ⟨t0, t1, t2, t3, t4, t5⟩ := hHeld; exact ⟨t0.trans (bel.mono t5), cell_keep bel t1, cell_keep bel t2, cell_keep bel t3, cell_keep bel t4, Nat.le_trans t5 bel.size⟩
  clear hK K hHeld bel
  have hHeld := hHeld2
  clear hHeld2
  (try simp only [Act.put, List.setIfInBounds_toArray, List.set_cons_zero, List.set_cons_succ, List.getElem_toArray, List.getElem_cons_succ, List.getElem_cons_zero])
  (refine wpAnyH_take (i := 8) (v := ?_) rfl ?_ ?_ ?_ (fun _ _ _ h => h) (Or.inl ⟨?_, ?_⟩) ?_ ?_; rotate_left 1; (focus decide +kernel); (focus decide +kernel); (focus decide +kernel); (focus rfl); (focus (intro w hSw; (try dsimp only at hSw); go_simp; (try (with_reducible rfl)); done)); (focus assumption); (try simp only [Act.put, List.setIfInBounds_toArray, List.set_cons_zero, List.set_cons_succ, List.getElem_toArray, List.getElem_cons_succ, List.getElem_cons_zero]))
  (refine wpAnyH_take (i := 9) (v := ?_) rfl ?_ ?_ ?_ (fun _ _ _ h => h) (Or.inl ⟨?_, ?_⟩) ?_ ?_; rotate_left 1; (focus decide +kernel); (focus decide +kernel); (focus decide +kernel); (focus rfl); (focus (intro w hSw; (try dsimp only at hSw); go_simp; (try (with_reducible rfl)); done)); (focus assumption); (try simp only [Act.put, List.setIfInBounds_toArray, List.set_cons_zero, List.set_cons_succ, List.getElem_toArray, List.getElem_cons_succ, List.getElem_cons_zero]))
  (refine wpAnyH_take (i := 10) (v := ?_) rfl ?_ ?_ ?_ (fun _ _ _ h => h) (Or.inl ⟨?_, ?_⟩) ?_ ?_; rotate_left 1; (focus decide +kernel); (focus decide +kernel); (focus decide +kernel); (focus rfl); (focus (intro w hSw; (try dsimp only at hSw); go_simp; (try (with_reducible rfl)); done)); (focus assumption); (try simp only [Act.put, List.setIfInBounds_toArray, List.set_cons_zero, List.set_cons_succ, List.getElem_toArray, List.getElem_cons_succ, List.getElem_cons_zero]))
  (refine wpAnyH_take (i := 11) (v := ?_) rfl ?_ ?_ ?_ (fun _ _ _ h => h) (Or.inl ⟨?_, ?_⟩) ?_ ?_; rotate_left 1; (focus decide +kernel); (focus decide +kernel); (focus decide +kernel); (focus rfl); (focus (intro w hSw; (try dsimp only at hSw); go_simp; (try (with_reducible rfl)); done)); (focus assumption); (try simp only [Act.put, List.setIfInBounds_toArray, List.set_cons_zero, List.set_cons_succ, List.getElem_toArray, List.getElem_cons_succ, List.getElem_cons_zero]))
  (refine wpAnyH_take (i := 12) (v := ?_) rfl ?_ ?_ ?_ (fun _ _ _ h => h) (Or.inl ⟨?_, ?_⟩) ?_ ?_; rotate_left 1; (focus decide +kernel); (focus decide +kernel); (focus decide +kernel); (focus rfl); (focus (intro w hSw; (try dsimp only at hSw); go_simp; (try (with_reducible rfl)); done)); (focus assumption); (try simp only [Act.put, List.setIfInBounds_toArray, List.set_cons_zero, List.set_cons_succ, List.getElem_toArray, List.getElem_cons_succ, List.getElem_cons_zero]))
  refine wpAnyH_done (by kernel_rfl) ?_ _
  have HB := hid hHeld.1
  clear hHeld
  go_wp2
  go_ret
  exact ⟨rfl, HB.out⟩

theorem specNo {w : World} {s r : Int} {b : Nat} {v : Value} {zs : List Int} (h : Rd w b v zs) (hq : (fieldB s r zs && allB zs 2) = false) :
    Calls Tryd.prog 8 #[ruleV s r v] w fun e w' => e = .returned (.tuple #[.int .i64 0, .bool false]) ∧ Below w.heap.size w w' := by
  have HH := hid h
  have HQ := hid hq
  obtain ⟨ao, cap, rfl, _, _, _⟩ := h
  clear hq
  go_enter Tryd.func8, Tryd.ntmps8
  go_wp2_with fail
  obtain ⟨w1, hW⟩ : ∃ w1, w1 = w.alloc (Obj.cells #[.int .i64 s, .int .i64 r, Value.slice ao zs.length cap] 28) := ⟨_, rfl⟩
  obtain ⟨N, hN⟩ : ∃ N, N = w.heap.size := ⟨_, rfl⟩
  have st : Below w.heap.size w w1 ∧ w1.cell? ⟨N, 0, none⟩ = some (.int .i64 s) ∧ w1.cell? ⟨N, 1, none⟩ = some (.int .i64 r) ∧ w1.cell? ⟨N, 2, none⟩ = some (Value.slice ao zs.length cap) ∧ Rd w1 b (Value.slice ao zs.length cap) zs ∧ w.heap.size ≤ w1.heap.size := by
    rw [hW, hN]
    exact ⟨below1 _ _, by simp, by simp, by simp, HH.out.keep (below1 _ _) (Nat.le_refl _), by simp⟩
  simp only [← hW, ← hN]
  clear hW hN
  go_at_call 24
  refine (Can.l04Plain (rd3_1_0 st) st.2.1 st.2.2.1 st.2.2.2.1).mono ?_
  rw [HQ.out]
  rintro e w2 ⟨rfl, hm⟩
  have bel := Can.below_m hm
  clear hm
  replace st := next3_1 bel st
  clear bel
  have HB := hid st.1
  clear st
  go_wp2_with fail
  go_ret2
  exact ⟨rfl, HB.out⟩

theorem implNo {w : World} {s r : Int} {b : Nat} {v : Value} {zs : List Int} (h : Rd w b v zs) (hq : (fieldB s r zs && allB zs 2) = false) :
    Calls Tryd.prog 10 #[ruleV s r v] w fun e w' => e = .returned (.tuple #[.int .i64 0, .bool false]) ∧ Below w.heap.size w w' := by
  have HH := hid h
  have HQ := hid hq
  obtain ⟨ao, cap, rfl, _, _, _⟩ := h
  clear hq
  go_enter Tryd.func10, Tryd.ntmps10
  go_wp2_with fail
  obtain ⟨w1, hW⟩ : ∃ w1, w1 = w.alloc (Obj.cells #[.int .i64 s, .int .i64 r, Value.slice ao zs.length cap] 28) := ⟨_, rfl⟩
  obtain ⟨N, hN⟩ : ∃ N, N = w.heap.size := ⟨_, rfl⟩
  have st : Below w.heap.size w w1 ∧ w1.cell? ⟨N, 0, none⟩ = some (.int .i64 s) ∧ w1.cell? ⟨N, 1, none⟩ = some (.int .i64 r) ∧ w1.cell? ⟨N, 2, none⟩ = some (Value.slice ao zs.length cap) ∧ Rd w1 b (Value.slice ao zs.length cap) zs ∧ w.heap.size ≤ w1.heap.size := by
    rw [hW, hN]
    exact ⟨below1 _ _, by simp, by simp, by simp, HH.out.keep (below1 _ _) (Nat.le_refl _), by simp⟩
  simp only [← hW, ← hN]
  clear hW hN
  go_at_call 27
  refine (Can.isPlain (rd3_1_0 st)).mono ?_
  rw [HQ.out]
  rintro e w2 ⟨rfl, bel⟩
  replace st := next3_1 bel st
  clear bel
  have HB := hid st.1
  clear st
  go_wp2_with fail
  go_ret2
  exact ⟨rfl, HB.out⟩

set_option maxHeartbeats 8000000 in
theorem specOk {w : World} {R C : Nat} {b : Nat} {v : Value} {zs : List Int} (h : Rd w b v zs) (hq : (fieldB R C zs && allB zs 2) = true) :
    Calls Tryd.prog 8 #[ruleV R C v] w fun e w' => e = .returned (.tuple #[.int .i64 (-(en zs R C (R * C))), .bool true]) ∧ Below w.heap.size w w' := by
  have HH := hid h
  have HQ := hid hq
  obtain ⟨ao, cap, rfl, _, _, _⟩ := h
  obtain ⟨hR, hC, hz, hz6, hp⟩ := plain_parts hq
  have HR := hid hR
  have HC := hid hC
  have HZ := hid hz
  have HP := hid hp
  have hz576 : (zs.length : Int) ≤ 576 := by omega
  have HZ6 := hid (show zs.length ≤ 576 by omega)
  clear hq hz hz6 hp
  go_enter Tryd.func8, Tryd.ntmps8
  go_wp2_with fail
  obtain ⟨w1, hW⟩ : ∃ w1, w1 = w.alloc (Obj.cells #[.int .i64 R, .int .i64 C, Value.slice ao zs.length cap] 28) := ⟨_, rfl⟩
  obtain ⟨N, hN⟩ : ∃ N, N = w.heap.size := ⟨_, rfl⟩
  have st : Below w.heap.size w w1 ∧ w1.cell? ⟨N, 0, none⟩ = some (.int .i64 R) ∧ w1.cell? ⟨N, 1, none⟩ = some (.int .i64 C) ∧ w1.cell? ⟨N, 2, none⟩ = some (Value.slice ao zs.length cap) ∧ Rd w1 b (Value.slice ao zs.length cap) zs ∧ w.heap.size ≤ w1.heap.size := by
    rw [hW, hN]
    exact ⟨below1 _ _, by simp, by simp, by simp, HH.out.keep (below1 _ _) (Nat.le_refl _), by simp⟩
  simp only [← hW, ← hN]
  clear hW hN
  go_at_call 24
  refine (Can.l04Plain (rd3_1_0 st) st.2.1 st.2.2.1 st.2.2.2.1).mono ?_
  rw [HQ.out]
  rintro e w2 ⟨rfl, hm⟩
  have bel := Can.below_m hm
  clear hm
  replace st := next3_1 bel st
  clear bel
  have HSX := hid st
  clear st
  go_wp2
  go_loopw [4, 5, 6] (fun a i j0 wr => ∃ k : Nat, k ≤ R ∧ i = .int .i64 k ∧ a = .int .i64 (-(en zs R C (k * C))) ∧ Below w.heap.size w wr ∧ wr.cell? ⟨N, 0, none⟩ = some (.int .i64 R) ∧ wr.cell? ⟨N, 1, none⟩ = some (.int .i64 C) ∧ wr.cell? ⟨N, 2, none⟩ = some (Value.slice ao zs.length cap) ∧ Rd wr b (Value.slice ao zs.length cap) zs ∧ w.heap.size ≤ wr.heap.size) (fun _ i _ _ => R - (intOf i).toNat)
  case atStart => exact ⟨0, Nat.zero_le _, rfl, by simp [en], HSX.out⟩
  case round =>
    obtain ⟨k, hk, rfl, rfl, st⟩ := hrel
    have c0 := st.2.1
    have c1 := st.2.2.1
    by_cases hlt : k < R
    · have HST := hid st
      have hki : (k : Int) < (R : Int) := by omega
      clear st
      go_wp2
      clear c0 c1
      go_loopw [4, 6] (fun a j wx => ∃ l : Nat, l ≤ C ∧ j = .int .i64 l ∧ a = .int .i64 (-(en zs R C (k * C + l))) ∧ Below w.heap.size w wx ∧ wx.cell? ⟨N, 0, none⟩ = some (.int .i64 R) ∧ wx.cell? ⟨N, 1, none⟩ = some (.int .i64 C) ∧ wx.cell? ⟨N, 2, none⟩ = some (Value.slice ao zs.length cap) ∧ Rd wx b (Value.slice ao zs.length cap) zs ∧ w.heap.size ≤ wx.heap.size) (fun _ j _ => C - (intOf j).toNat)
      case atStart => exact ⟨0, Nat.zero_le _, rfl, rfl, HST.out⟩
      case round =>
        obtain ⟨l, hl, rfl, rfl, st⟩ := hrel
        have c0 := st.2.1
        have c1 := st.2.2.1
        by_cases hll : l < C
        · obtain ⟨T, hT⟩ : ∃ T, T = k * C + l := ⟨_, rfl⟩
          have hTn : T < zs.length := by rw [hT, HZ.out]; exact Grow.pos_bd hlt hll
          obtain ⟨a, ha⟩ : ∃ a, a = en zs R C T := ⟨_, rfl⟩
          have hab := en_bd HP.out R C T
          rw [← ha] at hab
          rw [← hT, ← ha]
          have hli : (l : Int) < (C : Int) := by omega
          obtain ⟨p, hpp⟩ : ∃ p, p = sp zs T := ⟨_, rfl⟩
          obtain ⟨q1, hq1⟩ : ∃ q1, q1 = sp zs (ix R C k ((l : Int) + 1)) := ⟨_, rfl⟩
          obtain ⟨q2, hq2⟩ : ∃ q2, q2 = sp zs (ix R C ((k : Int) + 1) l) := ⟨_, rfl⟩
          have hb0 := sp_bd HP.out T
          have hb1 := sp_bd HP.out (ix R C k ((l : Int) + 1))
          have hb2 := sp_bd HP.out (ix R C ((k : Int) + 1) l)
          rw [← hpp] at hb0
          rw [← hq1] at hb1
          rw [← hq2] at hb2
          obtain ⟨P, hP⟩ : ∃ P, p * (q1 + q2) = P := ⟨_, rfl⟩
          have hPb := mul_bd hb0 (show -2 ≤ q1 + q2 ∧ q1 + q2 ≤ 2 by omega)
          rw [hP] at hPb
          have HEN : Hid (en zs R C (T + 1) = a + P) := by
            simp only [Hid, en]
            rw [← ha, ← hpp, hT, (Grow.pos_div hll).1, (Grow.pos_div hll).2]
            unfold nb
            rw [← hq1, ← hq2, hP]
          have HP0 : Hid (sp zs (ix R C k l) = p) := by simp only [Hid]; rw [ix_at hlt hll, hpp, hT]
          have HQ1 := hid hq1
          have HQ2 := hid hq2
          have HT := hid hT
          clear ha hpp hq1 hq2 hT
          go_wp2_with fail
          go_at_call 25
          refine (l06Spin st.2.1 st.2.2.1 st.2.2.2.1 (rd3_1_0 st) HR.out HC.out HZ.out HP.out (x := (k : Int)) (y := (l : Int)) (by omega) (by omega)).mono ?_
          rw [HP0.out]
          rintro e wa ⟨rfl, bel⟩
          replace st := next3_1 bel st
          clear bel
          go_wp2_with fail
          go_at_call 25
          refine (l06Spin st.2.1 st.2.2.1 st.2.2.2.1 (rd3_1_0 st) HR.out HC.out HZ.out HP.out (x := (k : Int)) (y := (l : Int) + 1) (by omega) (by omega)).mono ?_
          rw [← HQ1.out]
          rintro e wb ⟨rfl, bel⟩
          replace st := next3_1 bel st
          clear bel
          go_wp2_with fail
          go_at_call 25
          refine (l06Spin st.2.1 st.2.2.1 st.2.2.2.1 (rd3_1_0 st) HR.out HC.out HZ.out HP.out (x := (k : Int) + 1) (y := (l : Int)) (by omega) (by omega)).mono ?_
          rw [← HQ2.out]
          rintro e wc ⟨rfl, bel⟩
          replace st := next3_1 bel st
          have HST2 := hid st
          clear bel st c0 c1
          go_wp2
          go_roundw
          case rel => exact ⟨l + 1, by omega, by go_num, by rw [show k * C + (l + 1) = T + 1 by have := HT.out; omega, HEN.out]; first | (congr 1; omega) | go_num, HST2.out⟩
          case measure => simp [intOf]; omega
        · have hlC : l = C := by omega
          subst hlC
          have HST2 := hid st
          clear st
          go_wp2
          go_roundw
          case rel => exact ⟨k + 1, by omega, by go_num, by rw [Nat.succ_mul], HST2.out⟩
          case measure => simp [intOf]; omega
    · have hkR : k = R := by omega
      subst hkR
      have HB := hid st.1
      clear st
      go_wp2
      go_ret2
      exact ⟨rfl, HB.out⟩

theorem fourth1 {w : World} (hg : GW w) : Calls Tryd.prog 60 #[.int .i64 1] w fun e w' => e = .returned (shapeV 0 1) ∧ Below w.heap.size w w' := by
  obtain ⟨ty, fr, hk⟩ := hg
  have a0 : w.cell? ⟨0, 2, none⟩ = some (.int .i64 0) := Go.Joins.cell_of_block hk 2
  have a1 : w.cell? ⟨0, 3, none⟩ = some (.int .i64 1) := Go.Joins.cell_of_block hk 3
  have b0 := cell_keep (below1 w (Obj.cells #[.int .i64 0, .int .i64 0] 54)) a0
  have b1 := cell_keep (below1 w (Obj.cells #[.int .i64 0, .int .i64 0] 54)) a1
  clear hk
  go_enter Tryd.func60, Tryd.ntmps60
  go_wp2
  simp [bodyPost, results, Tryd.results60, go_sem]
  exact below1 _ _
theorem fourth2 {w : World} (hg : GW w) : Calls Tryd.prog 60 #[.int .i64 2] w fun e w' => e = .returned (shapeV 1 0) ∧ Below w.heap.size w w' := by
  obtain ⟨ty, fr, hk⟩ := hg
  have a0 : w.cell? ⟨0, 4, none⟩ = some (.int .i64 1) := Go.Joins.cell_of_block hk 4
  have a1 : w.cell? ⟨0, 5, none⟩ = some (.int .i64 0) := Go.Joins.cell_of_block hk 5
  have b0 := cell_keep (below1 w (Obj.cells #[.int .i64 0, .int .i64 0] 54)) a0
  have b1 := cell_keep (below1 w (Obj.cells #[.int .i64 0, .int .i64 0] 54)) a1
  clear hk
  go_enter Tryd.func60, Tryd.ntmps60
  go_wp2
  simp [bodyPost, results, Tryd.results60, go_sem]
  exact below1 _ _

theorem spinAt {w : World} {s r : Int} {b T : Nat} {v : Value} {zs : List Int} (h : Rd w b v zs) (hp : allB zs 2 = true) (hT : T < zs.length) :
    Calls Tryd.prog 30 #[ruleV s r v, .int .i64 T] w fun e w' => e = .returned (.int .i64 (sp zs T)) ∧ Below w.heap.size w w' := by
  obtain ⟨ao, cap, rfl, hc, hm, h4⟩ := h
  obtain ⟨off, rfl, hb, hcell⟩ := h4 (by omega)
  obtain ⟨z, hzz⟩ : ∃ z, z = zs.getD T 0 := ⟨_, rfl⟩
  have hcz := cell_keep (below1 w (Obj.cells #[.int .i64 s, .int .i64 r, (Value.slice (some ⟨b, off, none⟩) zs.length cap)] 28)) (show w.cell? ⟨b, off + T, none⟩ = some (.int .i64 z) by rw [hzz]; exact hcell T hT)
  have hsb := sp_bd hp T
  have hse : sp zs T = 2 * z - 1 := by unfold sp; rw [← hzz]
  rw [hse] at hsb ⊢
  have hTi : (T : Int) < (zs.length : Int) := Int.ofNat_lt.2 hT
  have hsz : zs.length ≤ 9223372036854775807 := by unfold maxLen at hm; omega
  clear hc hm h4 hcell hzz hse hp hb
  go_enter Tryd.func30, Tryd.ntmps30
  go_wp2
  go_ret
  exact ⟨rfl, below1 _ _⟩

set_option maxHeartbeats 4000000 in
theorem onFrom {w : World} {R C k l T : Nat} {dr dc : Int} (hR : 1 ≤ R ∧ R ≤ 24) (hC : 1 ≤ C ∧ C ≤ 24) (hk : k < R) (hl : l < C) (hT : T = k * C + l) (hd : 0 ≤ dr ∧ dr ≤ 1 ∧ 0 ≤ dc ∧ dc ≤ 1) :
    Calls Tryd.prog 59 #[shapeV R C, .int .i64 T, shapeV dr dc] w fun e w' => e = .returned (.int .i64 (ix R C ((k : Int) + dr) ((l : Int) + dc))) ∧ Below w.heap.size w w' := by
  have eq1 : ((T : Int) / (C : Int)) = (k : Int) := by rw [hT, ← Int.natCast_ediv, (Grow.pos_div hl).1]
  have eq2 : ((T : Int) % (C : Int)) = (l : Int) := by rw [hT, ← Int.natCast_emod, (Grow.pos_div hl).2]
  have hC0 : ¬ C = 0 := by omega
  have hT5 : T ≤ 1000 := by
    have h1 := Grow.pos_bd hk hl
    have h2 : R * C ≤ 24 * 24 := Nat.mul_le_mul hR.2 hC.2
    omega
  obtain ⟨X, hX⟩ : ∃ X, X = (k : Int) + dr := ⟨_, rfl⟩
  obtain ⟨Y, hY⟩ : ∃ Y, Y = (l : Int) + dc := ⟨_, rfl⟩
  rw [← hX, ← hY]
  have f1 : IntKind.i64.wrap (k : Int) = (k : Int) := by rw [IntKind.wrap_i64]; omega
  have f2 : IntKind.i64.wrap ((k : Int) + dr) = X := by rw [hX, IntKind.wrap_i64]; omega
  have f3 : IntKind.i64.wrap ((l : Int) + dc) = Y := by rw [hY, IntKind.wrap_i64]; omega
  obtain ⟨xm, hxm⟩ : ∃ xm : Nat, X % (R : Int) = (xm : Int) := ⟨(X % (R : Int)).toNat, by have := Int.emod_nonneg X (show (R : Int) ≠ 0 by omega); omega⟩
  obtain ⟨ym, hym⟩ : ∃ ym : Nat, Y % (C : Int) = (ym : Int) := ⟨(Y % (C : Int)).toNat, by have := Int.emod_nonneg Y (show (C : Int) ≠ 0 by omega); omega⟩
  have hxl : xm < R := by have := Int.emod_lt_of_pos X (show (0 : Int) < R by omega); omega
  have hyl : ym < C := by have := Int.emod_lt_of_pos Y (show (0 : Int) < C by omega); omega
  have hix : ix R C X Y = xm * C + ym := by unfold ix; rw [hxm, hym]; simp
  rw [hix]
  have hxC : xm * C + ym < R * C := Grow.pos_bd hxl hyl
  have hRC : R * C ≤ 24 * 24 := Nat.mul_le_mul hR.2 hC.2
  obtain ⟨XC, hXC⟩ : ∃ XC, XC = xm * C := ⟨_, rfl⟩
  rw [← hXC] at hxC ⊢
  have g1 : IntKind.i64.wrap ((xm : Int) * (C : Int)) = (XC : Int) := by rw [← Int.natCast_mul, ← hXC, IntKind.wrap_i64]; omega
  have g2 : IntKind.i64.wrap ((XC : Int) + (ym : Int)) = ((XC + ym : Nat) : Int) := by rw [IntKind.wrap_i64]; omega
  have HXm := hid hxm
  have HYm := hid hym
  have hXb : 0 ≤ X ∧ X ≤ 100 := by omega
  have hYb : 0 ≤ Y ∧ Y ≤ 100 := by omega
  clear hT hix hxm hym hXC hX hY hRC hxC
  go_enter Tryd.func59, Tryd.ntmps59
  go_wp2_with fail
  obtain ⟨w1, hW⟩ : ∃ w1, w1 = (w.alloc (Obj.cells #[.int .i64 R, .int .i64 C] 54)).alloc (Obj.cells #[.int .i64 dr, .int .i64 dc] 54) := ⟨_, rfl⟩
  obtain ⟨N, hN⟩ : ∃ N, N = w.heap.size := ⟨_, rfl⟩
  obtain ⟨Q, hQ⟩ : ∃ Q, Q = N + 1 := ⟨_, rfl⟩
  have st : Below w.heap.size w w1 ∧ w1.cell? ⟨N, 0, none⟩ = some (.int .i64 R) ∧ w1.cell? ⟨N, 1, none⟩ = some (.int .i64 C) ∧ w1.cell? ⟨Q, 0, none⟩ = some (.int .i64 dr) ∧ w1.cell? ⟨Q, 1, none⟩ = some (.int .i64 dc) ∧ w.heap.size ≤ w1.heap.size := by
    rw [hW, hQ, hN]
    exact ⟨Go.Joins.below_alloc2 _ _ _, by simp, by simp, by simp, by simp, by simp; omega⟩
  simp only [← hW, ← hN, ← hQ]
  clear hW hN hQ
  have a0 := st.2.1
  have a1 := st.2.2.1
  have a2 := st.2.2.2.1
  have a3 := st.2.2.2.2.1
  go_quiet (fail)
  obtain ⟨w2, hW5⟩ : ∃ w5, w5 = w1.drewN nq := ⟨_, rfl⟩
  have bel5 : Below w1.heap.size w1 w2 := by rw [hW5]; exact Help.below_drewN _ _ _
  have st2 := next2_0 bel5 (show Below w.heap.size w w1 ∧ w1.cell? ⟨N, 0, none⟩ = some (.int .i64 R) ∧ w1.cell? ⟨N, 1, none⟩ = some (.int .i64 C) ∧ w.heap.size ≤ w1.heap.size from ⟨st.1, a0, a1, st.2.2.2.2.2⟩)
  simp only [← hW5]
  clear hW5 bel5 a0 a1 a2 a3 st
  go_wp2_with fail
  refine wp_region_held_drew (S := (fun ww => Below w.heap.size w ww ∧ ww.cell? ⟨N, 0, none⟩ = some (.int .i64 R) ∧ ww.cell? ⟨N, 1, none⟩ = some (.int .i64 C) ∧ w.heap.size ≤ ww.heap.size)) (by kernel_rfl) ?_ (fun hHeld => ?_)
  · ((try dsimp only); exact ⟨st2.1.drew, st2.2.1, st2.2.2.1, st2.2.2.2⟩)
  generalize hD : w2.drew = wD at hHeld ⊢
  clear hD st2
  (refine wpAnyH_take (i := 0) (v := ?_) rfl ?_ ?_ ?_ (fun _ _ _ h => h) (Or.inl ⟨?_, ?_⟩) ?_ ?_; rotate_left 1; (focus decide +kernel); (focus decide +kernel); (focus decide +kernel); (focus rfl); (focus (intro w hSw; (try dsimp only at hSw); go_simp; (try (with_reducible rfl)); done)); (focus assumption); (try simp only [Act.put, List.setIfInBounds_toArray, List.set_cons_zero, List.set_cons_succ, List.getElem_toArray, List.getElem_cons_succ, List.getElem_cons_zero]))
  (refine wpAnyH_take (i := 1) (v := ?_) rfl ?_ ?_ ?_ (fun _ _ _ h => h) (Or.inl ⟨?_, ?_⟩) ?_ ?_; rotate_left 1; (focus decide +kernel); (focus decide +kernel); (focus decide +kernel); (focus rfl); (focus (intro w hSw; (try dsimp only at hSw); go_simp; (try (with_reducible rfl)); done)); (focus assumption); (try simp only [Act.put, List.setIfInBounds_toArray, List.set_cons_zero, List.set_cons_succ, List.getElem_toArray, List.getElem_cons_succ, List.getElem_cons_zero]))
  (refine wpAnyH_take (i := 2) (v := ?_) rfl ?_ ?_ ?_ (fun _ _ _ h => h) (Or.inl ⟨?_, ?_⟩) ?_ ?_; rotate_left 1; (focus decide +kernel); (focus decide +kernel); (focus decide +kernel); (focus rfl); (focus (intro w hSw; (try dsimp only at hSw); go_simp; (try (with_reducible rfl)); done)); (focus assumption); (try simp only [Act.put, List.setIfInBounds_toArray, List.set_cons_zero, List.set_cons_succ, List.getElem_toArray, List.getElem_cons_succ, List.getElem_cons_zero]))
  (refine wpAnyH_take (i := 4) (v := ?_) rfl ?_ ?_ ?_ (fun _ _ _ h => h) (Or.inl ⟨?_, ?_⟩) ?_ ?_; rotate_left 1; (focus decide +kernel); (focus decide +kernel); (focus decide +kernel); (focus rfl); (focus (intro w hSw; (try dsimp only at hSw); go_simp; (try (with_reducible rfl)); done)); (focus assumption); (try simp only [Act.put, List.setIfInBounds_toArray, List.set_cons_zero, List.set_cons_succ, List.getElem_toArray, List.getElem_cons_succ, List.getElem_cons_zero]))
  (refine wpAnyH_take (i := 5) (v := ?_) rfl ?_ ?_ ?_ (fun _ _ _ h => h) (Or.inl ⟨?_, ?_⟩) ?_ ?_; rotate_left 1; (focus decide +kernel); (focus decide +kernel); (focus decide +kernel); (focus rfl); (focus (intro w hSw; (try dsimp only at hSw); go_simp; (try (with_reducible rfl)); done)); (focus assumption); (try simp only [Act.put, List.setIfInBounds_toArray, List.set_cons_zero, List.set_cons_succ, List.getElem_toArray, List.getElem_cons_succ, List.getElem_cons_zero]))
  (refine wpAnyH_take (i := 7) (v := ?_) rfl ?_ ?_ ?_ (fun _ _ _ h => h) (Or.inl ⟨?_, ?_⟩) ?_ ?_; rotate_left 1; (focus decide +kernel); (focus decide +kernel); (focus decide +kernel); (focus rfl); (focus (intro w hSw; (try dsimp only at hSw); go_simp; (try (with_reducible rfl)); done)); (focus assumption); (try simp only [Act.put, List.setIfInBounds_toArray, List.set_cons_zero, List.set_cons_succ, List.getElem_toArray, List.getElem_cons_succ, List.getElem_cons_zero]))
  (refine wpAnyH_take (i := 8) (v := ?_) rfl ?_ ?_ ?_ (fun _ _ _ h => h) (Or.inl ⟨?_, ?_⟩) ?_ ?_; rotate_left 1; (focus decide +kernel); (focus decide +kernel); (focus decide +kernel); (focus rfl); (focus (intro w hSw; (try dsimp only at hSw); go_simp; (try (with_reducible rfl)); done)); (focus assumption); (try simp only [Act.put, List.setIfInBounds_toArray, List.set_cons_zero, List.set_cons_succ, List.getElem_toArray, List.getElem_cons_succ, List.getElem_cons_zero]))
  (refine wpAnyH_take (i := 9) (v := ?_) rfl ?_ ?_ ?_ (fun _ _ _ h => h) (Or.inl ⟨?_, ?_⟩) ?_ ?_; rotate_left 1; (focus decide +kernel); (focus decide +kernel); (focus decide +kernel); (focus rfl); (focus (intro w hSw; (try dsimp only at hSw); go_simp; (try (with_reducible rfl)); done)); (focus assumption); (try simp only [Act.put, List.setIfInBounds_toArray, List.set_cons_zero, List.set_cons_succ, List.getElem_toArray, List.getElem_cons_succ, List.getElem_cons_zero]))
  refine wpAnyH_ready (rs := [3]) ?_ (by simp) ?_
  · decide +kernel
  refine AllReadyH.cons rfl (fun K hK => ?_) AllReadyH.nil
  go_simp
  go_at_call 75
  refine (Round.onRoundI (f := X) (m := R) (by omega) (by omega)).mono ?_
  rw [HXm.out]
  rintro e w' ⟨rfl, rfl⟩
  refine hK.out _ _ ?_ (fun hHeld2 => ?_)
  · (try dsimp only); exact hHeld
  clear hK K hHeld
  have hHeld := hHeld2
  clear hHeld2
  (try simp only [Act.put, List.setIfInBounds_toArray, List.set_cons_zero, List.set_cons_succ, List.getElem_toArray, List.getElem_cons_succ, List.getElem_cons_zero])
  (refine wpAnyH_take (i := 6) (v := ?_) rfl ?_ ?_ ?_ (fun _ _ _ h => h) (Or.inl ⟨?_, ?_⟩) ?_ ?_; rotate_left 1; (focus decide +kernel); (focus decide +kernel); (focus decide +kernel); (focus rfl); (focus (intro w hSw; (try dsimp only at hSw); go_simp; (try (with_reducible rfl)); done)); (focus assumption); (try simp only [Act.put, List.setIfInBounds_toArray, List.set_cons_zero, List.set_cons_succ, List.getElem_toArray, List.getElem_cons_succ, List.getElem_cons_zero]))
  refine wpAnyH_ready (rs := [10]) ?_ (by simp) ?_
  · decide +kernel
  refine AllReadyH.cons rfl (fun K hK => ?_) AllReadyH.nil
  go_simp
  go_at_call 75
  refine (Round.onRoundI (f := Y) (m := C) (by omega) (by omega)).mono ?_
  rw [HYm.out]
  rintro e w' ⟨rfl, rfl⟩
  refine hK.out _ _ ?_ (fun hHeld2 => ?_)
  · (try dsimp only); exact hHeld
  clear hK K hHeld
  have hHeld := hHeld2
  clear hHeld2
  (try simp only [Act.put, List.setIfInBounds_toArray, List.set_cons_zero, List.set_cons_succ, List.getElem_toArray, List.getElem_cons_succ, List.getElem_cons_zero])
  (refine wpAnyH_take (i := 11) (v := ?_) rfl ?_ ?_ ?_ (fun _ _ _ h => h) (Or.inl ⟨?_, ?_⟩) ?_ ?_; rotate_left 1; (focus decide +kernel); (focus decide +kernel); (focus decide +kernel); (focus rfl); (focus (intro w hSw; (try dsimp only at hSw); go_simp; (try (with_reducible rfl)); done)); (focus assumption); (try simp only [Act.put, List.setIfInBounds_toArray, List.set_cons_zero, List.set_cons_succ, List.getElem_toArray, List.getElem_cons_succ, List.getElem_cons_zero]))
  (refine wpAnyH_take (i := 12) (v := ?_) rfl ?_ ?_ ?_ (fun _ _ _ h => h) (Or.inl ⟨?_, ?_⟩) ?_ ?_; rotate_left 1; (focus decide +kernel); (focus decide +kernel); (focus decide +kernel); (focus rfl); (focus (intro w hSw; (try dsimp only at hSw); go_simp; (try (with_reducible rfl)); done)); (focus assumption); (try simp only [Act.put, List.setIfInBounds_toArray, List.set_cons_zero, List.set_cons_succ, List.getElem_toArray, List.getElem_cons_succ, List.getElem_cons_zero]))
  refine wpAnyH_done (by kernel_rfl) ?_ _
  have HB := hid hHeld.1
  clear hHeld
  go_wp2
  go_ret
  exact ⟨rfl, HB.out⟩

def pre (q1 q2 : Int) : Nat → Int
  | 0 => 0
  | 1 => q1
  | _ => q1 + q2
set_option maxHeartbeats 16000000 in
theorem spinsFrom {w : World} {R C k l T b bS : Nat} {v vS : Value} {zs : List Int} (hg : GW w) (h : Rd w b v zs) (hS : Rd w bS vS [1, 2]) (hR : 1 ≤ R ∧ R ≤ 24) (hC : 1 ≤ C ∧ C ≤ 24) (hz : zs.length = R * C) (hp : allB zs 2 = true) (hk : k < R) (hl : l < C) (hT : T = k * C + l) :
    Calls Tryd.prog 31 #[ruleV R C v, .int .i64 T, vS] w fun e w' => e = .returned (.int .i64 (nb zs R C k l)) ∧ Below w.heap.size w w' := by
  have HH := hid h
  have HGW := hid hg
  have HR := hid hR
  have HC := hid hC
  have HP := hid hp
  have HKL := hid (And.intro hk (And.intro hl hT))
  obtain ⟨ao, cap, rfl, _, _, _⟩ := h
  obtain ⟨aS, capS, rfl, _, _, h4S⟩ := hS
  obtain ⟨offS, rfl, hbS, hcS⟩ := h4S (by simp)
  have s0 := hcS 0 (by simp)
  have s1 := hcS 1 (by simp)
  simp [List.getD] at s0 s1
  have HS0 := hid s0
  have HS1 := hid s1
  have HBS := hid hbS
  obtain ⟨I0, hI0⟩ : ∃ I, I = ix R C k ((l : Int) + 1) := ⟨_, rfl⟩
  obtain ⟨I1, hI1⟩ : ∃ I, I = ix R C ((k : Int) + 1) l := ⟨_, rfl⟩
  obtain ⟨q1, hq1⟩ : ∃ q1, q1 = sp zs I0 := ⟨_, rfl⟩
  obtain ⟨q2, hq2⟩ : ∃ q2, q2 = sp zs I1 := ⟨_, rfl⟩
  have hb1 := sp_bd hp I0
  have hb2 := sp_bd hp I1
  rw [← hq1] at hb1
  rw [← hq2] at hb2
  have HI0 : Hid (ix R C ((k : Int) + 0) ((l : Int) + 1) = I0) := by simp only [Hid]; rw [Int.add_zero, hI0]
  have HI1 : Hid (ix R C ((k : Int) + 1) ((l : Int) + 0) = I1) := by simp only [Hid]; rw [Int.add_zero, hI1]
  have HIL0 : Hid (I0 < zs.length) := by simp only [Hid]; rw [hI0, hz]; exact ix_lt _ _ hR.1 hC.1
  have HIL1 : Hid (I1 < zs.length) := by simp only [Hid]; rw [hI1, hz]; exact ix_lt _ _ hR.1 hC.1
  have HQ0 : Hid (sp zs I0 = q1) := hq1.symm
  have HQ1 : Hid (sp zs I1 = q2) := hq2.symm
  have hnb : nb zs R C k l = q1 + q2 := by unfold nb; rw [← hI0, ← hI1, ← hq1, ← hq2]
  rw [hnb]
  have w1e : IntKind.i64.wrap q1 = q1 := by rw [IntKind.wrap_i64]; omega
  have w2e : IntKind.i64.wrap (q1 + q2) = q1 + q2 := by rw [IntKind.wrap_i64]; omega
  clear hg hR hC hz hp hk hl hT hcS h4S hbS s0 s1 hI0 hI1 hq1 hq2 hnb
  go_enter Tryd.func31, Tryd.ntmps31
  go_wp2_with fail
  obtain ⟨w1, hW⟩ : ∃ w1, w1 = w.alloc (Obj.cells #[.int .i64 R, .int .i64 C, Value.slice ao zs.length cap] 28) := ⟨_, rfl⟩
  obtain ⟨N, hN⟩ : ∃ N, N = w.heap.size := ⟨_, rfl⟩
  have st : Below w.heap.size w w1 ∧ w1.cell? ⟨N, 0, none⟩ = some (.int .i64 R) ∧ w1.cell? ⟨N, 1, none⟩ = some (.int .i64 C) ∧ w1.cell? ⟨N, 2, none⟩ = some (Value.slice ao zs.length cap) ∧ Rd w1 b (Value.slice ao zs.length cap) zs ∧ w.heap.size ≤ w1.heap.size := by
    rw [hW, hN]
    exact ⟨below1 _ _, by simp, by simp, by simp, HH.out.keep (below1 _ _) (Nat.le_refl _), by simp⟩
  simp only [← hW, ← hN]
  clear hW hN
  have HSX := hid st
  clear st
  go_wp2
  go_loopw [7, 9, 12] (fun a j i wr => ∃ m : Nat, m ≤ 2 ∧ i = .int .i64 m ∧ a = .int .i64 (pre q1 q2 m) ∧ Below w.heap.size w wr ∧ wr.cell? ⟨N, 0, none⟩ = some (.int .i64 R) ∧ wr.cell? ⟨N, 1, none⟩ = some (.int .i64 C) ∧ wr.cell? ⟨N, 2, none⟩ = some (Value.slice ao zs.length cap) ∧ Rd wr b (Value.slice ao zs.length cap) zs ∧ w.heap.size ≤ wr.heap.size) (fun _ _ i _ => 2 - (intOf i).toNat)
  case atStart => exact ⟨0, by omega, rfl, rfl, HSX.out⟩
  case round =>
    obtain ⟨m, hm, rfl, rfl, st⟩ := hrel
    rcases (show m = 0 ∨ m = 1 ∨ m = 2 by omega) with rfl | rfl | rfl
    · have hcs : wr.cell? ⟨bS, offS, none⟩ = some (.int .i64 1) := (st.1.cell (p := ⟨bS, offS, none⟩) HBS.out).trans HS0.out
      simp only [pre]
      go_wp2_with fail
      clear hcs
      refine wp_region_held_drew (S := (fun ww => Below w.heap.size w ww ∧ ww.cell? ⟨N, 0, none⟩ = some (.int .i64 R) ∧ ww.cell? ⟨N, 1, none⟩ = some (.int .i64 C) ∧ ww.cell? ⟨N, 2, none⟩ = some (Value.slice ao zs.length cap) ∧ Rd ww b (Value.slice ao zs.length cap) zs ∧ w.heap.size ≤ ww.heap.size)) (by kernel_rfl) ?_ (fun hHeld => ?_)
      · ((try dsimp only); exact drew3_1 st)
      generalize hD : wr.drew = wD at hHeld ⊢
      clear hD st
      (refine wpAnyH_take (i := 0) (v := ?_) rfl ?_ ?_ ?_ (fun _ _ _ h => h) (Or.inl ⟨?_, ?_⟩) ?_ ?_; rotate_left 1; (focus decide +kernel); (focus decide +kernel); (focus decide +kernel); (focus rfl); (focus (intro w hSw; (try dsimp only at hSw); go_simp; (try (with_reducible rfl)); done)); (focus assumption); (try simp only [Act.put, List.setIfInBounds_toArray, List.set_cons_zero, List.set_cons_succ, List.getElem_toArray, List.getElem_cons_succ, List.getElem_cons_zero]))
      (refine wpAnyH_take (i := 1) (v := ?_) rfl ?_ ?_ ?_ (fun _ _ _ h => h) (Or.inl ⟨?_, ?_⟩) ?_ ?_; rotate_left 1; (focus decide +kernel); (focus decide +kernel); (focus decide +kernel); (focus rfl); (focus (intro w hSw; (try dsimp only at hSw); go_simp; (try (with_reducible rfl)); done)); (focus assumption); (try simp only [Act.put, List.setIfInBounds_toArray, List.set_cons_zero, List.set_cons_succ, List.getElem_toArray, List.getElem_cons_succ, List.getElem_cons_zero]))
      (refine wpAnyH_take (i := 2) (v := ?_) rfl ?_ ?_ ?_ (fun _ _ _ h => h) (Or.inl ⟨?_, ?_⟩) ?_ ?_; rotate_left 1; (focus decide +kernel); (focus decide +kernel); (focus decide +kernel); (focus rfl); (focus (intro w hSw; (try dsimp only at hSw); go_simp; (try (with_reducible rfl)); done)); (focus assumption); (try simp only [Act.put, List.setIfInBounds_toArray, List.set_cons_zero, List.set_cons_succ, List.getElem_toArray, List.getElem_cons_succ, List.getElem_cons_zero]))
      (refine wpAnyH_take (i := 4) (v := ?_) rfl ?_ ?_ ?_ (fun _ _ _ h => h) (Or.inl ⟨?_, ?_⟩) ?_ ?_; rotate_left 1; (focus decide +kernel); (focus decide +kernel); (focus decide +kernel); (focus rfl); (focus (intro w hSw; (try dsimp only at hSw); go_simp; (try (with_reducible rfl)); done)); (focus assumption); (try simp only [Act.put, List.setIfInBounds_toArray, List.set_cons_zero, List.set_cons_succ, List.getElem_toArray, List.getElem_cons_succ, List.getElem_cons_zero]))
      (refine wpAnyH_take (i := 5) (v := ?_) rfl ?_ ?_ ?_ (fun _ _ _ h => h) (Or.inl ⟨?_, ?_⟩) ?_ ?_; rotate_left 1; (focus decide +kernel); (focus decide +kernel); (focus decide +kernel); (focus rfl); (focus (intro w hSw; (try dsimp only at hSw); go_simp; (try (with_reducible rfl)); done)); (focus assumption); (try simp only [Act.put, List.setIfInBounds_toArray, List.set_cons_zero, List.set_cons_succ, List.getElem_toArray, List.getElem_cons_succ, List.getElem_cons_zero]))
      refine wpAnyH_ready (rs := [3]) ?_ (by simp) ?_
      · decide +kernel
      refine AllReadyH.cons rfl (fun K hK => ?_) AllReadyH.nil
      go_simp
      go_at_call 28
      refine extentOf.mono ?_
      rintro e w' ⟨rfl, bel⟩
      refine hK.out _ _ ?_ (fun hHeld2 => ?_)
      · (try dsimp only); exact next3_1 bel hHeld
      clear hK K hHeld bel
      have hHeld := hHeld2
      clear hHeld2
      (try simp only [Act.put, List.setIfInBounds_toArray, List.set_cons_zero, List.set_cons_succ, List.getElem_toArray, List.getElem_cons_succ, List.getElem_cons_zero])
      refine wpAnyH_ready (rs := [6]) ?_ (by simp) ?_
      · decide +kernel
      refine AllReadyH.cons rfl (fun K hK => ?_) AllReadyH.nil
      go_simp
      go_at_call 60
      refine (fourth1 (gw_bel HGW.out hHeld.1)).mono ?_
      rintro e w' ⟨rfl, bel⟩
      refine hK.out _ _ ?_ (fun hHeld2 => ?_)
      · (try dsimp only); exact next3_1 bel hHeld
      clear hK K hHeld bel
      have hHeld := hHeld2
      clear hHeld2
      (try simp only [Act.put, List.setIfInBounds_toArray, List.set_cons_zero, List.set_cons_succ, List.getElem_toArray, List.getElem_cons_succ, List.getElem_cons_zero])
      refine wpAnyH_ready (rs := [7]) ?_ (by simp) ?_
      · decide +kernel
      refine AllReadyH.cons rfl (fun K hK => ?_) AllReadyH.nil
      go_simp
      go_at_call 59
      refine (onFrom HR.out HC.out HKL.out.1 HKL.out.2.1 HKL.out.2.2 (dr := 0) (dc := 1) (by omega)).mono ?_
      rw [HI0.out]
      rintro e w' ⟨rfl, bel⟩
      refine hK.out _ _ ?_ (fun hHeld2 => ?_)
      · (try dsimp only); exact next3_1 bel hHeld
      clear hK K hHeld bel
      have hHeld := hHeld2
      clear hHeld2
      (try simp only [Act.put, List.setIfInBounds_toArray, List.set_cons_zero, List.set_cons_succ, List.getElem_toArray, List.getElem_cons_succ, List.getElem_cons_zero])
      refine wpAnyH_ready (rs := [8]) ?_ (by simp) ?_
      · decide +kernel
      refine AllReadyH.cons rfl (fun K hK => ?_) AllReadyH.nil
      go_simp
      go_at_call 30
      refine (spinAt (rd3_1_0 hHeld) HP.out HIL0.out).mono ?_
      rw [HQ0.out]
      rintro e w' ⟨rfl, bel⟩
      refine hK.out _ _ ?_ (fun hHeld2 => ?_)
      · (try dsimp only); exact next3_1 bel hHeld
      clear hK K hHeld bel
      have hHeld := hHeld2
      clear hHeld2
      (try simp only [Act.put, List.setIfInBounds_toArray, List.set_cons_zero, List.set_cons_succ, List.getElem_toArray, List.getElem_cons_succ, List.getElem_cons_zero])
      (refine wpAnyH_take (i := 9) (v := ?_) rfl ?_ ?_ ?_ (fun _ _ _ h => h) (Or.inl ⟨?_, ?_⟩) ?_ ?_; rotate_left 1; (focus decide +kernel); (focus decide +kernel); (focus decide +kernel); (focus rfl); (focus (intro w hSw; (try dsimp only at hSw); go_simp; (try (with_reducible rfl)); done)); (focus assumption); (try simp only [Act.put, List.setIfInBounds_toArray, List.set_cons_zero, List.set_cons_succ, List.getElem_toArray, List.getElem_cons_succ, List.getElem_cons_zero]))
      (refine wpAnyH_take (i := 10) (v := ?_) rfl ?_ ?_ ?_ (fun _ _ _ h => h) (Or.inl ⟨?_, ?_⟩) ?_ ?_; rotate_left 1; (focus decide +kernel); (focus decide +kernel); (focus decide +kernel); (focus rfl); (focus (intro w hSw; (try dsimp only at hSw); go_simp; (try (with_reducible rfl)); done)); (focus assumption); (try simp only [Act.put, List.setIfInBounds_toArray, List.set_cons_zero, List.set_cons_succ, List.getElem_toArray, List.getElem_cons_succ, List.getElem_cons_zero]))
      refine wpAnyH_done (by kernel_rfl) ?_ _
      have HST2 := hid hHeld
      clear hHeld
      go_wp2
      go_roundw
      case rel => exact ⟨1, by omega, by rfl, by simp [pre], HST2.out⟩
      case measure => simp [intOf]
    · have hcs : wr.cell? ⟨bS, offS + 1, none⟩ = some (.int .i64 2) := (st.1.cell (p := ⟨bS, offS + 1, none⟩) HBS.out).trans HS1.out
      simp only [pre]
      go_wp2_with fail
      clear hcs
      refine wp_region_held_drew (S := (fun ww => Below w.heap.size w ww ∧ ww.cell? ⟨N, 0, none⟩ = some (.int .i64 R) ∧ ww.cell? ⟨N, 1, none⟩ = some (.int .i64 C) ∧ ww.cell? ⟨N, 2, none⟩ = some (Value.slice ao zs.length cap) ∧ Rd ww b (Value.slice ao zs.length cap) zs ∧ w.heap.size ≤ ww.heap.size)) (by kernel_rfl) ?_ (fun hHeld => ?_)
      · ((try dsimp only); exact drew3_1 st)
      generalize hD : wr.drew = wD at hHeld ⊢
      clear hD st
      (refine wpAnyH_take (i := 0) (v := ?_) rfl ?_ ?_ ?_ (fun _ _ _ h => h) (Or.inl ⟨?_, ?_⟩) ?_ ?_; rotate_left 1; (focus decide +kernel); (focus decide +kernel); (focus decide +kernel); (focus rfl); (focus (intro w hSw; (try dsimp only at hSw); go_simp; (try (with_reducible rfl)); done)); (focus assumption); (try simp only [Act.put, List.setIfInBounds_toArray, List.set_cons_zero, List.set_cons_succ, List.getElem_toArray, List.getElem_cons_succ, List.getElem_cons_zero]))
      (refine wpAnyH_take (i := 1) (v := ?_) rfl ?_ ?_ ?_ (fun _ _ _ h => h) (Or.inl ⟨?_, ?_⟩) ?_ ?_; rotate_left 1; (focus decide +kernel); (focus decide +kernel); (focus decide +kernel); (focus rfl); (focus (intro w hSw; (try dsimp only at hSw); go_simp; (try (with_reducible rfl)); done)); (focus assumption); (try simp only [Act.put, List.setIfInBounds_toArray, List.set_cons_zero, List.set_cons_succ, List.getElem_toArray, List.getElem_cons_succ, List.getElem_cons_zero]))
      (refine wpAnyH_take (i := 2) (v := ?_) rfl ?_ ?_ ?_ (fun _ _ _ h => h) (Or.inl ⟨?_, ?_⟩) ?_ ?_; rotate_left 1; (focus decide +kernel); (focus decide +kernel); (focus decide +kernel); (focus rfl); (focus (intro w hSw; (try dsimp only at hSw); go_simp; (try (with_reducible rfl)); done)); (focus assumption); (try simp only [Act.put, List.setIfInBounds_toArray, List.set_cons_zero, List.set_cons_succ, List.getElem_toArray, List.getElem_cons_succ, List.getElem_cons_zero]))
      (refine wpAnyH_take (i := 4) (v := ?_) rfl ?_ ?_ ?_ (fun _ _ _ h => h) (Or.inl ⟨?_, ?_⟩) ?_ ?_; rotate_left 1; (focus decide +kernel); (focus decide +kernel); (focus decide +kernel); (focus rfl); (focus (intro w hSw; (try dsimp only at hSw); go_simp; (try (with_reducible rfl)); done)); (focus assumption); (try simp only [Act.put, List.setIfInBounds_toArray, List.set_cons_zero, List.set_cons_succ, List.getElem_toArray, List.getElem_cons_succ, List.getElem_cons_zero]))
      (refine wpAnyH_take (i := 5) (v := ?_) rfl ?_ ?_ ?_ (fun _ _ _ h => h) (Or.inl ⟨?_, ?_⟩) ?_ ?_; rotate_left 1; (focus decide +kernel); (focus decide +kernel); (focus decide +kernel); (focus rfl); (focus (intro w hSw; (try dsimp only at hSw); go_simp; (try (with_reducible rfl)); done)); (focus assumption); (try simp only [Act.put, List.setIfInBounds_toArray, List.set_cons_zero, List.set_cons_succ, List.getElem_toArray, List.getElem_cons_succ, List.getElem_cons_zero]))
      refine wpAnyH_ready (rs := [3]) ?_ (by simp) ?_
      · decide +kernel
      refine AllReadyH.cons rfl (fun K hK => ?_) AllReadyH.nil
      go_simp
      go_at_call 28
      refine extentOf.mono ?_
      rintro e w' ⟨rfl, bel⟩
      refine hK.out _ _ ?_ (fun hHeld2 => ?_)
      · (try dsimp only); exact next3_1 bel hHeld
      clear hK K hHeld bel
      have hHeld := hHeld2
      clear hHeld2
      (try simp only [Act.put, List.setIfInBounds_toArray, List.set_cons_zero, List.set_cons_succ, List.getElem_toArray, List.getElem_cons_succ, List.getElem_cons_zero])
      refine wpAnyH_ready (rs := [6]) ?_ (by simp) ?_
      · decide +kernel
      refine AllReadyH.cons rfl (fun K hK => ?_) AllReadyH.nil
      go_simp
      go_at_call 60
      refine (fourth2 (gw_bel HGW.out hHeld.1)).mono ?_
      rintro e w' ⟨rfl, bel⟩
      refine hK.out _ _ ?_ (fun hHeld2 => ?_)
      · (try dsimp only); exact next3_1 bel hHeld
      clear hK K hHeld bel
      have hHeld := hHeld2
      clear hHeld2
      (try simp only [Act.put, List.setIfInBounds_toArray, List.set_cons_zero, List.set_cons_succ, List.getElem_toArray, List.getElem_cons_succ, List.getElem_cons_zero])
      refine wpAnyH_ready (rs := [7]) ?_ (by simp) ?_
      · decide +kernel
      refine AllReadyH.cons rfl (fun K hK => ?_) AllReadyH.nil
      go_simp
      go_at_call 59
      refine (onFrom HR.out HC.out HKL.out.1 HKL.out.2.1 HKL.out.2.2 (dr := 1) (dc := 0) (by omega)).mono ?_
      rw [HI1.out]
      rintro e w' ⟨rfl, bel⟩
      refine hK.out _ _ ?_ (fun hHeld2 => ?_)
      · (try dsimp only); exact next3_1 bel hHeld
      clear hK K hHeld bel
      have hHeld := hHeld2
      clear hHeld2
      (try simp only [Act.put, List.setIfInBounds_toArray, List.set_cons_zero, List.set_cons_succ, List.getElem_toArray, List.getElem_cons_succ, List.getElem_cons_zero])
      refine wpAnyH_ready (rs := [8]) ?_ (by simp) ?_
      · decide +kernel
      refine AllReadyH.cons rfl (fun K hK => ?_) AllReadyH.nil
      go_simp
      go_at_call 30
      refine (spinAt (rd3_1_0 hHeld) HP.out HIL1.out).mono ?_
      rw [HQ1.out]
      rintro e w' ⟨rfl, bel⟩
      refine hK.out _ _ ?_ (fun hHeld2 => ?_)
      · (try dsimp only); exact next3_1 bel hHeld
      clear hK K hHeld bel
      have hHeld := hHeld2
      clear hHeld2
      (try simp only [Act.put, List.setIfInBounds_toArray, List.set_cons_zero, List.set_cons_succ, List.getElem_toArray, List.getElem_cons_succ, List.getElem_cons_zero])
      (refine wpAnyH_take (i := 9) (v := ?_) rfl ?_ ?_ ?_ (fun _ _ _ h => h) (Or.inl ⟨?_, ?_⟩) ?_ ?_; rotate_left 1; (focus decide +kernel); (focus decide +kernel); (focus decide +kernel); (focus rfl); (focus (intro w hSw; (try dsimp only at hSw); go_simp; (try (with_reducible rfl)); done)); (focus assumption); (try simp only [Act.put, List.setIfInBounds_toArray, List.set_cons_zero, List.set_cons_succ, List.getElem_toArray, List.getElem_cons_succ, List.getElem_cons_zero]))
      (refine wpAnyH_take (i := 10) (v := ?_) rfl ?_ ?_ ?_ (fun _ _ _ h => h) (Or.inl ⟨?_, ?_⟩) ?_ ?_; rotate_left 1; (focus decide +kernel); (focus decide +kernel); (focus decide +kernel); (focus rfl); (focus (intro w hSw; (try dsimp only at hSw); go_simp; (try (with_reducible rfl)); done)); (focus assumption); (try simp only [Act.put, List.setIfInBounds_toArray, List.set_cons_zero, List.set_cons_succ, List.getElem_toArray, List.getElem_cons_succ, List.getElem_cons_zero]))
      refine wpAnyH_done (by kernel_rfl) ?_ _
      have HST2 := hid hHeld
      clear hHeld
      go_wp2
      go_roundw
      case rel => exact ⟨2, by omega, by rfl, by simp [pre], HST2.out⟩
      case measure => simp [intOf]
    · simp only [pre]
      have HB := hid st.1
      clear st
      go_wp2
      go_ret
      exact ⟨rfl, HB.out⟩

set_option maxHeartbeats 16000000 in
theorem implOk {w : World} {R C : Nat} {b : Nat} {v : Value} {zs : List Int} (h : Rd w b v zs) (hg : GW w) (hq : (fieldB R C zs && allB zs 2) = true) :
    Calls Tryd.prog 10 #[ruleV R C v] w fun e w' => e = .returned (.tuple #[.int .i64 (-(en zs R C (R * C))), .bool true]) ∧ Below w.heap.size w w' := by
  have HH := hid h
  have HQ := hid hq
  obtain ⟨ao, cap, rfl, _, _, _⟩ := h
  obtain ⟨hR, hC, hz, hz6, hp⟩ := plain_parts hq
  have HR := hid hR
  have HC := hid hC
  have HZ := hid hz
  have HP := hid hp
  have hz576 : (zs.length : Int) ≤ 576 := by omega
  have HZ6 := hid (show zs.length ≤ 576 by omega)
  clear hq hz hz6 hp
  have HGW := hid hg
  clear hg
  go_enter Tryd.func10, Tryd.ntmps10
  go_wp2_with fail
  obtain ⟨w1, hW⟩ : ∃ w1, w1 = w.alloc (Obj.cells #[.int .i64 R, .int .i64 C, Value.slice ao zs.length cap] 28) := ⟨_, rfl⟩
  obtain ⟨N, hN⟩ : ∃ N, N = w.heap.size := ⟨_, rfl⟩
  have st : Below w.heap.size w w1 ∧ w1.cell? ⟨N, 0, none⟩ = some (.int .i64 R) ∧ w1.cell? ⟨N, 1, none⟩ = some (.int .i64 C) ∧ w1.cell? ⟨N, 2, none⟩ = some (Value.slice ao zs.length cap) ∧ Rd w1 b (Value.slice ao zs.length cap) zs ∧ w.heap.size ≤ w1.heap.size := by
    rw [hW, hN]
    exact ⟨below1 _ _, by simp, by simp, by simp, HH.out.keep (below1 _ _) (Nat.le_refl _), by simp⟩
  simp only [← hW, ← hN]
  clear hW hN
  go_at_call 27
  refine (Can.isPlain (rd3_1_0 st)).mono ?_
  rw [HQ.out]
  rintro e w2 ⟨rfl, bel⟩
  replace st := next3_1 bel st
  clear bel
  go_wp2_with fail
  go_at_call 28
  refine extentOf.mono ?_
  rintro e w3 ⟨rfl, bel⟩
  replace st := next3_1 bel st
  clear bel
  go_wp2_with fail
  go_at_call 29
  refine (FNew.sizeN HZ.out HZ6.out).mono ?_
  rintro e w4 ⟨rfl, bel⟩
  replace st := next3_1 bel st
  clear bel
  have HSX := hid st
  clear st
  go_wp2
  go_loopw [4, 5, 12] (fun a j i wr => ∃ t : Nat, t ≤ zs.length ∧ i = .int .i64 t ∧ a = .int .i64 (en zs R C t) ∧ Below w.heap.size w wr ∧ wr.cell? ⟨N, 0, none⟩ = some (.int .i64 R) ∧ wr.cell? ⟨N, 1, none⟩ = some (.int .i64 C) ∧ wr.cell? ⟨N, 2, none⟩ = some (Value.slice ao zs.length cap) ∧ Rd wr b (Value.slice ao zs.length cap) zs ∧ w.heap.size ≤ wr.heap.size) (fun _ _ i _ => zs.length - (intOf i).toNat)
  case atStart => exact ⟨0, Nat.zero_le _, rfl, rfl, HSX.out⟩
  case round =>
    obtain ⟨t, ht, rfl, rfl, st⟩ := hrel
    obtain ⟨a, ha⟩ : ∃ a, a = en zs R C t := ⟨_, rfl⟩
    have hab := en_bd HP.out R C t
    rw [← ha] at hab ⊢
    by_cases hlt : t < zs.length
    · have HTN := hid hlt
      obtain ⟨p, hpp⟩ : ∃ p, p = sp zs t := ⟨_, rfl⟩
      obtain ⟨q, hqq⟩ : ∃ q, q = nb zs R C (t / C) (t % C) := ⟨_, rfl⟩
      have hb0 := sp_bd HP.out t
      have hb1 := nb_bd HP.out R C (t / C) (t % C)
      rw [← hpp] at hb0
      rw [← hqq] at hb1
      obtain ⟨P, hP⟩ : ∃ P, p * q = P := ⟨_, rfl⟩
      have hPb := mul_bd hb0 hb1
      rw [hP] at hPb
      have e1 : IntKind.i64.wrap (p * q) = P := by rw [hP, IntKind.wrap_i64]; omega
      have e2 : IntKind.i64.wrap (a + P) = a + P := by rw [IntKind.wrap_i64]; omega
      have HPP : Hid (sp zs t = p) := hpp.symm
      have HQQ : Hid (nb zs R C (t / C) (t % C) = q) := hqq.symm
      have HEN : Hid (en zs R C (t + 1) = a + P) := by simp only [Hid, en]; rw [← ha, ← hpp, ← hqq, hP]
      have HKL : Hid (t / C < R ∧ t % C < C ∧ t = t / C * C + t % C) := ⟨Nat.div_lt_of_lt_mul (by rw [Nat.mul_comm, ← HZ.out]; exact hlt), Nat.mod_lt _ HC.out.1, by rw [Nat.mul_comm]; exact (Nat.div_add_mod t C).symm⟩
      have hti : (t : Int) < (zs.length : Int) := Int.ofNat_lt.2 hlt
      clear ha hpp hqq hP
      go_wp2_with fail
      refine wp_region_held_drew (S := (fun ww => Below w.heap.size w ww ∧ ww.cell? ⟨N, 0, none⟩ = some (.int .i64 R) ∧ ww.cell? ⟨N, 1, none⟩ = some (.int .i64 C) ∧ ww.cell? ⟨N, 2, none⟩ = some (Value.slice ao zs.length cap) ∧ Rd ww b (Value.slice ao zs.length cap) zs ∧ w.heap.size ≤ ww.heap.size)) (by kernel_rfl) ?_ (fun hHeld => ?_)
      · ((try dsimp only); exact drew3_1 st)
      generalize hD : wr.drew = wD at hHeld ⊢
      clear hD st
      (refine wpAnyH_take (i := 0) (v := ?_) rfl ?_ ?_ ?_ (fun _ _ _ h => h) (Or.inl ⟨?_, ?_⟩) ?_ ?_; rotate_left 1; (focus decide +kernel); (focus decide +kernel); (focus decide +kernel); (focus rfl); (focus (intro w hSw; (try dsimp only at hSw); go_simp; (try (with_reducible rfl)); done)); (focus assumption); (try simp only [Act.put, List.setIfInBounds_toArray, List.set_cons_zero, List.set_cons_succ, List.getElem_toArray, List.getElem_cons_succ, List.getElem_cons_zero]))
      (refine wpAnyH_take (i := 1) (v := ?_) rfl ?_ ?_ ?_ (fun _ _ _ h => h) (Or.inl ⟨?_, ?_⟩) ?_ ?_; rotate_left 1; (focus decide +kernel); (focus decide +kernel); (focus decide +kernel); (focus rfl); (focus (intro w hSw; (try dsimp only at hSw); go_simp; (try (with_reducible rfl)); done)); (focus assumption); (try simp only [Act.put, List.setIfInBounds_toArray, List.set_cons_zero, List.set_cons_succ, List.getElem_toArray, List.getElem_cons_succ, List.getElem_cons_zero]))
      (refine wpAnyH_take (i := 2) (v := ?_) rfl ?_ ?_ ?_ (fun _ _ _ h => h) (Or.inl ⟨?_, ?_⟩) ?_ ?_; rotate_left 1; (focus decide +kernel); (focus decide +kernel); (focus decide +kernel); (focus rfl); (focus (intro w hSw; (try dsimp only at hSw); go_simp; (try (with_reducible rfl)); done)); (focus assumption); (try simp only [Act.put, List.setIfInBounds_toArray, List.set_cons_zero, List.set_cons_succ, List.getElem_toArray, List.getElem_cons_succ, List.getElem_cons_zero]))
      (refine wpAnyH_take (i := 4) (v := ?_) rfl ?_ ?_ ?_ (fun _ _ _ h => h) (Or.inl ⟨?_, ?_⟩) ?_ ?_; rotate_left 1; (focus decide +kernel); (focus decide +kernel); (focus decide +kernel); (focus rfl); (focus (intro w hSw; (try dsimp only at hSw); go_simp; (try (with_reducible rfl)); done)); (focus assumption); (try simp only [Act.put, List.setIfInBounds_toArray, List.set_cons_zero, List.set_cons_succ, List.getElem_toArray, List.getElem_cons_succ, List.getElem_cons_zero]))
      (refine wpAnyH_take (i := 5) (v := ?_) rfl ?_ ?_ ?_ (fun _ _ _ h => h) (Or.inl ⟨?_, ?_⟩) ?_ ?_; rotate_left 1; (focus decide +kernel); (focus decide +kernel); (focus decide +kernel); (focus rfl); (focus (intro w hSw; (try dsimp only at hSw); go_simp; (try (with_reducible rfl)); done)); (focus assumption); (try simp only [Act.put, List.setIfInBounds_toArray, List.set_cons_zero, List.set_cons_succ, List.getElem_toArray, List.getElem_cons_succ, List.getElem_cons_zero]))
      refine wpAnyH_ready (rs := [3, 6]) ?_ (by simp) ?_
      · decide +kernel
      refine AllReadyH.cons rfl (fun K hK => ?_) (AllReadyH.cons rfl (fun K hK => ?_) AllReadyH.nil)
      · go_simp
        go_at_call 30
        refine (spinAt (rd3_1_0 hHeld) HP.out HTN.out).mono ?_
        rw [HPP.out]
        rintro e w' ⟨rfl, bel⟩
        refine hK.out _ _ ?_ (fun hHeld2 => ?_)
        · (try dsimp only); exact next3_1 bel hHeld
        clear hK K hHeld bel
        have hHeld := hHeld2
        clear hHeld2
        (try simp only [Act.put, List.setIfInBounds_toArray, List.set_cons_zero, List.set_cons_succ, List.getElem_toArray, List.getElem_cons_succ, List.getElem_cons_zero])
        refine wpAnyH_ready (rs := [6]) ?_ (by simp) ?_
        · decide +kernel
        refine AllReadyH.cons rfl (fun K hK => ?_) AllReadyH.nil
        rename World => wBefore
        have hHX : Below w.heap.size w wBefore ∧ wBefore.cell? ⟨N, 0, none⟩ = some (.int .i64 R) ∧ wBefore.cell? ⟨N, 1, none⟩ = some (.int .i64 C) ∧ wBefore.cell? ⟨N, 2, none⟩ = some (Value.slice ao zs.length cap) ∧ Rd wBefore b (Value.slice ao zs.length cap) zs ∧ w.heap.size ≤ wBefore.heap.size := hHeld
        go_simp
        refine hK.out _ _ ?_ (fun hHeld2 => ?_)
        · (try dsimp only); exact next3_1 (below1 _ _) hHeld
        clear hK K
        obtain ⟨wB, hWB⟩ : ∃ wB, wB = wBefore.alloc (Obj.cells #[.int .i64 1, .int .i64 2] 2) := ⟨_, rfl⟩
        obtain ⟨NB, hNB⟩ : ∃ NB, NB = wBefore.heap.size := ⟨_, rfl⟩
        have rdS : Rd wB NB (.slice (some ⟨NB, 0, none⟩) 2 2) [1, 2] := by
          refine ⟨some ⟨NB, 0, none⟩, 2, rfl, by simp, by unfold maxLen; omega, fun _ => ⟨0, rfl, by rw [hWB, hNB]; simp, fun i hi => ?_⟩⟩
          rcases (show i = 0 ∨ i = 1 by simp at hi; omega) with rfl | rfl <;> (rw [hWB, hNB]; simp [List.getD])
        rw [← hWB] at hHeld2
        simp only [← hWB, ← hNB]
        clear hHeld hHX hWB hNB
        have hHeld := hHeld2
        clear hHeld2
        (try simp only [Act.put, List.setIfInBounds_toArray, List.set_cons_zero, List.set_cons_succ, List.getElem_toArray, List.getElem_cons_succ, List.getElem_cons_zero])
        refine wpAnyH_ready (rs := [7]) ?_ (by simp) ?_
        · decide +kernel
        refine AllReadyH.cons rfl (fun K hK => ?_) AllReadyH.nil
        go_simp
        go_at_call 31
        refine (spinsFrom (gw_bel HGW.out hHeld.1) (rd3_1_0 hHeld) rdS HR.out HC.out HZ.out HP.out HKL.out.1 HKL.out.2.1 HKL.out.2.2).mono ?_
        rw [HQQ.out]
        rintro e w' ⟨rfl, bel⟩
        replace rdS := rdS.keep bel (Nat.le_refl _)
        refine hK.out _ _ ?_ (fun hHeld2 => ?_)
        · (try dsimp only); exact next3_1 bel hHeld
        clear hK K hHeld bel
        have hHeld := hHeld2
        clear hHeld2
        (try simp only [Act.put, List.setIfInBounds_toArray, List.set_cons_zero, List.set_cons_succ, List.getElem_toArray, List.getElem_cons_succ, List.getElem_cons_zero])
        (refine wpAnyH_take (i := 8) (v := ?_) rfl ?_ ?_ ?_ (fun _ _ _ h => h) (Or.inl ⟨?_, ?_⟩) ?_ ?_; rotate_left 1; (focus decide +kernel); (focus decide +kernel); (focus decide +kernel); (focus rfl); (focus (intro w hSw; (try dsimp only at hSw); go_simp; (try (with_reducible rfl)); done)); (focus assumption); (try simp only [Act.put, List.setIfInBounds_toArray, List.set_cons_zero, List.set_cons_succ, List.getElem_toArray, List.getElem_cons_succ, List.getElem_cons_zero]))
        (refine wpAnyH_take (i := 9) (v := ?_) rfl ?_ ?_ ?_ (fun _ _ _ h => h) (Or.inl ⟨?_, ?_⟩) ?_ ?_; rotate_left 1; (focus decide +kernel); (focus decide +kernel); (focus decide +kernel); (focus rfl); (focus (intro w hSw; (try dsimp only at hSw); go_simp; (try (with_reducible rfl)); done)); (focus assumption); (try simp only [Act.put, List.setIfInBounds_toArray, List.set_cons_zero, List.set_cons_succ, List.getElem_toArray, List.getElem_cons_succ, List.getElem_cons_zero]))
        (refine wpAnyH_take (i := 10) (v := ?_) rfl ?_ ?_ ?_ (fun _ _ _ h => h) (Or.inl ⟨?_, ?_⟩) ?_ ?_; rotate_left 1; (focus decide +kernel); (focus decide +kernel); (focus decide +kernel); (focus rfl); (focus (intro w hSw; (try dsimp only at hSw); go_simp; (try (with_reducible rfl)); done)); (focus assumption); (try simp only [Act.put, List.setIfInBounds_toArray, List.set_cons_zero, List.set_cons_succ, List.getElem_toArray, List.getElem_cons_succ, List.getElem_cons_zero]))
        refine wpAnyH_done (by kernel_rfl) ?_ _
        have HST2 := hid hHeld
        clear hHeld rdS
        go_wp2
        go_roundw
        case rel => exact ⟨t + 1, by omega, by go_num, by rw [HEN.out], HST2.out⟩
        case measure => simp [intOf]; omega
      · rename World => wBefore
        have hHX : Below w.heap.size w wBefore ∧ wBefore.cell? ⟨N, 0, none⟩ = some (.int .i64 R) ∧ wBefore.cell? ⟨N, 1, none⟩ = some (.int .i64 C) ∧ wBefore.cell? ⟨N, 2, none⟩ = some (Value.slice ao zs.length cap) ∧ Rd wBefore b (Value.slice ao zs.length cap) zs ∧ w.heap.size ≤ wBefore.heap.size := hHeld
        go_simp
        refine hK.out _ _ ?_ (fun hHeld2 => ?_)
        · (try dsimp only); exact next3_1 (below1 _ _) hHeld
        clear hK K
        obtain ⟨wB, hWB⟩ : ∃ wB, wB = wBefore.alloc (Obj.cells #[.int .i64 1, .int .i64 2] 2) := ⟨_, rfl⟩
        obtain ⟨NB, hNB⟩ : ∃ NB, NB = wBefore.heap.size := ⟨_, rfl⟩
        have rdS : Rd wB NB (.slice (some ⟨NB, 0, none⟩) 2 2) [1, 2] := by
          refine ⟨some ⟨NB, 0, none⟩, 2, rfl, by simp, by unfold maxLen; omega, fun _ => ⟨0, rfl, by rw [hWB, hNB]; simp, fun i hi => ?_⟩⟩
          rcases (show i = 0 ∨ i = 1 by simp at hi; omega) with rfl | rfl <;> (rw [hWB, hNB]; simp [List.getD])
        rw [← hWB] at hHeld2
        simp only [← hWB, ← hNB]
        clear hHeld hHX hWB hNB
        have hHeld := hHeld2
        clear hHeld2
        (try simp only [Act.put, List.setIfInBounds_toArray, List.set_cons_zero, List.set_cons_succ, List.getElem_toArray, List.getElem_cons_succ, List.getElem_cons_zero])
        refine wpAnyH_ready (rs := [3]) ?_ (by simp) ?_
        · decide +kernel
        refine AllReadyH.cons rfl (fun K hK => ?_) AllReadyH.nil
        go_simp
        go_at_call 30
        refine (spinAt (rd3_1_0 hHeld) HP.out HTN.out).mono ?_
        rw [HPP.out]
        rintro e w' ⟨rfl, bel⟩
        replace rdS := rdS.keep bel (Nat.le_refl _)
        refine hK.out _ _ ?_ (fun hHeld2 => ?_)
        · (try dsimp only); exact next3_1 bel hHeld
        clear hK K hHeld bel
        have hHeld := hHeld2
        clear hHeld2
        (try simp only [Act.put, List.setIfInBounds_toArray, List.set_cons_zero, List.set_cons_succ, List.getElem_toArray, List.getElem_cons_succ, List.getElem_cons_zero])
        refine wpAnyH_ready (rs := [7]) ?_ (by simp) ?_
        · decide +kernel
        refine AllReadyH.cons rfl (fun K hK => ?_) AllReadyH.nil
        go_simp
        go_at_call 31
        refine (spinsFrom (gw_bel HGW.out hHeld.1) (rd3_1_0 hHeld) rdS HR.out HC.out HZ.out HP.out HKL.out.1 HKL.out.2.1 HKL.out.2.2).mono ?_
        rw [HQQ.out]
        rintro e w' ⟨rfl, bel⟩
        replace rdS := rdS.keep bel (Nat.le_refl _)
        refine hK.out _ _ ?_ (fun hHeld2 => ?_)
        · (try dsimp only); exact next3_1 bel hHeld
        clear hK K hHeld bel
        have hHeld := hHeld2
        clear hHeld2
        (try simp only [Act.put, List.setIfInBounds_toArray, List.set_cons_zero, List.set_cons_succ, List.getElem_toArray, List.getElem_cons_succ, List.getElem_cons_zero])
        (refine wpAnyH_take (i := 8) (v := ?_) rfl ?_ ?_ ?_ (fun _ _ _ h => h) (Or.inl ⟨?_, ?_⟩) ?_ ?_; rotate_left 1; (focus decide +kernel); (focus decide +kernel); (focus decide +kernel); (focus rfl); (focus (intro w hSw; (try dsimp only at hSw); go_simp; (try (with_reducible rfl)); done)); (focus assumption); (try simp only [Act.put, List.setIfInBounds_toArray, List.set_cons_zero, List.set_cons_succ, List.getElem_toArray, List.getElem_cons_succ, List.getElem_cons_zero]))
        (refine wpAnyH_take (i := 9) (v := ?_) rfl ?_ ?_ ?_ (fun _ _ _ h => h) (Or.inl ⟨?_, ?_⟩) ?_ ?_; rotate_left 1; (focus decide +kernel); (focus decide +kernel); (focus decide +kernel); (focus rfl); (focus (intro w hSw; (try dsimp only at hSw); go_simp; (try (with_reducible rfl)); done)); (focus assumption); (try simp only [Act.put, List.setIfInBounds_toArray, List.set_cons_zero, List.set_cons_succ, List.getElem_toArray, List.getElem_cons_succ, List.getElem_cons_zero]))
        (refine wpAnyH_take (i := 10) (v := ?_) rfl ?_ ?_ ?_ (fun _ _ _ h => h) (Or.inl ⟨?_, ?_⟩) ?_ ?_; rotate_left 1; (focus decide +kernel); (focus decide +kernel); (focus decide +kernel); (focus rfl); (focus (intro w hSw; (try dsimp only at hSw); go_simp; (try (with_reducible rfl)); done)); (focus assumption); (try simp only [Act.put, List.setIfInBounds_toArray, List.set_cons_zero, List.set_cons_succ, List.getElem_toArray, List.getElem_cons_succ, List.getElem_cons_zero]))
        refine wpAnyH_done (by kernel_rfl) ?_ _
        have HST2 := hid hHeld
        clear hHeld rdS
        go_wp2
        go_roundw
        case rel => exact ⟨t + 1, by omega, by go_num, by rw [HEN.out], HST2.out⟩
        case measure => simp [intOf]; omega
    · have htn : t = zs.length := by omega
      have HB := hid st.1
      have HA : Hid (en zs R C (R * C) = a) := by simp only [Hid]; rw [ha, htn, HZ.out]
      clear st ha
      subst htn
      go_wp2
      go_ret2
      exact ⟨by rw [HA.out]; rfl, HB.out⟩

theorem agree (s r : Int) (zs : List Int) : ∃ (q0 : Int) (q1 : Bool), (∀ (w : World) (b : Nat) (v : Value), Rd w b v zs → Calls Tryd.prog 8 #[ruleV s r v] w fun e w' => e = .returned (.tuple #[.int .i64 q0, .bool q1]) ∧ Below w.heap.size w w') ∧ (∀ (w : World) (b : Nat) (v : Value), GW w → Rd w b v zs → Calls Tryd.prog 10 #[ruleV s r v] w fun e w' => e = .returned (.tuple #[.int .i64 q0, .bool q1]) ∧ Below w.heap.size w w') := by
  cases hq : (fieldB s r zs && allB zs 2) with
  | false => exact ⟨0, false, fun w b v h => specNo h hq, fun w b v _ h => implNo h hq⟩
  | true =>
    have hsr : 0 ≤ s ∧ 0 ≤ r := by
      have h := hq
      simp only [Bool.and_eq_true, fieldB] at h
      have h2 := h.1.1
      simp [sidesB] at h2
      omega
    obtain ⟨R, rfl⟩ := Int.eq_ofNat_of_zero_le hsr.1
    obtain ⟨C, rfl⟩ := Int.eq_ofNat_of_zero_le hsr.2
    exact ⟨-(en zs R C (R * C)), true, fun w b v h => specOk h hq, fun w b v hg h => implOk h hg hq⟩

end Go.Proofs.YtnpjhhkhdeomcaaDoor.En
