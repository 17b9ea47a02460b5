/- toldOf: what a rule tells for the cells of a neighbourhood; parts of slices. -/
import Derived.Test.YtbnndbciimfciaaDigP
import Derived.Test.YtbnndbciimfciaaTell
namespace Go.Proofs.Ytbnndbciimfciaa.Told
open Go.RowKit Go.Proofs.Ytbnndbciimfciaa.Rd Go.Proofs.Ytbnndbciimfciaa.Help Go.Proofs.Ytbnndbciimfciaa.Ring Go.Proofs.Ytbnndbciimfciaa.Small Go.Proofs.Ytbnndbciimfciaa.Keep Go.Proofs.Ytbnndbciimfciaa.Rule Go.Proofs.Ytbnndbciimfciaa.Dig Go.Proofs.Ytbnndbciimfciaa.DigP
set_option linter.unusedVariables false
set_option linter.unusedSimpArgs false

/-- A part of a slice. -/
theorem rd_part {w : World} {b o n cap : Nat} {zs : List Int} (h : Rd w b (.slice (some ⟨b, o, none⟩) n cap) zs) (i k : Nat) (hik : i + k ≤ zs.length) : Rd w b (.slice (some ⟨b, o + i, none⟩) k (cap - i)) ((zs.drop i).take k) := by
  obtain ⟨ao, c, h1, h2, h3, h4⟩ := h
  simp only [Value.slice.injEq] at h1
  obtain ⟨h1a, h1b, h1c⟩ := h1
  have hk : ((zs.drop i).take k).length = k := by simp; omega
  refine ⟨some ⟨b, o + i, none⟩, cap - i, by rw [hk], by rw [hk]; omega, by omega, fun h0 => ⟨o + i, rfl, ?_, fun j hj => ?_⟩⟩
  · rw [hk] at h0
    obtain ⟨_, _, hb, _⟩ := h4 (by omega)
    exact hb
  · rw [hk] at hj
    obtain ⟨off, h5, hb, hc⟩ := h4 (by omega)
    rw [← h1a] at h5
    simp only [Option.some.injEq, Addr.mk.injEq, true_and, and_true] at h5
    subst h5
    rw [Nat.add_assoc, hc (i + j) (by omega)]
    simp [List.getD, hj]

set_option maxHeartbeats 4000000 in
theorem toldOf {w : World} {s r : Int} {bt b : Nat} {vt v : Value} {tbl zs : List Int} (ht : Rd w bt vt tbl) (h : Rd w b v zs) (hs : 2 ≤ s ∧ s ≤ 3) (hz : zs.length ≤ 16) (ha : allB zs s = true) (hlt : numL zs s < (tbl.length : Int)) :
    Calls Try.prog 45 #[ruleV s r vt, v] w fun e w' => e = .returned (.int .i64 (tbl.getD (numL zs s).toNat 0)) ∧ Below w.heap.size w w' := by
  have HR := hid h
  have HS := hid hs
  have HZ := hid hz
  have HA := hid ha
  have hm := (numL_bd hs ha).1
  obtain ⟨m, hmm⟩ : ∃ m : Nat, numL zs s = m := ⟨_, (Int.toNat_of_nonneg hm).symm⟩
  have hml : m < tbl.length := by omega
  obtain ⟨ao, cap, rfl, _, _, h4⟩ := ht
  obtain ⟨off, rfl, hb, hcell⟩ := h4 (by omega)
  have hx : tbl.getD (numL zs s).toNat 0 = tbl.getD m 0 := by rw [hmm]; simp
  obtain ⟨x, hxx⟩ : ∃ x, x = tbl.getD m 0 := ⟨_, rfl⟩
  have hcx : w.cell? ⟨bt, off + m, none⟩ = some (.int .i64 x) := by rw [hxx]; exact hcell m hml
  rw [hx, ← hxx]
  have HM := hid hmm
  obtain ⟨n, hn⟩ : ∃ n, n = tbl.length := ⟨_, rfl⟩
  rw [← hn] at hml ⊢
  have hmi : (m : Int) < (n : Int) := by omega
  clear hm hmm h4 hcell hx hxx hn h hlt hs ha hz
  go_enter Try.func45, Try.ntmps45
  go_wp2_with fail
  obtain ⟨w1, hW⟩ : ∃ w1, w1 = w.alloc (Obj.cells #[.int .i64 s, .int .i64 r, (Value.slice (some ⟨bt, off, none⟩) n cap)] 28) := ⟨_, rfl⟩
  obtain ⟨N, hN⟩ : ∃ N, N = w.heap.size := ⟨_, rfl⟩
  have st : Below w.heap.size w w1 ∧ w1.cell? ⟨N, 0, none⟩ = some (.int .i64 s) ∧ w1.cell? ⟨N, 2, none⟩ = some (Value.slice (some ⟨bt, off, none⟩) n cap) ∧ w1.cell? ⟨bt, off + m, none⟩ = some (.int .i64 x) ∧ Rd w1 b v zs ∧ w.heap.size ≤ w1.heap.size := by
    rw [hW, hN]
    exact ⟨below1 _ _, by simp, by simp, cell_keep (below1 _ _) hcx, HR.out.keep (below1 _ _) (Nat.le_refl _), by simp⟩
  simp only [← hW, ← hN]
  clear hW hN hcx
  refine wp_region_held_drew (S := (fun ww => Below w.heap.size w ww ∧ ww.cell? ⟨N, 0, none⟩ = some (.int .i64 s) ∧ ww.cell? ⟨N, 2, none⟩ = some (Value.slice (some ⟨bt, off, none⟩) n cap) ∧ ww.cell? ⟨bt, off + m, none⟩ = some (.int .i64 x) ∧ Rd ww b v zs ∧ w.heap.size ≤ ww.heap.size)) (by kernel_rfl) ?_ (fun hHeld => ?_)
  · ((try dsimp only); exact drew3_1 st)
  (refine wpAnyH_take (i := 0) (v := ?_) rfl ?_ ?_ ?_ (fun _ _ _ h => h) (Or.inl ⟨?_, ?_⟩) ?_ ?_; rotate_left 1; (focus decide +kernel); (focus decide +kernel); (focus decide +kernel); (focus rfl); (focus (intro w hSw; (try dsimp only at hSw); go_simp; (try (with_reducible rfl)); done)); (focus assumption); (try simp only [Act.put, List.setIfInBounds_toArray, List.set_cons_zero, List.set_cons_succ, List.getElem_toArray, List.getElem_cons_succ, List.getElem_cons_zero]))
  (refine wpAnyH_take (i := 1) (v := ?_) rfl ?_ ?_ ?_ (fun _ _ _ h => h) (Or.inl ⟨?_, ?_⟩) ?_ ?_; rotate_left 1; (focus decide +kernel); (focus decide +kernel); (focus decide +kernel); (focus rfl); (focus (intro w hSw; (try dsimp only at hSw); go_simp; (try (with_reducible rfl)); done)); (focus assumption); (try simp only [Act.put, List.setIfInBounds_toArray, List.set_cons_zero, List.set_cons_succ, List.getElem_toArray, List.getElem_cons_succ, List.getElem_cons_zero]))
  (refine wpAnyH_take (i := 2) (v := ?_) rfl ?_ ?_ ?_ (fun _ _ _ h => h) (Or.inl ⟨?_, ?_⟩) ?_ ?_; rotate_left 1; (focus decide +kernel); (focus decide +kernel); (focus decide +kernel); (focus rfl); (focus (intro w hSw; (try dsimp only at hSw); go_simp; (try (with_reducible rfl)); done)); (focus assumption); (try simp only [Act.put, List.setIfInBounds_toArray, List.set_cons_zero, List.set_cons_succ, List.getElem_toArray, List.getElem_cons_succ, List.getElem_cons_zero]))
  (refine wpAnyH_take (i := 3) (v := ?_) rfl ?_ ?_ ?_ (fun _ _ _ h => h) (Or.inl ⟨?_, ?_⟩) ?_ ?_; rotate_left 1; (focus decide +kernel); (focus decide +kernel); (focus decide +kernel); (focus rfl); (focus (intro w hSw; (try dsimp only at hSw); go_simp; (try (with_reducible rfl)); done)); (focus assumption); (try simp only [Act.put, List.setIfInBounds_toArray, List.set_cons_zero, List.set_cons_succ, List.getElem_toArray, List.getElem_cons_succ, List.getElem_cons_zero]))
  (refine wpAnyH_take (i := 4) (v := ?_) rfl ?_ ?_ ?_ (fun _ _ _ h => h) (Or.inl ⟨?_, ?_⟩) ?_ ?_; rotate_left 1; (focus decide +kernel); (focus decide +kernel); (focus decide +kernel); (focus rfl); (focus (intro w hSw; (try dsimp only at hSw); go_simp; (try (with_reducible rfl)); done)); (focus assumption); (try simp only [Act.put, List.setIfInBounds_toArray, List.set_cons_zero, List.set_cons_succ, List.getElem_toArray, List.getElem_cons_succ, List.getElem_cons_zero]))
  refine wpAnyH_ready (rs := [5]) ?_ (by simp) ?_
  · decide +kernel
  refine AllReadyH.cons rfl (fun K hK => ?_) AllReadyH.nil
  go_simp
  go_at_call 22
  refine (implNumber (rd3_1_0 hHeld) HS.out HZ.out HA.out).mono ?_
  rw [HM.out]
  rintro e w4 ⟨rfl, hw4⟩
  subst hw4
  refine hK.out _ _ ?_ (fun hHeld => ?_)
  · (try dsimp only); exact hHeld
  clear hK K
  (try simp only [Act.put, List.setIfInBounds_toArray, List.set_cons_zero, List.set_cons_succ, List.getElem_toArray, List.getElem_cons_succ, List.getElem_cons_zero])
  (refine wpAnyH_take (i := 6) (v := ?_) rfl ?_ ?_ ?_ (fun _ _ _ h => h) (Or.inl ⟨?_, ?_⟩) ?_ ?_; rotate_left 1; (focus decide +kernel); (focus decide +kernel); (focus decide +kernel); (focus rfl); (focus (intro w hSw; (try dsimp only at hSw); go_simp; (try (with_reducible rfl)); done)); (focus assumption); (try simp only [Act.put, List.setIfInBounds_toArray, List.set_cons_zero, List.set_cons_succ, List.getElem_toArray, List.getElem_cons_succ, List.getElem_cons_zero]))
  (refine wpAnyH_take (i := 7) (v := ?_) rfl ?_ ?_ ?_ (fun _ _ _ h => h) (Or.inl ⟨?_, ?_⟩) ?_ ?_; rotate_left 1; (focus decide +kernel); (focus decide +kernel); (focus decide +kernel); (focus rfl); (focus (intro w hSw; (try dsimp only at hSw); go_simp; (try (with_reducible rfl)); done)); (focus assumption); (try simp only [Act.put, List.setIfInBounds_toArray, List.set_cons_zero, List.set_cons_succ, List.getElem_toArray, List.getElem_cons_succ, List.getElem_cons_zero]))
  (refine wpAnyH_take (i := 8) (v := ?_) rfl ?_ ?_ ?_ (fun _ _ _ h => h) (Or.inl ⟨?_, ?_⟩) ?_ ?_; rotate_left 1; (focus decide +kernel); (focus decide +kernel); (focus decide +kernel); (focus rfl); (focus (intro w hSw; (try dsimp only at hSw); go_simp; (try (with_reducible rfl)); done)); (focus assumption); (try simp only [Act.put, List.setIfInBounds_toArray, List.set_cons_zero, List.set_cons_succ, List.getElem_toArray, List.getElem_cons_succ, List.getElem_cons_zero]))
  refine wpAnyH_done (by kernel_rfl) ?_ _
  clear st
  go_wp2
  go_ret
  exact ⟨rfl, And.left hHeld⟩

end Go.Proofs.Ytbnndbciimfciaa.Told
