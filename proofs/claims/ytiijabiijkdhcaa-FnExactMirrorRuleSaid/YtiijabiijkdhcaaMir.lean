/- MirrorRule of both sides. -/
import Derived.Test.YtiijabiijkdhcaaTold
import Derived.Test.YtiijabiijkdhcaaWeigh
import Derived.Test.YtiijabiijkdhcaaWider
import Derived.Test.YtiijabiijkdhcaaAl
import Derived.Test.YtiijabiijkdhcaaSpec
namespace Go.Proofs.Ytiijabiijkdhcaa.Mir
open Go.RowKit Go.Proofs.Ytiijabiijkdhcaa.Rd Go.Proofs.Ytiijabiijkdhcaa.Help Go.Proofs.Ytiijabiijkdhcaa.App Go.Proofs.Ytiijabiijkdhcaa.Ring Go.Proofs.Ytiijabiijkdhcaa.Small Go.Proofs.Ytiijabiijkdhcaa.Num Go.Proofs.Ytiijabiijkdhcaa.Keep Go.Proofs.Ytiijabiijkdhcaa.Rule Go.Proofs.Ytiijabiijkdhcaa.Dig Go.Proofs.Ytiijabiijkdhcaa.DigP Go.Proofs.Ytiijabiijkdhcaa.Tell Go.Proofs.Ytiijabiijkdhcaa.Weigh
set_option linter.unusedVariables false
set_option linter.unusedSimpArgs false

/-- Behind k exchanges of the outer cells. -/
def rvk (zs : List Int) : Nat → List Int
  | 0 => zs
  | k + 1 => ((rvk zs k).set k (zs.getD (zs.length - 1 - k) 0)).set (zs.length - 1 - k) (zs.getD k 0)
theorem rvk_length (zs : List Int) (k : Nat) : (rvk zs k).length = zs.length := by
  induction k with
  | zero => rfl
  | succ k ih => simp [rvk, ih]
theorem rvk_mid (zs : List Int) (k : Nat) : ∀ i, k ≤ i → i + k + 1 ≤ zs.length → (rvk zs k).getD i 0 = zs.getD i 0 := by
  induction k with
  | zero => intro i _ _; rfl
  | succ k ih =>
    intro i h1 h2
    have h3 := ih i (by omega) (by omega)
    simp only [rvk, List.getD] at h3 ⊢
    rw [List.getElem?_set_ne (by omega), List.getElem?_set_ne (by omega)]
    exact h3
theorem rvk_all {zs : List Int} (h : zs.length = 1 ∨ zs.length = 3 ∨ zs.length = 5) (k : Nat) (hk : 2 * k + 1 = zs.length) : rvk zs k = zs.reverse := by
  rcases h with h | h | h
  · obtain rfl : k = 0 := by omega
    match zs, h with
    | [a], _ => rfl
  · obtain rfl : k = 1 := by omega
    match zs, h with
    | [a, b, c], _ => rfl
  · obtain rfl : k = 2 := by omega
    match zs, h with
    | [a, b, c, d, e], _ => rfl

set_option maxHeartbeats 4000000 in
theorem reverse {w : World} {b n : Nat} {zs : List Int} (h : Own 2 w b (.slice (some ⟨b, 0, none⟩) n n) zs) (hn : zs.length = n) (h135 : n = 1 ∨ n = 3 ∨ n = 5) :
    Calls Try.prog 80 #[.slice (some ⟨b, 0, none⟩) n n] w fun e w' => (∃ v, e = .returned v) ∧ Own 2 w' b (.slice (some ⟨b, 0, none⟩) n n) zs.reverse ∧ Below b w w' := by
  have Hn := hid hn
  have HO0 := hid h
  have hn5 : 1 ≤ n ∧ n ≤ 5 := by omega
  obtain ⟨n1, n2⟩ := hn5
  have H135 := hid h135
  clear h hn h135
  go_enter Try.func80, Try.ntmps80
  go_wp2
  go_loopw [2, 3] (fun i t wr => ∃ k : Nat, 2 * k ≤ n ∧ i = .int .i64 k ∧ t = .int .i64 ((n : Int) - 1 - k) ∧ Own 2 wr b (.slice (some ⟨b, 0, none⟩) n n) (rvk zs k) ∧ Below b w wr) (fun i _ _ => n - (intOf i).toNat)
  case atStart => exact ⟨0, by omega, rfl, by simp, HO0.out, Below.refl _ _⟩
  case round =>
    obtain ⟨k, hk, rfl, rfl, hown, bel⟩ := hrel
    have hn := Hn.out
    by_cases hlt : (k : Int) < (n : Int) - 1 - k
    · obtain ⟨j, hj⟩ : ∃ j : Nat, (n : Int) - 1 - k = j := ⟨n - 1 - k, by omega⟩
      have hj2 : zs.length - 1 - k = j := by omega
      have hkj : (k : Int) < (j : Int) := by omega
      have hkn : (k : Int) < (n : Int) := by omega
      have hjn : (j : Int) < (n : Int) := by omega
      obtain ⟨X, hX⟩ : ∃ X, X = zs.getD k 0 := ⟨_, rfl⟩
      obtain ⟨Y, hY⟩ : ∃ Y, Y = zs.getD j 0 := ⟨_, rfl⟩
      have HX : Hid ((rvk zs k).getD k 0 = X) := by simp only [Hid]; rw [hX]; exact rvk_mid zs k k (Nat.le_refl _) (by omega)
      have HY : Hid ((rvk zs k).getD j 0 = Y) := by simp only [Hid]; rw [hY]; exact rvk_mid zs k j (by omega) (by omega)
      have HYs : Hid (((rvk zs k).set k Y).getD j 0 = Y) := by
        have := HY.out
        simp only [Hid, List.getD] at this ⊢
        rw [List.getElem?_set_ne (by omega)]; exact this
      have HNx : Hid (rvk zs (k + 1) = ((rvk zs k).set k Y).set j X) := by simp only [Hid, rvk]; rw [hj2, hX, hY]
      have HJ := hid hj
      rw [hj]
      have HO := hid hown
      clear hown hX hY hj hj2 hlt
      go_wp2_with fail
      refine wp_region_held_drew (S := (fun ww => Below b w ww)) (by kernel_rfl) ?_ (fun hHeld => ?_)
      · ((try dsimp only); exact bel.drew)
      generalize hD : wr.drew = wD at hHeld ⊢
      have oR : Own 2 wD b (.slice (some ⟨b, 0, none⟩) n n) (rvk zs k) := by rw [← hD]; exact HO.out
      clear hD bel
      (refine wpAnyH_take (i := 0) (v := ?_) rfl ?_ ?_ ?_ (fun _ _ _ h => h) (Or.inl ⟨?_, ?_⟩) ?_ ?_; rotate_left 1; (focus decide +kernel); (focus decide +kernel); (focus decide +kernel); (focus rfl); (focus (intro w hSw; (try dsimp only at hSw); go_simp; (try (with_reducible rfl)); done)); (focus assumption); (try simp only [Act.put, List.setIfInBounds_toArray, List.set_cons_zero, List.set_cons_succ, List.getElem_toArray, List.getElem_cons_succ, List.getElem_cons_zero]))
      (refine wpAnyH_take (i := 1) (v := ?_) rfl ?_ ?_ ?_ (fun _ _ _ h => h) (Or.inl ⟨?_, ?_⟩) ?_ ?_; rotate_left 1; (focus decide +kernel); (focus decide +kernel); (focus decide +kernel); (focus rfl); (focus (intro w hSw; (try dsimp only at hSw); go_simp; (try (with_reducible rfl)); done)); (focus assumption); (try simp only [Act.put, List.setIfInBounds_toArray, List.set_cons_zero, List.set_cons_succ, List.getElem_toArray, List.getElem_cons_succ, List.getElem_cons_zero]))
      (refine wpAnyH_take (i := 2) (v := ?_) rfl ?_ ?_ ?_ (fun _ _ _ h => h) (Or.inl ⟨?_, ?_⟩) ?_ ?_; rotate_left 1; (focus decide +kernel); (focus decide +kernel); (focus decide +kernel); (focus rfl); (focus (intro w hSw; (try dsimp only at hSw); go_simp; (try (with_reducible rfl)); done)); (focus assumption); (try simp only [Act.put, List.setIfInBounds_toArray, List.set_cons_zero, List.set_cons_succ, List.getElem_toArray, List.getElem_cons_succ, List.getElem_cons_zero]))
      (refine wpAnyH_take (i := 3) (v := ?_) rfl ?_ ?_ ?_ (fun _ _ _ h => h) (Or.inl ⟨?_, ?_⟩) ?_ ?_; rotate_left 1; (focus decide +kernel); (focus decide +kernel); (focus decide +kernel); (focus rfl); (focus (intro w hSw; (try dsimp only at hSw); go_simp; (try (with_reducible rfl)); done)); (focus assumption); (try simp only [Act.put, List.setIfInBounds_toArray, List.set_cons_zero, List.set_cons_succ, List.getElem_toArray, List.getElem_cons_succ, List.getElem_cons_zero]))
      (refine wpAnyH_take (i := 4) (v := ?_) rfl ?_ ?_ ?_ (fun _ _ _ h => h) (Or.inl ⟨?_, ?_⟩) ?_ ?_; rotate_left 1; (focus decide +kernel); (focus decide +kernel); (focus decide +kernel); (focus rfl); (focus (intro w hSw; (try dsimp only at hSw); go_simp; (try (with_reducible rfl)); done)); (focus assumption); (try simp only [Act.put, List.setIfInBounds_toArray, List.set_cons_zero, List.set_cons_succ, List.getElem_toArray, List.getElem_cons_succ, List.getElem_cons_zero]))
      (refine wpAnyH_take (i := 5) (v := ?_) rfl ?_ ?_ ?_ (fun _ _ _ h => h) (Or.inl ⟨?_, ?_⟩) ?_ ?_; rotate_left 1; (focus decide +kernel); (focus decide +kernel); (focus decide +kernel); (focus rfl); (focus (intro w hSw; (try dsimp only at hSw); go_simp; (try (with_reducible rfl)); done)); (focus assumption); (try simp only [Act.put, List.setIfInBounds_toArray, List.set_cons_zero, List.set_cons_succ, List.getElem_toArray, List.getElem_cons_succ, List.getElem_cons_zero]))
      (refine wpAnyH_take (i := 6) (v := ?_) rfl ?_ ?_ ?_ (fun _ _ _ h => h) (Or.inl ⟨?_, ?_⟩) ?_ ?_; rotate_left 1; (focus decide +kernel); (focus decide +kernel); (focus decide +kernel); (focus rfl); (focus (intro w hSw; (try dsimp only at hSw); go_simp; (try (with_reducible rfl)); done)); (focus assumption); (try simp only [Act.put, List.setIfInBounds_toArray, List.set_cons_zero, List.set_cons_succ, List.getElem_toArray, List.getElem_cons_succ, List.getElem_cons_zero]))
      (refine wpAnyH_take (i := 8) (v := ?_) rfl ?_ ?_ ?_ (fun _ _ _ h => h) (Or.inl ⟨?_, ?_⟩) ?_ ?_; rotate_left 1; (focus decide +kernel); (focus decide +kernel); (focus decide +kernel); (focus rfl); (focus (intro w hSw; (try dsimp only at hSw); go_simp; (try (with_reducible rfl)); done)); (focus assumption); (try simp only [Act.put, List.setIfInBounds_toArray, List.set_cons_zero, List.set_cons_succ, List.getElem_toArray, List.getElem_cons_succ, List.getElem_cons_zero]))
      (refine wpAnyH_take (i := 9) (v := ?_) rfl ?_ ?_ ?_ (fun _ _ _ h => h) (Or.inl ⟨?_, ?_⟩) ?_ ?_; rotate_left 1; (focus decide +kernel); (focus decide +kernel); (focus decide +kernel); (focus rfl); (focus (intro w hSw; (try dsimp only at hSw); go_simp; (try (with_reducible rfl)); done)); (focus assumption); (try simp only [Act.put, List.setIfInBounds_toArray, List.set_cons_zero, List.set_cons_succ, List.getElem_toArray, List.getElem_cons_succ, List.getElem_cons_zero]))
      (refine wpAnyH_take (i := 10) (v := ?_) rfl ?_ ?_ ?_ (fun _ _ _ h => h) (Or.inl ⟨?_, ?_⟩) ?_ ?_; rotate_left 1; (focus decide +kernel); (focus decide +kernel); (focus decide +kernel); (focus rfl); (focus (intro w hSw; (try dsimp only at hSw); go_simp; (try (with_reducible rfl)); done)); (focus assumption); (try simp only [Act.put, List.setIfInBounds_toArray, List.set_cons_zero, List.set_cons_succ, List.getElem_toArray, List.getElem_cons_succ, List.getElem_cons_zero]))
      refine wpAnyH_ready (rs := [7, 11]) ?_ (by simp) ?_
      · decide +kernel
      refine AllReadyH.cons rfl (fun K hK => ?_) (AllReadyH.cons rfl (fun K hK => ?_) AllReadyH.nil)
      · have kv : wD.cell? ⟨b, j, none⟩ = some (.int .i64 Y) := by have := oR.cell (i := j) (by rw [rvk_length]; omega); rw [HY.out] at this; exact this
        go_simp
        refine hK.out _ _ ?_ (fun hHeld => ?_)
        · (try dsimp only); exact hHeld
        clear hK K kv
        (try simp only [Act.put, List.setIfInBounds_toArray, List.set_cons_zero, List.set_cons_succ, List.getElem_toArray, List.getElem_cons_succ, List.getElem_cons_zero])
        refine wpAnyH_ready (rs := [11]) ?_ (by simp) ?_
        · decide +kernel
        refine AllReadyH.cons rfl (fun K hK => ?_) AllReadyH.nil
        have kv : wD.cell? ⟨b, k, none⟩ = some (.int .i64 X) := by have := oR.cell (i := k) (by rw [rvk_length]; omega); rw [HX.out] at this; exact this
        go_simp
        refine hK.out _ _ ?_ (fun hHeld => ?_)
        · (try dsimp only); exact hHeld
        clear hK K kv
        (try simp only [Act.put, List.setIfInBounds_toArray, List.set_cons_zero, List.set_cons_succ, List.getElem_toArray, List.getElem_cons_succ, List.getElem_cons_zero])
        (refine wpAnyH_take (i := 12) (v := ?_) rfl ?_ ?_ ?_ (fun _ _ _ h => h) (Or.inl ⟨?_, ?_⟩) ?_ ?_; rotate_left 1; (focus decide +kernel); (focus decide +kernel); (focus decide +kernel); (focus rfl); (focus (intro w hSw; (try dsimp only at hSw); go_simp; (try (with_reducible rfl)); done)); (focus assumption); (try simp only [Act.put, List.setIfInBounds_toArray, List.set_cons_zero, List.set_cons_succ, List.getElem_toArray, List.getElem_cons_succ, List.getElem_cons_zero]))
        refine wpAnyH_ready (rs := [13]) ?_ (by simp) ?_
        · decide +kernel
        refine AllReadyH.cons rfl (fun K hK => ?_) AllReadyH.nil
        have kv : wD.cell? ⟨b, k, none⟩ = some (.int .i64 X) := by have := oR.cell (i := k) (by rw [rvk_length]; omega); rw [HX.out] at this; exact this
        have kf := oR.free k
        go_simp
        have oS := oR.set k Y
        have bS := hHeld.setCell (p := ⟨b, k, none⟩) (Nat.le_refl _) (.int .i64 Y)
        obtain ⟨wE, hW⟩ : ∃ wE, wE = wD.setCell ⟨b, k, none⟩ (.int .i64 Y) := ⟨_, rfl⟩
        rw [← hW] at oS bS
        refine hK.out _ _ ?_ (fun hHeld2 => ?_)
        · (try dsimp only); rw [← hW]; exact bS
        clear hK K hHeld2 hHeld
        have hHeld := bS
        simp only [← hW]
        clear hW bS kv kf
        (try simp only [Act.put, List.setIfInBounds_toArray, List.set_cons_zero, List.set_cons_succ, List.getElem_toArray, List.getElem_cons_succ, List.getElem_cons_zero])
        (refine wpAnyH_take (i := 14) (v := ?_) rfl ?_ ?_ ?_ (fun _ _ _ h => h) (Or.inl ⟨?_, ?_⟩) ?_ ?_; rotate_left 1; (focus decide +kernel); (focus decide +kernel); (focus decide +kernel); (focus rfl); (focus (intro w hSw; (try dsimp only at hSw); go_simp; (try (with_reducible rfl)); done)); (focus assumption); (try simp only [Act.put, List.setIfInBounds_toArray, List.set_cons_zero, List.set_cons_succ, List.getElem_toArray, List.getElem_cons_succ, List.getElem_cons_zero]))
        refine wpAnyH_ready (rs := [15]) ?_ (by simp) ?_
        · decide +kernel
        refine AllReadyH.cons rfl (fun K hK => ?_) AllReadyH.nil
        have kv : wE.cell? ⟨b, j, none⟩ = some (.int .i64 Y) := by have := oS.cell (i := j) (by rw [List.length_set, rvk_length]; omega); rw [HYs.out] at this; exact this
        have kf := oS.free j
        go_simp
        have oT := oS.set j X
        have bS := hHeld.setCell (p := ⟨b, j, none⟩) (Nat.le_refl _) (.int .i64 X)
        obtain ⟨wF, hW⟩ : ∃ wF, wF = wE.setCell ⟨b, j, none⟩ (.int .i64 X) := ⟨_, rfl⟩
        rw [← hW] at oT bS
        refine hK.out _ _ ?_ (fun hHeld2 => ?_)
        · (try dsimp only); rw [← hW]; exact bS
        clear hK K hHeld2 hHeld
        have hHeld := bS
        simp only [← hW]
        clear hW bS kv kf
        (try simp only [Act.put, List.setIfInBounds_toArray, List.set_cons_zero, List.set_cons_succ, List.getElem_toArray, List.getElem_cons_succ, List.getElem_cons_zero])
        refine wpAnyH_done (by kernel_rfl) ?_ _
        have OT := hid oT
        have BT := hid hHeld
        clear hHeld oT oS oR
        go_wp2
        go_roundw
        case rel => exact ⟨k + 1, by have := HJ.out; omega, by go_num, by have := HJ.out; go_num, by rw [HNx.out]; exact OT.out, BT.out⟩
        case measure => simp [intOf]; omega
      · have kv : wD.cell? ⟨b, k, none⟩ = some (.int .i64 X) := by have := oR.cell (i := k) (by rw [rvk_length]; omega); rw [HX.out] at this; exact this
        go_simp
        refine hK.out _ _ ?_ (fun hHeld => ?_)
        · (try dsimp only); exact hHeld
        clear hK K kv
        (try simp only [Act.put, List.setIfInBounds_toArray, List.set_cons_zero, List.set_cons_succ, List.getElem_toArray, List.getElem_cons_succ, List.getElem_cons_zero])
        refine wpAnyH_ready (rs := [7]) ?_ (by simp) ?_
        · decide +kernel
        refine AllReadyH.cons rfl (fun K hK => ?_) AllReadyH.nil
        have kv : wD.cell? ⟨b, j, none⟩ = some (.int .i64 Y) := by have := oR.cell (i := j) (by rw [rvk_length]; omega); rw [HY.out] at this; exact this
        go_simp
        refine hK.out _ _ ?_ (fun hHeld => ?_)
        · (try dsimp only); exact hHeld
        clear hK K kv
        (try simp only [Act.put, List.setIfInBounds_toArray, List.set_cons_zero, List.set_cons_succ, List.getElem_toArray, List.getElem_cons_succ, List.getElem_cons_zero])
        (refine wpAnyH_take (i := 12) (v := ?_) rfl ?_ ?_ ?_ (fun _ _ _ h => h) (Or.inl ⟨?_, ?_⟩) ?_ ?_; rotate_left 1; (focus decide +kernel); (focus decide +kernel); (focus decide +kernel); (focus rfl); (focus (intro w hSw; (try dsimp only at hSw); go_simp; (try (with_reducible rfl)); done)); (focus assumption); (try simp only [Act.put, List.setIfInBounds_toArray, List.set_cons_zero, List.set_cons_succ, List.getElem_toArray, List.getElem_cons_succ, List.getElem_cons_zero]))
        refine wpAnyH_ready (rs := [13]) ?_ (by simp) ?_
        · decide +kernel
        refine AllReadyH.cons rfl (fun K hK => ?_) AllReadyH.nil
        have kv : wD.cell? ⟨b, k, none⟩ = some (.int .i64 X) := by have := oR.cell (i := k) (by rw [rvk_length]; omega); rw [HX.out] at this; exact this
        have kf := oR.free k
        go_simp
        have oS := oR.set k Y
        have bS := hHeld.setCell (p := ⟨b, k, none⟩) (Nat.le_refl _) (.int .i64 Y)
        obtain ⟨wE, hW⟩ : ∃ wE, wE = wD.setCell ⟨b, k, none⟩ (.int .i64 Y) := ⟨_, rfl⟩
        rw [← hW] at oS bS
        refine hK.out _ _ ?_ (fun hHeld2 => ?_)
        · (try dsimp only); rw [← hW]; exact bS
        clear hK K hHeld2 hHeld
        have hHeld := bS
        simp only [← hW]
        clear hW bS kv kf
        (try simp only [Act.put, List.setIfInBounds_toArray, List.set_cons_zero, List.set_cons_succ, List.getElem_toArray, List.getElem_cons_succ, List.getElem_cons_zero])
        (refine wpAnyH_take (i := 14) (v := ?_) rfl ?_ ?_ ?_ (fun _ _ _ h => h) (Or.inl ⟨?_, ?_⟩) ?_ ?_; rotate_left 1; (focus decide +kernel); (focus decide +kernel); (focus decide +kernel); (focus rfl); (focus (intro w hSw; (try dsimp only at hSw); go_simp; (try (with_reducible rfl)); done)); (focus assumption); (try simp only [Act.put, List.setIfInBounds_toArray, List.set_cons_zero, List.set_cons_succ, List.getElem_toArray, List.getElem_cons_succ, List.getElem_cons_zero]))
        refine wpAnyH_ready (rs := [15]) ?_ (by simp) ?_
        · decide +kernel
        refine AllReadyH.cons rfl (fun K hK => ?_) AllReadyH.nil
        have kv : wE.cell? ⟨b, j, none⟩ = some (.int .i64 Y) := by have := oS.cell (i := j) (by rw [List.length_set, rvk_length]; omega); rw [HYs.out] at this; exact this
        have kf := oS.free j
        go_simp
        have oT := oS.set j X
        have bS := hHeld.setCell (p := ⟨b, j, none⟩) (Nat.le_refl _) (.int .i64 X)
        obtain ⟨wF, hW⟩ : ∃ wF, wF = wE.setCell ⟨b, j, none⟩ (.int .i64 X) := ⟨_, rfl⟩
        rw [← hW] at oT bS
        refine hK.out _ _ ?_ (fun hHeld2 => ?_)
        · (try dsimp only); rw [← hW]; exact bS
        clear hK K hHeld2 hHeld
        have hHeld := bS
        simp only [← hW]
        clear hW bS kv kf
        (try simp only [Act.put, List.setIfInBounds_toArray, List.set_cons_zero, List.set_cons_succ, List.getElem_toArray, List.getElem_cons_succ, List.getElem_cons_zero])
        refine wpAnyH_done (by kernel_rfl) ?_ _
        have OT := hid oT
        have BT := hid hHeld
        clear hHeld oT oS oR
        go_wp2
        go_roundw
        case rel => exact ⟨k + 1, by have := HJ.out; omega, by go_num, by have := HJ.out; go_num, by rw [HNx.out]; exact OT.out, BT.out⟩
        case measure => simp [intOf]; omega
    · have hfin : rvk zs k = zs.reverse := rvk_all (by have := H135.out; omega) k (by have := H135.out; omega)
      rw [hfin] at hown
      have HO := hid hown
      have HB := hid bel
      clear hfin hown bel hn
      go_wp2
      go_end0
      exact ⟨⟨_, rfl⟩, HO.out, HB.out⟩

set_option maxHeartbeats 4000000 in
theorem specBack {w : World} {b n : Nat} {zs : List Int} (h : Own 2 w b (.slice (some ⟨b, 0, none⟩) n n) zs) (hn : zs.length = n) (h5 : n ≤ 100) :
    Calls Try.prog 75 #[.slice (some ⟨b, 0, none⟩) n n] w fun e w' => ∃ v' b', e = .returned v' ∧ Own 2 w' b' v' zs.reverse ∧ w.heap.size ≤ b' ∧ Below w.heap.size w w' := by
  have Hn := hid hn
  have HO0 := hid h
  have hsz := h.lt
  have HSz := hid hsz
  obtain ⟨RL, hRL⟩ : ∃ RL, RL = zs.reverse := ⟨_, rfl⟩
  have HRL := hid hRL
  have hrl : RL.length = n := by rw [hRL]; simp; omega
  have HRl := hid hrl
  rw [← hRL]
  clear h hn hsz hRL hrl
  go_enter Try.func75, Try.ntmps75
  go_wp2
  go_loopw [3, 4] (fun v t wr => ∃ k : Nat, k ≤ n ∧ t = .int .i64 ((n : Int) - 1 - k) ∧ wr.ownsRow w.heap.size 2 1 v (RL.take k).length ((RL.take k).map (Value.int .i64)) ∧ Below w.heap.size w wr) (fun _ t _ => (intOf t + 1).toNat)
  case atStart => exact ⟨0, Nat.zero_le _, by simp, by simpa using World.ownsRow_lit (base := w.heap.size) (e := 2) (size := 1) w #[] 0 (Nat.le_refl _) (by simp) (by simp), (Below.refl _ _).alloc (Nat.le_refl _) _⟩
  case round =>
    obtain ⟨k, hk, rfl, hown, hbel⟩ := hrel
    have hn := Hn.out
    by_cases hlt : k < n
    · obtain ⟨j, hj⟩ : ∃ j : Nat, (n : Int) - 1 - k = j := ⟨n - 1 - k, by omega⟩
      have hj2 : n - 1 - k = j := by omega
      have hjn : (j : Int) < (n : Int) := by omega
      obtain ⟨Y, hY⟩ : ∃ Y, Y = zs.getD j 0 := ⟨_, rfl⟩
      have hcx : wr.cell? ⟨b, j, none⟩ = some (.int .i64 Y) := by rw [hY]; exact (hbel.cell (p := ⟨b, j, none⟩) HSz.out).trans (HO0.out.cell (by omega))
      have HT : Hid (RL.take (k + 1) = RL.take k ++ [Y]) := by
        simp only [Hid, HRL.out]
        rw [List.take_succ_eq_append_getElem (by simp; omega)]
        congr 2
        rw [List.getElem_reverse, hY]
        have e : zs.length - 1 - k = j := by omega
        simp only [e]
        simp [List.getD, show j < zs.length by omega]
      obtain ⟨TK, hTK⟩ : ∃ TK, TK = RL.take k := ⟨_, rfl⟩
      have HTl : Hid (TK.length ≤ 100) := by simp only [Hid]; rw [hTK, List.length_take]; omega
      rw [← hTK] at hown HT
      have HO := hid hown
      have HB := hid hbel
      have HJ := hid hj
      rw [hj]
      clear hTK
      clear hown hbel hY hj hj2
      go_wp2_with (first | (at_builtin; refine append1 rfl _ _ rfl w.heap.size _ _ rfl HO.out _ rfl ?c1 ?c2 ?_) | go_in)
      case c1 => have := HTl.out; omega
      case c2 => exact HB.out.size
      · intro v' w9 hown9 hbel9
        have HO9 := hid hown9
        have HB9 := hid (HB.out.trans hbel9)
        clear hown9 hbel9
        go_wp2
        go_roundw
        case rel =>
          refine ⟨k + 1, by omega, by have := HJ.out; go_num, ?_, HB9.out⟩
          rw [HT.out, List.map_append, List.length_append]
          exact HO9.out
        case measure => have := HJ.out; simp [intOf] <;> omega
    · have hkn : k = n := by omega
      have e0 : ((n : Int) - 1 - k) = -1 := by omega
      have et : RL.take k = RL := by rw [List.take_of_length_le]; have := HRl.out; omega
      rw [e0]
      rw [et] at hown
      obtain ⟨b', hb', o'⟩ := Own.of hown
      have HO := hid o'
      have HLo := hid hb'
      have HB := hid hbel
      rcases o'.form with ⟨rfl, _⟩ | ⟨c', rfl, _⟩
      all_goals
        clear hown hbel o' hb' et e0 hkn hn
        go_wp2
        go_ret
        exact ⟨_, b', rfl, HO.out, HLo.out, HB.out⟩


def mirT (s : Int) (tbl : List Int) (L k : Nat) : Int := tbl.getD (numL (dig s k L).reverse s).toNat 0
theorem mir_facts {s : Int} (hs : 2 ≤ s ∧ s ≤ 3) {tbl : List Int} {L : Nat} (hl : (tbl.length : Int) = s ^ L) (k : Nat) :
    (dig s k L).reverse.length = L ∧ allB (dig s k L).reverse s = true ∧ numL (dig s k L).reverse s < (tbl.length : Int) := by
  have h1 : (dig s k L).reverse.length = L := by rw [List.length_reverse, dig_length]
  have h2 : allB (dig s k L).reverse s = true := by
    have := dig_all hs (k : Int) L
    unfold allB at this ⊢
    rw [List.all_reverse]; exact this
  have h3 := (numL_bd hs h2).2
  rw [h1, ← hl] at h3
  exact ⟨h1, h2, h3⟩

set_option maxHeartbeats 4000000 in
theorem closure {w : World} {NR b bt k L : Nat} {s r : Int} {vt : Value} {tbl : List Int} (c0 : w.cell? ⟨NR, 0, none⟩ = some (.int .i64 s)) (c1 : w.cell? ⟨NR, 1, none⟩ = some (.int .i64 r)) (c2 : w.cell? ⟨NR, 2, none⟩ = some vt) (ht : Rd w bt vt tbl)
    (hNR : NR < b) (hbt : bt < b) (hs : 2 ≤ s ∧ s ≤ 3) (hl : (tbl.length : Int) = s ^ L) (hL : L = 1 ∨ L = 3 ∨ L = 5) (h : Own 2 w b (.slice (some ⟨b, 0, none⟩) L L) (dig s k L)) :
    Calls Try.prog 79 #[.slice (some ⟨b, 0, none⟩) L L, .pointer (some ⟨NR, 0, none⟩)] w fun e w' => e = .returned (.int .i64 (mirT s tbl L k)) ∧ Below b w w' := by
  obtain ⟨f1, f2, f3⟩ := mir_facts hs hl k
  obtain ⟨zs, hzs⟩ : ∃ zs, zs = (dig s k L).reverse := ⟨_, rfl⟩
  have hT : mirT s tbl L k = tbl.getD (numL zs s).toNat 0 := by rw [hzs]; rfl
  rw [hT]
  have hrev := reverse h (dig_length _ _ _) hL
  rw [← hzs] at f1 f2 f3 hrev
  have HRev := hid hrev
  have HS := hid hs
  have HZ : Hid (zs.length ≤ 16) := by simp only [Hid]; omega
  have HA := hid f2
  have HLt := hid f3
  have ht' := ht
  obtain ⟨ao, cap, rfl, _, _, _⟩ := ht'
  have HC0 := hid c0
  have HC1 := hid c1
  have HC2 := hid c2
  have HTb := hid ht
  have HNR := hid hNR
  have HBT := hid hbt
  clear hT hzs f1 f2 f3 hrev h hs hl hL c0 c1 c2 ht hNR hbt
  go_enter Try.func79, Try.ntmps79
  go_wp2_with fail
  go_at_call 80
  refine HRev.out.mono ?_
  rintro e w2 ⟨⟨v, rfl⟩, own, bel⟩
  have e0 : w2.cell? ⟨NR, 0, none⟩ = some (.int .i64 s) := (bel.cell (p := ⟨NR, 0, none⟩) HNR.out).trans HC0.out
  have e1 : w2.cell? ⟨NR, 1, none⟩ = some (.int .i64 r) := (bel.cell (p := ⟨NR, 1, none⟩) HNR.out).trans HC1.out
  have e2 : w2.cell? ⟨NR, 2, none⟩ = some (Value.slice ao tbl.length cap) := (bel.cell (p := ⟨NR, 2, none⟩) HNR.out).trans HC2.out
  have HO := hid own
  have HB := hid bel
  have HTb2 := hid (HTb.out.keepAt bel HBT.out)
  clear own bel
  go_wp2_with fail
  go_at_call 81
  refine (Told.toldOf HTb2.out HO.out.rd HS.out HZ.out HA.out HLt.out).mono ?_
  rintro e w3 ⟨rfl, bel⟩
  have HB3 := hid (HB.out.trans (bel.mono (Nat.le_of_lt HO.out.lt)))
  clear bel
  go_wp2
  go_ret
  exact ⟨rfl, HB3.out⟩

set_option maxHeartbeats 8000000 in
theorem tellMir {w : World} {s r : Int} {M L : Nat} (hs : 2 ≤ s ∧ s ≤ 3) (hr : 0 ≤ r ∧ r ≤ 2) (hM : (M : Int) = s ^ (2 * r + 1).toNat) (hL : L = (2 * r + 1).toNat) {k0 : Value} (T : Nat → Int)
    (h : ∀ k, k < M → ∀ (wr : World) (b : Nat), Below w.heap.size w wr → w.heap.size ≤ b → Own 2 wr b (.slice (some ⟨b, 0, none⟩) L L) (dig s k L) →
      Calls Try.prog 79 #[.slice (some ⟨b, 0, none⟩) L L, k0] wr fun e w' => e = .returned (.int .i64 (T k)) ∧ Below b wr w') :
    Calls Try.prog 59 #[shapeV s r, .func (.func 79) #[] #[k0]] w fun e w' => ∃ b', e = .returned (ruleV s r (.slice (some ⟨b', 0, none⟩) M M)) ∧
      Own 2 w' b' (.slice (some ⟨b', 0, none⟩) M M) (tab T M) ∧ w.heap.size ≤ b' ∧ Below w.heap.size w w' := by
  have HS := hid hs
  have HR := hid hr
  have H := hid h
  have HLL := hid hL
  have HM := hid hM
  have hM2 : 1 ≤ M ∧ M ≤ 243 := by
    have := pow_bd hs (show (2 * r + 1).toNat ≤ 5 by omega)
    omega
  obtain ⟨m1, m2⟩ := hM2
  have HW : Hid (0 ≤ 2 * r + 1 ∧ 2 * r + 1 ≤ 64) := by simp only [Hid]; omega
  have hmk := run_make_row' (P := Try.prog) 22 2 (.int .i64 0) 8 Try.underlying22 infoI rfl .i64 .i64 M (by omega) (by omega)
  have HMk := hid hmk
  clear h hs hr hM hL
  go_enter Try.func59, Try.ntmps59
  go_wp2_with fail
  obtain ⟨w1, hW⟩ : ∃ w1, w1 = (w.alloc (Obj.cells #[.int .i64 s, .int .i64 r] 55)).alloc (Obj.cells #[.int .i64 0, .int .i64 0, .slice none 0 0] 24) := ⟨_, rfl⟩
  obtain ⟨NS, hN⟩ : ∃ NS, NS = w.heap.size := ⟨_, rfl⟩
  have st : Below w.heap.size w w1 ∧ w1.cell? ⟨NS, 0, none⟩ = some (.int .i64 s) ∧ w1.cell? ⟨NS, 1, none⟩ = some (.int .i64 r) ∧ w.heap.size ≤ w1.heap.size := by
    rw [hW, hN]
    exact ⟨Go.Joins.below_alloc2 _ _ _, by simp, by simp, by simp; omega⟩
  have kb : w1.heap[NS + 1]? = some (Obj.cells #[.int .i64 0, .int .i64 0, .slice none 0 0] 24) := by
    rw [hW, hN]
    have := heap_alloc_new (w.alloc (Obj.cells #[.int .i64 s, .int .i64 r] 55)) (Obj.cells #[.int .i64 0, .int .i64 0, .slice none 0 0] 24)
    simpa using this
  have hsz : w1.heap.size = NS + 2 := by rw [hW, hN]; simp
  have HNE := hid hN
  simp only [← hW, ← hN]
  clear hW hN
  go_at_call 108
  refine (kinds HS.out HR.out).mono ?_
  rw [← HM.out]
  rintro e w2 ⟨rfl, bel⟩
  replace kb := (bel.block _ (by omega)).trans kb
  replace st := next2_0 bel st
  have hsz2 := bel.size
  clear bel
  have hmk := HMk.out
  go_wp2_with fail
  have HKB := hid kb
  have ST := hid st
  obtain ⟨b0, hb0⟩ : ∃ b0, b0 = w2.heap.size := ⟨_, rfl⟩
  have HB0 := hid hb0
  have HNS : Hid (NS < b0) := by simp only [Hid]; omega
  have HN1 : Hid (NS + 1 < b0) := by simp only [Hid]; omega
  have HN0 : Hid (w.heap.size ≤ b0) := by simp only [Hid]; rw [hb0]; exact st.2.2.2
  simp only [← hb0]
  have hb0' : w2.heap.size = b0 := hb0.symm
  have hown0 : Own 2 (w2.alloc (.cells (madeCells #[.int .i64 0] M) 2)) b0 (.slice (some ⟨b0, 0, none⟩) M M) (List.replicate M 0) := by
    have := Own.made 2 w2 M (by unfold maxLen; omega)
    rw [hb0'] at this; exact this
  have hbel0 : Below b0 w2 (w2.alloc (.cells (madeCells #[.int .i64 0] M) 2)) := (Below.refl _ _).alloc (by omega) _
  clear kb st hb0 hsz hsz2 hmk
  go_loopw [6, 12] (fun j t wr => ∃ k : Nat, k ≤ M ∧ t = .int .i64 k ∧ Own 2 wr b0 (.slice (some ⟨b0, 0, none⟩) M M) (tab T k ++ List.replicate (M - k) 0) ∧ Below b0 w2 wr) (fun _ t _ => M - (intOf t).toNat)
  case atStart => exact ⟨0, Nat.zero_le _, rfl, by simpa [tab] using hown0, hbel0⟩
  case round =>
    clear hown0 hbel0
    obtain ⟨k, hk, rfl, hown, hbel⟩ := hrel
    by_cases hlt : k < M
    · have hki : (k : Int) < (M : Int) := by omega
      have s2 := nextAt2 hbel HNS.out HN0.out ST.out
      have HLT : Hid (b0 ≤ wr.heap.size) := by simp only [Hid]; exact Nat.le_of_lt hown.lt
      have HL1 : Hid (b0 < wr.heap.size) := hown.lt
      have HB := hid hbel
      have HO := hid hown
      clear hbel hown
      go_wp2_with fail
      refine wp_region_held_drew (S := (fun ww => Below w.heap.size w ww ∧ ww.cell? ⟨NS, 0, none⟩ = some (.int .i64 s) ∧ ww.cell? ⟨NS, 1, none⟩ = some (.int .i64 r) ∧ w.heap.size ≤ ww.heap.size)) (by kernel_rfl) ?_ (fun hHeld => ?_)
      · ((try dsimp only); exact drew2_0 s2)
      first | (refine wpAnyH_take (i := 0) (v := ?_) rfl ?_ ?_ ?_ (fun _ _ _ h => h) (Or.inl ⟨?_, ?_⟩) ?_ ?_; rotate_left 1; (focus decide +kernel); (focus decide +kernel); (focus decide +kernel); (focus rfl); (focus (intro w hSw; (try dsimp only at hSw); go_simp; (try (with_reducible rfl)); done)); (focus assumption); (try simp only [Act.put, List.setIfInBounds_toArray, List.set_cons_zero, List.set_cons_succ, List.getElem_toArray, List.getElem_cons_succ, List.getElem_cons_zero])) | (refine wpAnyH_take (i := 0) (v := undef) rfl ?_ ?_ ?_ (fun _ _ _ h => h) (Or.inr ⟨?_, rfl⟩) ?_ ?_; (focus decide +kernel); (focus decide +kernel); (focus decide +kernel); (focus rfl); (focus assumption); (try simp only [Act.put, List.setIfInBounds_toArray, List.set_cons_zero, List.set_cons_succ, List.getElem_toArray, List.getElem_cons_succ, List.getElem_cons_zero])) | skip
      first | (refine wpAnyH_take (i := 1) (v := ?_) rfl ?_ ?_ ?_ (fun _ _ _ h => h) (Or.inl ⟨?_, ?_⟩) ?_ ?_; rotate_left 1; (focus decide +kernel); (focus decide +kernel); (focus decide +kernel); (focus rfl); (focus (intro w hSw; (try dsimp only at hSw); go_simp; (try (with_reducible rfl)); done)); (focus assumption); (try simp only [Act.put, List.setIfInBounds_toArray, List.set_cons_zero, List.set_cons_succ, List.getElem_toArray, List.getElem_cons_succ, List.getElem_cons_zero])) | (refine wpAnyH_take (i := 1) (v := undef) rfl ?_ ?_ ?_ (fun _ _ _ h => h) (Or.inr ⟨?_, rfl⟩) ?_ ?_; (focus decide +kernel); (focus decide +kernel); (focus decide +kernel); (focus rfl); (focus assumption); (try simp only [Act.put, List.setIfInBounds_toArray, List.set_cons_zero, List.set_cons_succ, List.getElem_toArray, List.getElem_cons_succ, List.getElem_cons_zero])) | skip
      first | (refine wpAnyH_take (i := 2) (v := ?_) rfl ?_ ?_ ?_ (fun _ _ _ h => h) (Or.inl ⟨?_, ?_⟩) ?_ ?_; rotate_left 1; (focus decide +kernel); (focus decide +kernel); (focus decide +kernel); (focus rfl); (focus (intro w hSw; (try dsimp only at hSw); go_simp; (try (with_reducible rfl)); done)); (focus assumption); (try simp only [Act.put, List.setIfInBounds_toArray, List.set_cons_zero, List.set_cons_succ, List.getElem_toArray, List.getElem_cons_succ, List.getElem_cons_zero])) | (refine wpAnyH_take (i := 2) (v := undef) rfl ?_ ?_ ?_ (fun _ _ _ h => h) (Or.inr ⟨?_, rfl⟩) ?_ ?_; (focus decide +kernel); (focus decide +kernel); (focus decide +kernel); (focus rfl); (focus assumption); (try simp only [Act.put, List.setIfInBounds_toArray, List.set_cons_zero, List.set_cons_succ, List.getElem_toArray, List.getElem_cons_succ, List.getElem_cons_zero])) | skip
      first | (refine wpAnyH_take (i := 3) (v := ?_) rfl ?_ ?_ ?_ (fun _ _ _ h => h) (Or.inl ⟨?_, ?_⟩) ?_ ?_; rotate_left 1; (focus decide +kernel); (focus decide +kernel); (focus decide +kernel); (focus rfl); (focus (intro w hSw; (try dsimp only at hSw); go_simp; (try (with_reducible rfl)); done)); (focus assumption); (try simp only [Act.put, List.setIfInBounds_toArray, List.set_cons_zero, List.set_cons_succ, List.getElem_toArray, List.getElem_cons_succ, List.getElem_cons_zero])) | (refine wpAnyH_take (i := 3) (v := undef) rfl ?_ ?_ ?_ (fun _ _ _ h => h) (Or.inr ⟨?_, rfl⟩) ?_ ?_; (focus decide +kernel); (focus decide +kernel); (focus decide +kernel); (focus rfl); (focus assumption); (try simp only [Act.put, List.setIfInBounds_toArray, List.set_cons_zero, List.set_cons_succ, List.getElem_toArray, List.getElem_cons_succ, List.getElem_cons_zero])) | skip
      first | (refine wpAnyH_take (i := 4) (v := ?_) rfl ?_ ?_ ?_ (fun _ _ _ h => h) (Or.inl ⟨?_, ?_⟩) ?_ ?_; rotate_left 1; (focus decide +kernel); (focus decide +kernel); (focus decide +kernel); (focus rfl); (focus (intro w hSw; (try dsimp only at hSw); go_simp; (try (with_reducible rfl)); done)); (focus assumption); (try simp only [Act.put, List.setIfInBounds_toArray, List.set_cons_zero, List.set_cons_succ, List.getElem_toArray, List.getElem_cons_succ, List.getElem_cons_zero])) | (refine wpAnyH_take (i := 4) (v := undef) rfl ?_ ?_ ?_ (fun _ _ _ h => h) (Or.inr ⟨?_, rfl⟩) ?_ ?_; (focus decide +kernel); (focus decide +kernel); (focus decide +kernel); (focus rfl); (focus assumption); (try simp only [Act.put, List.setIfInBounds_toArray, List.set_cons_zero, List.set_cons_succ, List.getElem_toArray, List.getElem_cons_succ, List.getElem_cons_zero])) | skip
      first | (refine wpAnyH_take (i := 5) (v := ?_) rfl ?_ ?_ ?_ (fun _ _ _ h => h) (Or.inl ⟨?_, ?_⟩) ?_ ?_; rotate_left 1; (focus decide +kernel); (focus decide +kernel); (focus decide +kernel); (focus rfl); (focus (intro w hSw; (try dsimp only at hSw); go_simp; (try (with_reducible rfl)); done)); (focus assumption); (try simp only [Act.put, List.setIfInBounds_toArray, List.set_cons_zero, List.set_cons_succ, List.getElem_toArray, List.getElem_cons_succ, List.getElem_cons_zero])) | (refine wpAnyH_take (i := 5) (v := undef) rfl ?_ ?_ ?_ (fun _ _ _ h => h) (Or.inr ⟨?_, rfl⟩) ?_ ?_; (focus decide +kernel); (focus decide +kernel); (focus decide +kernel); (focus rfl); (focus assumption); (try simp only [Act.put, List.setIfInBounds_toArray, List.set_cons_zero, List.set_cons_succ, List.getElem_toArray, List.getElem_cons_succ, List.getElem_cons_zero])) | skip
      first | (refine wpAnyH_take (i := 6) (v := ?_) rfl ?_ ?_ ?_ (fun _ _ _ h => h) (Or.inl ⟨?_, ?_⟩) ?_ ?_; rotate_left 1; (focus decide +kernel); (focus decide +kernel); (focus decide +kernel); (focus rfl); (focus (intro w hSw; (try dsimp only at hSw); go_simp; (try (with_reducible rfl)); done)); (focus assumption); (try simp only [Act.put, List.setIfInBounds_toArray, List.set_cons_zero, List.set_cons_succ, List.getElem_toArray, List.getElem_cons_succ, List.getElem_cons_zero])) | (refine wpAnyH_take (i := 6) (v := undef) rfl ?_ ?_ ?_ (fun _ _ _ h => h) (Or.inr ⟨?_, rfl⟩) ?_ ?_; (focus decide +kernel); (focus decide +kernel); (focus decide +kernel); (focus rfl); (focus assumption); (try simp only [Act.put, List.setIfInBounds_toArray, List.set_cons_zero, List.set_cons_succ, List.getElem_toArray, List.getElem_cons_succ, List.getElem_cons_zero])) | skip
      first | (refine wpAnyH_take (i := 10) (v := ?_) rfl ?_ ?_ ?_ (fun _ _ _ h => h) (Or.inl ⟨?_, ?_⟩) ?_ ?_; rotate_left 1; (focus decide +kernel); (focus decide +kernel); (focus decide +kernel); (focus rfl); (focus (intro w hSw; (try dsimp only at hSw); go_simp; (try (with_reducible rfl)); done)); (focus assumption); (try simp only [Act.put, List.setIfInBounds_toArray, List.set_cons_zero, List.set_cons_succ, List.getElem_toArray, List.getElem_cons_succ, List.getElem_cons_zero])) | (refine wpAnyH_take (i := 10) (v := undef) rfl ?_ ?_ ?_ (fun _ _ _ h => h) (Or.inr ⟨?_, rfl⟩) ?_ ?_; (focus decide +kernel); (focus decide +kernel); (focus decide +kernel); (focus rfl); (focus assumption); (try simp only [Act.put, List.setIfInBounds_toArray, List.set_cons_zero, List.set_cons_succ, List.getElem_toArray, List.getElem_cons_succ, List.getElem_cons_zero])) | skip
      first | (refine wpAnyH_take (i := 11) (v := ?_) rfl ?_ ?_ ?_ (fun _ _ _ h => h) (Or.inl ⟨?_, ?_⟩) ?_ ?_; rotate_left 1; (focus decide +kernel); (focus decide +kernel); (focus decide +kernel); (focus rfl); (focus (intro w hSw; (try dsimp only at hSw); go_simp; (try (with_reducible rfl)); done)); (focus assumption); (try simp only [Act.put, List.setIfInBounds_toArray, List.set_cons_zero, List.set_cons_succ, List.getElem_toArray, List.getElem_cons_succ, List.getElem_cons_zero])) | (refine wpAnyH_take (i := 11) (v := undef) rfl ?_ ?_ ?_ (fun _ _ _ h => h) (Or.inr ⟨?_, rfl⟩) ?_ ?_; (focus decide +kernel); (focus decide +kernel); (focus decide +kernel); (focus rfl); (focus assumption); (try simp only [Act.put, List.setIfInBounds_toArray, List.set_cons_zero, List.set_cons_succ, List.getElem_toArray, List.getElem_cons_succ, List.getElem_cons_zero])) | skip
      first | (refine wpAnyH_take (i := 7) (v := undef) rfl ?_ ?_ ?_ (fun _ _ _ h => h) (Or.inr ⟨?_, rfl⟩) ?_ ?_; (focus decide +kernel); (focus decide +kernel); (focus decide +kernel); (focus rfl); (focus assumption); (try simp only [Act.put, List.setIfInBounds_toArray, List.set_cons_zero, List.set_cons_succ, List.getElem_toArray, List.getElem_cons_succ, List.getElem_cons_zero])) | (refine wpAnyH_ready (rs := [7]) ?_ (by simp) ?_; (focus decide +kernel); refine AllReadyH.cons rfl (fun K hK => ?_) AllReadyH.nil; go_simp; (go_at_call 67; refine (wide HR.out).mono ?_; rintro e w4 ⟨rfl, bel⟩; have o4 : Own 2 wr.drew b0 (.slice (some ⟨b0, 0, none⟩) M M) (tab T k ++ List.replicate (M - k) 0) := HO.out; replace o4 := o4.keep bel; have bb := (Below.refl b0 wr).drew; replace bb := bb.trans (bel.mono HLT.out); have bb0 := bb.size); refine hK.out _ _ ?_ (fun hHeld => ?_); ((try dsimp only); first | exact next2_0 bel hHeld | exact nextAt2 bel (Nat.lt_trans HNS.out lb) (Nat.le_trans HN0.out (Nat.le_of_lt lb)) hHeld); clear hK K; (try simp only [Act.put, List.setIfInBounds_toArray, List.set_cons_zero, List.set_cons_succ, List.getElem_toArray, List.getElem_cons_succ, List.getElem_cons_zero]))
      first | (refine wpAnyH_take (i := 10) (v := ?_) rfl ?_ ?_ ?_ (fun _ _ _ h => h) (Or.inl ⟨?_, ?_⟩) ?_ ?_; rotate_left 1; (focus decide +kernel); (focus decide +kernel); (focus decide +kernel); (focus rfl); (focus (intro w hSw; (try dsimp only at hSw); go_simp; (try (with_reducible rfl)); done)); (focus assumption); (try simp only [Act.put, List.setIfInBounds_toArray, List.set_cons_zero, List.set_cons_succ, List.getElem_toArray, List.getElem_cons_succ, List.getElem_cons_zero])) | (refine wpAnyH_take (i := 10) (v := undef) rfl ?_ ?_ ?_ (fun _ _ _ h => h) (Or.inr ⟨?_, rfl⟩) ?_ ?_; (focus decide +kernel); (focus decide +kernel); (focus decide +kernel); (focus rfl); (focus assumption); (try simp only [Act.put, List.setIfInBounds_toArray, List.set_cons_zero, List.set_cons_succ, List.getElem_toArray, List.getElem_cons_succ, List.getElem_cons_zero])) | skip
      first | (refine wpAnyH_take (i := 11) (v := ?_) rfl ?_ ?_ ?_ (fun _ _ _ h => h) (Or.inl ⟨?_, ?_⟩) ?_ ?_; rotate_left 1; (focus decide +kernel); (focus decide +kernel); (focus decide +kernel); (focus rfl); (focus (intro w hSw; (try dsimp only at hSw); go_simp; (try (with_reducible rfl)); done)); (focus assumption); (try simp only [Act.put, List.setIfInBounds_toArray, List.set_cons_zero, List.set_cons_succ, List.getElem_toArray, List.getElem_cons_succ, List.getElem_cons_zero])) | (refine wpAnyH_take (i := 11) (v := undef) rfl ?_ ?_ ?_ (fun _ _ _ h => h) (Or.inr ⟨?_, rfl⟩) ?_ ?_; (focus decide +kernel); (focus decide +kernel); (focus decide +kernel); (focus rfl); (focus assumption); (try simp only [Act.put, List.setIfInBounds_toArray, List.set_cons_zero, List.set_cons_succ, List.getElem_toArray, List.getElem_cons_succ, List.getElem_cons_zero])) | skip
      first | (refine wpAnyH_take (i := 8) (v := undef) rfl ?_ ?_ ?_ (fun _ _ _ h => h) (Or.inr ⟨?_, rfl⟩) ?_ ?_; (focus decide +kernel); (focus decide +kernel); (focus decide +kernel); (focus rfl); (focus assumption); (try simp only [Act.put, List.setIfInBounds_toArray, List.set_cons_zero, List.set_cons_succ, List.getElem_toArray, List.getElem_cons_succ, List.getElem_cons_zero])) | (refine wpAnyH_ready (rs := [8]) ?_ (by simp) ?_; (focus decide +kernel); refine AllReadyH.cons rfl (fun K hK => ?_) AllReadyH.nil; go_simp; (go_at_call 86; refine (implDigits HS.out (by omega) HW.out).mono ?_; rw [dig_length, ← HLL.out]; rintro e w5 ⟨bd, rfl, od, lo, bel⟩; replace o4 := o4.keep bel; have l4 := Nat.le_trans HLT.out bb.size; replace bb := bb.trans (bel.mono l4); have b04 := Nat.lt_of_lt_of_le HL1.out bb0); refine hK.out _ _ ?_ (fun hHeld => ?_); ((try dsimp only); first | exact next2_0 bel hHeld | exact nextAt2 bel (Nat.lt_trans HNS.out lb) (Nat.le_trans HN0.out (Nat.le_of_lt lb)) hHeld); clear hK K; (try simp only [Act.put, List.setIfInBounds_toArray, List.set_cons_zero, List.set_cons_succ, List.getElem_toArray, List.getElem_cons_succ, List.getElem_cons_zero]))
      first | (refine wpAnyH_take (i := 10) (v := ?_) rfl ?_ ?_ ?_ (fun _ _ _ h => h) (Or.inl ⟨?_, ?_⟩) ?_ ?_; rotate_left 1; (focus decide +kernel); (focus decide +kernel); (focus decide +kernel); (focus rfl); (focus (intro w hSw; (try dsimp only at hSw); go_simp; (try (with_reducible rfl)); done)); (focus assumption); (try simp only [Act.put, List.setIfInBounds_toArray, List.set_cons_zero, List.set_cons_succ, List.getElem_toArray, List.getElem_cons_succ, List.getElem_cons_zero])) | (refine wpAnyH_take (i := 10) (v := undef) rfl ?_ ?_ ?_ (fun _ _ _ h => h) (Or.inr ⟨?_, rfl⟩) ?_ ?_; (focus decide +kernel); (focus decide +kernel); (focus decide +kernel); (focus rfl); (focus assumption); (try simp only [Act.put, List.setIfInBounds_toArray, List.set_cons_zero, List.set_cons_succ, List.getElem_toArray, List.getElem_cons_succ, List.getElem_cons_zero])) | skip
      first | (refine wpAnyH_take (i := 11) (v := ?_) rfl ?_ ?_ ?_ (fun _ _ _ h => h) (Or.inl ⟨?_, ?_⟩) ?_ ?_; rotate_left 1; (focus decide +kernel); (focus decide +kernel); (focus decide +kernel); (focus rfl); (focus (intro w hSw; (try dsimp only at hSw); go_simp; (try (with_reducible rfl)); done)); (focus assumption); (try simp only [Act.put, List.setIfInBounds_toArray, List.set_cons_zero, List.set_cons_succ, List.getElem_toArray, List.getElem_cons_succ, List.getElem_cons_zero])) | (refine wpAnyH_take (i := 11) (v := undef) rfl ?_ ?_ ?_ (fun _ _ _ h => h) (Or.inr ⟨?_, rfl⟩) ?_ ?_; (focus decide +kernel); (focus decide +kernel); (focus decide +kernel); (focus rfl); (focus assumption); (try simp only [Act.put, List.setIfInBounds_toArray, List.set_cons_zero, List.set_cons_succ, List.getElem_toArray, List.getElem_cons_succ, List.getElem_cons_zero])) | skip
      first | (refine wpAnyH_take (i := 9) (v := undef) rfl ?_ ?_ ?_ (fun _ _ _ h => h) (Or.inr ⟨?_, rfl⟩) ?_ ?_; (focus decide +kernel); (focus decide +kernel); (focus decide +kernel); (focus rfl); (focus assumption); (try simp only [Act.put, List.setIfInBounds_toArray, List.set_cons_zero, List.set_cons_succ, List.getElem_toArray, List.getElem_cons_succ, List.getElem_cons_zero])) | (refine wpAnyH_ready (rs := [9]) ?_ (by simp) ?_; (focus decide +kernel); refine AllReadyH.cons rfl (fun K hK => ?_) AllReadyH.nil; go_simp; (have hA := H.out k hlt w5 bd (And.left hHeld) (Nat.le_trans HN0.out (Nat.le_trans l4 lo)) od; go_at_call 79; refine hA.mono ?_; clear hA; rintro e w6 ⟨rfl, bel⟩; have lb := Nat.lt_of_lt_of_le b04 lo; replace o4 := o4.keepAt bel lb; replace bb := bb.trans (bel.mono (Nat.le_of_lt lb))); refine hK.out _ _ ?_ (fun hHeld => ?_); ((try dsimp only); first | exact next2_0 bel hHeld | exact nextAt2 bel (Nat.lt_trans HNS.out lb) (Nat.le_trans HN0.out (Nat.le_of_lt lb)) hHeld); clear hK K; (try simp only [Act.put, List.setIfInBounds_toArray, List.set_cons_zero, List.set_cons_succ, List.getElem_toArray, List.getElem_cons_succ, List.getElem_cons_zero]))
      first | (refine wpAnyH_take (i := 10) (v := ?_) rfl ?_ ?_ ?_ (fun _ _ _ h => h) (Or.inl ⟨?_, ?_⟩) ?_ ?_; rotate_left 1; (focus decide +kernel); (focus decide +kernel); (focus decide +kernel); (focus rfl); (focus (intro w hSw; (try dsimp only at hSw); go_simp; (try (with_reducible rfl)); done)); (focus assumption); (try simp only [Act.put, List.setIfInBounds_toArray, List.set_cons_zero, List.set_cons_succ, List.getElem_toArray, List.getElem_cons_succ, List.getElem_cons_zero])) | (refine wpAnyH_take (i := 10) (v := undef) rfl ?_ ?_ ?_ (fun _ _ _ h => h) (Or.inr ⟨?_, rfl⟩) ?_ ?_; (focus decide +kernel); (focus decide +kernel); (focus decide +kernel); (focus rfl); (focus assumption); (try simp only [Act.put, List.setIfInBounds_toArray, List.set_cons_zero, List.set_cons_succ, List.getElem_toArray, List.getElem_cons_succ, List.getElem_cons_zero])) | skip
      first | (refine wpAnyH_take (i := 11) (v := ?_) rfl ?_ ?_ ?_ (fun _ _ _ h => h) (Or.inl ⟨?_, ?_⟩) ?_ ?_; rotate_left 1; (focus decide +kernel); (focus decide +kernel); (focus decide +kernel); (focus rfl); (focus (intro w hSw; (try dsimp only at hSw); go_simp; (try (with_reducible rfl)); done)); (focus assumption); (try simp only [Act.put, List.setIfInBounds_toArray, List.set_cons_zero, List.set_cons_succ, List.getElem_toArray, List.getElem_cons_succ, List.getElem_cons_zero])) | (refine wpAnyH_take (i := 11) (v := undef) rfl ?_ ?_ ?_ (fun _ _ _ h => h) (Or.inr ⟨?_, rfl⟩) ?_ ?_; (focus decide +kernel); (focus decide +kernel); (focus decide +kernel); (focus rfl); (focus assumption); (try simp only [Act.put, List.setIfInBounds_toArray, List.set_cons_zero, List.set_cons_succ, List.getElem_toArray, List.getElem_cons_succ, List.getElem_cons_zero])) | skip
      have hlen : (tab T k ++ List.replicate (M - k) 0).length = M := by simp [tab_length]; omega
      have hox := o4.cell (i := k) (by omega)
      have hof := o4.free k
      have HO6 := hid o4
      have HB6 := hid bb
      clear o4 bb hlen od lb
      refine wpAnyH_ready (rs := [11]) ?_ (by simp) ?_
      · decide +kernel
      refine AllReadyH.cons rfl (fun K hK => ?_) AllReadyH.nil
      go_simp
      refine hK.out _ _ ?_ (fun hHeld2 => ?_)
      · (try dsimp only); exact set2 HN0.out HNS.out hHeld
      clear hK K
      refine wpAnyH_done (by kernel_rfl) ?_ _
      clear s2
      go_wp2
      go_roundw
      case rel =>
        refine ⟨k + 1, by omega, by go_num, ?_, ?_⟩
        · rw [← set_tab T M k hlt]
          exact HO6.out.set k _
        · exact (HB.out.trans HB6.out).setCell (Nat.le_refl _) _
      case measure => simp [intOf]; omega
    · have hkn : M = k := by omega
      subst hkn
      have s2 := nextAt2 hbel HNS.out HN0.out ST.out
      have kb := (hbel.block _ HN1.out).trans HKB.out
      have y0 : wr.cell? ⟨NS + 1, 0, none⟩ = some (.int .i64 0) := Go.Joins.cell_of_block kb 0
      have y1 : wr.cell? ⟨NS + 1, 1, none⟩ = some (.int .i64 0) := Go.Joins.cell_of_block kb 1
      have y2 : wr.cell? ⟨NS + 1, 2, none⟩ = some (.slice none 0 0) := Go.Joins.cell_of_block kb 2
      have g0 : wr.frozen? ⟨NS + 1, 0, none⟩ = false := Go.Joins.unfrozen_of_block kb 0
      have g1 : wr.frozen? ⟨NS + 1, 1, none⟩ = false := Go.Joins.unfrozen_of_block kb 1
      have g2 : wr.frozen? ⟨NS + 1, 2, none⟩ = false := Go.Joins.unfrozen_of_block kb 2
      have HO := hid hown
      have HB := hid hbel
      have HK := hid kb
      clear hown hbel kb
      go_wp2
      obtain ⟨W5, hW⟩ : ∃ W5, W5 = (((wr.setCell { block := NS + 1, off := 0 } (Value.int IntKind.i64 s)).setCell { block := NS + 1, off := 1 } (Value.int IntKind.i64 r)).setCell { block := NS + 1, off := 2 } (Value.slice (some { block := b0, off := 0 }) M M)) := ⟨_, rfl⟩
      have q0 := Go.Joins.block_setCell (Go.Joins.block_setCell (Go.Joins.block_setCell (i := 0) HK.out (Value.int IntKind.i64 s)) (i := 1) (Value.int IntKind.i64 r)) (i := 2) (Value.slice (some { block := b0, off := 0 }) M M)
      rw [← hW] at q0
      have z0 : W5.cell? ⟨NS + 1, 0, none⟩ = some (.int .i64 s) := Go.Joins.cell_of_block q0 0
      have z1 : W5.cell? ⟨NS + 1, 1, none⟩ = some (.int .i64 r) := Go.Joins.cell_of_block q0 1
      have z2 : W5.cell? ⟨NS + 1, 2, none⟩ = some (Value.slice (some { block := b0, off := 0 }) M M) := Go.Joins.cell_of_block q0 2
      have O5 : Own 2 W5 b0 (Value.slice (some { block := b0, off := 0 }) M M) (tab T M) := by
        have h1 := HN1.out
        have hO := HO.out
        rw [Nat.sub_self, List.replicate_zero, List.append_nil] at hO
        rw [hW]
        exact own_set (own_set (own_set hO _ _ (by simp; omega)) _ _ (by simp; omega)) _ _ (by simp; omega)
      have B5 : Below w.heap.size w W5 := by
        have h1 := HNE.out
        rw [hW]
        exact ((s2.1.setCell (by simp; omega) _).setCell (by simp; omega) _).setCell (by simp; omega) _
      simp only [← hW]
      clear hW q0
      simp [bodyPost, results, Try.results59, go_sem, z0, z1, z2]
      exact ⟨O5, HN0.out, B5⟩

set_option maxHeartbeats 4000000 in
theorem implNo {w : World} {s r : Int} {bt : Nat} {vt : Value} {tbl : List Int} (h : Rd w bt vt tbl) (hv : validB s r tbl = false) :
    Calls Try.prog 33 #[ruleV s r vt] w fun e w' => e = .returned (.tuple #[ruleV 0 0 (.slice none 0 0), .bool false]) ∧ Below w.heap.size w w' := by
  have HRd := hid h
  have HV := hid hv
  clear hv
  obtain ⟨ao, cap, rfl, _, _, _⟩ := h
  go_enter Try.func33, Try.ntmps33
  go_wp2_with fail
  obtain ⟨w1, hW⟩ : ∃ w1, w1 = (w.alloc (Obj.cells #[.int .i64 s, .int .i64 r, (Value.slice ao tbl.length cap)] 24)).alloc (Obj.cells #[Value.int IntKind.i64 0, Value.int IntKind.i64 0, Value.slice none 0 0] 24) := ⟨_, rfl⟩
  obtain ⟨NR, hN⟩ : ∃ NR, NR = w.heap.size := ⟨_, rfl⟩
  obtain ⟨NT, hN1⟩ : ∃ NT, NT = NR + 1 := ⟨_, rfl⟩
  have b1 : Below w.heap.size w w1 := by rw [hW]; exact Go.Joins.below_alloc2 _ _ _
  have st : Below w1.heap.size w1 w1 ∧ w1.cell? ⟨NR, 0, none⟩ = some (.int .i64 s) ∧ w1.cell? ⟨NR, 1, none⟩ = some (.int .i64 r) ∧ w1.cell? ⟨NR, 2, none⟩ = some (Value.slice ao tbl.length cap) ∧ Rd w1 bt (Value.slice ao tbl.length cap) tbl ∧ w1.heap.size ≤ w1.heap.size := by
    refine ⟨Below.refl _ _, ?_, ?_, ?_, HRd.out.keep b1 (Nat.le_refl _), Nat.le_refl _⟩
    · rw [hW]; exact cell_old (cell_top hN rfl)
    · rw [hW]; exact cell_old (cell_top hN rfl)
    · rw [hW]; exact cell_old (cell_top hN rfl)
  have kb : w1.heap[NT]? = some (Obj.cells #[.int .i64 0, .int .i64 0, .slice none 0 0] 24) := by rw [hW]; exact heap_top (by simp; omega)
  have HNT : Hid (w.heap.size ≤ NT) := by simp only [Hid]; omega
  have HRT : Hid (NR < NT) := by simp only [Hid]; omega
  have HNR : Hid (w.heap.size ≤ NR) := by simp only [Hid]; omega
  have HB1 := hid b1
  have HKB := hid kb
  simp only [← hW, ← hN, ← hN1]
  clear hW hN hN1 b1 kb
  go_at_call 77
  refine (implValid (rd3_1_0 st)).mono ?_
  rw [HV.out]
  rintro e w2 ⟨rfl, bel⟩
  replace st := next3_1 bel st
  clear bel
  have kb2 := (st.1.block _ (Array.getElem?_eq_some_iff.1 HKB.out).1).trans HKB.out
  have HB := hid (HB1.out.trans (st.1.mono HB1.out.size))
  have y0 : w2.cell? ⟨NT, 0, none⟩ = some (.int .i64 0) := Go.Joins.cell_of_block kb2 0
  have y1 : w2.cell? ⟨NT, 1, none⟩ = some (.int .i64 0) := Go.Joins.cell_of_block kb2 1
  have y2 : w2.cell? ⟨NT, 2, none⟩ = some (.slice none 0 0) := Go.Joins.cell_of_block kb2 2
  have g0 : w2.frozen? ⟨NT, 0, none⟩ = false := Go.Joins.unfrozen_of_block kb2 0
  have g1 : w2.frozen? ⟨NT, 1, none⟩ = false := Go.Joins.unfrozen_of_block kb2 1
  have g2 : w2.frozen? ⟨NT, 2, none⟩ = false := Go.Joins.unfrozen_of_block kb2 2
  have HKx := hid kb2
  clear kb2
  go_wp2
  obtain ⟨W5, hW⟩ : ∃ W5, W5 = (((w2.setCell ⟨NT, 0, none⟩ (.int .i64 0)).setCell ⟨NT, 1, none⟩ (.int .i64 0)).setCell ⟨NT, 2, none⟩ (.slice none 0 0)) := ⟨_, rfl⟩
  have q0 := (Go.Joins.block_setCell (i := 2) (Go.Joins.block_setCell (i := 1) (Go.Joins.block_setCell (i := 0) HKx.out (.int .i64 0)) (.int .i64 0)) (.slice none 0 0))
  rw [← hW] at q0
  have z0 : W5.cell? ⟨NT, 0, none⟩ = some (.int .i64 0) := Go.Joins.cell_of_block q0 0
  have z1 : W5.cell? ⟨NT, 1, none⟩ = some (.int .i64 0) := Go.Joins.cell_of_block q0 1
  have z2 : W5.cell? ⟨NT, 2, none⟩ = some (.slice none 0 0) := Go.Joins.cell_of_block q0 2
  have B5 : Below w.heap.size w W5 := by
    have h1 := HNT.out
    rw [hW]
    exact ((HB.out.setCell (by simp; omega) _).setCell (by simp; omega) _).setCell (by simp; omega) _
  simp only [← hW]
  clear hW q0
  simp [bodyPost, results, Try.results33, go_sem, z0, z1, z2]
  exact B5

set_option maxHeartbeats 4000000 in
theorem specNo {w : World} {s r : Int} {bt : Nat} {vt : Value} {tbl : List Int} (h : Rd w bt vt tbl) (hv : validB s r tbl = false) :
    Calls Try.prog 31 #[ruleV s r vt] w fun e w' => e = .returned (.tuple #[ruleV 0 0 (.slice none 0 0), .bool false]) ∧ Below w.heap.size w w' := by
  have HRd := hid h
  have HV := hid hv
  clear hv
  obtain ⟨ao, cap, rfl, _, _, _⟩ := h
  go_enter Try.func31, Try.ntmps31
  go_wp2_with fail
  obtain ⟨w1, hW⟩ : ∃ w1, w1 = (w.alloc (Obj.cells #[.int .i64 s, .int .i64 r, (Value.slice ao tbl.length cap)] 24)).alloc (Obj.cells #[Value.int IntKind.i64 0, Value.int IntKind.i64 0, Value.slice none 0 0] 24) := ⟨_, rfl⟩
  obtain ⟨NR, hN⟩ : ∃ NR, NR = w.heap.size := ⟨_, rfl⟩
  obtain ⟨NT, hN1⟩ : ∃ NT, NT = NR + 1 := ⟨_, rfl⟩
  have b1 : Below w.heap.size w w1 := by rw [hW]; exact Go.Joins.below_alloc2 _ _ _
  have st : Below w1.heap.size w1 w1 ∧ w1.cell? ⟨NR, 0, none⟩ = some (.int .i64 s) ∧ w1.cell? ⟨NR, 1, none⟩ = some (.int .i64 r) ∧ w1.cell? ⟨NR, 2, none⟩ = some (Value.slice ao tbl.length cap) ∧ Rd w1 bt (Value.slice ao tbl.length cap) tbl ∧ w1.heap.size ≤ w1.heap.size := by
    refine ⟨Below.refl _ _, ?_, ?_, ?_, HRd.out.keep b1 (Nat.le_refl _), Nat.le_refl _⟩
    · rw [hW]; exact cell_old (cell_top hN rfl)
    · rw [hW]; exact cell_old (cell_top hN rfl)
    · rw [hW]; exact cell_old (cell_top hN rfl)
  have kb : w1.heap[NT]? = some (Obj.cells #[.int .i64 0, .int .i64 0, .slice none 0 0] 24) := by rw [hW]; exact heap_top (by simp; omega)
  have HNT : Hid (w.heap.size ≤ NT) := by simp only [Hid]; omega
  have HRT : Hid (NR < NT) := by simp only [Hid]; omega
  have HNR : Hid (w.heap.size ≤ NR) := by simp only [Hid]; omega
  have HB1 := hid b1
  have HKB := hid kb
  simp only [← hW, ← hN, ← hN1]
  clear hW hN hN1 b1 kb
  go_at_call 74
  refine (Spec.is (rd3_1_0 st) st.2.1 st.2.2.1 st.2.2.2.1).mono ?_
  rw [HV.out]
  rintro e w2 ⟨rfl, mm, hw2⟩
  have bel : Below w1.heap.size w1 w2 := by rw [hw2]; exact Spec.below_drewN' _ _ _
  replace st := next3_1 bel st
  clear bel hw2
  have kb2 := (st.1.block _ (Array.getElem?_eq_some_iff.1 HKB.out).1).trans HKB.out
  have HB := hid (HB1.out.trans (st.1.mono HB1.out.size))
  have y0 : w2.cell? ⟨NT, 0, none⟩ = some (.int .i64 0) := Go.Joins.cell_of_block kb2 0
  have y1 : w2.cell? ⟨NT, 1, none⟩ = some (.int .i64 0) := Go.Joins.cell_of_block kb2 1
  have y2 : w2.cell? ⟨NT, 2, none⟩ = some (.slice none 0 0) := Go.Joins.cell_of_block kb2 2
  have g0 : w2.frozen? ⟨NT, 0, none⟩ = false := Go.Joins.unfrozen_of_block kb2 0
  have g1 : w2.frozen? ⟨NT, 1, none⟩ = false := Go.Joins.unfrozen_of_block kb2 1
  have g2 : w2.frozen? ⟨NT, 2, none⟩ = false := Go.Joins.unfrozen_of_block kb2 2
  have HKx := hid kb2
  clear kb2
  go_wp2
  obtain ⟨W5, hW⟩ : ∃ W5, W5 = (((w2.setCell ⟨NT, 0, none⟩ (.int .i64 0)).setCell ⟨NT, 1, none⟩ (.int .i64 0)).setCell ⟨NT, 2, none⟩ (.slice none 0 0)) := ⟨_, rfl⟩
  have q0 := (Go.Joins.block_setCell (i := 2) (Go.Joins.block_setCell (i := 1) (Go.Joins.block_setCell (i := 0) HKx.out (.int .i64 0)) (.int .i64 0)) (.slice none 0 0))
  rw [← hW] at q0
  have z0 : W5.cell? ⟨NT, 0, none⟩ = some (.int .i64 0) := Go.Joins.cell_of_block q0 0
  have z1 : W5.cell? ⟨NT, 1, none⟩ = some (.int .i64 0) := Go.Joins.cell_of_block q0 1
  have z2 : W5.cell? ⟨NT, 2, none⟩ = some (.slice none 0 0) := Go.Joins.cell_of_block q0 2
  have B5 : Below w.heap.size w W5 := by
    have h1 := HNT.out
    rw [hW]
    exact ((HB.out.setCell (by simp; omega) _).setCell (by simp; omega) _).setCell (by simp; omega) _
  simp only [← hW]
  clear hW q0
  simp [bodyPost, results, Try.results31, go_sem, z0, z1, z2]
  exact B5

set_option maxHeartbeats 4000000 in
theorem implOk {w : World} {s r : Int} {L bt : Nat} {vt : Value} {tbl : List Int} (h : Rd w bt vt tbl) (hv : validB s r tbl = true) (hL : (L : Int) = 2 * r + 1) :
    Calls Try.prog 33 #[ruleV s r vt] w fun e w' => ∃ b', e = .returned (.tuple #[ruleV s r (.slice (some ⟨b', 0, none⟩) tbl.length tbl.length), .bool true]) ∧
      Own 2 w' b' (.slice (some ⟨b', 0, none⟩) tbl.length tbl.length) (tab (mirT s tbl L) tbl.length) ∧ w.heap.size ≤ b' ∧ Below w.heap.size w w' := by
  have HV := hid hv
  obtain ⟨hs, hr, hl, ha⟩ := Al.valid_parts hv
  have HRd := hid h
  have HS := hid hs
  have HR := hid hr
  have HLen : Hid ((tbl.length : Int) = s ^ L) := by simp only [Hid]; rw [hl]; congr 1; omega
  have HL5 : Hid (L = 1 ∨ L = 3 ∨ L = 5) := by simp only [Hid]; omega
  have HM := hid hl
  have HLL : Hid (L = (2 * r + 1).toNat) := by simp only [Hid]; omega
  obtain ⟨ao, cap, rfl, _, _, h4⟩ := h
  have HBt : Hid (bt < w.heap.size) := by
    obtain ⟨_, _, hb, _⟩ := h4 (by have := pow_pos' hs (2 * r + 1).toNat; omega)
    exact hb
  clear hv hs hl ha hL hr h4
  go_enter Try.func33, Try.ntmps33
  go_wp2_with fail
  obtain ⟨w1, hW⟩ : ∃ w1, w1 = (w.alloc (Obj.cells #[.int .i64 s, .int .i64 r, (Value.slice ao tbl.length cap)] 24)).alloc (Obj.cells #[Value.int IntKind.i64 0, Value.int IntKind.i64 0, Value.slice none 0 0] 24) := ⟨_, rfl⟩
  obtain ⟨NR, hN⟩ : ∃ NR, NR = w.heap.size := ⟨_, rfl⟩
  obtain ⟨NT, hN1⟩ : ∃ NT, NT = NR + 1 := ⟨_, rfl⟩
  have b1 : Below w.heap.size w w1 := by rw [hW]; exact Go.Joins.below_alloc2 _ _ _
  have st : Below w1.heap.size w1 w1 ∧ w1.cell? ⟨NR, 0, none⟩ = some (.int .i64 s) ∧ w1.cell? ⟨NR, 1, none⟩ = some (.int .i64 r) ∧ w1.cell? ⟨NR, 2, none⟩ = some (Value.slice ao tbl.length cap) ∧ Rd w1 bt (Value.slice ao tbl.length cap) tbl ∧ w1.heap.size ≤ w1.heap.size := by
    refine ⟨Below.refl _ _, ?_, ?_, ?_, HRd.out.keep b1 (Nat.le_refl _), Nat.le_refl _⟩
    · rw [hW]; exact cell_old (cell_top hN rfl)
    · rw [hW]; exact cell_old (cell_top hN rfl)
    · rw [hW]; exact cell_old (cell_top hN rfl)
  have kb : w1.heap[NT]? = some (Obj.cells #[.int .i64 0, .int .i64 0, .slice none 0 0] 24) := by rw [hW]; exact heap_top (by simp; omega)
  have HNT : Hid (w.heap.size ≤ NT) := by simp only [Hid]; omega
  have HRT : Hid (NR < NT) := by simp only [Hid]; omega
  have HNR : Hid (w.heap.size ≤ NR) := by simp only [Hid]; omega
  have HB1 := hid b1
  have HKB := hid kb
  simp only [← hW, ← hN, ← hN1]
  clear hW hN hN1 b1 kb
  go_at_call 77
  refine (implValid (rd3_1_0 st)).mono ?_
  rw [HV.out]
  rintro e w2 ⟨rfl, bel⟩
  replace st := next3_1 bel st
  clear bel
  go_wp2_with fail
  go_at_call 78
  refine shapeOf.mono ?_
  rintro e w4 ⟨rfl, bel⟩
  replace st := next3_1 bel st
  clear bel
  have HST := hid st
  have HKB4 := hid ((st.1.block _ (Array.getElem?_eq_some_iff.1 HKB.out).1).trans HKB.out)
  have HB4 := hid (HB1.out.trans (st.1.mono HB1.out.size))
  clear st
  go_wp2_with fail
  go_at_call 59
  refine (tellMir (w := w4) (M := tbl.length) (L := L) HS.out HR.out HM.out HLL.out (k0 := .pointer (some ⟨NR, 0, none⟩)) (mirT s tbl L) ?_).mono ?_
  · intro k hk wr b hb hbn ho
    have h4 := HST.out
    have nr := World.block_lt_of_cell? _ _ h4.2.1
    exact closure ((hb.cell (p := ⟨NR, 0, none⟩) nr).trans h4.2.1) ((hb.cell (p := ⟨NR, 1, none⟩) nr).trans h4.2.2.1) ((hb.cell (p := ⟨NR, 2, none⟩) nr).trans h4.2.2.2.1) (h4.2.2.2.2.1.keep hb (Nat.le_refl _)) (Nat.lt_of_lt_of_le nr hbn) (Nat.lt_of_lt_of_le (Nat.lt_of_lt_of_le HBt.out HB4.out.size) hbn) HS.out HLen.out HL5.out ho
  rintro e w5 ⟨b', rfl, own, hbn, bel⟩
  have kb5 := (bel.block _ (Array.getElem?_eq_some_iff.1 HKB4.out).1).trans HKB4.out
  have HO := hid own
  have HNB : Hid (NT ≠ b') := Nat.ne_of_lt (Nat.lt_of_lt_of_le (Array.getElem?_eq_some_iff.1 HKB4.out).1 hbn)
  have HLo := hid (Nat.le_trans HB4.out.size hbn)
  have HB := hid (HB4.out.trans (bel.mono HB4.out.size))
  clear own bel hbn HST
  have y0 : w5.cell? ⟨NT, 0, none⟩ = some (.int .i64 0) := Go.Joins.cell_of_block kb5 0
  have y1 : w5.cell? ⟨NT, 1, none⟩ = some (.int .i64 0) := Go.Joins.cell_of_block kb5 1
  have y2 : w5.cell? ⟨NT, 2, none⟩ = some (.slice none 0 0) := Go.Joins.cell_of_block kb5 2
  have g0 : w5.frozen? ⟨NT, 0, none⟩ = false := Go.Joins.unfrozen_of_block kb5 0
  have g1 : w5.frozen? ⟨NT, 1, none⟩ = false := Go.Joins.unfrozen_of_block kb5 1
  have g2 : w5.frozen? ⟨NT, 2, none⟩ = false := Go.Joins.unfrozen_of_block kb5 2
  have HKx := hid kb5
  clear kb5
  go_wp2
  obtain ⟨W5, hW⟩ : ∃ W5, W5 = (((w5.setCell ⟨NT, 0, none⟩ (.int .i64 s)).setCell ⟨NT, 1, none⟩ (.int .i64 r)).setCell ⟨NT, 2, none⟩ (.slice (some ⟨b', 0, none⟩) tbl.length tbl.length)) := ⟨_, rfl⟩
  have q0 := (Go.Joins.block_setCell (i := 2) (Go.Joins.block_setCell (i := 1) (Go.Joins.block_setCell (i := 0) HKx.out (.int .i64 s)) (.int .i64 r)) (.slice (some ⟨b', 0, none⟩) tbl.length tbl.length))
  rw [← hW] at q0
  have z0 : W5.cell? ⟨NT, 0, none⟩ = some (.int .i64 s) := Go.Joins.cell_of_block q0 0
  have z1 : W5.cell? ⟨NT, 1, none⟩ = some (.int .i64 r) := Go.Joins.cell_of_block q0 1
  have z2 : W5.cell? ⟨NT, 2, none⟩ = some (.slice (some ⟨b', 0, none⟩) tbl.length tbl.length) := Go.Joins.cell_of_block q0 2
  have O5 := (own_set (own_set (own_set HO.out ⟨NT, 0, none⟩ (.int .i64 s) HNB.out) ⟨NT, 1, none⟩ (.int .i64 r) HNB.out) ⟨NT, 2, none⟩ (.slice (some ⟨b', 0, none⟩) tbl.length tbl.length) HNB.out)
  rw [← hW] at O5
  have B5 : Below w.heap.size w W5 := by
    have h1 := HNT.out
    rw [hW]
    exact ((HB.out.setCell (by simp; omega) _).setCell (by simp; omega) _).setCell (by simp; omega) _
  simp only [← hW]
  clear hW q0
  simp [bodyPost, results, Try.results33, go_sem, z0, z1, z2]
  exact ⟨O5, HLo.out, B5⟩


set_option maxHeartbeats 16000000 in
theorem specOk {w : World} {s r : Int} {n L bt : Nat} {vt : Value} {tbl : List Int} (hn : n = tbl.length) (hL : (L : Int) = 2 * r + 1) (h : Rd w bt vt tbl) (hv : validB s r tbl = true) :
    Calls Try.prog 31 #[ruleV s r vt] w fun e w' => ∃ v' b', e = .returned (.tuple #[ruleV s r v', .bool true]) ∧
      Own 2 w' b' v' (tab (mirT s tbl L) n) ∧ w.heap.size ≤ b' ∧ Below w.heap.size w w' := by
  have HV := hid hv
  obtain ⟨hs, hr, hl, ha⟩ := Al.valid_parts hv
  have HRd := hid h
  have HS := hid hs
  have HLr : Hid (2 * r + 1 = (L : Int)) := hL.symm
  have HL5 : Hid (L = 1 ∨ L = 3 ∨ L = 5) := by simp only [Hid]; omega
  have HLen : Hid ((n : Int) = s ^ L) := by simp only [Hid]; rw [hn, hl]; congr 1; omega
  have hn243 : n ≤ 243 := by have := (pow_bd hs (show (2 * r + 1).toNat ≤ 5 by omega)).2; omega
  obtain ⟨ao, cap, rfl, _, _, h4⟩ := h
  obtain ⟨off, rfl, hb, hcell⟩ := h4 (by have := pow_pos' hs (2 * r + 1).toNat; omega)
  have HC := hid hcell
  have HBt := hid hb
  have Hn := hid hn
  rw [← hn] at HRd HC
  rw [← hn]
  obtain ⟨s1, s2⟩ := hs
  obtain ⟨r1, r2⟩ := hr
  clear hv hl ha h4 hcell hb hn hL
  go_enter Try.func31, Try.ntmps31
  go_wp2_with fail
  obtain ⟨w1, hW⟩ : ∃ w1, w1 = (w.alloc (Obj.cells #[.int .i64 s, .int .i64 r, (Value.slice (some ⟨bt, off, none⟩) n cap)] 24)).alloc (Obj.cells #[Value.int IntKind.i64 0, Value.int IntKind.i64 0, Value.slice none 0 0] 24) := ⟨_, rfl⟩
  obtain ⟨NR, hN⟩ : ∃ NR, NR = w.heap.size := ⟨_, rfl⟩
  obtain ⟨NT, hN1⟩ : ∃ NT, NT = NR + 1 := ⟨_, rfl⟩
  have b1 : Below w.heap.size w w1 := by rw [hW]; exact Go.Joins.below_alloc2 _ _ _
  have st : Below w1.heap.size w1 w1 ∧ w1.cell? ⟨NR, 0, none⟩ = some (.int .i64 s) ∧ w1.cell? ⟨NR, 1, none⟩ = some (.int .i64 r) ∧ w1.cell? ⟨NR, 2, none⟩ = some (Value.slice (some ⟨bt, off, none⟩) n cap) ∧ Rd w1 bt (Value.slice (some ⟨bt, off, none⟩) n cap) tbl ∧ w1.heap.size ≤ w1.heap.size := by
    refine ⟨Below.refl _ _, ?_, ?_, ?_, HRd.out.keep b1 (Nat.le_refl _), Nat.le_refl _⟩
    · rw [hW]; exact cell_old (cell_top hN rfl)
    · rw [hW]; exact cell_old (cell_top hN rfl)
    · rw [hW]; exact cell_old (cell_top hN rfl)
  have kb : w1.heap[NT]? = some (Obj.cells #[.int .i64 0, .int .i64 0, .slice none 0 0] 24) := by rw [hW]; exact heap_top (by simp; omega)
  have HNT : Hid (w.heap.size ≤ NT) := by simp only [Hid]; omega
  have HRT : Hid (NR < NT) := by simp only [Hid]; omega
  have HNR : Hid (w.heap.size ≤ NR) := by simp only [Hid]; omega
  have HB1 := hid b1
  have HKB := hid kb
  have HKR : Hid (w1.heap[NR]? = some (Obj.cells #[.int .i64 s, .int .i64 r, (Value.slice (some ⟨bt, off, none⟩) n cap)] 24)) := by simp only [Hid]; rw [hW]; exact heap_old (heap_top hN)
  simp only [← hW, ← hN, ← hN1]
  clear hW hN hN1 b1 kb
  go_at_call 74
  refine (Spec.is (rd3_1_0 st) st.2.1 st.2.2.1 st.2.2.2.1).mono ?_
  rw [HV.out]
  rintro e w2 ⟨rfl, mm, hw2⟩
  have bel : Below w1.heap.size w1 w2 := by rw [hw2]; exact Spec.below_drewN' _ _ _
  replace st := next3_1 bel st
  clear bel hw2
  have kb2 := (st.1.block _ (Array.getElem?_eq_some_iff.1 HKB.out).1).trans HKB.out
  have HB2 := hid (HB1.out.trans (st.1.mono HB1.out.size))
  have kR : w2.heap[NR]? = some (Obj.cells #[.int .i64 s, .int .i64 r, (Value.slice (some ⟨bt, off, none⟩) n cap)] 24) := (st.1.block _ (Array.getElem?_eq_some_iff.1 HKR.out).1).trans HKR.out
  go_wp2
  obtain ⟨w3, hW⟩ : ∃ w3, w3 = w2.alloc (Obj.cells #[Value.int IntKind.i64 s, Value.int IntKind.i64 r, Value.slice none 0 0] 24) := ⟨_, rfl⟩
  obtain ⟨NO, hN⟩ : ∃ NO, NO = w2.heap.size := ⟨_, rfl⟩
  have HTO : Hid (NT < NO) := by simp only [Hid]; rw [hN]; exact (Array.getElem?_eq_some_iff.1 kb2).1
  have kT : w3.heap[NT]? = some (Obj.cells #[.int .i64 0, .int .i64 0, .slice none 0 0] 24) := by rw [hW]; exact heap_old kb2
  have kR3 : w3.heap[NR]? = some (Obj.cells #[.int .i64 s, .int .i64 r, (Value.slice (some ⟨bt, off, none⟩) n cap)] 24) := by rw [hW]; exact heap_old kR
  have kO : w3.heap[NO]? = some (Obj.cells #[.int .i64 s, .int .i64 r, .slice none 0 0] 24) := by rw [hW]; exact heap_top hN
  have b3 : Below w.heap.size w w3 := by rw [hW]; exact HB2.out.trans ((below1 _ _).mono HB2.out.size)
  have HNO : Hid (w.heap.size ≤ NO) := by have := HTO.out; have := HNT.out; simp only [Hid]; omega
  simp only [← hW, ← hN]
  clear hW hN kb2 kR st
  go_loopw [5] (fun t wr => ∃ m : Nat, m ≤ n ∧ t = .int .i64 m ∧ Below w.heap.size w wr ∧ wr.heap[NT]? = some (Obj.cells #[.int .i64 0, .int .i64 0, .slice none 0 0] 24) ∧ wr.heap[NR]? = some (Obj.cells #[.int .i64 s, .int .i64 r, (Value.slice (some ⟨bt, off, none⟩) n cap)] 24) ∧
    ∃ ao5 c5, wr.heap[NO]? = some (Obj.cells #[.int .i64 s, .int .i64 r, .slice ao5 m c5] 24) ∧
      wr.ownsRow (NO + 1) 2 1 (.slice ao5 m c5) (tab (mirT s tbl L) m).length ((tab (mirT s tbl L) m).map (Value.int .i64))) (fun t _ => n - (intOf t).toNat)
  case atStart => exact ⟨0, Nat.zero_le _, rfl, b3, kT, kR3, none, 0, kO, World.ownsRow_nil w3 (NO + 1) 2 1⟩
  case round =>
    clear b3 kT kO kR3
    obtain ⟨m, hm, rfl, bel0, kT, kR, ao5, c5, kO, hR⟩ := hrel
    have d2 : wr.cell? ⟨NR, 2, none⟩ = some (Value.slice (some ⟨bt, off, none⟩) n cap) := Go.Joins.cell_of_block kR 2
    by_cases hlt : m < n
    · have hmi : (m : Int) < (n : Int) := by omega
      have d0 : wr.cell? ⟨NR, 0, none⟩ = some (.int .i64 s) := Go.Joins.cell_of_block kR 0
      have d1 : wr.cell? ⟨NR, 1, none⟩ = some (.int .i64 r) := Go.Joins.cell_of_block kR 1
      have HB0 := hid bel0
      have HkT := hid kT
      have HkO := hid kO
      have HkR := hid kR
      have HhR := hid hR
      have hLr := HLr.out
      clear bel0 kT kO hR kR
      go_wp2_with fail
      clear d0 d1
      go_at_call 64
      refine (specDigits HS.out (by omega) (by have := HL5.out; omega)).mono ?_
      rw [dig_length, Int.toNat_natCast]
      rintro e w4 ⟨bd, rfl, od, lo, bel⟩
      have hb := specBack od (dig_length _ _ _) (by have := HL5.out; omega)
      have kT4 := heap_keep bel HkT.out
      have kO4 := heap_keep bel HkO.out
      have kR4 := heap_keep bel HkR.out
      have hR4 := rows_keep HhR.out bel
      have hb4 := HB0.out.trans (bel.mono HB0.out.size)
      have hHb := hid hb
      clear hb od lo bel hLr
      go_wp2_with fail
      go_at_call 75
      refine hHb.out.mono ?_
      rintro e w5 ⟨vk, bk, rfl, ok, lo, bel⟩
      have kT0 := hid (heap_keep bel kT4)
      have kO0 := hid (heap_keep bel kO4)
      have kR0 := hid (heap_keep bel kR4)
      have hR0 := hid (rows_keep hR4 bel)
      have hb5 := hb4.trans (bel.mono hb4.size)
      have hrow : ∀ k, (Value.slice ao5 m c5).ownBlock = some k → NO + 1 ≤ k ∧ k < bk := fun k hk => ⟨(hR4.lt k hk).1, Nat.lt_of_lt_of_le (hR4.lt k hk).2 lo⟩
      have hNO := Nat.lt_of_lt_of_le (Array.getElem?_eq_some_iff.1 kO4).1 lo
      obtain ⟨f1, f2, f3⟩ := mir_facts HS.out (tbl := tbl) (L := L) (by rw [← Hn.out]; exact HLen.out) m
      obtain ⟨ds, hds⟩ : ∃ ds, ds = (dig s m L).reverse := ⟨_, rfl⟩
      rw [← hds] at f1 f2 f3 ok
      obtain ⟨ck, rfl⟩ : ∃ ck, vk = .slice (some ⟨bk, 0, none⟩) ds.length ck := by
        rcases ok.form with ⟨_, hz⟩ | ⟨ck, hv, _⟩
        · have := HL5.out; rw [hz] at f1; simp at f1; omega
        · exact ⟨ck, hv⟩
      obtain ⟨mi, hmm⟩ : ∃ mi : Nat, numL ds s = mi := ⟨_, (Int.toNat_of_nonneg (numL_bd HS.out f2).1).symm⟩
      obtain ⟨x, hx⟩ : ∃ x, x = tbl.getD mi 0 := ⟨_, rfl⟩
      have HT : Hid (tab (mirT s tbl L) (m + 1) = tab (mirT s tbl L) m ++ [x]) := by
        simp only [Hid]; rw [tab_succ]; congr 2
        unfold mirT; rw [← hds, hmm, hx]; simp
      have hmn : (mi : Int) < (n : Int) := by have := Hn.out; omega
      have HZ : Hid (ds.length ≤ 16) := by have := HL5.out; simp only [Hid]; omega
      have HA := hid f2
      have HMi := hid hmm
      have st0 : Below w.heap.size w w5 ∧ w5.cell? ⟨NR, 0, none⟩ = some (.int .i64 s) ∧ w5.cell? ⟨NR, 1, none⟩ = some (.int .i64 r) ∧ w5.cell? ⟨NR, 2, none⟩ = some (Value.slice (some ⟨bt, off, none⟩) n cap) ∧ w5.cell? ⟨bt, off + mi, none⟩ = some (.int .i64 x) ∧ Rd w5 bk (.slice (some ⟨bk, 0, none⟩) ds.length ck) ds ∧ w.heap.size ≤ w5.heap.size := ⟨hb5, Go.Joins.cell_of_block kR0.out 0, Go.Joins.cell_of_block kR0.out 1, Go.Joins.cell_of_block kR0.out 2, by rw [hx]; exact (hb5.cell (p := ⟨bt, off + mi, none⟩) HBt.out).trans (HC.out mi (by omega)), ok.rd, hb5.size⟩
      have HROW : Hid (some NR ≠ (Value.slice ao5 m c5).ownBlock ∧ some bt ≠ (Value.slice ao5 m c5).ownBlock ∧ some bk ≠ (Value.slice ao5 m c5).ownBlock) := by
        have h1 := HTO.out; have h2 := HRT.out; have h3 := HBt.out; have h4 := HNO.out
        exact ⟨fun e => by have := hrow _ e.symm; omega, fun e => by have := hrow _ e.symm; omega, fun e => by have := hrow _ e.symm; omega⟩
      have HNEo : Hid ((some NR : Option Nat) ≠ some NO ∧ (some bt : Option Nat) ≠ some NO ∧ (some bk : Option Nat) ≠ some NO) := by
        have h1 := HTO.out; have h2 := HRT.out; have h3 := HBt.out; have h4 := HNO.out
        exact ⟨by simp; omega, by simp; omega, by simp; omega⟩
      clear ok lo bel hb4 hb5 hrow f1 f2 f3 hds hmm hx hNO kT4 kO4 kR4 hR4
      go_wp2_with fail
      refine wp_region_held_drew (S := (fun ww => Below w.heap.size w ww ∧ ww.cell? ⟨NR, 0, none⟩ = some (.int .i64 s) ∧ ww.cell? ⟨NR, 1, none⟩ = some (.int .i64 r) ∧ ww.cell? ⟨NR, 2, none⟩ = some (Value.slice (some ⟨bt, off, none⟩) n cap) ∧ ww.cell? ⟨bt, off + mi, none⟩ = some (.int .i64 x) ∧ Rd ww bk (.slice (some ⟨bk, 0, none⟩) ds.length ck) ds ∧ w.heap.size ≤ ww.heap.size)) (by kernel_rfl) ?_ (fun hHeld => ?_)
      · ((try dsimp only); exact drew4_1 st0)
      generalize hD : w5.drew = wD at hHeld ⊢
      have kT : wD.heap[NT]? = some (Obj.cells #[.int .i64 0, .int .i64 0, .slice none 0 0] 24) := by rw [← hD]; exact kT0.out
      have kR : wD.heap[NR]? = some (Obj.cells #[.int .i64 s, .int .i64 r, (Value.slice (some ⟨bt, off, none⟩) n cap)] 24) := by rw [← hD]; exact kR0.out
      have kO : wD.heap[NO]? = some (Obj.cells #[.int .i64 s, .int .i64 r, .slice ao5 m c5] 24) := by rw [← hD]; exact kO0.out
      have hR : wD.ownsRow (NO + 1) 2 1 (.slice ao5 m c5) (tab (mirT s tbl L) m).length ((tab (mirT s tbl L) m).map (Value.int .i64)) := by rw [← hD]; exact hR0.out
      clear hD st0
      (refine wpAnyH_take (i := 0) (v := ?_) rfl ?_ ?_ ?_ (fun _ _ _ h => h) (Or.inl ⟨?_, ?_⟩) ?_ ?_; rotate_left 1; (focus decide +kernel); (focus decide +kernel); (focus decide +kernel); (focus rfl); (focus (intro w hSw; (try dsimp only at hSw); go_simp; (try (with_reducible rfl)); done)); (focus assumption); (try simp only [Act.put, List.setIfInBounds_toArray, List.set_cons_zero, List.set_cons_succ, List.getElem_toArray, List.getElem_cons_succ, List.getElem_cons_zero]))
      (refine wpAnyH_take (i := 2) (v := ?_) rfl ?_ ?_ ?_ (fun _ _ _ h => h) (Or.inl ⟨?_, ?_⟩) ?_ ?_; rotate_left 1; (focus decide +kernel); (focus decide +kernel); (focus decide +kernel); (focus rfl); (focus (intro w hSw; (try dsimp only at hSw); go_simp; (try (with_reducible rfl)); done)); (focus assumption); (try simp only [Act.put, List.setIfInBounds_toArray, List.set_cons_zero, List.set_cons_succ, List.getElem_toArray, List.getElem_cons_succ, List.getElem_cons_zero]))
      (refine wpAnyH_take (i := 3) (v := ?_) rfl ?_ ?_ ?_ (fun _ _ _ h => h) (Or.inl ⟨?_, ?_⟩) ?_ ?_; rotate_left 1; (focus decide +kernel); (focus decide +kernel); (focus decide +kernel); (focus rfl); (focus (intro w hSw; (try dsimp only at hSw); go_simp; (try (with_reducible rfl)); done)); (focus assumption); (try simp only [Act.put, List.setIfInBounds_toArray, List.set_cons_zero, List.set_cons_succ, List.getElem_toArray, List.getElem_cons_succ, List.getElem_cons_zero]))
      (refine wpAnyH_take (i := 4) (v := ?_) rfl ?_ ?_ ?_ (fun _ _ _ h => h) (Or.inl ⟨?_, ?_⟩) ?_ ?_; rotate_left 1; (focus decide +kernel); (focus decide +kernel); (focus decide +kernel); (focus rfl); (focus (intro w hSw; (try dsimp only at hSw); go_simp; (try (with_reducible rfl)); done)); (focus assumption); (try simp only [Act.put, List.setIfInBounds_toArray, List.set_cons_zero, List.set_cons_succ, List.getElem_toArray, List.getElem_cons_succ, List.getElem_cons_zero]))
      (refine wpAnyH_take (i := 5) (v := ?_) rfl ?_ ?_ ?_ (fun _ _ _ h => h) (Or.inl ⟨?_, ?_⟩) ?_ ?_; rotate_left 1; (focus decide +kernel); (focus decide +kernel); (focus decide +kernel); (focus rfl); (focus (intro w hSw; (try dsimp only at hSw); go_simp; (try (with_reducible rfl)); done)); (focus assumption); (try simp only [Act.put, List.setIfInBounds_toArray, List.set_cons_zero, List.set_cons_succ, List.getElem_toArray, List.getElem_cons_succ, List.getElem_cons_zero]))
      (refine wpAnyH_take (i := 6) (v := ?_) rfl ?_ ?_ ?_ (fun _ _ _ h => h) (Or.inl ⟨?_, ?_⟩) ?_ ?_; rotate_left 1; (focus decide +kernel); (focus decide +kernel); (focus decide +kernel); (focus rfl); (focus (intro w hSw; (try dsimp only at hSw); go_simp; (try (with_reducible rfl)); done)); (focus assumption); (try simp only [Act.put, List.setIfInBounds_toArray, List.set_cons_zero, List.set_cons_succ, List.getElem_toArray, List.getElem_cons_succ, List.getElem_cons_zero]))
      refine wpAnyH_ready (rs := [1, 7]) ?_ (by simp) ?_
      · decide +kernel
      refine AllReadyH.cons rfl (fun K hK => ?_) (AllReadyH.cons rfl (fun K hK => ?_) AllReadyH.nil)
      · have kv : wD.cell? ⟨NO, 2, none⟩ = some (.slice ao5 m c5) := Go.Joins.cell_of_block (kO) 2
        go_simp
        refine hK.out _ _ ?_ (fun hHeld => ?_)
        · (try dsimp only); exact hHeld
        clear hK K kv
        (try simp only [Act.put, List.setIfInBounds_toArray, List.set_cons_zero, List.set_cons_succ, List.getElem_toArray, List.getElem_cons_succ, List.getElem_cons_zero])
        refine wpAnyH_ready (rs := [7]) ?_ (by simp) ?_
        · decide +kernel
        refine AllReadyH.cons rfl (fun K hK => ?_) AllReadyH.nil
        go_simp
        go_at_call 76
        refine (specIndex (rd4_1_0 hHeld) HS.out HZ.out HA.out).mono ?_
        rw [HMi.out]
        rintro e w' ⟨rfl, hw'⟩
        subst hw'
        refine hK.out _ _ ?_ (fun hHeld => ?_)
        · (try dsimp only); exact hHeld
        clear hK K
        (try simp only [Act.put, List.setIfInBounds_toArray, List.set_cons_zero, List.set_cons_succ, List.getElem_toArray, List.getElem_cons_succ, List.getElem_cons_zero])
        (refine wpAnyH_take (i := 8) (v := ?_) rfl ?_ ?_ ?_ (fun _ _ _ h => h) (Or.inl ⟨?_, ?_⟩) ?_ ?_; rotate_left 1; (focus decide +kernel); (focus decide +kernel); (focus decide +kernel); (focus rfl); (focus (intro w hSw; (try dsimp only at hSw); go_simp; (try (with_reducible rfl)); done)); (focus assumption); (try simp only [Act.put, List.setIfInBounds_toArray, List.set_cons_zero, List.set_cons_succ, List.getElem_toArray, List.getElem_cons_succ, List.getElem_cons_zero]))
        (refine wpAnyH_take (i := 9) (v := ?_) rfl ?_ ?_ ?_ (fun _ _ _ h => h) (Or.inl ⟨?_, ?_⟩) ?_ ?_; rotate_left 1; (focus decide +kernel); (focus decide +kernel); (focus decide +kernel); (focus rfl); (focus (intro w hSw; (try dsimp only at hSw); go_simp; (try (with_reducible rfl)); done)); (focus assumption); (try simp only [Act.put, List.setIfInBounds_toArray, List.set_cons_zero, List.set_cons_succ, List.getElem_toArray, List.getElem_cons_succ, List.getElem_cons_zero]))
        refine wpAnyH_ready (rs := [10]) ?_ (by simp) ?_
        · decide +kernel
        refine AllReadyH.cons rfl (fun K hK => ?_) AllReadyH.nil
        go_simp
        refine hK.out _ _ ?_ (fun hHeld2 => ?_)
        · (try dsimp only); have bel := below1 wD (Obj.cells #[.int .i64 x] 2); exact next4_1 bel hHeld
        clear hK K
        have hHeld1 := hHeld
        clear hHeld
        have hHeld := hHeld2
        clear hHeld2
        (try simp only [Act.put, List.setIfInBounds_toArray, List.set_cons_zero, List.set_cons_succ, List.getElem_toArray, List.getElem_cons_succ, List.getElem_cons_zero])
        refine wpAnyH_ready (rs := [11]) ?_ (by simp) ?_
        · decide +kernel
        refine AllReadyH.cons rfl (fun K hK => ?_) AllReadyH.nil
        refine op_append1 rfl _ _ rfl (NO + 1) _ _ rfl hR x rfl ?c1 ?c2 ?_
        case c1 => rw [tab_length]; omega
        case c2 => exact (Array.getElem?_eq_some_iff.1 kO).1
        intro v' w5 hown5 hbel5 g5
        have kO5 := (hbel5.block NO (Nat.lt_succ_self NO)).trans kO
        have kT5 := (hbel5.block _ (Nat.lt_of_lt_of_le HTO.out (Nat.le_succ NO))).trans kT
        have kR5 := (hbel5.block _ (Nat.lt_of_lt_of_le (Nat.lt_trans HRT.out HTO.out) (Nat.le_succ NO))).trans kR
        have bel : Below w.heap.size wD w5 := hbel5.mono (by have := HNO.out; omega)
        refine hK.out _ _ ?_ (fun hHeld3 => ?_)
        · (try dsimp only); exact Wider.nextg4_1 g5 bel HROW.out.1 HROW.out.1 HROW.out.1 HROW.out.2.1 HROW.out.2.2 hHeld1
        clear hK K hHeld hHeld1
        obtain ⟨b5, hb5, ho5⟩ := Own.of hown5
        rcases ho5.form with ⟨_, he⟩ | ⟨c6, rfl, _, _, _⟩
        · exact absurd he (by simp)
        rw [show (tab (mirT s tbl L) m ++ [x]).length = m + 1 by simp [tab_length]] at hown5 ⊢
        have hHeld := hHeld3
        clear hHeld3 bel ho5 hbel5
        (try simp only [Act.put, List.setIfInBounds_toArray, List.set_cons_zero, List.set_cons_succ, List.getElem_toArray, List.getElem_cons_succ, List.getElem_cons_zero])
        (refine wpAnyH_take (i := 12) (v := ?_) rfl ?_ ?_ ?_ (fun _ _ _ h => h) (Or.inl ⟨?_, ?_⟩) ?_ ?_; rotate_left 1; (focus decide +kernel); (focus decide +kernel); (focus decide +kernel); (focus rfl); (focus (intro w hSw; (try dsimp only at hSw); go_simp; (try (with_reducible rfl)); done)); (focus assumption); (try simp only [Act.put, List.setIfInBounds_toArray, List.set_cons_zero, List.set_cons_succ, List.getElem_toArray, List.getElem_cons_succ, List.getElem_cons_zero]))
        refine wpAnyH_ready (rs := [13]) ?_ (by simp) ?_
        · decide +kernel
        refine AllReadyH.cons rfl (fun K hK => ?_) AllReadyH.nil
        have y2 : w5.cell? ⟨NO, 2, none⟩ = some (.slice ao5 m c5) := Go.Joins.cell_of_block kO5 2
        have g2 : w5.frozen? ⟨NO, 2, none⟩ = false := Go.Joins.unfrozen_of_block kO5 2
        go_simp
        have kOs := Go.Joins.block_setCell (i := 2) kO5 (.slice (some ⟨b5, 0, none⟩) (m + 1) c6)
        have hRs := rows_set hown5 ⟨NO, 2, none⟩ (.slice (some ⟨b5, 0, none⟩) (m + 1) c6) (Nat.lt_succ_self NO)
        have kTs := (Below.heap_setCell w5 ⟨NO, 2, none⟩ (.slice (some ⟨b5, 0, none⟩) (m + 1) c6) _ (Nat.ne_of_lt HTO.out)).trans kT5
        have kRs := (Below.heap_setCell w5 ⟨NO, 2, none⟩ (.slice (some ⟨b5, 0, none⟩) (m + 1) c6) _ (Nat.ne_of_lt (Nat.lt_trans HRT.out HTO.out))).trans kR5
        have bel : Below w.heap.size w5 (w5.setCell ⟨NO, 2, none⟩ (.slice (some ⟨b5, 0, none⟩) (m + 1) c6)) := (Below.refl _ _).setCell (by have := HNO.out; simp; omega) _
        have gs : w5.grownBy (w5.setCell ⟨NO, 2, none⟩ (.slice (some ⟨b5, 0, none⟩) (m + 1) c6)) (some NO) := setCell_grown w5 ⟨NO, 2, none⟩ (.slice (some ⟨b5, 0, none⟩) (m + 1) c6)
        obtain ⟨wS, hW⟩ : ∃ wS, wS = w5.setCell ⟨NO, 2, none⟩ (.slice (some ⟨b5, 0, none⟩) (m + 1) c6) := ⟨_, rfl⟩
        rw [← hW] at kOs hRs bel gs kTs kRs
        refine hK.out _ _ ?_ (fun hHeld4 => ?_)
        · (try dsimp only); rw [← hW]; exact Wider.nextg4_1 gs bel HNEo.out.1 HNEo.out.1 HNEo.out.1 HNEo.out.2.1 HNEo.out.2.2 hHeld
        clear hK K
        simp only [← hW] at hHeld4 ⊢
        clear hW y2 g2
        (try simp only [Act.put, List.setIfInBounds_toArray, List.set_cons_zero, List.set_cons_succ, List.getElem_toArray, List.getElem_cons_succ, List.getElem_cons_zero])
        refine wpAnyH_done (by kernel_rfl) ?_ _
        have hBs := hHeld4.1
        clear hHeld4 hHeld
        go_wp2
        go_roundw
        case rel =>
          refine ⟨m + 1, by omega, by go_num, hBs, kTs, kRs, some ⟨b5, 0, none⟩, c6, kOs, ?_⟩
          rw [HT.out, List.map_append, List.length_append]
          simpa [tab_length] using hRs
        case measure => simp [intOf]; omega
      · go_simp
        go_at_call 76
        refine (specIndex (rd4_1_0 hHeld) HS.out HZ.out HA.out).mono ?_
        rw [HMi.out]
        rintro e w' ⟨rfl, hw'⟩
        subst hw'
        refine hK.out _ _ ?_ (fun hHeld => ?_)
        · (try dsimp only); exact hHeld
        clear hK K
        (try simp only [Act.put, List.setIfInBounds_toArray, List.set_cons_zero, List.set_cons_succ, List.getElem_toArray, List.getElem_cons_succ, List.getElem_cons_zero])
        (refine wpAnyH_take (i := 8) (v := ?_) rfl ?_ ?_ ?_ (fun _ _ _ h => h) (Or.inl ⟨?_, ?_⟩) ?_ ?_; rotate_left 1; (focus decide +kernel); (focus decide +kernel); (focus decide +kernel); (focus rfl); (focus (intro w hSw; (try dsimp only at hSw); go_simp; (try (with_reducible rfl)); done)); (focus assumption); (try simp only [Act.put, List.setIfInBounds_toArray, List.set_cons_zero, List.set_cons_succ, List.getElem_toArray, List.getElem_cons_succ, List.getElem_cons_zero]))
        (refine wpAnyH_take (i := 9) (v := ?_) rfl ?_ ?_ ?_ (fun _ _ _ h => h) (Or.inl ⟨?_, ?_⟩) ?_ ?_; rotate_left 1; (focus decide +kernel); (focus decide +kernel); (focus decide +kernel); (focus rfl); (focus (intro w hSw; (try dsimp only at hSw); go_simp; (try (with_reducible rfl)); done)); (focus assumption); (try simp only [Act.put, List.setIfInBounds_toArray, List.set_cons_zero, List.set_cons_succ, List.getElem_toArray, List.getElem_cons_succ, List.getElem_cons_zero]))
        refine wpAnyH_ready (rs := [1, 10]) ?_ (by simp) ?_
        · decide +kernel
        refine AllReadyH.cons rfl (fun K hK => ?_) (AllReadyH.cons rfl (fun K hK => ?_) AllReadyH.nil)
        · have kv : wD.cell? ⟨NO, 2, none⟩ = some (.slice ao5 m c5) := Go.Joins.cell_of_block (kO) 2
          go_simp
          refine hK.out _ _ ?_ (fun hHeld => ?_)
          · (try dsimp only); exact hHeld
          clear hK K kv
          (try simp only [Act.put, List.setIfInBounds_toArray, List.set_cons_zero, List.set_cons_succ, List.getElem_toArray, List.getElem_cons_succ, List.getElem_cons_zero])
          refine wpAnyH_ready (rs := [10]) ?_ (by simp) ?_
          · decide +kernel
          refine AllReadyH.cons rfl (fun K hK => ?_) AllReadyH.nil
          go_simp
          refine hK.out _ _ ?_ (fun hHeld2 => ?_)
          · (try dsimp only); have bel := below1 wD (Obj.cells #[.int .i64 x] 2); exact next4_1 bel hHeld
          clear hK K
          have hHeld1 := hHeld
          clear hHeld
          have hHeld := hHeld2
          clear hHeld2
          (try simp only [Act.put, List.setIfInBounds_toArray, List.set_cons_zero, List.set_cons_succ, List.getElem_toArray, List.getElem_cons_succ, List.getElem_cons_zero])
          refine wpAnyH_ready (rs := [11]) ?_ (by simp) ?_
          · decide +kernel
          refine AllReadyH.cons rfl (fun K hK => ?_) AllReadyH.nil
          refine op_append1 rfl _ _ rfl (NO + 1) _ _ rfl hR x rfl ?c1 ?c2 ?_
          case c1 => rw [tab_length]; omega
          case c2 => exact (Array.getElem?_eq_some_iff.1 kO).1
          intro v' w5 hown5 hbel5 g5
          have kO5 := (hbel5.block NO (Nat.lt_succ_self NO)).trans kO
          have kT5 := (hbel5.block _ (Nat.lt_of_lt_of_le HTO.out (Nat.le_succ NO))).trans kT
          have kR5 := (hbel5.block _ (Nat.lt_of_lt_of_le (Nat.lt_trans HRT.out HTO.out) (Nat.le_succ NO))).trans kR
          have bel : Below w.heap.size wD w5 := hbel5.mono (by have := HNO.out; omega)
          refine hK.out _ _ ?_ (fun hHeld3 => ?_)
          · (try dsimp only); exact Wider.nextg4_1 g5 bel HROW.out.1 HROW.out.1 HROW.out.1 HROW.out.2.1 HROW.out.2.2 hHeld1
          clear hK K hHeld hHeld1
          obtain ⟨b5, hb5, ho5⟩ := Own.of hown5
          rcases ho5.form with ⟨_, he⟩ | ⟨c6, rfl, _, _, _⟩
          · exact absurd he (by simp)
          rw [show (tab (mirT s tbl L) m ++ [x]).length = m + 1 by simp [tab_length]] at hown5 ⊢
          have hHeld := hHeld3
          clear hHeld3 bel ho5 hbel5
          (try simp only [Act.put, List.setIfInBounds_toArray, List.set_cons_zero, List.set_cons_succ, List.getElem_toArray, List.getElem_cons_succ, List.getElem_cons_zero])
          (refine wpAnyH_take (i := 12) (v := ?_) rfl ?_ ?_ ?_ (fun _ _ _ h => h) (Or.inl ⟨?_, ?_⟩) ?_ ?_; rotate_left 1; (focus decide +kernel); (focus decide +kernel); (focus decide +kernel); (focus rfl); (focus (intro w hSw; (try dsimp only at hSw); go_simp; (try (with_reducible rfl)); done)); (focus assumption); (try simp only [Act.put, List.setIfInBounds_toArray, List.set_cons_zero, List.set_cons_succ, List.getElem_toArray, List.getElem_cons_succ, List.getElem_cons_zero]))
          refine wpAnyH_ready (rs := [13]) ?_ (by simp) ?_
          · decide +kernel
          refine AllReadyH.cons rfl (fun K hK => ?_) AllReadyH.nil
          have y2 : w5.cell? ⟨NO, 2, none⟩ = some (.slice ao5 m c5) := Go.Joins.cell_of_block kO5 2
          have g2 : w5.frozen? ⟨NO, 2, none⟩ = false := Go.Joins.unfrozen_of_block kO5 2
          go_simp
          have kOs := Go.Joins.block_setCell (i := 2) kO5 (.slice (some ⟨b5, 0, none⟩) (m + 1) c6)
          have hRs := rows_set hown5 ⟨NO, 2, none⟩ (.slice (some ⟨b5, 0, none⟩) (m + 1) c6) (Nat.lt_succ_self NO)
          have kTs := (Below.heap_setCell w5 ⟨NO, 2, none⟩ (.slice (some ⟨b5, 0, none⟩) (m + 1) c6) _ (Nat.ne_of_lt HTO.out)).trans kT5
          have kRs := (Below.heap_setCell w5 ⟨NO, 2, none⟩ (.slice (some ⟨b5, 0, none⟩) (m + 1) c6) _ (Nat.ne_of_lt (Nat.lt_trans HRT.out HTO.out))).trans kR5
          have bel : Below w.heap.size w5 (w5.setCell ⟨NO, 2, none⟩ (.slice (some ⟨b5, 0, none⟩) (m + 1) c6)) := (Below.refl _ _).setCell (by have := HNO.out; simp; omega) _
          have gs : w5.grownBy (w5.setCell ⟨NO, 2, none⟩ (.slice (some ⟨b5, 0, none⟩) (m + 1) c6)) (some NO) := setCell_grown w5 ⟨NO, 2, none⟩ (.slice (some ⟨b5, 0, none⟩) (m + 1) c6)
          obtain ⟨wS, hW⟩ : ∃ wS, wS = w5.setCell ⟨NO, 2, none⟩ (.slice (some ⟨b5, 0, none⟩) (m + 1) c6) := ⟨_, rfl⟩
          rw [← hW] at kOs hRs bel gs kTs kRs
          refine hK.out _ _ ?_ (fun hHeld4 => ?_)
          · (try dsimp only); rw [← hW]; exact Wider.nextg4_1 gs bel HNEo.out.1 HNEo.out.1 HNEo.out.1 HNEo.out.2.1 HNEo.out.2.2 hHeld
          clear hK K
          simp only [← hW] at hHeld4 ⊢
          clear hW y2 g2
          (try simp only [Act.put, List.setIfInBounds_toArray, List.set_cons_zero, List.set_cons_succ, List.getElem_toArray, List.getElem_cons_succ, List.getElem_cons_zero])
          refine wpAnyH_done (by kernel_rfl) ?_ _
          have hBs := hHeld4.1
          clear hHeld4 hHeld
          go_wp2
          go_roundw
          case rel =>
            refine ⟨m + 1, by omega, by go_num, hBs, kTs, kRs, some ⟨b5, 0, none⟩, c6, kOs, ?_⟩
            rw [HT.out, List.map_append, List.length_append]
            simpa [tab_length] using hRs
          case measure => simp [intOf]; omega
        · go_simp
          refine hK.out _ _ ?_ (fun hHeld2 => ?_)
          · (try dsimp only); have bel := below1 wD (Obj.cells #[.int .i64 x] 2); exact next4_1 bel hHeld
          clear hK K
          have hHeld1 := hHeld
          clear hHeld
          have hHeld := hHeld2
          clear hHeld2
          (try simp only [Act.put, List.setIfInBounds_toArray, List.set_cons_zero, List.set_cons_succ, List.getElem_toArray, List.getElem_cons_succ, List.getElem_cons_zero])
          refine wpAnyH_ready (rs := [1]) ?_ (by simp) ?_
          · decide +kernel
          refine AllReadyH.cons rfl (fun K hK => ?_) AllReadyH.nil
          have kv : (wD.alloc (Obj.cells #[.int .i64 x] 2)).cell? ⟨NO, 2, none⟩ = some (.slice ao5 m c5) := Go.Joins.cell_of_block (heap_old kO) 2
          go_simp
          refine hK.out _ _ ?_ (fun hHeld => ?_)
          · (try dsimp only); exact hHeld
          clear hK K kv
          (try simp only [Act.put, List.setIfInBounds_toArray, List.set_cons_zero, List.set_cons_succ, List.getElem_toArray, List.getElem_cons_succ, List.getElem_cons_zero])
          refine wpAnyH_ready (rs := [11]) ?_ (by simp) ?_
          · decide +kernel
          refine AllReadyH.cons rfl (fun K hK => ?_) AllReadyH.nil
          refine op_append1 rfl _ _ rfl (NO + 1) _ _ rfl hR x rfl ?c1 ?c2 ?_
          case c1 => rw [tab_length]; omega
          case c2 => exact (Array.getElem?_eq_some_iff.1 kO).1
          intro v' w5 hown5 hbel5 g5
          have kO5 := (hbel5.block NO (Nat.lt_succ_self NO)).trans kO
          have kT5 := (hbel5.block _ (Nat.lt_of_lt_of_le HTO.out (Nat.le_succ NO))).trans kT
          have kR5 := (hbel5.block _ (Nat.lt_of_lt_of_le (Nat.lt_trans HRT.out HTO.out) (Nat.le_succ NO))).trans kR
          have bel : Below w.heap.size wD w5 := hbel5.mono (by have := HNO.out; omega)
          refine hK.out _ _ ?_ (fun hHeld3 => ?_)
          · (try dsimp only); exact Wider.nextg4_1 g5 bel HROW.out.1 HROW.out.1 HROW.out.1 HROW.out.2.1 HROW.out.2.2 hHeld1
          clear hK K hHeld hHeld1
          obtain ⟨b5, hb5, ho5⟩ := Own.of hown5
          rcases ho5.form with ⟨_, he⟩ | ⟨c6, rfl, _, _, _⟩
          · exact absurd he (by simp)
          rw [show (tab (mirT s tbl L) m ++ [x]).length = m + 1 by simp [tab_length]] at hown5 ⊢
          have hHeld := hHeld3
          clear hHeld3 bel ho5 hbel5
          (try simp only [Act.put, List.setIfInBounds_toArray, List.set_cons_zero, List.set_cons_succ, List.getElem_toArray, List.getElem_cons_succ, List.getElem_cons_zero])
          (refine wpAnyH_take (i := 12) (v := ?_) rfl ?_ ?_ ?_ (fun _ _ _ h => h) (Or.inl ⟨?_, ?_⟩) ?_ ?_; rotate_left 1; (focus decide +kernel); (focus decide +kernel); (focus decide +kernel); (focus rfl); (focus (intro w hSw; (try dsimp only at hSw); go_simp; (try (with_reducible rfl)); done)); (focus assumption); (try simp only [Act.put, List.setIfInBounds_toArray, List.set_cons_zero, List.set_cons_succ, List.getElem_toArray, List.getElem_cons_succ, List.getElem_cons_zero]))
          refine wpAnyH_ready (rs := [13]) ?_ (by simp) ?_
          · decide +kernel
          refine AllReadyH.cons rfl (fun K hK => ?_) AllReadyH.nil
          have y2 : w5.cell? ⟨NO, 2, none⟩ = some (.slice ao5 m c5) := Go.Joins.cell_of_block kO5 2
          have g2 : w5.frozen? ⟨NO, 2, none⟩ = false := Go.Joins.unfrozen_of_block kO5 2
          go_simp
          have kOs := Go.Joins.block_setCell (i := 2) kO5 (.slice (some ⟨b5, 0, none⟩) (m + 1) c6)
          have hRs := rows_set hown5 ⟨NO, 2, none⟩ (.slice (some ⟨b5, 0, none⟩) (m + 1) c6) (Nat.lt_succ_self NO)
          have kTs := (Below.heap_setCell w5 ⟨NO, 2, none⟩ (.slice (some ⟨b5, 0, none⟩) (m + 1) c6) _ (Nat.ne_of_lt HTO.out)).trans kT5
          have kRs := (Below.heap_setCell w5 ⟨NO, 2, none⟩ (.slice (some ⟨b5, 0, none⟩) (m + 1) c6) _ (Nat.ne_of_lt (Nat.lt_trans HRT.out HTO.out))).trans kR5
          have bel : Below w.heap.size w5 (w5.setCell ⟨NO, 2, none⟩ (.slice (some ⟨b5, 0, none⟩) (m + 1) c6)) := (Below.refl _ _).setCell (by have := HNO.out; simp; omega) _
          have gs : w5.grownBy (w5.setCell ⟨NO, 2, none⟩ (.slice (some ⟨b5, 0, none⟩) (m + 1) c6)) (some NO) := setCell_grown w5 ⟨NO, 2, none⟩ (.slice (some ⟨b5, 0, none⟩) (m + 1) c6)
          obtain ⟨wS, hW⟩ : ∃ wS, wS = w5.setCell ⟨NO, 2, none⟩ (.slice (some ⟨b5, 0, none⟩) (m + 1) c6) := ⟨_, rfl⟩
          rw [← hW] at kOs hRs bel gs kTs kRs
          refine hK.out _ _ ?_ (fun hHeld4 => ?_)
          · (try dsimp only); rw [← hW]; exact Wider.nextg4_1 gs bel HNEo.out.1 HNEo.out.1 HNEo.out.1 HNEo.out.2.1 HNEo.out.2.2 hHeld
          clear hK K
          simp only [← hW] at hHeld4 ⊢
          clear hW y2 g2
          (try simp only [Act.put, List.setIfInBounds_toArray, List.set_cons_zero, List.set_cons_succ, List.getElem_toArray, List.getElem_cons_succ, List.getElem_cons_zero])
          refine wpAnyH_done (by kernel_rfl) ?_ _
          have hBs := hHeld4.1
          clear hHeld4 hHeld
          go_wp2
          go_roundw
          case rel =>
            refine ⟨m + 1, by omega, by go_num, hBs, kTs, kRs, some ⟨b5, 0, none⟩, c6, kOs, ?_⟩
            rw [HT.out, List.map_append, List.length_append]
            simpa [tab_length] using hRs
          case measure => simp [intOf]; omega
    · have hkn : m = n := by omega
      subst hkn
      obtain ⟨b', hb', o'⟩ := Own.of hR
      have x0 : wr.cell? ⟨NO, 0, none⟩ = some (.int .i64 s) := Go.Joins.cell_of_block kO 0
      have x1 : wr.cell? ⟨NO, 1, none⟩ = some (.int .i64 r) := Go.Joins.cell_of_block kO 1
      have x2 : wr.cell? ⟨NO, 2, none⟩ = some (.slice ao5 m c5) := Go.Joins.cell_of_block kO 2
      have hne : NT ≠ b' := by have := HTO.out; omega
      have HNB := hid hne
      have HLo : Hid (w.heap.size ≤ b') := by have := HNO.out; simp only [Hid]; omega
      have HB := hid bel0
      have HO := hid o'
      have kb := kT
      clear bel0 hR kO o' hb' hne kR kT
      have y0 : wr.cell? ⟨NT, 0, none⟩ = some (.int .i64 0) := Go.Joins.cell_of_block kb 0
      have y1 : wr.cell? ⟨NT, 1, none⟩ = some (.int .i64 0) := Go.Joins.cell_of_block kb 1
      have y2 : wr.cell? ⟨NT, 2, none⟩ = some (.slice none 0 0) := Go.Joins.cell_of_block kb 2
      have g0 : wr.frozen? ⟨NT, 0, none⟩ = false := Go.Joins.unfrozen_of_block kb 0
      have g1 : wr.frozen? ⟨NT, 1, none⟩ = false := Go.Joins.unfrozen_of_block kb 1
      have g2 : wr.frozen? ⟨NT, 2, none⟩ = false := Go.Joins.unfrozen_of_block kb 2
      have HKx := hid kb
      clear kb
      go_wp2
      obtain ⟨W5, hW⟩ : ∃ W5, W5 = (((wr.setCell ⟨NT, 0, none⟩ (.int .i64 s)).setCell ⟨NT, 1, none⟩ (.int .i64 r)).setCell ⟨NT, 2, none⟩ (.slice ao5 m c5)) := ⟨_, rfl⟩
      have q0 := (Go.Joins.block_setCell (i := 2) (Go.Joins.block_setCell (i := 1) (Go.Joins.block_setCell (i := 0) HKx.out (.int .i64 s)) (.int .i64 r)) (.slice ao5 m c5))
      rw [← hW] at q0
      have z0 : W5.cell? ⟨NT, 0, none⟩ = some (.int .i64 s) := Go.Joins.cell_of_block q0 0
      have z1 : W5.cell? ⟨NT, 1, none⟩ = some (.int .i64 r) := Go.Joins.cell_of_block q0 1
      have z2 : W5.cell? ⟨NT, 2, none⟩ = some (.slice ao5 m c5) := Go.Joins.cell_of_block q0 2
      have O5 := (own_set (own_set (own_set HO.out ⟨NT, 0, none⟩ (.int .i64 s) HNB.out) ⟨NT, 1, none⟩ (.int .i64 r) HNB.out) ⟨NT, 2, none⟩ (.slice ao5 m c5) HNB.out)
      rw [← hW] at O5
      have B5 : Below w.heap.size w W5 := by
        have h1 := HNT.out
        rw [hW]
        exact ((HB.out.setCell (by simp; omega) _).setCell (by simp; omega) _).setCell (by simp; omega) _
      simp only [← hW]
      clear hW q0
      simp [bodyPost, results, Try.results31, go_sem, z0, z1, z2]
      exact ⟨b', O5, HLo.out, B5⟩

theorem agree (s r : Int) (tbl : List Int) (hz : tbl.length ≤ 1048576) : ∃ (qs qr : Int) (rs : List Int) (ok : Bool), rs.length ≤ 1000000 ∧
    (∀ (w : World) (b : Nat) (v : Value), Rd w b v tbl → Calls Try.prog 31 #[ruleV s r v] w fun e w' => ∃ ao c b', e = .returned (.tuple #[ruleV qs qr (.slice ao rs.length c), .bool ok]) ∧ Own 2 w' b' (.slice ao rs.length c) rs ∧ w.heap.size ≤ b' ∧ Below w.heap.size w w') ∧
    (∀ (w : World) (b : Nat) (v : Value), Rd w b v tbl → Calls Try.prog 33 #[ruleV s r v] w fun e w' => ∃ ao c b', e = .returned (.tuple #[ruleV qs qr (.slice ao rs.length c), .bool ok]) ∧ Own 2 w' b' (.slice ao rs.length c) rs ∧ w.heap.size ≤ b' ∧ Below w.heap.size w w') := by
  have no : ∀ {f : FuncId} {w : World} {v : Value}, Calls Try.prog f #[ruleV s r v] w (fun e w' => e = .returned (.tuple #[ruleV 0 0 (.slice none 0 0), .bool false]) ∧ Below w.heap.size w w') →
      Calls Try.prog f #[ruleV s r v] w fun e w' => ∃ ao c b', e = .returned (.tuple #[ruleV 0 0 (.slice ao ([] : List Int).length c), .bool false]) ∧ Own 2 w' b' (.slice ao ([] : List Int).length c) [] ∧ w.heap.size ≤ b' ∧ Below w.heap.size w w' := by
    intro f w v hc
    refine hc.mono ?_
    rintro e w' ⟨rfl, bel⟩
    exact ⟨none, 0, w.heap.size, rfl, Own.nil _ _ _, Nat.le_refl _, bel⟩
  cases hv : validB s r tbl with
  | false => exact ⟨0, 0, [], false, by simp, fun w b v h => no (specNo h hv), fun w b v h => no (implNo h hv)⟩
  | true =>
    obtain ⟨hs, hr, hl, ha⟩ := Al.valid_parts hv
    obtain ⟨L, hL⟩ : ∃ L : Nat, (L : Int) = 2 * r + 1 := ⟨(2 * r + 1).toNat, by omega⟩
    have hM2 : 1 ≤ tbl.length ∧ tbl.length ≤ 243 := by have := pow_bd hs (show (2 * r + 1).toNat ≤ 5 by omega); omega
    refine ⟨s, r, tab (mirT s tbl L) tbl.length, true, by rw [tab_length]; omega, fun w b v h => ?_, fun w b v h => ?_⟩
    · refine (specOk rfl hL h hv).mono ?_
      rintro e w' ⟨v', b', rfl, own, lo, bel⟩
      rcases own.form with ⟨rfl, hz⟩ | ⟨c', rfl, _⟩
      · have := tab_length (mirT s tbl L) tbl.length; rw [hz] at this; simp at this; omega
      · exact ⟨_, _, b', rfl, own, lo, bel⟩
    · refine (implOk h hv hL).mono ?_
      rintro e w' ⟨b', rfl, own, lo, bel⟩
      rw [tab_length]
      exact ⟨_, _, b', rfl, own, lo, bel⟩

end Go.Proofs.Ytiijabiijkdhcaa.Mir
