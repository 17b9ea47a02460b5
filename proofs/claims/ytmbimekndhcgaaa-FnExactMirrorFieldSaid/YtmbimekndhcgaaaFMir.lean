/- MirrorField of both sides. -/
import Derived.Test.YtmbimekndhcgaaaGrow
import Derived.Test.YtmbimekndhcgaaaClone
namespace Go.Proofs.Ytmbimekndhcgaaa.FMir
open Go.RowKit Go.Proofs.Ytmbimekndhcgaaa.Rd Go.Proofs.Ytmbimekndhcgaaa.Help Go.Proofs.Ytmbimekndhcgaaa.Ring Go.Proofs.Ytmbimekndhcgaaa.Small Go.Proofs.Ytmbimekndhcgaaa.FVal Go.Proofs.Ytmbimekndhcgaaa.Keep Go.Proofs.Ytmbimekndhcgaaa.Rule Go.Proofs.Ytmbimekndhcgaaa.Grow
set_option linter.unusedVariables false
set_option linter.unusedSimpArgs false

theorem g_trans {w0 w w' : World} {b : Nat} (g : w0.grownBy w (some b)) (h : w.grownBy w' (some b)) : w0.grownBy w' (some b) :=
  ⟨h.os.trans g.os, h.tape.trans g.tape, h.output.trans g.output, Nat.le_trans g.size h.size, fun k hk hne => (h.block k (Nat.lt_of_lt_of_le hk g.size) hne).trans (g.block k hk hne)⟩
/-- A list told place by place. -/
def At (ys : List Int) (n : Nat) (F : Nat → Int) : Prop := ys.length = n ∧ ∀ i, i < n → ys.getD i 0 = F i
theorem at_set {ys : List Int} {n t : Nat} {F : Nat → Int} (h : At ys n F) (ht : t < n) (x : Int) : At (ys.set t x) n (fun i => if i = t then x else F i) := by
  refine ⟨by rw [List.length_set]; exact h.1, fun i hi => ?_⟩
  by_cases e : i = t
  · subst e; simp [List.getD, h.1, hi]
  · have := h.2 i hi
    simp only [List.getD] at this ⊢
    rw [List.getElem?_set_ne (by omega), if_neg e]
    exact this
theorem at_congr {ys : List Int} {n : Nat} {F G : Nat → Int} (h : At ys n F) (e : ∀ i, i < n → F i = G i) : At ys n G := ⟨h.1, fun i hi => (h.2 i hi).trans (e i hi)⟩
theorem at_self {zs : List Int} {n : Nat} (h : zs.length = n) : At zs n (fun i => zs.getD i 0) := ⟨h, fun _ _ => rfl⟩
theorem at_grid {ys : List Int} {R C : Nat} {f : Nat → Nat → Int} (hl : ys.length = R * C) (h : ∀ i k, i < R → k < C → ys.getD (i * C + k) 0 = f i k) : ys = grid R C f := by
  apply List.ext_getElem
  · rw [hl, grid_len]
  · intro t h1 h2
    have hC : 0 < C := by rcases Nat.eq_zero_or_pos C with e | e; · subst e; simp at hl; rw [hl] at h1; simp at h1
                          · exact e
    have ht : t / C * C + t % C = t := by rw [Nat.mul_comm]; exact Nat.div_add_mod t C
    have hk : t % C < C := Nat.mod_lt _ hC
    have hi : t / C < R := by rw [Nat.div_lt_iff_lt_mul hC]; omega
    have e1 := h (t / C) (t % C) hi hk
    have e2 := grid_get f hi hk
    rw [ht] at e1 e2
    simp only [List.getD, List.getElem?_eq_getElem h1, List.getElem?_eq_getElem h2, Option.getD_some] at e1 e2
    rw [e1, e2]

/-- Behind k exchanges of the outer cells of the C cells from L on. -/
def rvF (zs : List Int) (L C k i : Nat) : Int := if (L ≤ i ∧ i < L + k) ∨ (L + C - k ≤ i ∧ i < L + C) then zs.getD (2 * L + C - 1 - i) 0 else zs.getD i 0
def revF (zs : List Int) (L C i : Nat) : Int := if L ≤ i ∧ i < L + C then zs.getD (2 * L + C - 1 - i) 0 else zs.getD i 0
theorem rv_step (zs : List Int) (L C k i : Nat) (h : k + (k + 1) < C) : (if i = L + (C - 1 - k) then zs.getD (L + k) 0 else if i = L + k then zs.getD (L + (C - 1 - k)) 0 else rvF zs L C k i) = rvF zs L C (k + 1) i := by
  by_cases e1 : i = L + (C - 1 - k)
  · rw [if_pos e1, rvF, if_pos (by omega)]
    congr 1; omega
  · rw [if_neg e1]
    by_cases e2 : i = L + k
    · rw [if_pos e2, rvF, if_pos (by omega)]
      congr 1; omega
    · rw [if_neg e2, rvF, rvF]
      by_cases e3 : (L ≤ i ∧ i < L + k) ∨ (L + C - k ≤ i ∧ i < L + C)
      · rw [if_pos e3, if_pos (by omega)]
      · rw [if_neg e3, if_neg (by omega)]
theorem rv_end (zs : List Int) (L C k i : Nat) (h1 : 2 * k ≤ C) (h2 : C ≤ 2 * k + 1) : rvF zs L C k i = revF zs L C i := by
  rw [rvF, revF]
  by_cases e3 : (L ≤ i ∧ i < L + k) ∨ (L + C - k ≤ i ∧ i < L + C)
  · rw [if_pos e3, if_pos (by omega)]
  · rw [if_neg e3]
    by_cases e4 : L ≤ i ∧ i < L + C
    · rw [if_pos e4]; congr 1; omega
    · rw [if_neg e4]

/-- The cells of a field that is mirrored. -/
def mirL (zs : List Int) (R C : Nat) : List Int := grid R C fun i k => zs.getD (i * C + (C - 1 - k)) 0

set_option maxHeartbeats 8000000 in
theorem revSeg {w : World} {b n cap L C : Nat} {zs : List Int} (h : Own 2 w b (.slice (some ⟨b, 0, none⟩) n cap) zs) (hn : zs.length = n) (hLC : L + C ≤ n) (hC : 1 ≤ C ∧ C ≤ 24) :
    Calls Try.prog 85 #[.slice (some ⟨b, L, none⟩) C C] w fun e w' => (∃ v, e = .returned v) ∧ ∃ ys, At ys n (revF zs L C) ∧ Own 2 w' b (.slice (some ⟨b, 0, none⟩) n cap) ys ∧ w.grownBy w' (some b) := by
  have HO0 := hid h
  have Hn := hid hn
  have HLC := hid hLC
  obtain ⟨C1, C2⟩ := hC
  clear h hn hLC
  go_enter Try.func85, Try.ntmps85
  go_wp2
  go_loopw [2, 3] (fun i t wr => ∃ k : Nat, 2 * k ≤ C ∧ i = .int .i64 k ∧ t = .int .i64 ((C : Int) - 1 - k) ∧ ∃ ys, At ys n (rvF zs L C k) ∧ Own 2 wr b (.slice (some ⟨b, 0, none⟩) n cap) ys ∧ w.grownBy wr (some b)) (fun i _ _ => C - (intOf i).toNat)
  case atStart => exact ⟨0, by omega, rfl, by simp, zs, at_congr (at_self Hn.out) (fun i hi => by rw [rvF, if_neg (by omega)]), HO0.out, g_refl _ _⟩
  case round =>
    obtain ⟨k, hk, rfl, rfl, ys, hat, hown, bel⟩ := hrel
    by_cases hlt : (k : Int) < (C : Int) - 1 - k
    · obtain ⟨j, hj⟩ : ∃ j : Nat, (C : Int) - 1 - k = j := ⟨C - 1 - k, by omega⟩
      have hj2 : C - 1 - k = j := by omega
      have hkj : (k : Int) < (j : Int) := by omega
      have hkn : (k : Int) < (C : Int) := by omega
      have hjn : (j : Int) < (C : Int) := by omega
      obtain ⟨X, hX⟩ : ∃ X, X = zs.getD (L + k) 0 := ⟨_, rfl⟩
      obtain ⟨Y, hY⟩ : ∃ Y, Y = zs.getD (L + j) 0 := ⟨_, rfl⟩
      have HX : Hid (ys.getD (L + k) 0 = X) := by simp only [Hid]; rw [hX, hat.2 _ (by have := HLC.out; omega), rvF, if_neg (by omega)]
      have HY : Hid (ys.getD (L + j) 0 = Y) := by simp only [Hid]; rw [hY, hat.2 _ (by have := HLC.out; omega), rvF, if_neg (by omega)]
      have HXe := hid hX
      have HYe := hid hY
      have HJ := hid hj
      have HJ2 := hid hj2.symm
      have hLC2 := HLC.out
      rw [hj]
      have HO := hid hown
      clear hown hX hY hj hj2 hlt
      go_wp2_with fail
      refine wp_region_held_drew (S := (fun ww => w.grownBy ww (some b))) (by kernel_rfl) ?_ (fun hHeld => ?_)
      · ((try dsimp only); exact g_drew bel)
      generalize hD : wr.drew = wD at hHeld ⊢
      have oR : Own 2 wD b (.slice (some ⟨b, 0, none⟩) n cap) ys := by rw [← hD]; exact HO.out
      clear hD bel
      (refine wpAnyH_take (i := 0) (v := ?_) rfl ?_ ?_ ?_ (fun _ _ _ h => h) (Or.inl ⟨?_, ?_⟩) ?_ ?_; rotate_left 1; (focus decide +kernel); (focus decide +kernel); (focus decide +kernel); (focus rfl); (focus (intro w hSw; (try dsimp only at hSw); go_simp; (try (with_reducible rfl)); done)); (focus assumption); (try simp only [Act.put, List.setIfInBounds_toArray, List.set_cons_zero, List.set_cons_succ, List.getElem_toArray, List.getElem_cons_succ, List.getElem_cons_zero]))
      (refine wpAnyH_take (i := 1) (v := ?_) rfl ?_ ?_ ?_ (fun _ _ _ h => h) (Or.inl ⟨?_, ?_⟩) ?_ ?_; rotate_left 1; (focus decide +kernel); (focus decide +kernel); (focus decide +kernel); (focus rfl); (focus (intro w hSw; (try dsimp only at hSw); go_simp; (try (with_reducible rfl)); done)); (focus assumption); (try simp only [Act.put, List.setIfInBounds_toArray, List.set_cons_zero, List.set_cons_succ, List.getElem_toArray, List.getElem_cons_succ, List.getElem_cons_zero]))
      (refine wpAnyH_take (i := 2) (v := ?_) rfl ?_ ?_ ?_ (fun _ _ _ h => h) (Or.inl ⟨?_, ?_⟩) ?_ ?_; rotate_left 1; (focus decide +kernel); (focus decide +kernel); (focus decide +kernel); (focus rfl); (focus (intro w hSw; (try dsimp only at hSw); go_simp; (try (with_reducible rfl)); done)); (focus assumption); (try simp only [Act.put, List.setIfInBounds_toArray, List.set_cons_zero, List.set_cons_succ, List.getElem_toArray, List.getElem_cons_succ, List.getElem_cons_zero]))
      (refine wpAnyH_take (i := 3) (v := ?_) rfl ?_ ?_ ?_ (fun _ _ _ h => h) (Or.inl ⟨?_, ?_⟩) ?_ ?_; rotate_left 1; (focus decide +kernel); (focus decide +kernel); (focus decide +kernel); (focus rfl); (focus (intro w hSw; (try dsimp only at hSw); go_simp; (try (with_reducible rfl)); done)); (focus assumption); (try simp only [Act.put, List.setIfInBounds_toArray, List.set_cons_zero, List.set_cons_succ, List.getElem_toArray, List.getElem_cons_succ, List.getElem_cons_zero]))
      (refine wpAnyH_take (i := 4) (v := ?_) rfl ?_ ?_ ?_ (fun _ _ _ h => h) (Or.inl ⟨?_, ?_⟩) ?_ ?_; rotate_left 1; (focus decide +kernel); (focus decide +kernel); (focus decide +kernel); (focus rfl); (focus (intro w hSw; (try dsimp only at hSw); go_simp; (try (with_reducible rfl)); done)); (focus assumption); (try simp only [Act.put, List.setIfInBounds_toArray, List.set_cons_zero, List.set_cons_succ, List.getElem_toArray, List.getElem_cons_succ, List.getElem_cons_zero]))
      (refine wpAnyH_take (i := 5) (v := ?_) rfl ?_ ?_ ?_ (fun _ _ _ h => h) (Or.inl ⟨?_, ?_⟩) ?_ ?_; rotate_left 1; (focus decide +kernel); (focus decide +kernel); (focus decide +kernel); (focus rfl); (focus (intro w hSw; (try dsimp only at hSw); go_simp; (try (with_reducible rfl)); done)); (focus assumption); (try simp only [Act.put, List.setIfInBounds_toArray, List.set_cons_zero, List.set_cons_succ, List.getElem_toArray, List.getElem_cons_succ, List.getElem_cons_zero]))
      (refine wpAnyH_take (i := 6) (v := ?_) rfl ?_ ?_ ?_ (fun _ _ _ h => h) (Or.inl ⟨?_, ?_⟩) ?_ ?_; rotate_left 1; (focus decide +kernel); (focus decide +kernel); (focus decide +kernel); (focus rfl); (focus (intro w hSw; (try dsimp only at hSw); go_simp; (try (with_reducible rfl)); done)); (focus assumption); (try simp only [Act.put, List.setIfInBounds_toArray, List.set_cons_zero, List.set_cons_succ, List.getElem_toArray, List.getElem_cons_succ, List.getElem_cons_zero]))
      (refine wpAnyH_take (i := 8) (v := ?_) rfl ?_ ?_ ?_ (fun _ _ _ h => h) (Or.inl ⟨?_, ?_⟩) ?_ ?_; rotate_left 1; (focus decide +kernel); (focus decide +kernel); (focus decide +kernel); (focus rfl); (focus (intro w hSw; (try dsimp only at hSw); go_simp; (try (with_reducible rfl)); done)); (focus assumption); (try simp only [Act.put, List.setIfInBounds_toArray, List.set_cons_zero, List.set_cons_succ, List.getElem_toArray, List.getElem_cons_succ, List.getElem_cons_zero]))
      (refine wpAnyH_take (i := 9) (v := ?_) rfl ?_ ?_ ?_ (fun _ _ _ h => h) (Or.inl ⟨?_, ?_⟩) ?_ ?_; rotate_left 1; (focus decide +kernel); (focus decide +kernel); (focus decide +kernel); (focus rfl); (focus (intro w hSw; (try dsimp only at hSw); go_simp; (try (with_reducible rfl)); done)); (focus assumption); (try simp only [Act.put, List.setIfInBounds_toArray, List.set_cons_zero, List.set_cons_succ, List.getElem_toArray, List.getElem_cons_succ, List.getElem_cons_zero]))
      (refine wpAnyH_take (i := 10) (v := ?_) rfl ?_ ?_ ?_ (fun _ _ _ h => h) (Or.inl ⟨?_, ?_⟩) ?_ ?_; rotate_left 1; (focus decide +kernel); (focus decide +kernel); (focus decide +kernel); (focus rfl); (focus (intro w hSw; (try dsimp only at hSw); go_simp; (try (with_reducible rfl)); done)); (focus assumption); (try simp only [Act.put, List.setIfInBounds_toArray, List.set_cons_zero, List.set_cons_succ, List.getElem_toArray, List.getElem_cons_succ, List.getElem_cons_zero]))
      refine wpAnyH_ready (rs := [7, 11]) ?_ (by simp) ?_
      · decide +kernel
      refine AllReadyH.cons rfl (fun K hK => ?_) (AllReadyH.cons rfl (fun K hK => ?_) AllReadyH.nil)
      · have kv : wD.cell? ⟨b, L + j, none⟩ = some (.int .i64 Y) := by have := oR.cell (i := L + j) (by rw [hat.1]; omega); rw [HY.out] at this; exact this
        go_simp
        refine hK.out _ _ ?_ (fun hHeld => ?_)
        · (try dsimp only); exact hHeld
        clear hK K kv
        (try simp only [Act.put, List.setIfInBounds_toArray, List.set_cons_zero, List.set_cons_succ, List.getElem_toArray, List.getElem_cons_succ, List.getElem_cons_zero])
        refine wpAnyH_ready (rs := [11]) ?_ (by simp) ?_
        · decide +kernel
        refine AllReadyH.cons rfl (fun K hK => ?_) AllReadyH.nil
        have kv : wD.cell? ⟨b, L + k, none⟩ = some (.int .i64 X) := by have := oR.cell (i := L + k) (by rw [hat.1]; omega); rw [HX.out] at this; exact this
        go_simp
        refine hK.out _ _ ?_ (fun hHeld => ?_)
        · (try dsimp only); exact hHeld
        clear hK K kv
        (try simp only [Act.put, List.setIfInBounds_toArray, List.set_cons_zero, List.set_cons_succ, List.getElem_toArray, List.getElem_cons_succ, List.getElem_cons_zero])
        (refine wpAnyH_take (i := 12) (v := ?_) rfl ?_ ?_ ?_ (fun _ _ _ h => h) (Or.inl ⟨?_, ?_⟩) ?_ ?_; rotate_left 1; (focus decide +kernel); (focus decide +kernel); (focus decide +kernel); (focus rfl); (focus (intro w hSw; (try dsimp only at hSw); go_simp; (try (with_reducible rfl)); done)); (focus assumption); (try simp only [Act.put, List.setIfInBounds_toArray, List.set_cons_zero, List.set_cons_succ, List.getElem_toArray, List.getElem_cons_succ, List.getElem_cons_zero]))
        refine wpAnyH_ready (rs := [13]) ?_ (by simp) ?_
        · decide +kernel
        refine AllReadyH.cons rfl (fun K hK => ?_) AllReadyH.nil
        have kv := oR.cell (i := L + k) (by rw [hat.1]; have := HLC.out; omega)
        have kf := oR.free (L + k)
        go_simp
        have oS := oR.set (L + k) Y
        have bS := g_set hHeld (L + k) (.int .i64 Y)
        obtain ⟨woS, hW⟩ : ∃ woS, woS = wD.setCell ⟨b, L + k, none⟩ (.int .i64 Y) := ⟨_, rfl⟩
        rw [← hW] at oS bS
        refine hK.out _ _ ?_ (fun hHeld2 => ?_)
        · (try dsimp only); rw [← hW]; exact bS
        clear hK K hHeld2 hHeld
        have hHeld := bS
        simp only [← hW]
        clear hW bS kv kf
        (try simp only [Act.put, List.setIfInBounds_toArray, List.set_cons_zero, List.set_cons_succ, List.getElem_toArray, List.getElem_cons_succ, List.getElem_cons_zero])
        (refine wpAnyH_take (i := 14) (v := ?_) rfl ?_ ?_ ?_ (fun _ _ _ h => h) (Or.inl ⟨?_, ?_⟩) ?_ ?_; rotate_left 1; (focus decide +kernel); (focus decide +kernel); (focus decide +kernel); (focus rfl); (focus (intro w hSw; (try dsimp only at hSw); go_simp; (try (with_reducible rfl)); done)); (focus assumption); (try simp only [Act.put, List.setIfInBounds_toArray, List.set_cons_zero, List.set_cons_succ, List.getElem_toArray, List.getElem_cons_succ, List.getElem_cons_zero]))
        refine wpAnyH_ready (rs := [15]) ?_ (by simp) ?_
        · decide +kernel
        refine AllReadyH.cons rfl (fun K hK => ?_) AllReadyH.nil
        have kv := oS.cell (i := L + j) (by rw [List.length_set, hat.1]; have := HLC.out; omega)
        have kf := oS.free (L + j)
        go_simp
        have oT := oS.set (L + j) X
        have bS := g_set hHeld (L + j) (.int .i64 X)
        obtain ⟨woT, hW⟩ : ∃ woT, woT = woS.setCell ⟨b, L + j, none⟩ (.int .i64 X) := ⟨_, rfl⟩
        rw [← hW] at oT bS
        refine hK.out _ _ ?_ (fun hHeld2 => ?_)
        · (try dsimp only); rw [← hW]; exact bS
        clear hK K hHeld2 hHeld
        have hHeld := bS
        simp only [← hW]
        clear hW bS kv kf
        (try simp only [Act.put, List.setIfInBounds_toArray, List.set_cons_zero, List.set_cons_succ, List.getElem_toArray, List.getElem_cons_succ, List.getElem_cons_zero])
        refine wpAnyH_done (by kernel_rfl) ?_ _
        have OT := hid oT
        have BT := hid hHeld
        have HAT2 := hid hat
        clear hHeld oT oS oR hat
        go_wp2
        go_roundw
        case rel =>
          refine ⟨k + 1, by have := HJ2.out; omega, by go_num, by have := HJ.out; go_num, _, at_congr (at_set (at_set HAT2.out (show L + k < n by have := HLC.out; have := HJ2.out; omega) Y) (show L + j < n by have := HLC.out; have := HJ2.out; omega) X) ?_, OT.out, BT.out⟩
          intro i hi
          have := rv_step zs L C k i (by have := HJ2.out; omega)
          rw [HXe.out, HYe.out, HJ2.out]
          exact this
        case measure => simp [intOf]; omega
      · have kv : wD.cell? ⟨b, L + k, none⟩ = some (.int .i64 X) := by have := oR.cell (i := L + k) (by rw [hat.1]; omega); rw [HX.out] at this; exact this
        go_simp
        refine hK.out _ _ ?_ (fun hHeld => ?_)
        · (try dsimp only); exact hHeld
        clear hK K kv
        (try simp only [Act.put, List.setIfInBounds_toArray, List.set_cons_zero, List.set_cons_succ, List.getElem_toArray, List.getElem_cons_succ, List.getElem_cons_zero])
        refine wpAnyH_ready (rs := [7]) ?_ (by simp) ?_
        · decide +kernel
        refine AllReadyH.cons rfl (fun K hK => ?_) AllReadyH.nil
        have kv : wD.cell? ⟨b, L + j, none⟩ = some (.int .i64 Y) := by have := oR.cell (i := L + j) (by rw [hat.1]; omega); rw [HY.out] at this; exact this
        go_simp
        refine hK.out _ _ ?_ (fun hHeld => ?_)
        · (try dsimp only); exact hHeld
        clear hK K kv
        (try simp only [Act.put, List.setIfInBounds_toArray, List.set_cons_zero, List.set_cons_succ, List.getElem_toArray, List.getElem_cons_succ, List.getElem_cons_zero])
        (refine wpAnyH_take (i := 12) (v := ?_) rfl ?_ ?_ ?_ (fun _ _ _ h => h) (Or.inl ⟨?_, ?_⟩) ?_ ?_; rotate_left 1; (focus decide +kernel); (focus decide +kernel); (focus decide +kernel); (focus rfl); (focus (intro w hSw; (try dsimp only at hSw); go_simp; (try (with_reducible rfl)); done)); (focus assumption); (try simp only [Act.put, List.setIfInBounds_toArray, List.set_cons_zero, List.set_cons_succ, List.getElem_toArray, List.getElem_cons_succ, List.getElem_cons_zero]))
        refine wpAnyH_ready (rs := [13]) ?_ (by simp) ?_
        · decide +kernel
        refine AllReadyH.cons rfl (fun K hK => ?_) AllReadyH.nil
        have kv := oR.cell (i := L + k) (by rw [hat.1]; have := HLC.out; omega)
        have kf := oR.free (L + k)
        go_simp
        have oS := oR.set (L + k) Y
        have bS := g_set hHeld (L + k) (.int .i64 Y)
        obtain ⟨woS, hW⟩ : ∃ woS, woS = wD.setCell ⟨b, L + k, none⟩ (.int .i64 Y) := ⟨_, rfl⟩
        rw [← hW] at oS bS
        refine hK.out _ _ ?_ (fun hHeld2 => ?_)
        · (try dsimp only); rw [← hW]; exact bS
        clear hK K hHeld2 hHeld
        have hHeld := bS
        simp only [← hW]
        clear hW bS kv kf
        (try simp only [Act.put, List.setIfInBounds_toArray, List.set_cons_zero, List.set_cons_succ, List.getElem_toArray, List.getElem_cons_succ, List.getElem_cons_zero])
        (refine wpAnyH_take (i := 14) (v := ?_) rfl ?_ ?_ ?_ (fun _ _ _ h => h) (Or.inl ⟨?_, ?_⟩) ?_ ?_; rotate_left 1; (focus decide +kernel); (focus decide +kernel); (focus decide +kernel); (focus rfl); (focus (intro w hSw; (try dsimp only at hSw); go_simp; (try (with_reducible rfl)); done)); (focus assumption); (try simp only [Act.put, List.setIfInBounds_toArray, List.set_cons_zero, List.set_cons_succ, List.getElem_toArray, List.getElem_cons_succ, List.getElem_cons_zero]))
        refine wpAnyH_ready (rs := [15]) ?_ (by simp) ?_
        · decide +kernel
        refine AllReadyH.cons rfl (fun K hK => ?_) AllReadyH.nil
        have kv := oS.cell (i := L + j) (by rw [List.length_set, hat.1]; have := HLC.out; omega)
        have kf := oS.free (L + j)
        go_simp
        have oT := oS.set (L + j) X
        have bS := g_set hHeld (L + j) (.int .i64 X)
        obtain ⟨woT, hW⟩ : ∃ woT, woT = woS.setCell ⟨b, L + j, none⟩ (.int .i64 X) := ⟨_, rfl⟩
        rw [← hW] at oT bS
        refine hK.out _ _ ?_ (fun hHeld2 => ?_)
        · (try dsimp only); rw [← hW]; exact bS
        clear hK K hHeld2 hHeld
        have hHeld := bS
        simp only [← hW]
        clear hW bS kv kf
        (try simp only [Act.put, List.setIfInBounds_toArray, List.set_cons_zero, List.set_cons_succ, List.getElem_toArray, List.getElem_cons_succ, List.getElem_cons_zero])
        refine wpAnyH_done (by kernel_rfl) ?_ _
        have OT := hid oT
        have BT := hid hHeld
        have HAT2 := hid hat
        clear hHeld oT oS oR hat
        go_wp2
        go_roundw
        case rel =>
          refine ⟨k + 1, by have := HJ2.out; omega, by go_num, by have := HJ.out; go_num, _, at_congr (at_set (at_set HAT2.out (show L + k < n by have := HLC.out; have := HJ2.out; omega) Y) (show L + j < n by have := HLC.out; have := HJ2.out; omega) X) ?_, OT.out, BT.out⟩
          intro i hi
          have := rv_step zs L C k i (by have := HJ2.out; omega)
          rw [HXe.out, HYe.out, HJ2.out]
          exact this
        case measure => simp [intOf]; omega
    · have HAT : Hid (At ys n (revF zs L C)) := at_congr hat (fun i hi => rv_end zs L C k i hk (by omega))
      have HO := hid hown
      have HG := hid bel
      clear hat hown bel
      go_wp2
      go_end0
      exact ⟨⟨_, rfl⟩, ys, HAT.out, HO.out, HG.out⟩

set_option maxHeartbeats 2000000 in
theorem specNo {w : World} {s r : Int} {b : Nat} {v : Value} {zs : List Int} (h : Rd w b v zs) (hq : fieldB s r zs = false) :
    Calls Try.prog 18 #[ruleV s r v] w fun e w' => e = .returned (.tuple #[ruleV 0 0 (.slice none 0 0), .bool false]) ∧ Below w.heap.size w w' := by
  have HH := hid h
  have HQ := hid hq
  obtain ⟨ao, cap, rfl, hc, hm, _⟩ := h
  clear hc hm hq
  go_enter Try.func18, Try.ntmps18
  go_wp2_with fail
  obtain ⟨w1, hW⟩ : ∃ w1, w1 = (w.alloc (Obj.cells #[.int .i64 s, .int .i64 r, .slice ao zs.length cap] 26)).alloc (Obj.cells #[.int .i64 0, .int .i64 0, .slice none 0 0] 26) := ⟨_, rfl⟩
  obtain ⟨N, hN⟩ : ∃ N, N = w.heap.size := ⟨_, rfl⟩
  obtain ⟨NT, hM⟩ : ∃ NT, NT = N + 1 := ⟨_, rfl⟩
  have st : Below w.heap.size w w1 ∧ w1.cell? ⟨N, 0, none⟩ = some (.int .i64 s) ∧ w1.cell? ⟨N, 1, none⟩ = some (.int .i64 r) ∧ w1.cell? ⟨N, 2, none⟩ = some (.slice ao zs.length cap) ∧ Rd w1 b (.slice ao zs.length cap) zs ∧ w.heap.size ≤ w1.heap.size := by
    rw [hW, hN]
    exact ⟨Go.Joins.below_alloc2 _ _ _, by simp, by simp, by simp, HH.out.keep (Go.Joins.below_alloc2 _ _ _) (Nat.le_refl _), by simp; omega⟩
  have kT : w1.heap[NT]? = some (Obj.cells #[.int .i64 0, .int .i64 0, .slice none 0 0] 26) := by rw [hW]; exact FNew.heap_top (by rw [hM, hN]; simp)
  have HNT : Hid (w.heap.size ≤ NT) := by simp only [Hid]; omega
  have HNN : Hid (NT = N + 1 ∧ N = w.heap.size) := ⟨hM, hN⟩
  simp only [← hW, ← hN, ← hM]
  clear hW hN hM
  go_at_call 43
  refine (FSpec.is (rd3_1_0 st) st.2.1 st.2.2.1 st.2.2.2.1).mono ?_
  rw [HQ.out]
  rintro e w2 ⟨rfl, m, hw2⟩
  have bel : Below w1.heap.size w1 w2 := by rw [hw2]; exact FSpec.below_drewN' _ _ _
  clear hw2
  replace st := next3_1 bel st
  replace kT := (bel.block NT (Array.getElem?_eq_some_iff.1 kT).1).trans kT
  clear bel

  have HB := hid st.1
  have y0 : w2.cell? ⟨NT, 0, none⟩ = some (.int .i64 0) := Go.Joins.cell_of_block kT 0
  have y1 : w2.cell? ⟨NT, 1, none⟩ = some (.int .i64 0) := Go.Joins.cell_of_block kT 1
  have y2 : w2.cell? ⟨NT, 2, none⟩ = some (.slice none 0 0) := Go.Joins.cell_of_block kT 2
  have g0 : w2.frozen? ⟨NT, 0, none⟩ = false := Go.Joins.unfrozen_of_block kT 0
  have g1 : w2.frozen? ⟨NT, 1, none⟩ = false := Go.Joins.unfrozen_of_block kT 1
  have g2 : w2.frozen? ⟨NT, 2, none⟩ = false := Go.Joins.unfrozen_of_block kT 2
  have HKx := hid kT
  clear kT
  go_wp2
  obtain ⟨W5, hW⟩ : ∃ W5, W5 = (((w2.setCell ⟨NT, 0, none⟩ (.int .i64 0)).setCell ⟨NT, 1, none⟩ (.int .i64 0)).setCell ⟨NT, 2, none⟩ (.slice none 0 0)) := ⟨_, rfl⟩
  have q0 := (Go.Joins.block_setCell (i := 2) (Go.Joins.block_setCell (i := 1) (Go.Joins.block_setCell (i := 0) HKx.out (.int .i64 0)) (.int .i64 0)) (.slice none 0 0))
  rw [← hW] at q0
  have z0 : W5.cell? ⟨NT, 0, none⟩ = some (.int .i64 0) := Go.Joins.cell_of_block q0 0
  have z1 : W5.cell? ⟨NT, 1, none⟩ = some (.int .i64 0) := Go.Joins.cell_of_block q0 1
  have z2 : W5.cell? ⟨NT, 2, none⟩ = some (.slice none 0 0) := Go.Joins.cell_of_block q0 2
  have B5 : Below w.heap.size w W5 := by
    have h1 := HNT.out
    rw [hW]
    exact ((HB.out.setCell (by simp; omega) _).setCell (by simp; omega) _).setCell (by simp; omega) _
  simp only [← hW]
  clear hW q0
  simp [bodyPost, results, Try.results18, go_sem, z0, z1, z2]
  exact B5

set_option maxRecDepth 4000 in
set_option maxHeartbeats 8000000 in
theorem specOk {w : World} {R C n : Nat} {b : Nat} {v : Value} {zs : List Int} (h : Rd w b v zs) (hq : fieldB R C zs = true) (hn : n = R * C) :
    Calls Try.prog 18 #[ruleV R C v] w fun e w' => ∃ b', e = .returned ((.tuple #[ruleV R C (.slice (some ⟨b', 0, none⟩) n n), .bool true])) ∧ Own 2 w' b' (.slice (some ⟨b', 0, none⟩) n n) (mirL zs R C) ∧ w.heap.size ≤ b' ∧ Below w.heap.size w w' := by
  obtain ⟨hR, hC, hl, hle⟩ := field_nat hq
  have HH := hid h
  have HQ := hid hq
  obtain ⟨ao, cap, rfl, hc, hm, h4⟩ := h
  rw [← hn] at hle
  have hpos : 0 < zs.length := by rw [hl]; exact Nat.mul_pos hR.1 hC.1
  obtain ⟨off, rfl, hb, hcell⟩ := h4 hpos
  have hln : zs.length = n := by rw [hn]; exact hl
  rw [hln] at HH hc hcell ⊢
  have hsz : n ≤ cap ∧ cap ≤ 9223372036854775807 := by unfold maxLen at hm; omega
  have HCap := hid (show n ≤ cap ∧ cap ≤ maxLen from ⟨hc, hm⟩)
  have HL : Hid (zs.length = n) := by simp only [Hid]; rw [hn]; exact hl
  have HN := hid hn
  have HR := hid hR
  have HC := hid hC
  have HB0 := hid hb
  have HCell := hid hcell
  have HLE := hid hle
  clear hc hm h4 hq hn hl hpos hb hcell hln
  have HM := HN
  have HLE2 : Hid (R * C ≤ 576) := by have := HLE.out; rw [HN.out] at this; exact this
  go_enter Try.func18, Try.ntmps18
  go_wp2_with fail
  obtain ⟨w1, hW⟩ : ∃ w1, w1 = (w.alloc (Obj.cells #[.int .i64 R, .int .i64 C, .slice (some ⟨b, off, none⟩) n cap] 26)).alloc (Obj.cells #[.int .i64 0, .int .i64 0, .slice none 0 0] 26) := ⟨_, rfl⟩
  obtain ⟨N, hN⟩ : ∃ N, N = w.heap.size := ⟨_, rfl⟩
  obtain ⟨NT, hM⟩ : ∃ NT, NT = N + 1 := ⟨_, rfl⟩
  have st : Below w.heap.size w w1 ∧ w1.cell? ⟨N, 0, none⟩ = some (.int .i64 R) ∧ w1.cell? ⟨N, 1, none⟩ = some (.int .i64 C) ∧ w1.cell? ⟨N, 2, none⟩ = some (.slice (some ⟨b, off, none⟩) n cap) ∧ Rd w1 b (.slice (some ⟨b, off, none⟩) n cap) zs ∧ w.heap.size ≤ w1.heap.size := by
    rw [hW, hN]
    exact ⟨Go.Joins.below_alloc2 _ _ _, by simp, by simp, by simp, HH.out.keep (Go.Joins.below_alloc2 _ _ _) (Nat.le_refl _), by simp; omega⟩
  have kT : w1.heap[NT]? = some (Obj.cells #[.int .i64 0, .int .i64 0, .slice none 0 0] 26) := by rw [hW]; exact FNew.heap_top (by rw [hM, hN]; simp)
  have HNT : Hid (w.heap.size ≤ NT) := by simp only [Hid]; omega
  have HNN : Hid (NT = N + 1 ∧ N = w.heap.size) := ⟨hM, hN⟩
  simp only [← hW, ← hN, ← hM]
  clear hW hN hM
  go_at_call 43
  refine (FSpec.is (rd3_1_0 st) st.2.1 st.2.2.1 st.2.2.2.1).mono ?_
  rw [HQ.out]
  rintro e w2 ⟨rfl, m, hw2⟩
  have bel : Below w1.heap.size w1 w2 := by rw [hw2]; exact FSpec.below_drewN' _ _ _
  clear hw2
  replace st := next3_1 bel st
  replace kT := (bel.block NT (Array.getElem?_eq_some_iff.1 kT).1).trans kT
  clear bel
  go_wp2_with fail
  go_at_call 44
  refine (FNew.l04New HN.out HLE.out).mono ?_
  rintro e w3 ⟨b', rfl, ow, lo, bel⟩
  have hNTb : NT < b' := Nat.lt_of_lt_of_le (Array.getElem?_eq_some_iff.1 kT).1 lo
  have lob : w.heap.size ≤ b' := Nat.le_trans st.1.size lo
  replace st := next3_1 bel st
  replace kT := (bel.block NT (Array.getElem?_eq_some_iff.1 kT).1).trans kT
  have hb3 : b' < w3.heap.size := ow.lt
  clear bel lo
  obtain ⟨w4, hW⟩ : ∃ w4, w4 = w3.alloc (Obj.cells #[.int .i64 R, .int .i64 C, .slice (some ⟨b', 0, none⟩) n n] 26) := ⟨_, rfl⟩
  obtain ⟨NO, hO⟩ : ∃ NO, NO = w3.heap.size := ⟨_, rfl⟩
  have bel : Below w3.heap.size w3 w4 := by rw [hW]; exact below1 _ _
  replace st := next3_1 bel st
  have hTO : NT < NO := by rw [hO]; exact (Array.getElem?_eq_some_iff.1 kT).1
  replace kT := (bel.block NT (Array.getElem?_eq_some_iff.1 kT).1).trans kT
  replace ow := ow.keep bel
  have kO : w4.heap[NO]? = some (Obj.cells #[.int .i64 R, .int .i64 C, .slice (some ⟨b', 0, none⟩) n n] 26) := by rw [hW]; exact FNew.heap_top hO
  have hbO : b' < NO := by rw [hO]; exact hb3
  have hNb : N < b' := by have := HNN.out; omega
  have HSX := hid st
  have HOW := hid ow
  have HKT := hid kT
  have HKO := hid kO
  have HAp := hid (show N < NT ∧ NT < b' ∧ b' < NO ∧ w.heap.size ≤ b' from ⟨by have := HNN.out; omega, hNTb, hbO, lob⟩)
  clear st ow kT kO bel hb3 hNTb hTO hbO hNb lob
  go_wp2
  simp only [← hW, ← hO]
  clear hW hO
  have HCLX : Hid (∀ i, i < n → w4.cell? ⟨b, off + i, none⟩ = some (.int .i64 (zs.getD i 0))) := fun i hi => (HSX.out.1.cell (p := ⟨b, off + i, none⟩) HB0.out).trans (HCell.out i hi)
  have HTL : Hid ((mirL zs R C).length = n) := by simp only [Hid, mirL]; rw [grid_len, HM.out]
  go_loopw [5] (fun i wr => ∃ p : Nat, p ≤ R ∧ i = .int .i64 p ∧ Own 2 wr b' (.slice (some ⟨b', 0, none⟩) n n) (filN (mirL zs R C) n (p * C)) ∧ w4.grownBy wr (some b')) (fun i _ => R - (intOf i).toNat)
  case atStart => exact ⟨0, Nat.zero_le _, rfl, by rw [Nat.zero_mul, filN_zero]; exact HOW.out, g_refl _ _⟩
  case round =>
    obtain ⟨p, hp, rfl, hown, hg⟩ := hrel
    have c0 := g_cell hg HSX.out.2.1 (Nat.ne_of_lt (Nat.lt_trans HAp.out.1 HAp.out.2.1))
    have c1 := g_cell hg HSX.out.2.2.1 (Nat.ne_of_lt (Nat.lt_trans HAp.out.1 HAp.out.2.1))
    have c2 := g_cell hg HSX.out.2.2.2.1 (Nat.ne_of_lt (Nat.lt_trans HAp.out.1 HAp.out.2.1))
    have d0 := g_cell hg (Go.Joins.cell_of_block HKO.out 0) (Nat.ne_of_gt HAp.out.2.2.1)
    have d1 := g_cell hg (Go.Joins.cell_of_block HKO.out 1) (Nat.ne_of_gt HAp.out.2.2.1)
    have d2 := g_cell hg (Go.Joins.cell_of_block HKO.out 2) (Nat.ne_of_gt HAp.out.2.2.1)
    by_cases hlt : p < R
    · have HO1 := hid hown
      have HG1 := hid hg
      have hpi : (p : Int) < (R : Int) := by omega
      clear hown hg
      go_wp2
      clear c0 c1 c2 d0 d1 d2
      go_loopw [6] (fun k wx => ∃ q : Nat, q ≤ C ∧ k = .int .i64 q ∧ Own 2 wx b' (.slice (some ⟨b', 0, none⟩) n n) (filN (mirL zs R C) n (p * C + q)) ∧ w4.grownBy wx (some b')) (fun k _ => C - (intOf k).toNat)
      case atStart => exact ⟨0, Nat.zero_le _, rfl, HO1.out, HG1.out⟩
      case round =>
        obtain ⟨q, hq2, rfl, hown, hg⟩ := hrel
        have c0 := g_cell hg HSX.out.2.1 (Nat.ne_of_lt (Nat.lt_trans HAp.out.1 HAp.out.2.1))
        have c1 := g_cell hg HSX.out.2.2.1 (Nat.ne_of_lt (Nat.lt_trans HAp.out.1 HAp.out.2.1))
        have c2 := g_cell hg HSX.out.2.2.2.1 (Nat.ne_of_lt (Nat.lt_trans HAp.out.1 HAp.out.2.1))
        have d0 := g_cell hg (Go.Joins.cell_of_block HKO.out 0) (Nat.ne_of_gt HAp.out.2.2.1)
        have d1 := g_cell hg (Go.Joins.cell_of_block HKO.out 1) (Nat.ne_of_gt HAp.out.2.2.1)
        have d2 := g_cell hg (Go.Joins.cell_of_block HKO.out 2) (Nat.ne_of_gt HAp.out.2.2.1)
        by_cases hlt2 : q < C
        · obtain ⟨S, hS⟩ : ∃ S, S = p * C + (C - 1 - q) := ⟨_, rfl⟩
          obtain ⟨T, hT⟩ : ∃ T, T = p * C + q := ⟨_, rfl⟩
          have hSn : S < n := by rw [hS]; rw [HN.out]; exact pos_bd hlt (by omega)
          have hTn : T < n := by rw [hT, HM.out]; exact pos_bd hlt hlt2
          have e0 := (wrap_pos (i := p) (C := C) (k := C) (by have := Row.row_in (C := C) hlt; have := HLE.out; have := HN.out; omega)).1
          have hin := Row.row_in (C := C) hlt
          have hin2 : p * C + C ≤ 576 := by have := HLE.out; have := HN.out; omega
          have e1 : IntKind.i64.wrap (((p * C : Nat) : Int) + (C : Int)) = ((p * C : Nat) : Int) + (C : Int) := by rw [IntKind.wrap_i64]; omega
          have e2 : IntKind.i64.wrap (((p * C : Nat) : Int) + (C : Int) - 1) = ((p * C : Nat) : Int) + (C : Int) - 1 := by rw [IntKind.wrap_i64]; omega
          have e3 : IntKind.i64.wrap (((p * C : Nat) : Int) + (C : Int) - 1 - (q : Int)) = (S : Int) := by rw [IntKind.wrap_i64, hS]; omega
          clear hin hin2
          have e4 := (wrap_pos (i := p) (C := C) (k := q) (by have := HLE2.out; have := HM.out; omega)).1
          have e5 := (wrap_pos (i := p) (C := C) (k := q) (by have := HLE2.out; have := HM.out; omega)).2
          rw [← hT] at e5 hown
          obtain ⟨x, hx⟩ : ∃ x, x = zs.getD S 0 := ⟨_, rfl⟩
          have hcx : wr.cell? ⟨b, off + S, none⟩ = some (.int .i64 x) := by rw [hx]; exact g_cell hg ((HCLX.out S hSn)) (Nat.ne_of_lt (Nat.lt_of_lt_of_le HB0.out HAp.out.2.2.2))
          have hox := hown.cell (i := T) (by rw [filN_len _ _ _ HTL.out (Nat.le_of_lt hTn)]; exact hTn)
          have hof := hown.free T
          have HTX : Hid ((mirL zs R C).getD T 0 = x) := by simp only [Hid, mirL]; rw [hT, grid_get _ hlt hlt2, hx, hS]
          have HO2 := hid hown
          have HG2 := hid hg
          have HT := hid hT
          have hpi : (p : Int) < (R : Int) := by omega
          have hqi : (q : Int) < (C : Int) := by omega
          clear hS hx hown hg
          obtain ⟨P2, hP2⟩ : ∃ P2, P2 = p * C := ⟨_, rfl⟩
          rw [← hP2] at e4 e5
          rw [← hP2] at e0 e1 e2 e3
          clear hP2 hT
          go_wp2_with fail
          go_still_tail 23, (by kernel_rfl)
          change wpList _ _ _ _ _ wr.drew
          have hoxd : wr.drew.cell? ⟨b', T, none⟩ = some (.int .i64 ((filN (mirL zs R C) n T).getD T 0)) := hox
          have hofd : wr.drew.frozen? ⟨b', T, none⟩ = false := hof
          obtain ⟨wd, hwd⟩ : ∃ wd, wd = wr.drew := ⟨_, rfl⟩
          have HG3 : Hid (w4.grownBy wd (some b')) := by rw [hwd]; exact g_drew HG2.out
          have HO3 : Hid (Own 2 wd b' (.slice (some ⟨b', 0, none⟩) n n) (filN (mirL zs R C) n T)) := by rw [hwd]; exact HO2.out
          rw [← hwd] at hoxd hofd ⊢
          clear hwd hox hof hcx c0 c1 c2 d0 d1 d2
          go_wp2
          go_roundw
          case rel =>
            refine ⟨q + 1, by omega, by go_num, ?_, g_set HG3.out T _⟩
            have hs := filN_set (mirL zs R C) n T HTL.out hTn
            rw [HTX.out] at hs
            rw [show p * C + (q + 1) = T + 1 by have := HT.out; omega, ← hs]
            exact HO3.out.set T x
          case measure => simp [intOf]; omega
        · have hqR : C = q := by omega
          have HO2 := hid hown
          have HG2 := hid hg
          clear hown hg
          subst hqR
          go_wp2
          go_roundw
          case rel =>
            refine ⟨p + 1, by omega, by go_num, ?_, HG2.out⟩
            rw [Nat.succ_mul]
            exact HO2.out
          case measure => simp [intOf]; omega
    · have hpC : R = p := by omega
      subst hpC
      rw [show R * C = n by rw [HM.out], filN_all _ _ HTL.out] at hown
      have hg2 := hg
      have kTr := g_heap hg HKT.out (Nat.ne_of_lt HAp.out.2.1)
      have HB := hid (g_below HSX.out.1 hg HAp.out.2.2.2)
      have HLo : Hid (w.heap.size ≤ b') := HAp.out.2.2.2
      have HNB : Hid (NT ≠ b') := Nat.ne_of_lt HAp.out.2.1
      have HO := hid hown
      clear hown hg hg2
      have y0 : wr.cell? ⟨NT, 0, none⟩ = some (.int .i64 0) := Go.Joins.cell_of_block kTr 0
      have y1 : wr.cell? ⟨NT, 1, none⟩ = some (.int .i64 0) := Go.Joins.cell_of_block kTr 1
      have y2 : wr.cell? ⟨NT, 2, none⟩ = some (.slice none 0 0) := Go.Joins.cell_of_block kTr 2
      have g0 : wr.frozen? ⟨NT, 0, none⟩ = false := Go.Joins.unfrozen_of_block kTr 0
      have g1 : wr.frozen? ⟨NT, 1, none⟩ = false := Go.Joins.unfrozen_of_block kTr 1
      have g2 : wr.frozen? ⟨NT, 2, none⟩ = false := Go.Joins.unfrozen_of_block kTr 2
      have HKx := hid kTr
      clear kTr
      go_wp2
      obtain ⟨W5, hW⟩ : ∃ W5, W5 = (((wr.setCell ⟨NT, 0, none⟩ (.int .i64 R)).setCell ⟨NT, 1, none⟩ (.int .i64 C)).setCell ⟨NT, 2, none⟩ (.slice (some ⟨b', 0, none⟩) n n)) := ⟨_, rfl⟩
      have q0 := (Go.Joins.block_setCell (i := 2) (Go.Joins.block_setCell (i := 1) (Go.Joins.block_setCell (i := 0) HKx.out (.int .i64 R)) (.int .i64 C)) (.slice (some ⟨b', 0, none⟩) n n))
      rw [← hW] at q0
      have z0 : W5.cell? ⟨NT, 0, none⟩ = some (.int .i64 R) := Go.Joins.cell_of_block q0 0
      have z1 : W5.cell? ⟨NT, 1, none⟩ = some (.int .i64 C) := Go.Joins.cell_of_block q0 1
      have z2 : W5.cell? ⟨NT, 2, none⟩ = some (.slice (some ⟨b', 0, none⟩) n n) := Go.Joins.cell_of_block q0 2
      have O5 := (own_set (own_set (own_set HO.out ⟨NT, 0, none⟩ (.int .i64 R) HNB.out) ⟨NT, 1, none⟩ (.int .i64 C) HNB.out) ⟨NT, 2, none⟩ (.slice (some ⟨b', 0, none⟩) n n) HNB.out)
      rw [← hW] at O5
      have B5 : Below w.heap.size w W5 := by
        have h1 := HNT.out
        rw [hW]
        exact ((HB.out.setCell (by simp; omega) _).setCell (by simp; omega) _).setCell (by simp; omega) _
      simp only [← hW]
      clear hW q0
      simp [bodyPost, results, Try.results18, go_sem, z0, z1, z2]
      exact ⟨O5, HLo.out, B5⟩

/-- A list of R rows of C cells. -/
def AtG (ys : List Int) (R C : Nat) (f : Nat → Nat → Int) : Prop := ys.length = R * C ∧ ∀ i k, i < R → k < C → ys.getD (i * C + k) 0 = f i k
def mirF (zs : List Int) (C p i k : Nat) : Int := if i < p then zs.getD (i * C + (C - 1 - k)) 0 else zs.getD (i * C + k) 0
theorem mir_step {zs ys ys2 : List Int} {R C p : Nat} (hp : p < R) (h : AtG ys R C (mirF zs C p)) (h2 : At ys2 (R * C) (revF ys (p * C) C)) : AtG ys2 R C (mirF zs C (p + 1)) := by
  refine ⟨h2.1, fun i k hi hk => ?_⟩
  have hb := pos_bd hi hk
  rw [h2.2 _ hb, revF]
  rcases Nat.lt_trichotomy i p with hip | hip | hip
  · have hm := Nat.mul_le_mul_right C (show i + 1 ≤ p by omega)
    rw [Nat.succ_mul] at hm
    rw [if_neg (by omega), h.2 i k hi hk, mirF, mirF, if_pos hip, if_pos (by omega)]
  · subst hip
    have hq := h.2 i (C - 1 - k) hi (by omega)
    rw [if_pos (by omega), show 2 * (i * C) + C - 1 - (i * C + k) = i * C + (C - 1 - k) by omega, hq, mirF, mirF, if_neg (by omega), if_pos (by omega)]
  · have hm := Nat.mul_le_mul_right C (show p + 1 ≤ i by omega)
    rw [Nat.succ_mul] at hm
    rw [if_neg (by omega), h.2 i k hi hk, mirF, mirF, if_neg (by omega), if_neg (by omega)]
theorem mir_start {zs : List Int} {R C : Nat} (h : zs.length = R * C) : AtG zs R C (mirF zs C 0) := ⟨h, fun i k _ _ => by rw [mirF, if_neg (by omega)]⟩
theorem mir_end {zs ys : List Int} {R C : Nat} (h : AtG ys R C (mirF zs C R)) : ys = mirL zs R C := by
  rw [mirL]
  exact at_grid h.1 (fun i k hi hk => by rw [h.2 i k hi hk, mirF, if_pos hi])

set_option maxHeartbeats 2000000 in
theorem implNo {w : World} {s r : Int} {b : Nat} {v : Value} {zs : List Int} (h : Rd w b v zs) (hq : fieldB s r zs = false) :
    Calls Try.prog 19 #[ruleV s r v] w fun e w' => e = .returned (.tuple #[ruleV 0 0 (.slice none 0 0), .bool false]) ∧ Below w.heap.size w w' := by
  have HH := hid h
  have HQ := hid hq
  obtain ⟨ao, cap, rfl, hc, hm, _⟩ := h
  clear hc hm hq
  go_enter Try.func19, Try.ntmps19
  go_wp2_with fail
  obtain ⟨w1, hW⟩ : ∃ w1, w1 = (w.alloc (Obj.cells #[.int .i64 s, .int .i64 r, .slice ao zs.length cap] 26)).alloc (Obj.cells #[.int .i64 0, .int .i64 0, .slice none 0 0] 26) := ⟨_, rfl⟩
  obtain ⟨N, hN⟩ : ∃ N, N = w.heap.size := ⟨_, rfl⟩
  obtain ⟨NT, hM⟩ : ∃ NT, NT = N + 1 := ⟨_, rfl⟩
  have st : Below w.heap.size w w1 ∧ w1.cell? ⟨N, 0, none⟩ = some (.int .i64 s) ∧ w1.cell? ⟨N, 1, none⟩ = some (.int .i64 r) ∧ w1.cell? ⟨N, 2, none⟩ = some (.slice ao zs.length cap) ∧ Rd w1 b (.slice ao zs.length cap) zs ∧ w.heap.size ≤ w1.heap.size := by
    rw [hW, hN]
    exact ⟨Go.Joins.below_alloc2 _ _ _, by simp, by simp, by simp, HH.out.keep (Go.Joins.below_alloc2 _ _ _) (Nat.le_refl _), by simp; omega⟩
  have kT : w1.heap[NT]? = some (Obj.cells #[.int .i64 0, .int .i64 0, .slice none 0 0] 26) := by rw [hW]; exact FNew.heap_top (by rw [hM, hN]; simp)
  have HNT : Hid (w.heap.size ≤ NT) := by simp only [Hid]; omega
  have HNN : Hid (NT = N + 1 ∧ N = w.heap.size) := ⟨hM, hN⟩
  simp only [← hW, ← hN, ← hM]
  clear hW hN hM
  go_at_call 46
  refine (implValid (rd3_1_0 st)).mono ?_
  rw [HQ.out]
  rintro e w2 ⟨rfl, bel⟩
  replace st := next3_1 bel st
  replace kT := (bel.block NT (Array.getElem?_eq_some_iff.1 kT).1).trans kT
  clear bel

  have HB := hid st.1
  have y0 : w2.cell? ⟨NT, 0, none⟩ = some (.int .i64 0) := Go.Joins.cell_of_block kT 0
  have y1 : w2.cell? ⟨NT, 1, none⟩ = some (.int .i64 0) := Go.Joins.cell_of_block kT 1
  have y2 : w2.cell? ⟨NT, 2, none⟩ = some (.slice none 0 0) := Go.Joins.cell_of_block kT 2
  have g0 : w2.frozen? ⟨NT, 0, none⟩ = false := Go.Joins.unfrozen_of_block kT 0
  have g1 : w2.frozen? ⟨NT, 1, none⟩ = false := Go.Joins.unfrozen_of_block kT 1
  have g2 : w2.frozen? ⟨NT, 2, none⟩ = false := Go.Joins.unfrozen_of_block kT 2
  have HKx := hid kT
  clear kT
  go_wp2
  obtain ⟨W5, hW⟩ : ∃ W5, W5 = (((w2.setCell ⟨NT, 0, none⟩ (.int .i64 0)).setCell ⟨NT, 1, none⟩ (.int .i64 0)).setCell ⟨NT, 2, none⟩ (.slice none 0 0)) := ⟨_, rfl⟩
  have q0 := (Go.Joins.block_setCell (i := 2) (Go.Joins.block_setCell (i := 1) (Go.Joins.block_setCell (i := 0) HKx.out (.int .i64 0)) (.int .i64 0)) (.slice none 0 0))
  rw [← hW] at q0
  have z0 : W5.cell? ⟨NT, 0, none⟩ = some (.int .i64 0) := Go.Joins.cell_of_block q0 0
  have z1 : W5.cell? ⟨NT, 1, none⟩ = some (.int .i64 0) := Go.Joins.cell_of_block q0 1
  have z2 : W5.cell? ⟨NT, 2, none⟩ = some (.slice none 0 0) := Go.Joins.cell_of_block q0 2
  have B5 : Below w.heap.size w W5 := by
    have h1 := HNT.out
    rw [hW]
    exact ((HB.out.setCell (by simp; omega) _).setCell (by simp; omega) _).setCell (by simp; omega) _
  simp only [← hW]
  clear hW q0
  simp [bodyPost, results, Try.results19, go_sem, z0, z1, z2]
  exact B5

set_option maxHeartbeats 8000000 in
theorem mirrored {w : World} {R C n : Nat} {b : Nat} {v : Value} {zs : List Int} (h : Rd w b v zs) (hq : fieldB R C zs = true) (hn : n = R * C) :
    Calls Try.prog 48 #[ruleV R C v] w fun e w' => ∃ b' kk, e = .returned ((ruleV R C (.slice (some ⟨b', 0, none⟩) n kk))) ∧ Own 2 w' b' (.slice (some ⟨b', 0, none⟩) n kk) (mirL zs R C) ∧ w.heap.size ≤ b' ∧ Below w.heap.size w w' := by
  obtain ⟨hR, hC, hl, hle⟩ := field_nat hq
  have HH := hid h
  have HQ := hid hq
  obtain ⟨ao, cap, rfl, hc, hm, h4⟩ := h
  rw [← hn] at hle
  have hpos : 0 < zs.length := by rw [hl]; exact Nat.mul_pos hR.1 hC.1
  obtain ⟨off, rfl, hb, hcell⟩ := h4 hpos
  have hln : zs.length = n := by rw [hn]; exact hl
  rw [hln] at HH hc hcell ⊢
  have hsz : n ≤ cap ∧ cap ≤ 9223372036854775807 := by unfold maxLen at hm; omega
  have HCap := hid (show n ≤ cap ∧ cap ≤ maxLen from ⟨hc, hm⟩)
  have HL : Hid (zs.length = n) := by simp only [Hid]; rw [hn]; exact hl
  have HN := hid hn
  have HR := hid hR
  have HC := hid hC
  have HB0 := hid hb
  have HCell := hid hcell
  have HLE := hid hle
  clear hc hm h4 hq hn hl hpos hb hcell hln
  have HZ1 : Hid (1 ≤ zs.length ∧ zs.length ≤ 1048576) := by
    have h1 := HL.out; have h2 := HLE.out; have h3 := HN.out
    have h4 : 0 < R * C := Nat.mul_pos HR.out.1 HC.out.1
    simp only [Hid]; omega
  go_enter Try.func48, Try.ntmps48
  go_wp2_with fail
  obtain ⟨w1, hW⟩ : ∃ w1, w1 = (w.alloc (Obj.cells #[.int .i64 R, .int .i64 C, .slice (some ⟨b, off, none⟩) n cap] 26)).alloc (Obj.cells #[.int .i64 0, .int .i64 0, .slice none 0 0] 26) := ⟨_, rfl⟩
  obtain ⟨N, hN⟩ : ∃ N, N = w.heap.size := ⟨_, rfl⟩
  obtain ⟨NT, hM⟩ : ∃ NT, NT = N + 1 := ⟨_, rfl⟩
  have st : Below w.heap.size w w1 ∧ w1.cell? ⟨N, 0, none⟩ = some (.int .i64 R) ∧ w1.cell? ⟨N, 1, none⟩ = some (.int .i64 C) ∧ w1.cell? ⟨N, 2, none⟩ = some (.slice (some ⟨b, off, none⟩) n cap) ∧ Rd w1 b (.slice (some ⟨b, off, none⟩) n cap) zs ∧ w.heap.size ≤ w1.heap.size := by
    rw [hW, hN]
    exact ⟨Go.Joins.below_alloc2 _ _ _, by simp, by simp, by simp, HH.out.keep (Go.Joins.below_alloc2 _ _ _) (Nat.le_refl _), by simp; omega⟩
  have kT : w1.heap[NT]? = some (Obj.cells #[.int .i64 0, .int .i64 0, .slice none 0 0] 26) := by rw [hW]; exact FNew.heap_top (by rw [hM, hN]; simp)
  have HNT : Hid (w.heap.size ≤ NT) := by simp only [Hid]; omega
  have HNN : Hid (NT = N + 1 ∧ N = w.heap.size) := ⟨hM, hN⟩
  simp only [← hW, ← hN, ← hM]
  clear hW hN hM
  go_at_call 84
  refine (Clone.copyOf (rd3_1_0 st) HZ1.out).mono ?_
  rintro e w3 ⟨b', kk, rfl, ow, lo, hk1, hk2, bel⟩
  rw [HL.out] at ow hk1 ⊢
  have HKB := hid (And.intro hk1 hk2)
  clear hk1 hk2
  have hNTb : NT < b' := Nat.lt_of_lt_of_le (Array.getElem?_eq_some_iff.1 kT).1 lo
  have lob : w.heap.size ≤ b' := Nat.le_trans st.1.size lo
  replace st := next3_1 bel st
  replace kT := (bel.block NT (Array.getElem?_eq_some_iff.1 kT).1).trans kT
  have hb3 : b' < w3.heap.size := ow.lt
  clear bel lo
  obtain ⟨w4, hW⟩ : ∃ w4, w4 = w3.alloc (Obj.cells #[.int .i64 R, .int .i64 C, .slice (some ⟨b', 0, none⟩) n kk] 26) := ⟨_, rfl⟩
  obtain ⟨NO, hO⟩ : ∃ NO, NO = w3.heap.size := ⟨_, rfl⟩
  have bel : Below w3.heap.size w3 w4 := by rw [hW]; exact below1 _ _
  replace st := next3_1 bel st
  have hTO : NT < NO := by rw [hO]; exact (Array.getElem?_eq_some_iff.1 kT).1
  replace kT := (bel.block NT (Array.getElem?_eq_some_iff.1 kT).1).trans kT
  replace ow := ow.keep bel
  have kO : w4.heap[NO]? = some (Obj.cells #[.int .i64 R, .int .i64 C, .slice (some ⟨b', 0, none⟩) n kk] 26) := by rw [hW]; exact FNew.heap_top hO
  have hbO : b' < NO := by rw [hO]; exact hb3
  have hNb : N < b' := by have := HNN.out; omega
  have HSX := hid st
  have HOW := hid ow
  have HKT := hid kT
  have HKO := hid kO
  have HAp := hid (show N < NT ∧ NT < b' ∧ b' < NO ∧ w.heap.size ≤ b' from ⟨by have := HNN.out; omega, hNTb, hbO, lob⟩)
  clear st ow kT kO bel hb3 hNTb hTO hbO hNb lob
  go_wp2
  simp only [← hW, ← hO]
  clear hW hO
  go_loopw [4, 9] (fun i0 i wr => ∃ p : Nat, p ≤ R ∧ i = .int .i64 p ∧ ∃ ys, AtG ys R C (mirF zs C p) ∧ Own 2 wr b' (.slice (some ⟨b', 0, none⟩) n kk) ys ∧ w4.grownBy wr (some b')) (fun _ i _ => R - (intOf i).toNat)
  case atStart => exact ⟨0, Nat.zero_le _, rfl, zs, mir_start (by rw [HL.out, HN.out]), HOW.out, g_refl _ _⟩
  case round =>
    obtain ⟨p, hp, rfl, ys, hat, hown, hg⟩ := hrel
    by_cases hlt : p < R
    · have d0 := g_cell hg (Go.Joins.cell_of_block HKO.out 0) (Nat.ne_of_gt HAp.out.2.2.1)
      have d1 := g_cell hg (Go.Joins.cell_of_block HKO.out 1) (Nat.ne_of_gt HAp.out.2.2.1)
      have d2 := g_cell hg (Go.Joins.cell_of_block HKO.out 2) (Nat.ne_of_gt HAp.out.2.2.1)
      have HAT := hid hat
      have HO1 := hid hown
      have HG1 := hid hg
      have hpi : (p : Int) < (R : Int) := by omega
      clear hat hown hg
      go_wp2_with fail
      go_at_call 62
      refine (rowOf0 (L := p * C) rfl HN.out HLE.out hlt HR.out.2 HC.out HKB.out.1 HKB.out.2).mono ?_
      rintro e w5 ⟨rfl, bel⟩
      have HO2 := hid (HO1.out.keep bel)
      have HG2 := hid (g_bel HG1.out bel)
      clear bel d0 d1 d2
      go_wp2_with fail
      go_at_call 85
      refine (revSeg HO2.out (by rw [HAT.out.1, HN.out]) (by have := Row.row_in (C := C) hlt; rw [HN.out]; exact this) HC.out).mono ?_
      rintro e w6 ⟨⟨vv, rfl⟩, ys2, hat2, ow6, g6⟩
      have HAT2 := hid hat2
      have HO3 := hid ow6
      have HG3 := hid (g_trans HG2.out g6)
      clear hat2 ow6 g6
      go_wp2
      go_roundw
      case rel =>
        refine ⟨p + 1, by omega, by go_num, ys2, mir_step hlt HAT.out ?_, HO3.out, HG3.out⟩
        have := HAT2.out
        rw [HN.out] at this
        exact this
      case measure => simp [intOf]; omega
    · have hpC : R = p := by omega
      subst hpC
      rw [mir_end hat] at hown
      have d0 := g_cell hg (Go.Joins.cell_of_block HKO.out 0) (Nat.ne_of_gt HAp.out.2.2.1)
      have d1 := g_cell hg (Go.Joins.cell_of_block HKO.out 1) (Nat.ne_of_gt HAp.out.2.2.1)
      have d2 := g_cell hg (Go.Joins.cell_of_block HKO.out 2) (Nat.ne_of_gt HAp.out.2.2.1)
      have hg2 := hg
      have kTr := g_heap hg HKT.out (Nat.ne_of_lt HAp.out.2.1)
      have HB := hid (g_below HSX.out.1 hg HAp.out.2.2.2)
      have HLo : Hid (w.heap.size ≤ b') := HAp.out.2.2.2
      have HNB : Hid (NT ≠ b') := Nat.ne_of_lt HAp.out.2.1
      have HO := hid hown
      clear hown hg hg2
      have y0 : wr.cell? ⟨NT, 0, none⟩ = some (.int .i64 0) := Go.Joins.cell_of_block kTr 0
      have y1 : wr.cell? ⟨NT, 1, none⟩ = some (.int .i64 0) := Go.Joins.cell_of_block kTr 1
      have y2 : wr.cell? ⟨NT, 2, none⟩ = some (.slice none 0 0) := Go.Joins.cell_of_block kTr 2
      have g0 : wr.frozen? ⟨NT, 0, none⟩ = false := Go.Joins.unfrozen_of_block kTr 0
      have g1 : wr.frozen? ⟨NT, 1, none⟩ = false := Go.Joins.unfrozen_of_block kTr 1
      have g2 : wr.frozen? ⟨NT, 2, none⟩ = false := Go.Joins.unfrozen_of_block kTr 2
      have HKx := hid kTr
      clear kTr
      go_wp2
      obtain ⟨W5, hW⟩ : ∃ W5, W5 = (((wr.setCell ⟨NT, 0, none⟩ (.int .i64 R)).setCell ⟨NT, 1, none⟩ (.int .i64 C)).setCell ⟨NT, 2, none⟩ (.slice (some ⟨b', 0, none⟩) n kk)) := ⟨_, rfl⟩
      have q0 := (Go.Joins.block_setCell (i := 2) (Go.Joins.block_setCell (i := 1) (Go.Joins.block_setCell (i := 0) HKx.out (.int .i64 R)) (.int .i64 C)) (.slice (some ⟨b', 0, none⟩) n kk))
      rw [← hW] at q0
      have z0 : W5.cell? ⟨NT, 0, none⟩ = some (.int .i64 R) := Go.Joins.cell_of_block q0 0
      have z1 : W5.cell? ⟨NT, 1, none⟩ = some (.int .i64 C) := Go.Joins.cell_of_block q0 1
      have z2 : W5.cell? ⟨NT, 2, none⟩ = some (.slice (some ⟨b', 0, none⟩) n kk) := Go.Joins.cell_of_block q0 2
      have O5 := (own_set (own_set (own_set HO.out ⟨NT, 0, none⟩ (.int .i64 R) HNB.out) ⟨NT, 1, none⟩ (.int .i64 C) HNB.out) ⟨NT, 2, none⟩ (.slice (some ⟨b', 0, none⟩) n kk) HNB.out)
      rw [← hW] at O5
      have B5 : Below w.heap.size w W5 := by
        have h1 := HNT.out
        rw [hW]
        exact ((HB.out.setCell (by simp; omega) _).setCell (by simp; omega) _).setCell (by simp; omega) _
      simp only [← hW]
      clear hW q0
      simp [bodyPost, results, Try.results48, go_sem, z0, z1, z2]
      exact ⟨b', kk, by simp, O5, HLo.out, B5⟩

set_option maxHeartbeats 4000000 in
theorem implOk {w : World} {R C n : Nat} {b : Nat} {v : Value} {zs : List Int} (h : Rd w b v zs) (hq : fieldB R C zs = true) (hn : n = R * C) :
    Calls Try.prog 19 #[ruleV R C v] w fun e w' => ∃ b' kk, e = .returned ((.tuple #[ruleV R C (.slice (some ⟨b', 0, none⟩) n kk), .bool true])) ∧ Own 2 w' b' (.slice (some ⟨b', 0, none⟩) n kk) (mirL zs R C) ∧ w.heap.size ≤ b' ∧ Below w.heap.size w w' := by
  obtain ⟨hR, hC, hl, hle⟩ := field_nat hq
  have HH := hid h
  have HQ := hid hq
  obtain ⟨ao, cap, rfl, hc, hm, h4⟩ := h
  rw [← hn] at hle
  have hpos : 0 < zs.length := by rw [hl]; exact Nat.mul_pos hR.1 hC.1
  obtain ⟨off, rfl, hb, hcell⟩ := h4 hpos
  have hln : zs.length = n := by rw [hn]; exact hl
  rw [hln] at HH hc hcell ⊢
  have hsz : n ≤ cap ∧ cap ≤ 9223372036854775807 := by unfold maxLen at hm; omega
  have HCap := hid (show n ≤ cap ∧ cap ≤ maxLen from ⟨hc, hm⟩)
  have HL : Hid (zs.length = n) := by simp only [Hid]; rw [hn]; exact hl
  have HN := hid hn
  have HR := hid hR
  have HC := hid hC
  have HB0 := hid hb
  have HCell := hid hcell
  have HLE := hid hle
  clear hc hm h4 hq hn hl hpos hb hcell hln
  go_enter Try.func19, Try.ntmps19
  go_wp2_with fail
  obtain ⟨w1, hW⟩ : ∃ w1, w1 = (w.alloc (Obj.cells #[.int .i64 R, .int .i64 C, .slice (some ⟨b, off, none⟩) n cap] 26)).alloc (Obj.cells #[.int .i64 0, .int .i64 0, .slice none 0 0] 26) := ⟨_, rfl⟩
  obtain ⟨N, hN⟩ : ∃ N, N = w.heap.size := ⟨_, rfl⟩
  obtain ⟨NT, hM⟩ : ∃ NT, NT = N + 1 := ⟨_, rfl⟩
  have st : Below w.heap.size w w1 ∧ w1.cell? ⟨N, 0, none⟩ = some (.int .i64 R) ∧ w1.cell? ⟨N, 1, none⟩ = some (.int .i64 C) ∧ w1.cell? ⟨N, 2, none⟩ = some (.slice (some ⟨b, off, none⟩) n cap) ∧ Rd w1 b (.slice (some ⟨b, off, none⟩) n cap) zs ∧ w.heap.size ≤ w1.heap.size := by
    rw [hW, hN]
    exact ⟨Go.Joins.below_alloc2 _ _ _, by simp, by simp, by simp, HH.out.keep (Go.Joins.below_alloc2 _ _ _) (Nat.le_refl _), by simp; omega⟩
  have kT : w1.heap[NT]? = some (Obj.cells #[.int .i64 0, .int .i64 0, .slice none 0 0] 26) := by rw [hW]; exact FNew.heap_top (by rw [hM, hN]; simp)
  have HNT : Hid (w.heap.size ≤ NT) := by simp only [Hid]; omega
  have HNN : Hid (NT = N + 1 ∧ N = w.heap.size) := ⟨hM, hN⟩
  simp only [← hW, ← hN, ← hM]
  clear hW hN hM
  go_at_call 46
  refine (implValid (rd3_1_0 st)).mono ?_
  rw [HQ.out]
  rintro e w2 ⟨rfl, bel⟩
  replace st := next3_1 bel st
  replace kT := (bel.block NT (Array.getElem?_eq_some_iff.1 kT).1).trans kT
  clear bel
  go_wp2_with fail
  go_at_call 48
  refine (mirrored (rd3_1_0 st) HQ.out HN.out).mono ?_
  rintro e w3 ⟨b', kk, rfl, ow, lo, bel⟩
  have HNB : Hid (NT ≠ b') := Nat.ne_of_lt (Nat.lt_of_lt_of_le (Array.getElem?_eq_some_iff.1 kT).1 lo)
  have HLo : Hid (w.heap.size ≤ b') := Nat.le_trans st.1.size lo
  have HB := hid (st.1.trans (bel.mono st.1.size))
  replace kT := (bel.block NT (Array.getElem?_eq_some_iff.1 kT).1).trans kT
  have HO := hid ow
  clear st ow lo bel
  have y0 : w3.cell? ⟨NT, 0, none⟩ = some (.int .i64 0) := Go.Joins.cell_of_block kT 0
  have y1 : w3.cell? ⟨NT, 1, none⟩ = some (.int .i64 0) := Go.Joins.cell_of_block kT 1
  have y2 : w3.cell? ⟨NT, 2, none⟩ = some (.slice none 0 0) := Go.Joins.cell_of_block kT 2
  have g0 : w3.frozen? ⟨NT, 0, none⟩ = false := Go.Joins.unfrozen_of_block kT 0
  have g1 : w3.frozen? ⟨NT, 1, none⟩ = false := Go.Joins.unfrozen_of_block kT 1
  have g2 : w3.frozen? ⟨NT, 2, none⟩ = false := Go.Joins.unfrozen_of_block kT 2
  have HKx := hid kT
  clear kT
  go_wp2
  obtain ⟨W5, hW⟩ : ∃ W5, W5 = (((w3.setCell ⟨NT, 0, none⟩ (.int .i64 R)).setCell ⟨NT, 1, none⟩ (.int .i64 C)).setCell ⟨NT, 2, none⟩ (.slice (some ⟨b', 0, none⟩) n kk)) := ⟨_, rfl⟩
  have q0 := (Go.Joins.block_setCell (i := 2) (Go.Joins.block_setCell (i := 1) (Go.Joins.block_setCell (i := 0) HKx.out (.int .i64 R)) (.int .i64 C)) (.slice (some ⟨b', 0, none⟩) n kk))
  rw [← hW] at q0
  have z0 : W5.cell? ⟨NT, 0, none⟩ = some (.int .i64 R) := Go.Joins.cell_of_block q0 0
  have z1 : W5.cell? ⟨NT, 1, none⟩ = some (.int .i64 C) := Go.Joins.cell_of_block q0 1
  have z2 : W5.cell? ⟨NT, 2, none⟩ = some (.slice (some ⟨b', 0, none⟩) n kk) := Go.Joins.cell_of_block q0 2
  have O5 := (own_set (own_set (own_set HO.out ⟨NT, 0, none⟩ (.int .i64 R) HNB.out) ⟨NT, 1, none⟩ (.int .i64 C) HNB.out) ⟨NT, 2, none⟩ (.slice (some ⟨b', 0, none⟩) n kk) HNB.out)
  rw [← hW] at O5
  have B5 : Below w.heap.size w W5 := by
    have h1 := HNT.out
    rw [hW]
    exact ((HB.out.setCell (by simp; omega) _).setCell (by simp; omega) _).setCell (by simp; omega) _
  simp only [← hW]
  clear hW q0
  simp [bodyPost, results, Try.results19, go_sem, z0, z1, z2]
  exact ⟨b', kk, by simp, O5, HLo.out, B5⟩

theorem agree (s r : Int) (zs : List Int) : ∃ (qs qr : Int) (rs : List Int) (ok : Bool), rs.length ≤ 1000000 ∧
    (∀ (w : World) (b : Nat) (v : Value), Rd w b v zs → Calls Try.prog 18 #[ruleV s r v] w fun e w' => ∃ ao c b', e = .returned (.tuple #[ruleV qs qr (.slice ao rs.length c), .bool ok]) ∧ Own 2 w' b' (.slice ao rs.length c) rs ∧ w.heap.size ≤ b' ∧ Below w.heap.size w w') ∧
    (∀ (w : World) (b : Nat) (v : Value), Rd w b v zs → Calls Try.prog 19 #[ruleV s r v] w fun e w' => ∃ ao c b', e = .returned (.tuple #[ruleV qs qr (.slice ao rs.length c), .bool ok]) ∧ Own 2 w' b' (.slice ao rs.length c) rs ∧ w.heap.size ≤ b' ∧ Below w.heap.size w w') := by
  cases hq : fieldB s r zs with
  | true =>
    have hb : (1 ≤ s ∧ s ≤ 24) ∧ 1 ≤ r ∧ r ≤ 24 := by
      have hq2 := hq
      simp only [fieldB, Bool.and_eq_true] at hq2
      have := hq2.1
      simp [sidesB] at this; omega
    obtain ⟨R, rfl⟩ := Int.eq_ofNat_of_zero_le (show 0 ≤ s by omega)
    obtain ⟨C, rfl⟩ := Int.eq_ofNat_of_zero_le (show 0 ≤ r by omega)
    obtain ⟨hR, hC, hl, hle⟩ := field_nat hq
    have hlen : (mirL zs R C).length = R * C := by simp only [mirL]; rw [grid_len]
    refine ⟨R, C, mirL zs R C, true, by omega, fun w b v h => (specOk h hq rfl).mono ?_, fun w b v h => (implOk h hq rfl).mono ?_⟩
    · rintro e w' ⟨b', rfl, ow, lo, bel⟩
      exact ⟨some ⟨b', 0, none⟩, R * C, b', by rw [hlen], by rw [hlen]; exact ow, lo, bel⟩
    · rintro e w' ⟨b', kk, rfl, ow, lo, bel⟩
      exact ⟨some ⟨b', 0, none⟩, kk, b', by rw [hlen], by rw [hlen]; exact ow, lo, bel⟩
  | false =>
    refine ⟨0, 0, [], false, by simp, fun w b v h => (specNo h hq).mono ?_, fun w b v h => (implNo h hq).mono ?_⟩
    · rintro e w' ⟨rfl, bel⟩
      exact ⟨none, 0, w.heap.size, rfl, Own.nil _ _ _, Nat.le_refl _, bel⟩
    · rintro e w' ⟨rfl, bel⟩
      exact ⟨none, 0, w.heap.size, rfl, Own.nil _ _ _, Nat.le_refl _, bel⟩
end Go.Proofs.Ytmbimekndhcgaaa.FMir
