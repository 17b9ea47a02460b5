/- CanCome, WordsThatCome: both sides. -/
import Derived.Test.YtbnndbciimfciaaCwT
import Derived.Test.YtbnndbciimfciaaCwO
namespace Go.Proofs.Ytbnndbciimfciaa.CwU
open Go.RowKit Go.Proofs.Ytbnndbciimfciaa.Rd Go.Proofs.Ytbnndbciimfciaa.Help Go.Proofs.Ytbnndbciimfciaa.Ring Go.Proofs.Ytbnndbciimfciaa.Small Go.Proofs.Ytbnndbciimfciaa.Num Go.Proofs.Ytbnndbciimfciaa.Keep Go.Proofs.Ytbnndbciimfciaa.Rule Go.Proofs.Ytbnndbciimfciaa.Dig Go.Proofs.Ytbnndbciimfciaa.DigP Go.Proofs.Ytbnndbciimfciaa.CwP Go.Proofs.Ytbnndbciimfciaa.CwI Go.Proofs.Ytbnndbciimfciaa.CwC Go.Proofs.Ytbnndbciimfciaa.CwO Go.Proofs.Ytbnndbciimfciaa.CwT Go.Proofs.Ytbnndbciimfciaa.Few Go.Proofs.Ytbnndbciimfciaa.Rdb Go.Proofs.Ytbnndbciimfciaa.FVal Go.Proofs.Ytbnndbciimfciaa.Lwd Go.Proofs.Ytbnndbciimfciaa.Spec
set_option linter.unusedVariables false
set_option linter.unusedSimpArgs false

theorem ask_parts {s r n T : Int} {tbl : List Int} (h : askB s r n T tbl = true) : ∃ R nn TT : Nat, r = (R : Int) ∧ n = (nn : Int) ∧ T = (TT : Int) ∧ Ok tbl s (R : Int) ∧ (1 ≤ nn ∧ nn ≤ 12 ∧ TT ≤ 4 ∧ R ≤ 2) ∧ Few s (nn + 2 * R * TT) := by
  unfold askB at h
  rw [Bool.and_eq_true, Bool.and_eq_true, Bool.and_eq_true] at h
  obtain ⟨hv, hn, hT, hq⟩ := h
  have hn := of_decide_eq_true hn
  have hT := of_decide_eq_true hT
  have hq := of_decide_eq_true hq
  obtain ⟨hs, hr, hl, ha⟩ := Al.valid_parts hv
  obtain ⟨R, rfl⟩ : ∃ R : Nat, r = (R : Int) := ⟨r.toNat, by omega⟩
  obtain ⟨nn, rfl⟩ : ∃ R : Nat, n = (R : Int) := ⟨n.toNat, by omega⟩
  obtain ⟨TT, rfl⟩ : ∃ R : Nat, T = (R : Int) := ⟨T.toNat, by omega⟩
  refine ⟨R, nn, TT, rfl, rfl, rfl, ⟨hs, hr, hl, ha⟩, by omega, ?_⟩
  have e : (nn : Int) + 2 * (R : Int) * (TT : Int) = ((nn + 2 * R * TT : Nat) : Int) := by simp
  rw [e] at hq
  unfold Few
  by_cases h2 : s = 2
  · rw [if_pos h2] at hq; exact .inl ⟨h2, by omega⟩
  · rw [if_neg h2] at hq; exact .inr ⟨by omega, by omega⟩
theorem ask_of {s : Int} {R nn TT : Nat} {tbl : List Int} (hv : validB s (R : Int) tbl = true) (hn : 1 ≤ nn ∧ nn ≤ 12) (hT : TT ≤ 4) (hf : Few s (nn + 2 * R * TT)) : askB s (R : Int) (nn : Int) (TT : Int) tbl = true := by
  unfold askB
  rw [hv, decide_eq_true (show 1 ≤ (nn : Int) ∧ (nn : Int) ≤ 12 by omega), decide_eq_true (show 0 ≤ (TT : Int) ∧ (TT : Int) ≤ 4 by omega)]
  have e : (nn : Int) + 2 * (R : Int) * (TT : Int) = ((nn + 2 * R * TT : Nat) : Int) := by simp
  rw [e]
  rcases hf with ⟨h, h2⟩ | ⟨h, h2⟩
  · rw [if_pos h, decide_eq_true (by omega)]; rfl
  · rw [if_neg (by omega), decide_eq_true (by omega)]; rfl

set_option maxHeartbeats 4000000 in
set_option maxRecDepth 100000 in
theorem canOk {w : World} {s : Int} {R n T : Nat} {b bw : Nat} {v vw : Value} {tbl zs : List Int} (hk : Ok tbl s (R : Int)) (h : Rd w b v tbl) (hw : Rd w bw vw zs) (hnl : zs.length = n) (hask : askB s (R : Int) (n : Int) (T : Int) tbl = true) (hwd : wordB zs s = true) (hn : 1 ≤ n ∧ n ≤ 12 ∧ T ≤ 4) (hf : Few s (n + 2 * R * T)) :
    Calls Try.prog 9 #[ruleV s (R : Int) v, vw, .int .i64 (T : Int)] w fun e w' => e = .returned (.tuple #[.bool ((lo (pw s n) (cm tbl s (R : Int) (n + 2 * R * T) T)).getD (numN s zs) false), .bool true]) ∧ Below w.heap.size w w' := by
  have HK := hid hk
  have HH := hid h
  have HWd := hid hw
  have HAS := hid hask
  have HWB := hid hwd
  have HF := hid hf
  have HNT : Hid (1 ≤ n ∧ T ≤ 4) := ⟨hn.1, hn.2.2⟩
  have HNL : Hid (zs.length = n ∧ n ≤ 12) := ⟨hnl, hn.2.1⟩
  have hza : allB zs s = true := by unfold wordB at hwd; rw [Bool.and_eq_true] at hwd; exact hwd.2
  have HWA := hid hza
  obtain ⟨jx, hjx⟩ : ∃ jx, jx = numN s zs := ⟨_, rfl⟩
  have HJ : Hid ((jx : Int) = numL zs s) := by simp only [Hid]; rw [hjx]; exact num_cast hk.st hza
  have hjl : jx < pw s n := by rw [hjx, ← hnl]; exact num_lt hk.st hza
  have HJL := hid hjl
  obtain ⟨q, hq⟩ : ∃ q, q = (lo (pw s n) (cm tbl s (R : Int) (n + 2 * R * T) T)).getD jx false := ⟨_, rfl⟩
  have HQQ := hid hq
  rw [← hjx, ← hq]
  have hji : (jx : Int) < ((pw s n : Nat) : Int) := by omega
  have hs4 : -1000 ≤ s ∧ s ≤ 1000000 := by have := hk.st; omega
  have HS4 := hid hs4
  obtain ⟨ao, cap, rfl, _, _, _⟩ := h
  obtain ⟨ao2, cw, rfl, _, _, _⟩ := hw
  rw [hnl] at HWd ⊢
  have hn12 : n ≤ 12 := hn.2.1
  clear hk hnl hask hwd hn hf hza hjx hjl hq hs4
  go_enter Try.func9, Try.ntmps9
  go_wp2_with fail
  obtain ⟨w1, hW⟩ : ∃ x, x = w.alloc (Obj.cells #[.int .i64 s, .int .i64 (R : Int), (.slice ao tbl.length cap)] 28) := ⟨_, rfl⟩
  obtain ⟨NR, hN⟩ : ∃ x, x = w.heap.size := ⟨_, rfl⟩
  have HB1 : Hid (Below w.heap.size w w1) := by simp only [Hid]; rw [hW]; exact below1 _ _
  have KR1 : Hid (w1.heap[NR]? = some (Obj.cells #[.int .i64 s, .int .i64 (R : Int), (.slice ao tbl.length cap)] 28)) := by simp only [Hid]; rw [hW]; exact FNew.heap_top hN
  simp only [← hW, ← hN]
  clear hW hN
  go_at_call 19
  refine (canAsk (HH.out.keep HB1.out (Nat.le_refl _))).mono ?_
  rw [HAS.out]
  rintro e w2 ⟨rfl, bel⟩
  have KR2 := hid (Box.heap_keep bel KR1.out)
  have HB2 := hid (HB1.out.trans (bel.mono HB1.out.size))
  clear bel
  have r0 := Go.Joins.cell_of_block KR2.out 0
  have r1 := Go.Joins.cell_of_block KR2.out 1
  have r2 := Go.Joins.cell_of_block KR2.out 2
  simp only [List.getElem?_toArray, List.getElem?_cons_zero, List.getElem?_cons_succ] at r0 r1 r2
  go_wp2_with fail
  go_at_call 20
  refine (isWord (HWd.out.keep HB2.out (Nat.le_refl _)) HS4.out).mono ?_
  rw [HWB.out]
  rintro e w3 ⟨rfl, bel⟩
  have KR3 := hid (Box.heap_keep bel KR2.out)
  have HB3 := hid (HB2.out.trans (bel.mono HB2.out.size))
  clear bel r0 r1 r2
  have r0 := Go.Joins.cell_of_block KR3.out 0
  have r1 := Go.Joins.cell_of_block KR3.out 1
  have r2 := Go.Joins.cell_of_block KR3.out 2
  simp only [List.getElem?_toArray, List.getElem?_cons_zero, List.getElem?_cons_succ] at r0 r1 r2
  go_upto_region 4 with fail
  refine wp_region_held_drew (S := (fun ww => ww.cell? ⟨NR, 0, none⟩ = some (.int .i64 s) ∧ ww.cell? ⟨NR, 1, none⟩ = some (.int .i64 (R : Int)) ∧ ww.cell? ⟨NR, 2, none⟩ = some (.slice ao tbl.length cap))) (by kernel_rfl) ?_ (fun hHeld => ?_)
  · ((try dsimp only); exact ⟨r0, r1, r2⟩)
  (refine wpAnyH_take (i := 0) (v := ?_) rfl ?_ ?_ ?_ (fun _ _ _ h => h) (Or.inl ⟨?_, ?_⟩) ?_ ?_; rotate_left 1; (focus decide +kernel); (focus decide +kernel); (focus decide +kernel); (focus rfl); (focus (intro w hSw; (try dsimp only at hSw); go_simp; (try (with_reducible rfl)); done)); (focus assumption); (try simp only [Act.put, List.setIfInBounds_toArray, List.set_cons_zero, List.set_cons_succ, List.getElem_toArray, List.getElem_cons_succ, List.getElem_cons_zero]))
  (refine wpAnyH_take (i := 1) (v := ?_) rfl ?_ ?_ ?_ (fun _ _ _ h => h) (Or.inl ⟨?_, ?_⟩) ?_ ?_; rotate_left 1; (focus decide +kernel); (focus decide +kernel); (focus decide +kernel); (focus rfl); (focus (intro w hSw; (try dsimp only at hSw); go_simp; (try (with_reducible rfl)); done)); (focus assumption); (try simp only [Act.put, List.setIfInBounds_toArray, List.set_cons_zero, List.set_cons_succ, List.getElem_toArray, List.getElem_cons_succ, List.getElem_cons_zero]))
  (refine wpAnyH_take (i := 2) (v := ?_) rfl ?_ ?_ ?_ (fun _ _ _ h => h) (Or.inl ⟨?_, ?_⟩) ?_ ?_; rotate_left 1; (focus decide +kernel); (focus decide +kernel); (focus decide +kernel); (focus rfl); (focus (intro w hSw; (try dsimp only at hSw); go_simp; (try (with_reducible rfl)); done)); (focus assumption); (try simp only [Act.put, List.setIfInBounds_toArray, List.set_cons_zero, List.set_cons_succ, List.getElem_toArray, List.getElem_cons_succ, List.getElem_cons_zero]))
  (refine wpAnyH_take (i := 4) (v := ?_) rfl ?_ ?_ ?_ (fun _ _ _ h => h) (Or.inl ⟨?_, ?_⟩) ?_ ?_; rotate_left 1; (focus decide +kernel); (focus decide +kernel); (focus decide +kernel); (focus rfl); (focus (intro w hSw; (try dsimp only at hSw); go_simp; (try (with_reducible rfl)); done)); (focus assumption); (try simp only [Act.put, List.setIfInBounds_toArray, List.set_cons_zero, List.set_cons_succ, List.getElem_toArray, List.getElem_cons_succ, List.getElem_cons_zero]))
  (refine wpAnyH_take (i := 5) (v := ?_) rfl ?_ ?_ ?_ (fun _ _ _ h => h) (Or.inl ⟨?_, ?_⟩) ?_ ?_; rotate_left 1; (focus decide +kernel); (focus decide +kernel); (focus decide +kernel); (focus rfl); (focus (intro w hSw; (try dsimp only at hSw); go_simp; (try (with_reducible rfl)); done)); (focus assumption); (try simp only [Act.put, List.setIfInBounds_toArray, List.set_cons_zero, List.set_cons_succ, List.getElem_toArray, List.getElem_cons_succ, List.getElem_cons_zero]))
  (refine wpAnyH_take (i := 6) (v := ?_) rfl ?_ ?_ ?_ (fun _ _ _ h => h) (Or.inl ⟨?_, ?_⟩) ?_ ?_; rotate_left 1; (focus decide +kernel); (focus decide +kernel); (focus decide +kernel); (focus rfl); (focus (intro w hSw; (try dsimp only at hSw); go_simp; (try (with_reducible rfl)); done)); (focus assumption); (try simp only [Act.put, List.setIfInBounds_toArray, List.set_cons_zero, List.set_cons_succ, List.getElem_toArray, List.getElem_cons_succ, List.getElem_cons_zero]))
  refine wpAnyH_ready (rs := [3]) ?_ (by simp) ?_
  · decide +kernel
  refine AllReadyH.cons rfl (fun K hK => ?_) AllReadyH.nil
  go_simp
  go_at_call 21
  refine (comingWords HK.out (HH.out.keep HB3.out.drew (Nat.le_refl _)) HNT.out rfl HF.out).mono ?_
  rintro e w5 ⟨bC, rfl, oC, bel⟩
  have HBC := hid (HB3.out.drew.trans (bel.mono HB3.out.drew.size))
  have HOC := hid oC
  refine hK.out _ _ ?_ (fun hHeld2 => ?_)
  · obtain ⟨e0, e1, e2⟩ := hHeld; exact ⟨cell_keep bel e0, cell_keep bel e1, cell_keep bel e2⟩
  clear hK K hHeld oC bel
  have hHeld := hHeld2
  clear hHeld2
  skip
  (try simp only [Act.put, List.setIfInBounds_toArray, List.set_cons_zero, List.set_cons_succ, List.getElem_toArray, List.getElem_cons_succ, List.getElem_cons_zero])
  refine wpAnyH_ready (rs := [7]) ?_ (by simp) ?_
  · decide +kernel
  refine AllReadyH.cons rfl (fun K hK => ?_) AllReadyH.nil
  go_simp
  go_at_call 22
  refine (implNumber (HWd.out.keep HBC.out (Nat.le_refl _)) HK.out.st (by have := HNL.out; omega) HWA.out).mono ?_
  rw [← HJ.out]
  rintro e w6 ⟨rfl, rfl⟩
  refine hK.out _ _ ?_ (fun hHeld2 => ?_)
  · exact hHeld
  clear hK K hHeld
  have hHeld := hHeld2
  clear hHeld2
  (try simp only [Act.put, List.setIfInBounds_toArray, List.set_cons_zero, List.set_cons_succ, List.getElem_toArray, List.getElem_cons_succ, List.getElem_cons_zero])
  (refine wpAnyH_take (i := 8) (v := ?_) rfl ?_ ?_ ?_ (fun _ _ _ h => h) (Or.inl ⟨?_, ?_⟩) ?_ ?_; rotate_left 1; (focus decide +kernel); (focus decide +kernel); (focus decide +kernel); (focus rfl); (focus (intro w hSw; (try dsimp only at hSw); go_simp; (try (with_reducible rfl)); done)); (focus assumption); (try simp only [Act.put, List.setIfInBounds_toArray, List.set_cons_zero, List.set_cons_succ, List.getElem_toArray, List.getElem_cons_succ, List.getElem_cons_zero]))
  refine wpAnyH_ready (rs := [9]) ?_ (by simp) ?_
  · decide +kernel
  refine AllReadyH.cons rfl (fun K hK => ?_) AllReadyH.nil
  have q1 := HOC.out.cell (i := jx) (by rw [lo_length]; exact HJL.out)
  rw [← HQQ.out] at q1
  go_simp
  refine hK.out _ _ ?_ (fun hHeld2 => ?_)
  · exact hHeld
  clear hK K hHeld q1
  have hHeld := hHeld2
  clear hHeld2
  (try simp only [Act.put, List.setIfInBounds_toArray, List.set_cons_zero, List.set_cons_succ, List.getElem_toArray, List.getElem_cons_succ, List.getElem_cons_zero])
  (refine wpAnyH_take (i := 10) (v := ?_) rfl ?_ ?_ ?_ (fun _ _ _ h => h) (Or.inl ⟨?_, ?_⟩) ?_ ?_; rotate_left 1; (focus decide +kernel); (focus decide +kernel); (focus decide +kernel); (focus rfl); (focus (intro w hSw; (try dsimp only at hSw); go_simp; (try (with_reducible rfl)); done)); (focus assumption); (try simp only [Act.put, List.setIfInBounds_toArray, List.set_cons_zero, List.set_cons_succ, List.getElem_toArray, List.getElem_cons_succ, List.getElem_cons_zero]))
  (refine wpAnyH_take (i := 11) (v := ?_) rfl ?_ ?_ ?_ (fun _ _ _ h => h) (Or.inl ⟨?_, ?_⟩) ?_ ?_; rotate_left 1; (focus decide +kernel); (focus decide +kernel); (focus decide +kernel); (focus rfl); (focus (intro w hSw; (try dsimp only at hSw); go_simp; (try (with_reducible rfl)); done)); (focus assumption); (try simp only [Act.put, List.setIfInBounds_toArray, List.set_cons_zero, List.set_cons_succ, List.getElem_toArray, List.getElem_cons_succ, List.getElem_cons_zero]))
  refine wpAnyH_done (by kernel_rfl) ?_ _
  clear hHeld
  go_wp2
  go_ret2
  exact ⟨rfl, HBC.out⟩

theorem canNo {w : World} {s r T : Int} {b bw : Nat} {v vw : Value} {tbl zs : List Int} (h : Rd w b v tbl) (hw : Rd w bw vw zs) (hv : ¬ (askB s r (zs.length : Int) T tbl = true ∧ wordB zs s = true)) :
    Calls Try.prog 9 #[ruleV s r v, vw, .int .i64 T] w fun e w' => e = .returned (.tuple #[.bool false, .bool false]) ∧ Below w.heap.size w w' := by
  have HH := hid h
  have HWd := hid hw
  obtain ⟨ao, cap, rfl, _, _, _⟩ := h
  obtain ⟨ao2, cw, rfl, hcw, hmw, _⟩ := hw
  obtain ⟨n, hn⟩ : ∃ n, n = zs.length := ⟨_, rfl⟩
  rw [← hn] at hv HWd hcw ⊢
  have hsz : n ≤ 9223372036854775807 := by unfold maxLen at hmw; omega
  clear hcw hmw hn
  cases ha : askB s r (n : Int) T tbl with
  | false =>
    have HAS := hid ha
    clear hv ha
    go_enter Try.func9, Try.ntmps9
    go_wp2_with fail
    obtain ⟨w1, hW⟩ : ∃ x, x = w.alloc (Obj.cells #[.int .i64 s, .int .i64 r, (.slice ao tbl.length cap)] 28) := ⟨_, rfl⟩
    obtain ⟨NR, hN⟩ : ∃ x, x = w.heap.size := ⟨_, rfl⟩
    have HB1 : Hid (Below w.heap.size w w1) := by simp only [Hid]; rw [hW]; exact below1 _ _
    have KR1 : Hid (w1.heap[NR]? = some (Obj.cells #[.int .i64 s, .int .i64 r, (.slice ao tbl.length cap)] 28)) := by simp only [Hid]; rw [hW]; exact FNew.heap_top hN
    simp only [← hW, ← hN]
    clear hW hN
    go_at_call 19
    refine (canAsk (HH.out.keep HB1.out (Nat.le_refl _))).mono ?_
    rw [HAS.out]
    rintro e w2 ⟨rfl, bel⟩
    have KR2 := hid (Box.heap_keep bel KR1.out)
    have HB2 := hid (HB1.out.trans (bel.mono HB1.out.size))
    clear bel
    go_wp2
    go_ret2
    exact ⟨rfl, HB2.out⟩
  | true =>
    have HAS := hid ha
    have hwb : wordB zs s = false := by
      cases h5 : wordB zs s with
      | false => rfl
      | true => exact absurd ⟨ha, h5⟩ hv
    have HWB := hid hwb
    have hs4 : -1000 ≤ s ∧ s ≤ 1000000 := by obtain ⟨_, _, _, _, _, _, hk, _⟩ := ask_parts ha; have := hk.st; omega
    have HS4 := hid hs4
    clear hv ha hwb hs4
    go_enter Try.func9, Try.ntmps9
    go_wp2_with fail
    obtain ⟨w1, hW⟩ : ∃ x, x = w.alloc (Obj.cells #[.int .i64 s, .int .i64 r, (.slice ao tbl.length cap)] 28) := ⟨_, rfl⟩
    obtain ⟨NR, hN⟩ : ∃ x, x = w.heap.size := ⟨_, rfl⟩
    have HB1 : Hid (Below w.heap.size w w1) := by simp only [Hid]; rw [hW]; exact below1 _ _
    have KR1 : Hid (w1.heap[NR]? = some (Obj.cells #[.int .i64 s, .int .i64 r, (.slice ao tbl.length cap)] 28)) := by simp only [Hid]; rw [hW]; exact FNew.heap_top hN
    simp only [← hW, ← hN]
    clear hW hN
    go_at_call 19
    refine (canAsk (HH.out.keep HB1.out (Nat.le_refl _))).mono ?_
    rw [HAS.out]
    rintro e w2 ⟨rfl, bel⟩
    have KR2 := hid (Box.heap_keep bel KR1.out)
    have HB2 := hid (HB1.out.trans (bel.mono HB1.out.size))
    clear bel
    have r0 := Go.Joins.cell_of_block KR2.out 0
    simp only [List.getElem?_toArray, List.getElem?_cons_zero, List.getElem?_cons_succ] at r0
    go_wp2_with fail
    go_at_call 20
    refine (isWord (HWd.out.keep HB2.out (Nat.le_refl _)) HS4.out).mono ?_
    rw [HWB.out]
    rintro e w3 ⟨rfl, bel⟩
    have HB3 := hid (HB2.out.trans (bel.mono HB2.out.size))
    clear bel r0
    go_wp2
    go_ret2
    exact ⟨rfl, HB3.out⟩

/-- How many of the first k are so. -/
def cn (l : List Bool) : Nat → Nat
  | 0 => 0
  | k + 1 => cn l k + if l.getD k false then 1 else 0
theorem cn_le (l : List Bool) : ∀ k, cn l k ≤ k
  | 0 => Nat.le_refl _
  | k + 1 => by have := cn_le l k; show cn l k + (if l.getD k false then 1 else 0) ≤ k + 1; split <;> omega

set_option maxHeartbeats 4000000 in
set_option maxRecDepth 100000 in
theorem wordsOk {w : World} {s : Int} {R n T : Nat} {b : Nat} {v : Value} {tbl : List Int} (hk : Ok tbl s (R : Int)) (h : Rd w b v tbl) (hask : askB s (R : Int) (n : Int) (T : Int) tbl = true) (hn : 1 ≤ n ∧ n ≤ 12 ∧ T ≤ 4) (hf : Few s (n + 2 * R * T)) :
    Calls Try.prog 13 #[ruleV s (R : Int) v, .int .i64 (n : Int), .int .i64 (T : Int)] w fun e w' => e = .returned (.tuple #[.int .i64 (cn (lo (pw s n) (cm tbl s (R : Int) (n + 2 * R * T) T)) (pw s n) : Nat), .bool true]) ∧ Below w.heap.size w w' := by
  have HK := hid hk
  have HH := hid h
  have HAS := hid hask
  have HF := hid hf
  have HNT : Hid (1 ≤ n ∧ T ≤ 4) := ⟨hn.1, hn.2.2⟩
  obtain ⟨P, hP⟩ : ∃ P, P = pw s n := ⟨_, rfl⟩
  have hPb : P ≤ 19683 := by rw [hP]; exact (few_bd (few_le hf (by omega))).2
  obtain ⟨CL, hCL⟩ : ∃ CL, CL = lo P (cm tbl s (R : Int) (n + 2 * R * T) T) := ⟨_, rfl⟩
  have hcw : ∀ W : World, Below w.heap.size w W → Calls Try.prog 21 #[ruleV s (R : Int) v, .int .i64 (n : Int), .int .i64 (T : Int)] W fun e w' => ∃ bC, e = .returned (.slice (some ⟨bC, 0, none⟩) P P) ∧ OwnB 4 w' bC (.slice (some ⟨bC, 0, none⟩) P P) CL ∧ Below W.heap.size W w' := fun W hb => by
    rw [hCL, hP]; exact comingWords HK.out (HH.out.keep hb (Nat.le_refl _)) HNT.out rfl HF.out
  have HCW := hid hcw
  rw [← hP, ← hCL]
  have HLN : Hid (CL.length = P) := by simp only [Hid]; rw [hCL]; exact lo_length _ _
  obtain ⟨q, hq⟩ : ∃ q : Int, q = ((cn CL P : Nat) : Int) := ⟨_, rfl⟩
  have HQ := hid hq
  rw [← hq]
  obtain ⟨ao, cap, rfl, _, _, _⟩ := h
  clear hk hask hn hf hP hCL hcw hq
  go_enter Try.func13, Try.ntmps13
  go_wp2_with fail
  obtain ⟨w1, hW⟩ : ∃ x, x = w.alloc (Obj.cells #[.int .i64 s, .int .i64 (R : Int), (.slice ao tbl.length cap)] 28) := ⟨_, rfl⟩
  obtain ⟨NR, hN⟩ : ∃ x, x = w.heap.size := ⟨_, rfl⟩
  have HB1 : Hid (Below w.heap.size w w1) := by simp only [Hid]; rw [hW]; exact below1 _ _
  have KR1 : Hid (w1.heap[NR]? = some (Obj.cells #[.int .i64 s, .int .i64 (R : Int), (.slice ao tbl.length cap)] 28)) := by simp only [Hid]; rw [hW]; exact FNew.heap_top hN
  simp only [← hW, ← hN]
  clear hW hN
  go_at_call 19
  refine (canAsk (HH.out.keep HB1.out (Nat.le_refl _))).mono ?_
  rw [HAS.out]
  rintro e w2 ⟨rfl, bel⟩
  have KR2 := hid (Box.heap_keep bel KR1.out)
  have HB2 := hid (HB1.out.trans (bel.mono HB1.out.size))
  clear bel
  have r0 := Go.Joins.cell_of_block KR2.out 0
  have r1 := Go.Joins.cell_of_block KR2.out 1
  have r2 := Go.Joins.cell_of_block KR2.out 2
  simp only [List.getElem?_toArray, List.getElem?_cons_zero, List.getElem?_cons_succ] at r0 r1 r2
  go_wp2_with fail
  go_at_call 21
  refine (HCW.out _ HB2.out).mono ?_
  rintro e w3 ⟨bC, rfl, oC, bel⟩
  have HOC := hid oC
  have HB3 := hid (HB2.out.trans (bel.mono HB2.out.size))
  clear bel oC r0 r1 r2
  go_wp2
  go_loopw [8, 21] (fun acc i wx => ∃ k : Nat, k ≤ P ∧ i = .int .i64 (k : Int) ∧ acc = .int .i64 ((cn CL k : Nat) : Int) ∧ wx = w3) (fun _ i _ => P - (intOf i).toNat)
  case atStart => exact ⟨0, Nat.zero_le _, rfl, rfl, rfl⟩
  case round =>
    obtain ⟨k, hk, rfl, rfl, rfl⟩ := hrel
    by_cases hlt : k < P
    · have y0 := HOC.out.cell (i := k) (by rw [HLN.out]; exact hlt)
      have hcl := cn_le CL k
      have hki : (k : Int) < (P : Int) := by omega
      have HNX : Hid (cn CL (k + 1) = cn CL k + if CL.getD k false then 1 else 0) := rfl
      obtain ⟨c, hc⟩ : ∃ c, c = CL.getD k false := ⟨_, rfl⟩
      have HCc := hid hc
      rw [← hc] at y0
      obtain ⟨X, hX⟩ : ∃ X, X = cn CL k := ⟨_, rfl⟩
      have HX := hid hX
      rw [← hX] at hcl ⊢
      clear hc hX
      cases c with
      | true =>
        have HN2 : Hid (cn CL (k + 1) = X + 1) := by simp only [Hid]; rw [HNX.out, ← HCc.out, HX.out]; rfl
        go_wp2
        go_roundw
        case rel => exact ⟨k + 1, by omega, by go_num, by rw [HN2.out]; go_num, trivial⟩
        case measure => simp [intOf]; omega
      | false =>
        have HN2 : Hid (cn CL (k + 1) = X) := by simp only [Hid]; rw [HNX.out, ← HCc.out, HX.out]; rfl
        go_wp2
        go_roundw
        case rel => exact ⟨k + 1, by omega, by go_num, by rw [HN2.out], trivial⟩
        case measure => simp [intOf]; omega
    · have hkn : P = k := by omega
      subst hkn
      rw [← HQ.out]
      go_wp2
      go_ret2
      exact ⟨rfl, HB3.out⟩

theorem wordsNo {w : World} {s r n T : Int} {b : Nat} {v : Value} {tbl : List Int} (h : Rd w b v tbl) (hv : askB s r n T tbl = false) :
    Calls Try.prog 13 #[ruleV s r v, .int .i64 n, .int .i64 T] w fun e w' => e = .returned (.tuple #[.int .i64 0, .bool false]) ∧ Below w.heap.size w w' := by
  have HH := hid h
  have HAS := hid hv
  obtain ⟨ao, cap, rfl, _, _, _⟩ := h
  clear hv
  go_enter Try.func13, Try.ntmps13
  go_wp2_with fail
  obtain ⟨w1, hW⟩ : ∃ x, x = w.alloc (Obj.cells #[.int .i64 s, .int .i64 r, (.slice ao tbl.length cap)] 28) := ⟨_, rfl⟩
  obtain ⟨NR, hN⟩ : ∃ x, x = w.heap.size := ⟨_, rfl⟩
  have HB1 : Hid (Below w.heap.size w w1) := by simp only [Hid]; rw [hW]; exact below1 _ _
  have KR1 : Hid (w1.heap[NR]? = some (Obj.cells #[.int .i64 s, .int .i64 r, (.slice ao tbl.length cap)] 28)) := by simp only [Hid]; rw [hW]; exact FNew.heap_top hN
  simp only [← hW, ← hN]
  clear hW hN
  go_at_call 19
  refine (canAsk (HH.out.keep HB1.out (Nat.le_refl _))).mono ?_
  rw [HAS.out]
  rintro e w2 ⟨rfl, bel⟩
  have KR2 := hid (Box.heap_keep bel KR1.out)
  have HB2 := hid (HB1.out.trans (bel.mono HB1.out.size))
  clear bel
  go_wp2
  go_ret2
  exact ⟨rfl, HB2.out⟩
end Go.Proofs.Ytbnndbciimfciaa.CwU
