/- spec.IsSumRule. -/
import Derived.Test.YtiijabiijkdhcaaWeigh
import Derived.Test.YtiijabiijkdhcaaIsSum
import Derived.Test.YtiijabiijkdhcaaSame2
import Derived.BigQuiet
namespace Go.Proofs.Ytiijabiijkdhcaa.SpecSum
open Go.RowKit Go.Proofs.Ytiijabiijkdhcaa.Rd Go.Proofs.Ytiijabiijkdhcaa.Help Go.Proofs.Ytiijabiijkdhcaa.App Go.Proofs.Ytiijabiijkdhcaa.Ring Go.Proofs.Ytiijabiijkdhcaa.Small Go.Proofs.Ytiijabiijkdhcaa.Num Go.Proofs.Ytiijabiijkdhcaa.Keep Go.Proofs.Ytiijabiijkdhcaa.Rule Go.Proofs.Ytiijabiijkdhcaa.Dig Go.Proofs.Ytiijabiijkdhcaa.DigP Go.Proofs.Ytiijabiijkdhcaa.Tell Go.Proofs.Ytiijabiijkdhcaa.Sum Go.Proofs.Ytiijabiijkdhcaa.Al Go.Proofs.Ytiijabiijkdhcaa.IsSum
set_option linter.unusedVariables false
set_option linter.unusedSimpArgs false

theorem sameB_comm (s r : Int) (xs ys : List Int) : Same.sameB s r xs s r ys = Same.sameB s r ys s r xs := by
  unfold Same.sameB Same.eqLB
  simp only [decide_true, Bool.true_and]
  by_cases h : xs = ys
  · rw [h]
  · rw [decide_eq_false h, decide_eq_false (fun e => h e.symm)]

theorem no {w : World} {s r : Int} {b : Nat} {v : Value} {tbl : List Int} (h : Rd w b v tbl) (hv : validB s r tbl = false) :
    Calls Try.prog 42 #[ruleV s r v] w fun e w' => e = .returned (.tuple #[.bool false, .bool false]) ∧ Below w.heap.size w w' := by
  have HV := hid hv
  have HRd := hid h
  obtain ⟨ao, cap, rfl, hc, hm, h4⟩ := h
  clear hv hc hm h4
  go_enter Try.func42, Try.ntmps42
  go_wp2_with fail
  obtain ⟨w1, hW⟩ : ∃ w1, w1 = w.alloc (Obj.cells #[.int .i64 s, .int .i64 r, (Value.slice ao tbl.length cap)] 24) := ⟨_, rfl⟩
  obtain ⟨NR, hN⟩ : ∃ NR, NR = w.heap.size := ⟨_, rfl⟩
  have st : Below w.heap.size w w1 ∧ w1.cell? ⟨NR, 0, none⟩ = some (.int .i64 s) ∧ w1.cell? ⟨NR, 1, none⟩ = some (.int .i64 r) ∧ w1.cell? ⟨NR, 2, none⟩ = some (Value.slice ao tbl.length cap) ∧ Rd w1 b (Value.slice ao tbl.length cap) tbl ∧ w.heap.size ≤ w1.heap.size := by
    rw [hW, hN]
    exact ⟨below1 _ _, by simp, by simp, by simp, HRd.out.keep (below1 _ _) (Nat.le_refl _), by simp⟩
  simp only [← hW, ← hN]
  clear hW hN
  go_at_call 74
  refine (Spec.is (rd3_1_0 st) st.2.1 st.2.2.1 st.2.2.2.1).mono ?_
  rw [HV.out]
  rintro e w2 ⟨rfl, m, hw2⟩
  have bel : Below w1.heap.size w1 w2 := by rw [hw2]; exact Spec.below_drewN' _ _ _
  replace st := next3_1 bel st
  clear bel hw2
  go_wp2
  go_ret2
  exact ⟨rfl, st.1⟩

set_option maxHeartbeats 8000000 in
theorem yes {w : World} {s r : Int} {b : Nat} {v : Value} {tbl : List Int} {qb : Bool} (hqb : qb = isSumB s r tbl) (h : Rd w b v tbl) (hv : validB s r tbl = true) :
    Calls Try.prog 42 #[ruleV s r v] w fun e w' => e = .returned (.tuple #[.bool qb, .bool true]) ∧ Below w.heap.size w w' := by
  have HV := hid hv
  obtain ⟨hs, hr, hl, ha⟩ := valid_parts hv
  obtain ⟨L, hL⟩ : ∃ L, L = (2 * r + 1).toNat := ⟨_, rfl⟩
  obtain ⟨TT, hTT⟩ : ∃ TT, TT = sumT s tbl L tbl.length := ⟨_, rfl⟩
  have HQ : Hid (Same.sameB s r TT s r tbl = qb) := by simp only [Hid]; rw [hqb, isSumB, hTT, hL, sameB_comm]
  rw [← hL] at hl
  have hLr : 2 * r + 1 = (L : Int) := by omega
  have HS := hid hs
  have HR := hid hr
  have HA := hid ha
  have HLr := hid hLr
  have HLen := hid hl
  have HAL : Hid (allB (alo tbl s L) s = true) := alo_all hs ha hl L (Nat.le_refl _)
  have HPB : Hid (∀ k, k < L → 1 ≤ s ^ k ∧ s ^ k < (tbl.length : Int) ∧ s ^ k ≤ 243) := by
    intro k hk
    have p1 := pow_pos' hs k
    have p2 := pow_le' hs (show k + 1 ≤ L by omega)
    have p3 : s ^ k < s ^ (k + 1) := by
      rw [Int.pow_succ]
      rcases (show s = 2 ∨ s = 3 by omega) with rfl | rfl <;> omega
    have p4 := (pow_bd hs (show k ≤ 5 by omega)).2
    omega
  have HRd := hid h
  obtain ⟨ao, cap, rfl, hc, hm, h4⟩ := h
  obtain ⟨off, rfl, hb, hcell⟩ := h4 (by have := pow_pos' hs L; omega)
  obtain ⟨n, hn⟩ : ∃ n, n = tbl.length := ⟨_, rfl⟩
  have HTT : Hid (TT = tab (fun k => dotK (alo tbl s L) (dig s k L) L % s) n) := by rw [hn]; exact hTT
  have hn243 : n ≤ 243 := by have := (pow_bd hs (show L ≤ 5 by omega)).2; omega
  rw [← hn] at HRd HPB hcell HLen ⊢
  have HC := hid hcell
  have HBt := hid hb
  have hL5 : L ≤ 5 := by omega
  obtain ⟨s1, s2⟩ := hs
  clear h4 hcell hb ha hc hm hv hl hL hn hTT hqb
  go_enter Try.func42, Try.ntmps42
  go_wp2_with fail
  obtain ⟨w0, hW⟩ : ∃ w0, w0 = w.alloc (Obj.cells #[.int .i64 s, .int .i64 r, (Value.slice (some ⟨b, off, none⟩) n cap)] 24) := ⟨_, rfl⟩
  obtain ⟨NR, hN⟩ : ∃ NR, NR = w.heap.size := ⟨_, rfl⟩
  have st : Below w.heap.size w w0 ∧ w0.cell? ⟨NR, 0, none⟩ = some (.int .i64 s) ∧ w0.cell? ⟨NR, 1, none⟩ = some (.int .i64 r) ∧ w0.cell? ⟨NR, 2, none⟩ = some (Value.slice (some ⟨b, off, none⟩) n cap) ∧ Rd w0 b (Value.slice (some ⟨b, off, none⟩) n cap) tbl ∧ w.heap.size ≤ w0.heap.size := by
    rw [hW, hN]
    exact ⟨below1 _ _, by simp, by simp, by simp, HRd.out.keep (below1 _ _) (Nat.le_refl _), by simp⟩
  simp only [← hW, ← hN]
  clear hW hN
  go_at_call 74
  refine (Spec.is (rd3_1_0 st) st.2.1 st.2.2.1 st.2.2.2.1).mono ?_
  rw [HV.out]
  rintro e w1 ⟨rfl, m, hw2⟩
  have bel : Below w0.heap.size w0 w1 := by rw [hw2]; exact Spec.below_drewN' _ _ _
  replace st := next3_1 bel st
  have HB1 := hid st.1
  have HBt1 : Hid (b < w1.heap.size) := Nat.lt_of_lt_of_le HBt.out st.2.2.2.2.2
  have HC1 : Hid (∀ i, i < n → w1.cell? ⟨b, off + i, none⟩ = some (.int .i64 (tbl.getD i 0))) := fun i hi => (st.1.cell (p := ⟨b, off + i, none⟩) HBt.out).trans (HC.out i hi)
  have ST : Hid (Below w1.heap.size w1 w1 ∧ w1.cell? ⟨NR, 0, none⟩ = some (.int .i64 s) ∧ w1.cell? ⟨NR, 1, none⟩ = some (.int .i64 r) ∧ w1.cell? ⟨NR, 2, none⟩ = some (Value.slice (some ⟨b, off, none⟩) n cap) ∧ Rd w1 b (Value.slice (some ⟨b, off, none⟩) n cap) tbl ∧ w1.heap.size ≤ w1.heap.size) := ⟨Below.refl _ _, st.2.1, st.2.2.1, st.2.2.2.1, st.2.2.2.2.1, Nat.le_refl _⟩
  clear bel hw2
  have d0 := st.2.1
  have d1 := st.2.2.1
  clear st
  have hLr := HLr.out
  obtain ⟨r1, r2⟩ := HR.out
  have e1 : (w1.alloc (Obj.cells #[] 2)).cell? ⟨NR, 1, none⟩ = some (.int .i64 r) := cell_old d1
  go_wp2
  clear d0 d1 hLr e1
  go_loopw [4, 6] (fun v4 i wr => ∃ k : Nat, k ≤ L ∧ i = .int .i64 k ∧ wr.ownsRow w1.heap.size 2 1 v4 ((alo tbl s L).take k).length (((alo tbl s L).take k).map (Value.int .i64)) ∧ Below w1.heap.size w1 wr) (fun _ i _ => L - (intOf i).toNat)
  case atStart => exact ⟨0, Nat.zero_le _, rfl, by simpa using World.ownsRow_lit (base := w1.heap.size) (e := 2) (size := 1) w1 #[] 0 (Nat.le_refl _) (by simp) (by simp), (Below.refl _ _).alloc (Nat.le_refl _) _⟩
  case round =>
    obtain ⟨k, hk, rfl, hown, hbel⟩ := hrel
    by_cases hlt : k < L
    · obtain ⟨j, hj⟩ : ∃ j : Nat, (L : Int) - 1 - k = j := ⟨L - 1 - k, by omega⟩
      have hj2 : L - 1 - k = j := by omega
      have hjl : j < L := by omega
      obtain ⟨p1, p2, p3⟩ := HPB.out j hjl
      obtain ⟨P, hP⟩ : ∃ P : Nat, s ^ j = P := ⟨(s ^ j).toNat, by omega⟩
      rw [hP] at p1 p2 p3
      obtain ⟨x, hx⟩ : ∃ x, x = tbl.getD P 0 := ⟨_, rfl⟩
      have HX : Hid ((alo tbl s L).take (k + 1) = (alo tbl s L).take k ++ [x]) := by
        simp only [Hid]
        rw [List.take_succ_eq_append_getElem (by rw [alo_length]; exact hlt)]
        have e := alo_get tbl s L k hlt
        rw [hj2, hP, Int.toNat_natCast, ← hx] at e
        rw [← e]
        simp [List.getD, alo_length, hlt]
      have hwr1 : IntKind.i64.wrap ((L : Int) - 1) = (L : Int) - 1 := by rw [IntKind.wrap_i64]; omega
      have hwr2 : IntKind.i64.wrap ((L : Int) - 1 - k) = j := by rw [IntKind.wrap_i64]; omega
      have HP := hid hP
      have c4 : w1.cell? ⟨b, off + P, none⟩ = some (.int .i64 x) := by rw [hx]; exact HC1.out P (by omega)
      have s0 := ST.out
      have ST4 : Hid (Below w1.heap.size w1 w1 ∧ w1.cell? ⟨NR, 0, none⟩ = some (.int .i64 s) ∧ w1.cell? ⟨NR, 1, none⟩ = some (.int .i64 r) ∧ w1.cell? ⟨NR, 2, none⟩ = some (Value.slice (some ⟨b, off, none⟩) n cap) ∧ w1.cell? ⟨b, off + P, none⟩ = some (.int .i64 x) ∧ Rd w1 b (Value.slice (some ⟨b, off, none⟩) n cap) tbl ∧ w1.heap.size ≤ w1.heap.size) := ⟨s0.1, s0.2.1, s0.2.2.1, s0.2.2.2.1, c4, s0.2.2.2.2.1, s0.2.2.2.2.2⟩
      have st4 := next4_1 hbel ST4.out
      clear s0 c4
      have HO := hid hown
      have HB := hid hbel
      clear hown hbel hP hx hj hj2
      go_wp2_with fail
      refine wp_region_held_drew (S := (fun ww => Below w1.heap.size w1 ww ∧ ww.cell? ⟨NR, 0, none⟩ = some (.int .i64 s) ∧ ww.cell? ⟨NR, 1, none⟩ = some (.int .i64 r) ∧ ww.cell? ⟨NR, 2, none⟩ = some (Value.slice (some ⟨b, off, none⟩) n cap) ∧ ww.cell? ⟨b, off + P, none⟩ = some (.int .i64 x) ∧ Rd ww b (Value.slice (some ⟨b, off, none⟩) n cap) tbl ∧ w1.heap.size ≤ ww.heap.size)) (by kernel_rfl) ?_ (fun hHeld => ?_)
      · ((try dsimp only); exact drew4_1 st4)
      generalize hD : wr.drew = wD at hHeld ⊢
      have HOD : Hid (wD.ownsRow w1.heap.size 2 1 u4 ((alo tbl s L).take k).length (((alo tbl s L).take k).map (Value.int .i64))) := by rw [← hD]; exact HO.out
      clear hD st4
      (refine wpAnyH_take (i := 0) (v := ?_) rfl ?_ ?_ ?_ (fun _ _ _ h => h) (Or.inl ⟨?_, ?_⟩) ?_ ?_; rotate_left 1; (focus decide +kernel); (focus decide +kernel); (focus decide +kernel); (focus rfl); (focus (intro w hSw; (try dsimp only at hSw); go_simp; (try (with_reducible rfl)); done)); (focus assumption); (try simp only [Act.put, List.setIfInBounds_toArray, List.set_cons_zero, List.set_cons_succ, List.getElem_toArray, List.getElem_cons_succ, List.getElem_cons_zero]))
      (refine wpAnyH_take (i := 1) (v := ?_) rfl ?_ ?_ ?_ (fun _ _ _ h => h) (Or.inl ⟨?_, ?_⟩) ?_ ?_; rotate_left 1; (focus decide +kernel); (focus decide +kernel); (focus decide +kernel); (focus rfl); (focus (intro w hSw; (try dsimp only at hSw); go_simp; (try (with_reducible rfl)); done)); (focus assumption); (try simp only [Act.put, List.setIfInBounds_toArray, List.set_cons_zero, List.set_cons_succ, List.getElem_toArray, List.getElem_cons_succ, List.getElem_cons_zero]))
      (refine wpAnyH_take (i := 2) (v := ?_) rfl ?_ ?_ ?_ (fun _ _ _ h => h) (Or.inl ⟨?_, ?_⟩) ?_ ?_; rotate_left 1; (focus decide +kernel); (focus decide +kernel); (focus decide +kernel); (focus rfl); (focus (intro w hSw; (try dsimp only at hSw); go_simp; (try (with_reducible rfl)); done)); (focus assumption); (try simp only [Act.put, List.setIfInBounds_toArray, List.set_cons_zero, List.set_cons_succ, List.getElem_toArray, List.getElem_cons_succ, List.getElem_cons_zero]))
      (refine wpAnyH_take (i := 3) (v := ?_) rfl ?_ ?_ ?_ (fun _ _ _ h => h) (Or.inl ⟨?_, ?_⟩) ?_ ?_; rotate_left 1; (focus decide +kernel); (focus decide +kernel); (focus decide +kernel); (focus rfl); (focus (intro w hSw; (try dsimp only at hSw); go_simp; (try (with_reducible rfl)); done)); (focus assumption); (try simp only [Act.put, List.setIfInBounds_toArray, List.set_cons_zero, List.set_cons_succ, List.getElem_toArray, List.getElem_cons_succ, List.getElem_cons_zero]))
      (refine wpAnyH_take (i := 4) (v := ?_) rfl ?_ ?_ ?_ (fun _ _ _ h => h) (Or.inl ⟨?_, ?_⟩) ?_ ?_; rotate_left 1; (focus decide +kernel); (focus decide +kernel); (focus decide +kernel); (focus rfl); (focus (intro w hSw; (try dsimp only at hSw); go_simp; (try (with_reducible rfl)); done)); (focus assumption); (try simp only [Act.put, List.setIfInBounds_toArray, List.set_cons_zero, List.set_cons_succ, List.getElem_toArray, List.getElem_cons_succ, List.getElem_cons_zero]))
      (refine wpAnyH_take (i := 5) (v := ?_) rfl ?_ ?_ ?_ (fun _ _ _ h => h) (Or.inl ⟨?_, ?_⟩) ?_ ?_; rotate_left 1; (focus decide +kernel); (focus decide +kernel); (focus decide +kernel); (focus rfl); (focus (intro w hSw; (try dsimp only at hSw); go_simp; (try (with_reducible rfl)); done)); (focus assumption); (try simp only [Act.put, List.setIfInBounds_toArray, List.set_cons_zero, List.set_cons_succ, List.getElem_toArray, List.getElem_cons_succ, List.getElem_cons_zero]))
      (refine wpAnyH_take (i := 6) (v := ?_) rfl ?_ ?_ ?_ (fun _ _ _ h => h) (Or.inl ⟨?_, ?_⟩) ?_ ?_; rotate_left 1; (focus decide +kernel); (focus decide +kernel); (focus decide +kernel); (focus rfl); (focus (intro w hSw; (try dsimp only at hSw); go_simp; (try (with_reducible rfl)); done)); (focus assumption); (try simp only [Act.put, List.setIfInBounds_toArray, List.set_cons_zero, List.set_cons_succ, List.getElem_toArray, List.getElem_cons_succ, List.getElem_cons_zero]))
      (refine wpAnyH_take (i := 7) (v := ?_) rfl ?_ ?_ ?_ (fun _ _ _ h => h) (Or.inl ⟨?_, ?_⟩) ?_ ?_; rotate_left 1; (focus decide +kernel); (focus decide +kernel); (focus decide +kernel); (focus rfl); (focus (intro w hSw; (try dsimp only at hSw); go_simp; (try (with_reducible rfl)); done)); (focus assumption); (try simp only [Act.put, List.setIfInBounds_toArray, List.set_cons_zero, List.set_cons_succ, List.getElem_toArray, List.getElem_cons_succ, List.getElem_cons_zero]))
      (refine wpAnyH_take (i := 8) (v := ?_) rfl ?_ ?_ ?_ (fun _ _ _ h => h) (Or.inl ⟨?_, ?_⟩) ?_ ?_; rotate_left 1; (focus decide +kernel); (focus decide +kernel); (focus decide +kernel); (focus rfl); (focus (intro w hSw; (try dsimp only at hSw); go_simp; (try (with_reducible rfl)); done)); (focus assumption); (try simp only [Act.put, List.setIfInBounds_toArray, List.set_cons_zero, List.set_cons_succ, List.getElem_toArray, List.getElem_cons_succ, List.getElem_cons_zero]))
      refine wpAnyH_ready (rs := [9]) ?_ (by simp) ?_
      · decide +kernel
      refine AllReadyH.cons rfl (fun K hK => ?_) AllReadyH.nil
      go_simp
      have hp := (specPower (w := wD) (st := s) (k := j) HS.out (by omega)).mono (R' := fun e w' => e = .returned (.int .i64 P) ∧ wD = w') (by rintro e w' ⟨rfl, rfl⟩; exact ⟨by rw [HP.out], rfl⟩)
      go_at_call 62
      refine hp.mono ?_
      clear hp
      rintro e w' ⟨rfl, hw'⟩
      subst hw'
      refine hK.out _ _ ?_ (fun hHeld => ?_)
      · (try dsimp only); exact hHeld
      clear hK K
      (try simp only [Act.put, List.setIfInBounds_toArray, List.set_cons_zero, List.set_cons_succ, List.getElem_toArray, List.getElem_cons_succ, List.getElem_cons_zero])
      (refine wpAnyH_take (i := 10) (v := ?_) rfl ?_ ?_ ?_ (fun _ _ _ h => h) (Or.inl ⟨?_, ?_⟩) ?_ ?_; rotate_left 1; (focus decide +kernel); (focus decide +kernel); (focus decide +kernel); (focus rfl); (focus (intro w hSw; (try dsimp only at hSw); go_simp; (try (with_reducible rfl)); done)); (focus assumption); (try simp only [Act.put, List.setIfInBounds_toArray, List.set_cons_zero, List.set_cons_succ, List.getElem_toArray, List.getElem_cons_succ, List.getElem_cons_zero]))
      (refine wpAnyH_take (i := 11) (v := ?_) rfl ?_ ?_ ?_ (fun _ _ _ h => h) (Or.inl ⟨?_, ?_⟩) ?_ ?_; rotate_left 1; (focus decide +kernel); (focus decide +kernel); (focus decide +kernel); (focus rfl); (focus (intro w hSw; (try dsimp only at hSw); go_simp; (try (with_reducible rfl)); done)); (focus assumption); (try simp only [Act.put, List.setIfInBounds_toArray, List.set_cons_zero, List.set_cons_succ, List.getElem_toArray, List.getElem_cons_succ, List.getElem_cons_zero]))
      refine wpAnyH_ready (rs := [12]) ?_ (by simp) ?_
      · decide +kernel
      refine AllReadyH.cons rfl (fun K hK => ?_) AllReadyH.nil
      go_simp
      refine hK.out _ _ ?_ (fun hHeld2 => ?_)
      · (try dsimp only); exact next4_1 (below1 _ _) hHeld
      clear hK K
      (try simp only [Act.put, List.setIfInBounds_toArray, List.set_cons_zero, List.set_cons_succ, List.getElem_toArray, List.getElem_cons_succ, List.getElem_cons_zero])
      refine wpAnyH_ready (rs := [13]) ?_ (by simp) ?_
      · decide +kernel
      refine AllReadyH.cons rfl (fun K hK => ?_) AllReadyH.nil
      refine op_append1 rfl _ _ rfl w1.heap.size _ _ rfl HOD.out x rfl ?c1 ?c2 ?_
      case c1 => rw [List.length_take]; omega
      case c2 => exact (And.left hHeld).size
      intro v' w5 hown5 hbel5 _
      have hbw : Below w1.heap.size w1 w5 := (And.left hHeld).trans hbel5
      refine hK.out _ _ ?_ (fun hHeld3 => ?_)
      · (try dsimp only); exact next4_1 hbw (ST4.out)
      clear hK K
      have HO5 := hid hown5
      have HB5 := hid hbw
      clear hown5 hbel5 hbw hHeld hHeld2
      (try simp only [Act.put, List.setIfInBounds_toArray, List.set_cons_zero, List.set_cons_succ, List.getElem_toArray, List.getElem_cons_succ, List.getElem_cons_zero])
      (refine wpAnyH_take (i := 14) (v := ?_) rfl ?_ ?_ ?_ (fun _ _ _ h => h) (Or.inl ⟨?_, ?_⟩) ?_ ?_; rotate_left 1; (focus decide +kernel); (focus decide +kernel); (focus decide +kernel); (focus rfl); (focus (intro w hSw; (try dsimp only at hSw); go_simp; (try (with_reducible rfl)); done)); (focus assumption); (try simp only [Act.put, List.setIfInBounds_toArray, List.set_cons_zero, List.set_cons_succ, List.getElem_toArray, List.getElem_cons_succ, List.getElem_cons_zero]))
      refine wpAnyH_done (by kernel_rfl) ?_ _
      clear hHeld3
      go_wp2
      go_roundw
      case rel =>
        refine ⟨k + 1, by omega, by go_num, ?_, HB5.out⟩
        rw [HX.out]
        exact HO5.out
      case measure => simp [intOf]; omega
    · have hkn : k = L := by omega
      subst hkn
      have htk : (alo tbl s k).take k = alo tbl s k := by rw [List.take_of_length_le]; rw [alo_length]; exact Nat.le_refl _
      rw [htk] at hown
      have st := next3_1 hbel ST.out
      obtain ⟨bt, hbt, hot⟩ := Own.of hown
      rcases hot.form with ⟨_, he⟩ | ⟨capt, rfl, hct, hcm, hbl⟩
      · have := alo_length tbl s k
        rw [he] at this
        have := HLr.out
        have := HR.out
        simp at *
        omega
      rw [alo_length] at hct hot ⊢
      have HOT := hid hot
      have HB2 := hid hbel
      clear hown hbt hot hbl hct hcm hbel htk
      go_wp2_with fail
      go_at_call 71
      refine (Weigh.weighed (r := r) (L := k) (M := n) HOT.out.rd HS.out HR.out (alo_length _ _ _) (by have := HLr.out; omega) HLen.out HAL.out).mono ?_
      rw [← HTT.out]
      rintro e w5 ⟨v', b', rfl, own, lo, bel⟩
      have st5 := next3_1 bel st
      obtain ⟨ao', c', hv'⟩ : ∃ ao' c', v' = .slice ao' TT.length c' := by
        rcases own.form with ⟨rfl, hz⟩ | ⟨c', rfl, _⟩
        · rw [hz]; exact ⟨_, _, rfl⟩
        · exact ⟨_, _, rfl⟩
      subst hv'
      have HO5 := hid own
      have HST5 := hid st5
      obtain ⟨w6, hW⟩ : ∃ w6, w6 = w5.alloc (Obj.cells #[.int .i64 s, .int .i64 r, .slice ao' TT.length c'] 24) := ⟨_, rfl⟩
      obtain ⟨NM, hN⟩ : ∃ NM, NM = w5.heap.size := ⟨_, rfl⟩
      have m0 : w6.cell? ⟨NM, 0, none⟩ = some (.int .i64 s) := by rw [hW]; exact cell_top hN rfl
      have m1 : w6.cell? ⟨NM, 1, none⟩ = some (.int .i64 r) := by rw [hW]; exact cell_top hN rfl
      have m2 : w6.cell? ⟨NM, 2, none⟩ = some (.slice ao' TT.length c') := by rw [hW]; exact cell_top hN rfl
      have b6 : Below w5.heap.size w5 w6 := by rw [hW]; exact below1 _ _
      have st6 := next3_1 b6 st5
      have HR6 := hid (own.keep b6).rd
      clear own lo bel st5 st b6
      go_wp2_with fail
      simp only [← hW, ← hN]
      clear hW hN
      go_at_call 88
      refine (Same.l02Same m0 m1 m2 st6.2.1 st6.2.2.1 st6.2.2.2.1 HR6.out (rd3_1_0 st6)).mono ?_
      rw [HQ.out]
      rintro e w7 ⟨rfl, mm, hw7⟩
      have b7 : Below w.heap.size w w7 := by rw [hw7]; exact (HB1.out.trans (st6.1.mono HB1.out.size)).trans (Spec.below_drewN' _ _ _)
      have HB7 := hid b7
      clear b7 hw7 m0 m1 m2 st6
      go_wp2
      go_ret2
      exact ⟨rfl, HB7.out⟩

theorem specIsSum {w : World} {s r : Int} {b : Nat} {v : Value} {tbl : List Int} (h : Rd w b v tbl) :
    Calls Try.prog 42 #[ruleV s r v] w fun e w' => e = .returned (.tuple #[.bool (validB s r tbl && isSumB s r tbl), .bool (validB s r tbl)]) ∧ Below w.heap.size w w' := by
  cases hv : validB s r tbl with
  | true => rw [Bool.true_and]; exact yes rfl h hv
  | false => rw [Bool.false_and]; exact no h hv

end Go.Proofs.Ytiijabiijkdhcaa.SpecSum
