/- spec.l02Weighed: the rule of weighed sums. -/
import Derived.Test.YtiijabiijkdhcaaSum
import Derived.Test.YtiijabiijkdhcaaApp
import Derived.Test.YtiijabiijkdhcaaSpec
import Derived.BigQuiet
namespace Go.Proofs.Ytiijabiijkdhcaa.Weigh
open Go.RowKit Go.Proofs.Ytiijabiijkdhcaa.Rd Go.Proofs.Ytiijabiijkdhcaa.Help Go.Proofs.Ytiijabiijkdhcaa.App Go.Proofs.Ytiijabiijkdhcaa.Ring Go.Proofs.Ytiijabiijkdhcaa.Small Go.Proofs.Ytiijabiijkdhcaa.Num Go.Proofs.Ytiijabiijkdhcaa.Keep Go.Proofs.Ytiijabiijkdhcaa.Rule Go.Proofs.Ytiijabiijkdhcaa.Dig Go.Proofs.Ytiijabiijkdhcaa.DigP Go.Proofs.Ytiijabiijkdhcaa.Tell Go.Proofs.Ytiijabiijkdhcaa.Sum
set_option linter.unusedVariables false
set_option linter.unusedSimpArgs false

theorem rows_set {w : World} {base : Nat} {v : Value} {n : Nat} {xs : List Value} (h : w.ownsRow base 2 1 v n xs) (a : Addr) (u : Value) (hlt : a.block < base) : (w.setCell a u).ownsRow base 2 1 v n xs := by
  refine h.kept (setCell_grown w a u) ?_
  cases hv : v.ownBlock with
  | none => exact .inl rfl
  | some k => right; intro e; have := (h.lt k hv).1; simp at e; omega
theorem rows_keep {w w' : World} {base : Nat} {v : Value} {n : Nat} {xs : List Value} (h : w.ownsRow base 2 1 v n xs) (bel : Below w.heap.size w w') : w'.ownsRow base 2 1 v n xs := by
  refine h.kept (below_grown bel) ?_
  cases hv : v.ownBlock with
  | none => exact .inl rfl
  | some k => right; simp
theorem heap_keep {w w' : World} {n : Nat} {o : Obj} (bel : Below w.heap.size w w') (h : w.heap[n]? = some o) : w'.heap[n]? = some o :=
  (bel.block n (Array.getElem?_eq_some_iff.1 h).1).trans h

set_option maxHeartbeats 8000000 in
theorem weighed {w : World} {s r : Int} {L M : Nat} {bw : Nat} {vw : Value} {ws : List Int} (h : Rd w bw vw ws) (hs : 2 ≤ s ∧ s ≤ 3) (hr : 0 ≤ r ∧ r ≤ 2) (hl : ws.length = L) (hL : (L : Int) = 2 * r + 1) (hM : (M : Int) = s ^ L) (hw : allB ws s = true) :
    Calls Try.prog 71 #[.int .i64 s, vw] w fun e w' => ∃ v' b', e = .returned (ruleV s r v') ∧
      Own 2 w' b' v' (tab (fun k => dotK ws (dig s k L) L % s) M) ∧ w.heap.size ≤ b' ∧ Below w.heap.size w w' := by
  have HS := hid hs
  have HR := hid hr
  have HM := hid hM
  have HW := hid hw
  have HL := hid hL
  have HRd := hid h
  have hM2 : M ≤ 243 := by have := (pow_bd hs (show L ≤ 5 by omega)).2; omega
  have HP : Hid (Calls Try.prog 62 #[.int .i64 s, .int .i64 L] w (fun e w' => True) → True) := fun _ => trivial
  obtain ⟨ao, cap, rfl, hc, hm, h4⟩ := h
  rw [hl] at HRd hc h4 ⊢
  have HLen := hid hl
  obtain ⟨off, rfl, hb, hcell⟩ := h4 (by omega)
  have HC := hid hcell
  have HBt := hid hb
  have hL5 : L ≤ 5 := by omega
  have hdiv : ((L : Int) - 1).tdiv 2 = r := by rw [Int.tdiv_eq_ediv_of_nonneg (by omega)]; omega
  obtain ⟨r1, r2⟩ := hr
  have hwr : wrap64 r = r := wrap_id (by omega) (by omega)
  clear hM hw hL hc hm h4 hcell hb hl HP
  go_enter Try.func71, Try.ntmps71
  go_wp2
  obtain ⟨w1, hW⟩ : ∃ w1, w1 = (w.alloc (Obj.cells #[.int .i64 0, .int .i64 0, .slice none 0 0] 24)).alloc (Obj.cells #[.int .i64 s, .int .i64 r, .slice none 0 0] 24) := ⟨_, rfl⟩
  obtain ⟨NT, hN⟩ : ∃ NT, NT = w.heap.size := ⟨_, rfl⟩
  obtain ⟨NO, hN1⟩ : ∃ NO, NO = NT + 1 := ⟨_, rfl⟩
  have b1 : Below w.heap.size w w1 := by rw [hW]; exact Go.Joins.below_alloc2 _ _ _
  have kT : w1.heap[NT]? = some (Obj.cells #[.int .i64 0, .int .i64 0, .slice none 0 0] 24) := by rw [hW]; exact heap_old (heap_top hN)
  have kO : w1.heap[NO]? = some (Obj.cells #[.int .i64 s, .int .i64 r, .slice none 0 0] 24) := by rw [hW]; exact heap_top (by simp; omega)
  have HTO : Hid (NT < NO) := by simp only [Hid]; omega
  have HNT : Hid (w.heap.size ≤ NT) := by simp only [Hid]; omega
  have HNO : Hid (w.heap.size ≤ NO) := by simp only [Hid]; omega
  simp only [← hW, ← hN, ← hN1]
  clear hW hN hN1
  go_loopw [7] (fun t wr => ∃ m : Nat, m ≤ M ∧ t = .int .i64 m ∧ Below w.heap.size w wr ∧ wr.heap[NT]? = some (Obj.cells #[.int .i64 0, .int .i64 0, .slice none 0 0] 24) ∧
    ∃ ao5 c5, wr.heap[NO]? = some (Obj.cells #[.int .i64 s, .int .i64 r, .slice ao5 m c5] 24) ∧
      wr.ownsRow (NO + 1) 2 1 (.slice ao5 m c5) (tab (fun k => dotK ws (dig s k L) L % s) m).length ((tab (fun k => dotK ws (dig s k L) L % s) m).map (Value.int .i64))) (fun t _ => M - (intOf t).toNat)
  case atStart => exact ⟨0, Nat.zero_le _, rfl, b1, kT, none, 0, kO, World.ownsRow_nil w1 (NO + 1) 2 1⟩
  case round =>
    clear b1 kT kO
    obtain ⟨m, hm, rfl, bel0, kT, ao5, c5, kO, hR⟩ := hrel
    have hpw := (specPower (w := wr) (st := s) (k := L) HS.out hL5).mono (R' := fun e w' => e = .returned (.int .i64 M) ∧ wr = w') (by rintro e w' ⟨rfl, rfl⟩; exact ⟨by rw [← HM.out], rfl⟩)
    by_cases hlt : m < M
    · have hmi : (m : Int) < (M : Int) := by omega
      have HB0 := hid bel0
      have HkT := hid kT
      have HkO := hid kO
      have HhR := hid hR
      clear bel0 kT kO hR
      go_wp2_with fail
      go_at_call 62
      refine hpw.mono ?_
      clear hpw
      rintro e w' ⟨rfl, hw'⟩
      subst hw'
      go_wp2_with fail
      go_at_call 64
      refine (specDigits HS.out (by omega) (by omega)).mono ?_
      rw [dig_length, Int.toNat_natCast]
      rintro e w4 ⟨bd, rfl, od, lo, bel⟩
      have HOD := hid od
      have HKT4 := hid (heap_keep bel HkT.out)
      have HKO4 := hid (heap_keep bel HkO.out)
      have HR4 := hid (rows_keep HhR.out bel)
      have HB4 := hid (HB0.out.trans (bel.mono HB0.out.size))
      have hCw : Hid (∀ i, i < L → w4.cell? ⟨bw, off + i, none⟩ = some (.int .i64 (ws.getD i 0))) := fun i hi => (HB4.out.cell (p := ⟨bw, off + i, none⟩) HBt.out).trans (HC.out i hi)
      have HDB : Hid (∀ q, q ≤ L → 0 ≤ dotK ws (dig s m L) q ∧ dotK ws (dig s m L) q ≤ 4 * q) := fun q hq => dotK_bd HS.out HW.out (dig_all HS.out _ _) q (by rw [HLen.out]; exact hq) (by rw [dig_length]; exact hq)
      have HD1 : Hid (∀ q, q < L → 0 ≤ (dig s m L).getD q 0 ∧ (dig s m L).getD q 0 ≤ s - 1) := fun q hq => all_get (dig_all HS.out _ _) (by rw [dig_length]; exact hq)
      have HD2 : Hid (∀ q, q < L → 0 ≤ ws.getD q 0 ∧ ws.getD q 0 ≤ s - 1) := fun q hq => all_get HW.out (by rw [HLen.out]; exact hq)
      clear od bel lo
      go_wp2
      go_loopw [9, 10] (fun x t wx => ∃ q : Nat, q ≤ L ∧ t = .int .i64 q ∧ x = .int .i64 (dotK ws (dig s m L) q) ∧ ∃ dn, wx = w4.drewN dn) (fun _ t _ => L - (intOf t).toNat)
      case atStart => exact ⟨0, Nat.zero_le _, rfl, rfl, 0, rfl⟩
      case round =>
        obtain ⟨q, hq, rfl, rfl, dn, hdn⟩ := hrel
        have HDn := hid hdn
        by_cases hlt3 : q < L
        · have hqi : (q : Int) < (L : Int) := by omega
          obtain ⟨x1, x2⟩ := HDB.out q hq
          obtain ⟨y1, y2⟩ := HD1.out q hlt3
          obtain ⟨z1, z2⟩ := HD2.out q hlt3
          have hcx : wr.cell? ⟨bd, q, none⟩ = some (.int .i64 ((dig s m L).getD q 0)) := by rw [hdn]; exact HOD.out.cell (by rw [dig_length]; exact hlt3)
          have hcy : wr.cell? ⟨bw, off + q, none⟩ = some (.int .i64 (ws.getD q 0)) := by rw [hdn]; exact hCw.out q hlt3
          have hnx : dotK ws (dig s m L) (q + 1) = dotK ws (dig s m L) q + ws.getD q 0 * (dig s m L).getD q 0 := rfl
          obtain ⟨X, hX⟩ : ∃ X, X = dotK ws (dig s m L) q := ⟨_, rfl⟩
          obtain ⟨Y, hY⟩ : ∃ Y, Y = (dig s m L).getD q 0 := ⟨_, rfl⟩
          obtain ⟨Z, hZ⟩ : ∃ Z, Z = ws.getD q 0 := ⟨_, rfl⟩
          rw [← hX] at x1 x2 hnx ⊢
          rw [← hY] at y1 y2 hcx hnx
          rw [← hZ] at z1 z2 hcy hnx
          obtain ⟨V, hV⟩ : ∃ V, Z * Y = V := ⟨_, rfl⟩
          have b7 : 0 ≤ V ∧ V ≤ 4 := by
            have p1 : 0 ≤ Z * Y := Int.mul_nonneg z1 y1
            have p2 : Z * Y ≤ 2 * 2 := Int.mul_le_mul (by omega) (by omega) y1 (by omega)
            omega
          obtain ⟨b8, b9⟩ := b7
          have HNX : Hid (dotK ws (dig s m L) (q + 1) = X + V) := by rw [hV] at hnx; exact hnx
          clear hX hY hZ hnx hdn
          go_wp2_with fail
          go_quiet (fail)
          go_wp2
          go_roundw
          case rel => exact ⟨q + 1, by omega, by go_num, by rw [HNX.out], dn + nq, by rw [HDn.out, World.drewN_drewN]⟩
          case measure => simp [intOf]; omega
        · have hqk : q = L := by omega
          subst hqk
          obtain ⟨x1, x2⟩ := HDB.out q (by omega)
          obtain ⟨X, hX⟩ : ∃ X, X = dotK ws (dig s m q) q := ⟨_, rfl⟩
          rw [← hX] at x1 x2 ⊢
          have t1 : X.tmod s = X % s := tmod_of x1
          have HT : Hid (tab (fun k => dotK ws (dig s k q) q % s) (m + 1) = tab (fun k => dotK ws (dig s k q) q % s) m ++ [X % s]) := by
            simp only [Hid]; rw [tab_succ, hX]
          obtain ⟨Z, hZ⟩ : ∃ Z, Z = X % s := ⟨_, rfl⟩
          rw [← hZ] at t1 HT
          have kT0 : Hid (wr.heap[NT]? = some (Obj.cells #[.int .i64 0, .int .i64 0, .slice none 0 0] 24)) := by rw [hdn]; exact HKT4.out
          have kO0 : Hid (wr.heap[NO]? = some (Obj.cells #[.int .i64 s, .int .i64 r, .slice ao5 m c5] 24)) := by rw [hdn]; exact HKO4.out
          have hR0 : Hid (wr.ownsRow (NO + 1) 2 1 (.slice ao5 m c5) (tab (fun k => dotK ws (dig s k q) q % s) m).length ((tab (fun k => dotK ws (dig s k q) q % s) m).map (Value.int .i64))) := by rw [hdn]; exact HR4.out
          have b0 : Hid (Below w.heap.size w wr) := by rw [hdn]; exact HB4.out.trans (Go.Proofs.Ytiijabiijkdhcaa.Help.below_drewN _ _ _)
          clear hX hdn hZ
          go_wp2_with fail
          have hs0 : ¬ s = 0 := by omega
          have st0 : Below w.heap.size w wr := b0.out
          refine wp_region_held_drew (S := (fun ww => Below w.heap.size w ww)) (by kernel_rfl) ?_ (fun hHeld => ?_)
          · ((try dsimp only); exact st0.drew)
          generalize hD : wr.drew = wD at hHeld ⊢
          have kT : wD.heap[NT]? = some (Obj.cells #[.int .i64 0, .int .i64 0, .slice none 0 0] 24) := by rw [← hD]; exact kT0.out
          have kO : wD.heap[NO]? = some (Obj.cells #[.int .i64 s, .int .i64 r, .slice ao5 m c5] 24) := by rw [← hD]; exact kO0.out
          have hR : wD.ownsRow (NO + 1) 2 1 (.slice ao5 m c5) (tab (fun k => dotK ws (dig s k q) q % s) m).length ((tab (fun k => dotK ws (dig s k q) q % s) m).map (Value.int .i64)) := by rw [← hD]; exact hR0.out
          clear hD st0
          (refine wpAnyH_take (i := 0) (v := ?_) rfl ?_ ?_ ?_ (fun _ _ _ h => h) (Or.inl ⟨?_, ?_⟩) ?_ ?_; rotate_left 1; (focus decide +kernel); (focus decide +kernel); (focus decide +kernel); (focus rfl); (focus (intro w hSw; (try dsimp only at hSw); go_simp; (try (with_reducible rfl)); done)); (focus assumption); (try simp only [Act.put, List.setIfInBounds_toArray, List.set_cons_zero, List.set_cons_succ, List.getElem_toArray, List.getElem_cons_succ, List.getElem_cons_zero]))
          (refine wpAnyH_take (i := 2) (v := ?_) rfl ?_ ?_ ?_ (fun _ _ _ h => h) (Or.inl ⟨?_, ?_⟩) ?_ ?_; rotate_left 1; (focus decide +kernel); (focus decide +kernel); (focus decide +kernel); (focus rfl); (focus (intro w hSw; (try dsimp only at hSw); go_simp; (try (with_reducible rfl)); done)); (focus assumption); (try simp only [Act.put, List.setIfInBounds_toArray, List.set_cons_zero, List.set_cons_succ, List.getElem_toArray, List.getElem_cons_succ, List.getElem_cons_zero]))
          (refine wpAnyH_take (i := 3) (v := ?_) rfl ?_ ?_ ?_ (fun _ _ _ h => h) (Or.inl ⟨?_, ?_⟩) ?_ ?_; rotate_left 1; (focus decide +kernel); (focus decide +kernel); (focus decide +kernel); (focus rfl); (focus (intro w hSw; (try dsimp only at hSw); go_simp; (try (with_reducible rfl)); done)); (focus assumption); (try simp only [Act.put, List.setIfInBounds_toArray, List.set_cons_zero, List.set_cons_succ, List.getElem_toArray, List.getElem_cons_succ, List.getElem_cons_zero]))
          (refine wpAnyH_take (i := 4) (v := ?_) rfl ?_ ?_ ?_ (fun _ _ _ h => h) (Or.inl ⟨?_, ?_⟩) ?_ ?_; rotate_left 1; (focus decide +kernel); (focus decide +kernel); (focus decide +kernel); (focus rfl); (focus (intro w hSw; (try dsimp only at hSw); go_simp; (try (with_reducible rfl)); done)); (focus assumption); (try simp only [Act.put, List.setIfInBounds_toArray, List.set_cons_zero, List.set_cons_succ, List.getElem_toArray, List.getElem_cons_succ, List.getElem_cons_zero]))
          refine wpAnyH_ready (rs := [1, 5]) ?_ (by simp) ?_
          · decide +kernel
          refine AllReadyH.cons rfl (fun K hK => ?_) (AllReadyH.cons rfl (fun K hK => ?_) AllReadyH.nil)
          · have kv : wD.cell? ⟨NO, 2, none⟩ = some (.slice ao5 m c5) := Go.Joins.cell_of_block (kO) 2
            go_simp
            refine hK.out _ _ ?_ (fun hHeld => ?_)
            · (try dsimp only); exact hHeld
            clear hK K kv
            (try simp only [Act.put, List.setIfInBounds_toArray, List.set_cons_zero, List.set_cons_succ, List.getElem_toArray, List.getElem_cons_succ, List.getElem_cons_zero])
            refine wpAnyH_ready (rs := [5]) ?_ (by simp) ?_
            · decide +kernel
            refine AllReadyH.cons rfl (fun K hK => ?_) AllReadyH.nil
            go_simp
            refine hK.out _ _ ?_ (fun hHeld2 => ?_)
            · (try dsimp only); have bel := below1 wD (Obj.cells #[.int .i64 Z] 2); exact hHeld.trans (bel.mono hHeld.size)
            clear hK K
            have hHeld1 := hHeld
            clear hHeld
            have hHeld := hHeld2
            clear hHeld2
            (try simp only [Act.put, List.setIfInBounds_toArray, List.set_cons_zero, List.set_cons_succ, List.getElem_toArray, List.getElem_cons_succ, List.getElem_cons_zero])
            refine wpAnyH_ready (rs := [6]) ?_ (by simp) ?_
            · decide +kernel
            refine AllReadyH.cons rfl (fun K hK => ?_) AllReadyH.nil
            refine op_append1 rfl _ _ rfl (NO + 1) _ _ rfl hR Z rfl ?c1 ?c2 ?_
            case c1 => rw [tab_length]; omega
            case c2 => exact (Array.getElem?_eq_some_iff.1 kO).1
            intro v' w5 hown5 hbel5 _
            have kO5 := (hbel5.block NO (Nat.lt_succ_self NO)).trans kO
            have kT5 := (hbel5.block _ (Nat.lt_of_lt_of_le HTO.out (Nat.le_succ NO))).trans kT
            have bel : Below w.heap.size wD w5 := hbel5.mono (by have := HNO.out; omega)
            refine hK.out _ _ ?_ (fun hHeld3 => ?_)
            · (try dsimp only); exact hHeld1.trans bel
            clear hK K hHeld hHeld1
            obtain ⟨b5, hb5, ho5⟩ := Own.of hown5
            rcases ho5.form with ⟨_, he⟩ | ⟨c6, rfl, _, _, _⟩
            · exact absurd he (by simp)
            rw [show (tab (fun k => dotK ws (dig s k q) q % s) m ++ [Z]).length = m + 1 by simp [tab_length]] at hown5 ⊢
            have hHeld := hHeld3
            clear hHeld3 bel ho5 hbel5
            (try simp only [Act.put, List.setIfInBounds_toArray, List.set_cons_zero, List.set_cons_succ, List.getElem_toArray, List.getElem_cons_succ, List.getElem_cons_zero])
            (refine wpAnyH_take (i := 7) (v := ?_) rfl ?_ ?_ ?_ (fun _ _ _ h => h) (Or.inl ⟨?_, ?_⟩) ?_ ?_; rotate_left 1; (focus decide +kernel); (focus decide +kernel); (focus decide +kernel); (focus rfl); (focus (intro w hSw; (try dsimp only at hSw); go_simp; (try (with_reducible rfl)); done)); (focus assumption); (try simp only [Act.put, List.setIfInBounds_toArray, List.set_cons_zero, List.set_cons_succ, List.getElem_toArray, List.getElem_cons_succ, List.getElem_cons_zero]))
            refine wpAnyH_ready (rs := [8]) ?_ (by simp) ?_
            · decide +kernel
            refine AllReadyH.cons rfl (fun K hK => ?_) AllReadyH.nil
            have y2 : w5.cell? ⟨NO, 2, none⟩ = some (.slice ao5 m c5) := Go.Joins.cell_of_block kO5 2
            have g2 : w5.frozen? ⟨NO, 2, none⟩ = false := Go.Joins.unfrozen_of_block kO5 2
            go_simp
            have kOs := Go.Joins.block_setCell (i := 2) kO5 (.slice (some ⟨b5, 0, none⟩) (m + 1) c6)
            have hRs := rows_set hown5 ⟨NO, 2, none⟩ (.slice (some ⟨b5, 0, none⟩) (m + 1) c6) (Nat.lt_succ_self NO)
            have kTs := (Below.heap_setCell w5 ⟨NO, 2, none⟩ (.slice (some ⟨b5, 0, none⟩) (m + 1) c6) _ (Nat.ne_of_lt HTO.out)).trans kT5
            have bel : Below w.heap.size w5 (w5.setCell ⟨NO, 2, none⟩ (.slice (some ⟨b5, 0, none⟩) (m + 1) c6)) := (Below.refl _ _).setCell (by have := HNO.out; simp; omega) _
            obtain ⟨wS, hW⟩ : ∃ wS, wS = w5.setCell ⟨NO, 2, none⟩ (.slice (some ⟨b5, 0, none⟩) (m + 1) c6) := ⟨_, rfl⟩
            rw [← hW] at kOs hRs bel kTs
            refine hK.out _ _ ?_ (fun hHeld4 => ?_)
            · (try dsimp only); rw [← hW]; exact hHeld.trans bel
            clear hK K
            simp only [← hW] at hHeld4 ⊢
            clear hW y2 g2
            (try simp only [Act.put, List.setIfInBounds_toArray, List.set_cons_zero, List.set_cons_succ, List.getElem_toArray, List.getElem_cons_succ, List.getElem_cons_zero])
            refine wpAnyH_done (by kernel_rfl) ?_ _
            have hBs := hHeld4
            clear hHeld4
            go_wp2
            go_roundw
            case rel =>
              refine ⟨m + 1, by omega, by go_num, hBs, kTs, some ⟨b5, 0, none⟩, c6, kOs, ?_⟩
              rw [HT.out, List.map_append, List.length_append]
              simpa [tab_length] using hRs
            case measure => simp [intOf]; omega
          · go_simp
            refine hK.out _ _ ?_ (fun hHeld2 => ?_)
            · (try dsimp only); have bel := below1 wD (Obj.cells #[.int .i64 Z] 2); exact hHeld.trans (bel.mono hHeld.size)
            clear hK K
            have hHeld1 := hHeld
            clear hHeld
            have hHeld := hHeld2
            clear hHeld2
            (try simp only [Act.put, List.setIfInBounds_toArray, List.set_cons_zero, List.set_cons_succ, List.getElem_toArray, List.getElem_cons_succ, List.getElem_cons_zero])
            refine wpAnyH_ready (rs := [1]) ?_ (by simp) ?_
            · decide +kernel
            refine AllReadyH.cons rfl (fun K hK => ?_) AllReadyH.nil
            have kv : (wD.alloc (Obj.cells #[.int .i64 Z] 2)).cell? ⟨NO, 2, none⟩ = some (.slice ao5 m c5) := Go.Joins.cell_of_block (heap_old kO) 2
            go_simp
            refine hK.out _ _ ?_ (fun hHeld => ?_)
            · (try dsimp only); exact hHeld
            clear hK K kv
            (try simp only [Act.put, List.setIfInBounds_toArray, List.set_cons_zero, List.set_cons_succ, List.getElem_toArray, List.getElem_cons_succ, List.getElem_cons_zero])
            refine wpAnyH_ready (rs := [6]) ?_ (by simp) ?_
            · decide +kernel
            refine AllReadyH.cons rfl (fun K hK => ?_) AllReadyH.nil
            refine op_append1 rfl _ _ rfl (NO + 1) _ _ rfl hR Z rfl ?c1 ?c2 ?_
            case c1 => rw [tab_length]; omega
            case c2 => exact (Array.getElem?_eq_some_iff.1 kO).1
            intro v' w5 hown5 hbel5 _
            have kO5 := (hbel5.block NO (Nat.lt_succ_self NO)).trans kO
            have kT5 := (hbel5.block _ (Nat.lt_of_lt_of_le HTO.out (Nat.le_succ NO))).trans kT
            have bel : Below w.heap.size wD w5 := hbel5.mono (by have := HNO.out; omega)
            refine hK.out _ _ ?_ (fun hHeld3 => ?_)
            · (try dsimp only); exact hHeld1.trans bel
            clear hK K hHeld hHeld1
            obtain ⟨b5, hb5, ho5⟩ := Own.of hown5
            rcases ho5.form with ⟨_, he⟩ | ⟨c6, rfl, _, _, _⟩
            · exact absurd he (by simp)
            rw [show (tab (fun k => dotK ws (dig s k q) q % s) m ++ [Z]).length = m + 1 by simp [tab_length]] at hown5 ⊢
            have hHeld := hHeld3
            clear hHeld3 bel ho5 hbel5
            (try simp only [Act.put, List.setIfInBounds_toArray, List.set_cons_zero, List.set_cons_succ, List.getElem_toArray, List.getElem_cons_succ, List.getElem_cons_zero])
            (refine wpAnyH_take (i := 7) (v := ?_) rfl ?_ ?_ ?_ (fun _ _ _ h => h) (Or.inl ⟨?_, ?_⟩) ?_ ?_; rotate_left 1; (focus decide +kernel); (focus decide +kernel); (focus decide +kernel); (focus rfl); (focus (intro w hSw; (try dsimp only at hSw); go_simp; (try (with_reducible rfl)); done)); (focus assumption); (try simp only [Act.put, List.setIfInBounds_toArray, List.set_cons_zero, List.set_cons_succ, List.getElem_toArray, List.getElem_cons_succ, List.getElem_cons_zero]))
            refine wpAnyH_ready (rs := [8]) ?_ (by simp) ?_
            · decide +kernel
            refine AllReadyH.cons rfl (fun K hK => ?_) AllReadyH.nil
            have y2 : w5.cell? ⟨NO, 2, none⟩ = some (.slice ao5 m c5) := Go.Joins.cell_of_block kO5 2
            have g2 : w5.frozen? ⟨NO, 2, none⟩ = false := Go.Joins.unfrozen_of_block kO5 2
            go_simp
            have kOs := Go.Joins.block_setCell (i := 2) kO5 (.slice (some ⟨b5, 0, none⟩) (m + 1) c6)
            have hRs := rows_set hown5 ⟨NO, 2, none⟩ (.slice (some ⟨b5, 0, none⟩) (m + 1) c6) (Nat.lt_succ_self NO)
            have kTs := (Below.heap_setCell w5 ⟨NO, 2, none⟩ (.slice (some ⟨b5, 0, none⟩) (m + 1) c6) _ (Nat.ne_of_lt HTO.out)).trans kT5
            have bel : Below w.heap.size w5 (w5.setCell ⟨NO, 2, none⟩ (.slice (some ⟨b5, 0, none⟩) (m + 1) c6)) := (Below.refl _ _).setCell (by have := HNO.out; simp; omega) _
            obtain ⟨wS, hW⟩ : ∃ wS, wS = w5.setCell ⟨NO, 2, none⟩ (.slice (some ⟨b5, 0, none⟩) (m + 1) c6) := ⟨_, rfl⟩
            rw [← hW] at kOs hRs bel kTs
            refine hK.out _ _ ?_ (fun hHeld4 => ?_)
            · (try dsimp only); rw [← hW]; exact hHeld.trans bel
            clear hK K
            simp only [← hW] at hHeld4 ⊢
            clear hW y2 g2
            (try simp only [Act.put, List.setIfInBounds_toArray, List.set_cons_zero, List.set_cons_succ, List.getElem_toArray, List.getElem_cons_succ, List.getElem_cons_zero])
            refine wpAnyH_done (by kernel_rfl) ?_ _
            have hBs := hHeld4
            clear hHeld4
            go_wp2
            go_roundw
            case rel =>
              refine ⟨m + 1, by omega, by go_num, hBs, kTs, some ⟨b5, 0, none⟩, c6, kOs, ?_⟩
              rw [HT.out, List.map_append, List.length_append]
              simpa [tab_length] using hRs
            case measure => simp [intOf]; omega
    · have hkn : m = M := by omega
      subst hkn
      have HB0 := hid bel0
      have HR0 := hid hR
      have x0 : wr.cell? ⟨NO, 0, none⟩ = some (.int .i64 s) := Go.Joins.cell_of_block kO 0
      have x1 : wr.cell? ⟨NO, 1, none⟩ = some (.int .i64 r) := Go.Joins.cell_of_block kO 1
      have x2 : wr.cell? ⟨NO, 2, none⟩ = some (.slice ao5 m c5) := Go.Joins.cell_of_block kO 2
      have y0 : wr.cell? ⟨NT, 0, none⟩ = some (.int .i64 0) := Go.Joins.cell_of_block kT 0
      have y1 : wr.cell? ⟨NT, 1, none⟩ = some (.int .i64 0) := Go.Joins.cell_of_block kT 1
      have y2 : wr.cell? ⟨NT, 2, none⟩ = some (.slice none 0 0) := Go.Joins.cell_of_block kT 2
      have g0 : wr.frozen? ⟨NT, 0, none⟩ = false := Go.Joins.unfrozen_of_block kT 0
      have g1 : wr.frozen? ⟨NT, 1, none⟩ = false := Go.Joins.unfrozen_of_block kT 1
      have g2 : wr.frozen? ⟨NT, 2, none⟩ = false := Go.Joins.unfrozen_of_block kT 2
      have HK := hid kT
      clear bel0 hR kT kO
      go_wp2_with fail
      go_at_call 62
      refine hpw.mono ?_
      clear hpw
      rintro e w' ⟨rfl, hw'⟩
      subst hw'
      go_wp2
      obtain ⟨W5, hW⟩ : ∃ W5, W5 = (((wr.setCell { block := NT, off := 0 } (Value.int IntKind.i64 s)).setCell { block := NT, off := 1 } (Value.int IntKind.i64 r)).setCell { block := NT, off := 2 } (Value.slice ao5 m c5)) := ⟨_, rfl⟩
      have q0 := Go.Joins.block_setCell (Go.Joins.block_setCell (Go.Joins.block_setCell (i := 0) HK.out (Value.int IntKind.i64 s)) (i := 1) (Value.int IntKind.i64 r)) (i := 2) (Value.slice ao5 m c5)
      rw [← hW] at q0
      have z0 : W5.cell? ⟨NT, 0, none⟩ = some (.int .i64 s) := Go.Joins.cell_of_block q0 0
      have z1 : W5.cell? ⟨NT, 1, none⟩ = some (.int .i64 r) := Go.Joins.cell_of_block q0 1
      have z2 : W5.cell? ⟨NT, 2, none⟩ = some (Value.slice ao5 m c5) := Go.Joins.cell_of_block q0 2
      have O5 := rows_set (rows_set (rows_set HR0.out ⟨NT, 0, none⟩ (Value.int IntKind.i64 s) (Nat.lt_succ_of_lt HTO.out)) ⟨NT, 1, none⟩ (Value.int IntKind.i64 r) (Nat.lt_succ_of_lt HTO.out)) ⟨NT, 2, none⟩ (Value.slice ao5 m c5) (Nat.lt_succ_of_lt HTO.out)
      have B5 : Below w.heap.size w W5 := by
        have h1 := HNT.out
        rw [hW]
        exact ((HB0.out.setCell (by simp; omega) _).setCell (by simp; omega) _).setCell (by simp; omega) _
      rw [← hW] at O5
      simp only [← hW]
      clear hW q0
      obtain ⟨b', hb', o'⟩ := Own.of O5
      simp [bodyPost, results, Try.results71, go_sem, z0, z1, z2]
      exact ⟨b', o', by have := HNO.out; omega, B5⟩

end Go.Proofs.Ytiijabiijkdhcaa.Weigh
