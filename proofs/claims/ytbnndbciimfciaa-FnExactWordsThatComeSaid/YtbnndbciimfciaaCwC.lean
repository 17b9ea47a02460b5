/- Words that come behind steps: impl.comingWords. -/
import Derived.Test.YtbnndbciimfciaaRpb
import Derived.Test.YtbnndbciimfciaaFew
namespace Go.Proofs.Ytbnndbciimfciaa.CwC
open Go.RowKit Go.Proofs.Ytbnndbciimfciaa.Rd Go.Proofs.Ytbnndbciimfciaa.Help Go.Proofs.Ytbnndbciimfciaa.Ring Go.Proofs.Ytbnndbciimfciaa.Small Go.Proofs.Ytbnndbciimfciaa.Num Go.Proofs.Ytbnndbciimfciaa.Keep Go.Proofs.Ytbnndbciimfciaa.Rule Go.Proofs.Ytbnndbciimfciaa.Dig Go.Proofs.Ytbnndbciimfciaa.DigP Go.Proofs.Ytbnndbciimfciaa.CwP Go.Proofs.Ytbnndbciimfciaa.CwI Go.Proofs.Ytbnndbciimfciaa.Rdb Go.Proofs.Ytbnndbciimfciaa.Rpb Go.Proofs.Ytbnndbciimfciaa.Few
set_option linter.unusedVariables false
set_option linter.unusedSimpArgs false

theorem ownB_set {E : TypeId} {w : World} {b n cap : Nat} {zs : List Bool} (h : OwnB E w b (.slice (some ⟨b, 0, none⟩) n cap) zs) (a : Addr) (v : Value) (hne : b ≠ a.block) : OwnB E (w.setCell a v) b (.slice (some ⟨b, 0, none⟩) n cap) zs := by
  obtain ⟨⟨h1, h2⟩, h3⟩ := h
  refine ⟨⟨h1, ?_⟩, h3⟩
  rcases h2 with h2 | ⟨g, cp, cur, h2, hb, hg, r⟩
  · exact .inl h2
  · have e : b = g := by simp at h2; exact h2.1
    exact .inr ⟨g, cp, cur, h2, hb, (Below.heap_setCell w a v g (by rw [← e]; exact hne)).trans hg, r⟩
set_option maxHeartbeats 8000000 in
set_option maxRecDepth 100000 in
theorem comingWords {w : World} {s : Int} {R n T A : Nat} {bt : Nat} {vt : Value} {tbl : List Int} (hk : Ok tbl s (R : Int)) (ht : Rd w bt vt tbl) (hn : 1 ≤ n ∧ T ≤ 4) (hA : A = n + 2 * R * T) (hf : Few s A) :
    Calls Try.prog 21 #[ruleV s (R : Int) vt, .int .i64 (n : Int), .int .i64 (T : Int)] w fun e w' => ∃ bC, e = .returned (.slice (some ⟨bC, 0, none⟩) (pw s n) (pw s n)) ∧ OwnB 4 w' bC (.slice (some ⟨bC, 0, none⟩) (pw s n) (pw s n)) (lo (pw s n) (cm tbl s (R : Int) A T)) ∧ Below w.heap.size w w' := by
  have HK := hid hk
  have HT := hid ht
  have HF := hid hf
  have hs := hk.st
  have hr := hk.re
  obtain ⟨ao, cap, rfl, hc, hm, h4⟩ := ht
  have hN0 : 0 < tbl.length := by have h1 := hk.len; have h2 := pow_pos' hs (2 * (R : Int) + 1).toNat; omega
  obtain ⟨off, rfl, hb, hcell⟩ := h4 hN0
  obtain ⟨N, hN⟩ : ∃ N, N = tbl.length := ⟨_, rfl⟩
  rw [← hN] at HT ⊢
  have hA16 := few16 hf
  have hR2 : R ≤ 2 := by omega
  obtain ⟨Q, hQ⟩ : ∃ Q, Q = 2 * R * T := ⟨_, rfl⟩
  have hQi : 2 * (R : Int) * (T : Int) = (Q : Int) := by rw [hQ]; simp
  have HQ : Hid (A = n + Q ∧ Q = 2 * R * T ∧ A ≤ 16 ∧ R ≤ 2 ∧ 1 ≤ n ∧ T ≤ 4) := ⟨by rw [hA, hQ], hQ, hA16, hR2, hn.1, hn.2⟩
  have HW1 : Hid (wrap64 (2 * (R : Int)) = 2 * (R : Int)) := wrap_id (by omega) (by omega)
  have hQ20 : Q ≤ 16 := by have := HQ.out; omega
  have HW4 : Hid (wrap64 (Q : Int) = (Q : Int)) := wrap_id (by omega) (by omega)
  have hnQ : (n : Int) + (Q : Int) = (A : Int) := by have := HQ.out; omega
  have HW3 : Hid (wrap64 ((n : Int) + (Q : Int)) = (A : Int)) := by simp only [Hid]; rw [hnQ]; exact wrap_id (by omega) (by omega)
  clear hnQ hQ20
  clear hc hm h4 hb hcell hN hs hr hN0 hA hn hf hQ hA16 hk
  have hw1 := HW1.out
  have hw3 := HW3.out
  have hw4 := HW4.out
  go_enter Try.func21, Try.ntmps21
  go_wp2_with fail
  obtain ⟨w1, hW⟩ : ∃ x, x = (w.alloc (Obj.cells #[.int .i64 s, .int .i64 (R : Int), (.slice (some ⟨bt, off, none⟩) N cap)] 28)).alloc (Obj.cells #[.bool true] 4) := ⟨_, rfl⟩
  obtain ⟨NR, hNR⟩ : ∃ x, x = w.heap.size := ⟨_, rfl⟩
  obtain ⟨b1, hb1⟩ : ∃ x, x = NR + 1 := ⟨_, rfl⟩
  have HB1 : Hid (Below w.heap.size w w1) := by simp only [Hid]; rw [hW]; exact Go.Joins.below_alloc2 _ _ _
  have KR1 : Hid (w1.heap[NR]? = some (Obj.cells #[.int .i64 s, .int .i64 (R : Int), (.slice (some ⟨bt, off, none⟩) N cap)] 28)) := by simp only [Hid]; rw [hW]; exact FNew.heap_old (FNew.heap_top hNR)
  have k1 : w1.heap[b1]? = some (Obj.cells #[.bool true] 4) := by rw [hW]; exact FNew.heap_top (by rw [hb1, hNR]; simp)
  have R1 : Hid (RdB w1 b1 (.slice (some ⟨b1, 0, none⟩) 1 1) [true]) := ⟨_, 1, rfl, by simp, by unfold maxLen; decide, fun _ => ⟨0, rfl, Box.heap_lt k1, fun i hi => by
    have : i = 0 := by simp at hi; omega
    subst this
    have := Go.Joins.cell_of_block k1 0
    simpa using this⟩⟩
  have HNR : Hid (w.heap.size ≤ NR) := by simp only [Hid]; omega
  simp only [← hW]
  simp only [← hNR]
  simp only [← hb1]
  clear hW hNR hb1 k1 hw1 hw3 hw4 hQi hR2
  go_at_call 33
  refine (powN HK.out.st HQ.out.2.2.1).mono ?_
  rw [← pw_cast HK.out.st A]
  rintro e w2 ⟨rfl, rfl⟩
  go_wp2_with fail
  go_at_call 32
  refine (repeatB R1.out (few_pw HF.out)).mono ?_
  rintro e w3 ⟨bO, rfl, oO, hlo, bel⟩
  have KR3 := hid (Box.heap_keep bel KR1.out)
  have HB3 := hid (HB1.out.trans (bel.mono HB1.out.size))
  have O3 : Hid (OwnB 4 w3 bO (.slice (some ⟨bO, 0, none⟩) (pw s A) (pw s A)) (lo (pw s A) (cm tbl s (R : Int) A 0))) := by
    simp only [Hid]; rw [← cm_zero HK.out.st A, ← lo_true]; exact oO
  clear bel oO hlo
  go_wp2
  go_loopw [7, 8, 27] (fun vL vC i wr => ∃ (t Lt bC : Nat), t ≤ T ∧ Lt = A - 2 * R * t ∧ vL = .int .i64 (Lt : Int) ∧ vC = (.slice (some ⟨bC, 0, none⟩) (pw s Lt) (pw s Lt)) ∧ i = .int .i64 (t : Int) ∧ Below w.heap.size w wr ∧ wr.heap[NR]? = some (Obj.cells #[.int .i64 s, .int .i64 (R : Int), (.slice (some ⟨bt, off, none⟩) N cap)] 28) ∧ OwnB 4 wr bC (.slice (some ⟨bC, 0, none⟩) (pw s Lt) (pw s Lt)) (lo (pw s Lt) (cm tbl s (R : Int) A t))) (fun _ _ i _ => T - (intOf i).toNat)
  case atStart => exact ⟨0, A, bO, Nat.zero_le _, by simp, by rw [HW3.out], rfl, rfl, HB3.out, KR3.out, O3.out⟩
  case round =>
    clear HB3 KR3 O3
    obtain ⟨t, Lt, bC, htT, hLt, rfl, rfl, rfl, hB, hR, hO⟩ := hrel
    have KB := hid hB
    have KR := hid hR
    have KO := hid hO
    have HLt := hid hLt
    clear hB hR hO
    by_cases hlt : t < T
    · obtain ⟨Ls, hLs⟩ : ∃ Ls, Ls = Lt - 2 * R := ⟨_, rfl⟩
      have hQQ : 2 * R * (t + 1) ≤ Q := by rw [HQ.out.2.1]; exact Nat.mul_le_mul_left _ (by omega)
      have hexp : 2 * R * (t + 1) = 2 * R * t + 2 * R := by rw [Nat.mul_add, Nat.mul_one]
      have HLL : Hid (Lt ≤ A ∧ A ≤ 16 ∧ 2 * R + 1 ≤ Lt ∧ Ls + 2 * R = Lt ∧ 1 ≤ Ls ∧ Ls = A - 2 * R * (t + 1) ∧ (2 * (R : Int) + 1).toNat = 2 * R + 1) := by
        have := HQ.out
        simp only [Hid]; omega
      have hLsi : (Lt : Int) - 2 * (R : Int) = (Ls : Int) := by have := HLL.out; omega
      have hR2 : R ≤ 2 := HQ.out.2.2.2.1
      have hLt16 : Lt ≤ 16 := by have := HLL.out; omega
      have hT4 : t < 4 := by have := HQ.out; omega
      have r0 := Go.Joins.cell_of_block KR.out 0
      have r1 := Go.Joins.cell_of_block KR.out 1
      have r2 := Go.Joins.cell_of_block KR.out 2
      simp only [List.getElem?_toArray, List.getElem?_cons_zero, List.getElem?_cons_succ] at r0 r1 r2
      obtain ⟨PL, hPL⟩ : ∃ PL, PL = pw s Lt := ⟨_, rfl⟩
      obtain ⟨PM, hPM⟩ : ∃ PM, PM = pw s Ls := ⟨_, rfl⟩
      have HPL := hid hPL
      have HPM := hid hPM
      have hPLb := few_bd (few_le HF.out (show Lt ≤ A by have := HLL.out; omega))
      have hPMb := few_bd (few_le HF.out (show Ls ≤ A by have := HLL.out; omega))
      rw [← hPL] at hPLb KO ⊢
      rw [← hPM] at hPMb
      have hmk := run_make_row' (P := Try.prog) 41 4 (.bool false) 1 Try.underlying41 infoB rfl .i64 .i64 PM (by omega) (by omega)
      obtain ⟨CL, hCL⟩ : ∃ CL, CL = lo PL (cm tbl s (R : Int) A t) := ⟨_, rfl⟩
      rw [← hCL] at KO
      have HCLd := hid hCL
      obtain ⟨wn, hwn⟩ : ∃ x, x = wr := ⟨_, rfl⟩
      rw [← hwn] at KB KR KO r0 r1 r2 ⊢
      clear hwn hLs hQQ hexp hPL hPM hCL htT hLt
      go_wp2_with fail
      go_at_call 33
      refine (powN HK.out.st (by have := HLL.out; omega)).mono ?_
      rw [← pw_cast HK.out.st Ls, ← HPM.out]
      rintro e w4 ⟨rfl, rfl⟩
      go_wp2
      obtain ⟨w5, hW⟩ : ∃ x, x = wn.alloc (Obj.cells (madeCells #[.bool false] PM) 4) := ⟨_, rfl⟩
      obtain ⟨bN, hbN⟩ : ∃ x, x = wn.heap.size := ⟨_, rfl⟩
      have oT : OwnB 4 w5 bN (.slice (some ⟨bN, 0, none⟩) PM PM) (List.replicate PM false) := by
        have := OwnB.made 4 wn PM (by unfold maxLen; omega)
        rw [hW, hbN]; exact this
      have bel : Below wn.heap.size wn w5 := by rw [hW]; exact below1 _ _
      have HNE : Hid (bN ≠ NR ∧ bC ≠ bN ∧ w.heap.size ≤ bN) := by
        have h1 := Box.heap_lt KR.out
        have h2 := KO.out.lt
        have h3 := KB.out.size
        simp only [Hid]; omega
      have KR5 := hid (Box.heap_keep bel KR.out)
      have KC5 := hid (KO.out.keep bel)
      have KB5 := hid (KB.out.trans (bel.mono KB.out.size))
      have OT : Hid (OwnB 4 w5 bN (.slice (some ⟨bN, 0, none⟩) PM PM) (lo PM (fun j => ∃ i', i' < 0 ∧ cm tbl s (R : Int) A t i' ∧ numN s (nextW tbl s (R : Int) (dig s (i' : Int) Lt)) = j))) := by
        have e : lo PM (fun j => ∃ i', i' < 0 ∧ cm tbl s (R : Int) A t i' ∧ numN s (nextW tbl s (R : Int) (dig s (i' : Int) Lt)) = j) = List.replicate PM false := by
          rw [lo_false]; exact lo_congr (fun j _ => ⟨fun ⟨i', h, _⟩ => absurd h (by omega), fun h => h.elim⟩)
        simp only [Hid]; rw [e]; exact oT
      simp only [← hW, ← hbN]
      clear hW hbN oT bel hmk KB KR KO r0 r1 r2
      go_loopw [41] (fun i wx => ∃ k : Nat, k ≤ PL ∧ i = .int .i64 (k : Int) ∧ Below w.heap.size w wx ∧ wx.heap[NR]? = some (Obj.cells #[.int .i64 s, .int .i64 (R : Int), (.slice (some ⟨bt, off, none⟩) N cap)] 28) ∧ OwnB 4 wx bC (.slice (some ⟨bC, 0, none⟩) PL PL) CL ∧ OwnB 4 wx bN (.slice (some ⟨bN, 0, none⟩) PM PM) (lo PM (fun j => ∃ i', i' < k ∧ cm tbl s (R : Int) A t i' ∧ numN s (nextW tbl s (R : Int) (dig s (i' : Int) Lt)) = j))) (fun i _ => PL - (intOf i).toNat)
      case atStart => exact ⟨0, Nat.zero_le _, rfl, KB5.out, KR5.out, KC5.out, OT.out⟩
      case round =>
        clear KB5 KR5 KC5 OT
        obtain ⟨i, hi, rfl, hB, hR, hC, hO⟩ := hrel
        have KB := hid hB
        have KR := hid hR
        have KC := hid hC
        by_cases hlti : i < PL
        · obtain ⟨c, hc⟩ : ∃ c, c = CL.getD i false := ⟨_, rfl⟩
          have y0 := hC.cell (i := i) (by rw [HCLd.out, lo_length]; exact hlti)
          rw [← hc] at y0
          have hii : (i : Int) < (PL : Int) := by omega
          have HI : Hid (i < PL ∧ PL ≤ 19683) := ⟨hlti, hPLb.2⟩
          have HCM : Hid (c = true ↔ cm tbl s (R : Int) A t i) := by simp only [Hid]; rw [hc, HCLd.out]; exact lo_get hlti
          cases c with
          | true =>
            have HXB : Hid (0 ≤ (i : Int) ∧ (i : Int) ≤ 1000000000) := by simp only [Hid]; omega
            obtain ⟨jx, hjx⟩ : ∃ jx, jx = numN s (nextW tbl s (R : Int) (dig s (i : Int) Lt)) := ⟨_, rfl⟩
            have hda := dig_all HK.out.st (i : Int) Lt
            have hna := nextW_all HK.out hda
            have HJ : Hid ((jx : Int) = numL (nextW tbl s (R : Int) (dig s (i : Int) Lt)) s) := by simp only [Hid]; rw [hjx]; exact num_cast HK.out.st hna
            have HJL : Hid (jx < PM) := by
              have h5 := num_lt HK.out.st hna
              rw [nextW_length, dig_length] at h5
              simp only [Hid]; rw [hjx, HPM.out]
              have e2 : Lt - (2 * (R : Int)).toNat = Ls := by have := HLL.out; omega
              rw [e2] at h5; exact h5
            obtain ⟨NL, hNL⟩ : ∃ NL, NL = lo PM (fun j => ∃ i', i' < i ∧ cm tbl s (R : Int) A t i' ∧ numN s (nextW tbl s (R : Int) (dig s (i' : Int) Lt)) = j) := ⟨_, rfl⟩
            have HNLl : Hid (NL.length = PM) := by simp only [Hid]; rw [hNL]; exact lo_length _ _
            have HSET : Hid (NL.set jx true = lo PM (fun j => ∃ i', i' < i + 1 ∧ cm tbl s (R : Int) A t i' ∧ numN s (nextW tbl s (R : Int) (dig s (i' : Int) Lt)) = j)) := by
              simp only [Hid]
              rw [hNL, lo_set HJL.out]
              refine lo_congr (fun j _ => ⟨?_, ?_⟩)
              · rintro (⟨i', h1, h2⟩ | h1)
                · exact ⟨i', by omega, h2⟩
                · exact ⟨i, by omega, HCM.out.1 rfl, by rw [h1, hjx]⟩
              · rintro ⟨i', h1, h2, h3⟩
                rcases Nat.lt_or_ge i' i with h4 | h4
                · exact .inl ⟨i', h4, h2, h3⟩
                · have : i' = i := by omega
                  subst this
                  exact .inr (by rw [← h3, hjx])
            rw [← hNL] at hO
            have st : Below w.heap.size w wr.drew ∧ wr.drew.heap[NR]? = some (Obj.cells #[.int .i64 s, .int .i64 (R : Int), (.slice (some ⟨bt, off, none⟩) N cap)] 28) ∧ OwnB 4 wr.drew bC (.slice (some ⟨bC, 0, none⟩) PL PL) CL ∧ OwnB 4 wr.drew bN (.slice (some ⟨bN, 0, none⟩) PM PM) NL :=
              ⟨hB.drew, hR, hC.keep (Go.Proofs.Ytbnndbciimfciaa.Help.below_drewN _ _ 1), hO.keep (Go.Proofs.Ytbnndbciimfciaa.Help.below_drewN _ _ 1)⟩
            have r0 := Go.Joins.cell_of_block hR 0
            have r1 := Go.Joins.cell_of_block hR 1
            have r2 := Go.Joins.cell_of_block hR 2
            simp only [List.getElem?_toArray, List.getElem?_cons_zero, List.getElem?_cons_succ] at r0 r1 r2
            have hjM : (jx : Int) < (PM : Int) := by have := HJL.out; omega
            clear hB hR hC hO hc hjx hda hna hNL hi
            go_upto_region 11 with fail
            refine wp_region_held_drew (S := (fun ww => ww.cell? ⟨NR, 0, none⟩ = some (.int .i64 s) ∧ ww.cell? ⟨NR, 1, none⟩ = some (.int .i64 (R : Int)) ∧ ww.cell? ⟨NR, 2, none⟩ = some (.slice (some ⟨bt, off, none⟩) N cap))) (by kernel_rfl) ?_ (fun hHeld => ?_)
            · ((try dsimp only); exact ⟨r0, r1, r2⟩)
            (refine wpAnyH_take (i := 0) (v := ?_) rfl ?_ ?_ ?_ (fun _ _ _ h => h) (Or.inl ⟨?_, ?_⟩) ?_ ?_; rotate_left 1; (focus decide +kernel); (focus decide +kernel); (focus decide +kernel); (focus rfl); (focus (intro w hSw; (try dsimp only at hSw); go_simp; (try (with_reducible rfl)); done)); (focus assumption); (try simp only [Act.put, List.setIfInBounds_toArray, List.set_cons_zero, List.set_cons_succ, List.getElem_toArray, List.getElem_cons_succ, List.getElem_cons_zero]))
            (refine wpAnyH_take (i := 1) (v := ?_) rfl ?_ ?_ ?_ (fun _ _ _ h => h) (Or.inl ⟨?_, ?_⟩) ?_ ?_; rotate_left 1; (focus decide +kernel); (focus decide +kernel); (focus decide +kernel); (focus rfl); (focus (intro w hSw; (try dsimp only at hSw); go_simp; (try (with_reducible rfl)); done)); (focus assumption); (try simp only [Act.put, List.setIfInBounds_toArray, List.set_cons_zero, List.set_cons_succ, List.getElem_toArray, List.getElem_cons_succ, List.getElem_cons_zero]))
            (refine wpAnyH_take (i := 2) (v := ?_) rfl ?_ ?_ ?_ (fun _ _ _ h => h) (Or.inl ⟨?_, ?_⟩) ?_ ?_; rotate_left 1; (focus decide +kernel); (focus decide +kernel); (focus decide +kernel); (focus rfl); (focus (intro w hSw; (try dsimp only at hSw); go_simp; (try (with_reducible rfl)); done)); (focus assumption); (try simp only [Act.put, List.setIfInBounds_toArray, List.set_cons_zero, List.set_cons_succ, List.getElem_toArray, List.getElem_cons_succ, List.getElem_cons_zero]))
            (refine wpAnyH_take (i := 3) (v := ?_) rfl ?_ ?_ ?_ (fun _ _ _ h => h) (Or.inl ⟨?_, ?_⟩) ?_ ?_; rotate_left 1; (focus decide +kernel); (focus decide +kernel); (focus decide +kernel); (focus rfl); (focus (intro w hSw; (try dsimp only at hSw); go_simp; (try (with_reducible rfl)); done)); (focus assumption); (try simp only [Act.put, List.setIfInBounds_toArray, List.set_cons_zero, List.set_cons_succ, List.getElem_toArray, List.getElem_cons_succ, List.getElem_cons_zero]))
            (refine wpAnyH_take (i := 4) (v := ?_) rfl ?_ ?_ ?_ (fun _ _ _ h => h) (Or.inl ⟨?_, ?_⟩) ?_ ?_; rotate_left 1; (focus decide +kernel); (focus decide +kernel); (focus decide +kernel); (focus rfl); (focus (intro w hSw; (try dsimp only at hSw); go_simp; (try (with_reducible rfl)); done)); (focus assumption); (try simp only [Act.put, List.setIfInBounds_toArray, List.set_cons_zero, List.set_cons_succ, List.getElem_toArray, List.getElem_cons_succ, List.getElem_cons_zero]))
            (refine wpAnyH_take (i := 5) (v := ?_) rfl ?_ ?_ ?_ (fun _ _ _ h => h) (Or.inl ⟨?_, ?_⟩) ?_ ?_; rotate_left 1; (focus decide +kernel); (focus decide +kernel); (focus decide +kernel); (focus rfl); (focus (intro w hSw; (try dsimp only at hSw); go_simp; (try (with_reducible rfl)); done)); (focus assumption); (try simp only [Act.put, List.setIfInBounds_toArray, List.set_cons_zero, List.set_cons_succ, List.getElem_toArray, List.getElem_cons_succ, List.getElem_cons_zero]))
            (refine wpAnyH_take (i := 8) (v := ?_) rfl ?_ ?_ ?_ (fun _ _ _ h => h) (Or.inl ⟨?_, ?_⟩) ?_ ?_; rotate_left 1; (focus decide +kernel); (focus decide +kernel); (focus decide +kernel); (focus rfl); (focus (intro w hSw; (try dsimp only at hSw); go_simp; (try (with_reducible rfl)); done)); (focus assumption); (try simp only [Act.put, List.setIfInBounds_toArray, List.set_cons_zero, List.set_cons_succ, List.getElem_toArray, List.getElem_cons_succ, List.getElem_cons_zero]))
            (refine wpAnyH_take (i := 9) (v := ?_) rfl ?_ ?_ ?_ (fun _ _ _ h => h) (Or.inl ⟨?_, ?_⟩) ?_ ?_; rotate_left 1; (focus decide +kernel); (focus decide +kernel); (focus decide +kernel); (focus rfl); (focus (intro w hSw; (try dsimp only at hSw); go_simp; (try (with_reducible rfl)); done)); (focus assumption); (try simp only [Act.put, List.setIfInBounds_toArray, List.set_cons_zero, List.set_cons_succ, List.getElem_toArray, List.getElem_cons_succ, List.getElem_cons_zero]))
            refine wpAnyH_ready (rs := [6]) ?_ (by simp) ?_
            · decide +kernel
            refine AllReadyH.cons rfl (fun K hK => ?_) AllReadyH.nil
            go_simp
            go_at_call 35
            refine (implDigits HK.out.st HXB.out (by have := HLL.out; omega)).mono ?_
            rintro e w2 ⟨b2, rfl, o2, lo2, bel⟩
            rw [show ((Lt : Int)).toNat = Lt by simp] at o2 ⊢
            have st : Below w.heap.size w w2 ∧ w2.heap[NR]? = some (Obj.cells #[.int .i64 s, .int .i64 (R : Int), (.slice (some ⟨bt, off, none⟩) N cap)] 28) ∧ OwnB 4 w2 bC (.slice (some ⟨bC, 0, none⟩) PL PL) CL ∧ OwnB 4 w2 bN (.slice (some ⟨bN, 0, none⟩) PM PM) NL := ⟨st.1.trans (bel.mono st.1.size), Box.heap_keep bel st.2.1, st.2.2.1.keep bel, st.2.2.2.keep bel⟩
            refine hK.out _ _ ?_ (fun hHeld2 => ?_)
            · obtain ⟨e0, e1, e2⟩ := hHeld; exact ⟨cell_keep bel e0, cell_keep bel e1, cell_keep bel e2⟩
            clear hK K hHeld bel lo2
            have hHeld := hHeld2
            clear hHeld2
            (try simp only [Act.put, List.setIfInBounds_toArray, List.set_cons_zero, List.set_cons_succ, List.getElem_toArray, List.getElem_cons_succ, List.getElem_cons_zero])
            refine wpAnyH_ready (rs := [7]) ?_ (by simp) ?_
            · decide +kernel
            refine AllReadyH.cons rfl (fun K hK => ?_) AllReadyH.nil
            go_simp
            go_at_call 34
            refine (nextWord HK.out (HT.out.keep st.1 (Nat.le_refl _)) o2.rd (by rw [dig_length]; have := HLL.out; omega) (dig_all HK.out.st _ _)).mono ?_
            rintro e w3 ⟨b3, M3, hM3, rfl, o3, lo3, bel⟩
            clear hM3
            have st : Below w.heap.size w w3 ∧ w3.heap[NR]? = some (Obj.cells #[.int .i64 s, .int .i64 (R : Int), (.slice (some ⟨bt, off, none⟩) N cap)] 28) ∧ OwnB 4 w3 bC (.slice (some ⟨bC, 0, none⟩) PL PL) CL ∧ OwnB 4 w3 bN (.slice (some ⟨bN, 0, none⟩) PM PM) NL := ⟨st.1.trans (bel.mono st.1.size), Box.heap_keep bel st.2.1, st.2.2.1.keep bel, st.2.2.2.keep bel⟩
            refine hK.out _ _ ?_ (fun hHeld2 => ?_)
            · obtain ⟨e0, e1, e2⟩ := hHeld; exact ⟨cell_keep bel e0, cell_keep bel e1, cell_keep bel e2⟩
            clear hK K hHeld bel lo3 o2
            have hHeld := hHeld2
            clear hHeld2
            (try simp only [Act.put, List.setIfInBounds_toArray, List.set_cons_zero, List.set_cons_succ, List.getElem_toArray, List.getElem_cons_succ, List.getElem_cons_zero])
            refine wpAnyH_ready (rs := [10]) ?_ (by simp) ?_
            · decide +kernel
            refine AllReadyH.cons rfl (fun K hK => ?_) AllReadyH.nil
            go_simp
            go_at_call 22
            refine (implNumber o3.rd HK.out.st (by rw [nextW_length, dig_length]; have := HLL.out; omega) (nextW_all HK.out (dig_all HK.out.st _ _))).mono ?_
            rw [← HJ.out]
            rintro e w4 ⟨rfl, rfl⟩
            refine hK.out _ _ ?_ (fun hHeld2 => ?_)
            · exact hHeld
            clear hK K hHeld o3
            have hHeld := hHeld2
            clear hHeld2
            (try simp only [Act.put, List.setIfInBounds_toArray, List.set_cons_zero, List.set_cons_succ, List.getElem_toArray, List.getElem_cons_succ, List.getElem_cons_zero])
            (refine wpAnyH_take (i := 11) (v := ?_) rfl ?_ ?_ ?_ (fun _ _ _ h => h) (Or.inl ⟨?_, ?_⟩) ?_ ?_; rotate_left 1; (focus decide +kernel); (focus decide +kernel); (focus decide +kernel); (focus rfl); (focus (intro w hSw; (try dsimp only at hSw); go_simp; (try (with_reducible rfl)); done)); (focus assumption); (try simp only [Act.put, List.setIfInBounds_toArray, List.set_cons_zero, List.set_cons_succ, List.getElem_toArray, List.getElem_cons_succ, List.getElem_cons_zero]))
            refine wpAnyH_ready (rs := [12]) ?_ (by simp) ?_
            · decide +kernel
            refine AllReadyH.cons rfl (fun K hK => ?_) AllReadyH.nil
            have q1 := st.2.2.2.free jx
            have q2 := st.2.2.2.cell (i := jx) (by rw [HNLl.out]; exact HJL.out)
            go_simp
            refine hK.out _ _ ?_ (fun hHeld2 => ?_)
            · obtain ⟨e0, e1, e2⟩ := hHeld; (try dsimp only); exact ⟨(World.cell?_setCell_far _ _ _ _ HNE.out.1).trans e0, (World.cell?_setCell_far _ _ _ _ HNE.out.1).trans e1, (World.cell?_setCell_far _ _ _ _ HNE.out.1).trans e2⟩
            clear hK K hHeld2 hHeld q1 q2
            (try simp only [Act.put, List.setIfInBounds_toArray, List.set_cons_zero, List.set_cons_succ, List.getElem_toArray, List.getElem_cons_succ, List.getElem_cons_zero])
            refine wpAnyH_done (by kernel_rfl) ?_ _
            have oS := st.2.2.2.set jx true
            rw [HSET.out] at oS
            have bS := st.1.setCell (p := ⟨bN, jx, none⟩) HNE.out.2.2 (.bool true)
            have rS := (Below.heap_setCell w3 ⟨bN, jx, none⟩ (.bool true) NR (Ne.symm HNE.out.1)).trans st.2.1
            have cS := ownB_set st.2.2.1 ⟨bN, jx, none⟩ (.bool true) HNE.out.2.1
            have HOS := hid oS
            have HBS := hid bS
            have HRS := hid rS
            have HCS := hid cS
            clear oS bS rS cS st
            go_wp2
            go_roundw
            case rel => exact ⟨i + 1, HI.out.1, by go_num, HBS.out, HRS.out, HCS.out, HOS.out⟩
            case measure => have := HI.out; simp [intOf]; omega
          | false =>
            have HO : Hid (OwnB 4 wr bN (.slice (some ⟨bN, 0, none⟩) PM PM) (lo PM (fun j => ∃ i', i' < i + 1 ∧ cm tbl s (R : Int) A t i' ∧ numN s (nextW tbl s (R : Int) (dig s (i' : Int) Lt)) = j))) := by
              have e : lo PM (fun j => ∃ i', i' < i + 1 ∧ cm tbl s (R : Int) A t i' ∧ numN s (nextW tbl s (R : Int) (dig s (i' : Int) Lt)) = j) = lo PM (fun j => ∃ i', i' < i ∧ cm tbl s (R : Int) A t i' ∧ numN s (nextW tbl s (R : Int) (dig s (i' : Int) Lt)) = j) := by
                refine lo_congr (fun j _ => ⟨?_, ?_⟩)
                · rintro ⟨i', h1, h2, h3⟩
                  rcases Nat.lt_or_ge i' i with h4 | h4
                  · exact ⟨i', h4, h2, h3⟩
                  · have : i' = i := by omega
                    subst this
                    exact absurd (HCM.out.2 h2) (by decide)
                · rintro ⟨i', h1, h2⟩
                  exact ⟨i', by omega, h2⟩
              simp only [Hid]; rw [e]; exact hO
            clear hB hR hC hO hc hi
            go_wp2
            go_roundw
            case rel => exact ⟨i + 1, HI.out.1, by go_num, KB.out, KR.out, KC.out, HO.out⟩
            case measure => have := HI.out; simp [intOf]; omega
        · have hie : PL = i := by omega
          have HFO : Hid (OwnB 4 wr bN (.slice (some ⟨bN, 0, none⟩) (pw s Ls) (pw s Ls)) (lo (pw s Ls) (cm tbl s (R : Int) A (t + 1)))) := by
            have e : lo PM (fun j => ∃ i', i' < i ∧ cm tbl s (R : Int) A t i' ∧ numN s (nextW tbl s (R : Int) (dig s (i' : Int) Lt)) = j) = lo PM (cm tbl s (R : Int) A (t + 1)) := by
              rw [← hie, HPL.out]
              exact lo_congr (fun j _ => cm_succ HK.out (by have := HLt.out; rw [this]; (try congr 2); (try omega)) j)
            have h5 := hO
            rw [e, HPM.out] at h5
            exact h5
          have HVP : Hid ((PM : Int) = ((pw s Ls : Nat) : Int)) := by simp only [Hid]; rw [HPM.out]
          have HV2 : Hid (((.slice (some ⟨bN, 0, none⟩) PM PM) : Value) = (.slice (some ⟨bN, 0, none⟩) (pw s Ls) (pw s Ls))) := by simp only [Hid]; rw [HPM.out]
          clear hB hR hC hO
          go_wp2
          go_roundw
          case rel => exact ⟨t + 1, Ls, bN, hlt, HLL.out.2.2.2.2.2.1, by go_num, HV2.out, by go_num, KB.out, KR.out, HFO.out⟩
          case measure => simp [intOf]; omega
    · have htT2 : T = t := by omega
      subst htT2
      have hLn : Lt = n := by have := HQ.out; have := HLt.out; omega
      subst hLn
      go_wp2
      go_ret
      exact ⟨bC, rfl, KO.out, KB.out⟩
end Go.Proofs.Ytbnndbciimfciaa.CwC
