/- How many words lead to a word: the model's side. -/
import Derived.Test.YtjeoccjemkdbiaaWbi
import Derived.Test.YtjeoccjemkdbiaaSpO
namespace Go.Proofs.Ytjeoccjemkdbiaa.Wbs
open Go.RowKit Go.Shelf Go.Proofs.Ytjeoccjemkdbiaa.Rd Go.Proofs.Ytjeoccjemkdbiaa.Help Go.Proofs.Ytjeoccjemkdbiaa.Ring Go.Proofs.Ytjeoccjemkdbiaa.Small Go.Proofs.Ytjeoccjemkdbiaa.Num Go.Proofs.Ytjeoccjemkdbiaa.Keep Go.Proofs.Ytjeoccjemkdbiaa.Rule Go.Proofs.Ytjeoccjemkdbiaa.Lnk Go.Proofs.Ytjeoccjemkdbiaa.LnkP Go.Proofs.Ytjeoccjemkdbiaa.LnkI Go.Proofs.Ytjeoccjemkdbiaa.Box Go.Proofs.Ytjeoccjemkdbiaa.Bkw Go.Proofs.Ytjeoccjemkdbiaa.FVal Go.Proofs.Ytjeoccjemkdbiaa.Wbi Go.Proofs.Ytjeoccjemkdbiaa.Rep Go.Proofs.Ytjeoccjemkdbiaa.Spec
set_option linter.unusedVariables false
set_option linter.unusedSimpArgs false
attribute [local go_sem] Oper.semAt_some

set_option maxHeartbeats 2000000 in
theorem l03Word {w : World} {g : Nat} {s r : Int} {b bw : Nat} {v vw : Value} {tbl zs : List Int} (h : Rd w b v tbl) (hw : Rd w bw vw zs) (c0 : w.cell? ⟨g, 0, none⟩ = some (.int .i64 s)) (c1 : w.cell? ⟨g, 1, none⟩ = some (.int .i64 r)) (c2 : w.cell? ⟨g, 2, none⟩ = some v) :
    Calls Try.prog 25 #[.pointer (some ⟨g, 0, none⟩), vw] w fun e w' => e = .returned (.bool (validB s r tbl && wordB zs s)) ∧ ∃ m, w' = w.drewN m := by
  have hIs := SpO.is (o := 0) h c0 c1 c2
  obtain ⟨ao, cap, rfl, hc, hm, h4⟩ := hw
  obtain ⟨n, hn⟩ : ∃ n, n = zs.length := ⟨_, rfl⟩
  rw [← hn] at hc h4 ⊢
  have hsz : n ≤ 9223372036854775807 := by unfold maxLen at hm; omega
  have Hn := hid hn
  have HIS := hid hIs
  have HC0 := hid c0
  clear hn hc hm hIs c1 c2
  cases hq : validB s r tbl with
  | false =>
    have HQ := hid hq
    clear hq h c0
    rw [Bool.false_and]
    go_enter Try.func25, Try.ntmps25
    go_wp2_with fail
    go_at_call 53
    refine HIS.out.mono ?_
    rw [HQ.out]
    rintro e w2 ⟨rfl, m, hm⟩
    have HM := hid hm
    clear hm
    go_wp2
    go_ret
    exact ⟨rfl, m, HM.out⟩
  | true =>
    have HQ := hid hq
    obtain ⟨hs, hr, _, _⟩ := Al.valid_parts hq
    obtain ⟨s1, s2⟩ := hs
    rw [Bool.true_and]
    clear hq h c0
    by_cases h12 : 1 ≤ n ∧ n ≤ 12
    · have e : wordB zs s = allB zs s := by unfold wordB; rw [← Hn.out, decide_eq_true h12, Bool.true_and]
      rw [e]
      clear e
      obtain ⟨q1, q2⟩ := h12
      go_enter Try.func25, Try.ntmps25
      go_wp2_with fail
      go_at_call 53
      refine HIS.out.mono ?_
      rw [HQ.out]
      rintro e w2 ⟨rfl, m, hm⟩
      have HM : Hid (∃ m, w2 = w.drewN m) := ⟨m, hm⟩
      clear hm
      go_wp2
      go_loopw [21] (fun i wr => ∃ k : Nat, k ≤ n ∧ i = .int .i64 k ∧ Hid (allB (zs.take k) s = true) ∧ ∃ m, wr = w.drewN m) (fun i _ => n - (intOf i).toNat)
      case atStart => exact ⟨0, Nat.zero_le _, rfl, by simp [Hid, allB], HM.out⟩
      case round =>
        obtain ⟨k, hk, rfl, ha, m, hwr⟩ := hrel
        have r0 : wr.cell? ⟨g, 0, none⟩ = some (.int .i64 s) := by rw [hwr]; exact HC0.out
        have HW := hid hwr
        by_cases hlt : k < n
        · obtain ⟨off, rfl, hb, hcc⟩ := h4 (by omega)
          obtain ⟨x, hx⟩ : ∃ x, x = zs.getD k 0 := ⟨_, rfl⟩
          have hcx : wr.cell? ⟨bw, off + k, none⟩ = some (.int .i64 x) := by rw [hwr, hx]; exact hcc k hlt
          clear hwr
          have HX : Hid (x = zs.getD k 0) := hx
          have hki : (k : Int) < (n : Int) := by omega
          clear hx hcc
          by_cases hok : 0 ≤ x ∧ x ≤ s - 1
          · have HOK : Hid (decide (0 ≤ x ∧ x ≤ s - 1) = true) := decide_eq_true hok
            have hnx : allB (zs.take (k + 1)) s = true := by
              rw [all_take_succ zs s k (by have := Hn.out; omega), ha.out, ← HX.out]
              simp [okB]; omega
            have HNX : Hid (allB (zs.take (k + 1)) s = true) := hnx
            clear hnx hok
            go_wp2_with fail
            go_quiet (first | (go_at_call 54; refine Calls.quiet_of_same (quietIn HOK.out)))
            go_wp2
            go_roundw
            case rel => exact ⟨k + 1, by omega, by go_num, HNX, m + nq, by rw [HW.out, World.drewN_drewN]⟩
            case measure => simp [intOf]; omega
          · have HOK : Hid (decide (0 ≤ x ∧ x ≤ s - 1) = false) := decide_eq_false hok
            have hbad : okB s x = false := by unfold okB; exact decide_eq_false hok
            have HBad : Hid (okB s x = false) := hbad
            clear hbad hok
            go_wp2_with fail
            go_quiet (first | (go_at_call 54; refine Calls.quiet_of_same (quietIn HOK.out)))
            go_wp2
            go_ret
            have := all_false zs s k (by have := Hn.out; omega) (by rw [← HX.out]; exact HBad.out)
            exact ⟨by rw [this]; rfl, m + nq, by rw [HW.out, World.drewN_drewN]⟩
        · have hkn : k = n := by omega
          subst hkn
          have he : allB zs s = true := by have := ha.out; rwa [Hn.out, List.take_length] at this
          have HE : Hid (allB zs s = true) := he
          clear he ha hwr
          go_wp2
          go_ret
          exact ⟨by rw [HE.out]; rfl, m, HW.out⟩
    · have e : wordB zs s = false := by unfold wordB; rw [← Hn.out, decide_eq_false h12, Bool.false_and]
      rw [e]
      clear e
      rcases Nat.lt_or_ge n 1 with q1 | q1
      · have hn0 : n = 0 := by omega
        subst hn0
        go_enter Try.func25, Try.ntmps25
        go_wp2_with fail
        go_at_call 53
        refine HIS.out.mono ?_
        rw [HQ.out]
        rintro e w2 ⟨rfl, m, hm⟩
        have HM := hid hm
        clear hm
        go_wp2
        go_ret
        exact ⟨rfl, m, HM.out⟩
      · have q2 : 12 < n := by omega
        go_enter Try.func25, Try.ntmps25
        go_wp2_with fail
        go_at_call 53
        refine HIS.out.mono ?_
        rw [HQ.out]
        rintro e w2 ⟨rfl, m, hm⟩
        have HM := hid hm
        clear hm
        go_wp2
        go_ret
        exact ⟨rfl, m, HM.out⟩

theorem specNo {w : World} {s r : Int} {b bw : Nat} {v vw : Value} {tbl zs : List Int} (h : Rd w b v tbl) (hw : Rd w bw vw zs) (hv : ¬ (validB s r tbl = true ∧ wordB zs s = true)) :
    Calls Try.prog 15 #[ruleV s r v, vw] w fun e w' => e = .returned (.tuple #[.int .i64 0, .bool false]) ∧ Below w.heap.size w w' := by
  have HH := hid h
  have HW := hid hw
  have hf : (validB s r tbl && wordB zs s) = false := by
    cases h1 : validB s r tbl with
    | false => rfl
    | true => cases h2 : wordB zs s with
      | false => rfl
      | true => exact absurd ⟨h1, h2⟩ hv
  have HF := hid hf
  obtain ⟨ao, cap, rfl, _, _, _⟩ := h
  clear hv hf
  go_enter Try.func15, Try.ntmps15
  go_wp2_with fail
  obtain ⟨w1, hW⟩ : ∃ x, x = w.alloc (Obj.cells #[.int .i64 s, .int .i64 r, (.slice ao tbl.length cap)] 28) := ⟨_, rfl⟩
  obtain ⟨NR, hN⟩ : ∃ x, x = w.heap.size := ⟨_, rfl⟩
  have HB1 : Hid (Below w.heap.size w w1) := by simp only [Hid]; rw [hW]; exact below1 _ _
  have kR : w1.heap[NR]? = some (Obj.cells #[.int .i64 s, .int .i64 r, (.slice ao tbl.length cap)] 28) := by rw [hW]; exact FNew.heap_top hN
  simp only [← hW, ← hN]
  clear hW hN
  go_at_call 25
  refine (l03Word (HH.out.keep HB1.out (Nat.le_refl _)) (HW.out.keep HB1.out (Nat.le_refl _)) (Go.Joins.cell_of_block kR 0) (Go.Joins.cell_of_block kR 1) (Go.Joins.cell_of_block kR 2)).mono ?_
  rw [HF.out]
  rintro e w2 ⟨rfl, m, hm⟩
  have HZ : Hid (Below w.heap.size w w2) := by simp only [Hid]; rw [hm]; exact HB1.out.trans (Spec.below_drewN' _ _ _)
  clear hm kR
  go_wp2
  go_ret2
  exact ⟨rfl, HZ.out⟩
theorem fwds_sm (T : List Int) (S n : Nat) (hn : 0 < n) (hs : 0 < S) : ∀ (ws now : List Int) (M : Int), now.length = n → Sm M now → Sm ((S : Int) ^ ws.length * M) (fwds T S n ws now)
  | [], now, M, _, hm => by simpa [fwds] using hm
  | t :: ws, now, M, h, hm => by
    have := fwds_sm T S n hn hs ws (fwdA T S n t now) (S * M) (fwd_len T S n t now _) (fwd_sm T S n hn hs h hm)
    rw [List.length_cons, Int.pow_succ, Int.mul_assoc]
    exact this
theorem fwds_snoc (T : List Int) (S n : Nat) (ws now : List Int) (t : Int) : fwds T S n (ws ++ [t]) now = fwdA T S n t (fwds T S n ws now) := by simp [fwds]
theorem take_snoc (zs : List Int) (k : Nat) (h : k < zs.length) : zs.take (k + 1) = zs.take k ++ [zs.getD k 0] := by
  rw [List.take_succ_eq_append_getElem h, List.getD_eq_getElem?_getD, List.getElem?_eq_getElem h]; rfl
theorem oneL_set {k n : Nat} (h : k < n) : (oneL k n).set k 1 = oneL (k + 1) n := by
  have h1 := one_splice (k := k) (m := 1) (n := n) (by omega)
  rw [← h1]
  unfold splice
  rw [List.set_eq_take_append_cons_drop, if_pos (by rw [one_len (by omega)]; exact h)]
  simp

set_option maxHeartbeats 8000000 in
set_option maxRecDepth 100000 in
theorem specOk {w : World} {S n bt bw : Nat} {r : Int} {vt vw : Value} {tbl zs : List Int} (hk : Lk S n r tbl) (hv : validB (S : Int) r tbl = true) (h : Rd w bt vt tbl) (hw : Rd w bw vw zs) (hz : wordB zs (S : Int) = true) :
    Calls Try.prog 15 #[ruleV (S : Int) r vt, vw] w fun e w' => e = .returned (.tuple #[.int .i64 (fwds tbl S n zs (List.replicate n 1)).sum, .bool true]) ∧ Below w.heap.size w w' := by
  have HK := hid hk
  have HV := hid hv
  have HH := hid h
  have HW := hid hw
  have HF0 : Hid ((validB (S : Int) r tbl && wordB zs (S : Int)) = true) := by simp only [Hid]; rw [hv, hz]; rfl
  obtain ⟨hS, hr, hn, hl, hn1⟩ := hk
  obtain ⟨ao, cap, rfl, hc, hm, h4⟩ := h
  obtain ⟨off, rfl, hb, hcell⟩ := h4 (by rw [hl]; exact Nat.mul_pos hn1.1 (by omega))
  obtain ⟨ao, cw, rfl, hcw, hmw, hw4⟩ := hw
  have hL : 1 ≤ zs.length ∧ zs.length ≤ 12 := by unfold wordB at hz; rw [Bool.and_eq_true] at hz; exact of_decide_eq_true hz.1
  obtain ⟨ow, rfl, hbw, hwcell⟩ := hw4 (by omega)
  obtain ⟨N, hN⟩ : ∃ N, N = tbl.length := ⟨_, rfl⟩
  obtain ⟨L, hLe⟩ : ∃ L, L = zs.length := ⟨_, rfl⟩
  rw [← hN] at HH hc hl ⊢
  rw [← hLe] at HW hcw hwcell hL ⊢
  have HL : Hid (1 ≤ L ∧ L ≤ 12 ∧ L = zs.length) := ⟨hL.1, hL.2, hLe⟩
  have HCW : Hid (bw < w.heap.size ∧ ∀ i, i < L → w.cell? ⟨bw, ow + i, none⟩ = some (.int .i64 (zs.getD i 0))) := ⟨hbw, hwcell⟩
  have HS : Hid ((2 ≤ (S : Int) ∧ (S : Int) ≤ 3) ∧ (0 ≤ r ∧ r ≤ 2)) := ⟨⟨Int.ofNat_le.2 hS.1, Int.ofNat_le.2 hS.2⟩, hr⟩
  have HSn : Hid ((2 ≤ S ∧ S ≤ 3) ∧ (1 ≤ n ∧ n ≤ 81)) := ⟨hS, hn1⟩
  have HEn := hid hn
  have HNl : Hid (N = n * S) := hl
  have HMK : Hid (∀ w : World, _) := run_make_row' (P := Try.prog) 22 2 (.int .i64 0) 8 Try.underlying22 infoI rfl .i64 .i64 n (by omega) (by omega)
  obtain ⟨q, hq⟩ : ∃ q, q = (fwds tbl S n zs (List.replicate n 1)).sum := ⟨_, rfl⟩
  have HQ := hid hq
  rw [← hq]
  obtain ⟨sb1, sb2⟩ := HS.out.1
  have hLi : (L : Int) ≤ 12 := by omega
  clear hv hz hS hr hn hl hn1 hc hm h4 hb hcell hcw hmw hw4 hL hbw hwcell hN hLe hq
  go_enter Try.func15, Try.ntmps15
  go_wp2_with fail
  obtain ⟨w1, hW⟩ : ∃ x, x = w.alloc (Obj.cells #[.int .i64 (S : Int), .int .i64 r, (.slice (some ⟨bt, off, none⟩) N cap)] 28) := ⟨_, rfl⟩
  obtain ⟨NR, hN⟩ : ∃ x, x = w.heap.size := ⟨_, rfl⟩
  have HB1 : Hid (Below w.heap.size w w1) := by simp only [Hid]; rw [hW]; exact below1 _ _
  have kR : w1.heap[NR]? = some (Obj.cells #[.int .i64 (S : Int), .int .i64 r, (.slice (some ⟨bt, off, none⟩) N cap)] 28) := by rw [hW]; exact FNew.heap_top hN
  simp only [← hW, ← hN]
  clear hW hN
  go_at_call 25
  refine (l03Word (HH.out.keep HB1.out (Nat.le_refl _)) (HW.out.keep HB1.out (Nat.le_refl _)) (Go.Joins.cell_of_block kR 0) (Go.Joins.cell_of_block kR 1) (Go.Joins.cell_of_block kR 2)).mono ?_
  rw [HF0.out]
  rintro e w2 ⟨rfl, m, hm⟩
  have bel : Below w1.heap.size w1 w2 := by rw [hm]; exact Spec.below_drewN' _ _ _
  have KR2 := hid (Box.heap_keep bel kR)
  have HB2 := hid (HB1.out.trans (bel.mono HB1.out.size))
  clear bel kR hm
  go_wp2_with fail
  go_at_call 39
  refine (ends3 (Go.Joins.cell_of_block KR2.out 0) (Go.Joins.cell_of_block KR2.out 1) HS.out.1 HS.out.2).mono ?_
  rw [← HEn.out]
  rintro e w4 ⟨rfl, m, hm⟩
  have bel : Below w2.heap.size w2 w4 := by rw [hm]; exact Spec.below_drewN' _ _ _
  have KR4 := hid (Box.heap_keep bel KR2.out)
  have HB4 := hid (HB2.out.trans (bel.mono HB2.out.size))
  clear bel hm
  have hmk := HMK.out
  go_wp2
  obtain ⟨w5, hW⟩ : ∃ x, x = w4.alloc (Obj.cells (madeCells #[.int .i64 0] n) 2) := ⟨_, rfl⟩
  obtain ⟨b0, hb0⟩ : ∃ x, x = w4.heap.size := ⟨_, rfl⟩
  have oT : Rd.Own 2 w5 b0 (.slice (some ⟨b0, 0, none⟩) n n) (List.replicate n 0) := by
    have := Own.made 2 w4 n (by have := HSn.out; unfold maxLen; omega)
    rw [hW, hb0]; exact this
  have bel : Below w4.heap.size w4 w5 := by rw [hW]; exact (Below.refl _ _).alloc (Nat.le_refl _) _
  have HL0 : Hid (w.heap.size ≤ b0 ∧ NR ≠ b0) := by have h1 := (Array.getElem?_eq_some_iff.1 KR4.out).1; have h2 := HB4.out.size; simp only [Hid]; omega
  have KR5 := hid (Box.heap_keep bel KR4.out)
  have HB5 := hid (HB4.out.trans (bel.mono HB4.out.size))
  have OT : Hid (Rd.Own 2 w5 b0 (.slice (some ⟨b0, 0, none⟩) n n) (oneL 0 n)) := by simp only [Hid]; simpa [oneL] using oT
  simp only [← hW, ← hb0]
  clear hW hb0 oT bel hmk
  have hn81 : n ≤ 81 := HSn.out.2.2
  go_loopw [25] (fun i wr => ∃ k : Nat, k ≤ n ∧ i = .int .i64 (k : Int) ∧ Below w.heap.size w wr ∧ wr.heap[NR]? = some (Obj.cells #[.int .i64 (S : Int), .int .i64 r, (.slice (some ⟨bt, off, none⟩) N cap)] 28) ∧ Rd.Own 2 wr b0 (.slice (some ⟨b0, 0, none⟩) n n) (oneL k n)) (fun i _ => n - (intOf i).toNat)
  case atStart => exact ⟨0, Nat.zero_le _, rfl, HB5.out, KR5.out, OT.out⟩
  case round =>
    clear HB5 KR5 OT
    obtain ⟨k, hk, rfl, hB, hR, hO⟩ := hrel
    have KB := hid hB
    have KR := hid hR
    have KO := hid hO
    clear hB hR
    by_cases hlt : k < n
    · have oc := hO.free k
      have hcc := hO.cell (i := k) (by rw [one_len hk]; exact hlt)
      clear hO
      go_wp2
      have oS := KO.out.set k 1
      rw [oneL_set hlt] at oS
      have bS := KB.out.setCell (p := ⟨b0, k, none⟩) HL0.out.1 (.int .i64 1)
      have rS := (Below.heap_setCell wr ⟨b0, k, none⟩ (.int .i64 1) NR HL0.out.2).trans KR.out
      go_roundw
      case rel => exact ⟨k + 1, hlt, by go_num, bS, rS, oS⟩
      case measure => simp [intOf]; omega
    · have hkn : n = k := by omega
      subst hkn
      have HO1 : Hid (Rd.Own 2 wr b0 (.slice (some ⟨b0, 0, none⟩) n n) (List.replicate n 1)) := by have h5 := KO.out; unfold oneL at h5; simp only [Hid]; simpa using h5
      clear hO KO hk hlt
      obtain ⟨w7, hw7⟩ : ∃ x, x = wr := ⟨_, rfl⟩
      rw [← hw7] at KB KR HO1 ⊢
      clear hw7
      go_wp2
      go_loopw [7, 34] (fun vN i wr => ∃ (k bN : Nat), k ≤ L ∧ i = .int .i64 (k : Int) ∧ vN = (.slice (some ⟨bN, 0, none⟩) n n) ∧ Below w.heap.size w wr ∧ wr.heap[NR]? = some (Obj.cells #[.int .i64 (S : Int), .int .i64 r, (.slice (some ⟨bt, off, none⟩) N cap)] 28) ∧ w.heap.size ≤ bN ∧ NR ≠ bN ∧ Rd.Own 2 wr bN (.slice (some ⟨bN, 0, none⟩) n n) (fwds tbl S n (zs.take k) (List.replicate n 1))) (fun vN i _ => L - (intOf i).toNat)
      case atStart => exact ⟨0, b0, Nat.zero_le _, rfl, rfl, KB.out, KR.out, HL0.out.1, HL0.out.2, HO1.out⟩
      case round =>
        clear KB KR HO1
        obtain ⟨k, bN, hk, rfl, rfl, hB, hR, hlo, hne, hO⟩ := hrel
        have KB := hid hB
        have KR := hid hR
        have KO := hid hO
        have HLN := hid (And.intro hlo hne)
        clear hB hR hO hlo hne
        by_cases hlt : k < L
        · obtain ⟨Aw, hAw⟩ : ∃ Aw, Aw = fwds tbl S n (zs.take k) (List.replicate n 1) := ⟨_, rfl⟩
          have hAl : Aw.length = n := by rw [hAw]; exact fwds_len tbl S n _ _ (by simp)
          have hAs : Sm 3486784401 Aw := by
            rw [hAw]
            exact Sm.le (fwds_sm tbl S n (by have := HSn.out; omega) (by have := HSn.out; omega) _ _ _ (by simp) one_sm) (pow_bd HSn.out.1.2 (by simp; have := HL.out; omega) (by have := HSn.out; omega))
          obtain ⟨c, hc⟩ : ∃ c, c = zs.getD k 0 := ⟨_, rfl⟩
          have HNX : Hid (fwdA tbl S n c Aw = fwds tbl S n (zs.take (k + 1)) (List.replicate n 1)) := by
            simp only [Hid]
            rw [take_snoc zs k (by have := HL.out; omega), fwds_snoc, ← hAw, ← hc]
          have HCc := hid hc
          have HAL := hid hAl
          have HAS := hid hAs
          rw [← hAw] at KO
          have hki : (k : Int) < (L : Int) := by omega
          have hmk := HMK.out
          clear hAl hAs hAw hc
          obtain ⟨wn, hwn⟩ : ∃ x, x = wr := ⟨_, rfl⟩
          rw [← hwn] at KB KR KO ⊢
          clear hwn
          go_wp2
          obtain ⟨w8, hW⟩ : ∃ x, x = wn.alloc (Obj.cells (madeCells #[.int .i64 0] n) 2) := ⟨_, rfl⟩
          obtain ⟨bT, hbT⟩ : ∃ x, x = wn.heap.size := ⟨_, rfl⟩
          have oT : Rd.Own 2 w8 bT (.slice (some ⟨bT, 0, none⟩) n n) (List.replicate n 0) := by
            have := Own.made 2 wn n (by have := HSn.out; unfold maxLen; omega)
            rw [hW, hbT]; exact this
          have bel : Below wn.heap.size wn w8 := by rw [hW]; exact (Below.refl _ _).alloc (Nat.le_refl _) _
          have HNE : Hid (NR ≠ bT) := by have h1 := (Array.getElem?_eq_some_iff.1 KR.out).1; simp only [Hid]; omega
          have HNT : Hid (bN ≠ bT) := by have h1 := KO.out.lt; simp only [Hid]; omega
          have HLO : Hid (w.heap.size ≤ bT) := by have h2 := KB.out.size; simp only [Hid]; omega
          have KR8 := hid (Box.heap_keep bel KR.out)
          have KN8 := hid (KO.out.keep bel)
          have KB8 := hid (KB.out.trans (bel.mono KB.out.size))
          have OT : Hid (Rd.Own 2 w8 bT (.slice (some ⟨bT, 0, none⟩) n n) (fwdL tbl S n c Aw 0)) := oT
          simp only [← hW, ← hbT]
          clear hW hbT oT bel hmk KB KR KO
          go_loopw [11] (fun i wx => ∃ a : Nat, a ≤ n ∧ i = .int .i64 (a : Int) ∧ Below w.heap.size w wx ∧ wx.heap[NR]? = some (Obj.cells #[.int .i64 (S : Int), .int .i64 r, (.slice (some ⟨bt, off, none⟩) N cap)] 28) ∧ Rd.Own 2 wx bN (.slice (some ⟨bN, 0, none⟩) n n) Aw ∧ Rd.Own 2 wx bT (.slice (some ⟨bT, 0, none⟩) n n) (fwdL tbl S n c Aw (a * S))) (fun i _ => n - (intOf i).toNat)
          case atStart => exact ⟨0, Nat.zero_le _, rfl, KB8.out, KR8.out, KN8.out, by rw [Nat.zero_mul]; exact OT.out⟩
          case round =>
            clear KB8 KR8 KN8 OT
            obtain ⟨a, ha, rfl, hB, hR, hN, hO⟩ := hrel
            have KB := hid hB
            have KR := hid hR
            have KN := hid hN
            have KO := hid hO
            clear hB hR hN hO
            by_cases hlta : a < n
            · obtain ⟨wn2, hwn⟩ : ∃ x, x = wr := ⟨_, rfl⟩
              rw [← hwn] at KB KR KN KO ⊢
              clear hwn
              go_wp2
              go_loopw [12] (fun i wx => ∃ x : Nat, x ≤ S ∧ i = .int .i64 (x : Int) ∧ Below w.heap.size w wx ∧ wx.heap[NR]? = some (Obj.cells #[.int .i64 (S : Int), .int .i64 r, (.slice (some ⟨bt, off, none⟩) N cap)] 28) ∧ Rd.Own 2 wx bN (.slice (some ⟨bN, 0, none⟩) n n) Aw ∧ Rd.Own 2 wx bT (.slice (some ⟨bT, 0, none⟩) n n) (fwdL tbl S n c Aw (a * S + x))) (fun i _ => S - (intOf i).toNat)
              case atStart => exact ⟨0, Nat.zero_le _, rfl, KB.out, KR.out, KN.out, KO.out⟩
              case round =>
                clear KB KR KN KO
                obtain ⟨x, hx, rfl, hB, hR, hN, hO⟩ := hrel
                have KB := hid hB
                have KR := hid hR
                have KN := hid hN
                have KO := hid hO
                have c0 := Go.Joins.cell_of_block hR 0
                simp only [List.getElem?_toArray, List.getElem?_cons_zero, List.getElem?_cons_succ] at c0
                clear hB hR hN hO
                by_cases hxS : x < S
                · obtain ⟨i, hi⟩ : ∃ i, i = a * S + x := ⟨_, rfl⟩
                  obtain ⟨b2, hb2⟩ : ∃ b2, b2 = i % n := ⟨_, rfl⟩
                  obtain ⟨tv, htv⟩ : ∃ tv, tv = tbl.getD i 0 := ⟨_, rfl⟩
                  have hin : i < n * S := by
                    have h3 : (a + 1) * S ≤ n * S := Nat.mul_le_mul_right _ hlta
                    rw [Nat.add_mul] at h3; omega
                  have hdiv : i / S = a := by rw [hi, Nat.add_comm, Nat.add_mul_div_right _ _ (by have := HSn.out.1.1; omega), Nat.div_eq_of_lt hxS, Nat.zero_add]
                  have hbn : b2 < n := by rw [hb2]; exact Nat.mod_lt _ (by omega)
                  obtain ⟨z, hz⟩ : ∃ z, z = (fwdL tbl S n c Aw i).getD b2 0 := ⟨_, rfl⟩
                  obtain ⟨y, hy⟩ : ∃ y, y = Aw.getD a 0 := ⟨_, rfl⟩
                  have hzb := (fwd_bd tbl S n (t := c) (by omega) (by decide) HAS.out.bd i (by omega)).1 b2
                  have hyb := HAS.out.bd a
                  rw [← hz] at hzb
                  rw [← hy] at hyb
                  have hN243 : n * S ≤ 243 := Nat.le_trans (Nat.mul_le_mul HSn.out.2.2 HSn.out.1.2) (by decide)
                  have hi9 : (i : Int) * 3486784401 ≤ 243 * 3486784401 := Int.mul_le_mul_of_nonneg_right (by omega) (by decide)
                  have HW3 : Hid (IntKind.i64.wrap (z + y) = z + y) := by
                    have hw3 : wrap64 (z + y) = z + y := wrap_id (by omega) (by omega)
                    simp only [Hid]
                    rw [IntKind.wrap_i64]; unfold wrap64 at hw3; exact hw3
                  have HSU : Hid (a * S + (x + 1) = i + 1) := by simp only [Hid]; omega
                  have HKO : Hid (Rd.Own 2 wr bT (.slice (some ⟨bT, 0, none⟩) n n) (fwdL tbl S n c Aw i)) := by simp only [Hid]; rw [hi]; exact KO.out
                  have HFY : Hid (tv = c → fwdL tbl S n c Aw (i + 1) = (fwdL tbl S n c Aw i).set b2 (z + y)) := by
                    simp only [Hid]
                    intro e
                    show (if tbl.getD i 0 = c then updL (fwdL tbl S n c Aw i) (i % n) (Aw.getD (i / S) 0) else fwdL tbl S n c Aw i) = _
                    rw [if_pos (by rw [← htv]; exact e), hdiv, ← hb2, ← hy, hz]; rfl
                  have HFN : Hid (¬ tv = c → fwdL tbl S n c Aw (i + 1) = fwdL tbl S n c Aw i) := by
                    simp only [Hid]
                    intro e
                    show (if tbl.getD i 0 = c then updL (fwdL tbl S n c Aw i) (i % n) (Aw.getD (i / S) 0) else fwdL tbl S n c Aw i) = _
                    rw [if_neg (by rw [← htv]; exact e)]
                  have hPairs : Calls Try.prog 40 #[.pointer (some ⟨NR, 0, none⟩), .int .i64 (a : Int), .int .i64 (x : Int)] wr fun e w' => e = .returned (.tuple #[.int .i64 (b2 : Int), .int .i64 tv]) ∧ ∃ m, w' = wr.drewN m := by
                    rw [hb2, htv, hi]
                    exact pairs3 HK.out (HH.out.keep KB.out (Nat.le_refl _)) (Go.Joins.cell_of_block KR.out 0) (Go.Joins.cell_of_block KR.out 1) (Go.Joins.cell_of_block KR.out 2) hlta hxS
                  have HPr := hid hPairs
                  have HX1 : Hid (a < n ∧ x < S) := ⟨hlta, hxS⟩
                  have HBN := hid hbn
                  have HZ := hid hz
                  have HY := hid hy
                  clear hPairs hi hb2 htv hin hdiv hz hy hzb hyb hN243 hi9 KO hbn
                  go_wp2_with fail
                  go_at_call 40
                  refine HPr.out.mono ?_
                  rintro e w6 ⟨rfl, m, hm⟩
                  have bel : Below wr.heap.size wr w6 := by rw [hm]; exact Spec.below_drewN' _ _ _
                  have KR6 := hid (Box.heap_keep bel KR.out)
                  have H1n := hid (HKO.out.keep bel)
                  have H2n := hid (KN.out.keep bel)
                  have KB6 := hid (KB.out.trans (bel.mono KB.out.size))
                  have y0 : w6.cell? ⟨bw, ow + k, none⟩ = some (.int .i64 c) := by rw [HCc.out]; exact (KB6.out.cell (p := ⟨bw, ow + k, none⟩) HCW.out.1).trans (HCW.out.2 k hlt)
                  clear hm bel c0
                  by_cases hyt : tv = c
                  · have HFY2 := hid (HFY.out hyt)
                    subst hyt
                    have y1 := H1n.out.cell (i := b2) (by rw [fwd_len]; exact HBN.out)
                    rw [← HZ.out] at y1
                    have y2 := H1n.out.free b2
                    have y3 := H2n.out.cell (i := a) (by rw [HAL.out]; exact HX1.out.1)
                    rw [← HY.out] at y3
                    have hw3 := HW3.out
                    have hb2i : (b2 : Int) < (n : Int) := by have := HBN.out; omega
                    have hai : (a : Int) < (n : Int) := by omega
                    clear HFY HFN
                    go_upto_region 22 with fail
                    refine (wpIn_wide (n := 0)).1 ?_
                    refine wpIn_region_any (by kernel_rfl) ?_
                    (try (change wpAnyIn _ _ _ _ _ _ _ _ _ (World.drew _)))
                    (refine wpAnyIn_take (i := 0) (v := ?_) rfl rfl ?_ ?_ ?_ (fun _ _ _ h => h) ⟨Or.inl ⟨?_, ?_⟩, fun _ => rfl⟩ ?_; rotate_left 1; (focus kernel_rfl); (focus kernel_rfl); (focus kernel_rfl); (focus rfl); (focus (intro w; go_simp; (try (with_reducible rfl)); done)); (try simp only [Act.put, List.setIfInBounds_toArray, List.set_cons_zero, List.set_cons_succ, List.getElem_toArray, List.getElem_cons_succ, List.getElem_cons_zero]))
                    (refine wpAnyIn_take (i := 1) (v := ?_) rfl rfl ?_ ?_ ?_ (fun _ _ _ h => h) ⟨Or.inl ⟨?_, ?_⟩, fun _ => rfl⟩ ?_; rotate_left 1; (focus kernel_rfl); (focus kernel_rfl); (focus kernel_rfl); (focus rfl); (focus (intro w; go_simp; (try (with_reducible rfl)); done)); (try simp only [Act.put, List.setIfInBounds_toArray, List.set_cons_zero, List.set_cons_succ, List.getElem_toArray, List.getElem_cons_succ, List.getElem_cons_zero]))
                    (refine wpAnyIn_take (i := 2) (v := ?_) rfl rfl ?_ ?_ ?_ (fun _ _ _ h => h) ⟨Or.inl ⟨?_, ?_⟩, fun _ => rfl⟩ ?_; rotate_left 1; (focus kernel_rfl); (focus kernel_rfl); (focus kernel_rfl); (focus rfl); (focus (intro w; go_simp; (try (with_reducible rfl)); done)); (try simp only [Act.put, List.setIfInBounds_toArray, List.set_cons_zero, List.set_cons_succ, List.getElem_toArray, List.getElem_cons_succ, List.getElem_cons_zero]))
                    (refine wpAnyIn_take (i := 4) (v := ?_) rfl rfl ?_ ?_ ?_ (fun _ _ _ h => h) ⟨Or.inl ⟨?_, ?_⟩, fun _ => rfl⟩ ?_; rotate_left 1; (focus kernel_rfl); (focus kernel_rfl); (focus kernel_rfl); (focus rfl); (focus (intro w; go_simp; (try (with_reducible rfl)); done)); (try simp only [Act.put, List.setIfInBounds_toArray, List.set_cons_zero, List.set_cons_succ, List.getElem_toArray, List.getElem_cons_succ, List.getElem_cons_zero]))
                    (refine wpAnyIn_take (i := 5) (v := ?_) rfl rfl ?_ ?_ ?_ (fun _ _ _ h => h) ⟨Or.inl ⟨?_, ?_⟩, fun _ => rfl⟩ ?_; rotate_left 1; (focus kernel_rfl); (focus kernel_rfl); (focus kernel_rfl); (focus rfl); (focus (intro w; go_simp; (try (with_reducible rfl)); done)); (try simp only [Act.put, List.setIfInBounds_toArray, List.set_cons_zero, List.set_cons_succ, List.getElem_toArray, List.getElem_cons_succ, List.getElem_cons_zero]))
                    (refine wpAnyIn_take (i := 6) (v := ?_) rfl rfl ?_ ?_ ?_ (fun _ _ _ h => h) ⟨Or.inl ⟨?_, ?_⟩, fun _ => rfl⟩ ?_; rotate_left 1; (focus kernel_rfl); (focus kernel_rfl); (focus kernel_rfl); (focus rfl); (focus (intro w; go_simp; (try (with_reducible rfl)); done)); (try simp only [Act.put, List.setIfInBounds_toArray, List.set_cons_zero, List.set_cons_succ, List.getElem_toArray, List.getElem_cons_succ, List.getElem_cons_zero]))
                    refine wpAnyIn_ready (rs := [3, 7]) (by kernel_rfl) (by simp) (AllReadyIn.cons rfl (fun K hK => ?_) (AllReadyIn.cons rfl (fun K hK => ?_) AllReadyIn.nil))
                    · go_simp
                      refine hK _ _ ?_
                      clear hK K
                      (try simp only [Act.put, List.setIfInBounds_toArray, List.set_cons_zero, List.set_cons_succ, List.getElem_toArray, List.getElem_cons_succ, List.getElem_cons_zero])
                      refine wpAnyIn_ready (rs := [7]) (by kernel_rfl) (by simp) (AllReadyIn.cons rfl (fun K hK => ?_) AllReadyIn.nil)
                      go_simp
                      refine hK _ _ ?_
                      clear hK K
                      (try simp only [Act.put, List.setIfInBounds_toArray, List.set_cons_zero, List.set_cons_succ, List.getElem_toArray, List.getElem_cons_succ, List.getElem_cons_zero])
                      (refine wpAnyIn_take (i := 8) (v := ?_) rfl rfl ?_ ?_ ?_ (fun _ _ _ h => h) ⟨Or.inl ⟨?_, ?_⟩, fun _ => rfl⟩ ?_; rotate_left 1; (focus kernel_rfl); (focus kernel_rfl); (focus kernel_rfl); (focus rfl); (focus (intro w; go_simp; (try (with_reducible rfl)); done)); (try simp only [Act.put, List.setIfInBounds_toArray, List.set_cons_zero, List.set_cons_succ, List.getElem_toArray, List.getElem_cons_succ, List.getElem_cons_zero]))
                      (refine wpAnyIn_take (i := 9) (v := ?_) rfl rfl ?_ ?_ ?_ (fun _ _ _ h => h) ⟨Or.inl ⟨?_, ?_⟩, fun _ => rfl⟩ ?_; rotate_left 1; (focus kernel_rfl); (focus kernel_rfl); (focus kernel_rfl); (focus rfl); (focus (intro w; go_simp; (try (with_reducible rfl)); done)); (try simp only [Act.put, List.setIfInBounds_toArray, List.set_cons_zero, List.set_cons_succ, List.getElem_toArray, List.getElem_cons_succ, List.getElem_cons_zero]))
                      refine wpAnyIn_ready (rs := [10]) (by kernel_rfl) (by simp) (AllReadyIn.cons rfl (fun K hK => ?_) AllReadyIn.nil)
                      go_simp
                      refine hK _ _ ?_
                      clear hK K
                      (try simp only [Act.put, List.setIfInBounds_toArray, List.set_cons_zero, List.set_cons_succ, List.getElem_toArray, List.getElem_cons_succ, List.getElem_cons_zero])
                      refine wpAnyIn_done (by kernel_rfl) ?_ _
                      have oS := (H1n.out.set b2 (z + y)).keep (Go.Proofs.Ytjeoccjemkdbiaa.Help.below_drewN _ _ 1)
                      have nS := (Wbi.own_set H2n.out ⟨bT, b2, none⟩ (.int .i64 (z + y)) HNT.out).keep (Go.Proofs.Ytjeoccjemkdbiaa.Help.below_drewN _ _ 1)
                      have bS := (KB6.out.setCell (p := ⟨bT, b2, none⟩) HLO.out (.int .i64 (z + y))).trans (Go.Proofs.Ytjeoccjemkdbiaa.Help.below_drewN _ _ 1)
                      have rS := (Below.heap_setCell w6 ⟨bT, b2, none⟩ (.int .i64 (z + y)) NR HNE.out).trans KR6.out
                      have HO : Hid (Rd.Own 2 ((w6.setCell ⟨bT, b2, none⟩ (.int .i64 (z + y))).drewN 1) bT (.slice (some ⟨bT, 0, none⟩) n n) (fwdL tbl S n tv Aw (a * S + (x + 1)))) := by simp only [Hid]; rw [HSU.out, HFY2.out]; exact oS
                      clear y0 y1 y2 y3 hw3 oS
                      go_wp2
                      go_roundw
                      case rel => exact ⟨x + 1, HX1.out.2, by go_num, bS, rS, nS, HO.out⟩
                      case measure => have := HX1.out.2; simp [intOf]; omega
                    · go_simp
                      refine hK _ _ ?_
                      clear hK K
                      (try simp only [Act.put, List.setIfInBounds_toArray, List.set_cons_zero, List.set_cons_succ, List.getElem_toArray, List.getElem_cons_succ, List.getElem_cons_zero])
                      refine wpAnyIn_ready (rs := [3]) (by kernel_rfl) (by simp) (AllReadyIn.cons rfl (fun K hK => ?_) AllReadyIn.nil)
                      go_simp
                      refine hK _ _ ?_
                      clear hK K
                      (try simp only [Act.put, List.setIfInBounds_toArray, List.set_cons_zero, List.set_cons_succ, List.getElem_toArray, List.getElem_cons_succ, List.getElem_cons_zero])
                      (refine wpAnyIn_take (i := 8) (v := ?_) rfl rfl ?_ ?_ ?_ (fun _ _ _ h => h) ⟨Or.inl ⟨?_, ?_⟩, fun _ => rfl⟩ ?_; rotate_left 1; (focus kernel_rfl); (focus kernel_rfl); (focus kernel_rfl); (focus rfl); (focus (intro w; go_simp; (try (with_reducible rfl)); done)); (try simp only [Act.put, List.setIfInBounds_toArray, List.set_cons_zero, List.set_cons_succ, List.getElem_toArray, List.getElem_cons_succ, List.getElem_cons_zero]))
                      (refine wpAnyIn_take (i := 9) (v := ?_) rfl rfl ?_ ?_ ?_ (fun _ _ _ h => h) ⟨Or.inl ⟨?_, ?_⟩, fun _ => rfl⟩ ?_; rotate_left 1; (focus kernel_rfl); (focus kernel_rfl); (focus kernel_rfl); (focus rfl); (focus (intro w; go_simp; (try (with_reducible rfl)); done)); (try simp only [Act.put, List.setIfInBounds_toArray, List.set_cons_zero, List.set_cons_succ, List.getElem_toArray, List.getElem_cons_succ, List.getElem_cons_zero]))
                      refine wpAnyIn_ready (rs := [10]) (by kernel_rfl) (by simp) (AllReadyIn.cons rfl (fun K hK => ?_) AllReadyIn.nil)
                      go_simp
                      refine hK _ _ ?_
                      clear hK K
                      (try simp only [Act.put, List.setIfInBounds_toArray, List.set_cons_zero, List.set_cons_succ, List.getElem_toArray, List.getElem_cons_succ, List.getElem_cons_zero])
                      refine wpAnyIn_done (by kernel_rfl) ?_ _
                      have oS := (H1n.out.set b2 (z + y)).keep (Go.Proofs.Ytjeoccjemkdbiaa.Help.below_drewN _ _ 1)
                      have nS := (Wbi.own_set H2n.out ⟨bT, b2, none⟩ (.int .i64 (z + y)) HNT.out).keep (Go.Proofs.Ytjeoccjemkdbiaa.Help.below_drewN _ _ 1)
                      have bS := (KB6.out.setCell (p := ⟨bT, b2, none⟩) HLO.out (.int .i64 (z + y))).trans (Go.Proofs.Ytjeoccjemkdbiaa.Help.below_drewN _ _ 1)
                      have rS := (Below.heap_setCell w6 ⟨bT, b2, none⟩ (.int .i64 (z + y)) NR HNE.out).trans KR6.out
                      have HO : Hid (Rd.Own 2 ((w6.setCell ⟨bT, b2, none⟩ (.int .i64 (z + y))).drewN 1) bT (.slice (some ⟨bT, 0, none⟩) n n) (fwdL tbl S n tv Aw (a * S + (x + 1)))) := by simp only [Hid]; rw [HSU.out, HFY2.out]; exact oS
                      clear y0 y1 y2 y3 hw3 oS
                      go_wp2
                      go_roundw
                      case rel => exact ⟨x + 1, HX1.out.2, by go_num, bS, rS, nS, HO.out⟩
                      case measure => have := HX1.out.2; simp [intOf]; omega

                  · have hne : (tv == c) = false := by simpa using hyt
                    have HO : Hid (Rd.Own 2 w6 bT (.slice (some ⟨bT, 0, none⟩) n n) (fwdL tbl S n c Aw (a * S + (x + 1)))) := by
                      simp only [Hid]
                      rw [HSU.out, HFN.out hyt]; exact H1n.out
                    clear hyt
                    go_wp2
                    go_roundw
                    case rel => exact ⟨x + 1, HX1.out.2, by go_num, KB6.out, KR6.out, H2n.out, HO.out⟩
                    case measure => have := HX1.out.2; simp [intOf]; omega
                · have hxe : S = x := by omega
                  subst hxe
                  go_wp2
                  go_roundw
                  case rel => exact ⟨a + 1, by omega, by go_num, KB.out, KR.out, KN.out, by rw [Nat.add_mul, Nat.one_mul]; exact KO.out⟩
                  case measure => simp [intOf]; omega
            · have han : n = a := by omega
              subst han
              have HF : Hid (Rd.Own 2 wr bT (.slice (some ⟨bT, 0, none⟩) n n) (fwds tbl S n (zs.take (k + 1)) (List.replicate n 1))) := by simp only [Hid]; rw [← HNX.out]; exact KO.out
              clear KO
              go_wp2
              go_roundw
              case rel => exact ⟨k + 1, bT, hlt, by go_num, rfl, KB.out, KR.out, HLO.out, HNE.out, HF.out⟩
              case measure => simp [intOf]; omega
        · have hkL : L = k := by omega
          subst hkL
          obtain ⟨Fw, hFw⟩ : ∃ Fw, Fw = fwds tbl S n zs (List.replicate n 1) := ⟨_, rfl⟩
          have hfe : fwds tbl S n (zs.take L) (List.replicate n 1) = Fw := by rw [hFw, List.take_of_length_le (by have := HL.out; omega)]
          rw [hfe] at KO
          have hsm : Sm 3486784401 Fw := by
            rw [hFw]
            exact Sm.le (fwds_sm tbl S n (by have := HSn.out; omega) (by have := HSn.out; omega) _ _ _ (by simp) one_sm) (pow_bd HSn.out.1.2 (by have := HL.out; omega) (by have := HSn.out; omega))
          have HFL : Hid (Fw.length = n) := by simp only [Hid]; rw [hFw]; exact fwds_len tbl S n _ _ (by simp)
          have HNB : Hid (∀ k, 0 ≤ (Fw.take k).sum ∧ (Fw.take k).sum ≤ 1000000000000) := fun k => ⟨(take_le Fw k hsm.1).1, by have h1 := (take_le Fw k hsm.1).2; have h2 := hsm.2; omega⟩
          have HCB : Hid (∀ k, 0 ≤ Fw.getD k 0 ∧ Fw.getD k 0 ≤ 1000000000000) := fun k => ⟨hsm.1 k, by have h1 := (hsm.bd k).2; omega⟩
          have HQ2 : Hid (q = Fw.sum) := by simp only [Hid]; rw [HQ.out, hFw]
          clear hfe hsm hFw
          obtain ⟨wz, hwz⟩ : ∃ x, x = wr := ⟨_, rfl⟩
          rw [← hwz] at KB KR KO ⊢
          clear hwz hlt
          go_wp2
          go_loopw [15, 76] (fun acc i wx => ∃ k : Nat, k ≤ n ∧ i = .int .i64 (k : Int) ∧ acc = .int .i64 (Fw.take k).sum ∧ wx = wz) (fun acc i _ => n - (intOf i).toNat)
          case atStart => exact ⟨0, Nat.zero_le _, rfl, by simp, rfl⟩
          case round =>
            obtain ⟨k, hk, rfl, rfl, rfl⟩ := hrel
            by_cases hlt : k < n
            · have hcx := KO.out.cell (i := k) (by rw [HFL.out]; exact hlt)
              have hnx := take_sum Fw k
              obtain ⟨x1, x2⟩ := HNB.out k
              obtain ⟨c1, c2⟩ := HCB.out k
              obtain ⟨X, hX⟩ : ∃ X, X = (Fw.take k).sum := ⟨_, rfl⟩
              obtain ⟨Y, hY⟩ : ∃ Y, Y = Fw.getD k 0 := ⟨_, rfl⟩
              rw [← hX] at x1 x2 hnx ⊢
              rw [← hY] at c1 c2 hcx hnx
              have HNX := hid hnx
              clear hX hY hnx
              go_wp2
              go_roundw
              case rel => exact ⟨k + 1, by omega, by go_num, by rw [HNX.out], trivial⟩
              case measure => simp [intOf]; omega
            · have hkn : n = k := by omega
              subst hkn
              have e : Fw.take n = Fw := by rw [← HFL.out]; exact List.take_length
              rw [e, ← HQ2.out]
              clear e
              go_wp2
              go_ret2
              exact ⟨rfl, KB.out⟩
end Go.Proofs.Ytjeoccjemkdbiaa.Wbs
