/- Words that come behind steps: powers, and one step of a word. -/
import Derived.Test.YtbnndbciimfciaaCwP
import Derived.Test.YtbnndbciimfciaaTold
import Derived.Test.YtbnndbciimfciaaFNew
import Derived.Test.YtbnndbciimfciaaBox
import Derived.WalkKit
import Derived.OwnWalkIn
import Derived.TacticsInMore
import Derived.LoopNIn
import Derived.LoopIn
import Derived.Laws.Rows
import Derived.Deep.Cut
namespace Go.Proofs.Ytbnndbciimfciaa.CwI
open Go.RowKit Go.Proofs.Ytbnndbciimfciaa.Rd Go.Proofs.Ytbnndbciimfciaa.Help Go.Proofs.Ytbnndbciimfciaa.Ring Go.Proofs.Ytbnndbciimfciaa.Small Go.Proofs.Ytbnndbciimfciaa.Num Go.Proofs.Ytbnndbciimfciaa.Keep Go.Proofs.Ytbnndbciimfciaa.Rule Go.Proofs.Ytbnndbciimfciaa.Dig Go.Proofs.Ytbnndbciimfciaa.DigP Go.Proofs.Ytbnndbciimfciaa.CwP
set_option linter.unusedVariables false
set_option linter.unusedSimpArgs false

theorem pow_in {s : Int} (hs : 2 ≤ s ∧ s ≤ 3) (k : Nat) (hk : k ≤ 16) : 1 ≤ s ^ k ∧ s ^ k ≤ 43046721 := by
  have := pow_pos' hs k
  exact ⟨by omega, pow_16 hs hk⟩
set_option maxHeartbeats 400000 in
theorem powN {w : World} {st : Int} {k : Nat} (hst : 2 ≤ st ∧ st ≤ 3) (hk : k ≤ 16) :
    Calls Try.prog 33 #[.int .i64 st, .int .i64 k] w fun e w' => e = .returned (.int .i64 (st ^ k)) ∧ w = w' := by
  have HB : Hid (∀ j, j ≤ 16 → 1 ≤ st ^ j ∧ st ^ j ≤ 43046721) := fun j hj => pow_in hst j hj
  go_enter Try.func33, Try.ntmps33
  go_wp2
  go_loop [5, 7] (fun p t => ∃ j : Nat, j ≤ k ∧ t = .int .i64 (j : Int) ∧ p = .int .i64 (st ^ j)) (fun _ t => k - (intOf t).toNat)
  case atStart => exact ⟨0, Nat.zero_le _, by simp, by simp⟩
  case round =>
    obtain ⟨j, hj, rfl, rfl⟩ := hrel
    by_cases hlt : j < k
    · have b2 := HB.out (j + 1) (by omega)
      obtain ⟨P, hP⟩ : ∃ P, P = st ^ j := ⟨_, rfl⟩
      obtain ⟨P2, hP2⟩ : ∃ P2, P2 = st ^ (j + 1) := ⟨_, rfl⟩
      have he : P * st = P2 := by rw [hP, hP2, Int.pow_succ]
      rw [← hP2] at b2
      obtain ⟨b3, b4⟩ := b2
      rw [← hP]
      have H2 : Hid (P2 = st ^ (j + 1)) := hP2
      clear hP hP2
      go_wp2
      go_round
      case rel => exact ⟨j + 1, by omega, by go_num, by rw [H2.out]⟩
      case measure => simp [intOf]; omega
    · have hkn : k = j := by omega
      subst hkn
      obtain ⟨P, hP⟩ : ∃ P, P = st ^ k := ⟨_, rfl⟩
      have HPk : Hid (P = st ^ k) := hP
      rw [← hP]
      clear hP
      go_wp2
      go_ret
      exact ⟨by rw [← HPk.out]; rfl, rfl⟩
set_option maxHeartbeats 400000 in
theorem powS {w : World} {st : Int} {k : Nat} (hst : 2 ≤ st ∧ st ≤ 3) (hk : k ≤ 16) :
    Calls Try.prog 24 #[.int .i64 st, .int .i64 k] w fun e w' => e = .returned (.int .i64 (st ^ k)) ∧ w = w' := by
  have HB : Hid (∀ j, j ≤ 16 → 1 ≤ st ^ j ∧ st ^ j ≤ 43046721) := fun j hj => pow_in hst j hj
  go_enter Try.func24, Try.ntmps24
  go_wp2
  go_loop [1, 5] (fun t p => ∃ j : Nat, j ≤ k ∧ t = .int .i64 ((k : Int) - j) ∧ p = .int .i64 (st ^ j)) (fun t _ => (intOf t).toNat)
  case atStart => exact ⟨0, Nat.zero_le _, by simp, by simp⟩
  case round =>
    obtain ⟨j, hj, rfl, rfl⟩ := hrel
    by_cases hlt : j < k
    · have b2 := HB.out (j + 1) (by omega)
      obtain ⟨P, hP⟩ : ∃ P, P = st ^ j := ⟨_, rfl⟩
      obtain ⟨P2, hP2⟩ : ∃ P2, P2 = st ^ (j + 1) := ⟨_, rfl⟩
      have he : P * st = P2 := by rw [hP, hP2, Int.pow_succ]
      rw [← hP2] at b2
      obtain ⟨b3, b4⟩ := b2
      rw [← hP]
      have H2 : Hid (P2 = st ^ (j + 1)) := hP2
      have hki : (0 : Int) < (k : Int) - j := by omega
      clear hP hP2
      go_wp2
      go_round
      case rel => exact ⟨j + 1, by omega, by go_num, by rw [H2.out]⟩
      case measure => simp [intOf]; omega
    · have hkn : k = j := by omega
      subst hkn
      obtain ⟨P, hP⟩ : ∃ P, P = st ^ k := ⟨_, rfl⟩
      have HPk : Hid (P = st ^ k) := hP
      rw [← hP]
      clear hP
      go_wp2
      go_ret
      exact ⟨by rw [← HPk.out]; rfl, rfl⟩

/-- The first k cells of what a word becomes, the others 0. -/
def nxL (tbl : List Int) (s r : Int) (zs : List Int) (M k : Nat) : List Int := (nextW tbl s r zs).take k ++ List.replicate (M - k) 0
theorem nx_len {tbl : List Int} {s r : Int} {zs : List Int} {M k : Nat} (hM : (nextW tbl s r zs).length = M) (hk : k ≤ M) : (nxL tbl s r zs M k).length = M := by simp [nxL, hM]; omega
theorem nx_set {tbl : List Int} {s r : Int} {zs : List Int} {M k : Nat} (hM : (nextW tbl s r zs).length = M) (hk : k < M) : (nxL tbl s r zs M k).set k (tbl.getD (numL ((zs.drop k).take (2 * r + 1).toNat) s).toNat 0) = nxL tbl s r zs M (k + 1) := by
  have hl : k < (nextW tbl s r zs).length := by omega
  have hg : (nextW tbl s r zs)[k] = tbl.getD (numL ((zs.drop k).take (2 * r + 1).toNat) s).toNat 0 := by simp [nextW]
  unfold nxL
  rw [List.take_succ_eq_append_getElem hl, hg, List.append_assoc]
  have e : List.replicate (M - k) (0 : Int) = 0 :: List.replicate (M - (k + 1)) 0 := by
    rw [← List.replicate_succ]; congr 1; omega
  rw [e, List.set_append_right _ _ (by simp; omega)]
  have e2 : k - ((nextW tbl s r zs).take k).length = 0 := by simp; omega
  rw [e2]; rfl

set_option maxHeartbeats 4000000 in
theorem nextWord {w : World} {s r : Int} {bt b : Nat} {vt v : Value} {tbl zs : List Int} (hk : Ok tbl s r) (ht : Rd w bt vt tbl) (h : Rd w b v zs) (hz : (2 * r + 1).toNat ≤ zs.length ∧ zs.length ≤ 16) (ha : allB zs s = true) :
    Calls Try.prog 34 #[ruleV s r vt, v] w fun e w' => ∃ bN M, M = (nextW tbl s r zs).length ∧ e = .returned (.slice (some ⟨bN, 0, none⟩) M M) ∧ Rd.Own 2 w' bN (.slice (some ⟨bN, 0, none⟩) M M) (nextW tbl s r zs) ∧ w.heap.size ≤ bN ∧ Below w.heap.size w w' := by
  have HK := hid hk
  have HT := hid ht
  have HH := hid h
  have HA := hid ha
  have hs := hk.st
  have hr := hk.re
  obtain ⟨ao, cap, rfl, hc, hm, h4⟩ := ht
  have hN0 : 0 < tbl.length := by have h1 := hk.len; have h2 := pow_pos' hs (2 * r + 1).toNat; omega
  obtain ⟨off, rfl, hb, hcell⟩ := h4 hN0
  obtain ⟨ao2, cw, rfl, hcw, hmw, hw4⟩ := h
  obtain ⟨ow, rfl, hbw, hwcell⟩ := hw4 (by omega)
  obtain ⟨L, hL⟩ : ∃ L, L = zs.length := ⟨_, rfl⟩
  obtain ⟨R, rfl⟩ : ∃ R : Nat, r = (R : Int) := ⟨r.toNat, by omega⟩
  obtain ⟨W, hWd⟩ : ∃ W, W = 2 * R + 1 := ⟨_, rfl⟩
  have HWn : Hid ((2 * (R : Int) + 1).toNat = W) := by simp only [Hid]; omega
  have HWi : Hid (2 * (R : Int) + 1 = (W : Int)) := by simp only [Hid]; omega
  obtain ⟨M, hM⟩ : ∃ M, M = L - 2 * R := ⟨_, rfl⟩
  have hml : (nextW tbl s (R : Int) zs).length = M := by rw [nextW_length, hM, hL]; omega
  have HML := hid hml
  obtain ⟨N, hN⟩ : ∃ N, N = tbl.length := ⟨_, rfl⟩
  rw [← hN] at HT hc ⊢
  rw [← hL] at HH hcw hz ⊢
  have HL := hid hL
  have HD : Hid (M + 2 * R = L ∧ R ≤ 2 ∧ L ≤ 16 ∧ 1 ≤ M ∧ W = 2 * R + 1) := by simp only [Hid]; omega
  have HS := hid hs
  have HR := hid hr
  have hmk := run_make_row' (P := Try.prog) 22 2 (.int .i64 0) 8 Try.underlying22 infoI rfl .i64 .i64 M (by omega) (by omega)
  have hMi : (L : Int) - (W : Int) + 1 = (M : Int) := by omega
  have hw1 : wrap64 ((L : Int) - (W : Int)) = (L : Int) - (W : Int) := wrap_id (by omega) (by omega)
  have hw2 : wrap64 ((L : Int) - (W : Int) + 1) = (M : Int) := by rw [hMi]; exact wrap_id (by omega) (by omega)
  have HMKs : Hid ((∀ w : World, (Instr.makeSlice 22 (.int .i64 ((L : Int) - (W : Int) + 1)) (.int .i64 ((L : Int) - (W : Int) + 1))).run Try.prog w = .ok (.slice (some ⟨w.heap.size, 0, none⟩) M M) (w.alloc (Obj.cells (madeCells #[.int .i64 0] M) 2))) ∧ wrap64 ((L : Int) - (W : Int)) = (L : Int) - (W : Int) ∧ wrap64 ((L : Int) - (W : Int) + 1) = (L : Int) - (W : Int) + 1) := ⟨by rw [hMi]; exact hmk, hw1, by rw [hw2, hMi]⟩
  have hcwb : L ≤ cw := hcw
  have HCW := hid hcwb
  have hLM : L ≤ 16 := hz.2
  clear hc hm h4 hb hcell hcw hmw hw4 hbw hwcell hN hL hM hml hz hs hr hN0 hmk hMi hw1 hw2 hcwb ha hWd
  go_enter Try.func34, Try.ntmps34
  go_wp2_with fail
  obtain ⟨w1, hW⟩ : ∃ x, x = w.alloc (Obj.cells #[.int .i64 s, .int .i64 (R : Int), (.slice (some ⟨bt, off, none⟩) N cap)] 28) := ⟨_, rfl⟩
  obtain ⟨NR, hN⟩ : ∃ x, x = w.heap.size := ⟨_, rfl⟩
  have HB1 : Hid (Below w.heap.size w w1) := by simp only [Hid]; rw [hW]; exact below1 _ _
  have KR1 : Hid (w1.heap[NR]? = some (Obj.cells #[.int .i64 s, .int .i64 (R : Int), (.slice (some ⟨bt, off, none⟩) N cap)] 28)) := by simp only [Hid]; rw [hW]; exact FNew.heap_top hN
  have HNR : Hid (w.heap.size ≤ NR) := by simp only [Hid]; omega
  simp only [← hW, ← hN]
  clear hW hN
  go_at_call 38
  refine shapeOf.mono ?_
  rintro e w2 ⟨rfl, bel⟩
  have KR2 := hid (Box.heap_keep bel KR1.out)
  have HB2 := hid (HB1.out.trans (bel.mono HB1.out.size))
  clear bel
  go_wp2_with fail
  go_at_call 44
  refine (Rule.wide HR.out).mono ?_
  rw [HWi.out]
  rintro e w3 ⟨rfl, bel⟩
  have KR3 := hid (Box.heap_keep bel KR2.out)
  have HB3 := hid (HB2.out.trans (bel.mono HB2.out.size))
  clear bel
  have hmk := HMKs.out.1
  have hw1 := HMKs.out.2.1
  have hw2 := HMKs.out.2.2
  go_wp2
  obtain ⟨w4, hW⟩ : ∃ x, x = w3.alloc (Obj.cells (madeCells #[.int .i64 0] M) 2) := ⟨_, rfl⟩
  obtain ⟨bN, hbN⟩ : ∃ x, x = w3.heap.size := ⟨_, rfl⟩
  have oT : Rd.Own 2 w4 bN (.slice (some ⟨bN, 0, none⟩) M M) (List.replicate M 0) := by
    have := Own.made 2 w3 M (by have := HD.out; unfold maxLen; omega)
    rw [hW, hbN]; exact this
  have bel : Below w3.heap.size w3 w4 := by rw [hW]; exact below1 _ _
  have KR4 := hid (Box.heap_keep bel KR3.out)
  have HB4 := hid (HB3.out.trans (bel.mono HB3.out.size))
  have HNE : Hid (bN ≠ NR) := by have := Box.heap_lt KR3.out; simp only [Hid]; omega
  have HLO : Hid (w.heap.size ≤ bN) := by have := HB3.out.size; simp only [Hid]; omega
  have OT : Hid (Rd.Own 2 w4 bN (.slice (some ⟨bN, 0, none⟩) M M) (nxL tbl s (R : Int) zs M 0)) := by simp only [Hid]; simpa [nxL] using oT
  simp only [← hW, ← hbN]
  clear hW hbN oT bel hmk hw1 hw2
  go_loopw [19] (fun i wr => ∃ k : Nat, k ≤ M ∧ i = .int .i64 (k : Int) ∧ Below w.heap.size w wr ∧ wr.heap[NR]? = some (Obj.cells #[.int .i64 s, .int .i64 (R : Int), (.slice (some ⟨bt, off, none⟩) N cap)] 28) ∧ Rd.Own 2 wr bN (.slice (some ⟨bN, 0, none⟩) M M) (nxL tbl s (R : Int) zs M k)) (fun i _ => M - (intOf i).toNat)
  case atStart => exact ⟨0, Nat.zero_le _, rfl, HB4.out, KR4.out, OT.out⟩
  case round =>
    clear HB4 KR4 OT
    obtain ⟨i, hi, rfl, hB, hR, hO⟩ := hrel
    have KB := hid hB
    have HKR := hid hR
    have KO := hid hO
    clear hB hO
    by_cases hlt : i < M
    · have HI : Hid (i < M ∧ i + W ≤ L ∧ 1 ≤ W) := by have := HD.out; simp only [Hid]; omega
      have r0 := Go.Joins.cell_of_block hR 0
      have r1 := Go.Joins.cell_of_block hR 1
      have r2 := Go.Joins.cell_of_block hR 2
      simp only [List.getElem?_toArray, List.getElem?_cons_zero, List.getElem?_cons_succ] at r0 r1 r2
      obtain ⟨y, hy⟩ : ∃ y, y = tbl.getD (numL ((zs.drop i).take W) s).toNat 0 := ⟨_, rfl⟩
      have HSET : Hid ((nxL tbl s (R : Int) zs M i).set i y = nxL tbl s (R : Int) zs M (i + 1)) := by
        simp only [Hid]; rw [hy, ← HWn.out]; exact nx_set HML.out hlt
      have HLN : Hid ((nxL tbl s (R : Int) zs M i).length = M) := nx_len HML.out hi
      have hcall : Calls Try.prog 45 #[ruleV s (R : Int) (.slice (some ⟨bt, off, none⟩) N cap), .slice (some ⟨b, ow + i, none⟩) W (cw - i)] wr.drew fun e w' => e = .returned (.int .i64 y) ∧ Below wr.drew.heap.size wr.drew w' := by
        rw [hy]
        have hpa : allB ((zs.drop i).take W) s = true := all_take (all_drop HA.out i) W
        have hpl : ((zs.drop i).take W).length = W := by have := HL.out; have := HI.out; simp; omega
        refine Told.toldOf (HT.out.keep KB.out.drew (Nat.le_refl _)) (Told.rd_part (HH.out.keep KB.out.drew (Nat.le_refl _)) i W (by have := HL.out; have := HI.out; omega)) HS.out (by rw [hpl]; have := HD.out; have := HI.out; omega) hpa ?_
        have h1 := (numL_bd HS.out hpa).2
        rw [hpl] at h1
        have h2 := HK.out.len
        rw [HWn.out] at h2
        omega
      have HCL := hid hcall
      have hiM : (i : Int) < (M : Int) := by omega
      have hw3 : IntKind.i64.wrap ((i : Int) + (W : Int)) = ((i + W : Nat) : Int) := by
        have h5 := wrap_id (x := (i : Int) + (W : Int)) (by have := HI.out; omega) (by have := HI.out; omega)
        rw [IntKind.wrap_i64]; unfold wrap64 at h5; rw [h5]; simp
      have hb1 : i + W ≤ cw := by have := HI.out; have := HCW.out; omega
      have hb2 : i ≤ i + W := by omega
      have hM16 : M ≤ 16 := by have := HD.out; omega
      have hb6 : (0 : Int) ≤ (i : Int) + (W : Int) ∧ (i : Int) + (W : Int) ≤ (cw : Int) := by omega
      have hb7 : ((i : Int) + (W : Int)).toNat = i + W := by omega
      have hb8 : i + W - i = W := by omega
      have hb3 : ¬ cw = i := by have := HI.out; omega
      clear hy hcall hR hi
      go_upto_region 6 with fail
      refine wp_region_held_drew (S := (fun ww => ww.cell? ⟨NR, 0, none⟩ = some (.int .i64 s) ∧ ww.cell? ⟨NR, 1, none⟩ = some (.int .i64 (R : Int)) ∧ ww.cell? ⟨NR, 2, none⟩ = some (.slice (some ⟨bt, off, none⟩) N cap))) (by kernel_rfl) ?_ (fun hHeld => ?_)
      · ((try dsimp only); exact ⟨r0, r1, r2⟩)
      (refine wpAnyH_take (i := 0) (v := ?_) rfl ?_ ?_ ?_ (fun _ _ _ h => h) (Or.inl ⟨?_, ?_⟩) ?_ ?_; rotate_left 1; (focus decide +kernel); (focus decide +kernel); (focus decide +kernel); (focus rfl); (focus (intro w hSw; (try dsimp only at hSw); go_simp; (try (with_reducible rfl)); done)); (focus assumption); (try simp only [Act.put, List.setIfInBounds_toArray, List.set_cons_zero, List.set_cons_succ, List.getElem_toArray, List.getElem_cons_succ, List.getElem_cons_zero]))
      (refine wpAnyH_take (i := 1) (v := ?_) rfl ?_ ?_ ?_ (fun _ _ _ h => h) (Or.inl ⟨?_, ?_⟩) ?_ ?_; rotate_left 1; (focus decide +kernel); (focus decide +kernel); (focus decide +kernel); (focus rfl); (focus (intro w hSw; (try dsimp only at hSw); go_simp; (try (with_reducible rfl)); done)); (focus assumption); (try simp only [Act.put, List.setIfInBounds_toArray, List.set_cons_zero, List.set_cons_succ, List.getElem_toArray, List.getElem_cons_succ, List.getElem_cons_zero]))
      (refine wpAnyH_take (i := 2) (v := ?_) rfl ?_ ?_ ?_ (fun _ _ _ h => h) (Or.inl ⟨?_, ?_⟩) ?_ ?_; rotate_left 1; (focus decide +kernel); (focus decide +kernel); (focus decide +kernel); (focus rfl); (focus (intro w hSw; (try dsimp only at hSw); go_simp; (try (with_reducible rfl)); done)); (focus assumption); (try simp only [Act.put, List.setIfInBounds_toArray, List.set_cons_zero, List.set_cons_succ, List.getElem_toArray, List.getElem_cons_succ, List.getElem_cons_zero]))
      (refine wpAnyH_take (i := 3) (v := ?_) rfl ?_ ?_ ?_ (fun _ _ _ h => h) (Or.inl ⟨?_, ?_⟩) ?_ ?_; rotate_left 1; (focus decide +kernel); (focus decide +kernel); (focus decide +kernel); (focus rfl); (focus (intro w hSw; (try dsimp only at hSw); go_simp; (try (with_reducible rfl)); done)); (focus assumption); (try simp only [Act.put, List.setIfInBounds_toArray, List.set_cons_zero, List.set_cons_succ, List.getElem_toArray, List.getElem_cons_succ, List.getElem_cons_zero]))
      (refine wpAnyH_take (i := 4) (v := ?_) rfl ?_ ?_ ?_ (fun _ _ _ h => h) (Or.inl ⟨?_, ?_⟩) ?_ ?_; rotate_left 1; (focus decide +kernel); (focus decide +kernel); (focus decide +kernel); (focus rfl); (focus (intro w hSw; (try dsimp only at hSw); go_simp; (try (with_reducible rfl)); done)); (focus assumption); (try simp only [Act.put, List.setIfInBounds_toArray, List.set_cons_zero, List.set_cons_succ, List.getElem_toArray, List.getElem_cons_succ, List.getElem_cons_zero]))
      (refine wpAnyH_take (i := 5) (v := ?_) rfl ?_ ?_ ?_ (fun _ _ _ h => h) (Or.inl ⟨?_, ?_⟩) ?_ ?_; rotate_left 1; (focus decide +kernel); (focus decide +kernel); (focus decide +kernel); (focus rfl); (focus (intro w hSw; (try dsimp only at hSw); go_simp; (try (with_reducible rfl)); done)); (focus assumption); (try simp only [Act.put, List.setIfInBounds_toArray, List.set_cons_zero, List.set_cons_succ, List.getElem_toArray, List.getElem_cons_succ, List.getElem_cons_zero]))
      (refine wpAnyH_take (i := 6) (v := ?_) rfl ?_ ?_ ?_ (fun _ _ _ h => h) (Or.inl ⟨?_, ?_⟩) ?_ ?_; rotate_left 1; (focus decide +kernel); (focus decide +kernel); (focus decide +kernel); (focus rfl); (focus (intro w hSw; (try dsimp only at hSw); go_simp; (try (with_reducible rfl)); done)); (focus assumption); (try simp only [Act.put, List.setIfInBounds_toArray, List.set_cons_zero, List.set_cons_succ, List.getElem_toArray, List.getElem_cons_succ, List.getElem_cons_zero]))
      (refine wpAnyH_take (i := 7) (v := ?_) rfl ?_ ?_ ?_ (fun _ _ _ h => h) (Or.inl ⟨?_, ?_⟩) ?_ ?_; rotate_left 1; (focus decide +kernel); (focus decide +kernel); (focus decide +kernel); (focus rfl); (focus (intro w hSw; (try dsimp only at hSw); go_simp; (try (with_reducible rfl)); done)); (focus assumption); (try simp only [Act.put, List.setIfInBounds_toArray, List.set_cons_zero, List.set_cons_succ, List.getElem_toArray, List.getElem_cons_succ, List.getElem_cons_zero]))
      (refine wpAnyH_take (i := 8) (v := ?_) rfl ?_ ?_ ?_ (fun _ _ _ h => h) (Or.inl ⟨?_, ?_⟩) ?_ ?_; rotate_left 1; (focus decide +kernel); (focus decide +kernel); (focus decide +kernel); (focus rfl); (focus (intro w hSw; (try dsimp only at hSw); go_simp; (try (with_reducible rfl)); done)); (focus assumption); (try simp only [Act.put, List.setIfInBounds_toArray, List.set_cons_zero, List.set_cons_succ, List.getElem_toArray, List.getElem_cons_succ, List.getElem_cons_zero]))
      refine wpAnyH_ready (rs := [9]) ?_ (by simp) ?_
      · decide +kernel
      refine AllReadyH.cons rfl (fun K hK => ?_) AllReadyH.nil
      go_simp
      go_at_call 45
      refine HCL.out.mono ?_
      rintro e w2 ⟨rfl, bel⟩
      have kR2 := Box.heap_keep bel HKR.out
      have HB2 := hid (KB.out.drew.trans (bel.mono KB.out.drew.size))
      have oN2 := (KO.out.keep (Go.Proofs.Ytbnndbciimfciaa.Help.below_drewN _ _ 1)).keep bel
      refine hK.out _ _ ?_ (fun hHeld2 => ?_)
      · obtain ⟨e0, e1, e2⟩ := hHeld; exact ⟨cell_keep bel e0, cell_keep bel e1, cell_keep bel e2⟩
      clear hK K hHeld bel
      have hHeld := hHeld2
      clear hHeld2
      (try simp only [Act.put, List.setIfInBounds_toArray, List.set_cons_zero, List.set_cons_succ, List.getElem_toArray, List.getElem_cons_succ, List.getElem_cons_zero])
      (refine wpAnyH_take (i := 10) (v := ?_) rfl ?_ ?_ ?_ (fun _ _ _ h => h) (Or.inl ⟨?_, ?_⟩) ?_ ?_; rotate_left 1; (focus decide +kernel); (focus decide +kernel); (focus decide +kernel); (focus rfl); (focus (intro w hSw; (try dsimp only at hSw); go_simp; (try (with_reducible rfl)); done)); (focus assumption); (try simp only [Act.put, List.setIfInBounds_toArray, List.set_cons_zero, List.set_cons_succ, List.getElem_toArray, List.getElem_cons_succ, List.getElem_cons_zero]))
      refine wpAnyH_ready (rs := [11]) ?_ (by simp) ?_
      · decide +kernel
      refine AllReadyH.cons rfl (fun K hK => ?_) AllReadyH.nil
      have q1 := oN2.free i
      have q2 := oN2.cell (i := i) (by rw [HLN.out]; exact HI.out.1)
      go_simp
      refine hK.out _ _ ?_ (fun hHeld2 => ?_)
      · obtain ⟨e0, e1, e2⟩ := hHeld; (try dsimp only); exact ⟨(World.cell?_setCell_far _ _ _ _ HNE.out).trans e0, (World.cell?_setCell_far _ _ _ _ HNE.out).trans e1, (World.cell?_setCell_far _ _ _ _ HNE.out).trans e2⟩
      clear hK K hHeld2 hHeld q1 q2
      (try simp only [Act.put, List.setIfInBounds_toArray, List.set_cons_zero, List.set_cons_succ, List.getElem_toArray, List.getElem_cons_succ, List.getElem_cons_zero])
      refine wpAnyH_done (by kernel_rfl) ?_ _
      have oS := oN2.set i y
      rw [HSET.out] at oS
      have bS := HB2.out.setCell (p := ⟨bN, i, none⟩) HLO.out (.int .i64 y)
      have rS := (Below.heap_setCell w2 ⟨bN, i, none⟩ (.int .i64 y) NR (Ne.symm HNE.out)).trans kR2
      have HOS := hid oS
      have HBS := hid bS
      have HRS := hid rS
      clear oS bS rS oN2 kR2
      go_wp2
      go_roundw
      case rel => exact ⟨i + 1, HI.out.1, by go_num, HBS.out, HRS.out, HOS.out⟩
      case measure => have := HI.out; simp [intOf]; omega
    · have hkM : M = i := by omega
      subst hkM
      have HF : Hid (Rd.Own 2 wr bN (.slice (some ⟨bN, 0, none⟩) M M) (nextW tbl s (R : Int) zs)) := by
        have h5 := KO.out
        unfold nxL at h5
        rw [List.take_of_length_le (by rw [HML.out]; exact Nat.le_refl _), Nat.sub_self] at h5
        simp only [Hid]
        simpa using h5
      clear KO hR
      go_wp2
      go_ret
      exact ⟨bN, M, HML.out.symm, rfl, HF.out, HLO.out, KB.out⟩
end Go.Proofs.Ytbnndbciimfciaa.CwI
