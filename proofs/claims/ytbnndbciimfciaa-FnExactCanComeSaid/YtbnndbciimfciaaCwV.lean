/- CanCome, WordsThatCome: the model's side, and both. -/
import Derived.Test.YtbnndbciimfciaaCwU
namespace Go.Proofs.Ytbnndbciimfciaa.CwV
open Go.RowKit Go.Proofs.Ytbnndbciimfciaa.Rd Go.Proofs.Ytbnndbciimfciaa.Help Go.Proofs.Ytbnndbciimfciaa.Ring Go.Proofs.Ytbnndbciimfciaa.Small Go.Proofs.Ytbnndbciimfciaa.Num Go.Proofs.Ytbnndbciimfciaa.Keep Go.Proofs.Ytbnndbciimfciaa.Rule Go.Proofs.Ytbnndbciimfciaa.Dig Go.Proofs.Ytbnndbciimfciaa.DigP Go.Proofs.Ytbnndbciimfciaa.CwP Go.Proofs.Ytbnndbciimfciaa.CwI Go.Proofs.Ytbnndbciimfciaa.CwC Go.Proofs.Ytbnndbciimfciaa.CwO Go.Proofs.Ytbnndbciimfciaa.CwT Go.Proofs.Ytbnndbciimfciaa.CwU Go.Proofs.Ytbnndbciimfciaa.Few Go.Proofs.Ytbnndbciimfciaa.Rdb Go.Proofs.Ytbnndbciimfciaa.FVal Go.Proofs.Ytbnndbciimfciaa.Lwd Go.Proofs.Ytbnndbciimfciaa.Spec
set_option linter.unusedVariables false
set_option linter.unusedSimpArgs false

theorem specCanOk {w : World} {s : Int} {R n T : Nat} {b bw : Nat} {v vw : Value} {tbl zs : List Int} (hk : Ok tbl s (R : Int)) (hval : validB s (R : Int) tbl = true) (h : Rd w b v tbl) (hw : Rd w bw vw zs) (hnl : zs.length = n) (hwd : wordB zs s = true) (hn : 1 ≤ n ∧ n ≤ 12 ∧ T ≤ 4) (hf : Few s (n + 2 * R * T)) :
    Calls Try.prog 6 #[ruleV s (R : Int) v, vw, .int .i64 (T : Int)] w fun e w' => e = .returned (.tuple #[.bool ((lo (pw s n) (cm tbl s (R : Int) (n + 2 * R * T) T)).getD (numN s zs) false), .bool true]) ∧ Below w.heap.size w w' := by
  have HK := hid hk
  have HH := hid h
  have HWd := hid hw
  have HV : Hid ((validB s (R : Int) tbl && wordB zs s) = true) := by simp only [Hid]; rw [hval, hwd]; rfl
  have HF := hid hf
  have HNT : Hid (1 ≤ n ∧ T ≤ 4) := ⟨hn.1, hn.2.2⟩
  have HT : Hid (decide (0 ≤ (T : Int) ∧ (T : Int) ≤ 4) = true) := decide_eq_true (by omega)
  have HNL : Hid (zs.length = n ∧ n ≤ 12) := ⟨hnl, hn.2.1⟩
  have hza : allB zs s = true := by unfold wordB at hwd; rw [Bool.and_eq_true] at hwd; exact hwd.2
  have HWA := hid hza
  obtain ⟨jx, hjx⟩ : ∃ jx, jx = numN s zs := ⟨_, rfl⟩
  have HJ : Hid ((jx : Int) = numL zs s) := by simp only [Hid]; rw [hjx]; exact num_cast hk.st hza
  have hjl : jx < pw s n := by rw [hjx, ← hnl]; exact num_lt hk.st hza
  obtain ⟨P, hP⟩ : ∃ P, P = pw s n := ⟨_, rfl⟩
  obtain ⟨CL, hCL⟩ : ∃ CL, CL = lo P (cm tbl s (R : Int) (n + 2 * R * T) T) := ⟨_, rfl⟩
  rw [← hP] at hjl
  have HLN : Hid (CL.length = P) := by simp only [Hid]; rw [hCL]; exact lo_length _ _
  obtain ⟨q, hq⟩ : ∃ q, q = CL.getD jx false := ⟨_, rfl⟩
  have HQQ := hid hq
  have HPd := hid hP
  have HCLd := hid hCL
  rw [← hjx, ← hP, ← hCL, ← hq]
  have hji : (jx : Int) < (P : Int) := by omega
  have hP0 : ((P : Int) == 0) = false := by simp; omega
  have HJL := hid hjl
  obtain ⟨ao, cap, rfl, _, _, _⟩ := h
  obtain ⟨ao2, cw, rfl, _, _, _⟩ := hw
  rw [hnl] at HWd ⊢
  clear hk hval hnl hwd hn hf hza hjx hq hP hCL hjl
  go_enter Try.func6, Try.ntmps6
  go_wp2_with fail
  obtain ⟨w1, hW⟩ : ∃ x, x = w.alloc (Obj.cells #[.int .i64 s, .int .i64 (R : Int), (.slice ao tbl.length cap)] 28) := ⟨_, rfl⟩
  obtain ⟨NR, hN⟩ : ∃ x, x = w.heap.size := ⟨_, rfl⟩
  have HB1 : Hid (Below w.heap.size w w1) := by simp only [Hid]; rw [hW]; exact below1 _ _
  have KR1 : Hid (w1.heap[NR]? = some (Obj.cells #[.int .i64 s, .int .i64 (R : Int), (.slice ao tbl.length cap)] 28)) := by simp only [Hid]; rw [hW]; exact FNew.heap_top hN
  simp only [← hW, ← hN]
  clear hW hN
  go_at_call 15
  refine (l03Word (HH.out.keep HB1.out (Nat.le_refl _)) (HWd.out.keep HB1.out (Nat.le_refl _)) (Go.Joins.cell_of_block KR1.out 0) (Go.Joins.cell_of_block KR1.out 1) (Go.Joins.cell_of_block KR1.out 2)).mono ?_
  rw [HV.out]
  rintro e w2 ⟨rfl, m2, hm⟩
  have bel : Below w1.heap.size w1 w2 := by rw [hm]; exact Spec.below_drewN' _ _ _
  have KR2 := hid (Box.heap_keep bel KR1.out)
  have HB2 := hid (HB1.out.trans (bel.mono HB1.out.size))
  clear bel hm
  go_wp2_with fail
  go_at_call 16
  refine (Spec.quietIn HT.out).mono ?_
  rintro e wx ⟨rfl, rfl⟩
  go_wp2_with fail
  go_at_call 17
  refine (comeOk HK.out (HH.out.keep HB2.out (Nat.le_refl _)) HNT.out rfl HF.out (Go.Joins.cell_of_block KR2.out 0) (Go.Joins.cell_of_block KR2.out 1) (Go.Joins.cell_of_block KR2.out 2)).mono ?_
  rw [← HPd.out, ← HCLd.out]
  rintro e w3 ⟨bC, rfl, oC, bel⟩
  have KR3 := hid (Box.heap_keep bel KR2.out)
  have HB3 := hid (HB2.out.trans (bel.mono HB2.out.size))
  have q1 := oC.cell (i := jx) (by rw [HLN.out]; exact HJL.out)
  rw [← HQQ.out] at q1
  have r0 := Go.Joins.cell_of_block KR3.out 0
  simp only [List.getElem?_toArray, List.getElem?_cons_zero, List.getElem?_cons_succ] at r0
  clear bel oC
  have hnum := specNumber3 (HWd.out.keep HB3.out (Nat.le_refl _)) HK.out.st (by have := HNL.out; omega) HWA.out
  rw [← HJ.out] at hnum
  have HNU := hid hnum
  clear hnum
  go_wp2_with fail
  go_at_call 18
  refine HNU.out.mono ?_
  rintro e w4 ⟨rfl, rfl⟩
  go_wp2
  go_ret2
  exact ⟨rfl, HB3.out⟩

theorem specCanNo {w : World} {s r T : Int} {b bw : Nat} {v vw : Value} {tbl zs : List Int} (h : Rd w b v tbl) (hw : Rd w bw vw zs) (hv : ¬ (askB s r (zs.length : Int) T tbl = true ∧ wordB zs s = true)) :
    Calls Try.prog 6 #[ruleV s r v, vw, .int .i64 T] w fun e w' => e = .returned (.tuple #[.bool false, .bool false]) ∧ Below w.heap.size w w' := by
  have HH := hid h
  have HWd := hid hw
  obtain ⟨ao, cap, rfl, _, _, _⟩ := h
  obtain ⟨ao2, cw, rfl, _, _, _⟩ := hw
  obtain ⟨n, hn⟩ : ∃ n, n = zs.length := ⟨_, rfl⟩
  rw [← hn] at hv HWd ⊢
  cases h1 : (validB s r tbl && wordB zs s) with
  | false =>
    have HV := hid h1
    clear hv h1 hn
    go_enter Try.func6, Try.ntmps6
    go_wp2_with fail
    obtain ⟨w1, hW⟩ : ∃ x, x = w.alloc (Obj.cells #[.int .i64 s, .int .i64 r, (.slice ao tbl.length cap)] 28) := ⟨_, rfl⟩
    obtain ⟨NR, hN⟩ : ∃ x, x = w.heap.size := ⟨_, rfl⟩
    have HB1 : Hid (Below w.heap.size w w1) := by simp only [Hid]; rw [hW]; exact below1 _ _
    have KR1 : Hid (w1.heap[NR]? = some (Obj.cells #[.int .i64 s, .int .i64 r, (.slice ao tbl.length cap)] 28)) := by simp only [Hid]; rw [hW]; exact FNew.heap_top hN
    simp only [← hW, ← hN]
    clear hW hN
    go_at_call 15
    refine (l03Word (HH.out.keep HB1.out (Nat.le_refl _)) (HWd.out.keep HB1.out (Nat.le_refl _)) (Go.Joins.cell_of_block KR1.out 0) (Go.Joins.cell_of_block KR1.out 1) (Go.Joins.cell_of_block KR1.out 2)).mono ?_
    rw [HV.out]
    rintro e w2 ⟨rfl, m2, hm⟩
    have bel : Below w1.heap.size w1 w2 := by rw [hm]; exact Spec.below_drewN' _ _ _
    have KR2 := hid (Box.heap_keep bel KR1.out)
    have HB2 := hid (HB1.out.trans (bel.mono HB1.out.size))
    clear bel hm
    go_wp2
    go_ret2
    exact ⟨rfl, HB2.out⟩
  | true =>
    have HV := hid h1
    rw [Bool.and_eq_true] at h1
    cases h2 : decide (0 ≤ T ∧ T ≤ 4) with
    | false =>
      have HT := hid h2
      clear hv h1 h2 hn
      go_enter Try.func6, Try.ntmps6
      go_wp2_with fail
      obtain ⟨w1, hW⟩ : ∃ x, x = w.alloc (Obj.cells #[.int .i64 s, .int .i64 r, (.slice ao tbl.length cap)] 28) := ⟨_, rfl⟩
      obtain ⟨NR, hN⟩ : ∃ x, x = w.heap.size := ⟨_, rfl⟩
      have HB1 : Hid (Below w.heap.size w w1) := by simp only [Hid]; rw [hW]; exact below1 _ _
      have KR1 : Hid (w1.heap[NR]? = some (Obj.cells #[.int .i64 s, .int .i64 r, (.slice ao tbl.length cap)] 28)) := by simp only [Hid]; rw [hW]; exact FNew.heap_top hN
      simp only [← hW, ← hN]
      clear hW hN
      go_at_call 15
      refine (l03Word (HH.out.keep HB1.out (Nat.le_refl _)) (HWd.out.keep HB1.out (Nat.le_refl _)) (Go.Joins.cell_of_block KR1.out 0) (Go.Joins.cell_of_block KR1.out 1) (Go.Joins.cell_of_block KR1.out 2)).mono ?_
      rw [HV.out]
      rintro e w2 ⟨rfl, m2, hm⟩
      have bel : Below w1.heap.size w1 w2 := by rw [hm]; exact Spec.below_drewN' _ _ _
      have KR2 := hid (Box.heap_keep bel KR1.out)
      have HB2 := hid (HB1.out.trans (bel.mono HB1.out.size))
      clear bel hm
      go_wp2_with fail
      go_at_call 16
      refine (Spec.quietIn HT.out).mono ?_
      rintro e wx ⟨rfl, rfl⟩
      go_wp2
      go_ret2
      exact ⟨rfl, HB2.out⟩
    | true =>
      have HT := hid h2
      have hT := of_decide_eq_true h2
      obtain ⟨hs, hr, hl, ha⟩ := Al.valid_parts h1.1
      have hwl : 1 ≤ n ∧ n ≤ 12 := by
        have h5 := h1.2
        unfold wordB at h5
        rw [Bool.and_eq_true] at h5
        have := of_decide_eq_true h5.1
        omega
      obtain ⟨R, rfl⟩ : ∃ R : Nat, r = (R : Int) := ⟨r.toNat, by omega⟩
      obtain ⟨TT, rfl⟩ : ∃ R : Nat, T = (R : Int) := ⟨T.toNat, by omega⟩
      have hnf : ¬ Few s (n + 2 * R * TT) := fun hf => hv ⟨ask_of h1.1 hwl (by omega) hf, h1.2⟩
      have HNF := hid hnf
      have HS := hid hs
      have HNB : Hid (1 ≤ n ∧ n ≤ 12 ∧ TT ≤ 4 ∧ R ≤ 2) := by simp only [Hid]; omega
      clear hv h1 h2 hn hT hs hr hl ha hwl hnf
      go_enter Try.func6, Try.ntmps6
      go_wp2_with fail
      obtain ⟨w1, hW⟩ : ∃ x, x = w.alloc (Obj.cells #[.int .i64 s, .int .i64 (R : Int), (.slice ao tbl.length cap)] 28) := ⟨_, rfl⟩
      obtain ⟨NR, hN⟩ : ∃ x, x = w.heap.size := ⟨_, rfl⟩
      have HB1 : Hid (Below w.heap.size w w1) := by simp only [Hid]; rw [hW]; exact below1 _ _
      have KR1 : Hid (w1.heap[NR]? = some (Obj.cells #[.int .i64 s, .int .i64 (R : Int), (.slice ao tbl.length cap)] 28)) := by simp only [Hid]; rw [hW]; exact FNew.heap_top hN
      simp only [← hW, ← hN]
      clear hW hN
      go_at_call 15
      refine (l03Word (HH.out.keep HB1.out (Nat.le_refl _)) (HWd.out.keep HB1.out (Nat.le_refl _)) (Go.Joins.cell_of_block KR1.out 0) (Go.Joins.cell_of_block KR1.out 1) (Go.Joins.cell_of_block KR1.out 2)).mono ?_
      rw [HV.out]
      rintro e w2 ⟨rfl, m2, hm⟩
      have bel : Below w1.heap.size w1 w2 := by rw [hm]; exact Spec.below_drewN' _ _ _
      have KR2 := hid (Box.heap_keep bel KR1.out)
      have HB2 := hid (HB1.out.trans (bel.mono HB1.out.size))
      clear bel hm
      go_wp2_with fail
      go_at_call 16
      refine (Spec.quietIn HT.out).mono ?_
      rintro e wx ⟨rfl, rfl⟩
      go_wp2_with fail
      go_at_call 17
      refine (comeNo HS.out HNB.out rfl HNF.out (Go.Joins.cell_of_block KR2.out 0) (Go.Joins.cell_of_block KR2.out 1)).mono ?_
      rintro e wy ⟨rfl, rfl⟩
      go_wp2
      go_ret2
      exact ⟨rfl, HB2.out⟩

set_option maxHeartbeats 2000000 in
theorem specWordsOk {w : World} {s : Int} {R n T : Nat} {b : Nat} {v : Value} {tbl : List Int} (hk : Ok tbl s (R : Int)) (hval : validB s (R : Int) tbl = true) (h : Rd w b v tbl) (hn : 1 ≤ n ∧ n ≤ 12 ∧ T ≤ 4) (hf : Few s (n + 2 * R * T)) :
    Calls Try.prog 12 #[ruleV s (R : Int) v, .int .i64 (n : Int), .int .i64 (T : Int)] w fun e w' => e = .returned (.tuple #[.int .i64 (cn (lo (pw s n) (cm tbl s (R : Int) (n + 2 * R * T) T)) (pw s n) : Nat), .bool true]) ∧ Below w.heap.size w w' := by
  have HK := hid hk
  have HH := hid h
  have HV := hid hval
  have HF := hid hf
  have HNT : Hid (1 ≤ n ∧ T ≤ 4) := ⟨hn.1, hn.2.2⟩
  have HT : Hid (decide (0 ≤ (T : Int) ∧ (T : Int) ≤ 4) = true) := decide_eq_true (by omega)
  have HNI : Hid (decide (1 ≤ (n : Int) ∧ (n : Int) ≤ 12) = true) := decide_eq_true (by omega)
  obtain ⟨P, hP⟩ : ∃ P, P = pw s n := ⟨_, rfl⟩
  have hPb : 1 ≤ P ∧ P ≤ 19683 := by rw [hP]; exact few_bd (few_le hf (by omega))
  obtain ⟨CL, hCL⟩ : ∃ CL, CL = lo P (cm tbl s (R : Int) (n + 2 * R * T) T) := ⟨_, rfl⟩
  have HPd := hid hP
  have HCLd := hid hCL
  rw [← hP, ← hCL]
  have HLN : Hid (CL.length = P) := by simp only [Hid]; rw [hCL]; exact lo_length _ _
  obtain ⟨q, hq⟩ : ∃ q : Int, q = ((cn CL P : Nat) : Int) := ⟨_, rfl⟩
  have HQ := hid hq
  rw [← hq]
  have hP0 : ((P : Int) == 0) = false := by simp; omega
  have hP2 := hPb.2
  obtain ⟨ao, cap, rfl, _, _, _⟩ := h
  clear hk hval hn hf hP hCL hq hPb
  go_enter Try.func12, Try.ntmps12
  go_wp2_with fail
  obtain ⟨w1, hW⟩ : ∃ x, x = w.alloc (Obj.cells #[.int .i64 s, .int .i64 (R : Int), (.slice ao tbl.length cap)] 28) := ⟨_, rfl⟩
  obtain ⟨NR, hN⟩ : ∃ x, x = w.heap.size := ⟨_, rfl⟩
  have HB1 : Hid (Below w.heap.size w w1) := by simp only [Hid]; rw [hW]; exact below1 _ _
  have KR1 : Hid (w1.heap[NR]? = some (Obj.cells #[.int .i64 s, .int .i64 (R : Int), (.slice ao tbl.length cap)] 28)) := by simp only [Hid]; rw [hW]; exact FNew.heap_top hN
  simp only [← hW, ← hN]
  clear hW hN
  go_at_call 23
  refine (SpO.is (o := 0) (HH.out.keep HB1.out (Nat.le_refl _)) (Go.Joins.cell_of_block KR1.out 0) (Go.Joins.cell_of_block KR1.out 1) (Go.Joins.cell_of_block KR1.out 2)).mono ?_
  rw [HV.out]
  rintro e w2 ⟨rfl, m2, hm⟩
  have bel : Below w1.heap.size w1 w2 := by rw [hm]; exact Spec.below_drewN' _ _ _
  have KR2 := hid (Box.heap_keep bel KR1.out)
  have HB2 := hid (HB1.out.trans (bel.mono HB1.out.size))
  clear bel hm
  go_wp2_with fail
  go_at_call 16
  refine (Spec.quietIn HNI.out).mono ?_
  rintro e wx ⟨rfl, rfl⟩
  go_wp2_with fail
  go_at_call 16
  refine (Spec.quietIn HT.out).mono ?_
  rintro e wx ⟨rfl, rfl⟩
  go_wp2_with fail
  go_at_call 17
  refine (comeOk HK.out (HH.out.keep HB2.out (Nat.le_refl _)) HNT.out rfl HF.out (Go.Joins.cell_of_block KR2.out 0) (Go.Joins.cell_of_block KR2.out 1) (Go.Joins.cell_of_block KR2.out 2)).mono ?_
  rw [← HPd.out, ← HCLd.out]
  rintro e w3 ⟨bC, rfl, oC, bel⟩
  have HB3 := hid (HB2.out.trans (bel.mono HB2.out.size))
  have HOC := hid oC
  clear bel oC
  go_wp2
  go_loopw [9, 31] (fun acc i wx => ∃ k : Nat, k ≤ P ∧ i = .int .i64 (k : Int) ∧ acc = .int .i64 ((cn CL k : Nat) : Int) ∧ wx = w3) (fun _ i _ => P - (intOf i).toNat)
  case atStart => exact ⟨0, Nat.zero_le _, rfl, rfl, rfl⟩
  case round =>
    obtain ⟨k, hk, rfl, rfl, rfl⟩ := hrel
    by_cases hlt : k < P
    · have y0 := HOC.out.cell (i := k) (by rw [HLN.out]; exact hlt)
      have hcl := cn_le CL k
      have hki : (k : Int) < (P : Int) := by omega
      have HNX : Hid (cn CL (k + 1) = cn CL k + if CL.getD k false then 1 else 0) := rfl
      obtain ⟨c, hc⟩ : ∃ c, c = CL.getD k false := ⟨_, rfl⟩
      have HCc := hid hc
      rw [← hc] at y0
      obtain ⟨X, hX⟩ : ∃ X, X = cn CL k := ⟨_, rfl⟩
      have HX := hid hX
      rw [← hX] at hcl ⊢
      clear hc hX
      cases c with
      | true =>
        have HN2 : Hid (cn CL (k + 1) = X + 1) := by simp only [Hid]; rw [HNX.out, ← HCc.out, HX.out]; rfl
        go_wp2
        go_roundw
        case rel => exact ⟨k + 1, by omega, by go_num, by rw [HN2.out]; go_num, trivial⟩
        case measure => simp [intOf]; omega
      | false =>
        have HN2 : Hid (cn CL (k + 1) = X) := by simp only [Hid]; rw [HNX.out, ← HCc.out, HX.out]; rfl
        go_wp2
        go_roundw
        case rel => exact ⟨k + 1, by omega, by go_num, by rw [HN2.out], trivial⟩
        case measure => simp [intOf]; omega
    · have hkn : P = k := by omega
      subst hkn
      rw [← HQ.out]
      go_wp2
      go_ret2
      exact ⟨rfl, HB3.out⟩

theorem specWordsNo {w : World} {s r n T : Int} {b : Nat} {v : Value} {tbl : List Int} (h : Rd w b v tbl) (hv : askB s r n T tbl = false) :
    Calls Try.prog 12 #[ruleV s r v, .int .i64 n, .int .i64 T] w fun e w' => e = .returned (.tuple #[.int .i64 0, .bool false]) ∧ Below w.heap.size w w' := by
  have HH := hid h
  obtain ⟨ao, cap, rfl, _, _, _⟩ := h
  cases h1 : validB s r tbl with
  | false =>
    have HV := hid h1
    clear hv h1
    go_enter Try.func12, Try.ntmps12
    go_wp2_with fail
    obtain ⟨w1, hW⟩ : ∃ x, x = w.alloc (Obj.cells #[.int .i64 s, .int .i64 r, (.slice ao tbl.length cap)] 28) := ⟨_, rfl⟩
    obtain ⟨NR, hN⟩ : ∃ x, x = w.heap.size := ⟨_, rfl⟩
    have HB1 : Hid (Below w.heap.size w w1) := by simp only [Hid]; rw [hW]; exact below1 _ _
    have KR1 : Hid (w1.heap[NR]? = some (Obj.cells #[.int .i64 s, .int .i64 r, (.slice ao tbl.length cap)] 28)) := by simp only [Hid]; rw [hW]; exact FNew.heap_top hN
    simp only [← hW, ← hN]
    clear hW hN
    go_at_call 23
    refine (SpO.is (o := 0) (HH.out.keep HB1.out (Nat.le_refl _)) (Go.Joins.cell_of_block KR1.out 0) (Go.Joins.cell_of_block KR1.out 1) (Go.Joins.cell_of_block KR1.out 2)).mono ?_
    rw [HV.out]
    rintro e w2 ⟨rfl, m2, hm⟩
    have bel : Below w1.heap.size w1 w2 := by rw [hm]; exact Spec.below_drewN' _ _ _
    have KR2 := hid (Box.heap_keep bel KR1.out)
    have HB2 := hid (HB1.out.trans (bel.mono HB1.out.size))
    clear bel hm
    go_wp2
    go_ret2
    exact ⟨rfl, HB2.out⟩
  | true =>
    have HV := hid h1
    cases h0 : decide (1 ≤ n ∧ n ≤ 12) with
    | false =>
      have HNI := hid h0
      clear hv h1 h0
      go_enter Try.func12, Try.ntmps12
      go_wp2_with fail
      obtain ⟨w1, hW⟩ : ∃ x, x = w.alloc (Obj.cells #[.int .i64 s, .int .i64 r, (.slice ao tbl.length cap)] 28) := ⟨_, rfl⟩
      obtain ⟨NR, hN⟩ : ∃ x, x = w.heap.size := ⟨_, rfl⟩
      have HB1 : Hid (Below w.heap.size w w1) := by simp only [Hid]; rw [hW]; exact below1 _ _
      have KR1 : Hid (w1.heap[NR]? = some (Obj.cells #[.int .i64 s, .int .i64 r, (.slice ao tbl.length cap)] 28)) := by simp only [Hid]; rw [hW]; exact FNew.heap_top hN
      simp only [← hW, ← hN]
      clear hW hN
      go_at_call 23
      refine (SpO.is (o := 0) (HH.out.keep HB1.out (Nat.le_refl _)) (Go.Joins.cell_of_block KR1.out 0) (Go.Joins.cell_of_block KR1.out 1) (Go.Joins.cell_of_block KR1.out 2)).mono ?_
      rw [HV.out]
      rintro e w2 ⟨rfl, m2, hm⟩
      have bel : Below w1.heap.size w1 w2 := by rw [hm]; exact Spec.below_drewN' _ _ _
      have KR2 := hid (Box.heap_keep bel KR1.out)
      have HB2 := hid (HB1.out.trans (bel.mono HB1.out.size))
      clear bel hm
      go_wp2_with fail
      go_at_call 16
      refine (Spec.quietIn HNI.out).mono ?_
      rintro e wx ⟨rfl, rfl⟩
      go_wp2
      go_ret2
      exact ⟨rfl, HB2.out⟩
    | true =>
      have HNI := hid h0
      cases h2 : decide (0 ≤ T ∧ T ≤ 4) with
      | false =>
        have HT := hid h2
        clear hv h1 h2 h0
        go_enter Try.func12, Try.ntmps12
        go_wp2_with fail
        obtain ⟨w1, hW⟩ : ∃ x, x = w.alloc (Obj.cells #[.int .i64 s, .int .i64 r, (.slice ao tbl.length cap)] 28) := ⟨_, rfl⟩
        obtain ⟨NR, hN⟩ : ∃ x, x = w.heap.size := ⟨_, rfl⟩
        have HB1 : Hid (Below w.heap.size w w1) := by simp only [Hid]; rw [hW]; exact below1 _ _
        have KR1 : Hid (w1.heap[NR]? = some (Obj.cells #[.int .i64 s, .int .i64 r, (.slice ao tbl.length cap)] 28)) := by simp only [Hid]; rw [hW]; exact FNew.heap_top hN
        simp only [← hW, ← hN]
        clear hW hN
        go_at_call 23
        refine (SpO.is (o := 0) (HH.out.keep HB1.out (Nat.le_refl _)) (Go.Joins.cell_of_block KR1.out 0) (Go.Joins.cell_of_block KR1.out 1) (Go.Joins.cell_of_block KR1.out 2)).mono ?_
        rw [HV.out]
        rintro e w2 ⟨rfl, m2, hm⟩
        have bel : Below w1.heap.size w1 w2 := by rw [hm]; exact Spec.below_drewN' _ _ _
        have KR2 := hid (Box.heap_keep bel KR1.out)
        have HB2 := hid (HB1.out.trans (bel.mono HB1.out.size))
        clear bel hm
        go_wp2_with fail
        go_at_call 16
        refine (Spec.quietIn HNI.out).mono ?_
        rintro e wx ⟨rfl, rfl⟩
        go_wp2_with fail
        go_at_call 16
        refine (Spec.quietIn HT.out).mono ?_
        rintro e wx ⟨rfl, rfl⟩
        go_wp2
        go_ret2
        exact ⟨rfl, HB2.out⟩
      | true =>
        have HT := hid h2
        have hT := of_decide_eq_true h2
        have hnn := of_decide_eq_true h0
        obtain ⟨hs, hr, hl, ha⟩ := Al.valid_parts h1
        obtain ⟨R, rfl⟩ : ∃ R : Nat, r = (R : Int) := ⟨r.toNat, by omega⟩
        obtain ⟨TT, rfl⟩ : ∃ R : Nat, T = (R : Int) := ⟨T.toNat, by omega⟩
        obtain ⟨nn, rfl⟩ : ∃ R : Nat, n = (R : Int) := ⟨n.toNat, by omega⟩
        have hnf : ¬ Few s (nn + 2 * R * TT) := fun hf => by
          have h5 := ask_of h1 (show 1 ≤ nn ∧ nn ≤ 12 by omega) (show TT ≤ 4 by omega) hf
          rw [hv] at h5; cases h5
        have HNF := hid hnf
        have HS := hid hs
        have HNB : Hid (1 ≤ nn ∧ nn ≤ 12 ∧ TT ≤ 4 ∧ R ≤ 2) := by simp only [Hid]; omega
        clear hv h1 h2 h0 hT hnn hs hr hl ha hnf
        go_enter Try.func12, Try.ntmps12
        go_wp2_with fail
        obtain ⟨w1, hW⟩ : ∃ x, x = w.alloc (Obj.cells #[.int .i64 s, .int .i64 (R : Int), (.slice ao tbl.length cap)] 28) := ⟨_, rfl⟩
        obtain ⟨NR, hN⟩ : ∃ x, x = w.heap.size := ⟨_, rfl⟩
        have HB1 : Hid (Below w.heap.size w w1) := by simp only [Hid]; rw [hW]; exact below1 _ _
        have KR1 : Hid (w1.heap[NR]? = some (Obj.cells #[.int .i64 s, .int .i64 (R : Int), (.slice ao tbl.length cap)] 28)) := by simp only [Hid]; rw [hW]; exact FNew.heap_top hN
        simp only [← hW, ← hN]
        clear hW hN
        go_at_call 23
        refine (SpO.is (o := 0) (HH.out.keep HB1.out (Nat.le_refl _)) (Go.Joins.cell_of_block KR1.out 0) (Go.Joins.cell_of_block KR1.out 1) (Go.Joins.cell_of_block KR1.out 2)).mono ?_
        rw [HV.out]
        rintro e w2 ⟨rfl, m2, hm⟩
        have bel : Below w1.heap.size w1 w2 := by rw [hm]; exact Spec.below_drewN' _ _ _
        have KR2 := hid (Box.heap_keep bel KR1.out)
        have HB2 := hid (HB1.out.trans (bel.mono HB1.out.size))
        clear bel hm
        go_wp2_with fail
        go_at_call 16
        refine (Spec.quietIn HNI.out).mono ?_
        rintro e wx ⟨rfl, rfl⟩
        go_wp2_with fail
        go_at_call 16
        refine (Spec.quietIn HT.out).mono ?_
        rintro e wx ⟨rfl, rfl⟩
        go_wp2_with fail
        go_at_call 17
        refine (comeNo HS.out HNB.out rfl HNF.out (Go.Joins.cell_of_block KR2.out 0) (Go.Joins.cell_of_block KR2.out 1)).mono ?_
        rintro e wy ⟨rfl, rfl⟩
        go_wp2
        go_ret2
        exact ⟨rfl, HB2.out⟩

theorem agreeCan (s r : Int) (tbl zs : List Int) (T : Int) : ∃ (q0 q1 : Bool),
    (∀ (w : World) (b : Nat) (v : Value), Rd w b v tbl → ∀ (bw : Nat) (vw : Value), Rd w bw vw zs → Calls Try.prog 6 #[ruleV s r v, vw, .int .i64 T] w fun e w' => e = .returned (.tuple #[.bool q0, .bool q1]) ∧ Below w.heap.size w w') ∧
    (∀ (w : World) (b : Nat) (v : Value), Rd w b v tbl → ∀ (bw : Nat) (vw : Value), Rd w bw vw zs → Calls Try.prog 9 #[ruleV s r v, vw, .int .i64 T] w fun e w' => e = .returned (.tuple #[.bool q0, .bool q1]) ∧ Below w.heap.size w w') := by
  by_cases hv : askB s r (zs.length : Int) T tbl = true ∧ wordB zs s = true
  · have hval : validB s r tbl = true := by
      have h5 := hv.1
      unfold askB at h5
      rw [Bool.and_eq_true] at h5; exact h5.1
    obtain ⟨R, nn, TT, rfl, hnn, rfl, hk, hb, hf⟩ := ask_parts hv.1
    have hnl : zs.length = nn := by omega
    refine ⟨_, true, fun w b v h bw vw hw => specCanOk hk hval h hw hnl hv.2 ⟨hb.1, hb.2.1, hb.2.2.1⟩ hf, fun w b v h bw vw hw => canOk hk h hw hnl (by rw [← hnn]; exact hv.1) hv.2 ⟨hb.1, hb.2.1, hb.2.2.1⟩ hf⟩
  · exact ⟨false, false, fun w b v h bw vw hw => specCanNo h hw hv, fun w b v h bw vw hw => canNo h hw hv⟩
theorem agreeWords (s r : Int) (tbl : List Int) (n T : Int) : ∃ (q0 : Int) (q1 : Bool),
    (∀ (w : World) (b : Nat) (v : Value), Rd w b v tbl → Calls Try.prog 12 #[ruleV s r v, .int .i64 n, .int .i64 T] w fun e w' => e = .returned (.tuple #[.int .i64 q0, .bool q1]) ∧ Below w.heap.size w w') ∧
    (∀ (w : World) (b : Nat) (v : Value), Rd w b v tbl → Calls Try.prog 13 #[ruleV s r v, .int .i64 n, .int .i64 T] w fun e w' => e = .returned (.tuple #[.int .i64 q0, .bool q1]) ∧ Below w.heap.size w w') := by
  cases hv : askB s r n T tbl with
  | true =>
    have hval : validB s r tbl = true := by
      have h5 := hv
      unfold askB at h5
      rw [Bool.and_eq_true] at h5; exact h5.1
    obtain ⟨R, nn, TT, rfl, rfl, rfl, hk, hb, hf⟩ := ask_parts hv
    exact ⟨_, true, fun w b v h => specWordsOk hk hval h ⟨hb.1, hb.2.1, hb.2.2.1⟩ hf, fun w b v h => wordsOk hk h hv ⟨hb.1, hb.2.1, hb.2.2.1⟩ hf⟩
  | false => exact ⟨0, false, fun w b v h => specWordsNo h hv, fun w b v h => wordsNo h hv⟩
end Go.Proofs.Ytbnndbciimfciaa.CwV
