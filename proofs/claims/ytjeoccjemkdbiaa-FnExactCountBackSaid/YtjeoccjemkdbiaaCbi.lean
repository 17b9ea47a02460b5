/- How many rings lead to a ring: impl.CountBack. -/
import Derived.Test.YtjeoccjemkdbiaaWto
import Derived.Test.YtjeoccjemkdbiaaStepR
namespace Go.Proofs.Ytjeoccjemkdbiaa.Cbi
open Go.RowKit Go.Shelf Go.Proofs.Ytjeoccjemkdbiaa.Rd Go.Proofs.Ytjeoccjemkdbiaa.Help Go.Proofs.Ytjeoccjemkdbiaa.Ring Go.Proofs.Ytjeoccjemkdbiaa.Small Go.Proofs.Ytjeoccjemkdbiaa.Num Go.Proofs.Ytjeoccjemkdbiaa.Keep Go.Proofs.Ytjeoccjemkdbiaa.Rule Go.Proofs.Ytjeoccjemkdbiaa.Lnk Go.Proofs.Ytjeoccjemkdbiaa.LnkP Go.Proofs.Ytjeoccjemkdbiaa.LnkI Go.Proofs.Ytjeoccjemkdbiaa.Box Go.Proofs.Ytjeoccjemkdbiaa.Bkw Go.Proofs.Ytjeoccjemkdbiaa.FVal Go.Proofs.Ytjeoccjemkdbiaa.Wbi Go.Proofs.Ytjeoccjemkdbiaa.Wto Go.Proofs.Ytjeoccjemkdbiaa.Step
set_option linter.unusedVariables false
set_option linter.unusedSimpArgs false

/-- A rule and a ring of which it can be asked what leads to it. -/
def backB (s r : Int) (tbl zs : List Int) : Bool := fitB s r tbl zs && decide (2 * r + 1 ≤ (zs.length : Int) ∧ (zs.length : Int) ≤ 16)
set_option maxHeartbeats 1000000 in
theorem hasBacks {w : World} {s r : Int} {b bw : Nat} {v vw : Value} {tbl zs : List Int} (h : Rd w b v tbl) (hw : Rd w bw vw zs) :
    Calls Try.prog 48 #[ruleV s r v, vw] w fun e w' => e = .returned (.bool (backB s r tbl zs)) ∧ Below w.heap.size w w' := by
  have HH := hid h
  have HW := hid hw
  obtain ⟨ao, cap, rfl, _, _, _⟩ := h
  obtain ⟨ao2, cw, rfl, hcw, hm, _⟩ := hw
  obtain ⟨L, hLe⟩ : ∃ L, L = zs.length := ⟨_, rfl⟩
  rw [← hLe] at HW hcw ⊢
  have HL := hid hLe
  have hsz : L ≤ 9223372036854775807 := by unfold maxLen at hm; omega
  clear hm hcw
  cases hf : fitB s r tbl zs with
  | false =>
    have e : backB s r tbl zs = false := by unfold backB; rw [hf]; rfl
    rw [e]
    have HF := hid hf
    clear e hf hLe
    go_enter Try.func48, Try.ntmps48
    go_wp2_with fail
    obtain ⟨w1, hW⟩ : ∃ x, x = w.alloc (Obj.cells #[.int .i64 s, .int .i64 r, (.slice ao tbl.length cap)] 28) := ⟨_, rfl⟩
    obtain ⟨NR, hN⟩ : ∃ x, x = w.heap.size := ⟨_, rfl⟩
    have HB1 : Hid (Below w.heap.size w w1) := by simp only [Hid]; rw [hW]; exact below1 _ _
    have kR : w1.heap[NR]? = some (Obj.cells #[.int .i64 s, .int .i64 r, (.slice ao tbl.length cap)] 28) := by rw [hW]; exact FNew.heap_top hN
    simp only [← hW, ← hN]
    clear hW hN
    go_at_call 70
    refine (fits (HH.out.keep HB1.out (Nat.le_refl _)) (HW.out.keep HB1.out (Nat.le_refl _))).mono ?_
    rw [HF.out]
    rintro e w2 ⟨rfl, bel⟩
    have HB2 := hid (HB1.out.trans (bel.mono HB1.out.size))
    clear bel kR
    go_wp2
    go_ret
    exact ⟨rfl, HB2.out⟩
  | true =>
    have HF := hid hf
    have hs := (fit_of hf).st
    have hr := (fit_of hf).re
    obtain ⟨q, hq⟩ : ∃ q, q = decide (2 * r + 1 ≤ (L : Int) ∧ (L : Int) ≤ 16) := ⟨_, rfl⟩
    have e : backB s r tbl zs = q := by unfold backB; rw [hf, ← hLe, hq]; rfl
    rw [e]
    have HQ := hid hq
    have HR := hid hr
    clear e hf hs hr hq hLe
    go_enter Try.func48, Try.ntmps48
    go_wp2_with fail
    obtain ⟨w1, hW⟩ : ∃ x, x = w.alloc (Obj.cells #[.int .i64 s, .int .i64 r, (.slice ao tbl.length cap)] 28) := ⟨_, rfl⟩
    obtain ⟨NR, hN⟩ : ∃ x, x = w.heap.size := ⟨_, rfl⟩
    have HB1 : Hid (Below w.heap.size w w1) := by simp only [Hid]; rw [hW]; exact below1 _ _
    have kR : w1.heap[NR]? = some (Obj.cells #[.int .i64 s, .int .i64 r, (.slice ao tbl.length cap)] 28) := by rw [hW]; exact FNew.heap_top hN
    simp only [← hW, ← hN]
    clear hW hN
    go_at_call 70
    refine (fits (HH.out.keep HB1.out (Nat.le_refl _)) (HW.out.keep HB1.out (Nat.le_refl _))).mono ?_
    rw [HF.out]
    rintro e w2 ⟨rfl, bel⟩
    replace kR := Box.heap_keep bel kR
    have HB2 := hid (HB1.out.trans (bel.mono HB1.out.size))
    have a0 := Go.Joins.cell_of_block kR 0
    have a1 := Go.Joins.cell_of_block kR 1
    have a2 := Go.Joins.cell_of_block kR 2
    simp only [List.getElem?_toArray, List.getElem?_cons_zero, List.getElem?_cons_succ] at a0 a1 a2
    clear bel kR
    go_wp2_with fail
    go_at_call 32
    refine shapeOf.mono ?_
    rintro e w3 ⟨rfl, bel⟩
    have HB3 := hid (HB2.out.trans (bel.mono HB2.out.size))
    clear bel a0 a1 a2
    go_wp2_with fail
    go_at_call 33
    refine (Rule.wide HR.out).mono ?_
    rintro e w4 ⟨rfl, bel⟩
    have HB4 := hid (HB3.out.trans (bel.mono HB3.out.size))
    clear bel
    go_wp2_with fail
    go_at_call 34
    refine isFromB.mono ?_
    rw [← HQ.out]
    rintro e w5 ⟨rfl, rfl⟩
    go_wp2
    go_ret
    exact ⟨rfl, HB4.out⟩

theorem implNo {w : World} {s r : Int} {b bw : Nat} {v vw : Value} {tbl zs : List Int} (h : Rd w b v tbl) (hw : Rd w bw vw zs) (hv : backB s r tbl zs = false) :
    Calls Try.prog 18 #[ruleV s r v, vw] w fun e w' => e = .returned (.tuple #[.int .i64 0, .bool false]) ∧ Below w.heap.size w w' := by
  have HH := hid h
  have HW := hid hw
  have HV := hid hv
  obtain ⟨ao, cap, rfl, _, _, _⟩ := h
  clear hv
  go_enter Try.func18, Try.ntmps18
  go_wp2_with fail
  obtain ⟨w1, hW⟩ : ∃ x, x = w.alloc (Obj.cells #[.int .i64 s, .int .i64 r, (.slice ao tbl.length cap)] 28) := ⟨_, rfl⟩
  obtain ⟨NR, hN⟩ : ∃ x, x = w.heap.size := ⟨_, rfl⟩
  have HB1 : Hid (Below w.heap.size w w1) := by simp only [Hid]; rw [hW]; exact below1 _ _
  have kR : w1.heap[NR]? = some (Obj.cells #[.int .i64 s, .int .i64 r, (.slice ao tbl.length cap)] 28) := by rw [hW]; exact FNew.heap_top hN
  simp only [← hW, ← hN]
  clear hW hN
  go_at_call 48
  refine (hasBacks (HH.out.keep HB1.out (Nat.le_refl _)) (HW.out.keep HB1.out (Nat.le_refl _))).mono ?_
  rw [HV.out]
  rintro e w2 ⟨rfl, bel⟩
  have HB2 := hid (HB1.out.trans (bel.mono HB1.out.size))
  clear bel kR
  go_wp2
  go_ret2
  exact ⟨rfl, HB2.out⟩

/-- In how many ways one can go around from an end, counted from behind. -/
def wb (T : List Int) (S n : Nat) (zs : List Int) (e : Nat) : Int := (bwds T S n zs (unitL n e)).getD e 0
theorem gsum_bd {f : Nat → Int} {M : Int} (h : ∀ e, 0 ≤ f e ∧ f e ≤ M) : ∀ k, 0 ≤ gsum f k ∧ gsum f k ≤ k * M
  | 0 => by simp [gsum]
  | k + 1 => by
    have h1 := gsum_bd h k
    have h2 := h k
    have e : ((k + 1 : Nat) : Int) * M = k * M + M := by simp [Int.add_mul]
    rw [e]
    show 0 ≤ gsum f k + f k ∧ gsum f k + f k ≤ _
    omega
theorem gsum_lt {f : Nat → Int} {M : Int} : ∀ k, (∀ e, e < k → 0 ≤ f e ∧ f e ≤ M) → 0 ≤ gsum f k ∧ gsum f k ≤ k * M
  | 0, _ => by simp [gsum]
  | k + 1, h => by
    have h1 := gsum_lt k (fun e he => h e (by omega))
    have h2 := h k (by omega)
    have e : ((k + 1 : Nat) : Int) * M = k * M + M := by simp [Int.add_mul]
    rw [e]
    show 0 ≤ gsum f k + f k ∧ gsum f k + f k ≤ _
    omega
theorem wb_bd {T : List Int} {S n : Nat} {zs : List Int} {e : Nat} (hS : S ≤ 3) (hz : zs.length ≤ 16) (hn : 0 < n) (he : e < n) : 0 ≤ wb T S n zs e ∧ wb T S n zs e ≤ 3486784401 := by
  have := (Sm.le (bwds_sm T S n hn zs _ _ (unit_len n e) (unit_sm he)) (pow_bd hS hz (by decide))).bd e
  exact this

set_option maxHeartbeats 4000000 in
theorem implOk {w : World} {S n bt bw : Nat} {r : Int} {vt vw : Value} {tbl zs : List Int} (hk : Lk S n r tbl) (h : Rd w bt vt tbl) (hw : Rd w bw vw zs) (hv : backB (S : Int) r tbl zs = true) :
    Calls Try.prog 18 #[ruleV (S : Int) r vt, vw] w fun e w' => e = .returned (.tuple #[.int .i64 (gsum (wb tbl S n zs) n), .bool true]) ∧ Below w.heap.size w w' := by
  have HK := hid hk
  have HV := hid hv
  have HH := hid h
  have HW := hid hw
  obtain ⟨hS, hr, hn, hl, hn1⟩ := hk
  obtain ⟨ao, cap, rfl, hc, hm, h4⟩ := h
  obtain ⟨off, rfl, hb, hcell⟩ := h4 (by rw [hl]; exact Nat.mul_pos hn1.1 (by omega))
  have hL : 1 ≤ zs.length ∧ zs.length ≤ 16 := by
    unfold backB at hv
    rw [Bool.and_eq_true] at hv
    have h2 := of_decide_eq_true hv.2
    omega
  have HL := hid hL
  obtain ⟨N, hN⟩ : ∃ N, N = tbl.length := ⟨_, rfl⟩
  rw [← hN] at HH ⊢
  have HS : Hid ((2 ≤ (S : Int) ∧ (S : Int) ≤ 3) ∧ (0 ≤ r ∧ r ≤ 2)) := ⟨⟨Int.ofNat_le.2 hS.1, Int.ofNat_le.2 hS.2⟩, hr⟩
  have HSn : Hid ((2 ≤ S ∧ S ≤ 3) ∧ (1 ≤ n ∧ n ≤ 81)) := ⟨hS, hn1⟩
  have HEn := hid hn
  have hn81 : n ≤ 81 := hn1.2
  obtain ⟨q, hq⟩ : ∃ q, q = gsum (wb tbl S n zs) n := ⟨_, rfl⟩
  have HQ := hid hq
  rw [← hq]
  clear hv hS hr hn hl hn1 hc hm h4 hb hcell hN hq hL
  go_enter Try.func18, Try.ntmps18
  go_wp2_with fail
  obtain ⟨w1, hW⟩ : ∃ x, x = w.alloc (Obj.cells #[.int .i64 (S : Int), .int .i64 r, (.slice (some ⟨bt, off, none⟩) N cap)] 28) := ⟨_, rfl⟩
  obtain ⟨NR, hN⟩ : ∃ x, x = w.heap.size := ⟨_, rfl⟩
  have HB1 : Hid (Below w.heap.size w w1) := by simp only [Hid]; rw [hW]; exact below1 _ _
  have kR : w1.heap[NR]? = some (Obj.cells #[.int .i64 (S : Int), .int .i64 r, (.slice (some ⟨bt, off, none⟩) N cap)] 28) := by rw [hW]; exact FNew.heap_top hN
  simp only [← hW, ← hN]
  clear hW hN
  go_at_call 48
  refine (hasBacks (HH.out.keep HB1.out (Nat.le_refl _)) (HW.out.keep HB1.out (Nat.le_refl _))).mono ?_
  rw [HV.out]
  rintro e w2 ⟨rfl, bel⟩
  have KR2 := hid (Box.heap_keep bel kR)
  have HB2 := hid (HB1.out.trans (bel.mono HB1.out.size))
  have a0 := Go.Joins.cell_of_block KR2.out 0
  have a1 := Go.Joins.cell_of_block KR2.out 1
  have a2 := Go.Joins.cell_of_block KR2.out 2
  simp only [List.getElem?_toArray, List.getElem?_cons_zero, List.getElem?_cons_succ] at a0 a1 a2
  clear bel kR
  go_wp2_with fail
  go_at_call 32
  refine shapeOf.mono ?_
  rintro e w3 ⟨rfl, bel⟩
  have KR3 := hid (Box.heap_keep bel KR2.out)
  have HB3 := hid (HB2.out.trans (bel.mono HB2.out.size))
  clear bel a0 a1 a2
  go_wp2_with fail
  go_at_call 42
  refine (ends HS.out.1 HS.out.2).mono ?_
  rw [← HEn.out]
  rintro e w4 ⟨rfl, bel⟩
  have KR4 := hid (Box.heap_keep bel KR3.out)
  have HB4 := hid (HB3.out.trans (bel.mono HB3.out.size))
  clear bel
  go_wp2
  go_loopw [6, 15] (fun acc i wr => ∃ k : Nat, k ≤ n ∧ i = .int .i64 (k : Int) ∧ acc = .int .i64 (gsum (wb tbl S n zs) k) ∧ Below w.heap.size w wr ∧ wr.heap[NR]? = some (Obj.cells #[.int .i64 (S : Int), .int .i64 r, (.slice (some ⟨bt, off, none⟩) N cap)] 28)) (fun acc i _ => n - (intOf i).toNat)
  case atStart => exact ⟨0, Nat.zero_le _, rfl, rfl, HB4.out, KR4.out⟩
  case round =>
    clear HB4 KR4
    obtain ⟨k, hk, rfl, rfl, hB, hR⟩ := hrel
    have KB := hid hB
    have KR := hid hR
    clear hB hR
    by_cases hlt : k < n
    · have a0 := Go.Joins.cell_of_block KR.out 0
      have a1 := Go.Joins.cell_of_block KR.out 1
      have a2 := Go.Joins.cell_of_block KR.out 2
      simp only [List.getElem?_toArray, List.getElem?_cons_zero, List.getElem?_cons_succ] at a0 a1 a2
      have hx := gsum_lt k (fun e he => wb_bd (T := tbl) (zs := zs) HSn.out.1.2 HL.out.2 (by omega : 0 < n) (by omega : e < n))
      have hy := wb_bd (T := tbl) (zs := zs) HSn.out.1.2 HL.out.2 (by omega : 0 < n) hlt
      obtain ⟨X, hX⟩ : ∃ X, X = gsum (wb tbl S n zs) k := ⟨_, rfl⟩
      obtain ⟨Y, hY⟩ : ∃ Y, Y = wb tbl S n zs k := ⟨_, rfl⟩
      have hnx : gsum (wb tbl S n zs) (k + 1) = X + Y := by rw [hX, hY]; rfl
      have HNX := hid hnx
      rw [← hX] at hx ⊢
      rw [← hY] at hy
      have hx2 : (k : Int) * 3486784401 ≤ 81 * 3486784401 := Int.mul_le_mul_of_nonneg_right (by omega) (by decide)
      have hw3 : wrap64 (X + Y) = X + Y := wrap_id (by omega) (by omega)
      have HYd := hid hY
      have HW3 := hid hw3
      have hcall := waysTo (w := wr) (e := k) HK.out (HH.out.keep KB.out (Nat.le_refl _)) (HW.out.keep KB.out (Nat.le_refl _)) HL.out hlt
      have HCL := hid hcall
      have hki : (k : Int) < (n : Int) := by omega
      have hz1 : (0 : Int) < ((zs.length + 1 : Nat) : Int) := by omega
      clear hX hY hnx hcall hx hy hx2
      go_wp2_with fail
      go_at_call 49
      refine HCL.out.mono ?_
      rintro x w5 ⟨WB, b0, rfl, hc0, hO, bel⟩
      have KR5 := hid (Box.heap_keep bel KR.out)
      have HB5 := hid (KB.out.trans (bel.mono KB.out.size))
      have hc1 := hO.cell (i := k) (by rw [bwds_len tbl S n _ _ (unit_len n k)]; exact hlt)
      rw [show (bwds tbl S n zs (unitL n k)).getD k 0 = Y from HYd.out.symm] at hc1
      clear bel a0 a1 a2 hO
      go_wp2
      go_roundw
      case rel => exact ⟨k + 1, by omega, by go_num, by rw [HNX.out]; exact congrArg _ HW3.out, HB5.out, KR5.out⟩
      case measure => simp [intOf]; omega
    · have hkn : n = k := by omega
      subst hkn
      rw [← HQ.out]
      go_wp2
      go_ret2
      exact ⟨rfl, KB.out⟩
end Go.Proofs.Ytjeoccjemkdbiaa.Cbi
