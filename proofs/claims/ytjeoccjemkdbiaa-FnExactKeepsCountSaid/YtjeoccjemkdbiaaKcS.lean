/- Whether steps keep how often a word is there: the model's side. -/
import Derived.Test.YtjeoccjemkdbiaaKcQ
import Derived.Test.YtjeoccjemkdbiaaPwN
import Derived.Test.YtjeoccjemkdbiaaStepR
import Derived.Test.YtjeoccjemkdbiaaWbs
namespace Go.Proofs.Ytjeoccjemkdbiaa.KcS
open Go.RowKit Go.Shelf Go.Proofs.Ytjeoccjemkdbiaa.Rd Go.Proofs.Ytjeoccjemkdbiaa.Help Go.Proofs.Ytjeoccjemkdbiaa.Ring Go.Proofs.Ytjeoccjemkdbiaa.Small Go.Proofs.Ytjeoccjemkdbiaa.Num Go.Proofs.Ytjeoccjemkdbiaa.Keep Go.Proofs.Ytjeoccjemkdbiaa.Rule Go.Proofs.Ytjeoccjemkdbiaa.Wbi Go.Proofs.Ytjeoccjemkdbiaa.Spec Go.Proofs.Ytjeoccjemkdbiaa.Step Go.Proofs.Ytjeoccjemkdbiaa.Dig Go.Proofs.Ytjeoccjemkdbiaa.DigP Go.Proofs.Ytjeoccjemkdbiaa.CwP Go.Proofs.Ytjeoccjemkdbiaa.KcP Go.Proofs.Ytjeoccjemkdbiaa.PwN
set_option linter.unusedVariables false
set_option linter.unusedSimpArgs false
attribute [local go_sem] Oper.semAt_some

/-- The most cells, by the states. -/
def lim (s a b : Int) : Int := if s = 3 then b else a
/-- Rings of so many cells are small enough for a rule. -/
def smallB (s r : Int) (tbl : List Int) (n a b : Int) : Bool := validB s r tbl && decide (2 * r + 1 ≤ n ∧ n ≤ lim s a b)

set_option maxHeartbeats 2000000 in
theorem l03Small {w : World} {g : Nat} {s r n x y : Int} {b : Nat} {v : Value} {tbl : List Int} (h : Rd w b v tbl) (c0 : w.cell? ⟨g, 0, none⟩ = some (.int .i64 s)) (c1 : w.cell? ⟨g, 1, none⟩ = some (.int .i64 r)) (c2 : w.cell? ⟨g, 2, none⟩ = some v) :
    Calls Try.prog 24 #[.pointer (some ⟨g, 0, none⟩), .int .i64 n, .int .i64 x, .int .i64 y] w fun e w' => e = .returned (.bool (smallB s r tbl n x y)) ∧ ∃ m, w' = w.drewN m := by
  have HIS := hid (SpO.is (o := 0) h c0 c1 c2)
  have HC0 := hid c0
  have HC1 := hid c1
  clear c1 c2
  cases hq : validB s r tbl with
  | false =>
    have HQ := hid hq
    have e : smallB s r tbl n x y = false := by unfold smallB; rw [hq]; rfl
    rw [e]
    clear hq h c0 e
    go_enter Try.func24, Try.ntmps24
    go_wp2_with fail
    go_at_call 53
    refine HIS.out.mono ?_
    rw [HQ.out]
    rintro e w2 ⟨rfl, m, hm⟩
    have HM := hid hm
    clear hm
    go_wp2
    go_ret
    exact ⟨rfl, m, HM.out⟩
  | true =>
    have HQ := hid hq
    obtain ⟨hs, hr, _, _⟩ := Al.valid_parts hq
    have HR := hid hr
    obtain ⟨q, hqq⟩ : ∃ q, q = decide (2 * r + 1 ≤ n ∧ n ≤ lim s x y) := ⟨_, rfl⟩
    have e : smallB s r tbl n x y = q := by unfold smallB; rw [hq, ← hqq]; rfl
    rw [e]
    have HE := hid hqq
    clear hq h c0 e hr hqq
    rcases (show s = 2 ∨ s = 3 by omega) with rfl | rfl
    all_goals
      clear hs
      go_enter Try.func24, Try.ntmps24
      go_wp2_with fail
      go_at_call 53
      refine HIS.out.mono ?_
      rw [HQ.out]
      rintro e w2 ⟨rfl, m, hm⟩
      have a0 := HC0.out
      have HA1 := hid HC1.out
      rw [show w.cell? ⟨g, 0, none⟩ = w2.cell? ⟨g, 0, none⟩ by rw [hm]; rfl] at a0
      have HA : Hid (w2.cell? ⟨g, 1, none⟩ = some (.int .i64 r)) := by simp only [Hid]; rw [hm]; exact HC1.out
      have HM := hid hm
      clear hm
      go_wp2_with fail
      go_at_call 55
      refine (Terms.wide3 HA.out HR.out).mono ?_
      rintro e w4 ⟨rfl, rfl⟩
      go_wp2_with fail
      go_at_call 54
      refine inB.mono ?_
      rintro e w5 ⟨rfl, rfl⟩
      go_wp2
      go_ret
      exact ⟨by rw [HE.out, Bool.decide_and]; rfl, m, HM.out⟩

/-- A word that can be counted in rings of n cells. -/
def askB (s r : Int) (tbl ws : List Int) (n : Int) : Bool := smallB s r tbl n 10 6 && (wordB ws s && decide (ws.length ≤ 3 ∧ (ws.length : Int) ≤ n))
def keptAt (tbl : List Int) (s r : Int) (ws : List Int) (n k : Nat) : Bool := oft (nextL tbl (dig s (k : Int) n) s r n) ws n == oft (dig s (k : Int) n) ws n
def keptTo (tbl : List Int) (s r : Int) (ws : List Int) (n k : Nat) : Bool := (List.range k).all (keptAt tbl s r ws n)
theorem keptTo_succ (tbl : List Int) (s r : Int) (ws : List Int) (n k : Nat) : keptTo tbl s r ws n (k + 1) = (keptTo tbl s r ws n k && keptAt tbl s r ws n k) := by
  simp [keptTo, List.range_succ, List.all_append]
theorem keptTo_no {tbl : List Int} {s r : Int} {ws : List Int} {n k : Nat} (h : keptAt tbl s r ws n k = false) : ∀ P, k < P → keptTo tbl s r ws n P = false := by
  intro P hP
  cases h5 : keptTo tbl s r ws n P with
  | false => rfl
  | true =>
    unfold keptTo at h5
    rw [List.all_eq_true] at h5
    have := h5 k (List.mem_range.2 hP)
    rw [h] at this; exact absurd this (by decide)
theorem fit_dig {s r : Int} {tbl : List Int} {n : Nat} (h : validB s r tbl = true) (hn : 1 ≤ n ∧ n ≤ 64) (k : Nat) : Fit s r tbl (dig s (k : Int) n) := by
  obtain ⟨hs, hr, hl, ha⟩ := Al.valid_parts h
  exact ⟨hs, hr, hl, ha, dig_all hs _ _, by rw [dig_length]; exact hn⟩

set_option maxHeartbeats 4000000 in
theorem specNo {w : World} {s r n : Int} {b bw : Nat} {v vw : Value} {tbl ws : List Int} (h : Rd w b v tbl) (hw : Rd w bw vw ws) (hv : askB s r tbl ws n = false) :
    Calls Try.prog 9 #[ruleV s r v, vw, .int .i64 n] w fun e w' => e = .returned (.tuple #[.bool false, .bool false]) ∧ Below w.heap.size w w' := by
  have HH := hid h
  have HW := hid hw
  have HF := hid hv
  obtain ⟨ao, cap, rfl, _, _, _⟩ := h
  obtain ⟨ao2, cap2, rfl, _, hm2, _⟩ := hw
  have hsz : ws.length ≤ 9223372036854775807 := by unfold maxLen at hm2; omega
  obtain ⟨m, hmm⟩ : ∃ m, m = ws.length := ⟨_, rfl⟩
  rw [← hmm] at hsz HW ⊢
  have HM := hid hmm
  clear hv hm2 hmm
  go_enter Try.func9, Try.ntmps9
  go_wp2_with fail
  obtain ⟨w1, hW⟩ : ∃ x, x = w.alloc (Obj.cells #[.int .i64 s, .int .i64 r, (.slice ao tbl.length cap)] 28) := ⟨_, rfl⟩
  obtain ⟨NR, hN⟩ : ∃ x, x = w.heap.size := ⟨_, rfl⟩
  have HB1 : Hid (Below w.heap.size w w1) := by simp only [Hid]; rw [hW]; exact below1 _ _
  have kR : w1.heap[NR]? = some (Obj.cells #[.int .i64 s, .int .i64 r, (.slice ao tbl.length cap)] 28) := by rw [hW]; exact FNew.heap_top hN
  simp only [← hW, ← hN]
  clear hW hN
  go_at_call 24
  refine (l03Small (HH.out.keep HB1.out (Nat.le_refl _)) (Go.Joins.cell_of_block kR 0) (Go.Joins.cell_of_block kR 1) (Go.Joins.cell_of_block kR 2)).mono ?_
  cases hs : smallB s r tbl n 10 6 with
  | false =>
    rintro e w2 ⟨rfl, d, hd⟩
    have HZ : Hid (Below w.heap.size w w2) := by simp only [Hid]; rw [hd]; exact HB1.out.trans (Spec.below_drewN' _ _ _)
    clear hd kR hs
    go_wp2
    go_ret2
    exact ⟨rfl, HZ.out⟩
  | true =>
    have hval : validB s r tbl = true := by unfold smallB at hs; rw [Bool.and_eq_true] at hs; exact hs.1
    have HV := hid hval
    rintro e w2 ⟨rfl, d, hd⟩
    have bel : Below w1.heap.size w1 w2 := by rw [hd]; exact Spec.below_drewN' _ _ _
    replace kR := Box.heap_keep bel kR
    have HB2 := hid (HB1.out.trans (bel.mono HB1.out.size))
    have hf := HF.out
    unfold askB at hf
    rw [hs, Bool.true_and] at hf
    have HF2 := hid hf
    have KR := hid kR
    clear bel hd kR hs hval hf
    go_wp2_with fail
    go_at_call 25
    refine (Wbs.l03Word (HH.out.keep HB2.out (Nat.le_refl _)) (HW.out.keep HB2.out (Nat.le_refl _)) (Go.Joins.cell_of_block KR.out 0) (Go.Joins.cell_of_block KR.out 1) (Go.Joins.cell_of_block KR.out 2)).mono ?_
    rw [HV.out, Bool.true_and]
    cases hwd : wordB ws s with
    | false =>
      rintro e w3 ⟨rfl, d, hd⟩
      have HZ : Hid (Below w.heap.size w w3) := by simp only [Hid]; rw [hd]; exact HB2.out.trans (Spec.below_drewN' _ _ _)
      clear hd hwd
      go_wp2
      go_ret2
      exact ⟨rfl, HZ.out⟩
    | true =>
      have hf := HF2.out
      rw [hwd, Bool.true_and] at hf
      have hno : ¬ (m ≤ 3 ∧ (m : Int) ≤ n) := by rw [HM.out]; exact of_decide_eq_false hf
      rintro e w3 ⟨rfl, d, hd⟩
      have HZ : Hid (Below w.heap.size w w3) := by simp only [Hid]; rw [hd]; exact HB2.out.trans (Spec.below_drewN' _ _ _)
      clear hd hwd hf
      by_cases h3 : (m : Int) > 3
      · have e1 : decide ((3 : Int) < (m : Int)) = true := decide_eq_true h3
        clear hno
        go_wp2
        go_ret2
        exact ⟨rfl, HZ.out⟩
      · have e1 : decide ((3 : Int) < (m : Int)) = false := decide_eq_false h3
        have e2 : decide (n < (m : Int)) = true := decide_eq_true (by omega)
        clear hno
        go_wp2
        go_ret2
        exact ⟨rfl, HZ.out⟩
set_option maxHeartbeats 4000000 in
theorem specOk {w : World} {s r : Int} {n b bw : Nat} {v vw : Value} {tbl ws : List Int} (h : Rd w b v tbl) (hw : Rd w bw vw ws) (hv : askB s r tbl ws (n : Int) = true) :
    Calls Try.prog 9 #[ruleV s r v, vw, .int .i64 (n : Int)] w fun e w' => e = .returned (.tuple #[.bool (keptTo tbl s r ws n (pw s n)), .bool true]) ∧ Below w.heap.size w w' := by
  have HH := hid h
  have HW := hid hw
  obtain ⟨ao, cap, rfl, _, _, _⟩ := h
  obtain ⟨ao2, cap2, rfl, _, hm2, _⟩ := hw
  obtain ⟨m, hmm⟩ : ∃ m, m = ws.length := ⟨_, rfl⟩
  unfold askB at hv
  rw [Bool.and_eq_true, Bool.and_eq_true] at hv
  obtain ⟨hsm, hwd, hle⟩ := hv
  replace hle := of_decide_eq_true hle
  rw [← hmm] at HW hle ⊢
  obtain ⟨hle3, hlen⟩ := hle
  have hval : validB s r tbl = true := by unfold smallB at hsm; rw [Bool.and_eq_true] at hsm; exact hsm.1
  obtain ⟨hs, hr, _, _⟩ := Al.valid_parts hval
  have hn : 1 ≤ n ∧ n ≤ 10 := by
    unfold smallB at hsm; rw [Bool.and_eq_true] at hsm
    have h2 := of_decide_eq_true hsm.2
    have h3 : lim s 10 6 ≤ 10 := by unfold lim; split <;> omega
    omega
  obtain ⟨P, hP⟩ : ∃ P, P = pw s n := ⟨_, rfl⟩
  have hPi : s ^ n = (P : Int) := by rw [hP]; exact (pw_cast hs n).symm
  have hPb : P ≤ 43046721 := by have := pow_16 hs (show n ≤ 16 by omega); omega
  have HPI := hid hPi
  have HSM := hid hsm
  have HWD : Hid ((validB s r tbl && wordB ws s) = true) := by simp only [Hid]; rw [hval, hwd]; rfl
  have HV := hid hval
  have HS := hid hs
  have HN := hid hn
  have HM := hid hmm
  have HPB := hid hPb
  obtain ⟨q, hq⟩ : ∃ q, q = keptTo tbl s r ws n P := ⟨_, rfl⟩
  rw [← hP, ← hq]
  have HQ := hid hq
  have e3 : decide ((3 : Int) < (m : Int)) = false := decide_eq_false (by omega)
  have e4 : decide (n < m) = false := decide_eq_false (by omega)
  have hm63 : (m : Int) ≤ 3 := by omega
  clear hsm hwd hval hs hr hn hmm hP hPi hm2 hq hlen
  go_enter Try.func9, Try.ntmps9
  go_wp2_with fail
  obtain ⟨w1, hW⟩ : ∃ x, x = w.alloc (Obj.cells #[.int .i64 s, .int .i64 r, (.slice ao tbl.length cap)] 28) := ⟨_, rfl⟩
  obtain ⟨NR, hN⟩ : ∃ x, x = w.heap.size := ⟨_, rfl⟩
  have HB1 : Hid (Below w.heap.size w w1) := by simp only [Hid]; rw [hW]; exact below1 _ _
  have kR : w1.heap[NR]? = some (Obj.cells #[.int .i64 s, .int .i64 r, (.slice ao tbl.length cap)] 28) := by rw [hW]; exact FNew.heap_top hN
  simp only [← hW, ← hN]
  clear hW hN
  go_at_call 24
  refine (l03Small (HH.out.keep HB1.out (Nat.le_refl _)) (Go.Joins.cell_of_block kR 0) (Go.Joins.cell_of_block kR 1) (Go.Joins.cell_of_block kR 2)).mono ?_
  rw [HSM.out]
  rintro e w2 ⟨rfl, d, hd⟩
  have bel : Below w1.heap.size w1 w2 := by rw [hd]; exact Spec.below_drewN' _ _ _
  have KR := hid (Box.heap_keep bel kR)
  have HB2 := hid (HB1.out.trans (bel.mono HB1.out.size))
  clear bel hd kR
  go_wp2_with fail
  go_at_call 25
  refine (Wbs.l03Word (HH.out.keep HB2.out (Nat.le_refl _)) (HW.out.keep HB2.out (Nat.le_refl _)) (Go.Joins.cell_of_block KR.out 0) (Go.Joins.cell_of_block KR.out 1) (Go.Joins.cell_of_block KR.out 2)).mono ?_
  rw [HWD.out]
  rintro e w3 ⟨rfl, d, hd⟩
  have bel : Below w2.heap.size w2 w3 := by rw [hd]; exact Spec.below_drewN' _ _ _
  have KR3 := hid (Box.heap_keep bel KR.out)
  have HB3 := hid (HB2.out.trans (bel.mono HB2.out.size))
  clear bel hd
  go_wp2
  go_loopw [8, 9] (fun i _ wr => ∃ k : Nat, k ≤ P ∧ i = .int .i64 (k : Int) ∧ Hid (keptTo tbl s r ws n k = true) ∧ Hid (Below w.heap.size w wr) ∧ Hid (wr.heap[NR]? = some (Obj.cells #[.int .i64 s, .int .i64 r, (.slice ao tbl.length cap)] 28))) (fun i _ _ => P - (intOf i).toNat)
  case atStart => exact ⟨0, Nat.zero_le _, rfl, rfl, HB3.out, KR3.out⟩
  case round =>
    obtain ⟨k, hk, rfl, HK, HB, HR⟩ := hrel
    have c0 := Go.Joins.cell_of_block HR.out 0
    simp only [List.getElem?_toArray, List.getElem?_cons_zero] at c0
    go_wp2_with fail
    go_at_call 26
    refine (powS HS.out (by have := HN.out; omega)).mono ?_
    rw [HPI.out]
    rintro e w4 ⟨rfl, rfl⟩
    by_cases hlt : k < P
    · have hki : (k : Int) < (P : Int) := by omega
      have HI : Hid (k < P ∧ P ≤ 43046721) := ⟨hlt, hPb⟩
      go_wp2_with fail
      go_at_call 27
      refine (specCells HS.out (by omega) (by have := HN.out; omega)).mono ?_
      rw [Int.toNat_natCast, dig_length]
      rintro e w5 ⟨b5, rfl, o5, hlo, bel⟩
      obtain ⟨zs, hzs⟩ : ∃ zs, zs = dig s (k : Int) n := ⟨_, rfl⟩
      have hF : Fit s r tbl zs := by rw [hzs]; exact fit_dig HV.out (by have := HN.out; omega) k
      have hzl : zs.length = n := by rw [hzs, dig_length]
      rw [← hzs] at o5
      have HF := hid hF
      have HO5 := hid o5
      have HZL := hid hzl
      have HZS := hid hzs
      have KR5 := hid (Box.heap_keep bel HR.out)
      have HB5 := hid (HB.out.trans (bel.mono HB.out.size))
      clear bel o5 hlo hF hzs hzl c0
      go_wp2_with fail
      go_at_call 29
      refine (specStep (Go.Joins.cell_of_block KR5.out 0) (Go.Joins.cell_of_block KR5.out 1) (Go.Joins.cell_of_block KR5.out 2) (HH.out.keep HB5.out (Nat.le_refl _)) HO5.out.rd HF.out).mono ?_
      rw [HZL.out]
      rintro e w6 ⟨v6, b6, rfl, o6, hlo, bel⟩
      have HO6 := hid o6
      have HO5b := hid (HO5.out.keep bel)
      have KR6 := hid (Box.heap_keep bel KR5.out)
      have HB6 := hid (HB5.out.trans (bel.mono HB5.out.size))
      clear bel o6 hlo
      go_wp2_with fail
      go_at_call 28
      refine (KcO.l03Often HO6.out.rd (HW.out.keep HB6.out (Nat.le_refl _)) (by rw [nextL_length]; have := HN.out; omega) (by have := HM.out; omega)).mono ?_
      rw [nextL_length]
      rintro e w7 ⟨rfl, d7, hd7⟩
      have bel : Below w6.heap.size w6 w7 := by rw [hd7]; exact Spec.below_drewN' _ _ _
      have HO7 := hid (HO5b.out.keep bel)
      have KR7 := hid (Box.heap_keep bel KR6.out)
      have HB7 := hid (HB6.out.trans (bel.mono HB6.out.size))
      clear bel hd7
      go_wp2_with fail
      go_at_call 28
      refine (KcO.l03Often HO7.out.rd (HW.out.keep HB7.out (Nat.le_refl _)) (by rw [HZL.out]; have := HN.out; omega) (by have := HM.out; omega)).mono ?_
      rw [HZL.out]
      rintro e w8 ⟨rfl, d8, hd8⟩
      have bel : Below w7.heap.size w7 w8 := by rw [hd8]; exact Spec.below_drewN' _ _ _
      have KR8 := hid (Box.heap_keep bel KR7.out)
      have HB8 := hid (HB7.out.trans (bel.mono HB7.out.size))
      clear bel hd8
      have hka : keptAt tbl s r ws n k = (oft (nextL tbl zs s r n) ws n == oft zs ws n) := by unfold keptAt; rw [← HZS.out]
      obtain ⟨X, hX⟩ : ∃ X, X = oft (nextL tbl zs s r n) ws n := ⟨_, rfl⟩
      obtain ⟨Y, hY⟩ : ∃ Y, Y = oft zs ws n := ⟨_, rfl⟩
      rw [← hX, ← hY] at hka ⊢
      by_cases hxy : X = Y
      · have HKN : Hid (keptTo tbl s r ws n (k + 1) = true) := by
          simp only [Hid]; rw [keptTo_succ, HK.out, hka, hxy]; simp
        subst hxy
        clear hX hY hka
        go_wp2
        go_roundw
        case rel => exact ⟨k + 1, by have := HI.out; omega, by go_num, HKN, HB8, KR8⟩
        case measure => have := HI.out; simp [intOf]; omega
      · have HQF : Hid (q = false) := by
          simp only [Hid]; rw [HQ.out]; exact keptTo_no (by rw [hka]; simpa using hxy) P HI.out.1
        have hne : ((X : Int) != (Y : Int)) = true := by simp; omega
        clear hX hY hka hxy
        go_wp2
        go_ret2
        exact ⟨by rw [HQF.out]; rfl, HB8.out⟩
    · have hkn : P = k := by omega
      subst hkn
      have HQT : Hid (q = true) := by simp only [Hid]; rw [HQ.out]; exact HK.out
      clear c0
      go_wp2
      go_ret2
      exact ⟨by rw [HQT.out]; rfl, HB.out⟩
end Go.Proofs.Ytjeoccjemkdbiaa.KcS
