/- How often a word is in a ring: impl.timesIn, spec.l03Often. -/
import Derived.Test.YtjeoccjemkdbiaaCwP
import Derived.Test.YtjeoccjemkdbiaaNum
import Derived.BigQuiet
namespace Go.Proofs.Ytjeoccjemkdbiaa.KcP
open Go.RowKit Go.Proofs.Ytjeoccjemkdbiaa.Rd Go.Proofs.Ytjeoccjemkdbiaa.Help Go.Proofs.Ytjeoccjemkdbiaa.Ring Go.Proofs.Ytjeoccjemkdbiaa.Small Go.Proofs.Ytjeoccjemkdbiaa.Num Go.Proofs.Ytjeoccjemkdbiaa.Keep Go.Proofs.Ytjeoccjemkdbiaa.Rule Go.Proofs.Ytjeoccjemkdbiaa.Dig Go.Proofs.Ytjeoccjemkdbiaa.DigP Go.Proofs.Ytjeoccjemkdbiaa.CwP
set_option linter.unusedVariables false
set_option linter.unusedSimpArgs false

/-- The first k cells of a word are in a ring from a place on. -/
def mat (zs ws : List Int) (i k : Nat) : Bool := (List.range k).all (fun j => cellR zs ((i : Int) + j) == ws.getD j 0)
/-- At how many of the first k places a word is in a ring. -/
def oft (zs ws : List Int) : Nat → Nat
  | 0 => 0
  | k + 1 => oft zs ws k + (if mat zs ws k ws.length then 1 else 0)
theorem oft_le (zs ws : List Int) : ∀ k, oft zs ws k ≤ k
  | 0 => Nat.le_refl _
  | k + 1 => by have := oft_le zs ws k; simp only [oft]; split <;> omega
theorem mat_succ (zs ws : List Int) (i k : Nat) : mat zs ws i (k + 1) = (mat zs ws i k && (cellR zs ((i : Int) + k) == ws.getD k 0)) := by
  simp [mat, List.range_succ, List.all_append]
/-- The cells from a place on. -/
def part (zs : List Int) (i k : Nat) : List Int := (List.range k).map (fun j => cellR zs ((i : Int) + (j : Nat)))
theorem num_part (zs : List Int) (st : Int) (i : Nat) : ∀ k, num zs st (i : Int) k = numL (part zs i k) st
  | 0 => rfl
  | k + 1 => by
    have e : part zs i (k + 1) = part zs i k ++ [cellR zs ((i : Int) + k)] := by simp [part, List.range_succ]
    rw [e, numL_snoc, ← num_part zs st i k]; rfl
theorem part_all {zs : List Int} {st : Int} (h : allB zs st = true) (hn : 0 < zs.length) (i k : Nat) : allB (part zs i k) st = true := by
  unfold allB
  rw [List.all_eq_true]
  intro x hx
  obtain ⟨j, _, rfl⟩ := List.mem_map.1 hx
  have := cellR_bd h hn ((i : Int) + j)
  simp only [okB, decide_eq_true_eq]; exact this
theorem mat_iff (zs ws : List Int) (i : Nat) : mat zs ws i ws.length = true ↔ part zs i ws.length = ws := by
  unfold mat part
  rw [List.all_eq_true]
  constructor
  · intro h
    apply List.ext_getElem
    · simp
    · intro j h1 h2
      have := h j (List.mem_range.2 h2)
      simp only [beq_iff_eq] at this
      simpa [List.getD, h2] using this
  · intro h j hj
    have hj2 := List.mem_range.1 hj
    have e : ws.getD j 0 = ((List.range ws.length).map (fun j => cellR zs ((i : Int) + (j : Nat)))).getD j 0 := by rw [h]
    rw [beq_iff_eq, e]
    simp [List.getD, hj2]
theorem num_iff {zs ws : List Int} {st : Int} (hs : 2 ≤ st ∧ st ≤ 3) (hz : allB zs st = true) (hw : allB ws st = true) (hn : 0 < zs.length) (i : Nat) : (num zs st (i : Int) ws.length == numL ws st) = mat zs ws i ws.length := by
  rw [Bool.eq_iff_iff, mat_iff, beq_iff_eq, num_part]
  constructor
  · intro h
    have h1 := dig_num hs _ (part_all hz hn i ws.length)
    have h2 := dig_num hs _ hw
    rw [h, show (part zs i ws.length).length = ws.length by simp [part], h2] at h1
    exact h1.symm
  · intro h; rw [h]

set_option maxHeartbeats 1000000 in
theorem timesIn {w : World} {b bw : Nat} {v vw : Value} {zs ws : List Int} {s : Int} (h : Rd w b v zs) (hw : Rd w bw vw ws) (hs : 2 ≤ s ∧ s ≤ 3) (hz : 1 ≤ zs.length ∧ zs.length ≤ 64) (ha : allB zs s = true) (hl : ws.length ≤ 5) (hb : allB ws s = true) :
    Calls Try.prog 37 #[v, vw, .int .i64 s] w fun e w' => e = .returned (.int .i64 ((oft zs ws zs.length : Nat) : Int)) ∧ w = w' := by
  have HIF : Hid (∀ i : Nat, (num zs s (i : Int) ws.length == numL ws s) = mat zs ws i ws.length) := num_iff hs ha hb (by omega)
  have HNA : Hid (∀ i : Nat, i < zs.length → Calls Try.prog 63 #[v, .int .i64 (i : Int), .int .i64 ((ws.length : Nat) : Int), .int .i64 s] w fun e w' => e = .returned (.int .i64 (num zs s (i : Int) ws.length)) ∧ w = w') := fun i hi => Num.numberAt h hs hz ha (by omega) hl
  have HNO := hid (implNumber hw hs (by omega) hb)
  obtain ⟨ao, cap, rfl, hc, hm, _⟩ := h
  obtain ⟨ao2, cap2, rfl, hc2, hm2, _⟩ := hw
  obtain ⟨m, hmm⟩ : ∃ m, m = ws.length := ⟨_, rfl⟩
  obtain ⟨n, hn⟩ : ∃ n, n = zs.length := ⟨_, rfl⟩
  obtain ⟨N, hN⟩ : ∃ N, N = numL ws s := ⟨_, rfl⟩
  rw [← hmm, ← hN] at HIF
  rw [← hN] at HNO
  rw [← hmm] at HNO
  rw [← hmm, ← hn] at HNA
  rw [← hmm] at hc2 hl ⊢
  rw [← hn] at hc hz ⊢
  obtain ⟨z1, z2⟩ := hz
  have HM := hid hmm
  clear hmm hn hN hm hm2 ha hb hc hc2
  go_enter Try.func37, Try.ntmps37
  go_wp2
  go_loop [7, 8, 11] (fun x y i => ∃ k : Nat, k ≤ n ∧ i = .int .i64 k ∧ x = .int .i64 ((oft zs ws k : Nat) : Int)) (fun x y i => n - (intOf i).toNat)
  case atStart => exact ⟨0, Nat.zero_le _, rfl, rfl⟩
  case round =>
    obtain ⟨k, hk, rfl, rfl⟩ := hrel
    have hle := oft_le zs ws k
    by_cases hlt : k < n
    · have hnx : oft zs ws (k + 1) = oft zs ws k + (if mat zs ws k m then 1 else 0) := by rw [HM.out]; rfl
      have hif := HIF.out k
      obtain ⟨X, hX⟩ : ∃ X, X = oft zs ws k := ⟨_, rfl⟩
      rw [← hX] at hle hnx ⊢
      obtain ⟨Y, hY⟩ : ∃ Y, Y = num zs s (k : Int) m := ⟨_, rfl⟩
      have HNAk := hid (HNA.out k hlt)
      rw [← hY] at hif HNAk
      have HX := hid hX
      clear hX hY
      go_wp2_with fail
      go_at_call 63
      refine HNAk.out.mono ?_
      rintro e w' ⟨rfl, rfl⟩
      go_wp2_with fail
      go_at_call 64
      refine HNO.out.mono ?_
      rintro e w' ⟨rfl, rfl⟩
      cases hmt : mat zs ws k m with
      | true =>
        rw [hmt] at hif hnx
        rw [if_pos rfl] at hnx
        have HNX := hid hnx
        clear hnx hmt
        go_wp2
        go_round
        case rel => exact ⟨k + 1, by omega, by go_num, by rw [HNX.out]; rfl⟩
        case measure => simp [intOf]; omega
      | false =>
        rw [hmt] at hif hnx
        rw [if_neg (by decide)] at hnx
        have HNX := hid hnx
        clear hnx hmt
        go_wp2
        go_round
        case rel => exact ⟨k + 1, by omega, by go_num, by rw [HNX.out]; rfl⟩
        case measure => simp [intOf]; omega
    · have hkn : n = k := by omega
      subst hkn
      obtain ⟨X, hX⟩ : ∃ X, X = oft zs ws n := ⟨_, rfl⟩
      rw [← hX]
      have HX := hid hX
      clear hX
      go_wp2
      go_ret
      exact ⟨by first | rfl | (rw [← HX.out]; rfl), rfl⟩
end Go.Proofs.Ytjeoccjemkdbiaa.KcP

namespace Go.Proofs.Ytjeoccjemkdbiaa.KcO
open Go.RowKit Go.Proofs.Ytjeoccjemkdbiaa.Rd Go.Proofs.Ytjeoccjemkdbiaa.Help Go.Proofs.Ytjeoccjemkdbiaa.Ring Go.Proofs.Ytjeoccjemkdbiaa.Small Go.Proofs.Ytjeoccjemkdbiaa.Num Go.Proofs.Ytjeoccjemkdbiaa.Keep Go.Proofs.Ytjeoccjemkdbiaa.Rule Go.Proofs.Ytjeoccjemkdbiaa.Dig Go.Proofs.Ytjeoccjemkdbiaa.DigP Go.Proofs.Ytjeoccjemkdbiaa.CwP Go.Proofs.Ytjeoccjemkdbiaa.KcP
set_option linter.unusedVariables false
set_option linter.unusedSimpArgs false

set_option maxHeartbeats 4000000 in
theorem l03Often {w : World} {b bw : Nat} {v vw : Value} {zs ws : List Int} (h : Rd w b v zs) (hw : Rd w bw vw ws) (hz : 1 ≤ zs.length ∧ zs.length ≤ 64) (hl : ws.length ≤ 5) :
    Calls Try.prog 28 #[v, vw] w fun e w' => e = .returned (.int .i64 ((oft zs ws zs.length : Nat) : Int)) ∧ ∃ m, w' = w.drewN m := by
  obtain ⟨ao, cap, rfl, hc, hm, h4⟩ := h
  obtain ⟨ao2, cap2, rfl, hc2, hm2, h42⟩ := hw
  obtain ⟨off, rfl, hb, hcell⟩ := h4 (by omega)
  obtain ⟨m, hmm⟩ : ∃ m, m = ws.length := ⟨_, rfl⟩
  obtain ⟨n, hn⟩ : ∃ n, n = zs.length := ⟨_, rfl⟩
  rw [← hmm] at hc2 hl h42 ⊢
  rw [← hn] at hc hz hcell ⊢
  obtain ⟨z1, z2⟩ := hz
  have HM := hid hmm
  have HN := hid hn
  have HCz : Hid (∀ i, i < n → w.cell? ⟨b, off + i, none⟩ = some (.int .i64 (zs.getD i 0))) := hcell
  have HCR : Hid (∀ i j : Nat, (i : Int) % (n : Int) = j → cellR zs (i : Int) = zs.getD j 0) := by
    intro i j hij; unfold cellR; rw [← HN.out, hij]; simp
  clear hmm hn hm hm2 hc hc2 hcell h4
  go_enter Try.func28, Try.ntmps28
  go_wp2
  go_loopw [5, 6, 7, 8, 11] (fun x _ _ _ i wr => ∃ k : Nat, k ≤ n ∧ i = .int .i64 k ∧ x = .int .i64 ((oft zs ws k : Nat) : Int) ∧ ∃ d, wr = w.drewN d) (fun _ _ _ _ i _ => n - (intOf i).toNat)
  case atStart => exact ⟨0, Nat.zero_le _, rfl, rfl, 0, rfl⟩
  case round =>
    obtain ⟨i, hi, rfl, rfl, d0, hd0⟩ := hrel
    have HD0 := hid hd0
    have hle := oft_le zs ws i
    obtain ⟨X, hX⟩ : ∃ X, X = oft zs ws i := ⟨_, rfl⟩
    have HX := hid hX
    rw [← hX] at hle ⊢
    obtain ⟨wn, hwn⟩ : ∃ x, x = wr := ⟨_, rfl⟩
    rw [← hwn] at HD0 ⊢
    clear hX hd0 hwn
    by_cases hlt : i < n
    · have hki : (i : Int) < (n : Int) := by omega
      have hle2 : X ≤ 64 := by omega
      have HI : Hid (i < n ∧ n ≤ 64) := ⟨hlt, z2⟩
      clear hle hi
      go_wp2
      go_loopw [7, 8, 16] (fun x _ q wx => ∃ k d : Nat, k ≤ m ∧ q = .int .i64 (k : Int) ∧ x = .bool (mat zs ws i k) ∧ wx = w.drewN d) (fun _ _ q _ => m - (intOf q).toNat)
      case atStart => exact ⟨0, d0, Nat.zero_le _, rfl, rfl, HD0.out⟩
      case round =>
        obtain ⟨k, d, hk, rfl, rfl, hwr⟩ := hrel
        have HW := hid hwr
        by_cases hkt : k < m
        · obtain ⟨off2, rfl, hb2, hcell2⟩ := h42 (by omega)
          have HCw : Hid (∀ i, i < m → w.cell? ⟨bw, off2 + i, none⟩ = some (.int .i64 (ws.getD i 0))) := hcell2
          have hkm : (k : Int) < (m : Int) := by omega
          clear hcell2
          cases hmt : mat zs ws i k with
          | false =>
            have hms : mat zs ws i (k + 1) = false := by rw [mat_succ, hmt]; rfl
            have HMS := hid hms
            clear hmt hms hwr
            go_wp2_with fail
            go_quiet (fail)
            go_wp2
            go_roundw
            case rel => exact ⟨k + 1, d + nq, by omega, by go_num, by rw [HMS.out], by rw [HW.out, World.drewN_drewN]⟩
            case measure => simp [intOf]; omega
          | true =>
            obtain ⟨j, hj⟩ : ∃ j : Nat, ((i : Int) + (k : Int)) % (n : Int) = j := ⟨(((i : Int) + k) % (n : Int)).toNat, by have := Int.emod_nonneg ((i : Int) + k) (show (n : Int) ≠ 0 by omega); omega⟩
            have hjn : j < n := by have := Int.emod_lt_of_pos ((i : Int) + k) (show (0 : Int) < (n : Int) by omega); omega
            have hcr : cellR zs ((i : Int) + k) = zs.getD j 0 := by have := HCR.out (i + k) j (by rw [← hj]; simp); simpa using this
            obtain ⟨x, hx⟩ : ∃ x, x = zs.getD j 0 := ⟨_, rfl⟩
            obtain ⟨y, hy⟩ : ∃ y, y = ws.getD k 0 := ⟨_, rfl⟩
            have hcx : wr.cell? ⟨b, off + j, none⟩ = some (.int .i64 x) := by rw [hwr, hx]; exact HCz.out j hjn
            have hcy : wr.cell? ⟨bw, off2 + k, none⟩ = some (.int .i64 y) := by rw [hwr, hy]; exact HCw.out k hkt
            have hms : mat zs ws i (k + 1) = (x == y) := by rw [mat_succ, hmt, hcr, ← hx, ← hy]; rfl
            have hw3 : IntKind.i64.wrap ((i : Int) + (k : Int)) = (i : Int) + (k : Int) := by
              have h5 := wrap_id (x := (i : Int) + (k : Int)) (by omega) (by omega)
              rw [IntKind.wrap_i64]; unfold wrap64 at h5; exact h5
            have ht : ((i : Int) + (k : Int)).tmod (n : Int) = (j : Int) := by rw [Int.tmod_eq_emod_of_nonneg (by omega)]; exact hj
            have hw4 : IntKind.i64.wrap (j : Int) = (j : Int) := by
              have h5 := wrap_id (x := (j : Int)) (by omega) (by omega)
              rw [IntKind.wrap_i64]; unfold wrap64 at h5; exact h5
            have hnz : ¬ (n : Int) = 0 := by omega
            have hji : (j : Int) < (n : Int) := by omega
            have HMS := hid hms
            clear hmt hms hwr hj hcr hx hy
            go_wp2_with fail
            go_quiet (fail)
            go_wp2
            go_roundw
            case rel => exact ⟨k + 1, d + nq, by omega, by go_num, by rw [HMS.out], by rw [HW.out, World.drewN_drewN]⟩
            case measure => simp [intOf]; omega
        · have hkn : m = k := by omega
          subst hkn
          have hnx : oft zs ws (i + 1) = oft zs ws i + (if mat zs ws i m then 1 else 0) := by rw [HM.out]; rfl
          rw [← HX.out] at hnx
          clear hwr
          cases hmt : mat zs ws i m with
          | true =>
            rw [hmt, if_pos rfl] at hnx
            have HNX := hid hnx
            clear hnx hmt
            go_wp2
            go_roundw
            case rel => exact ⟨i + 1, by have := HI.out; omega, by go_num, by rw [HNX.out]; rfl, d, HW.out⟩
            case measure => have := HI.out; simp [intOf]; omega
          | false =>
            rw [hmt, if_neg (by decide)] at hnx
            have HNX := hid hnx
            clear hnx hmt
            go_wp2
            go_roundw
            case rel => exact ⟨i + 1, by have := HI.out; omega, by go_num, by rw [HNX.out]; rfl, d, HW.out⟩
            case measure => have := HI.out; simp [intOf]; omega
    · have hkn : n = i := by omega
      subst hkn
      go_wp2
      go_ret
      exact ⟨by rw [← HX.out]; rfl, d0, HD0.out⟩
end Go.Proofs.Ytjeoccjemkdbiaa.KcO
