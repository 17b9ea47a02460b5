/- Powers of 2 and 3, and the numbers of neighbourhoods: powerOf, l02Powers, numberAt. -/
import Derived.Test.YtjeoccjemkdbiaaRing
import Derived.Test.YtjeoccjemkdbiaaRound
import Derived.Test.YtjeoccjemkdbiaaSmall
namespace Go.Proofs.Ytjeoccjemkdbiaa.Num
open Go.RowKit Go.Proofs.Ytjeoccjemkdbiaa.Rd Go.Proofs.Ytjeoccjemkdbiaa.Help Go.Proofs.Ytjeoccjemkdbiaa.Ring Go.Proofs.Ytjeoccjemkdbiaa.Small
set_option linter.unusedVariables false

theorem pow_bd {st : Int} (h : 2 ≤ st ∧ st ≤ 3) {k : Nat} (hk : k ≤ 5) : 1 ≤ st ^ k ∧ st ^ k ≤ 243 := by
  rcases (show st = 2 ∨ st = 3 by omega) with rfl | rfl <;>
  rcases (show k = 0 ∨ k = 1 ∨ k = 2 ∨ k = 3 ∨ k = 4 ∨ k = 5 by omega) with rfl | rfl | rfl | rfl | rfl | rfl <;> decide

set_option maxHeartbeats 400000 in
theorem specPower {w : World} {st : Int} {k : Nat} (hst : 2 ≤ st ∧ st ≤ 3) (hk : k ≤ 5) :
    Calls Try.prog 74 #[.int .i64 st, .int .i64 k] w fun e w' => e = .returned (.int .i64 (st ^ k)) ∧ w = w' := by
  have HB : Hid (∀ j, j ≤ 5 → 1 ≤ st ^ j ∧ st ^ j ≤ 243) := fun j hj => pow_bd hst hj
  go_enter Try.func74, Try.ntmps74
  go_wp2
  go_loop [1, 5] (fun t p => ∃ j : Nat, j ≤ k ∧ t = .int .i64 ((k : Int) - j) ∧ p = .int .i64 (st ^ j)) (fun t _ => (intOf t).toNat)
  case atStart => exact ⟨0, Nat.zero_le _, by simp, by simp⟩
  case round =>
    obtain ⟨j, hj, rfl, rfl⟩ := hrel
    by_cases hlt : j < k
    · have b2 := HB.out (j + 1) (by omega)
      obtain ⟨P, hP⟩ : ∃ P, P = st ^ j := ⟨_, rfl⟩
      obtain ⟨P2, hP2⟩ : ∃ P2, P2 = st ^ (j + 1) := ⟨_, rfl⟩
      have he : P * st = P2 := by rw [hP, hP2, Int.pow_succ]
      rw [← hP2] at b2
      obtain ⟨b3, b4⟩ := b2
      rw [← hP]
      have H2 : Hid (P2 = st ^ (j + 1)) := hP2
      have hki : (0 : Int) < (k : Int) - j := by omega
      clear hP hP2
      go_wp2
      go_round
      case rel => exact ⟨j + 1, by omega, by go_num, by rw [H2.out]⟩
      case measure => simp [intOf]; omega
    · have hkn : k = j := by omega
      subst hkn
      obtain ⟨P, hP⟩ : ∃ P, P = st ^ k := ⟨_, rfl⟩
      have HPk : Hid (P = st ^ k) := hP
      rw [← hP]
      clear hP
      go_wp2
      go_ret
      exact ⟨by rw [← HPk.out]; rfl, rfl⟩

set_option maxHeartbeats 400000 in
theorem implPower {w : World} {st : Int} {k : Nat} (hst : 2 ≤ st ∧ st ≤ 3) (hk : k ≤ 5) :
    Calls Try.prog 61 #[.int .i64 st, .int .i64 k] w fun e w' => e = .returned (.int .i64 (st ^ k)) ∧ w = w' := by
  have HB : Hid (∀ j, j ≤ 5 → 1 ≤ st ^ j ∧ st ^ j ≤ 243) := fun j hj => pow_bd hst hj
  go_enter Try.func61, Try.ntmps61
  go_wp2
  go_loop [5, 7] (fun p t => ∃ j : Nat, j ≤ k ∧ t = .int .i64 j ∧ p = .int .i64 (st ^ j)) (fun _ t => k - (intOf t).toNat)
  case atStart => exact ⟨0, Nat.zero_le _, rfl, by simp⟩
  case round =>
    obtain ⟨j, hj, rfl, rfl⟩ := hrel
    by_cases hlt : j < k
    · have b2 := HB.out (j + 1) (by omega)
      obtain ⟨P, hP⟩ : ∃ P, P = st ^ j := ⟨_, rfl⟩
      obtain ⟨P2, hP2⟩ : ∃ P2, P2 = st ^ (j + 1) := ⟨_, rfl⟩
      have he : P * st = P2 := by rw [hP, hP2, Int.pow_succ]
      rw [← hP2] at b2
      obtain ⟨b3, b4⟩ := b2
      rw [← hP]
      have H2 : Hid (P2 = st ^ (j + 1)) := hP2
      clear hP hP2
      go_wp2
      go_round
      case rel => exact ⟨j + 1, by omega, by go_num, by rw [H2.out]⟩
      case measure => simp [intOf]; omega
    · have hkn : k = j := by omega
      subst hkn
      obtain ⟨P, hP⟩ : ∃ P, P = st ^ k := ⟨_, rfl⟩
      have HPk : Hid (P = st ^ k) := hP
      rw [← hP]
      clear hP
      go_wp2
      go_ret
      exact ⟨by rw [← HPk.out]; rfl, rfl⟩

/-- The cell of a ring at a place, round and round. -/
def cellR (zs : List Int) (j : Int) : Int := zs.getD (j % (zs.length : Int)).toNat 0
/-- The number of k cells from a place on. -/
def num (zs : List Int) (st f : Int) : Nat → Int
  | 0 => 0
  | k + 1 => num zs st f k * st + cellR zs (f + k)

theorem place_lt {zs : List Int} (hn : 0 < zs.length) (j : Int) : (j % (zs.length : Int)).toNat < zs.length := by
  have h1 := Int.emod_nonneg j (show (zs.length : Int) ≠ 0 by omega)
  have h2 := Int.emod_lt_of_pos j (show (0 : Int) < (zs.length : Int) by omega)
  omega
theorem all_getD {zs : List Int} {st : Int} (h : allB zs st = true) {i : Nat} (hi : i < zs.length) : 0 ≤ zs.getD i 0 ∧ zs.getD i 0 ≤ st - 1 := by
  unfold allB at h
  rw [List.all_eq_true] at h
  have := h (zs[i]) (List.getElem_mem hi)
  simp only [okB, decide_eq_true_eq] at this
  simpa [List.getD, hi] using this
theorem cellR_bd {zs : List Int} {st : Int} (h : allB zs st = true) (hn : 0 < zs.length) (j : Int) : 0 ≤ cellR zs j ∧ cellR zs j ≤ st - 1 := all_getD h (place_lt hn j)
theorem num_bd {zs : List Int} {st : Int} (h : allB zs st = true) (hst : 2 ≤ st ∧ st ≤ 3) (hn : 0 < zs.length) (f : Int) (k : Nat) : 0 ≤ num zs st f k ∧ num zs st f k < st ^ k := by
  induction k with
  | zero => simp [num]
  | succ k ih =>
    have hc := cellR_bd h hn (f + k)
    rw [Int.pow_succ]
    simp only [num]
    generalize num zs st f k = X at *
    generalize st ^ k = P at *
    generalize cellR zs (f + k) = Y at *
    rcases (show st = 2 ∨ st = 3 by omega) with rfl | rfl <;> omega

theorem start_place (f : Int) (n : Nat) (hn : 0 < n) : (f.tmod n + n) % (n : Int) = f % n := by
  rw [Int.tmod_eq_emod]
  split
  · simp
  · simp only [Int.natAbs_natCast, Int.sub_add_cancel, Int.emod_emod_of_dvd _ (Int.dvd_refl _)]
theorem next_place (f : Int) (n : Nat) (hn : 0 < n) (h : f % n + 1 = n) : (f + 1) % (n : Int) = 0 := by
  rw [← Int.emod_add_emod, h, Int.emod_self]
theorem next_place' (f : Int) (n : Nat) (hn : 0 < n) (h : ¬ f % n + 1 = n) : (f + 1) % (n : Int) = f % n + 1 := by
  have h1 := Int.emod_nonneg f (show (n : Int) ≠ 0 by omega)
  have h2 := Int.emod_lt_of_pos f (show (0 : Int) < (n : Int) by omega)
  rw [← Int.emod_add_emod, Int.emod_eq_of_lt (by omega) (by omega)]

set_option maxHeartbeats 1000000 in
theorem numberAt {w : World} {b : Nat} {v : Value} {zs : List Int} {st f : Int} {L : Nat} (h : Rd w b v zs) (hst : 2 ≤ st ∧ st ≤ 3) (hn : 1 ≤ zs.length ∧ zs.length ≤ 64) (ha : allB zs st = true) (hf : -100 ≤ f ∧ f ≤ 1000) (hL : L ≤ 5) :
    Calls Try.prog 63 #[v, .int .i64 f, .int .i64 L, .int .i64 st] w fun e w' => e = .returned (.int .i64 (num zs st f L)) ∧ w = w' := by
  have HNB : Hid (∀ k, k ≤ 5 → 0 ≤ num zs st f k ∧ num zs st f k ≤ 242) := by
    intro k hk
    have h1 := num_bd ha hst (by omega) f k
    have h2 := (pow_bd hst hk).2
    omega
  have HCB : Hid (∀ j, 0 ≤ cellR zs j ∧ cellR zs j ≤ st - 1) := fun j => cellR_bd ha (by omega) j
  have HP : Hid (∀ j : Int, (j % (zs.length : Int)).toNat < zs.length) := fun j => place_lt (by omega) j
  obtain ⟨ao, cap, rfl, hc, hm, h4⟩ := h
  obtain ⟨s1, s2⟩ := hst
  obtain ⟨f1, f2⟩ := hf
  obtain ⟨off, rfl, hb, hcell⟩ := h4 (by omega)
  obtain ⟨n, hnn⟩ : ∃ n, n = zs.length := ⟨_, rfl⟩
  rw [← hnn] at hc hcell hn HP ⊢
  obtain ⟨n1, n2⟩ := hn
  have Hn : Hid (n = zs.length) := hnn
  have HC : Hid (∀ i, i < n → w.cell? ⟨b, off + i, none⟩ = some (.int .i64 (zs.getD i 0))) := hcell
  have HF : Hid (-1000000 ≤ f ∧ f ≤ 1000000) := (show _ ∧ _ by omega)
  have HQ : Hid (1 ≤ n ∧ n ≤ 1000000) := (show _ ∧ _ by omega)
  clear hnn hc hm h4 hcell ha
  go_enter Try.func63, Try.ntmps63
  go_wp2_with fail
  go_at_call 79
  refine (Round.onRound HF.out HQ.out).mono ?_
  rintro e w' ⟨rfl, rfl⟩
  go_wp2
  go_loop [10, 11, 18] (fun t x q => ∃ k : Nat, k ≤ L ∧ q = .int .i64 k ∧ t = .int .i64 ((f + k) % (n : Int)) ∧ x = .int .i64 (num zs st f k)) (fun _ _ q => L - (intOf q).toNat)
  case atStart => exact ⟨0, Nat.zero_le _, rfl, by simp, rfl⟩
  case round =>
    obtain ⟨k, hk, rfl, rfl, rfl⟩ := hrel
    by_cases hlt : k < L
    · have b1 := HNB.out k (by omega)
      have b2 := HCB.out (f + k)
      obtain ⟨m, hmm⟩ : ∃ m : Nat, (f + k) % (n : Int) = m := ⟨((f + k) % (n : Int)).toNat, by have := Int.emod_nonneg (f + k) (show (n : Int) ≠ 0 by omega); omega⟩
      have hmlt : m < n := by have := HP.out (f + k); rw [hmm] at this; simpa using this
      have hx : cellR zs (f + k) = zs.getD m 0 := by unfold cellR; rw [← Hn.out, hmm]; simp
      obtain ⟨X, hX⟩ : ∃ X, X = num zs st f k := ⟨_, rfl⟩
      obtain ⟨Y, hY⟩ : ∃ Y, Y = cellR zs (f + k) := ⟨_, rfl⟩
      have hcx : w.cell? ⟨b, off + m, none⟩ = some (.int .i64 Y) := by rw [hY, hx]; exact HC.out m hmlt
      have hnx : num zs st f (k + 1) = X * st + Y := by rw [hX, hY]; rfl
      rw [← hX] at b1 ⊢
      rw [← hY] at b2
      rw [hmm]
      obtain ⟨b3, b4⟩ := b1
      obtain ⟨b5, b6⟩ := b2
      obtain ⟨Z, hZ⟩ : ∃ Z, X * st = Z := ⟨_, rfl⟩
      have b7 : 0 ≤ Z ∧ Z ≤ 726 := by rw [← hZ]; rcases (show st = 2 ∨ st = 3 by omega) with rfl | rfl <;> omega
      obtain ⟨b8, b9⟩ := b7
      have HNX : Hid (num zs st f (k + 1) = Z + Y) := by rw [hZ] at hnx; exact hnx
      have HM : Hid ((f + k) % (n : Int) = m) := hmm
      clear hX hY hnx hmm hx
      by_cases hw : (m : Int) + 1 = n
      · have HW : Hid ((m : Int) + 1 = n) := hw
        have hw1 : (((m : Int) + 1 == (n : Int))) = true := by simp; omega
        clear hw
        go_wp2
        go_round
        case rel =>
          have hz := next_place (f + k) n (by omega) (by rw [HM.out]; exact HW.out)
          exact ⟨k + 1, by omega, by go_num, by rw [show (f + ((k + 1 : Nat) : Int)) = f + k + 1 by omega, hz], by rw [HNX.out]⟩
        case measure => simp [intOf]; omega
      · have HW : Hid (¬ (m : Int) + 1 = n) := hw
        have hw1 : (((m : Int) + 1 == (n : Int))) = false := by simp; omega
        clear hw
        go_wp2
        go_round
        case rel =>
          have hz := next_place' (f + k) n (by omega) (by rw [HM.out]; exact HW.out)
          rw [HM.out] at hz
          exact ⟨k + 1, by omega, by go_num, by rw [show (f + ((k + 1 : Nat) : Int)) = f + k + 1 by omega, hz], by rw [HNX.out]⟩
        case measure => simp [intOf]; omega
    · have hkn : L = k := by omega
      subst hkn
      obtain ⟨X, hX⟩ : ∃ X, X = num zs st f L := ⟨_, rfl⟩
      have HX : Hid (X = num zs st f L) := hX
      rw [← hX]
      clear hX
      go_wp2
      go_ret
      exact ⟨by rw [← HX.out]; rfl, rfl⟩

end Go.Proofs.Ytjeoccjemkdbiaa.Num
