/- Digits and numbers of cells: digitsOf, l02Digits, l03Cells, numberOf, l02Index, sumOf, l02Sum. -/
import Derived.Test.YtjeoccjemkdbiaaDig
import Derived.Test.YtjeoccjemkdbiaaRuleKit
import Derived.Laws.Bits64
namespace Go.Proofs.Ytjeoccjemkdbiaa.DigP
open Go.RowKit Go.Proofs.Ytjeoccjemkdbiaa.Rd Go.Proofs.Ytjeoccjemkdbiaa.Help Go.Proofs.Ytjeoccjemkdbiaa.Ring Go.Proofs.Ytjeoccjemkdbiaa.Small Go.Proofs.Ytjeoccjemkdbiaa.Keep Go.Proofs.Ytjeoccjemkdbiaa.Rule Go.Proofs.Ytjeoccjemkdbiaa.Dig
set_option linter.unusedVariables false
set_option linter.unusedSimpArgs false

theorem tmod_of {x s : Int} (h0 : 0 ≤ x) : x.tmod s = x % s := Int.tmod_eq_emod_of_nonneg h0
theorem tdiv_of {x s : Int} (h0 : 0 ≤ x) : x.tdiv s = x / s := Int.tdiv_eq_ediv_of_nonneg h0

set_option maxHeartbeats 1000000 in
theorem implDigits {w : World} {s x L : Int} (hs : 2 ≤ s ∧ s ≤ 3) (hx : 0 ≤ x ∧ x ≤ 1000000000) (hL : 0 ≤ L ∧ L ≤ 64) :
    Calls Try.prog 62 #[.int .i64 x, .int .i64 s, .int .i64 L] w fun e w' => ∃ b, e = .returned (.slice (some ⟨b, 0, none⟩) (dig s x L.toNat).length (dig s x L.toNat).length) ∧
      Own 2 w' b (.slice (some ⟨b, 0, none⟩) (dig s x L.toNat).length (dig s x L.toNat).length) (dig s x L.toNat) ∧ w.heap.size ≤ b ∧ Below w.heap.size w w' := by
  obtain ⟨l, rfl⟩ := Int.eq_ofNat_of_zero_le hL.1
  have hl : l ≤ 64 := by omega
  rw [Int.toNat_natCast, dig_length]
  have hmk := run_make_row' (P := Try.prog) 22 2 (.int .i64 0) 8 Try.underlying22 infoI rfl .i64 .i64 l (by omega) (by omega)
  obtain ⟨x1, x2⟩ := hx
  have HS := hid hs
  obtain ⟨s1, s2⟩ := hs
  have HX := hid x1
  have HE : Hid (∀ y : Int, 0 ≤ y → 0 ≤ y % s ∧ y % s ≤ s - 1 ∧ 0 ≤ y / s ∧ y / s ≤ y) := by
    intro y hy
    have h1 := Int.emod_nonneg y (show s ≠ 0 by omega)
    have h2 := Int.emod_lt_of_pos y (show 0 < s by omega)
    have h3 : 0 ≤ y / s := Int.ediv_nonneg hy (by omega)
    have h4 : y / s ≤ y := Int.ediv_le_self s hy
    omega
  go_enter Try.func62, Try.ntmps62
  go_wp2
  go_loopw [0, 8] (fun y i wr => ∃ k : Nat, k ≤ l ∧ i = .int .i64 ((l : Int) - 1 - k) ∧ y = .int .i64 (x / s ^ k) ∧ Hid (0 ≤ x / s ^ k ∧ x / s ^ k ≤ 1000000000) ∧ Own 2 wr w.heap.size (.slice (some ⟨w.heap.size, 0, none⟩) l l) (List.replicate (l - k) 0 ++ dig s x k) ∧ Below w.heap.size w wr) (fun _ i => fun _ => (intOf i + 1).toNat)
  case atStart => exact ⟨0, Nat.zero_le _, by simp, by simp, by simp [Hid]; omega, by simpa [dig] using Own.made 2 w l (by unfold maxLen; omega), (Below.refl _ _).alloc (Nat.le_refl _) _⟩
  case round =>
    obtain ⟨k, hk, rfl, rfl, hy, hown, hbel⟩ := hrel
    by_cases hlt : k < l
    · obtain ⟨Y, hY⟩ : ∃ Y, Y = x / s ^ k := ⟨_, rfl⟩
      have HY := hid hY
      rw [← hY] at hy ⊢
      obtain ⟨y1, y2⟩ := hy.out
      obtain ⟨e1, e2, e3, e4⟩ := HE.out Y y1
      have t1 : Y.tmod s = Y % s := tmod_of y1
      have t2 : Y.tdiv s = Y / s := tdiv_of y1
      obtain ⟨i, hi⟩ : ∃ i : Nat, (l : Int) - 1 - k = i := ⟨l - 1 - k, by omega⟩
      have hilt : (i : Int) < (l : Int) := by omega
      rw [hi]
      have HI := hid hi
      have hlen : (List.replicate (l - k) (0 : Int) ++ dig s x k).length = l := by rw [List.length_append, List.length_replicate, dig_length]; omega
      have hin : i < l := by omega
      have hox := hown.cell (i := i) (by rw [hlen]; exact hin)
      have hof := hown.free i
      have HO := hid hown
      have HB := hid hbel
      clear hY hy hown hbel hlen hi
      go_wp2
      go_roundw
      case rel =>
        have hq := set_dig s x l k hlt
        have hi2 : l - 1 - k = i := by have := HI.out; omega
        rw [hi2, ← HY.out] at hq
        refine ⟨k + 1, by omega, ?_, ?_, ?_, ?_, HB.out.setCell (Nat.le_refl _) _⟩
        · have := HI.out; go_num
        · rw [← ediv_pow_succ HS.out x k, ← HY.out]
        · rw [← ediv_pow_succ HS.out x k, ← HY.out]; simp only [Hid]; omega
        · rw [← hq]
          exact HO.out.set i _
      case measure => have := HI.out; simp [intOf] <;> omega
    · have hkl : k = l := by omega
      subst hkl
      have e0 : ((k : Int) - 1 - k) = -1 := by omega
      rw [e0]
      go_wp2
      go_ret
      refine ⟨_, rfl, ?_, Nat.le_refl _, hbel⟩
      simpa using hown

set_option maxHeartbeats 1000000 in
theorem specCells {w : World} {s x L : Int} (hs : 2 ≤ s ∧ s ≤ 3) (hx : 0 ≤ x ∧ x ≤ 1000000000) (hL : 0 ≤ L ∧ L ≤ 64) :
    Calls Try.prog 27 #[.int .i64 x, .int .i64 s, .int .i64 L] w fun e w' => ∃ b, e = .returned (.slice (some ⟨b, 0, none⟩) (dig s x L.toNat).length (dig s x L.toNat).length) ∧
      Own 2 w' b (.slice (some ⟨b, 0, none⟩) (dig s x L.toNat).length (dig s x L.toNat).length) (dig s x L.toNat) ∧ w.heap.size ≤ b ∧ Below w.heap.size w w' := by
  obtain ⟨l, rfl⟩ := Int.eq_ofNat_of_zero_le hL.1
  have hl : l ≤ 64 := by omega
  rw [Int.toNat_natCast, dig_length]
  have hmk := run_make_row' (P := Try.prog) 22 2 (.int .i64 0) 8 Try.underlying22 infoI rfl .i64 .i64 l (by omega) (by omega)
  obtain ⟨x1, x2⟩ := hx
  have HS := hid hs
  obtain ⟨s1, s2⟩ := hs
  have HX := hid x1
  have HE : Hid (∀ y : Int, 0 ≤ y → 0 ≤ y % s ∧ y % s ≤ s - 1 ∧ 0 ≤ y / s ∧ y / s ≤ y) := by
    intro y hy
    have h1 := Int.emod_nonneg y (show s ≠ 0 by omega)
    have h2 := Int.emod_lt_of_pos y (show 0 < s by omega)
    have h3 : 0 ≤ y / s := Int.ediv_nonneg hy (by omega)
    have h4 : y / s ≤ y := Int.ediv_le_self s hy
    omega
  go_enter Try.func27, Try.ntmps27
  go_wp2
  go_loopw [0, 8] (fun y i wr => ∃ k : Nat, k ≤ l ∧ i = .int .i64 ((l : Int) - 1 - k) ∧ y = .int .i64 (x / s ^ k) ∧ Hid (0 ≤ x / s ^ k ∧ x / s ^ k ≤ 1000000000) ∧ Own 2 wr w.heap.size (.slice (some ⟨w.heap.size, 0, none⟩) l l) (List.replicate (l - k) 0 ++ dig s x k) ∧ Below w.heap.size w wr) (fun _ i => fun _ => (intOf i + 1).toNat)
  case atStart => exact ⟨0, Nat.zero_le _, by simp, by simp, by simp [Hid]; omega, by simpa [dig] using Own.made 2 w l (by unfold maxLen; omega), (Below.refl _ _).alloc (Nat.le_refl _) _⟩
  case round =>
    obtain ⟨k, hk, rfl, rfl, hy, hown, hbel⟩ := hrel
    by_cases hlt : k < l
    · obtain ⟨Y, hY⟩ : ∃ Y, Y = x / s ^ k := ⟨_, rfl⟩
      have HY := hid hY
      rw [← hY] at hy ⊢
      obtain ⟨y1, y2⟩ := hy.out
      obtain ⟨e1, e2, e3, e4⟩ := HE.out Y y1
      have t1 : Y.tmod s = Y % s := tmod_of y1
      have t2 : Y.tdiv s = Y / s := tdiv_of y1
      obtain ⟨i, hi⟩ : ∃ i : Nat, (l : Int) - 1 - k = i := ⟨l - 1 - k, by omega⟩
      have hilt : (i : Int) < (l : Int) := by omega
      rw [hi]
      have HI := hid hi
      have hlen : (List.replicate (l - k) (0 : Int) ++ dig s x k).length = l := by rw [List.length_append, List.length_replicate, dig_length]; omega
      have hin : i < l := by omega
      have hox := hown.cell (i := i) (by rw [hlen]; exact hin)
      have hof := hown.free i
      have HO := hid hown
      have HB := hid hbel
      clear hY hy hown hbel hlen hi
      go_wp2
      go_roundw
      case rel =>
        have hq := set_dig s x l k hlt
        have hi2 : l - 1 - k = i := by have := HI.out; omega
        rw [hi2, ← HY.out] at hq
        refine ⟨k + 1, by omega, ?_, ?_, ?_, ?_, HB.out.setCell (Nat.le_refl _) _⟩
        · have := HI.out; go_num
        · rw [← ediv_pow_succ HS.out x k, ← HY.out]
        · rw [← ediv_pow_succ HS.out x k, ← HY.out]; simp only [Hid]; omega
        · rw [← hq]
          exact HO.out.set i _
      case measure => have := HI.out; simp [intOf] <;> omega
    · have hkl : k = l := by omega
      subst hkl
      have e0 : ((k : Int) - 1 - k) = -1 := by omega
      rw [e0]
      go_wp2
      go_ret
      refine ⟨_, rfl, ?_, Nat.le_refl _, hbel⟩
      simpa using hown

set_option maxHeartbeats 1000000 in
theorem implNumber {w : World} {b : Nat} {v : Value} {zs : List Int} {s : Int} (h : Rd w b v zs) (hs : 2 ≤ s ∧ s ≤ 3) (hl : zs.length ≤ 16) (ha : allB zs s = true) :
    Calls Try.prog 64 #[v, .int .i64 s] w fun e w' => e = .returned (.int .i64 (numL zs s)) ∧ w = w' := by
  have HNB : Hid (∀ k, 0 ≤ numL (zs.take k) s ∧ numL (zs.take k) s ≤ 43046721) := by
    intro k
    have h1 := numL_take_bd hs ha k
    have h2 := pow_16 hs hl
    omega
  have HCB : Hid (∀ k, k < zs.length → 0 ≤ zs.getD k 0 ∧ zs.getD k 0 ≤ s - 1) := fun k hk => all_get ha hk
  obtain ⟨ao, cap, rfl, hc, hm, h4⟩ := h
  obtain ⟨s1, s2⟩ := hs
  obtain ⟨n, hn⟩ : ∃ n, n = zs.length := ⟨_, rfl⟩
  rw [← hn] at hc h4 hl HCB ⊢
  have Hn := hid hn
  clear hn hc hm ha
  go_enter Try.func64, Try.ntmps64
  go_wp2
  go_loop [5, 7, 10] (fun x y i => ∃ k : Nat, k ≤ n ∧ i = .int .i64 k ∧ x = .int .i64 (numL (zs.take k) s)) (fun x y i => n - (intOf i).toNat)
  case atStart => exact ⟨0, Nat.zero_le _, rfl, rfl⟩
  case round =>
    obtain ⟨k, hk, rfl, rfl⟩ := hrel
    by_cases hlt : k < n
    · obtain ⟨off, rfl, hb, hcell⟩ := h4 (by omega)
      have hnx := numL_take zs s k (by have := Hn.out; omega)
      obtain ⟨x1, x2⟩ := HNB.out k
      obtain ⟨c1, c2⟩ := HCB.out k hlt
      have hcx := hcell k hlt
      obtain ⟨X, hX⟩ : ∃ X, X = numL (zs.take k) s := ⟨_, rfl⟩
      obtain ⟨Y, hY⟩ : ∃ Y, Y = zs.getD k 0 := ⟨_, rfl⟩
      rw [← hX] at x1 x2 hnx ⊢
      rw [← hY] at c1 c2 hcx hnx
      obtain ⟨Z, hZ⟩ : ∃ Z, X * s = Z := ⟨_, rfl⟩
      have b7 : 0 ≤ Z ∧ Z ≤ 129140163 := by rw [← hZ]; rcases (show s = 2 ∨ s = 3 by omega) with rfl | rfl <;> omega
      obtain ⟨b8, b9⟩ := b7
      have HNX : Hid (numL (zs.take (k + 1)) s = Z + Y) := by rw [hZ] at hnx; exact hnx
      clear hX hY hnx hcell
      go_wp2
      go_round
      case rel => exact ⟨k + 1, by omega, by go_num, by rw [HNX.out]⟩
      case measure => simp [intOf]; omega
    · have hkn : k = n := by omega
      subst hkn
      have e : zs.take k = zs := by rw [Hn.out]; exact List.take_length
      rw [e]
      obtain ⟨X, hX⟩ : ∃ X, X = numL zs s := ⟨_, rfl⟩
      have HX := hid hX
      rw [← hX]
      clear hX
      go_wp2
      go_ret
      exact ⟨by rw [← HX.out]; rfl, rfl⟩

set_option maxHeartbeats 1000000 in
theorem specNumber3 {w : World} {b : Nat} {v : Value} {zs : List Int} {s : Int} (h : Rd w b v zs) (hs : 2 ≤ s ∧ s ≤ 3) (hl : zs.length ≤ 16) (ha : allB zs s = true) :
    Calls Try.prog 84 #[v, .int .i64 s] w fun e w' => e = .returned (.int .i64 (numL zs s)) ∧ w = w' := by
  have HNB : Hid (∀ k, 0 ≤ numL (zs.take k) s ∧ numL (zs.take k) s ≤ 43046721) := by
    intro k
    have h1 := numL_take_bd hs ha k
    have h2 := pow_16 hs hl
    omega
  have HCB : Hid (∀ k, k < zs.length → 0 ≤ zs.getD k 0 ∧ zs.getD k 0 ≤ s - 1) := fun k hk => all_get ha hk
  obtain ⟨ao, cap, rfl, hc, hm, h4⟩ := h
  obtain ⟨s1, s2⟩ := hs
  obtain ⟨n, hn⟩ : ∃ n, n = zs.length := ⟨_, rfl⟩
  rw [← hn] at hc h4 hl HCB ⊢
  have Hn := hid hn
  clear hn hc hm ha
  go_enter Try.func84, Try.ntmps84
  go_wp2
  go_loop [5, 9] (fun x i => ∃ k : Nat, k ≤ n ∧ i = .int .i64 k ∧ x = .int .i64 (numL (zs.take k) s)) (fun x i => n - (intOf i).toNat)
  case atStart => exact ⟨0, Nat.zero_le _, rfl, rfl⟩
  case round =>
    obtain ⟨k, hk, rfl, rfl⟩ := hrel
    by_cases hlt : k < n
    · obtain ⟨off, rfl, hb, hcell⟩ := h4 (by omega)
      have hnx := numL_take zs s k (by have := Hn.out; omega)
      obtain ⟨x1, x2⟩ := HNB.out k
      obtain ⟨c1, c2⟩ := HCB.out k hlt
      have hcx := hcell k hlt
      obtain ⟨X, hX⟩ : ∃ X, X = numL (zs.take k) s := ⟨_, rfl⟩
      obtain ⟨Y, hY⟩ : ∃ Y, Y = zs.getD k 0 := ⟨_, rfl⟩
      rw [← hX] at x1 x2 hnx ⊢
      rw [← hY] at c1 c2 hcx hnx
      obtain ⟨Z, hZ⟩ : ∃ Z, X * s = Z := ⟨_, rfl⟩
      have b7 : 0 ≤ Z ∧ Z ≤ 129140163 := by rw [← hZ]; rcases (show s = 2 ∨ s = 3 by omega) with rfl | rfl <;> omega
      obtain ⟨b8, b9⟩ := b7
      have HNX : Hid (numL (zs.take (k + 1)) s = Z + Y) := by rw [hZ] at hnx; exact hnx
      clear hX hY hnx hcell
      go_wp2
      go_round
      case rel => exact ⟨k + 1, by omega, by go_num, by rw [HNX.out]⟩
      case measure => simp [intOf]; omega
    · have hkn : k = n := by omega
      subst hkn
      have e : zs.take k = zs := by rw [Hn.out]; exact List.take_length
      rw [e]
      obtain ⟨X, hX⟩ : ∃ X, X = numL zs s := ⟨_, rfl⟩
      have HX := hid hX
      rw [← hX]
      clear hX
      go_wp2
      go_ret
      exact ⟨by rw [← HX.out]; rfl, rfl⟩

set_option maxHeartbeats 1000000 in
theorem implSum {w : World} {b : Nat} {v : Value} {zs : List Int} {s : Int} (h : Rd w b v zs) (hs : 2 ≤ s ∧ s ≤ 3) (hl : zs.length ≤ 10000) (ha : allB zs s = true) :
    Calls Try.prog 45 #[v] w fun e w' => e = .returned (.int .i64 (sumL zs)) ∧ w = w' := by
  have HNB : Hid (∀ k, 0 ≤ sumL (zs.take k) ∧ sumL (zs.take k) ≤ 20000) := by
    intro k
    have h1 := sumL_take_bd hs ha k
    rcases (show s = 2 ∨ s = 3 by omega) with rfl | rfl <;> omega
  have HCB : Hid (∀ k, k < zs.length → 0 ≤ zs.getD k 0 ∧ zs.getD k 0 ≤ s - 1) := fun k hk => all_get ha hk
  obtain ⟨ao, cap, rfl, hc, hm, h4⟩ := h
  obtain ⟨s1, s2⟩ := hs
  obtain ⟨n, hn⟩ : ∃ n, n = zs.length := ⟨_, rfl⟩
  rw [← hn] at hc h4 hl HCB ⊢
  have Hn := hid hn
  clear hn hc hm ha
  go_enter Try.func45, Try.ntmps45
  go_wp2
  go_loop [3, 5, 8] (fun x y i => ∃ k : Nat, k ≤ n ∧ i = .int .i64 k ∧ x = .int .i64 (sumL (zs.take k))) (fun x y i => n - (intOf i).toNat)
  case atStart => exact ⟨0, Nat.zero_le _, rfl, rfl⟩
  case round =>
    obtain ⟨k, hk, rfl, rfl⟩ := hrel
    by_cases hlt : k < n
    · obtain ⟨off, rfl, hb, hcell⟩ := h4 (by omega)
      have hnx := sumL_take zs k (by have := Hn.out; omega)
      obtain ⟨x1, x2⟩ := HNB.out k
      obtain ⟨c1, c2⟩ := HCB.out k hlt
      have hcx := hcell k hlt
      obtain ⟨X, hX⟩ : ∃ X, X = sumL (zs.take k) := ⟨_, rfl⟩
      obtain ⟨Y, hY⟩ : ∃ Y, Y = zs.getD k 0 := ⟨_, rfl⟩
      rw [← hX] at x1 x2 hnx ⊢
      rw [← hY] at c1 c2 hcx hnx
      have HNX := hid hnx
      clear hX hY hnx hcell
      go_wp2
      go_round
      case rel => exact ⟨k + 1, by omega, by go_num, by rw [HNX.out]⟩
      case measure => simp [intOf]; omega
    · have hkn : k = n := by omega
      subst hkn
      have e : zs.take k = zs := by rw [Hn.out]; exact List.take_length
      rw [e]
      obtain ⟨X, hX⟩ : ∃ X, X = sumL zs := ⟨_, rfl⟩
      have HX := hid hX
      rw [← hX]
      clear hX
      go_wp2
      go_ret
      exact ⟨by rw [← HX.out]; rfl, rfl⟩

end Go.Proofs.Ytjeoccjemkdbiaa.DigP
