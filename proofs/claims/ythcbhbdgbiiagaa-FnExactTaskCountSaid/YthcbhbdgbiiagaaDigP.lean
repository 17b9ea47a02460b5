/- Digits and numbers of cells: digitsOf, l02Digits, l03Cells, numberOf, l02Index, sumOf, l02Sum. -/
import Derived.Test.YthcbhbdgbiiagaaDig
import Derived.Test.YthcbhbdgbiiagaaRuleKit
import Derived.Laws.Bits64
namespace Go.Proofs.Ythcbhbdgbiiagaa.DigP
open Go.RowKit Go.Proofs.Ythcbhbdgbiiagaa.Rd Go.Proofs.Ythcbhbdgbiiagaa.Help Go.Proofs.Ythcbhbdgbiiagaa.Ring Go.Proofs.Ythcbhbdgbiiagaa.Small Go.Proofs.Ythcbhbdgbiiagaa.Keep Go.Proofs.Ythcbhbdgbiiagaa.Rule Go.Proofs.Ythcbhbdgbiiagaa.Dig
set_option linter.unusedVariables false
set_option linter.unusedSimpArgs false

theorem tmod_of {x s : Int} (h0 : 0 ≤ x) : x.tmod s = x % s := Int.tmod_eq_emod_of_nonneg h0
theorem tdiv_of {x s : Int} (h0 : 0 ≤ x) : x.tdiv s = x / s := Int.tdiv_eq_ediv_of_nonneg h0

set_option maxHeartbeats 1000000 in
theorem implSum {w : World} {b : Nat} {v : Value} {zs : List Int} {s : Int} (h : Rd w b v zs) (hs : 2 ≤ s ∧ s ≤ 3) (hl : zs.length ≤ 10000) (ha : allB zs s = true) :
    Calls Try.prog 64 #[v] w fun e w' => e = .returned (.int .i64 (sumL zs)) ∧ w = w' := by
  have HNB : Hid (∀ k, 0 ≤ sumL (zs.take k) ∧ sumL (zs.take k) ≤ 20000) := by
    intro k
    have h1 := sumL_take_bd hs ha k
    rcases (show s = 2 ∨ s = 3 by omega) with rfl | rfl <;> omega
  have HCB : Hid (∀ k, k < zs.length → 0 ≤ zs.getD k 0 ∧ zs.getD k 0 ≤ s - 1) := fun k hk => all_get ha hk
  obtain ⟨ao, cap, rfl, hc, hm, h4⟩ := h
  obtain ⟨s1, s2⟩ := hs
  obtain ⟨n, hn⟩ : ∃ n, n = zs.length := ⟨_, rfl⟩
  rw [← hn] at hc h4 hl HCB ⊢
  have Hn := hid hn
  clear hn hc hm ha
  go_enter Try.func64, Try.ntmps64
  go_wp2
  go_loop [3, 5, 8] (fun x y i => ∃ k : Nat, k ≤ n ∧ i = .int .i64 k ∧ x = .int .i64 (sumL (zs.take k))) (fun x y i => n - (intOf i).toNat)
  case atStart => exact ⟨0, Nat.zero_le _, rfl, rfl⟩
  case round =>
    obtain ⟨k, hk, rfl, rfl⟩ := hrel
    by_cases hlt : k < n
    · obtain ⟨off, rfl, hb, hcell⟩ := h4 (by omega)
      have hnx := sumL_take zs k (by have := Hn.out; omega)
      obtain ⟨x1, x2⟩ := HNB.out k
      obtain ⟨c1, c2⟩ := HCB.out k hlt
      have hcx := hcell k hlt
      obtain ⟨X, hX⟩ : ∃ X, X = sumL (zs.take k) := ⟨_, rfl⟩
      obtain ⟨Y, hY⟩ : ∃ Y, Y = zs.getD k 0 := ⟨_, rfl⟩
      rw [← hX] at x1 x2 hnx ⊢
      rw [← hY] at c1 c2 hcx hnx
      have HNX := hid hnx
      clear hX hY hnx hcell
      go_wp2
      go_round
      case rel => exact ⟨k + 1, by omega, by go_num, by rw [HNX.out]⟩
      case measure => simp [intOf]; omega
    · have hkn : k = n := by omega
      subst hkn
      have e : zs.take k = zs := by rw [Hn.out]; exact List.take_length
      rw [e]
      obtain ⟨X, hX⟩ : ∃ X, X = sumL zs := ⟨_, rfl⟩
      have HX := hid hX
      rw [← hX]
      clear hX
      go_wp2
      go_ret
      exact ⟨by rw [← HX.out]; rfl, rfl⟩

end Go.Proofs.Ythcbhbdgbiiagaa.DigP
