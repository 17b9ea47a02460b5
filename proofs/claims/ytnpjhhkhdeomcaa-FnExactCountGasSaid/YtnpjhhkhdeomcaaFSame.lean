/- SameField of both sides. -/
import Derived.Test.YtnpjhhkhdeomcaaFldKit
import Derived.Test.YtnpjhhkhdeomcaaFSpec
namespace Go.Proofs.Ytnpjhhkhdeomcaa.Same
open Go.RowKit Go.Proofs.Ytnpjhhkhdeomcaa.Rd Go.Proofs.Ytnpjhhkhdeomcaa.Help Go.Proofs.Ytnpjhhkhdeomcaa.Ring Go.Proofs.Ytnpjhhkhdeomcaa.Small Go.Proofs.Ytnpjhhkhdeomcaa.FVal Go.Proofs.Ytnpjhhkhdeomcaa.Keep Go.Proofs.Ytnpjhhkhdeomcaa.Rule
set_option linter.unusedVariables false
set_option linter.unusedSimpArgs false

def eqLB (xs ys : List Int) : Bool := decide (xs = ys)
theorem eq_len {xs ys : List Int} (h : ¬ xs.length = ys.length) : eqLB xs ys = false := by
  unfold eqLB; exact decide_eq_false (fun e => h (by rw [e]))
theorem eq_bad {xs ys : List Int} {k : Nat} (h : ¬ xs.getD k 0 = ys.getD k 0) : eqLB xs ys = false := by
  unfold eqLB; exact decide_eq_false (fun e => h (by rw [e]))
theorem eq_all {xs ys : List Int} (hl : xs.length = ys.length) (h : ∀ i, i < xs.length → xs.getD i 0 = ys.getD i 0) : eqLB xs ys = true := by
  unfold eqLB
  apply decide_eq_true
  apply List.ext_getElem hl
  intro i h1 h2
  have := h i h1
  simpa [List.getD, h1, h2] using this

set_option maxHeartbeats 1000000 in
theorem specEqual {w : World} {b1 b2 : Nat} {v1 v2 : Value} {xs ys : List Int} (h1 : Rd w b1 v1 xs) (h2 : Rd w b2 v2 ys) :
    Calls Try.prog 43 #[v1, v2] w fun e w' => e = .returned (.bool (eqLB xs ys)) ∧ ∃ m, w' = w.drewN m := by
  obtain ⟨ao, cap, rfl, hc, hm, h4⟩ := h1
  obtain ⟨ao2, cap2, rfl, hc2, hm2, h42⟩ := h2
  have lx : xs.length ≤ 9223372036854775807 := by unfold maxLen at hm; omega
  have ly : ys.length ≤ 9223372036854775807 := by unfold maxLen at hm2; omega
  clear hc hc2 hm hm2
  obtain ⟨q, hq⟩ : ∃ q, q = eqLB xs ys := ⟨_, rfl⟩
  have HQ := hid hq
  rw [← hq]
  clear hq
  by_cases hl : xs.length = ys.length
  · have HL := hid hl
    have e0 : ((xs.length : Int) != (ys.length : Int)) = false := by rw [hl]; simp
    obtain ⟨n, hnn⟩ : ∃ n, n = xs.length := ⟨_, rfl⟩
    have Hn := hid hnn
    rw [← hl] at e0 h42 ⊢
    rw [← hnn] at lx e0 h4 h42 ⊢
    clear hl hnn ly
    go_enter Try.func43, Try.ntmps43
    go_wp2
    go_loopw [5] (fun i wr => ∃ k : Nat, k ≤ n ∧ i = .int .i64 k ∧ Hid (∀ i, i < k → xs.getD i 0 = ys.getD i 0) ∧ ∃ m, wr = w.drewN m) (fun i _ => n - (intOf i).toNat)
    case atStart => exact ⟨0, Nat.zero_le _, rfl, fun i hi => absurd hi (by omega), 0, rfl⟩
    case round =>
      obtain ⟨k, hk, rfl, ha, m, hw⟩ := hrel
      have HW := hid hw
      by_cases hlt : k < n
      · obtain ⟨off, rfl, hb, hcc⟩ := h4 (by omega)
        obtain ⟨off2, rfl, hb2, hcc2⟩ := h42 (by omega)
        obtain ⟨x, hx⟩ : ∃ x, x = xs.getD k 0 := ⟨_, rfl⟩
        obtain ⟨y, hy⟩ : ∃ y, y = ys.getD k 0 := ⟨_, rfl⟩
        have hcx : wr.cell? ⟨b1, off + k, none⟩ = some (.int .i64 x) := by rw [hw, hx]; exact hcc k hlt
        have hcy : wr.cell? ⟨b2, off2 + k, none⟩ = some (.int .i64 y) := by rw [hw, hy]; exact hcc2 k hlt
        have hki : (k : Int) < (n : Int) := by omega
        have HX := hid hx
        have HY := hid hy
        clear hx hy hw hcc hcc2
        by_cases he : x = y
        · have hnx : ∀ i, i < k + 1 → xs.getD i 0 = ys.getD i 0 := by
            intro i hi
            rcases Nat.lt_or_ge i k with h | h
            · exact ha.out i h
            · have : i = k := by omega
              rw [this, ← HX.out, ← HY.out]; exact he
          have HNX := hid hnx
          subst he
          clear hnx
          go_wp2_with fail
          go_quiet (fail)
          go_wp2
          go_roundw
          case rel => exact ⟨k + 1, by omega, by go_num, HNX.out, m + nq, by rw [HW.out, World.drewN_drewN]⟩
          case measure => simp [intOf]; omega
        · have hf := eq_bad (xs := xs) (ys := ys) (k := k) (by rw [← HX.out, ← HY.out]; exact he)
          have HF := hid hf
          have he2 : (x != y) = true := by simpa using he
          clear hf he
          go_wp2_with fail
          go_quiet (fail)
          go_wp2
          go_ret
          exact ⟨by rw [HQ.out, HF.out]; rfl, m + nq, by rw [HW.out, World.drewN_drewN]⟩
      · have hkn : k = n := by omega
        subst hkn
        have ht := eq_all HL.out (fun i hi => ha.out i (by have := Hn.out; omega))
        have HT := hid ht
        clear ht ha hw
        go_wp2
        go_ret
        exact ⟨by rw [HQ.out, HT.out]; rfl, m, HW.out⟩
  · have HF := hid (eq_len hl)
    have e0 : ((xs.length : Int) != (ys.length : Int)) = true := by simp; omega
    clear hl h4 h42
    go_enter Try.func43, Try.ntmps43
    go_wp2
    go_ret
    exact ⟨by rw [HQ.out, HF.out]; rfl, 0, rfl⟩

set_option maxHeartbeats 1000000 in
theorem implEqual {w : World} {b1 b2 : Nat} {v1 v2 : Value} {xs ys : List Int} (h1 : Rd w b1 v1 xs) (h2 : Rd w b2 v2 ys) :
    Calls Try.prog 46 #[v1, v2] w fun e w' => e = .returned (.bool (eqLB xs ys)) ∧ ∃ m, w' = w.drewN m := by
  obtain ⟨ao, cap, rfl, hc, hm, h4⟩ := h1
  obtain ⟨ao2, cap2, rfl, hc2, hm2, h42⟩ := h2
  have lx : xs.length ≤ 9223372036854775807 := by unfold maxLen at hm; omega
  have ly : ys.length ≤ 9223372036854775807 := by unfold maxLen at hm2; omega
  clear hc hc2 hm hm2
  obtain ⟨q, hq⟩ : ∃ q, q = eqLB xs ys := ⟨_, rfl⟩
  have HQ := hid hq
  rw [← hq]
  clear hq
  by_cases hl : xs.length = ys.length
  · have HL := hid hl
    have e0 : ((xs.length : Int) != (ys.length : Int)) = false := by rw [hl]; simp
    obtain ⟨n, hnn⟩ : ∃ n, n = xs.length := ⟨_, rfl⟩
    have Hn := hid hnn
    rw [← hl] at e0 h42 ⊢
    rw [← hnn] at lx e0 h4 h42 ⊢
    clear hl hnn ly
    go_enter Try.func46, Try.ntmps46
    go_wp2
    go_loopw [5, 13] (fun i0 i wr => ∃ k : Nat, k ≤ n ∧ i = .int .i64 k ∧ Hid (∀ i, i < k → xs.getD i 0 = ys.getD i 0) ∧ ∃ m, wr = w.drewN m) (fun _ i _ => n - (intOf i).toNat)
    case atStart => exact ⟨0, Nat.zero_le _, rfl, fun i hi => absurd hi (by omega), 0, rfl⟩
    case round =>
      obtain ⟨k, hk, rfl, ha, m, hw⟩ := hrel
      have HW := hid hw
      by_cases hlt : k < n
      · obtain ⟨off, rfl, hb, hcc⟩ := h4 (by omega)
        obtain ⟨off2, rfl, hb2, hcc2⟩ := h42 (by omega)
        obtain ⟨x, hx⟩ : ∃ x, x = xs.getD k 0 := ⟨_, rfl⟩
        obtain ⟨y, hy⟩ : ∃ y, y = ys.getD k 0 := ⟨_, rfl⟩
        have hcx : wr.cell? ⟨b1, off + k, none⟩ = some (.int .i64 x) := by rw [hw, hx]; exact hcc k hlt
        have hcy : wr.cell? ⟨b2, off2 + k, none⟩ = some (.int .i64 y) := by rw [hw, hy]; exact hcc2 k hlt
        have hki : (k : Int) < (n : Int) := by omega
        have HX := hid hx
        have HY := hid hy
        clear hx hy hw hcc hcc2
        by_cases he : x = y
        · have hnx : ∀ i, i < k + 1 → xs.getD i 0 = ys.getD i 0 := by
            intro i hi
            rcases Nat.lt_or_ge i k with h | h
            · exact ha.out i h
            · have : i = k := by omega
              rw [this, ← HX.out, ← HY.out]; exact he
          have HNX := hid hnx
          subst he
          clear hnx
          go_wp2_with fail
          go_quiet (fail)
          go_wp2
          go_roundw
          case rel => exact ⟨k + 1, by omega, by go_num, HNX.out, m + nq, by rw [HW.out, World.drewN_drewN]⟩
          case measure => simp [intOf]; omega
        · have hf := eq_bad (xs := xs) (ys := ys) (k := k) (by rw [← HX.out, ← HY.out]; exact he)
          have HF := hid hf
          have he2 : (x != y) = true := by simpa using he
          clear hf he
          go_wp2_with fail
          go_quiet (fail)
          go_wp2
          go_ret
          exact ⟨by rw [HQ.out, HF.out]; rfl, m + nq, by rw [HW.out, World.drewN_drewN]⟩
      · have hkn : k = n := by omega
        subst hkn
        have ht := eq_all HL.out (fun i hi => ha.out i (by have := Hn.out; omega))
        have HT := hid ht
        clear ht ha hw
        go_wp2
        go_ret
        exact ⟨by rw [HQ.out, HT.out]; rfl, m, HW.out⟩
  · have HF := hid (eq_len hl)
    have e0 : ((xs.length : Int) != (ys.length : Int)) = true := by simp; omega
    clear hl h4 h42
    go_enter Try.func46, Try.ntmps46
    go_wp2
    go_ret
    exact ⟨by rw [HQ.out, HF.out]; rfl, 0, rfl⟩

/-- What SameField answers. -/
def sameB (s r : Int) (xs : List Int) (s' r' : Int) (ys : List Int) : Bool := decide (s = s') && (decide (r = r') && eqLB xs ys)

end Go.Proofs.Ytnpjhhkhdeomcaa.Same
