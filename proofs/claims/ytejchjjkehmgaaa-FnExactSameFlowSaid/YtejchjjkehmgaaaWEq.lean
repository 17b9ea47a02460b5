/- Walls that are the same, lists of floats that are the same: both sides. -/
import Derived.Test.YtejchjjkehmgaaaFlw
import Derived.Test.YtejchjjkehmgaaaSmN
namespace Go.Proofs.Ytejchjjkehmgaaa.WEq
open Go.RowKit Go.Proofs.Ytejchjjkehmgaaa.Rd Go.Proofs.Ytejchjjkehmgaaa.Rdb Go.Proofs.Ytejchjjkehmgaaa.Rdf Go.Proofs.Ytejchjjkehmgaaa.Fl Go.Proofs.Ytejchjjkehmgaaa.Help Go.Proofs.Ytejchjjkehmgaaa.Keep Go.Proofs.Ytejchjjkehmgaaa.Rule
set_option linter.unusedVariables false
set_option linter.unusedSimpArgs false

def sbG (xs ys : List Nat) (k : Nat) : Bool := bitsF (cn .f32 (xs.getD k 0)) == bitsF (cn .f32 (ys.getD k 0))
def eqFB (xs ys : List Nat) : Bool := decide (xs.length = ys.length ∧ ∀ i, i < xs.length → sbG xs ys i = true)
theorem eqf_len {xs ys : List Nat} (h : ¬ xs.length = ys.length) : eqFB xs ys = false := by
  unfold eqFB; exact decide_eq_false (fun e => h e.1)
theorem eqf_bad {xs ys : List Nat} {k : Nat} (hk : k < xs.length) (h : sbG xs ys k = false) : eqFB xs ys = false := by
  unfold eqFB; exact decide_eq_false (fun e => by have := e.2 k hk; rw [h] at this; cases this)
theorem eqf_all {xs ys : List Nat} (hl : xs.length = ys.length) (h : ∀ i, i < xs.length → sbG xs ys i = true) : eqFB xs ys = true := by
  unfold eqFB; exact decide_eq_true ⟨hl, h⟩
def eqWB (xs ys : List Bool) : Bool := decide (xs = ys)
theorem eqw_len {xs ys : List Bool} (h : ¬ xs.length = ys.length) : eqWB xs ys = false := by
  unfold eqWB; exact decide_eq_false (fun e => h (by rw [e]))
theorem eqw_bad {xs ys : List Bool} {k : Nat} (h : ¬ xs.getD k false = ys.getD k false) : eqWB xs ys = false := by
  unfold eqWB; exact decide_eq_false (fun e => h (by rw [e]))
theorem eqw_all {xs ys : List Bool} (hl : xs.length = ys.length) (h : ∀ i, i < xs.length → xs.getD i false = ys.getD i false) : eqWB xs ys = true := by
  unfold eqWB
  apply decide_eq_true
  apply List.ext_getElem hl
  intro i h1 h2
  have := h i h1
  simpa [List.getD, h1, h2] using this

set_option maxHeartbeats 1000000 in
theorem specWalls {w : World} {b1 b2 : Nat} {v1 v2 : Value} {xs ys : List Bool} (h1 : RdB w b1 v1 xs) (h2 : RdB w b2 v2 ys) :
    Calls Try.prog 76 #[v1, v2] w fun e w' => e = .returned (.bool (eqWB xs ys)) ∧ ∃ m, w' = w.drewN m := by
  obtain ⟨ao, cap, rfl, hc, hm, h4⟩ := h1
  obtain ⟨ao2, cap2, rfl, hc2, hm2, h42⟩ := h2
  have lx : xs.length ≤ 9223372036854775807 := by unfold maxLen at hm; omega
  have ly : ys.length ≤ 9223372036854775807 := by unfold maxLen at hm2; omega
  clear hc hc2 hm hm2
  obtain ⟨q, hq⟩ : ∃ q, q = eqWB xs ys := ⟨_, rfl⟩
  have HQ := hid hq
  rw [← hq]
  clear hq
  by_cases hl : xs.length = ys.length
  · have HL := hid hl
    have e0 : ((xs.length : Int) != (ys.length : Int)) = false := by rw [hl]; simp
    obtain ⟨n, hnn⟩ : ∃ n, n = xs.length := ⟨_, rfl⟩
    have Hn := hid hnn
    rw [← hl] at e0 h42 ⊢
    rw [← hnn] at lx e0 h4 h42 ⊢
    clear hl hnn ly
    go_enter Try.func76, Try.ntmps76
    go_wp2
    go_loopw [5] (fun i wr => ∃ k : Nat, k ≤ n ∧ i = .int .i64 k ∧ Hid (∀ i, i < k → xs.getD i false = ys.getD i false) ∧ ∃ m, wr = w.drewN m) (fun i _ => n - (intOf i).toNat)
    case atStart => exact ⟨0, Nat.zero_le _, rfl, fun i hi => absurd hi (by omega), 0, rfl⟩
    case round =>
      obtain ⟨k, hk, rfl, ha, m, hw⟩ := hrel
      have HW := hid hw
      by_cases hlt : k < n
      · obtain ⟨off, rfl, hb, hcc⟩ := h4 (by omega)
        obtain ⟨off2, rfl, hb2, hcc2⟩ := h42 (by omega)
        obtain ⟨x, hx⟩ : ∃ x, x = xs.getD k false := ⟨_, rfl⟩
        obtain ⟨y, hy⟩ : ∃ y, y = ys.getD k false := ⟨_, rfl⟩
        have hcx : wr.cell? ⟨b1, off + k, none⟩ = some (.bool x) := by rw [hw, hx]; exact hcc k hlt
        have hcy : wr.cell? ⟨b2, off2 + k, none⟩ = some (.bool y) := by rw [hw, hy]; exact hcc2 k hlt
        have hki : (k : Int) < (n : Int) := by omega
        have HX := hid hx
        have HY := hid hy
        clear hx hy hw hcc hcc2
        cases x <;> cases y
        · have hnx : ∀ i, i < k + 1 → xs.getD i false = ys.getD i false := by
            intro i hi
            rcases Nat.lt_or_ge i k with h | h
            · exact ha.out i h
            · have : i = k := by omega
              rw [this, ← HX.out, ← HY.out]
          have HNX := hid hnx
          clear hnx
          go_wp2_with fail
          go_quiet (fail)
          go_wp2
          go_roundw
          case rel => exact ⟨k + 1, by omega, by go_num, HNX.out, m + nq, by rw [HW.out, World.drewN_drewN]⟩
          case measure => simp [intOf]; omega
        · have hf := eqw_bad (xs := xs) (ys := ys) (k := k) (by rw [← HX.out, ← HY.out]; decide)
          have HF := hid hf
          clear hf
          go_wp2_with fail
          go_quiet (fail)
          go_wp2
          go_ret
          exact ⟨by rw [HQ.out, HF.out]; rfl, m + nq, by rw [HW.out, World.drewN_drewN]⟩
        · have hf := eqw_bad (xs := xs) (ys := ys) (k := k) (by rw [← HX.out, ← HY.out]; decide)
          have HF := hid hf
          clear hf
          go_wp2_with fail
          go_quiet (fail)
          go_wp2
          go_ret
          exact ⟨by rw [HQ.out, HF.out]; rfl, m + nq, by rw [HW.out, World.drewN_drewN]⟩
        · have hnx : ∀ i, i < k + 1 → xs.getD i false = ys.getD i false := by
            intro i hi
            rcases Nat.lt_or_ge i k with h | h
            · exact ha.out i h
            · have : i = k := by omega
              rw [this, ← HX.out, ← HY.out]
          have HNX := hid hnx
          clear hnx
          go_wp2_with fail
          go_quiet (fail)
          go_wp2
          go_roundw
          case rel => exact ⟨k + 1, by omega, by go_num, HNX.out, m + nq, by rw [HW.out, World.drewN_drewN]⟩
          case measure => simp [intOf]; omega
      · have hkn : k = n := by omega
        subst hkn
        have ht := eqw_all HL.out (fun i hi => ha.out i (by have := Hn.out; omega))
        have HT := hid ht
        clear ht ha hw
        go_wp2
        go_ret
        exact ⟨by rw [HQ.out, HT.out]; rfl, m, HW.out⟩
  · have HF := hid (eqw_len hl)
    have e0 : ((xs.length : Int) != (ys.length : Int)) = true := by simp; omega
    clear hl h4 h42
    go_enter Try.func76, Try.ntmps76
    go_wp2
    go_ret
    exact ⟨by rw [HQ.out, HF.out]; rfl, 0, rfl⟩

set_option maxHeartbeats 1000000 in
theorem implWalls {w : World} {b1 b2 : Nat} {v1 v2 : Value} {xs ys : List Bool} (h1 : RdB w b1 v1 xs) (h2 : RdB w b2 v2 ys) :
    Calls Try.prog 81 #[v1, v2] w fun e w' => e = .returned (.bool (eqWB xs ys)) ∧ ∃ m, w' = w.drewN m := by
  obtain ⟨ao, cap, rfl, hc, hm, h4⟩ := h1
  obtain ⟨ao2, cap2, rfl, hc2, hm2, h42⟩ := h2
  have lx : xs.length ≤ 9223372036854775807 := by unfold maxLen at hm; omega
  have ly : ys.length ≤ 9223372036854775807 := by unfold maxLen at hm2; omega
  clear hc hc2 hm hm2
  obtain ⟨q, hq⟩ : ∃ q, q = eqWB xs ys := ⟨_, rfl⟩
  have HQ := hid hq
  rw [← hq]
  clear hq
  by_cases hl : xs.length = ys.length
  · have HL := hid hl
    have e0 : ((xs.length : Int) != (ys.length : Int)) = false := by rw [hl]; simp
    obtain ⟨n, hnn⟩ : ∃ n, n = xs.length := ⟨_, rfl⟩
    have Hn := hid hnn
    rw [← hl] at e0 h42 ⊢
    rw [← hnn] at lx e0 h4 h42 ⊢
    clear hl hnn ly
    go_enter Try.func81, Try.ntmps81
    go_wp2
    go_loopw [5, 13] (fun i0 i wr => ∃ k : Nat, k ≤ n ∧ i = .int .i64 k ∧ Hid (∀ i, i < k → xs.getD i false = ys.getD i false) ∧ ∃ m, wr = w.drewN m) (fun _ i _ => n - (intOf i).toNat)
    case atStart => exact ⟨0, Nat.zero_le _, rfl, fun i hi => absurd hi (by omega), 0, rfl⟩
    case round =>
      obtain ⟨k, hk, rfl, ha, m, hw⟩ := hrel
      have HW := hid hw
      by_cases hlt : k < n
      · obtain ⟨off, rfl, hb, hcc⟩ := h4 (by omega)
        obtain ⟨off2, rfl, hb2, hcc2⟩ := h42 (by omega)
        obtain ⟨x, hx⟩ : ∃ x, x = xs.getD k false := ⟨_, rfl⟩
        obtain ⟨y, hy⟩ : ∃ y, y = ys.getD k false := ⟨_, rfl⟩
        have hcx : wr.cell? ⟨b1, off + k, none⟩ = some (.bool x) := by rw [hw, hx]; exact hcc k hlt
        have hcy : wr.cell? ⟨b2, off2 + k, none⟩ = some (.bool y) := by rw [hw, hy]; exact hcc2 k hlt
        have hki : (k : Int) < (n : Int) := by omega
        have HX := hid hx
        have HY := hid hy
        clear hx hy hw hcc hcc2
        cases x <;> cases y
        · have hnx : ∀ i, i < k + 1 → xs.getD i false = ys.getD i false := by
            intro i hi
            rcases Nat.lt_or_ge i k with h | h
            · exact ha.out i h
            · have : i = k := by omega
              rw [this, ← HX.out, ← HY.out]
          have HNX := hid hnx
          clear hnx
          go_wp2_with fail
          go_quiet (fail)
          go_wp2
          go_roundw
          case rel => exact ⟨k + 1, by omega, by go_num, HNX.out, m + nq, by rw [HW.out, World.drewN_drewN]⟩
          case measure => simp [intOf]; omega
        · have hf := eqw_bad (xs := xs) (ys := ys) (k := k) (by rw [← HX.out, ← HY.out]; decide)
          have HF := hid hf
          clear hf
          go_wp2_with fail
          go_quiet (fail)
          go_wp2
          go_ret
          exact ⟨by rw [HQ.out, HF.out]; rfl, m + nq, by rw [HW.out, World.drewN_drewN]⟩
        · have hf := eqw_bad (xs := xs) (ys := ys) (k := k) (by rw [← HX.out, ← HY.out]; decide)
          have HF := hid hf
          clear hf
          go_wp2_with fail
          go_quiet (fail)
          go_wp2
          go_ret
          exact ⟨by rw [HQ.out, HF.out]; rfl, m + nq, by rw [HW.out, World.drewN_drewN]⟩
        · have hnx : ∀ i, i < k + 1 → xs.getD i false = ys.getD i false := by
            intro i hi
            rcases Nat.lt_or_ge i k with h | h
            · exact ha.out i h
            · have : i = k := by omega
              rw [this, ← HX.out, ← HY.out]
          have HNX := hid hnx
          clear hnx
          go_wp2_with fail
          go_quiet (fail)
          go_wp2
          go_roundw
          case rel => exact ⟨k + 1, by omega, by go_num, HNX.out, m + nq, by rw [HW.out, World.drewN_drewN]⟩
          case measure => simp [intOf]; omega
      · have hkn : k = n := by omega
        subst hkn
        have ht := eqw_all HL.out (fun i hi => ha.out i (by have := Hn.out; omega))
        have HT := hid ht
        clear ht ha hw
        go_wp2
        go_ret
        exact ⟨by rw [HQ.out, HT.out]; rfl, m, HW.out⟩
  · have HF := hid (eqw_len hl)
    have e0 : ((xs.length : Int) != (ys.length : Int)) = true := by simp; omega
    clear hl h4 h42
    go_enter Try.func81, Try.ntmps81
    go_wp2
    go_ret
    exact ⟨by rw [HQ.out, HF.out]; rfl, 0, rfl⟩

set_option maxHeartbeats 1000000 in
theorem specAll {w : World} {b1 b2 : Nat} {v1 v2 : Value} {xs ys : List Nat} (h1 : RdF w b1 v1 xs) (h2 : RdF w b2 v2 ys) :
    Calls Try.prog 77 #[v1, v2] w fun e w' => e = .returned (.bool (eqFB xs ys)) ∧ ∃ m, w' = w.drewN m := by
  obtain ⟨ao, cap, rfl, hc, hm, h4⟩ := h1
  obtain ⟨ao2, cap2, rfl, hc2, hm2, h42⟩ := h2
  have HWX := hid hm.2
  have HWY := hid hm2.2
  have hm1 := hm.1
  have hm21 := hm2.1
  have lx : xs.length ≤ 9223372036854775807 := by unfold maxLen at hm1; omega
  have ly : ys.length ≤ 9223372036854775807 := by unfold maxLen at hm21; omega
  clear hc hc2 hm hm2 hm1 hm21
  obtain ⟨q, hq⟩ : ∃ q, q = eqFB xs ys := ⟨_, rfl⟩
  have HQ := hid hq
  rw [← hq]
  clear hq
  by_cases hl : xs.length = ys.length
  · have HL := hid hl
    have e0 : ((xs.length : Int) != (ys.length : Int)) = false := by rw [hl]; simp
    obtain ⟨n, hnn⟩ : ∃ n, n = xs.length := ⟨_, rfl⟩
    have Hn := hid hnn
    rw [← hl] at e0 h42 ⊢
    rw [← hnn] at lx e0 h4 h42 ⊢
    clear hl hnn ly
    go_enter Try.func77, Try.ntmps77
    go_wp2
    go_loopw [5] (fun i wr => ∃ k : Nat, k ≤ n ∧ i = .int .i64 k ∧ Hid (∀ i, i < k → sbG xs ys i = true) ∧ ∃ m, wr = w.drewN m) (fun i _ => n - (intOf i).toNat)
    case atStart => exact ⟨0, Nat.zero_le _, rfl, fun i hi => absurd hi (by omega), 0, rfl⟩
    case round =>
      obtain ⟨k, hk, rfl, ha, m, hw⟩ := hrel
      have HW := hid hw
      by_cases hlt : k < n
      · obtain ⟨off, rfl, hb, hcc⟩ := h4 (by omega)
        obtain ⟨off2, rfl, hb2, hcc2⟩ := h42 (by omega)
        obtain ⟨x, hx⟩ : ∃ x, x = xs.getD k 0 := ⟨_, rfl⟩
        obtain ⟨y, hy⟩ : ∃ y, y = ys.getD k 0 := ⟨_, rfl⟩
        have hcx : wr.cell? ⟨b1, off + k, none⟩ = some (.float .f32 x) := by rw [hw, hx]; exact hcc k hlt
        have hcy : wr.cell? ⟨b2, off2 + k, none⟩ = some (.float .f32 y) := by rw [hw, hy]; exact hcc2 k hlt
        have hki : (k : Int) < (n : Int) := by omega
        have IX : Is .f32 x (cn .f32 x) := ⟨rfl, by rw [hx]; exact HWX.out k⟩
        have IY : Is .f32 y (cn .f32 y) := ⟨rfl, by rw [hy]; exact HWY.out k⟩
        have hsb : sbG xs ys k = (bitsF (cn .f32 x) == bitsF (cn .f32 y)) := by rw [hx, hy]; rfl
        clear hx hy hw hcc hcc2
        cases he : (bitsF (cn .f32 x) == bitsF (cn .f32 y)) with
        | true =>
          rw [he] at hsb
          have hnx : ∀ i, i < k + 1 → sbG xs ys i = true := by
            intro i hi
            rcases Nat.lt_or_ge i k with h | h
            · exact ha.out i h
            · have : i = k := by omega
              rw [this, hsb]
          have HNX := hid hnx
          clear hnx hsb
          go_wp2_with fail
          go_quiet ((go_at_call 135; refine Calls.quiet_of_same (specSameQ _ IX IY he)))
          go_wp2
          go_roundw
          case rel => exact ⟨k + 1, by omega, by go_num, HNX.out, m + nq, by rw [HW.out, World.drewN_drewN]⟩
          case measure => simp [intOf]; omega
        | false =>
          rw [he] at hsb
          have hf := eqf_bad (xs := xs) (ys := ys) (k := k) (by have := Hn.out; omega) hsb
          have HF := hid hf
          clear hf hsb
          go_wp2_with fail
          go_quiet ((go_at_call 135; refine Calls.quiet_of_same (specSameQ _ IX IY he)))
          go_wp2
          go_ret
          exact ⟨by rw [HQ.out, HF.out]; rfl, m + nq, by rw [HW.out, World.drewN_drewN]⟩
      · have hkn : k = n := by omega
        subst hkn
        have HE := hid (eqf_all HL.out (by intro i hi; exact ha.out i (by have := Hn.out; omega)))
        clear ha
        go_wp2
        go_ret
        exact ⟨by rw [HQ.out, HE.out]; rfl, m, rfl⟩
  · have e0 : ((xs.length : Int) != (ys.length : Int)) = true := by simp; omega
    have hf := eqf_len hl
    have HF := hid hf
    clear hf hl
    go_enter Try.func77, Try.ntmps77
    go_wp2
    go_ret
    exact ⟨by rw [HQ.out, HF.out]; rfl, 0, rfl⟩

set_option maxHeartbeats 1000000 in
theorem implAll {w : World} {b1 b2 : Nat} {v1 v2 : Value} {xs ys : List Nat} (h1 : RdF w b1 v1 xs) (h2 : RdF w b2 v2 ys) :
    Calls Try.prog 79 #[v1, v2, .func (.func 80) #[] #[]] w fun e w' => e = .returned (.bool (eqFB xs ys)) ∧ ∃ m, w' = w.drewN m := by
  obtain ⟨ao, cap, rfl, hc, hm, h4⟩ := h1
  obtain ⟨ao2, cap2, rfl, hc2, hm2, h42⟩ := h2
  have HWX := hid hm.2
  have HWY := hid hm2.2
  have hm1 := hm.1
  have hm21 := hm2.1
  have lx : xs.length ≤ 9223372036854775807 := by unfold maxLen at hm1; omega
  have ly : ys.length ≤ 9223372036854775807 := by unfold maxLen at hm21; omega
  clear hc hc2 hm hm2 hm1 hm21
  obtain ⟨q, hq⟩ : ∃ q, q = eqFB xs ys := ⟨_, rfl⟩
  have HQ := hid hq
  rw [← hq]
  clear hq
  by_cases hl : xs.length = ys.length
  · have HL := hid hl
    have e0 : ((xs.length : Int) != (ys.length : Int)) = false := by rw [hl]; simp
    obtain ⟨n, hnn⟩ : ∃ n, n = xs.length := ⟨_, rfl⟩
    have Hn := hid hnn
    rw [← hl] at e0 h42 ⊢
    rw [← hnn] at lx e0 h4 h42 ⊢
    clear hl hnn ly
    go_enter Try.func79, Try.ntmps79
    go_wp2
    go_loopw [7, 8, 9, 17] (fun i0 j0 j1 i wr => ∃ k : Nat, k ≤ n ∧ i = .int .i64 k ∧ Hid (∀ i, i < k → sbG xs ys i = true) ∧ ∃ m, wr = w.drewN m) (fun _ _ _ i _ => n - (intOf i).toNat)
    case atStart => exact ⟨0, Nat.zero_le _, rfl, fun i hi => absurd hi (by omega), 0, rfl⟩
    case round =>
      obtain ⟨k, hk, rfl, ha, m, hw⟩ := hrel
      have HW := hid hw
      by_cases hlt : k < n
      · obtain ⟨off, rfl, hb, hcc⟩ := h4 (by omega)
        obtain ⟨off2, rfl, hb2, hcc2⟩ := h42 (by omega)
        obtain ⟨x, hx⟩ : ∃ x, x = xs.getD k 0 := ⟨_, rfl⟩
        obtain ⟨y, hy⟩ : ∃ y, y = ys.getD k 0 := ⟨_, rfl⟩
        have hcx : wr.cell? ⟨b1, off + k, none⟩ = some (.float .f32 x) := by rw [hw, hx]; exact hcc k hlt
        have hcy : wr.cell? ⟨b2, off2 + k, none⟩ = some (.float .f32 y) := by rw [hw, hy]; exact hcc2 k hlt
        have hki : (k : Int) < (n : Int) := by omega
        have IX : Is .f32 x (cn .f32 x) := ⟨rfl, by rw [hx]; exact HWX.out k⟩
        have IY : Is .f32 y (cn .f32 y) := ⟨rfl, by rw [hy]; exact HWY.out k⟩
        have hsb : sbG xs ys k = (bitsF (cn .f32 x) == bitsF (cn .f32 y)) := by rw [hx, hy]; rfl
        clear hx hy hw hcc hcc2
        cases he : (bitsF (cn .f32 x) == bitsF (cn .f32 y)) with
        | true =>
          rw [he] at hsb
          have hnx : ∀ i, i < k + 1 → sbG xs ys i = true := by
            intro i hi
            rcases Nat.lt_or_ge i k with h | h
            · exact ha.out i h
            · have : i = k := by omega
              rw [this, hsb]
          have HNX := hid hnx
          clear hnx hsb
          go_wp2_with (go_at_call 80; refine (implSameN _ IX IY).mono ?_; rw [he]; rintro e w' ⟨rfl, rfl⟩)
          go_roundw
          case rel => exact ⟨k + 1, by omega, by go_num, HNX.out, m, HW.out⟩
          case measure => simp [intOf]; omega
        | false =>
          rw [he] at hsb
          have hf := eqf_bad (xs := xs) (ys := ys) (k := k) (by have := Hn.out; omega) hsb
          have HF := hid hf
          clear hf hsb
          go_wp2_with (go_at_call 80; refine (implSameN _ IX IY).mono ?_; rw [he]; rintro e w' ⟨rfl, rfl⟩)
          go_ret
          exact ⟨by rw [HQ.out, HF.out]; rfl, m, HW.out⟩
      · have hkn : k = n := by omega
        subst hkn
        have HE := hid (eqf_all HL.out (by intro i hi; exact ha.out i (by have := Hn.out; omega)))
        clear ha
        go_wp2
        go_ret
        exact ⟨by rw [HQ.out, HE.out]; rfl, m, rfl⟩
  · have e0 : ((xs.length : Int) != (ys.length : Int)) = true := by simp; omega
    have hf := eqf_len hl
    have HF := hid hf
    clear hf hl
    go_enter Try.func79, Try.ntmps79
    go_wp2
    go_ret
    exact ⟨by rw [HQ.out, HF.out]; rfl, 0, rfl⟩

end Go.Proofs.Ytejchjjkehmgaaa.WEq
