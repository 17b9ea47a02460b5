/- ValidGas of the model. -/
import Derived.Test.YtnpjhhkhdeomcaaDoorGas
import Derived.Test.YtnpjhhkhdeomcaaDoorFSpec
namespace Go.Proofs.YtnpjhhkhdeomcaaDoor.GVal
open Go.RowKit Go.Proofs.YtnpjhhkhdeomcaaDoor.Rd Go.Proofs.YtnpjhhkhdeomcaaDoor.Rdb Go.Proofs.YtnpjhhkhdeomcaaDoor.Help Go.Proofs.YtnpjhhkhdeomcaaDoor.Ring Go.Proofs.YtnpjhhkhdeomcaaDoor.Small Go.Proofs.YtnpjhhkhdeomcaaDoor.FVal Go.Proofs.YtnpjhhkhdeomcaaDoor.Keep Go.Proofs.YtnpjhhkhdeomcaaDoor.Rule
set_option linter.unusedVariables false
set_option linter.unusedSimpArgs false

def sd16 (s r : Int) : Bool := decide (1 ≤ s ∧ s ≤ 16 ∧ 1 ≤ r ∧ r ≤ 16)
/-- The greatest cell. -/
def top (g : Int) : Int := if g = 4 then 15 else 63
def gasB (g s r : Int) (xs : List Int) (ys : List Bool) : Bool := decide (g = 4 ∨ g = 6) && (sd16 s r && (decide ((xs.length : Int) = s * r) && (decide (ys.length = xs.length) && allB xs (top g + 1))))
theorem l06Sides {w : World} {s r : Int} :
    Calls Tryd.prog 61 #[.int .i64 s, .int .i64 r] w fun e w' => e = .returned (.bool (sd16 s r)) ∧ w = w' := by
  by_cases h1 : 1 ≤ s ∧ s ≤ 16
  · have H1 : Hid (decide (1 ≤ s ∧ s ≤ 16) = true) := decide_eq_true h1
    obtain ⟨q, hq⟩ : ∃ q, q = decide (1 ≤ r ∧ r ≤ 16) := ⟨_, rfl⟩
    have e : sd16 s r = q := by rw [hq]; simp only [sd16]; apply decide_eq_decide.2; omega
    have HQ := hid hq
    rw [e]
    clear e h1 hq
    go_enter Tryd.func61, Tryd.ntmps61
    go_wp2_with fail
    go_at_call 46
    refine inB.mono ?_
    rw [H1.out]
    rintro e w' ⟨rfl, rfl⟩
    go_wp2_with fail
    go_at_call 46
    refine inB.mono ?_
    rw [← HQ.out]
    rintro e w' ⟨rfl, rfl⟩
    go_wp2_with fail
    go_ret
    exact ⟨rfl, rfl⟩
  · have H1 : Hid (decide (1 ≤ s ∧ s ≤ 16) = false) := decide_eq_false h1
    have e : sd16 s r = false := by simp [sd16]; omega
    rw [e]
    clear e h1
    go_enter Tryd.func61, Tryd.ntmps61
    go_wp2_with fail
    go_at_call 46
    refine inB.mono ?_
    rw [H1.out]
    rintro e w' ⟨rfl, rfl⟩
    go_wp2_with fail
    go_ret
    exact ⟨rfl, rfl⟩

theorem quietSides {w : World} {s r : Int} {q : Bool} (h : sd16 s r = q) :
    Calls Tryd.prog 61 #[.int .i64 s, .int .i64 r] w fun e w' => e = .returned (.bool q) ∧ w' = w := by
  rw [← h]; exact l06Sides.mono fun _ _ ⟨he, hw⟩ => ⟨he, hw.symm⟩

set_option maxHeartbeats 4000000 in
set_option maxRecDepth 100000 in
theorem isA {w : World} {N : Nat} {g s r : Int} {b1 b2 : Nat} {v1 v2 : Value} {xs : List Int} {ys : List Bool} (k0 : w.cell? ⟨N, 0, none⟩ = some (.int .i64 g)) (k1 : w.cell? ⟨N, 1, none⟩ = some (.int .i64 s)) (k2 : w.cell? ⟨N, 2, none⟩ = some (.int .i64 r)) (k3 : w.cell? ⟨N, 3, none⟩ = some v1) (k4 : w.cell? ⟨N, 4, none⟩ = some v2) (h1 : Rd w b1 v1 xs) (h2 : RdB w b2 v2 ys) (h4 : (g != 4) = true) (h6 : (g != 6) = true) :
    Calls Tryd.prog 34 #[.pointer (some ⟨N, 0, none⟩)] w fun e w' => e = .returned (.bool false) ∧ ∃ m, w' = w.drewN m := by
  obtain ⟨ao1, cap1, rfl, hc1, hm1, h41⟩ := h1
  obtain ⟨ao2, cap2, rfl, hc2, hm2, h42⟩ := h2
  have HS : Hid True := trivial
  clear hc1 hm1 h41 hc2 hm2 h42
  go_enter Tryd.func34, Tryd.ntmps34
  go_wp2_with fail
  go_quiet (fail)
  go_wp2
  go_ret
  exact ⟨rfl, _, rfl⟩

set_option maxHeartbeats 4000000 in
set_option maxRecDepth 100000 in
theorem isB4 {w : World} {N : Nat} {s r : Int} {b1 b2 : Nat} {v1 v2 : Value} {xs : List Int} {ys : List Bool} (k0 : w.cell? ⟨N, 0, none⟩ = some (.int .i64 4)) (k1 : w.cell? ⟨N, 1, none⟩ = some (.int .i64 s)) (k2 : w.cell? ⟨N, 2, none⟩ = some (.int .i64 r)) (k3 : w.cell? ⟨N, 3, none⟩ = some v1) (k4 : w.cell? ⟨N, 4, none⟩ = some v2) (h1 : Rd w b1 v1 xs) (h2 : RdB w b2 v2 ys) (hs : sd16 s r = false) :
    Calls Tryd.prog 34 #[.pointer (some ⟨N, 0, none⟩)] w fun e w' => e = .returned (.bool false) ∧ ∃ m, w' = w.drewN m := by
  obtain ⟨ao1, cap1, rfl, hc1, hm1, h41⟩ := h1
  obtain ⟨ao2, cap2, rfl, hc2, hm2, h42⟩ := h2
  have HS := hid hs
  clear hc1 hm1 h41 hc2 hm2 h42 hs
  go_enter Tryd.func34, Tryd.ntmps34
  go_wp2_with fail
  go_quiet (first | (go_at_call 61; refine Calls.quiet_of_same (quietSides HS.out)))
  go_wp2
  go_ret
  exact ⟨rfl, _, rfl⟩

set_option maxHeartbeats 4000000 in
set_option maxRecDepth 100000 in
theorem isC4 {w : World} {N : Nat} {s r : Int} {b1 b2 : Nat} {v1 v2 : Value} {xs : List Int} {ys : List Bool} (k0 : w.cell? ⟨N, 0, none⟩ = some (.int .i64 4)) (k1 : w.cell? ⟨N, 1, none⟩ = some (.int .i64 s)) (k2 : w.cell? ⟨N, 2, none⟩ = some (.int .i64 r)) (k3 : w.cell? ⟨N, 3, none⟩ = some v1) (k4 : w.cell? ⟨N, 4, none⟩ = some v2) (h1 : Rd w b1 v1 xs) (h2 : RdB w b2 v2 ys) (hs : sd16 s r = true) (hl : (xs.length : Int) ≠ s * r) :
    Calls Tryd.prog 34 #[.pointer (some ⟨N, 0, none⟩)] w fun e w' => e = .returned (.bool false) ∧ ∃ m, w' = w.drewN m := by
  obtain ⟨ao1, cap1, rfl, hc1, hm1, h41⟩ := h1
  obtain ⟨ao2, cap2, rfl, hc2, hm2, h42⟩ := h2
  have hsb : (1 ≤ s ∧ s ≤ 16) ∧ 1 ≤ r ∧ r ≤ 16 := by simp [sd16] at hs; omega
  obtain ⟨M, hM⟩ : ∃ M, M = s * r := ⟨_, rfl⟩
  have hmb : 0 ≤ M ∧ M ≤ 256 := by
    rw [hM]
    exact ⟨Int.mul_nonneg (by omega) (by omega), Int.le_trans (Int.mul_le_mul hsb.1.2 hsb.2.2 (by omega) (by omega)) (by decide)⟩
  have hw : IntKind.i64.wrap (s * r) = M := by rw [← hM, IntKind.wrap_i64]; omega
  have hl2 : ((xs.length : Int) != M) = true := by rw [hM]; simpa using hl
  have HS := hid hs
  clear hc1 hm1 h41 hc2 hm2 h42 hs hl hM hmb hsb
  go_enter Tryd.func34, Tryd.ntmps34
  go_wp2_with fail
  go_quiet (first | (go_at_call 61; refine Calls.quiet_of_same (quietSides HS.out)))
  go_wp2
  go_ret
  exact ⟨rfl, _, rfl⟩

set_option maxHeartbeats 4000000 in
set_option maxRecDepth 100000 in
theorem isD4 {w : World} {N : Nat} {s r : Int} {b1 b2 : Nat} {v1 v2 : Value} {xs : List Int} {ys : List Bool} (k0 : w.cell? ⟨N, 0, none⟩ = some (.int .i64 4)) (k1 : w.cell? ⟨N, 1, none⟩ = some (.int .i64 s)) (k2 : w.cell? ⟨N, 2, none⟩ = some (.int .i64 r)) (k3 : w.cell? ⟨N, 3, none⟩ = some v1) (k4 : w.cell? ⟨N, 4, none⟩ = some v2) (h1 : Rd w b1 v1 xs) (h2 : RdB w b2 v2 ys) (hs : sd16 s r = true) (hl : (xs.length : Int) = s * r) (hy : ys.length ≠ xs.length) :
    Calls Tryd.prog 34 #[.pointer (some ⟨N, 0, none⟩)] w fun e w' => e = .returned (.bool false) ∧ ∃ m, w' = w.drewN m := by
  obtain ⟨ao1, cap1, rfl, hc1, hm1, h41⟩ := h1
  obtain ⟨ao2, cap2, rfl, hc2, hm2, h42⟩ := h2
  have hsb : (1 ≤ s ∧ s ≤ 16) ∧ 1 ≤ r ∧ r ≤ 16 := by simp [sd16] at hs; omega
  obtain ⟨M, hM⟩ : ∃ M, M = s * r := ⟨_, rfl⟩
  have hmb : 0 ≤ M ∧ M ≤ 256 := by
    rw [hM]
    exact ⟨Int.mul_nonneg (by omega) (by omega), Int.le_trans (Int.mul_le_mul hsb.1.2 hsb.2.2 (by omega) (by omega)) (by decide)⟩
  have hw : IntKind.i64.wrap (s * r) = M := by rw [← hM, IntKind.wrap_i64]; omega
  have hl2 : ((xs.length : Int) != M) = false := by rw [hM]; simpa using hl
  have hy2 : ((ys.length : Int) != (xs.length : Int)) = true := by simp; omega
  have HS := hid hs
  clear hc1 hm1 h41 hc2 hm2 h42 hs hl hM hmb hsb hy
  go_enter Tryd.func34, Tryd.ntmps34
  go_wp2_with fail
  go_quiet (first | (go_at_call 61; refine Calls.quiet_of_same (quietSides HS.out)))
  go_wp2
  go_ret
  exact ⟨rfl, _, rfl⟩

set_option maxHeartbeats 4000000 in
set_option maxRecDepth 100000 in
theorem isE4 {w : World} {N : Nat} {s r : Int} {b1 b2 : Nat} {v1 v2 : Value} {xs : List Int} {ys : List Bool} (k0 : w.cell? ⟨N, 0, none⟩ = some (.int .i64 4)) (k1 : w.cell? ⟨N, 1, none⟩ = some (.int .i64 s)) (k2 : w.cell? ⟨N, 2, none⟩ = some (.int .i64 r)) (k3 : w.cell? ⟨N, 3, none⟩ = some v1) (k4 : w.cell? ⟨N, 4, none⟩ = some v2) (h1 : Rd w b1 v1 xs) (h2 : RdB w b2 v2 ys) (hs : sd16 s r = true) (hl : (xs.length : Int) = s * r) (hy : ys.length = xs.length) :
    Calls Tryd.prog 34 #[.pointer (some ⟨N, 0, none⟩)] w fun e w' => e = .returned (.bool (allB xs 16)) ∧ ∃ m, w' = w.drewN m := by
  obtain ⟨ao1, cap1, rfl, hc1, hm1, h41⟩ := h1
  obtain ⟨ao2, cap2, rfl, hc2, hm2, h42⟩ := h2
  have hsb : (1 ≤ s ∧ s ≤ 16) ∧ 1 ≤ r ∧ r ≤ 16 := by simp [sd16] at hs; omega
  obtain ⟨M, hM⟩ : ∃ M, M = s * r := ⟨_, rfl⟩
  have hmb : 0 ≤ M ∧ M ≤ 256 := by
    rw [hM]
    exact ⟨Int.mul_nonneg (by omega) (by omega), Int.le_trans (Int.mul_le_mul hsb.1.2 hsb.2.2 (by omega) (by omega)) (by decide)⟩
  have hw : IntKind.i64.wrap (s * r) = M := by rw [← hM, IntKind.wrap_i64]; omega
  have hl2 : ((xs.length : Int) != M) = false := by rw [hM]; simpa using hl
  have hy2 : ((ys.length : Int) != (xs.length : Int)) = false := by rw [hy]; simp
  have HS := hid hs
  have HB := hid (show (xs.length : Int) ≤ 256 by rw [hl, ← hM]; exact hmb.2)
  obtain ⟨n, hn⟩ : ∃ n, n = xs.length := ⟨_, rfl⟩
  rw [← hn] at hc1 h41 hl2 hy2 k3
  have Hn := hid hn
  have hn256 : (n : Int) ≤ 256 := by rw [hn]; exact HB.out
  clear hc2 hm2 h42 hs hl hM hmb hsb hy hn hc1 hm1
  go_enter Tryd.func34, Tryd.ntmps34
  go_wp2_with fail
  go_quiet (first | (go_at_call 61; refine Calls.quiet_of_same (quietSides HS.out)))
  go_wp2
  go_loopw [3] (fun i wr => ∃ k : Nat, k ≤ n ∧ i = .int .i64 k ∧ Hid (allB (xs.take k) 16 = true) ∧ ∃ m, wr = w.drewN m) (fun i _ => n - (intOf i).toNat)
  case atStart => exact ⟨0, Nat.zero_le _, rfl, by simp [Hid, allB], _, rfl⟩
  case round =>
    obtain ⟨k, hk, rfl, ha, m, hwr⟩ := hrel
    have c0 : wr.cell? ⟨N, 0, none⟩ = some (.int .i64 4) := by rw [hwr]; exact k0
    have c3 : wr.cell? ⟨N, 3, none⟩ = some (.slice ao1 n cap1) := by rw [hwr]; exact k3
    have HW := hid hwr
    by_cases hlt : k < n
    · obtain ⟨off, rfl, hb, hcc⟩ := h41 (by omega)
      obtain ⟨x, hx⟩ : ∃ x, x = xs.getD k 0 := ⟨_, rfl⟩
      have hcx : wr.cell? ⟨b1, off + k, none⟩ = some (.int .i64 x) := by rw [hwr, hx]; exact hcc k hlt
      clear hwr
      have HX : Hid (x = xs.getD k 0) := hx
      have hki : (k : Int) < (n : Int) := by omega
      clear hx hcc
      by_cases hok : 0 ≤ x ∧ x ≤ 15
      · have HOK : decide (0 ≤ x ∧ x ≤ 15) = true := decide_eq_true hok
        have hnx : allB (xs.take (k + 1)) 16 = true := by
          rw [all_take_succ xs 16 k (by have := Hn.out; omega), ha.out, ← HX.out]
          simp [okB]; omega
        have HNX : Hid (allB (xs.take (k + 1)) 16 = true) := hnx
        have HOKh := hid HOK
        clear hnx hok HOK
        go_wp2_with fail
        go_quiet (first | (go_at_call 46; refine Calls.quiet_of_same (FSpec.quietIn HOKh.out)))
        go_wp2
        go_roundw
        case rel => exact ⟨k + 1, by omega, by go_num, HNX, m + nq, by rw [HW.out, World.drewN_drewN]⟩
        case measure => simp [intOf]; omega
      · have HOK : decide (0 ≤ x ∧ x ≤ 15) = false := decide_eq_false hok
        have hbad : okB 16 x = false := by simp [okB]; omega
        have HBad : Hid (okB 16 x = false) := hbad
        have HOKh := hid HOK
        clear hbad hok HOK
        go_wp2_with fail
        go_quiet (first | (go_at_call 46; refine Calls.quiet_of_same (FSpec.quietIn HOKh.out)))
        go_wp2
        go_ret
        have := all_false xs 16 k (by have := Hn.out; omega) (by rw [← HX.out]; exact HBad.out)
        exact ⟨by rw [this]; rfl, m + nq, by rw [HW.out, World.drewN_drewN]⟩
    · have hkn : k = n := by omega
      subst hkn
      clear hwr
      have he : allB xs 16 = true := by have := ha.out; rwa [Hn.out, List.take_length] at this
      have HE : Hid (allB xs 16 = true) := he
      clear he ha
      go_wp2
      go_ret
      exact ⟨by rw [HE.out]; rfl, m, HW.out⟩

set_option maxHeartbeats 4000000 in
set_option maxRecDepth 100000 in
theorem isB6 {w : World} {N : Nat} {s r : Int} {b1 b2 : Nat} {v1 v2 : Value} {xs : List Int} {ys : List Bool} (k0 : w.cell? ⟨N, 0, none⟩ = some (.int .i64 6)) (k1 : w.cell? ⟨N, 1, none⟩ = some (.int .i64 s)) (k2 : w.cell? ⟨N, 2, none⟩ = some (.int .i64 r)) (k3 : w.cell? ⟨N, 3, none⟩ = some v1) (k4 : w.cell? ⟨N, 4, none⟩ = some v2) (h1 : Rd w b1 v1 xs) (h2 : RdB w b2 v2 ys) (hs : sd16 s r = false) :
    Calls Tryd.prog 34 #[.pointer (some ⟨N, 0, none⟩)] w fun e w' => e = .returned (.bool false) ∧ ∃ m, w' = w.drewN m := by
  obtain ⟨ao1, cap1, rfl, hc1, hm1, h41⟩ := h1
  obtain ⟨ao2, cap2, rfl, hc2, hm2, h42⟩ := h2
  have HS := hid hs
  clear hc1 hm1 h41 hc2 hm2 h42 hs
  go_enter Tryd.func34, Tryd.ntmps34
  go_wp2_with fail
  go_quiet (first | (go_at_call 61; refine Calls.quiet_of_same (quietSides HS.out)))
  go_wp2
  go_ret
  exact ⟨rfl, _, rfl⟩

set_option maxHeartbeats 4000000 in
set_option maxRecDepth 100000 in
theorem isC6 {w : World} {N : Nat} {s r : Int} {b1 b2 : Nat} {v1 v2 : Value} {xs : List Int} {ys : List Bool} (k0 : w.cell? ⟨N, 0, none⟩ = some (.int .i64 6)) (k1 : w.cell? ⟨N, 1, none⟩ = some (.int .i64 s)) (k2 : w.cell? ⟨N, 2, none⟩ = some (.int .i64 r)) (k3 : w.cell? ⟨N, 3, none⟩ = some v1) (k4 : w.cell? ⟨N, 4, none⟩ = some v2) (h1 : Rd w b1 v1 xs) (h2 : RdB w b2 v2 ys) (hs : sd16 s r = true) (hl : (xs.length : Int) ≠ s * r) :
    Calls Tryd.prog 34 #[.pointer (some ⟨N, 0, none⟩)] w fun e w' => e = .returned (.bool false) ∧ ∃ m, w' = w.drewN m := by
  obtain ⟨ao1, cap1, rfl, hc1, hm1, h41⟩ := h1
  obtain ⟨ao2, cap2, rfl, hc2, hm2, h42⟩ := h2
  have hsb : (1 ≤ s ∧ s ≤ 16) ∧ 1 ≤ r ∧ r ≤ 16 := by simp [sd16] at hs; omega
  obtain ⟨M, hM⟩ : ∃ M, M = s * r := ⟨_, rfl⟩
  have hmb : 0 ≤ M ∧ M ≤ 256 := by
    rw [hM]
    exact ⟨Int.mul_nonneg (by omega) (by omega), Int.le_trans (Int.mul_le_mul hsb.1.2 hsb.2.2 (by omega) (by omega)) (by decide)⟩
  have hw : IntKind.i64.wrap (s * r) = M := by rw [← hM, IntKind.wrap_i64]; omega
  have hl2 : ((xs.length : Int) != M) = true := by rw [hM]; simpa using hl
  have HS := hid hs
  clear hc1 hm1 h41 hc2 hm2 h42 hs hl hM hmb hsb
  go_enter Tryd.func34, Tryd.ntmps34
  go_wp2_with fail
  go_quiet (first | (go_at_call 61; refine Calls.quiet_of_same (quietSides HS.out)))
  go_wp2
  go_ret
  exact ⟨rfl, _, rfl⟩

set_option maxHeartbeats 4000000 in
set_option maxRecDepth 100000 in
theorem isD6 {w : World} {N : Nat} {s r : Int} {b1 b2 : Nat} {v1 v2 : Value} {xs : List Int} {ys : List Bool} (k0 : w.cell? ⟨N, 0, none⟩ = some (.int .i64 6)) (k1 : w.cell? ⟨N, 1, none⟩ = some (.int .i64 s)) (k2 : w.cell? ⟨N, 2, none⟩ = some (.int .i64 r)) (k3 : w.cell? ⟨N, 3, none⟩ = some v1) (k4 : w.cell? ⟨N, 4, none⟩ = some v2) (h1 : Rd w b1 v1 xs) (h2 : RdB w b2 v2 ys) (hs : sd16 s r = true) (hl : (xs.length : Int) = s * r) (hy : ys.length ≠ xs.length) :
    Calls Tryd.prog 34 #[.pointer (some ⟨N, 0, none⟩)] w fun e w' => e = .returned (.bool false) ∧ ∃ m, w' = w.drewN m := by
  obtain ⟨ao1, cap1, rfl, hc1, hm1, h41⟩ := h1
  obtain ⟨ao2, cap2, rfl, hc2, hm2, h42⟩ := h2
  have hsb : (1 ≤ s ∧ s ≤ 16) ∧ 1 ≤ r ∧ r ≤ 16 := by simp [sd16] at hs; omega
  obtain ⟨M, hM⟩ : ∃ M, M = s * r := ⟨_, rfl⟩
  have hmb : 0 ≤ M ∧ M ≤ 256 := by
    rw [hM]
    exact ⟨Int.mul_nonneg (by omega) (by omega), Int.le_trans (Int.mul_le_mul hsb.1.2 hsb.2.2 (by omega) (by omega)) (by decide)⟩
  have hw : IntKind.i64.wrap (s * r) = M := by rw [← hM, IntKind.wrap_i64]; omega
  have hl2 : ((xs.length : Int) != M) = false := by rw [hM]; simpa using hl
  have hy2 : ((ys.length : Int) != (xs.length : Int)) = true := by simp; omega
  have HS := hid hs
  clear hc1 hm1 h41 hc2 hm2 h42 hs hl hM hmb hsb hy
  go_enter Tryd.func34, Tryd.ntmps34
  go_wp2_with fail
  go_quiet (first | (go_at_call 61; refine Calls.quiet_of_same (quietSides HS.out)))
  go_wp2
  go_ret
  exact ⟨rfl, _, rfl⟩

set_option maxHeartbeats 4000000 in
set_option maxRecDepth 100000 in
theorem isE6 {w : World} {N : Nat} {s r : Int} {b1 b2 : Nat} {v1 v2 : Value} {xs : List Int} {ys : List Bool} (k0 : w.cell? ⟨N, 0, none⟩ = some (.int .i64 6)) (k1 : w.cell? ⟨N, 1, none⟩ = some (.int .i64 s)) (k2 : w.cell? ⟨N, 2, none⟩ = some (.int .i64 r)) (k3 : w.cell? ⟨N, 3, none⟩ = some v1) (k4 : w.cell? ⟨N, 4, none⟩ = some v2) (h1 : Rd w b1 v1 xs) (h2 : RdB w b2 v2 ys) (hs : sd16 s r = true) (hl : (xs.length : Int) = s * r) (hy : ys.length = xs.length) :
    Calls Tryd.prog 34 #[.pointer (some ⟨N, 0, none⟩)] w fun e w' => e = .returned (.bool (allB xs 64)) ∧ ∃ m, w' = w.drewN m := by
  obtain ⟨ao1, cap1, rfl, hc1, hm1, h41⟩ := h1
  obtain ⟨ao2, cap2, rfl, hc2, hm2, h42⟩ := h2
  have hsb : (1 ≤ s ∧ s ≤ 16) ∧ 1 ≤ r ∧ r ≤ 16 := by simp [sd16] at hs; omega
  obtain ⟨M, hM⟩ : ∃ M, M = s * r := ⟨_, rfl⟩
  have hmb : 0 ≤ M ∧ M ≤ 256 := by
    rw [hM]
    exact ⟨Int.mul_nonneg (by omega) (by omega), Int.le_trans (Int.mul_le_mul hsb.1.2 hsb.2.2 (by omega) (by omega)) (by decide)⟩
  have hw : IntKind.i64.wrap (s * r) = M := by rw [← hM, IntKind.wrap_i64]; omega
  have hl2 : ((xs.length : Int) != M) = false := by rw [hM]; simpa using hl
  have hy2 : ((ys.length : Int) != (xs.length : Int)) = false := by rw [hy]; simp
  have HS := hid hs
  have HB := hid (show (xs.length : Int) ≤ 256 by rw [hl, ← hM]; exact hmb.2)
  obtain ⟨n, hn⟩ : ∃ n, n = xs.length := ⟨_, rfl⟩
  rw [← hn] at hc1 h41 hl2 hy2 k3
  have Hn := hid hn
  have hn256 : (n : Int) ≤ 256 := by rw [hn]; exact HB.out
  clear hc2 hm2 h42 hs hl hM hmb hsb hy hn hc1 hm1
  go_enter Tryd.func34, Tryd.ntmps34
  go_wp2_with fail
  go_quiet (first | (go_at_call 61; refine Calls.quiet_of_same (quietSides HS.out)))
  go_wp2
  go_loopw [3] (fun i wr => ∃ k : Nat, k ≤ n ∧ i = .int .i64 k ∧ Hid (allB (xs.take k) 64 = true) ∧ ∃ m, wr = w.drewN m) (fun i _ => n - (intOf i).toNat)
  case atStart => exact ⟨0, Nat.zero_le _, rfl, by simp [Hid, allB], _, rfl⟩
  case round =>
    obtain ⟨k, hk, rfl, ha, m, hwr⟩ := hrel
    have c0 : wr.cell? ⟨N, 0, none⟩ = some (.int .i64 6) := by rw [hwr]; exact k0
    have c3 : wr.cell? ⟨N, 3, none⟩ = some (.slice ao1 n cap1) := by rw [hwr]; exact k3
    have HW := hid hwr
    by_cases hlt : k < n
    · obtain ⟨off, rfl, hb, hcc⟩ := h41 (by omega)
      obtain ⟨x, hx⟩ : ∃ x, x = xs.getD k 0 := ⟨_, rfl⟩
      have hcx : wr.cell? ⟨b1, off + k, none⟩ = some (.int .i64 x) := by rw [hwr, hx]; exact hcc k hlt
      clear hwr
      have HX : Hid (x = xs.getD k 0) := hx
      have hki : (k : Int) < (n : Int) := by omega
      clear hx hcc
      by_cases hok : 0 ≤ x ∧ x ≤ 63
      · have HOK : decide (0 ≤ x ∧ x ≤ 63) = true := decide_eq_true hok
        have hnx : allB (xs.take (k + 1)) 64 = true := by
          rw [all_take_succ xs 64 k (by have := Hn.out; omega), ha.out, ← HX.out]
          simp [okB]; omega
        have HNX : Hid (allB (xs.take (k + 1)) 64 = true) := hnx
        have HOKh := hid HOK
        clear hnx hok HOK
        go_wp2_with fail
        go_quiet (first | (go_at_call 46; refine Calls.quiet_of_same (FSpec.quietIn HOKh.out)))
        go_wp2
        go_roundw
        case rel => exact ⟨k + 1, by omega, by go_num, HNX, m + nq, by rw [HW.out, World.drewN_drewN]⟩
        case measure => simp [intOf]; omega
      · have HOK : decide (0 ≤ x ∧ x ≤ 63) = false := decide_eq_false hok
        have hbad : okB 64 x = false := by simp [okB]; omega
        have HBad : Hid (okB 64 x = false) := hbad
        have HOKh := hid HOK
        clear hbad hok HOK
        go_wp2_with fail
        go_quiet (first | (go_at_call 46; refine Calls.quiet_of_same (FSpec.quietIn HOKh.out)))
        go_wp2
        go_ret
        have := all_false xs 64 k (by have := Hn.out; omega) (by rw [← HX.out]; exact HBad.out)
        exact ⟨by rw [this]; rfl, m + nq, by rw [HW.out, World.drewN_drewN]⟩
    · have hkn : k = n := by omega
      subst hkn
      clear hwr
      have he : allB xs 64 = true := by have := ha.out; rwa [Hn.out, List.take_length] at this
      have HE : Hid (allB xs 64 = true) := he
      clear he ha
      go_wp2
      go_ret
      exact ⟨by rw [HE.out]; rfl, m, HW.out⟩

theorem l06Is {w : World} {N : Nat} {g s r : Int} {b1 b2 : Nat} {v1 v2 : Value} {xs : List Int} {ys : List Bool} (k0 : w.cell? ⟨N, 0, none⟩ = some (.int .i64 g)) (k1 : w.cell? ⟨N, 1, none⟩ = some (.int .i64 s)) (k2 : w.cell? ⟨N, 2, none⟩ = some (.int .i64 r)) (k3 : w.cell? ⟨N, 3, none⟩ = some v1) (k4 : w.cell? ⟨N, 4, none⟩ = some v2) (h1 : Rd w b1 v1 xs) (h2 : RdB w b2 v2 ys) :
    Calls Tryd.prog 34 #[.pointer (some ⟨N, 0, none⟩)] w fun e w' => e = .returned (.bool (gasB g s r xs ys)) ∧ ∃ m, w' = w.drewN m := by
  by_cases h4 : g = 4
  · subst h4
    cases hs : sd16 s r with
    | false => rw [show gasB 4 s r xs ys = false by simp [gasB, hs]]; exact isB4 k0 k1 k2 k3 k4 h1 h2 hs
    | true =>
      by_cases hl : (xs.length : Int) = s * r
      · by_cases hy : ys.length = xs.length
        · rw [show gasB 4 s r xs ys = allB xs 16 by simp [gasB, hs, hl, hy, top]]; exact isE4 k0 k1 k2 k3 k4 h1 h2 hs hl hy
        · rw [show gasB 4 s r xs ys = false by simp [gasB, hy]]; exact isD4 k0 k1 k2 k3 k4 h1 h2 hs hl hy
      · rw [show gasB 4 s r xs ys = false by simp [gasB, hl]]; exact isC4 k0 k1 k2 k3 k4 h1 h2 hs hl
  · by_cases h6 : g = 6
    · subst h6
      cases hs : sd16 s r with
      | false => rw [show gasB 6 s r xs ys = false by simp [gasB, hs]]; exact isB6 k0 k1 k2 k3 k4 h1 h2 hs
      | true =>
        by_cases hl : (xs.length : Int) = s * r
        · by_cases hy : ys.length = xs.length
          · rw [show gasB 6 s r xs ys = allB xs 64 by simp [gasB, hs, hl, hy, top]]; exact isE6 k0 k1 k2 k3 k4 h1 h2 hs hl hy
          · rw [show gasB 6 s r xs ys = false by simp [gasB, hy]]; exact isD6 k0 k1 k2 k3 k4 h1 h2 hs hl hy
        · rw [show gasB 6 s r xs ys = false by simp [gasB, hl]]; exact isC6 k0 k1 k2 k3 k4 h1 h2 hs hl
    · rw [show gasB g s r xs ys = false by simp [gasB, h4, h6]]
      exact isA k0 k1 k2 k3 k4 h1 h2 (by simpa using h4) (by simpa using h6)

end Go.Proofs.YtnpjhhkhdeomcaaDoor.GVal
