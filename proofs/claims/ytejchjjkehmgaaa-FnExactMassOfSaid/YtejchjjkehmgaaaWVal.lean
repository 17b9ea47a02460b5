/- ValidFlow of the model. -/
import Derived.Test.YtejchjjkehmgaaaFlw
import Derived.Test.YtejchjjkehmgaaaFSpec
import Derived.Test.YtejchjjkehmgaaaFinS
namespace Go.Proofs.Ytejchjjkehmgaaa.WVal
open Go.RowKit Go.Proofs.Ytejchjjkehmgaaa.Rd Go.Proofs.Ytejchjjkehmgaaa.Rdb Go.Proofs.Ytejchjjkehmgaaa.Rdf Go.Proofs.Ytejchjjkehmgaaa.Fl Go.Proofs.Ytejchjjkehmgaaa.Help Go.Proofs.Ytejchjjkehmgaaa.Ring Go.Proofs.Ytejchjjkehmgaaa.Small Go.Proofs.Ytejchjjkehmgaaa.FVal Go.Proofs.Ytejchjjkehmgaaa.Keep Go.Proofs.Ytejchjjkehmgaaa.Rule
set_option linter.unusedVariables false
set_option linter.unusedSimpArgs false

def sd16 (s r : Int) : Bool := decide (1 ≤ s ∧ s ≤ 16 ∧ 1 ≤ r ∧ r ≤ 16)
def finG (zs : List Nat) (k : Nat) : Bool := finF (cn .f32 (zs.getD k 0))
def finL (zs : List Nat) : Bool := decide (∀ i, i < zs.length → finG zs i = true)
theorem fin_bad {zs : List Nat} {k : Nat} (hk : k < zs.length) (h : finG zs k = false) : finL zs = false := by
  unfold finL; exact decide_eq_false (fun e => by rw [e k hk] at h; cases h)
theorem fin_all {zs : List Nat} (h : ∀ i, i < zs.length → finG zs i = true) : finL zs = true := by
  unfold finL; exact decide_eq_true h
theorem below_n (B : Nat) (w : World) (n : Nat) : Below B w (w.drewN n) := ⟨rfl, rfl, rfl, Nat.le_refl _, fun _ _ => rfl⟩
def flowB (s r : Int) (xs : List Nat) (ys : List Bool) : Bool := sd16 s r && (decide ((xs.length : Int) = 9 * s * r) && (finL xs && decide ((ys.length : Int) = s * r)))
theorem l06Sides {w : World} {s r : Int} :
    Calls Try.prog 123 #[.int .i64 s, .int .i64 r] w fun e w' => e = .returned (.bool (sd16 s r)) ∧ w = w' := by
  by_cases h1 : 1 ≤ s ∧ s ≤ 16
  · have H1 : Hid (decide (1 ≤ s ∧ s ≤ 16) = true) := decide_eq_true h1
    obtain ⟨q, hq⟩ : ∃ q, q = decide (1 ≤ r ∧ r ≤ 16) := ⟨_, rfl⟩
    have e : sd16 s r = q := by rw [hq]; simp only [sd16]; apply decide_eq_decide.2; omega
    have HQ := hid hq
    rw [e]
    clear e h1 hq
    go_enter Try.func123, Try.ntmps123
    go_wp2_with fail
    go_at_call 84
    refine inB.mono ?_
    rw [H1.out]
    rintro e w' ⟨rfl, rfl⟩
    go_wp2_with fail
    go_at_call 84
    refine inB.mono ?_
    rw [← HQ.out]
    rintro e w' ⟨rfl, rfl⟩
    go_wp2_with fail
    go_ret
    exact ⟨rfl, rfl⟩
  · have H1 : Hid (decide (1 ≤ s ∧ s ≤ 16) = false) := decide_eq_false h1
    have e : sd16 s r = false := by simp [sd16]; omega
    rw [e]
    clear e h1
    go_enter Try.func123, Try.ntmps123
    go_wp2_with fail
    go_at_call 84
    refine inB.mono ?_
    rw [H1.out]
    rintro e w' ⟨rfl, rfl⟩
    go_wp2_with fail
    go_ret
    exact ⟨rfl, rfl⟩

theorem quietSides {w : World} {s r : Int} {q : Bool} (h : sd16 s r = q) :
    Calls Try.prog 123 #[.int .i64 s, .int .i64 r] w fun e w' => e = .returned (.bool q) ∧ w' = w := by
  rw [← h]; exact l06Sides.mono fun _ _ ⟨he, hw⟩ => ⟨he, hw.symm⟩

set_option maxHeartbeats 1000000 in
theorem l02Finite {w : World} {b : Nat} {v : Value} {zs : List Nat} (h : RdF w b v zs) :
    Calls Try.prog 124 #[v] w fun e w' => e = .returned (.bool (finL zs)) ∧ ∃ m, w' = w.drewN m := by
  obtain ⟨ao, cap, rfl, hc, hm, h4⟩ := h
  have HW := hid hm.2
  obtain ⟨n, hn⟩ : ∃ n, n = zs.length := ⟨_, rfl⟩
  rw [← hn] at hc h4 ⊢
  have Hn := hid hn
  have hm1 := hm.1
  have hsz : n ≤ 9223372036854775807 := by unfold maxLen at hm1; omega
  obtain ⟨q, hq⟩ : ∃ q, q = finL zs := ⟨_, rfl⟩
  have HQ := hid hq
  rw [← hq]
  clear hn hc hm hm1 hq
  go_enter Try.func124, Try.ntmps124
  go_wp2
  go_loopw [3] (fun i wr => ∃ k : Nat, k ≤ n ∧ i = .int .i64 k ∧ Hid (∀ i, i < k → finG zs i = true) ∧ ∃ m, wr = w.drewN m) (fun i _ => n - (intOf i).toNat)
  case atStart => exact ⟨0, Nat.zero_le _, rfl, fun i hi => absurd hi (by omega), 0, rfl⟩
  case round =>
    obtain ⟨k, hk, rfl, ha, m, hwr⟩ := hrel
    by_cases hlt : k < n
    · obtain ⟨off, rfl, hb, hcell⟩ := h4 (by omega)
      obtain ⟨z, hz⟩ : ∃ z, z = zs.getD k 0 := ⟨_, rfl⟩
      have hcx : wr.cell? ⟨b, off + k, none⟩ = some (.float .f32 z) := by rw [hwr, hz]; exact hcell k hlt
      have HY : Is .f32 z (cn .f32 z) := by rw [hz]; exact ⟨rfl, HW.out k⟩
      have hki : (k : Int) < (n : Int) := by omega
      have HWR := hid hwr
      cases hf : finF (cn .f32 z) with
      | true =>
        have hnx : ∀ i, i < k + 1 → finG zs i = true := by
          intro i hi
          rcases Nat.lt_or_ge i k with h | h
          · exact ha.out i h
          · have : i = k := by omega
            rw [this]; show finF (cn .f32 (zs.getD k 0)) = true; rw [← hz]; exact hf
        have HNX := hid hnx
        clear hz hcell hnx hwr
        go_wp2_with (go_at_call 125; refine (specFin _ HY).mono ?_; rw [hf]; rintro e w' ⟨rfl, n1, rfl⟩)
        go_roundw
        case rel => exact ⟨k + 1, by omega, by go_num, HNX.out, m + n1, by rw [HWR.out, World.drewN_drewN]⟩
        case measure => simp [intOf]; omega
      | false =>
        have hbad := fin_bad (zs := zs) (k := k) (by have := Hn.out; omega) (by show finF (cn .f32 (zs.getD k 0)) = false; rw [← hz]; exact hf)
        have HBad := hid hbad
        clear hz hcell hbad hwr
        go_wp2_with (go_at_call 125; refine (specFin _ HY).mono ?_; rw [hf]; rintro e w' ⟨rfl, n1, rfl⟩)
        go_ret
        exact ⟨by rw [HQ.out, HBad.out]; rfl, m + n1, by rw [HWR.out, World.drewN_drewN]⟩
    · have hkn : k = n := by omega
      subst hkn
      have HE := hid (fin_all (zs := zs) (by intro i hi; exact ha.out i (by have := Hn.out; omega)))
      clear ha
      go_wp2
      go_ret
      exact ⟨by rw [HQ.out, HE.out]; rfl, m, rfl⟩

theorem finQ {w : World} {b : Nat} {v : Value} {zs : List Nat} {q : Bool} (h : RdF w b v zs) (hq : finL zs = q) :
    Calls Try.prog 124 #[v] w fun e w' => e = .returned (.bool q) ∧ ∃ m, w' = w.drewN m := by
  rw [← hq]; exact l02Finite h
theorem rdF_drewN {w : World} {b : Nat} {v : Value} {zs : List Nat} (h : RdF w b v zs) (n : Nat) : RdF (w.drewN n) b v zs := h
set_option maxHeartbeats 4000000 in
set_option maxRecDepth 100000 in
theorem isA {w : World} {N : Nat} {s r : Int} {b1 b2 : Nat} {v1 v2 : Value} {xs : List Nat} {ys : List Bool} (k0 : w.cell? ⟨N, 0, none⟩ = some (.int .i64 s)) (k1 : w.cell? ⟨N, 1, none⟩ = some (.int .i64 r)) (k2 : w.cell? ⟨N, 2, none⟩ = some v1) (k3 : w.cell? ⟨N, 3, none⟩ = some v2) (h1 : RdF w b1 v1 xs) (h2 : RdB w b2 v2 ys) (hs : sd16 s r = false) :
    Calls Try.prog 67 #[.pointer (some ⟨N, 0, none⟩)] w fun e w' => e = .returned (.bool false) ∧ ∃ m, w' = w.drewN m := by
  have H1 := hid h1
  obtain ⟨ao1, cap1, rfl, hc1, hm1, h41⟩ := h1
  obtain ⟨ao2, cap2, rfl, hc2, hm2, h42⟩ := h2
  clear hc1 hm1 h41 hc2 hm2 h42
  have HS := hid hs
  have HF : Hid (finL xs = finL xs) := rfl
  clear hs
  go_enter Try.func67, Try.ntmps67
  go_wp2_with fail
  go_quiet (first | (go_at_call 123; refine Calls.quiet_of_same (quietSides HS.out)) | (go_at_call 124; refine Calls.quiet_of (finQ (rdF_drewN H1.out _) HF.out)))
  go_wp2
  go_ret
  exact ⟨rfl, _, rfl⟩

set_option maxHeartbeats 4000000 in
set_option maxRecDepth 100000 in
theorem isB {w : World} {N : Nat} {s r : Int} {b1 b2 : Nat} {v1 v2 : Value} {xs : List Nat} {ys : List Bool} (k0 : w.cell? ⟨N, 0, none⟩ = some (.int .i64 s)) (k1 : w.cell? ⟨N, 1, none⟩ = some (.int .i64 r)) (k2 : w.cell? ⟨N, 2, none⟩ = some v1) (k3 : w.cell? ⟨N, 3, none⟩ = some v2) (h1 : RdF w b1 v1 xs) (h2 : RdB w b2 v2 ys) (hs : sd16 s r = true) (hl : (xs.length : Int) ≠ 9 * s * r) :
    Calls Try.prog 67 #[.pointer (some ⟨N, 0, none⟩)] w fun e w' => e = .returned (.bool false) ∧ ∃ m, w' = w.drewN m := by
  have H1 := hid h1
  obtain ⟨ao1, cap1, rfl, hc1, hm1, h41⟩ := h1
  obtain ⟨ao2, cap2, rfl, hc2, hm2, h42⟩ := h2
  clear hc1 hm1 h41 hc2 hm2 h42
  have hsb : (1 ≤ s ∧ s ≤ 16) ∧ 1 ≤ r ∧ r ≤ 16 := by simp [sd16] at hs; omega
  obtain ⟨M, hM⟩ : ∃ M, M = s * r := ⟨_, rfl⟩
  obtain ⟨T, hT⟩ : ∃ T, T = 9 * s * r := ⟨_, rfl⟩
  have hTM : T = 9 * M := by rw [hT, hM, Int.mul_assoc]
  have hmb : 0 ≤ M ∧ M ≤ 256 := by
    rw [hM]
    exact ⟨Int.mul_nonneg (by omega) (by omega), Int.le_trans (Int.mul_le_mul hsb.1.2 hsb.2.2 (by omega) (by omega)) (by decide)⟩
  have hw : IntKind.i64.wrap (s * r) = M := by rw [← hM, IntKind.wrap_i64]; omega
  have hw9 : IntKind.i64.wrap (9 * s) = 9 * s := by rw [IntKind.wrap_i64]; omega
  have hwT : IntKind.i64.wrap (9 * s * r) = T := by rw [← hT, IntKind.wrap_i64]; omega
  have hl2 : ((xs.length : Int) == T) = false := by rw [hT]; simpa using hl
  have HS := hid hs
  have HF : Hid (finL xs = finL xs) := rfl
  clear hs hM hT hTM hmb hsb hl
  go_enter Try.func67, Try.ntmps67
  go_wp2_with fail
  go_quiet (first | (go_at_call 123; refine Calls.quiet_of_same (quietSides HS.out)) | (go_at_call 124; refine Calls.quiet_of (finQ (rdF_drewN H1.out _) HF.out)))
  go_wp2
  go_ret
  exact ⟨rfl, _, rfl⟩

set_option maxHeartbeats 4000000 in
set_option maxRecDepth 100000 in
theorem isC {w : World} {N : Nat} {s r : Int} {b1 b2 : Nat} {v1 v2 : Value} {xs : List Nat} {ys : List Bool} (k0 : w.cell? ⟨N, 0, none⟩ = some (.int .i64 s)) (k1 : w.cell? ⟨N, 1, none⟩ = some (.int .i64 r)) (k2 : w.cell? ⟨N, 2, none⟩ = some v1) (k3 : w.cell? ⟨N, 3, none⟩ = some v2) (h1 : RdF w b1 v1 xs) (h2 : RdB w b2 v2 ys) (hs : sd16 s r = true) (hl : (xs.length : Int) = 9 * s * r) (hf : finL xs = false) :
    Calls Try.prog 67 #[.pointer (some ⟨N, 0, none⟩)] w fun e w' => e = .returned (.bool false) ∧ ∃ m, w' = w.drewN m := by
  have H1 := hid h1
  obtain ⟨ao1, cap1, rfl, hc1, hm1, h41⟩ := h1
  obtain ⟨ao2, cap2, rfl, hc2, hm2, h42⟩ := h2
  clear hc1 hm1 h41 hc2 hm2 h42
  have hsb : (1 ≤ s ∧ s ≤ 16) ∧ 1 ≤ r ∧ r ≤ 16 := by simp [sd16] at hs; omega
  obtain ⟨M, hM⟩ : ∃ M, M = s * r := ⟨_, rfl⟩
  obtain ⟨T, hT⟩ : ∃ T, T = 9 * s * r := ⟨_, rfl⟩
  have hTM : T = 9 * M := by rw [hT, hM, Int.mul_assoc]
  have hmb : 0 ≤ M ∧ M ≤ 256 := by
    rw [hM]
    exact ⟨Int.mul_nonneg (by omega) (by omega), Int.le_trans (Int.mul_le_mul hsb.1.2 hsb.2.2 (by omega) (by omega)) (by decide)⟩
  have hw : IntKind.i64.wrap (s * r) = M := by rw [← hM, IntKind.wrap_i64]; omega
  have hw9 : IntKind.i64.wrap (9 * s) = 9 * s := by rw [IntKind.wrap_i64]; omega
  have hwT : IntKind.i64.wrap (9 * s * r) = T := by rw [← hT, IntKind.wrap_i64]; omega
  have hl2 : ((xs.length : Int) == T) = true := by rw [hT]; simpa using hl
  have HS := hid hs
  have HF := hid hf
  clear hs hM hT hTM hmb hsb hl hf
  go_enter Try.func67, Try.ntmps67
  go_wp2_with fail
  go_quiet (first | (go_at_call 123; refine Calls.quiet_of_same (quietSides HS.out)) | (go_at_call 124; refine Calls.quiet_of (finQ (rdF_drewN H1.out _) HF.out)))
  go_wp2
  go_ret
  exact ⟨rfl, _, rfl⟩

set_option maxHeartbeats 4000000 in
set_option maxRecDepth 100000 in
theorem isD {w : World} {N : Nat} {s r : Int} {b1 b2 : Nat} {v1 v2 : Value} {xs : List Nat} {ys : List Bool} (k0 : w.cell? ⟨N, 0, none⟩ = some (.int .i64 s)) (k1 : w.cell? ⟨N, 1, none⟩ = some (.int .i64 r)) (k2 : w.cell? ⟨N, 2, none⟩ = some v1) (k3 : w.cell? ⟨N, 3, none⟩ = some v2) (h1 : RdF w b1 v1 xs) (h2 : RdB w b2 v2 ys) (hs : sd16 s r = true) (hl : (xs.length : Int) = 9 * s * r) (hf : finL xs = true) :
    Calls Try.prog 67 #[.pointer (some ⟨N, 0, none⟩)] w fun e w' => e = .returned (.bool (decide ((ys.length : Int) = s * r))) ∧ ∃ m, w' = w.drewN m := by
  have H1 := hid h1
  obtain ⟨ao1, cap1, rfl, hc1, hm1, h41⟩ := h1
  obtain ⟨ao2, cap2, rfl, hc2, hm2, h42⟩ := h2
  clear hc1 hm1 h41 hc2 hm2 h42
  have hsb : (1 ≤ s ∧ s ≤ 16) ∧ 1 ≤ r ∧ r ≤ 16 := by simp [sd16] at hs; omega
  obtain ⟨M, hM⟩ : ∃ M, M = s * r := ⟨_, rfl⟩
  obtain ⟨T, hT⟩ : ∃ T, T = 9 * s * r := ⟨_, rfl⟩
  have hTM : T = 9 * M := by rw [hT, hM, Int.mul_assoc]
  have hmb : 0 ≤ M ∧ M ≤ 256 := by
    rw [hM]
    exact ⟨Int.mul_nonneg (by omega) (by omega), Int.le_trans (Int.mul_le_mul hsb.1.2 hsb.2.2 (by omega) (by omega)) (by decide)⟩
  have hw : IntKind.i64.wrap (s * r) = M := by rw [← hM, IntKind.wrap_i64]; omega
  have hw9 : IntKind.i64.wrap (9 * s) = 9 * s := by rw [IntKind.wrap_i64]; omega
  have hwT : IntKind.i64.wrap (9 * s * r) = T := by rw [← hT, IntKind.wrap_i64]; omega
  have hl2 : ((xs.length : Int) == T) = true := by rw [hT]; simpa using hl
  have HS := hid hs
  have HF := hid hf
  rw [← hM]
  clear hs hM hT hTM hmb hsb hl hf
  go_enter Try.func67, Try.ntmps67
  go_wp2_with fail
  go_quiet (first | (go_at_call 123; refine Calls.quiet_of_same (quietSides HS.out)) | (go_at_call 124; refine Calls.quiet_of (finQ (rdF_drewN H1.out _) HF.out)))
  go_wp2
  go_ret
  exact ⟨by simp [BEq.beq], _, rfl⟩

theorem l06Flow {w : World} {N : Nat} {s r : Int} {b1 b2 : Nat} {v1 v2 : Value} {xs : List Nat} {ys : List Bool} (k0 : w.cell? ⟨N, 0, none⟩ = some (.int .i64 s)) (k1 : w.cell? ⟨N, 1, none⟩ = some (.int .i64 r)) (k2 : w.cell? ⟨N, 2, none⟩ = some v1) (k3 : w.cell? ⟨N, 3, none⟩ = some v2) (h1 : RdF w b1 v1 xs) (h2 : RdB w b2 v2 ys) :
    Calls Try.prog 67 #[.pointer (some ⟨N, 0, none⟩)] w fun e w' => e = .returned (.bool (flowB s r xs ys)) ∧ ∃ m, w' = w.drewN m := by
  cases hs : sd16 s r with
  | false => rw [show flowB s r xs ys = false by simp [flowB, hs]]; exact isA k0 k1 k2 k3 h1 h2 hs
  | true =>
    by_cases hl : (xs.length : Int) = 9 * s * r
    · cases hf : finL xs with
      | false => rw [show flowB s r xs ys = false by simp [flowB, hf]]; exact isC k0 k1 k2 k3 h1 h2 hs hl hf
      | true => rw [show flowB s r xs ys = decide ((ys.length : Int) = s * r) by simp [flowB, hs, hl, hf]]; exact isD k0 k1 k2 k3 h1 h2 hs hl hf
    · rw [show flowB s r xs ys = false by simp [flowB, hl]]; exact isB k0 k1 k2 k3 h1 h2 hs hl

theorem specValid {w : World} {s r : Int} {b1 b2 : Nat} {v1 v2 : Value} {xs : List Nat} {ys : List Bool} (h1 : RdF w b1 v1 xs) (h2 : RdB w b2 v2 ys) :
    Calls Try.prog 27 #[flowV s r v1 v2] w fun e w' => e = .returned (.bool (flowB s r xs ys)) ∧ Below w.heap.size w w' := by
  have H1 := hid h1
  have H2 := hid h2
  clear h1 h2
  go_enter Try.func27, Try.ntmps27
  go_wp2_with fail
  go_at_call 67
  refine (l06Flow (s := s) (r := r) (by simp) (by simp) (by simp) (by simp) (H1.out.keep (below1 _ _) (Nat.le_refl _)) (H2.out.keep (below1 _ _) (Nat.le_refl _))).mono ?_
  rintro e w4 ⟨rfl, m, rfl⟩
  go_wp2
  go_ret
  exact ⟨rfl, (below1 _ _).trans (below_n _ _ _)⟩

end Go.Proofs.Ytejchjjkehmgaaa.WVal
