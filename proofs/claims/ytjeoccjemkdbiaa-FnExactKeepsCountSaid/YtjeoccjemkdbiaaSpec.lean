/- Rules on the model's side: l02Is. -/
import Derived.Test.YtjeoccjemkdbiaaRule
namespace Go.Proofs.Ytjeoccjemkdbiaa.Spec
open Go.RowKit Go.Proofs.Ytjeoccjemkdbiaa.Rd Go.Proofs.Ytjeoccjemkdbiaa.Help Go.Proofs.Ytjeoccjemkdbiaa.Ring Go.Proofs.Ytjeoccjemkdbiaa.Small Go.Proofs.Ytjeoccjemkdbiaa.Num Go.Proofs.Ytjeoccjemkdbiaa.Keep Go.Proofs.Ytjeoccjemkdbiaa.Rule
set_option linter.unusedVariables false
set_option linter.unusedSimpArgs false

theorem quietIn {w : World} {n lo hi : Int} {q : Bool} (h : decide (lo ≤ n ∧ n ≤ hi) = q) :
    Calls Try.prog 54 #[.int .i64 n, .int .i64 lo, .int .i64 hi] w fun e w' => e = .returned (.bool q) ∧ w' = w := by
  rw [← h]; exact inB.mono fun _ _ ⟨he, hw⟩ => ⟨he, hw.symm⟩
theorem quietPower {w : World} {s k P : Int} (hst : 2 ≤ s ∧ s ≤ 3) (hk : 0 ≤ k ∧ k ≤ 5) (hP : s ^ k.toNat = P) :
    Calls Try.prog 74 #[.int .i64 s, .int .i64 k] w fun e w' => e = .returned (.int .i64 P) ∧ w' = w := by
  rw [← hP]; exact (specPowerI hst hk).mono fun _ _ ⟨he, hw⟩ => ⟨he, hw.symm⟩

set_option maxHeartbeats 2000000 in
theorem is {w : World} {g : Nat} {s r : Int} {b : Nat} {v : Value} {zs : List Int} (h : Rd w b v zs) (c0 : w.cell? ⟨g, 0, none⟩ = some (.int .i64 s)) (c1 : w.cell? ⟨g, 1, none⟩ = some (.int .i64 r)) (c2 : w.cell? ⟨g, 2, none⟩ = some v) :
    Calls Try.prog 53 #[.pointer (some ⟨g, 0, none⟩)] w fun e w' => e = .returned (.bool (validB s r zs)) ∧ ∃ m, w' = w.drewN m := by
  obtain ⟨ao, cap, rfl, hc, hm, h4⟩ := h
  by_cases h1 : 2 ≤ s ∧ s ≤ 3
  · have H1 : Hid (decide (2 ≤ s ∧ s ≤ 3) = true) := decide_eq_true h1
    have HS := hid h1
    by_cases h2 : 0 ≤ r ∧ r ≤ 2
    · have H2 : Hid (decide (0 ≤ r ∧ r ≤ 2) = true) := decide_eq_true h2
      have HR := hid h2
      have hsh : shapeB s r = true := by simp [shapeB]; omega
      obtain ⟨M, hM⟩ : ∃ M, s ^ (2 * r + 1).toNat = M := ⟨_, rfl⟩
      have HM := hid hM
      by_cases hl : (zs.length : Int) = M
      · have e : validB s r zs = allB zs s := by simp only [validB, hsh, hM, decide_eq_true hl, Bool.true_and]
        rw [e]
        have hl2 : (((zs.length : Int) != M)) = false := by rw [← hl]; simp
        have HL := hid hl
        obtain ⟨n, hn⟩ : ∃ n, n = zs.length := ⟨_, rfl⟩
        rw [← hn] at hc h4 hl2 c2
        have Hn := hid hn
        have hsz : n ≤ 9223372036854775807 := by unfold maxLen at hm; omega
        obtain ⟨s1, s2⟩ := h1
        have hr1 : -9223372036854775808 ≤ r := by omega
        obtain ⟨r1, r2⟩ := h2
        clear e hl hsh hM hc hm hn
        go_enter Try.func53, Try.ntmps53
        go_wp2_with fail
        go_quiet (first | (go_at_call_of 54 (Value.int IntKind.i64 3); refine Calls.quiet_of_same (quietIn H1.out)) | (go_at_call_of 54 (Value.int IntKind.i64 0); refine Calls.quiet_of_same (quietIn H2.out)) | (go_at_call 74; refine Calls.quiet_of_same (quietPower HS.out (by have := HR.out; omega) HM.out)))
        go_wp2
        go_loopw [3] (fun i wr => ∃ k : Nat, k ≤ n ∧ i = .int .i64 k ∧ Hid (allB (zs.take k) s = true) ∧ ∃ m, wr = w.drewN m) (fun i _ => n - (intOf i).toNat)
        case atStart => exact ⟨0, Nat.zero_le _, rfl, by simp [Hid, allB], _, rfl⟩
        case round =>
          obtain ⟨k, hk, rfl, ha, m, hwr⟩ := hrel
          have r0 : wr.cell? ⟨g, 0, none⟩ = some (.int .i64 s) := by rw [hwr]; exact c0
          have r2' : wr.cell? ⟨g, 2, none⟩ = some (.slice ao n cap) := by rw [hwr]; exact c2
          have HW := hid hwr
          by_cases hlt : k < n
          · obtain ⟨off, rfl, hb, hcc⟩ := h4 (by omega)
            obtain ⟨x, hx⟩ : ∃ x, x = zs.getD k 0 := ⟨_, rfl⟩
            have hcx : wr.cell? ⟨b, off + k, none⟩ = some (.int .i64 x) := by rw [hwr, hx]; exact hcc k hlt
            clear hwr
            have HX : Hid (x = zs.getD k 0) := hx
            have hki : (k : Int) < (n : Int) := by omega
            clear hx hcc
            by_cases hok : 0 ≤ x ∧ x ≤ s - 1
            · have HOK : Hid (decide (0 ≤ x ∧ x ≤ s - 1) = true) := decide_eq_true hok
              have hnx : allB (zs.take (k + 1)) s = true := by
                rw [all_take_succ zs s k (by have := Hn.out; omega), ha.out, ← HX.out]
                simp [okB]; omega
              have HNX : Hid (allB (zs.take (k + 1)) s = true) := hnx
              clear hnx hok
              go_wp2_with fail
              go_quiet (first | (go_at_call 54; refine Calls.quiet_of_same (quietIn HOK.out)))
              go_wp2
              go_roundw
              case rel => exact ⟨k + 1, by omega, by go_num, HNX, m + nq, by rw [HW.out, World.drewN_drewN]⟩
              case measure => simp [intOf]; omega
            · have HOK : Hid (decide (0 ≤ x ∧ x ≤ s - 1) = false) := decide_eq_false hok
              have hbad : okB s x = false := by simp [okB]; omega
              have HBad : Hid (okB s x = false) := hbad
              clear hbad hok
              go_wp2_with fail
              go_quiet (first | (go_at_call 54; refine Calls.quiet_of_same (quietIn HOK.out)))
              go_wp2
              go_ret
              have := all_false zs s k (by have := Hn.out; omega) (by rw [← HX.out]; exact HBad.out)
              exact ⟨by rw [this]; rfl, m + nq, by rw [HW.out, World.drewN_drewN]⟩
          · have hkn : k = n := by omega
            subst hkn
            clear hwr
            have he : allB zs s = true := by have := ha.out; rwa [Hn.out, List.take_length] at this
            have HE : Hid (allB zs s = true) := he
            clear he ha
            go_wp2
            go_ret
            exact ⟨by rw [HE.out]; rfl, m, HW.out⟩
      · have e : validB s r zs = false := by simp only [validB, hM, decide_eq_false hl, Bool.and_false, Bool.false_and]
        rw [e]
        have hl2 : (((zs.length : Int) != M)) = true := by simpa using hl
        obtain ⟨s1, s2⟩ := h1
        obtain ⟨r1, r2⟩ := h2
        clear e hl hsh hM hc hm h4
        go_enter Try.func53, Try.ntmps53
        go_wp2_with fail
        go_quiet (first | (go_at_call_of 54 (Value.int IntKind.i64 3); refine Calls.quiet_of_same (quietIn H1.out)) | (go_at_call_of 54 (Value.int IntKind.i64 0); refine Calls.quiet_of_same (quietIn H2.out)) | (go_at_call 74; refine Calls.quiet_of_same (quietPower HS.out (by have := HR.out; omega) HM.out)))
        go_wp2
        go_ret
        exact ⟨rfl, _, rfl⟩
    · have e : validB s r zs = false := by
        have : shapeB s r = false := by simp [shapeB]; omega
        simp only [validB, this, Bool.false_and]
      rw [e]
      have H2 : Hid (decide (0 ≤ r ∧ r ≤ 2) = false) := decide_eq_false h2
      clear e h1 h2 hc hm h4
      go_enter Try.func53, Try.ntmps53
      go_wp2_with fail
      go_quiet (first | (go_at_call_of 54 (Value.int IntKind.i64 3); refine Calls.quiet_of_same (quietIn H1.out)) | (go_at_call_of 54 (Value.int IntKind.i64 0); refine Calls.quiet_of_same (quietIn H2.out)))
      go_wp2
      go_ret
      exact ⟨rfl, _, rfl⟩
  · have e : validB s r zs = false := by
      have : shapeB s r = false := by simp [shapeB]; omega
      simp only [validB, this, Bool.false_and]
    rw [e]
    have H1 : Hid (decide (2 ≤ s ∧ s ≤ 3) = false) := decide_eq_false h1
    clear e h1 hc hm h4
    go_enter Try.func53, Try.ntmps53
    go_wp2_with fail
    go_quiet (first | (go_at_call 54; refine Calls.quiet_of_same (quietIn H1.out)))
    go_wp2
    go_ret
    exact ⟨rfl, _, rfl⟩

theorem below_drewN' (B : Nat) (w : World) (n : Nat) : Below B w (w.drewN n) := ⟨rfl, rfl, rfl, Nat.le_refl _, fun _ _ => rfl⟩

end Go.Proofs.Ytjeoccjemkdbiaa.Spec
