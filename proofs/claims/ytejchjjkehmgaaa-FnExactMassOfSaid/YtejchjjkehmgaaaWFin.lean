/- areFinite of the program. -/
import Derived.Test.YtejchjjkehmgaaaWVal
namespace Go.Proofs.Ytejchjjkehmgaaa.WFin
open Go.RowKit Go.Proofs.Ytejchjjkehmgaaa.Rd Go.Proofs.Ytejchjjkehmgaaa.Rdb Go.Proofs.Ytejchjjkehmgaaa.Rdf Go.Proofs.Ytejchjjkehmgaaa.Fl Go.Proofs.Ytejchjjkehmgaaa.Help Go.Proofs.Ytejchjjkehmgaaa.Ring Go.Proofs.Ytejchjjkehmgaaa.Small Go.Proofs.Ytejchjjkehmgaaa.FVal Go.Proofs.Ytejchjjkehmgaaa.Keep Go.Proofs.Ytejchjjkehmgaaa.Rule Go.Proofs.Ytejchjjkehmgaaa.WVal
set_option linter.unusedVariables false
set_option linter.unusedSimpArgs false

set_option maxHeartbeats 400000 in
theorem clo {x : Nat} {v : Option Nat} (w : World) (hx : Is .f32 x v) :
    Calls Try.prog 167 #[.float .f32 x] w fun e w' => e = .returned (.bool (!finF v)) ∧ ∃ n, w' = w.drewN n := by
  go_enter Try.func167, Try.ntmps167
  go_wp2_with (go_at_call 73; refine (implIsFinite _ hx).mono ?_; rintro e w' ⟨rfl, n, rfl⟩)
  go_ret
  exact ⟨rfl, _, rfl⟩

set_option maxHeartbeats 1000000 in
theorem indexFunc {w : World} {b : Nat} {v : Value} {zs : List Nat} (h : RdF w b v zs) :
    Calls Try.prog 174 #[v, .func (.func 167) #[] #[]] w fun e w' =>
      (∃ r : Int, e = .returned (.int .i64 r) ∧ (decide (0 ≤ r) = !finL zs)) ∧ ∃ m, w' = w.drewN m := by
  obtain ⟨ao, cap, rfl, hc, hm, h4⟩ := h
  have HW := hid hm.2
  obtain ⟨n, hn⟩ : ∃ n, n = zs.length := ⟨_, rfl⟩
  rw [← hn] at hc h4 ⊢
  have Hn := hid hn
  have hm1 := hm.1
  have hsz : n ≤ 9223372036854775807 := by unfold maxLen at hm1; omega
  clear hn hc hm hm1
  go_enter Try.func174, Try.ntmps174
  go_wp2
  go_loopw [8] (fun i wr => ∃ k : Nat, k ≤ n ∧ i = .int .i64 k ∧ Hid (∀ i, i < k → finG zs i = true) ∧ ∃ m, wr = w.drewN m) (fun i _ => n - (intOf i).toNat)
  case atStart => exact ⟨0, Nat.zero_le _, rfl, fun i hi => absurd hi (by omega), 0, rfl⟩
  case round =>
    obtain ⟨k, hk, rfl, ha, m, hwr⟩ := hrel
    by_cases hlt : k < n
    · obtain ⟨off, rfl, hb, hcell⟩ := h4 (by omega)
      obtain ⟨z, hz⟩ : ∃ z, z = zs.getD k 0 := ⟨_, rfl⟩
      have hcx : wr.cell? ⟨b, off + k, none⟩ = some (.float .f32 z) := by rw [hwr, hz]; exact hcell k hlt
      have HY : Is .f32 z (cn .f32 z) := by rw [hz]; exact ⟨rfl, HW.out k⟩
      have hki : (k : Int) < (n : Int) := by omega
      have HWR := hid hwr
      cases hf : finF (cn .f32 z) with
      | true =>
        have hnx : ∀ i, i < k + 1 → finG zs i = true := by
          intro i hi
          rcases Nat.lt_or_ge i k with h | h
          · exact ha.out i h
          · have : i = k := by omega
            rw [this]; show finF (cn .f32 (zs.getD k 0)) = true; rw [← hz]; exact hf
        have HNX := hid hnx
        clear hz hcell hnx hwr
        go_wp2_with (go_at_call 167; refine (clo _ HY).mono ?_; rw [hf]; rintro e w' ⟨rfl, n1, rfl⟩)
        go_roundw
        case rel => exact ⟨k + 1, by omega, by go_num, HNX.out, m + n1, by rw [HWR.out, World.drewN_drewN]⟩
        case measure => simp [intOf]; omega
      | false =>
        have hbad := fin_bad (zs := zs) (k := k) (by have := Hn.out; omega) (by show finF (cn .f32 (zs.getD k 0)) = false; rw [← hz]; exact hf)
        have HBad := hid hbad
        clear hz hcell hbad hwr
        go_wp2_with (go_at_call 167; refine (clo _ HY).mono ?_; rw [hf]; rintro e w' ⟨rfl, n1, rfl⟩)
        go_ret
        exact ⟨⟨_, rfl, by rw [HBad.out]; simp⟩, m + n1, by rw [HWR.out, World.drewN_drewN]⟩
    · have hkn : k = n := by omega
      subst hkn
      have HE := hid (fin_all (zs := zs) (by intro i hi; exact ha.out i (by have := Hn.out; omega)))
      clear ha
      go_wp2
      go_ret
      exact ⟨⟨_, rfl, by rw [HE.out]; rfl⟩, m, rfl⟩

set_option maxHeartbeats 400000 in
theorem containsFunc {w : World} {b : Nat} {v : Value} {zs : List Nat} (h : RdF w b v zs) :
    Calls Try.prog 166 #[v, .func (.func 167) #[] #[]] w fun e w' =>
      e = .returned (.bool (!finL zs)) ∧ ∃ m, w' = w.drewN m := by
  have HH := hid h
  clear h
  go_enter Try.func166, Try.ntmps166
  go_wp2_with fail
  go_at_call 174
  refine (indexFunc HH.out).mono ?_
  rintro e w' ⟨⟨r, rfl, hr⟩, m, rfl⟩
  have HR := hid hr
  clear hr
  go_wp2_with fail
  go_ret
  exact ⟨congrArg (fun x => Ending.returned (.bool x)) HR.out, _, rfl⟩

set_option maxHeartbeats 400000 in
theorem areFinite {w : World} {b : Nat} {v : Value} {zs : List Nat} (h : RdF w b v zs) :
    Calls Try.prog 134 #[v] w fun e w' => e = .returned (.bool (finL zs)) ∧ Below w.heap.size w w' := by
  have HH := hid h
  have hmf : ∀ (fn : Fn) (first cap : Array Value) (w : World), (Instr.makeFunc fn first cap).run Try.prog w = .ok (.func fn first cap) w := fun _ _ _ _ => rfl
  go_enter Try.func134, Try.ntmps134
  go_wp2_with fail
  go_at_call 166
  refine (containsFunc HH.out).mono ?_
  rintro e w' ⟨rfl, m, rfl⟩
  go_wp2_with fail
  go_ret
  exact ⟨by simp, below_n _ _ _⟩

end Go.Proofs.Ytejchjjkehmgaaa.WFin
