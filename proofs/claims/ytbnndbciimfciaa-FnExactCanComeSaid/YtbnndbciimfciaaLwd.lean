/- Words of states, of both sides. -/
import Derived.Test.YtbnndbciimfciaaAl
import Derived.Test.YtbnndbciimfciaaFVal
import Derived.Test.YtbnndbciimfciaaSpO
namespace Go.Proofs.Ytbnndbciimfciaa.Lwd
open Go.RowKit Go.Proofs.Ytbnndbciimfciaa.Rd Go.Proofs.Ytbnndbciimfciaa.Help Go.Proofs.Ytbnndbciimfciaa.Ring Go.Proofs.Ytbnndbciimfciaa.Small Go.Proofs.Ytbnndbciimfciaa.Num Go.Proofs.Ytbnndbciimfciaa.Keep Go.Proofs.Ytbnndbciimfciaa.Rule Go.Proofs.Ytbnndbciimfciaa.FVal Go.Proofs.Ytbnndbciimfciaa.Spec
set_option linter.unusedVariables false
set_option linter.unusedSimpArgs false

/-- A word of states. -/
def wordB (zs : List Int) (st : Int) : Bool := decide (1 ≤ zs.length ∧ zs.length ≤ 12) && allB zs st
set_option maxHeartbeats 1000000 in
theorem isWord {w : World} {b : Nat} {v : Value} {zs : List Int} {st : Int} (h : Rd w b v zs) (hst : -1000 ≤ st ∧ st ≤ 1000000) :
    Calls Try.prog 20 #[v, .int .i64 st] w fun e w' => e = .returned (.bool (wordB zs st)) ∧ Below w.heap.size w w' := by
  have HH := hid h
  have HS := hid hst
  obtain ⟨ao, cap, rfl, hc, hm, _⟩ := h
  obtain ⟨n, hn⟩ : ∃ n, n = zs.length := ⟨_, rfl⟩
  rw [← hn] at hc HH ⊢
  have hsz : n ≤ 9223372036854775807 := by unfold maxLen at hm; omega
  have Hn := hid hn
  clear hn hc hm hst
  by_cases hq : 1 ≤ n ∧ n ≤ 12
  · have HF : Hid (decide ((1 : Int) ≤ (n : Int) ∧ (n : Int) ≤ 12) = true) := decide_eq_true (by omega)
    have e : wordB zs st = allB zs st := by unfold wordB; rw [← Hn.out, decide_eq_true hq, Bool.true_and]
    rw [e]
    clear e hq
    go_enter Try.func20, Try.ntmps20
    go_wp2_with (first | (go_at_call 28; refine isFromB.mono ?_; rw [HF.out]; rintro e w' ⟨rfl, rfl⟩) | (go_at_call 31; refine (areStates HH.out HS.out).mono ?_; rintro e w' ⟨rfl, hbel⟩))
    go_ret
    exact ⟨rfl, hbel⟩
  · have HF : Hid (decide ((1 : Int) ≤ (n : Int) ∧ (n : Int) ≤ 12) = false) := decide_eq_false (by omega)
    have e : wordB zs st = false := by unfold wordB; rw [← Hn.out, decide_eq_false hq, Bool.false_and]
    rw [e]
    clear e hq
    go_enter Try.func20, Try.ntmps20
    go_wp2_with (first | (go_at_call 28; refine isFromB.mono ?_; rw [HF.out]; rintro e w' ⟨rfl, rfl⟩))
    go_ret
    exact ⟨rfl, Below.refl _ _⟩

set_option maxHeartbeats 2000000 in
theorem l03Word {w : World} {g : Nat} {s r : Int} {b bw : Nat} {v vw : Value} {tbl zs : List Int} (h : Rd w b v tbl) (hw : Rd w bw vw zs) (c0 : w.cell? ⟨g, 0, none⟩ = some (.int .i64 s)) (c1 : w.cell? ⟨g, 1, none⟩ = some (.int .i64 r)) (c2 : w.cell? ⟨g, 2, none⟩ = some v) :
    Calls Try.prog 15 #[.pointer (some ⟨g, 0, none⟩), vw] w fun e w' => e = .returned (.bool (validB s r tbl && wordB zs s)) ∧ ∃ m, w' = w.drewN m := by
  have hIs := SpO.is (o := 0) h c0 c1 c2
  obtain ⟨ao, cap, rfl, hc, hm, h4⟩ := hw
  obtain ⟨n, hn⟩ : ∃ n, n = zs.length := ⟨_, rfl⟩
  rw [← hn] at hc h4 ⊢
  have hsz : n ≤ 9223372036854775807 := by unfold maxLen at hm; omega
  have Hn := hid hn
  have HIS := hid hIs
  have HC0 := hid c0
  clear hn hc hm hIs c1 c2
  cases hq : validB s r tbl with
  | false =>
    have HQ := hid hq
    clear hq h c0
    rw [Bool.false_and]
    go_enter Try.func15, Try.ntmps15
    go_wp2_with fail
    go_at_call 23
    refine HIS.out.mono ?_
    rw [HQ.out]
    rintro e w2 ⟨rfl, m, hm⟩
    have HM := hid hm
    clear hm
    go_wp2
    go_ret
    exact ⟨rfl, m, HM.out⟩
  | true =>
    have HQ := hid hq
    obtain ⟨hs, hr, _, _⟩ := Al.valid_parts hq
    obtain ⟨s1, s2⟩ := hs
    rw [Bool.true_and]
    clear hq h c0
    by_cases h12 : 1 ≤ n ∧ n ≤ 12
    · have e : wordB zs s = allB zs s := by unfold wordB; rw [← Hn.out, decide_eq_true h12, Bool.true_and]
      rw [e]
      clear e
      obtain ⟨q1, q2⟩ := h12
      go_enter Try.func15, Try.ntmps15
      go_wp2_with fail
      go_at_call 23
      refine HIS.out.mono ?_
      rw [HQ.out]
      rintro e w2 ⟨rfl, m, hm⟩
      have HM : Hid (∃ m, w2 = w.drewN m) := ⟨m, hm⟩
      clear hm
      go_wp2
      go_loopw [21] (fun i wr => ∃ k : Nat, k ≤ n ∧ i = .int .i64 k ∧ Hid (allB (zs.take k) s = true) ∧ ∃ m, wr = w.drewN m) (fun i _ => n - (intOf i).toNat)
      case atStart => exact ⟨0, Nat.zero_le _, rfl, by simp [Hid, allB], HM.out⟩
      case round =>
        obtain ⟨k, hk, rfl, ha, m, hwr⟩ := hrel
        have r0 : wr.cell? ⟨g, 0, none⟩ = some (.int .i64 s) := by rw [hwr]; exact HC0.out
        have HW := hid hwr
        by_cases hlt : k < n
        · obtain ⟨off, rfl, hb, hcc⟩ := h4 (by omega)
          obtain ⟨x, hx⟩ : ∃ x, x = zs.getD k 0 := ⟨_, rfl⟩
          have hcx : wr.cell? ⟨bw, off + k, none⟩ = some (.int .i64 x) := by rw [hwr, hx]; exact hcc k hlt
          clear hwr
          have HX : Hid (x = zs.getD k 0) := hx
          have hki : (k : Int) < (n : Int) := by omega
          clear hx hcc
          by_cases hok : 0 ≤ x ∧ x ≤ s - 1
          · have HOK : Hid (decide (0 ≤ x ∧ x ≤ s - 1) = true) := decide_eq_true hok
            have hnx : allB (zs.take (k + 1)) s = true := by
              rw [all_take_succ zs s k (by have := Hn.out; omega), ha.out, ← HX.out]
              simp [okB]; omega
            have HNX : Hid (allB (zs.take (k + 1)) s = true) := hnx
            clear hnx hok
            go_wp2_with fail
            go_quiet (first | (go_at_call 16; refine Calls.quiet_of_same (quietIn HOK.out)))
            go_wp2
            go_roundw
            case rel => exact ⟨k + 1, by omega, by go_num, HNX, m + nq, by rw [HW.out, World.drewN_drewN]⟩
            case measure => simp [intOf]; omega
          · have HOK : Hid (decide (0 ≤ x ∧ x ≤ s - 1) = false) := decide_eq_false hok
            have hbad : okB s x = false := by unfold okB; exact decide_eq_false hok
            have HBad : Hid (okB s x = false) := hbad
            clear hbad hok
            go_wp2_with fail
            go_quiet (first | (go_at_call 16; refine Calls.quiet_of_same (quietIn HOK.out)))
            go_wp2
            go_ret
            have := all_false zs s k (by have := Hn.out; omega) (by rw [← HX.out]; exact HBad.out)
            exact ⟨by rw [this]; rfl, m + nq, by rw [HW.out, World.drewN_drewN]⟩
        · have hkn : k = n := by omega
          subst hkn
          have he : allB zs s = true := by have := ha.out; rwa [Hn.out, List.take_length] at this
          have HE : Hid (allB zs s = true) := he
          clear he ha hwr
          go_wp2
          go_ret
          exact ⟨by rw [HE.out]; rfl, m, HW.out⟩
    · have e : wordB zs s = false := by unfold wordB; rw [← Hn.out, decide_eq_false h12, Bool.false_and]
      rw [e]
      clear e
      rcases Nat.lt_or_ge n 1 with q1 | q1
      · have hn0 : n = 0 := by omega
        subst hn0
        go_enter Try.func15, Try.ntmps15
        go_wp2_with fail
        go_at_call 23
        refine HIS.out.mono ?_
        rw [HQ.out]
        rintro e w2 ⟨rfl, m, hm⟩
        have HM := hid hm
        clear hm
        go_wp2
        go_ret
        exact ⟨rfl, m, HM.out⟩
      · have q2 : 12 < n := by omega
        go_enter Try.func15, Try.ntmps15
        go_wp2_with fail
        go_at_call 23
        refine HIS.out.mono ?_
        rw [HQ.out]
        rintro e w2 ⟨rfl, m, hm⟩
        have HM := hid hm
        clear hm
        go_wp2
        go_ret
        exact ⟨rfl, m, HM.out⟩

end Go.Proofs.Ytbnndbciimfciaa.Lwd
