/- Lanes: what l06Lane and IsLane of both sides answer. -/
import Derived.Test.YtnpjhhkhdeomcaaHelp
import Derived.Test.YtnpjhhkhdeomcaaSmall
namespace Go.Proofs.Ytnpjhhkhdeomcaa.Lane
open Go.RowKit Go.Proofs.Ytnpjhhkhdeomcaa.Rd Go.Proofs.Ytnpjhhkhdeomcaa.Help Go.Proofs.Ytnpjhhkhdeomcaa.Small
set_option linter.unusedVariables false

/-- A place of a lane. -/
def okL (x : Int) : Bool := decide (-1 ≤ x ∧ x ≤ 5)
def allL (zs : List Int) : Bool := zs.all okL
def laneB (zs : List Int) : Bool := allL zs && (decide (1 ≤ zs.length) && decide (zs.length ≤ 64))

theorem all_take_succ (zs : List Int) (k : Nat) (h : k < zs.length) : allL (zs.take (k + 1)) = (allL (zs.take k) && okL (zs.getD k 0)) := by
  unfold allL
  rw [List.take_succ_eq_append_getElem h, List.all_append]
  simp only [List.all_cons, List.all_nil, Bool.and_true, List.getD, List.getElem?_eq_getElem h, Option.getD_some]
theorem all_false (zs : List Int) (k : Nat) (h : k < zs.length) (hb : okL (zs.getD k 0) = false) : allL zs = false := by
  have e : zs = zs.take (k + 1) ++ zs.drop (k + 1) := (List.take_append_drop _ _).symm
  have h2 := all_take_succ zs k h
  rw [hb, Bool.and_false] at h2
  unfold allL at h2 ⊢
  rw [e, List.all_append, h2, Bool.false_and]

set_option maxHeartbeats 400000 in
theorem specLane {w : World} {b : Nat} {v : Value} {zs : List Int} (h : Rd w b v zs) :
    Calls Try.prog 33 #[v] w fun e w' => e = .returned (.bool (laneB zs)) ∧ w = w' := by
  obtain ⟨ao, cap, rfl, hc, hm, h4⟩ := h
  obtain ⟨n, hn⟩ : ∃ n, n = zs.length := ⟨_, rfl⟩
  rw [← hn] at hc h4 ⊢
  have Hn : Hid (n = zs.length) := hn
  clear hn
  have hsz : n ≤ 9223372036854775807 := by unfold maxLen at hm; omega
  clear hc hm
  go_enter Try.func33, Try.ntmps33
  go_wp2
  go_loop [3] (fun i => ∃ k : Nat, k ≤ n ∧ i = .int .i64 k ∧ Hid (allL (zs.take k) = true)) (fun i => n - (intOf i).toNat)
  case atStart => exact ⟨0, Nat.zero_le _, rfl, by simp [Hid, allL]⟩
  case round =>
    obtain ⟨k, hk, rfl, ha⟩ := hrel
    by_cases hlt : k < n
    · obtain ⟨off, rfl, hb, hcc⟩ := h4 (by omega)
      obtain ⟨x, hx⟩ : ∃ x, x = zs.getD k 0 := ⟨_, rfl⟩
      have hcx : w.cell? ⟨b, off + k, none⟩ = some (.int .i64 x) := by rw [hx]; exact hcc k hlt
      have HX : Hid (x = zs.getD k 0) := hx
      clear hx hcc
      by_cases hok : -1 ≤ x ∧ x ≤ 5
      · obtain ⟨g1, g2⟩ := hok
        have hnx : allL (zs.take (k + 1)) = true := by
          rw [all_take_succ zs k (by have := Hn.out; omega), ha.out, ← HX.out]
          simp [okL]; omega
        have HNX : Hid (allL (zs.take (k + 1)) = true) := hnx
        clear hnx
        go_wp2
        all_goals
          go_round
          case rel => exact ⟨k + 1, by omega, by go_num, HNX⟩
          case measure => simp [intOf]; omega
      · have hbad : okL x = false := by simp [okL]; omega
        have HBad : Hid (okL x = false) := hbad
        clear hbad
        rcases Int.lt_or_le x (-1) with hx0 | hx0
        · go_wp2
          go_ret
          refine ⟨?_, rfl⟩
          have := all_false zs k (by have := Hn.out; omega) (by rw [← HX.out]; exact HBad.out)
          simp [laneB, this]
        · have hx1 : decide (x ≤ 5) = false := by simp; omega
          have hx2 : decide (-1 ≤ x) = true := by simp; omega
          go_wp2
          go_ret
          refine ⟨?_, rfl⟩
          have := all_false zs k (by have := Hn.out; omega) (by rw [← HX.out]; exact HBad.out)
          simp [laneB, this]
    · have hkn : k = n := by omega
      subst hkn
      have he : allL zs = true := by have := ha.out; rwa [Hn.out, List.take_length] at this
      have HE : Hid (allL zs = true) := he
      clear he ha
      by_cases q1 : 1 ≤ k
      · by_cases q2 : k ≤ 64
        · have q3 : decide ((k : Int) ≤ 64) = true := by simp; omega
          have q4 : decide ((1 : Int) ≤ (k : Int)) = true := by simp; omega
          go_wp2
          go_ret
          refine ⟨?_, rfl⟩
          simp [laneB, HE.out, ← Hn.out, q1, q2]
        · have q3 : decide ((k : Int) ≤ 64) = false := by simp; omega
          have q4 : decide ((1 : Int) ≤ (k : Int)) = true := by simp; omega
          go_wp2
          go_ret
          refine ⟨?_, rfl⟩
          simp [laneB, HE.out, ← Hn.out, q2]
      · have q3 : decide ((1 : Int) ≤ (k : Int)) = false := by simp; omega
        go_wp2
        go_ret
        refine ⟨?_, rfl⟩
        simp [laneB, HE.out, ← Hn.out, q1]

set_option maxHeartbeats 400000 in
theorem indexFunc {w : World} {b : Nat} {v : Value} {zs : List Int} (h : Rd w b v zs) :
    Calls Try.prog 62 #[v, .func (.func 36) #[] #[]] w fun e w' =>
      (∃ r : Int, e = .returned (.int .i64 r) ∧ (decide (0 ≤ r) = !allL zs)) ∧ w = w' := by
  obtain ⟨ao, cap, rfl, hc, hm, h4⟩ := h
  obtain ⟨n, hn⟩ : ∃ n, n = zs.length := ⟨_, rfl⟩
  rw [← hn] at hc h4 ⊢
  have Hn : Hid (n = zs.length) := hn
  clear hn
  have hsz : n ≤ 9223372036854775807 := by unfold maxLen at hm; omega
  clear hc hm
  go_enter Try.func62, Try.ntmps62
  go_wp2
  go_loop [8] (fun i => ∃ k : Nat, k ≤ n ∧ i = .int .i64 k ∧ Hid (allL (zs.take k) = true)) (fun i => n - (intOf i).toNat)
  case atStart => exact ⟨0, Nat.zero_le _, rfl, by simp [Hid, allL]⟩
  case round =>
    obtain ⟨k, hk, rfl, ha⟩ := hrel
    by_cases hlt : k < n
    · obtain ⟨off, rfl, hb, hcc⟩ := h4 (by omega)
      obtain ⟨x, hx⟩ : ∃ x, x = zs.getD k 0 := ⟨_, rfl⟩
      have hcx : w.cell? ⟨b, off + k, none⟩ = some (.int .i64 x) := by rw [hx]; exact hcc k hlt
      have HX : Hid (x = zs.getD k 0) := hx
      clear hx hcc
      by_cases hok : -1 ≤ x ∧ x ≤ 5
      · obtain ⟨g1, g2⟩ := hok
        have hnx : allL (zs.take (k + 1)) = true := by
          rw [all_take_succ zs k (by have := Hn.out; omega), ha.out, ← HX.out]
          simp [okL]; omega
        have HNX : Hid (allL (zs.take (k + 1)) = true) := hnx
        clear hnx
        go_wp2
        all_goals
          go_round
          case rel => exact ⟨k + 1, by omega, by go_num, HNX⟩
          case measure => simp [intOf]; omega
      · have hbad : okL x = false := by simp [okL]; omega
        have HBad : Hid (okL x = false) := hbad
        clear hbad
        rcases Int.lt_or_le x (-1) with hx0 | hx0
        · go_wp2
          go_ret
          refine ⟨⟨_, rfl, ?_⟩, rfl⟩
          have := all_false zs k (by have := Hn.out; omega) (by rw [← HX.out]; exact HBad.out)
          simp [this]
        · have hx1 : decide (x ≤ 5) = false := by simp; omega
          have hx2 : decide (-1 ≤ x) = true := by simp; omega
          go_wp2
          go_ret
          refine ⟨⟨_, rfl, ?_⟩, rfl⟩
          have := all_false zs k (by have := Hn.out; omega) (by rw [← HX.out]; exact HBad.out)
          simp [this]
    · have hkn : k = n := by omega
      subst hkn
      have he : allL zs = true := by have := ha.out; rwa [Hn.out, List.take_length] at this
      have HE : Hid (allL zs = true) := he
      clear he ha
      go_wp2
      go_ret
      exact ⟨⟨_, rfl, by rw [HE.out]; rfl⟩, rfl⟩

set_option maxHeartbeats 400000 in
theorem containsFunc {w : World} {b : Nat} {v : Value} {zs : List Int} (h : Rd w b v zs) :
    Calls Try.prog 35 #[v, .func (.func 36) #[] #[]] w fun e w' =>
      e = .returned (.bool (!allL zs)) ∧ w = w' := by
  have HH : Hid (Rd w b v zs) := h
  clear h
  go_enter Try.func35, Try.ntmps35
  go_wp2_with fail
  go_at_call 62
  refine (indexFunc HH.out).mono ?_
  rintro e w' ⟨⟨r, rfl, hr⟩, rfl⟩
  have HR : Hid (decide (0 ≤ r) = !allL zs) := hr
  clear hr
  go_wp2_with fail
  go_ret
  exact ⟨congrArg (fun x => Ending.returned (.bool x)) HR.out, rfl⟩

set_option maxHeartbeats 400000 in
theorem implLane {w : World} {b : Nat} {v : Value} {zs : List Int} (h : Rd w b v zs) :
    Calls Try.prog 12 #[v] w fun e w' => e = .returned (.bool (laneB zs)) ∧ Below w.heap.size w w' := by
  have HH : Hid (Rd w b v zs) := h
  have hmf : ∀ (fn : Fn) (first cap : Array Value) (w : World), (Instr.makeFunc fn first cap).run Try.prog w = .ok (.func fn first cap) w := fun _ _ _ _ => rfl
  obtain ⟨ao, cap, rfl, hc, hm, _⟩ := h
  obtain ⟨n, hn⟩ : ∃ n, n = zs.length := ⟨_, rfl⟩
  rw [← hn] at hc HH ⊢
  have Hn : Hid (n = zs.length) := hn
  clear hn hc hm
  by_cases q1 : 1 ≤ n
  · by_cases q2 : n ≤ 64
    · have e : laneB zs = allL zs := by simp only [laneB, ← Hn.out]; simp [q1, q2]
      have q3 : decide ((n : Int) ≤ 64) = true := by simp; omega
      have q4 : decide ((1 : Int) ≤ (n : Int)) = true := by simp; omega
      rw [e]
      clear e
      go_enter Try.func12, Try.ntmps12
      go_wp2_with (first | (go_at_call 35; refine (containsFunc HH.out).mono ?_; rintro e w' ⟨rfl, rfl⟩) | (go_at_call 34; go_in))
      go_ret
      exact ⟨by simp, Below.refl _ _⟩
    · have e : laneB zs = false := by simp only [laneB, ← Hn.out]; simp [q2]
      have q3 : decide ((n : Int) ≤ 64) = false := by simp; omega
      have q4 : decide ((1 : Int) ≤ (n : Int)) = true := by simp; omega
      rw [e]
      clear e
      go_enter Try.func12, Try.ntmps12
      go_wp2
      go_ret
      exact ⟨rfl, Below.refl _ _⟩
  · have e : laneB zs = false := by simp only [laneB, ← Hn.out]; simp [q1]
    have q3 : decide ((1 : Int) ≤ (n : Int)) = false := by simp; omega
    rw [e]
    clear e
    go_enter Try.func12, Try.ntmps12
    go_wp2
    go_ret
    exact ⟨rfl, Below.refl _ _⟩

theorem specIsLane {w : World} {b : Nat} {v : Value} {zs : List Int} (h : Rd w b v zs) :
    Calls Try.prog 10 #[v] w fun e w' => e = .returned (.bool (laneB zs)) ∧ w = w' := by
  have HH : Hid (Rd w b v zs) := h
  go_enter Try.func10, Try.ntmps10
  go_wp2_with (go_at_call 33; refine (specLane HH.out).mono ?_; rintro e w' ⟨rfl, rfl⟩)
  go_ret
  exact ⟨rfl, rfl⟩

end Go.Proofs.Ytnpjhhkhdeomcaa.Lane
