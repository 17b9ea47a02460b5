/- Rings: what l02Ring and IsRing of both sides answer. -/
import Derived.Test.YtjeoccjemkdbiaaHelp
namespace Go.Proofs.Ytjeoccjemkdbiaa.Ring
open Go.RowKit Go.Proofs.Ytjeoccjemkdbiaa.Rd Go.Proofs.Ytjeoccjemkdbiaa.Help
set_option linter.unusedVariables false

/-- All numbers are states. -/
def okB (st : Int) (x : Int) : Bool := decide (0 ≤ x ∧ x ≤ st - 1)
def allB (zs : List Int) (st : Int) : Bool := zs.all (okB st)
def ringB (zs : List Int) (st : Int) : Bool := allB zs st && (decide (1 ≤ zs.length) && decide (zs.length ≤ 64))
def isRingB (zs : List Int) (st : Int) : Bool := decide (2 ≤ st ∧ st ≤ 3) && ringB zs st

theorem all_take_succ (zs : List Int) (st : Int) (k : Nat) (h : k < zs.length) : allB (zs.take (k + 1)) st = (allB (zs.take k) st && okB st (zs.getD k 0)) := by
  unfold allB
  rw [List.take_succ_eq_append_getElem h, List.all_append]
  simp only [List.all_cons, List.all_nil, Bool.and_true, List.getD, List.getElem?_eq_getElem h, Option.getD_some]
theorem all_false (zs : List Int) (st : Int) (k : Nat) (h : k < zs.length) (hb : okB st (zs.getD k 0) = false) : allB zs st = false := by
  have e : zs = zs.take (k + 1) ++ zs.drop (k + 1) := (List.take_append_drop _ _).symm
  have h2 := all_take_succ zs st k h
  rw [hb, Bool.and_false] at h2
  unfold allB at h2 ⊢
  rw [e, List.all_append, h2, Bool.false_and]

set_option maxHeartbeats 400000 in
theorem specL02Ring {w : World} {b : Nat} {v : Value} {zs : List Int} {st : Int} (h : Rd w b v zs) (hst : 2 ≤ st ∧ st ≤ 3) :
    Calls Try.prog 69 #[v, .int .i64 st] w fun e w' => e = .returned (.bool (ringB zs st)) ∧ w = w' := by
  obtain ⟨ao, cap, rfl, hc, hm, h4⟩ := h
  obtain ⟨s1, s2⟩ := hst
  obtain ⟨n, hn⟩ : ∃ n, n = zs.length := ⟨_, rfl⟩
  rw [← hn] at hc h4 ⊢
  have Hn : Hid (n = zs.length) := hn
  clear hn
  have hsz : n ≤ 9223372036854775807 := by unfold maxLen at hm; omega
  clear hc hm
  go_enter Try.func69, Try.ntmps69
  go_wp2
  go_loop [5] (fun i => ∃ k : Nat, k ≤ n ∧ i = .int .i64 k ∧ Hid (allB (zs.take k) st = true)) (fun i => n - (intOf i).toNat)
  case atStart => exact ⟨0, Nat.zero_le _, rfl, by simp [Hid, allB]⟩
  case round =>
    obtain ⟨k, hk, rfl, ha⟩ := hrel
    by_cases hlt : k < n
    · obtain ⟨off, rfl, hb, hcc⟩ := h4 (by omega)
      obtain ⟨x, hx⟩ : ∃ x, x = zs.getD k 0 := ⟨_, rfl⟩
      have hcx : w.cell? ⟨b, off + k, none⟩ = some (.int .i64 x) := by rw [hx]; exact hcc k hlt
      have HX : Hid (x = zs.getD k 0) := hx
      clear hx hcc
      by_cases hok : 0 ≤ x ∧ x ≤ st - 1
      · obtain ⟨g1, g2⟩ := hok
        have hnx : allB (zs.take (k + 1)) st = true := by
          rw [all_take_succ zs st k (by have := Hn.out; omega), ha.out, ← HX.out]
          simp [okB]; omega
        have HNX : Hid (allB (zs.take (k + 1)) st = true) := hnx
        clear hnx
        go_wp2
        all_goals
          go_round
          case rel => exact ⟨k + 1, by omega, by go_num, HNX⟩
          case measure => simp [intOf]; omega
      · have hbad : okB st x = false := by simp [okB]; omega
        have HBad : Hid (okB st x = false) := hbad
        clear hbad
        rcases Int.lt_or_le x 0 with hx0 | hx0
        · go_wp2
          go_ret
          refine ⟨?_, rfl⟩
          have := all_false zs st k (by have := Hn.out; omega) (by rw [← HX.out]; exact HBad.out)
          simp [ringB, this]
        · have hx1 : decide (x ≤ st - 1) = false := by simp; omega
          have hx2 : decide (0 ≤ x) = true := by simp; omega
          go_wp2
          go_ret
          refine ⟨?_, rfl⟩
          have := all_false zs st k (by have := Hn.out; omega) (by rw [← HX.out]; exact HBad.out)
          simp [ringB, this]
    · have hkn : k = n := by omega
      subst hkn
      have he : allB zs st = true := by have := ha.out; rwa [Hn.out, List.take_length] at this
      have HE : Hid (allB zs st = true) := he
      clear he ha
      by_cases q1 : 1 ≤ k
      · by_cases q2 : k ≤ 64
        · have q3 : decide ((k : Int) ≤ 64) = true := by simp; omega
          have q4 : decide ((1 : Int) ≤ (k : Int)) = true := by simp; omega
          go_wp2
          go_ret
          refine ⟨?_, rfl⟩
          simp [ringB, HE.out, ← Hn.out, q1, q2]
        · have q3 : decide ((k : Int) ≤ 64) = false := by simp; omega
          have q4 : decide ((1 : Int) ≤ (k : Int)) = true := by simp; omega
          go_wp2
          go_ret
          refine ⟨?_, rfl⟩
          simp [ringB, HE.out, ← Hn.out, q2]
      · have q3 : decide ((1 : Int) ≤ (k : Int)) = false := by simp; omega
        go_wp2
        go_ret
        refine ⟨?_, rfl⟩
        simp [ringB, HE.out, ← Hn.out, q1]

set_option maxHeartbeats 400000 in
theorem indexFunc {w : World} {b c : Nat} {v : Value} {zs : List Int} {st : Int} (h : Rd w b v zs) (hst : -1000 ≤ st ∧ st ≤ 1000000) (hcell : w.cell? ⟨c, 0, none⟩ = some (.int .i64 st)) :
    Calls Try.prog 87 #[v, .func (.func 77) #[] #[.pointer (some ⟨c, 0, none⟩)]] w fun e w' =>
      (∃ r : Int, e = .returned (.int .i64 r) ∧ (decide (0 ≤ r) = !allB zs st)) ∧ w = w' := by
  obtain ⟨ao, cap, rfl, hc, hm, h4⟩ := h
  obtain ⟨s1, s2⟩ := hst
  obtain ⟨n, hn⟩ : ∃ n, n = zs.length := ⟨_, rfl⟩
  rw [← hn] at hc h4 ⊢
  have Hn : Hid (n = zs.length) := hn
  clear hn
  have hsz : n ≤ 9223372036854775807 := by unfold maxLen at hm; omega
  clear hc hm
  go_enter Try.func87, Try.ntmps87
  go_wp2
  go_loop [8] (fun i => ∃ k : Nat, k ≤ n ∧ i = .int .i64 k ∧ Hid (allB (zs.take k) st = true)) (fun i => n - (intOf i).toNat)
  case atStart => exact ⟨0, Nat.zero_le _, rfl, by simp [Hid, allB]⟩
  case round =>
    obtain ⟨k, hk, rfl, ha⟩ := hrel
    by_cases hlt : k < n
    · obtain ⟨off, rfl, hb, hcc⟩ := h4 (by omega)
      obtain ⟨x, hx⟩ : ∃ x, x = zs.getD k 0 := ⟨_, rfl⟩
      have hcx : w.cell? ⟨b, off + k, none⟩ = some (.int .i64 x) := by rw [hx]; exact hcc k hlt
      have HX : Hid (x = zs.getD k 0) := hx
      clear hx hcc
      by_cases hok : 0 ≤ x ∧ x ≤ st - 1
      · obtain ⟨g1, g2⟩ := hok
        have hnx : allB (zs.take (k + 1)) st = true := by
          rw [all_take_succ zs st k (by have := Hn.out; omega), ha.out, ← HX.out]
          simp [okB]; omega
        have HNX : Hid (allB (zs.take (k + 1)) st = true) := hnx
        clear hnx
        go_wp2
        all_goals
          go_round
          case rel => exact ⟨k + 1, by omega, by go_num, HNX⟩
          case measure => simp [intOf]; omega
      · have hbad : okB st x = false := by simp [okB]; omega
        have HBad : Hid (okB st x = false) := hbad
        clear hbad
        rcases Int.lt_or_le x 0 with hx0 | hx0
        · go_wp2
          go_ret
          refine ⟨⟨_, rfl, ?_⟩, rfl⟩
          have := all_false zs st k (by have := Hn.out; omega) (by rw [← HX.out]; exact HBad.out)
          simp [this]
        · have hx1 : decide (x ≤ st - 1) = false := by simp; omega
          have hx2 : decide (0 ≤ x) = true := by simp; omega
          go_wp2
          go_ret
          refine ⟨⟨_, rfl, ?_⟩, rfl⟩
          have := all_false zs st k (by have := Hn.out; omega) (by rw [← HX.out]; exact HBad.out)
          simp [this]
    · have hkn : k = n := by omega
      subst hkn
      have he : allB zs st = true := by have := ha.out; rwa [Hn.out, List.take_length] at this
      have HE : Hid (allB zs st = true) := he
      clear he ha
      go_wp2
      go_ret
      exact ⟨⟨_, rfl, by rw [HE.out]; rfl⟩, rfl⟩

set_option maxHeartbeats 400000 in
theorem containsFunc {w : World} {b c : Nat} {v : Value} {zs : List Int} {st : Int} (h : Rd w b v zs) (hst : -1000 ≤ st ∧ st ≤ 1000000) (hcell : w.cell? ⟨c, 0, none⟩ = some (.int .i64 st)) :
    Calls Try.prog 76 #[v, .func (.func 77) #[] #[.pointer (some ⟨c, 0, none⟩)]] w fun e w' =>
      e = .returned (.bool (!allB zs st)) ∧ w = w' := by
  have HH : Hid (Rd w b v zs) := h
  have HC : Hid (w.cell? ⟨c, 0, none⟩ = some (.int .i64 st)) := hcell
  clear h hcell
  go_enter Try.func76, Try.ntmps76
  go_wp2_with fail
  go_at_call 87
  refine (indexFunc HH.out hst HC.out).mono ?_
  rintro e w' ⟨⟨r, rfl, hr⟩, rfl⟩
  have HR : Hid (decide (0 ≤ r) = !allB zs st) := hr
  clear hr
  go_wp2_with fail
  go_ret
  exact ⟨congrArg (fun x => Ending.returned (.bool x)) HR.out, rfl⟩

set_option maxHeartbeats 400000 in
theorem areStates {w : World} {b : Nat} {v : Value} {zs : List Int} {st : Int} (h : Rd w b v zs) (hst : -1000 ≤ st ∧ st ≤ 1000000) :
    Calls Try.prog 59 #[v, .int .i64 st] w fun e w' => e = .returned (.bool (allB zs st)) ∧ Below w.heap.size w w' := by
  have HH : Hid (Rd w b v zs) := h
  have hmf : ∀ (fn : Fn) (first cap : Array Value) (w : World), (Instr.makeFunc fn first cap).run Try.prog w = .ok (.func fn first cap) w := fun _ _ _ _ => rfl
  go_enter Try.func59, Try.ntmps59
  go_wp2_with fail
  go_at_call 76
  refine (containsFunc (HH.out.keep ((Below.refl _ _).alloc (Nat.le_refl _) _) (Nat.le_refl _)) hst (by simp)).mono ?_
  rintro e w' ⟨rfl, rfl⟩
  go_wp2_with fail
  go_ret
  exact ⟨rfl, (Below.refl _ _).alloc (Nat.le_refl _) _⟩

set_option maxHeartbeats 400000 in
theorem implIsRing {w : World} {b : Nat} {v : Value} {zs : List Int} {st : Int} (h : Rd w b v zs) :
    Calls Try.prog 83 #[v, .int .i64 st] w fun e w' => e = .returned (.bool (isRingB zs st)) ∧ Below w.heap.size w w' := by
  have HH : Hid (Rd w b v zs) := h
  obtain ⟨ao, cap, rfl, hc, hm, _⟩ := h
  obtain ⟨n, hn⟩ : ∃ n, n = zs.length := ⟨_, rfl⟩
  rw [← hn] at hc HH ⊢
  have Hn : Hid (n = zs.length) := hn
  clear hn hc hm
  by_cases h2 : st = 2 ∨ st = 3
  · have hs : -1000 ≤ st ∧ st ≤ 1000000 := by omega
    have e2 : decide (2 ≤ st ∧ st ≤ 3) = true := by simp; omega
    by_cases q1 : 1 ≤ n
    · by_cases q2 : n ≤ 64
      · have e : isRingB zs st = allB zs st := by simp only [isRingB, ringB, ← Hn.out, e2]; simp [q1, q2]
        rw [e]
        have HS : Hid (-1000 ≤ st ∧ st ≤ 1000000) := hs
        clear e e2 hs
        rcases h2 with rfl | rfl
        all_goals
          go_enter Try.func83, Try.ntmps83
          go_wp2_with (first | (go_at_call 59; refine (areStates HH.out HS.out).mono ?_; rintro e w' ⟨rfl, hbel⟩) | (go_at_call 75; go_in))
          go_ret
          exact ⟨rfl, hbel⟩
      · have e : isRingB zs st = false := by simp only [isRingB, ringB, ← Hn.out]; simp [q2]
        have q3 : decide ((n : Int) ≤ 64) = false := by simp; omega
        have q4 : decide ((1 : Int) ≤ (n : Int)) = true := by simp; omega
        rw [e]
        clear e e2 hs
        rcases h2 with rfl | rfl
        all_goals
          go_enter Try.func83, Try.ntmps83
          go_wp2
          go_ret
          exact ⟨rfl, Below.refl _ _⟩
    · have e : isRingB zs st = false := by simp only [isRingB, ringB, ← Hn.out]; simp [q1]
      have q3 : decide ((1 : Int) ≤ (n : Int)) = false := by simp; omega
      rw [e]
      clear e e2 hs
      rcases h2 with rfl | rfl
      all_goals
        go_enter Try.func83, Try.ntmps83
        go_wp2
        go_ret
        exact ⟨rfl, Below.refl _ _⟩
  · have e : isRingB zs st = false := by
      have : ¬ (2 ≤ st ∧ st ≤ 3) := by omega
      simp only [isRingB, decide_eq_false this, Bool.false_and]
    rw [e]
    clear e
    have h3 : (st == 2) = false := by simp; omega
    have h4 : (st == 3) = false := by simp; omega
    clear h2
    go_enter Try.func83, Try.ntmps83
    go_wp2
    go_ret
    exact ⟨rfl, Below.refl _ _⟩

end Go.Proofs.Ytjeoccjemkdbiaa.Ring
