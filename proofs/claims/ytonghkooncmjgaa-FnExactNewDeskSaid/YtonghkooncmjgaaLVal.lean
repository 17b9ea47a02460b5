/- Lives: ValidLife and SameLife of both sides. -/
import Derived.Test.YtonghkooncmjgaaLife
import Derived.Test.YtonghkooncmjgaaFSame
namespace Go.Proofs.Ytonghkooncmjgaa.LVal
open Go.RowKit Go.Proofs.Ytonghkooncmjgaa.Rd Go.Proofs.Ytonghkooncmjgaa.Help Go.Proofs.Ytonghkooncmjgaa.Small Go.Proofs.Ytonghkooncmjgaa.Keep Go.Proofs.Ytonghkooncmjgaa.Rule
set_option linter.unusedVariables false
set_option linter.unusedSimpArgs false

/-- The cell i of a list may stand there. -/
def okN (zs : List Int) (i : Nat) : Bool := decide (0 ≤ zs.getD i 0 ∧ zs.getD i 0 ≤ 8) && (decide (i = 0) || decide (zs.getD (i - 1) 0 < zs.getD i 0))
/-- A list of numbers of neighbours, in order. -/
def neighB (zs : List Int) : Bool := (List.range zs.length).all (okN zs)
theorem neigh_bad {zs : List Int} {k : Nat} (hk : k < zs.length) (h : okN zs k = false) : neighB zs = false := by
  simp only [neighB, List.all_eq_false]
  exact ⟨k, by simp; exact hk, by simp [h]⟩
theorem neigh_all {zs : List Int} (h : ∀ i, i < zs.length → okN zs i = true) : neighB zs = true := by
  simp only [neighB, List.all_eq_true]
  intro i hi
  exact h i (by simpa using hi)

theorem quietCount {w : World} {n hi : Int} {q : Bool} (h : decide (0 ≤ n ∧ n ≤ hi) = q) :
    Calls Try.prog 119 #[.int .i64 n, .int .i64 hi] w fun e w' => e = .returned (.bool q) ∧ w' = w := by
  rw [← h]; exact isCountB.mono fun _ _ ⟨he, hw⟩ => ⟨he, hw.symm⟩

set_option maxHeartbeats 2000000 in
theorem specNeigh {w : World} {b : Nat} {v : Value} {zs : List Int} (h : Rd w b v zs) :
    Calls Try.prog 164 #[v] w fun e w' => e = .returned (.bool (neighB zs)) ∧ ∃ m, w' = w.drewN m := by
  obtain ⟨ao, cap, rfl, hc, hm, h4⟩ := h
  obtain ⟨n, hn⟩ : ∃ n, n = zs.length := ⟨_, rfl⟩
  rw [← hn] at hc h4 ⊢
  have Hn := hid hn
  have hsz : n ≤ 9223372036854775807 := by unfold maxLen at hm; omega
  clear hn hc hm
  go_enter Try.func164, Try.ntmps164
  go_wp2
  go_loopw [3] (fun i wr => ∃ k : Nat, k ≤ n ∧ i = .int .i64 k ∧ Hid (∀ i, i < k → okN zs i = true) ∧ ∃ m, wr = w.drewN m) (fun i _ => n - (intOf i).toNat)
  case atStart => exact ⟨0, Nat.zero_le _, rfl, fun i hi => absurd hi (by omega), 0, rfl⟩
  case round =>
    obtain ⟨k, hk, rfl, ha, m, hw⟩ := hrel
    have HW := hid hw
    by_cases hlt : k < n
    · obtain ⟨off, rfl, hb, hcc⟩ := h4 (by omega)
      obtain ⟨y, hy⟩ : ∃ y, y = zs.getD k 0 := ⟨_, rfl⟩
      have hcx : wr.cell? ⟨b, off + k, none⟩ = some (.int .i64 y) := by rw [hw, hy]; exact hcc k hlt
      have hki : (k : Int) < (n : Int) := by omega
      by_cases hin : 0 ≤ y ∧ y ≤ 8
      · have HIN : Hid (decide (0 ≤ y ∧ y ≤ 8) = true) := decide_eq_true hin
        by_cases hk0 : k = 0
        · subst hk0
          have HOK : Hid (okN zs 0 = true) := by simp only [Hid, okN, ← hy]; rw [decide_eq_true hin]; rfl
          have hcx0 : wr.cell? ⟨b, off, none⟩ = some (.int .i64 y) := by simpa using hcx
          clear hw hy hin hcc
          go_wp2_with fail
          go_quiet (first | (go_at_call 113; refine Calls.quiet_of_same (FSpec.quietIn HIN.out)))
          go_wp2
          go_roundw
          case rel => exact ⟨1, by omega, by go_num, fun i hi => by (rcases Nat.lt_or_ge i 0 with h | h; exact ha i h; have : i = 0 := (by omega); rw [this]; exact HOK.out), m + nq, by rw [HW.out, World.drewN_drewN]⟩
          case measure => simp [intOf]; omega
        · obtain ⟨j, rfl⟩ : ∃ j, k = j + 1 := ⟨k - 1, by omega⟩
          obtain ⟨z, hz⟩ : ∃ z, z = zs.getD j 0 := ⟨_, rfl⟩
          have hcz : wr.cell? ⟨b, off + j, none⟩ = some (.int .i64 z) := by rw [hw, hz]; exact hcc j (by omega)
          have hwr : IntKind.i64.wrap (((j + 1 : Nat) : Int) - 1) = (j : Int) := by (rw [IntKind.wrap_i64]) <;> omega
          have hji : (j : Int) < (n : Int) := by omega
          have hj0 : decide ((0 : Int) < ((j + 1 : Nat) : Int)) = true := decide_eq_true (by omega)
          by_cases hzy : z < y
          · have HOK : Hid (okN zs (j + 1) = true) := by simp only [Hid, okN, ← hy, Nat.add_sub_cancel, ← hz]; rw [decide_eq_true hin, decide_eq_true hzy, Bool.or_true]; rfl
            have d1 : decide (y ≤ z) = false := by simp; omega
            clear hw hy hin hcc hz
            go_wp2_with fail
            go_quiet (first | (go_at_call 113; refine Calls.quiet_of_same (FSpec.quietIn HIN.out)))
            go_wp2
            go_roundw
            case rel => exact ⟨j + 1 + 1, by omega, by go_num, fun i hi => by (rcases Nat.lt_or_ge i (j + 1) with h | h; exact ha i h; have : i = j + 1 := (by omega); rw [this]; exact HOK.out), m + nq, by rw [HW.out, World.drewN_drewN]⟩
            case measure => simp [intOf]; omega
          · have HOK : Hid (okN zs (j + 1) = false) := by simp only [Hid, okN, ← hy, Nat.add_sub_cancel, ← hz]; rw [decide_eq_false hzy, decide_eq_false (show ¬ j + 1 = 0 by omega)]; simp
            have d1 : decide (y ≤ z) = true := by simp; omega
            clear hw hy hin hcc hz
            go_wp2_with fail
            go_quiet (first | (go_at_call 113; refine Calls.quiet_of_same (FSpec.quietIn HIN.out)))
            go_wp2
            go_ret
            exact ⟨by rw [neigh_bad (by have := Hn.out; omega) HOK.out]; rfl, m + nq, by rw [HW.out, World.drewN_drewN]⟩
      · have HIN : Hid (decide (0 ≤ y ∧ y ≤ 8) = false) := decide_eq_false hin
        have HOK : Hid (okN zs k = false) := by simp only [Hid, okN, ← hy]; rw [decide_eq_false hin]; rfl
        clear hw hy hin hcc
        go_wp2_with fail
        go_quiet (first | (go_at_call 113; refine Calls.quiet_of_same (FSpec.quietIn HIN.out)))
        go_wp2
        go_ret
        exact ⟨by rw [neigh_bad (by have := Hn.out; omega) HOK.out]; rfl, m + nq, by rw [HW.out, World.drewN_drewN]⟩
    · have hkn : k = n := by omega
      subst hkn
      have HA : Hid (neighB zs = true) := neigh_all (by have := Hn.out; rw [← this]; exact ha)
      clear hw
      go_wp2
      go_ret
      exact ⟨by rw [HA.out]; rfl, m, HW.out⟩

set_option maxHeartbeats 2000000 in
theorem implNeigh {w : World} {b : Nat} {v : Value} {zs : List Int} (h : Rd w b v zs) :
    Calls Try.prog 159 #[v] w fun e w' => e = .returned (.bool (neighB zs)) ∧ ∃ m, w' = w.drewN m := by
  obtain ⟨ao, cap, rfl, hc, hm, h4⟩ := h
  obtain ⟨n, hn⟩ : ∃ n, n = zs.length := ⟨_, rfl⟩
  rw [← hn] at hc h4 ⊢
  have Hn := hid hn
  have hsz : n ≤ 9223372036854775807 := by unfold maxLen at hm; omega
  clear hn hc hm
  go_enter Try.func159, Try.ntmps159
  go_wp2
  go_loopw [3, 4, 7] (fun i0 x0 i wr => ∃ k : Nat, k ≤ n ∧ i = .int .i64 k ∧ Hid (∀ i, i < k → okN zs i = true) ∧ ∃ m, wr = w.drewN m) (fun _ _ i _ => n - (intOf i).toNat)
  case atStart => exact ⟨0, Nat.zero_le _, rfl, fun i hi => absurd hi (by omega), 0, rfl⟩
  case round =>
    obtain ⟨k, hk, rfl, ha, m, hw⟩ := hrel
    have HW := hid hw
    by_cases hlt : k < n
    · obtain ⟨off, rfl, hb, hcc⟩ := h4 (by omega)
      obtain ⟨y, hy⟩ : ∃ y, y = zs.getD k 0 := ⟨_, rfl⟩
      have hcx : wr.cell? ⟨b, off + k, none⟩ = some (.int .i64 y) := by rw [hw, hy]; exact hcc k hlt
      have hki : (k : Int) < (n : Int) := by omega
      by_cases hin : 0 ≤ y ∧ y ≤ 8
      · have HIN : Hid (decide (0 ≤ y ∧ y ≤ 8) = true) := decide_eq_true hin
        by_cases hk0 : k = 0
        · subst hk0
          have HOK : Hid (okN zs 0 = true) := by simp only [Hid, okN, ← hy]; rw [decide_eq_true hin]; rfl
          have hcx0 : wr.cell? ⟨b, off, none⟩ = some (.int .i64 y) := by simpa using hcx
          clear hw hy hin hcc
          go_wp2_with fail
          go_at_call 119
          refine isCountB.mono ?_
          rw [HIN.out]
          rintro e w' ⟨rfl, rfl⟩
          go_wp2
          go_roundw
          case rel => exact ⟨1, by omega, by go_num, fun i hi => by (rcases Nat.lt_or_ge i 0 with h | h; exact ha i h; have : i = 0 := (by omega); rw [this]; exact HOK.out), m, HW.out⟩
          case measure => simp [intOf]; omega
        · obtain ⟨j, rfl⟩ : ∃ j, k = j + 1 := ⟨k - 1, by omega⟩
          obtain ⟨z, hz⟩ : ∃ z, z = zs.getD j 0 := ⟨_, rfl⟩
          have hcz : wr.cell? ⟨b, off + j, none⟩ = some (.int .i64 z) := by rw [hw, hz]; exact hcc j (by omega)
          have hwr : IntKind.i64.wrap (((j + 1 : Nat) : Int) - 1) = (j : Int) := by (rw [IntKind.wrap_i64]) <;> omega
          have hji : (j : Int) < (n : Int) := by omega
          have hj0 : decide ((0 : Int) < ((j + 1 : Nat) : Int)) = true := decide_eq_true (by omega)
          by_cases hzy : z < y
          · have HOK : Hid (okN zs (j + 1) = true) := by simp only [Hid, okN, ← hy, Nat.add_sub_cancel, ← hz]; rw [decide_eq_true hin, decide_eq_true hzy, Bool.or_true]; rfl
            have d1 : decide (y ≤ z) = false := by simp; omega
            clear hw hy hin hcc hz
            go_wp2_with fail
            go_at_call 119
            refine isCountB.mono ?_
            rw [HIN.out]
            rintro e w' ⟨rfl, rfl⟩
            go_wp2
            go_roundw
            case rel => exact ⟨j + 1 + 1, by omega, by go_num, fun i hi => by (rcases Nat.lt_or_ge i (j + 1) with h | h; exact ha i h; have : i = j + 1 := (by omega); rw [this]; exact HOK.out), m, HW.out⟩
            case measure => simp [intOf]; omega
          · have HOK : Hid (okN zs (j + 1) = false) := by simp only [Hid, okN, ← hy, Nat.add_sub_cancel, ← hz]; rw [decide_eq_false hzy, decide_eq_false (show ¬ j + 1 = 0 by omega)]; simp
            have d1 : decide (y ≤ z) = true := by simp; omega
            clear hw hy hin hcc hz
            go_wp2_with fail
            go_at_call 119
            refine isCountB.mono ?_
            rw [HIN.out]
            rintro e w' ⟨rfl, rfl⟩
            go_wp2
            go_ret
            exact ⟨by rw [neigh_bad (by have := Hn.out; omega) HOK.out]; rfl, m, HW.out⟩
      · have HIN : Hid (decide (0 ≤ y ∧ y ≤ 8) = false) := decide_eq_false hin
        have HOK : Hid (okN zs k = false) := by simp only [Hid, okN, ← hy]; rw [decide_eq_false hin]; rfl
        clear hw hy hin hcc
        go_wp2_with fail
        go_at_call 119
        refine isCountB.mono ?_
        rw [HIN.out]
        rintro e w' ⟨rfl, rfl⟩
        go_wp2
        go_ret
        exact ⟨by rw [neigh_bad (by have := Hn.out; omega) HOK.out]; rfl, m, HW.out⟩
    · have hkn : k = n := by omega
      subst hkn
      have HA : Hid (neighB zs = true) := neigh_all (by have := Hn.out; rw [← this]; exact ha)
      clear hw
      go_wp2
      go_ret
      exact ⟨by rw [HA.out]; rfl, m, HW.out⟩

/-- What ValidLife answers. -/
def lifeB (xs ys : List Int) : Bool := neighB xs && neighB ys

set_option maxHeartbeats 2000000 in
theorem l04Life {w : World} {g b1 b2 : Nat} {v1 v2 : Value} {xs ys : List Int} (c0 : w.cell? ⟨g, 0, none⟩ = some v1) (c1 : w.cell? ⟨g, 1, none⟩ = some v2) (h1 : Rd w b1 v1 xs) (h2 : Rd w b2 v2 ys) :
    Calls Try.prog 91 #[.pointer (some ⟨g, 0, none⟩)] w fun e w' => e = .returned (.bool (lifeB xs ys)) ∧ ∃ m, w' = w.drewN m := by
  have H1 := hid h1
  have H2 := hid h2
  cases hx : neighB xs with
  | false =>
    have e : lifeB xs ys = false := by simp [lifeB, hx]
    rw [e]
    have HX := hid hx
    clear h1 h2 e hx
    go_enter Try.func91, Try.ntmps91
    go_wp2_with fail
    go_at_call 164
    refine (specNeigh H1.out).mono ?_
    rw [HX.out]
    rintro e w2 ⟨rfl, m, rfl⟩
    go_wp2
    go_ret
    exact ⟨rfl, m, rfl⟩
  | true =>
    obtain ⟨q, hq⟩ : ∃ q, q = neighB ys := ⟨_, rfl⟩
    have e : lifeB xs ys = q := by simp [lifeB, hx, hq]
    rw [e]
    have HX := hid hx
    have HQ := hid hq
    clear h1 h2 e hx hq
    go_enter Try.func91, Try.ntmps91
    go_wp2_with fail
    go_at_call 164
    refine (specNeigh H1.out).mono ?_
    rw [HX.out]
    rintro e w2 ⟨rfl, m, hw2⟩
    have c1' : w2.cell? ⟨g, 1, none⟩ = some v2 := by rw [hw2]; exact c1
    have HW := hid hw2
    have H3 : Hid (Rd w2 b2 v2 ys) := by rw [hw2]; exact H2.out.keep (FSpec.below_drewN' _ _ _) (Nat.le_refl _)
    clear hw2
    go_wp2_with fail
    go_at_call 164
    refine (specNeigh H3.out).mono ?_
    rw [← HQ.out]
    rintro e w3 ⟨rfl, m3, hw3⟩
    have HW3 := hid hw3
    clear hw3
    go_wp2
    go_ret
    exact ⟨rfl, m + m3, by rw [HW3.out, HW.out, World.drewN_drewN]⟩

set_option maxHeartbeats 2000000 in
theorem implValid {w : World} {b1 b2 : Nat} {v1 v2 : Value} {xs ys : List Int} (h1 : Rd w b1 v1 xs) (h2 : Rd w b2 v2 ys) :
    Calls Try.prog 76 #[lifeV v1 v2] w fun e w' => e = .returned (.bool (lifeB xs ys)) ∧ Below w.heap.size w w' := by
  have H1 := hid h1
  have H2 := hid h2
  obtain ⟨ao1, c1, rfl, _, _, _⟩ := h1
  obtain ⟨ao2, c2, rfl, _, _, _⟩ := h2
  cases hx : neighB xs with
  | false =>
    have e : lifeB xs ys = false := by simp [lifeB, hx]
    rw [e]
    have HX := hid hx
    clear e hx
    go_enter Try.func76, Try.ntmps76
    go_wp2_with fail
    obtain ⟨w1, hW⟩ : ∃ w1, w1 = w.alloc (Obj.cells #[.slice ao1 xs.length c1, .slice ao2 ys.length c2] 35) := ⟨_, rfl⟩
    obtain ⟨N, hN⟩ : ∃ N, N = w.heap.size := ⟨_, rfl⟩
    have st : Below w.heap.size w w1 ∧ w1.cell? ⟨N, 0, none⟩ = some (.slice ao1 xs.length c1) ∧ w1.cell? ⟨N, 1, none⟩ = some (.slice ao2 ys.length c2) ∧ Rd w1 b1 (.slice ao1 xs.length c1) xs ∧ Rd w1 b2 (.slice ao2 ys.length c2) ys ∧ w.heap.size ≤ w1.heap.size := by
      rw [hW, hN]
      exact ⟨below1 _ _, by simp, by simp, H1.out.keep (below1 _ _) (Nat.le_refl _), H2.out.keep (below1 _ _) (Nat.le_refl _), by simp⟩
    simp only [← hW, ← hN]
    clear hW hN
    go_at_call 159
    refine (implNeigh (rd2_2_0 st)).mono ?_
    rw [HX.out]
    rintro e w2 ⟨rfl, m, hw2⟩
    have HB : Hid (Below w.heap.size w w2) := by rw [hw2]; exact st.1.trans ((FSpec.below_drewN' _ _ _).mono st.1.size)
    clear st hw2
    go_wp2
    go_ret
    exact ⟨rfl, HB.out⟩
  | true =>
    obtain ⟨q, hq⟩ : ∃ q, q = neighB ys := ⟨_, rfl⟩
    have e : lifeB xs ys = q := by simp [lifeB, hx, hq]
    rw [e]
    have HX := hid hx
    have HQ := hid hq
    clear e hx hq
    go_enter Try.func76, Try.ntmps76
    go_wp2_with fail
    obtain ⟨w1, hW⟩ : ∃ w1, w1 = w.alloc (Obj.cells #[.slice ao1 xs.length c1, .slice ao2 ys.length c2] 35) := ⟨_, rfl⟩
    obtain ⟨N, hN⟩ : ∃ N, N = w.heap.size := ⟨_, rfl⟩
    have st : Below w.heap.size w w1 ∧ w1.cell? ⟨N, 0, none⟩ = some (.slice ao1 xs.length c1) ∧ w1.cell? ⟨N, 1, none⟩ = some (.slice ao2 ys.length c2) ∧ Rd w1 b1 (.slice ao1 xs.length c1) xs ∧ Rd w1 b2 (.slice ao2 ys.length c2) ys ∧ w.heap.size ≤ w1.heap.size := by
      rw [hW, hN]
      exact ⟨below1 _ _, by simp, by simp, H1.out.keep (below1 _ _) (Nat.le_refl _), H2.out.keep (below1 _ _) (Nat.le_refl _), by simp⟩
    simp only [← hW, ← hN]
    clear hW hN
    go_at_call 159
    refine (implNeigh (rd2_2_0 st)).mono ?_
    rw [HX.out]
    rintro e w2 ⟨rfl, m, hw2⟩
    have bel : Below w1.heap.size w1 w2 := by rw [hw2]; exact FSpec.below_drewN' _ _ _
    clear hw2
    replace st := next2_2 bel st
    clear bel
    go_wp2_with fail
    go_at_call 159
    refine (implNeigh (rd2_2_1 st)).mono ?_
    rw [← HQ.out]
    rintro e w3 ⟨rfl, m3, hw3⟩
    have HB : Hid (Below w.heap.size w w3) := by rw [hw3]; exact st.1.trans ((FSpec.below_drewN' _ _ _).mono st.1.size)
    clear st hw3
    go_wp2
    go_ret
    exact ⟨rfl, HB.out⟩

end Go.Proofs.Ytonghkooncmjgaa.LVal
