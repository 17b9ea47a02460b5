/- Drawn rings: spec.DrawRing and impl.DrawRing. -/
import Derived.Test.YthcbhbdgbiiagaaApp
import Derived.Test.YthcbhbdgbiiagaaSmall
namespace Go.Proofs.Ythcbhbdgbiiagaa.Draw
open Go.RowKit Go.Proofs.Ythcbhbdgbiiagaa.Rd Go.Proofs.Ythcbhbdgbiiagaa.Help Go.Proofs.Ythcbhbdgbiiagaa.App Go.Proofs.Ythcbhbdgbiiagaa.Small
set_option linter.unusedVariables false

def nxt (s : Int) : Int := (1664525 * s + 1013904223) % 4294967296
def seedAt (s : Int) : Nat → Int
  | 0 => s
  | k + 1 => nxt (seedAt s k)
def cellAt (st s : Int) (k : Nat) : Int := seedAt s (k + 1) * st / 4294967296
def cells (st s : Int) (n : Nat) : List Int := (List.range n).map (cellAt st s)

theorem nxt_bd (s : Int) : 0 ≤ nxt s ∧ nxt s ≤ 4294967295 := by unfold nxt; omega
theorem seedAt_bd (s : Int) (h : 0 ≤ s ∧ s ≤ 4294967295) (k : Nat) : 0 ≤ seedAt s k ∧ seedAt s k ≤ 4294967295 := by
  cases k with
  | zero => exact h
  | succ k => exact nxt_bd _
theorem cells_length (st s : Int) (n : Nat) : (cells st s n).length = n := by simp [cells]
theorem cells_succ (st s : Int) (k : Nat) : cells st s (k + 1) = cells st s k ++ [cellAt st s k] := by simp [cells, List.range_succ]

theorem ret_int {k : IntKind} {a b : Int} (h : a = b) : (Value.int k a) = .int k b := by rw [h]

theorem cell_eq {st s S : Int} {k : Nat} (h : 2 ≤ st ∧ st ≤ 3) (hS : S = seedAt s k) : wrap64 ((wrap64 (nxt S * st)).tdiv 4294967296) = cellAt st s k := by
  have hb := nxt_bd S
  have hm : nxt S * st = nxt S * 2 ∨ nxt S * st = nxt S * 3 := by
    rcases (show st = 2 ∨ st = 3 by omega) with rfl | rfl
    · exact .inl rfl
    · exact .inr rfl
  have w1 : wrap64 (nxt S * st) = nxt S * st := by
    rcases hm with h | h <;> rw [h] <;> exact wrap_id (by omega) (by omega)
  rw [w1, Int.tdiv_eq_ediv_of_nonneg (by rcases hm with h | h <;> rw [h] <;> omega)]
  have w2 : wrap64 (nxt S * st / 4294967296) = nxt S * st / 4294967296 := by
    rcases hm with h | h <;> rw [h] <;> exact wrap_id (by omega) (by omega)
  rw [w2, hS]
  rfl

/-- The arguments with which rings are drawn. -/
def Good (st n s : Int) : Prop := (2 ≤ st ∧ st ≤ 3) ∧ (1 ≤ n ∧ n ≤ 64) ∧ (0 ≤ s ∧ s ≤ 4294967295)

theorem part_set (st s : Int) (N k : Nat) (h : k < N) : (cells st s k ++ List.replicate (N - k) 0).set k (cellAt st s k) = cells st s (k + 1) ++ List.replicate (N - (k + 1)) 0 := by
  have e : N - k = (N - (k + 1)) + 1 := by omega
  rw [e, List.replicate_succ, List.set_append_right _ _ (by rw [cells_length]; omega), cells_length, Nat.sub_self, List.set_cons_zero, cells_succ, List.append_assoc]
  rfl

set_option maxHeartbeats 1000000 in
theorem implOk {w : World} {st s : Int} {N : Nat} (h : Good st N s) :
    Calls Try.prog 82 #[.int .i64 st, .int .i64 N, .int .i64 s] w fun e w' => ∃ v b, e = .returned (.tuple #[v, .int .i64 (seedAt s N), .bool true]) ∧
      Own 2 w' b v (cells st s N) ∧ w.heap.size ≤ b ∧ Below w.heap.size w w' := by
  obtain ⟨⟨a1, a2⟩, ⟨b1, b2⟩, c1, c2⟩ := h
  have HS : Hid (∀ k, 0 ≤ seedAt s k ∧ seedAt s k ≤ 4294967295) := seedAt_bd s ⟨c1, c2⟩
  have ht : decide (2 ≤ st ∧ st ≤ 3) = true := by simp; omega
  have ht2 : decide (0 ≤ s ∧ s ≤ 4294967295) = true := by simp; omega
  have hmk := run_make_row' (P := Try.prog) 22 2 (.int .i64 0) 8 Try.underlying22 infoI rfl .i64 .i64 N (by omega) (by omega)
  have HT : Hid (decide (2 ≤ st ∧ st ≤ 3) = true) := ht
  have HT2 : Hid (decide (0 ≤ s ∧ s ≤ 4294967295) = true) := ht2
  clear ht ht2
  go_enter Try.func82, Try.ntmps82
  go_wp2_with fail
  go_at_call 106
  refine isStatesB.mono ?_
  rw [HT.out]
  rintro e w' ⟨rfl, rfl⟩
  go_wp2_with (first | (go_at_call 58; refine isCountB.mono ?_; rw [HT2.out]; rintro e w' ⟨rfl, rfl⟩) | (go_at_call 75; go_in))
  go_loopw [2, 10, 31] (fun q j t wr => ∃ k : Nat, k ≤ N ∧ t = .int .i64 k ∧ q = .int .i64 (seedAt s k) ∧ Own 2 wr w.heap.size (.slice (some ⟨w.heap.size, 0, none⟩) N N) (cells st s k ++ List.replicate (N - k) 0) ∧ Below w.heap.size w wr) (fun _ _ t _ => N - (intOf t).toNat)
  case atStart => exact ⟨0, Nat.zero_le _, rfl, rfl, by simpa [cells] using Own.made 2 w N (by unfold maxLen; omega), (Below.refl _ _).alloc (Nat.le_refl _) _⟩
  case round =>
    obtain ⟨k, hk, rfl, rfl, hown, hbel⟩ := hrel
    obtain ⟨S, hS⟩ : ∃ S, S = seedAt s k := ⟨_, rfl⟩
    have hbd := HS.out k
    rw [← hS] at hbd ⊢
    obtain ⟨d1, d2⟩ := hbd
    have HSS : Hid (S = seedAt s k) := hS
    clear hS
    by_cases hlt : k < N
    · have e1 : (1664525 * S + 1013904223).tmod 4294967296 = nxt S := by unfold nxt; rw [Int.tmod_eq_emod_of_nonneg (by omega)]
      have n1 := nxt_bd S
      obtain ⟨n2, n3⟩ := n1
      have HY : Hid (wrap64 ((wrap64 (nxt S * st)).tdiv 4294967296) = cellAt st s k) := cell_eq ⟨a1, a2⟩ HSS.out
      have hlen : (cells st s k ++ List.replicate (N - k) 0).length = N := by simp [cells_length]; omega
      have hox := hown.cell (i := k) (by omega)
      have hof := hown.free k
      have HO : Hid (Own 2 wr w.heap.size (.slice (some ⟨w.heap.size, 0, none⟩) N N) (cells st s k ++ List.replicate (N - k) 0)) := hown
      have HB : Hid (Below w.heap.size w wr) := hbel
      clear hown hbel hlen
      go_wp2
      go_roundw
      case rel =>
        refine ⟨k + 1, by omega, by go_num, by rw [HSS.out]; rfl, ?_, HB.out.setCell (Nat.le_refl _) _⟩
        have h1 := HO.out.set k (cellAt st s k)
        rw [part_set st s N k hlt, ← HY.out] at h1
        exact h1
      case measure => simp [intOf]; omega
    · have hkn : N = k := by omega
      subst hkn
      go_wp2
      go_ret3
      have ho : Own 2 wr w.heap.size (.slice (some ⟨w.heap.size, 0, none⟩) N N) (cells st s N) := by simpa using hown
      exact ⟨_, w.heap.size, by rw [HSS.out]; rfl, ho, Nat.le_refl _, hbel⟩

set_option maxHeartbeats 1000000 in
theorem implNo {w : World} {st n s : Int} (h : ¬ Good st n s) :
    Calls Try.prog 82 #[.int .i64 st, .int .i64 n, .int .i64 s] w fun e w' => e = .returned (.tuple #[.slice none 0 0, .int .i64 0, .bool false]) ∧ w = w' := by
  by_cases h1 : 2 ≤ st ∧ st ≤ 3
  · have H1 : Hid (decide (2 ≤ st ∧ st ≤ 3) = true) := decide_eq_true h1
    by_cases h2 : n < 1
    · clear h h1
      have q1 : decide (n < 1) = true := by simp; omega
      go_enter Try.func82, Try.ntmps82
      go_wp2_with fail
      go_at_call 106
      refine isStatesB.mono ?_
      rw [H1.out]
      rintro e w' ⟨rfl, rfl⟩
      go_wp2
      go_ret3
      exact ⟨rfl, rfl⟩
    · have q1 : decide (n < 1) = false := by simp; omega
      by_cases h3 : 64 < n
      · clear h h1
        have q2 : decide (64 < n) = true := by simp; omega
        go_enter Try.func82, Try.ntmps82
        go_wp2_with fail
        go_at_call 106
        refine isStatesB.mono ?_
        rw [H1.out]
        rintro e w' ⟨rfl, rfl⟩
        go_wp2
        go_ret3
        exact ⟨rfl, rfl⟩
      · have q2 : decide (64 < n) = false := by simp; omega
        have H4 : Hid (decide (0 ≤ s ∧ s ≤ 4294967295) = false) := decide_eq_false (fun h4 => h ⟨h1, ⟨by omega, by omega⟩, h4⟩)
        clear h h1
        go_enter Try.func82, Try.ntmps82
        go_wp2_with fail
        go_at_call 106
        refine isStatesB.mono ?_
        rw [H1.out]
        rintro e w' ⟨rfl, rfl⟩
        go_wp2_with (first | (go_at_call 58; refine isCountB.mono ?_; rw [H4.out]; rintro e w' ⟨rfl, rfl⟩) | (go_at_call 75; go_in))
        go_ret3
        exact ⟨rfl, rfl⟩
  · have H1 : Hid (decide (2 ≤ st ∧ st ≤ 3) = false) := decide_eq_false h1
    clear h h1
    go_enter Try.func82, Try.ntmps82
    go_wp2_with fail
    go_at_call 106
    refine isStatesB.mono ?_
    rw [H1.out]
    rintro e w' ⟨rfl, rfl⟩
    go_wp2
    go_ret3
    exact ⟨rfl, rfl⟩

end Go.Proofs.Ythcbhbdgbiiagaa.Draw
