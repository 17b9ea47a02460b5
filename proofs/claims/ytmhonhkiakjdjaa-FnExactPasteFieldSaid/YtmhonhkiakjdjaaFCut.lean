/- CutField of both sides. -/
import Derived.Test.YtmhonhkiakjdjaaGrow
import Derived.Test.YtmhonhkiakjdjaaCopy
namespace Go.Proofs.Ytmhonhkiakjdjaa.FCut
open Go.RowKit Go.Proofs.Ytmhonhkiakjdjaa.Rd Go.Proofs.Ytmhonhkiakjdjaa.Help Go.Proofs.Ytmhonhkiakjdjaa.Ring Go.Proofs.Ytmhonhkiakjdjaa.Small Go.Proofs.Ytmhonhkiakjdjaa.FVal Go.Proofs.Ytmhonhkiakjdjaa.Keep Go.Proofs.Ytmhonhkiakjdjaa.Rule Go.Proofs.Ytmhonhkiakjdjaa.Grow Go.Proofs.Ytmhonhkiakjdjaa.Copy
set_option linter.unusedVariables false
set_option linter.unusedSimpArgs false

/-- A part of x rows and y columns from a row and a column on is within a field. -/
def cutB (R C row col x y : Int) : Bool := decide (0 ≤ row ∧ 0 ≤ col ∧ 1 ≤ x ∧ 1 ≤ y ∧ row + x ≤ R ∧ col + y ≤ C)

set_option maxHeartbeats 2000000 in
theorem within {w : World} {g : Nat} {R C row col x y : Int} (c0 : w.cell? ⟨g, 0, none⟩ = some (.int .i64 R)) (c1 : w.cell? ⟨g, 1, none⟩ = some (.int .i64 C)) (hR : 1 ≤ R ∧ R ≤ 24) (hC : 1 ≤ C ∧ C ≤ 24) :
    Calls Try.prog 39 #[.pointer (some ⟨g, 0, none⟩), .int .i64 row, .int .i64 col, .int .i64 x, .int .i64 y] w fun e w' => e = .returned (.bool (cutB R C row col x y)) ∧ w = w' := by
  cases hs : sidesB x y with
  | false =>
    have e : cutB R C row col x y = false := by
      simp only [sidesB, decide_eq_false_iff_not] at hs
      exact decide_eq_false (fun h => hs (by omega))
    rw [e]
    have HS := hid hs
    clear e hs
    go_enter Try.func39, Try.ntmps39
    go_wp2_with fail
    go_at_call 66
    refine FSpec.l04Sides.mono ?_
    rw [HS.out]
    rintro e w' ⟨rfl, rfl⟩
    go_wp2
    go_ret
    exact ⟨rfl, rfl⟩
  | true =>
    have hb : (1 ≤ x ∧ x ≤ 24) ∧ 1 ≤ y ∧ y ≤ 24 := by simp [sidesB] at hs; omega
    have e0 : IntKind.i64.wrap (R - x) = R - x := by rw [IntKind.wrap_i64]; omega
    have e1 : IntKind.i64.wrap (C - y) = C - y := by rw [IntKind.wrap_i64]; omega
    have HS := hid hs
    by_cases h1 : 0 ≤ row ∧ row ≤ R - x
    · obtain ⟨qq, hq⟩ : ∃ qq, qq = decide (0 ≤ col ∧ col ≤ C - y) := ⟨_, rfl⟩
      have e : cutB R C row col x y = qq := by rw [hq]; exact decide_eq_decide.2 (by omega)
      rw [e]
      have H1 : Hid (decide (0 ≤ row ∧ row ≤ R - x) = true) := decide_eq_true h1
      have HQ := hid hq
      clear e hs hq h1 hR hC hb
      go_enter Try.func39, Try.ntmps39
      go_wp2_with fail
      go_at_call 66
      refine FSpec.l04Sides.mono ?_
      rw [HS.out]
      rintro e w' ⟨rfl, rfl⟩
      go_wp2_with fail
      go_at_call 51
      refine inB.mono ?_
      rw [H1.out]
      rintro e w' ⟨rfl, rfl⟩
      go_wp2_with fail
      go_at_call 51
      refine inB.mono ?_
      rw [← HQ.out]
      rintro e w' ⟨rfl, rfl⟩
      go_wp2
      go_ret
      exact ⟨rfl, rfl⟩
    · have e : cutB R C row col x y = false := decide_eq_false (fun h => h1 (by omega))
      rw [e]
      have H1 : Hid (decide (0 ≤ row ∧ row ≤ R - x) = false) := decide_eq_false h1
      clear e hs h1 hR hC hb
      go_enter Try.func39, Try.ntmps39
      go_wp2_with fail
      go_at_call 66
      refine FSpec.l04Sides.mono ?_
      rw [HS.out]
      rintro e w' ⟨rfl, rfl⟩
      go_wp2_with fail
      go_at_call 51
      refine inB.mono ?_
      rw [H1.out]
      rintro e w' ⟨rfl, rfl⟩
      go_wp2
      go_ret
      exact ⟨rfl, rfl⟩

set_option maxHeartbeats 1000000 in
theorem has {w : World} {R C row col : Int} (hR : 1 ≤ R ∧ R ≤ 24) (hC : 1 ≤ C ∧ C ≤ 24) :
    Calls Try.prog 70 #[shapeV R C, .int .i64 row, .int .i64 col] w fun e w' => e = .returned (.bool (decide (0 ≤ row ∧ row ≤ R - 1) && decide (0 ≤ col ∧ col ≤ C - 1))) ∧ Below w.heap.size w w' := by
  have e0 : IntKind.i64.wrap (R - 1) = R - 1 := by rw [IntKind.wrap_i64]; omega
  have e1 : IntKind.i64.wrap (C - 1) = C - 1 := by rw [IntKind.wrap_i64]; omega
  by_cases h1 : 0 ≤ row ∧ row ≤ R - 1
  · obtain ⟨qq, hq⟩ : ∃ qq, qq = decide (0 ≤ col ∧ col ≤ C - 1) := ⟨_, rfl⟩
    rw [decide_eq_true h1, Bool.true_and, ← hq]
    have H1 : Hid (decide (0 ≤ row ∧ row ≤ R - 1) = true) := decide_eq_true h1
    have HQ := hid hq
    clear hq h1 hR hC
    go_enter Try.func70, Try.ntmps70
    go_wp2_with fail
    go_at_call 53
    refine isCountB.mono ?_
    rw [H1.out]
    rintro e w' ⟨rfl, rfl⟩
    go_wp2_with fail
    go_at_call 53
    refine isCountB.mono ?_
    rw [← HQ.out]
    rintro e w' ⟨rfl, rfl⟩
    go_wp2
    go_ret
    exact ⟨rfl, below1 _ _⟩
  · rw [decide_eq_false h1, Bool.false_and]
    have H1 : Hid (decide (0 ≤ row ∧ row ≤ R - 1) = false) := decide_eq_false h1
    clear h1 hR hC
    go_enter Try.func70, Try.ntmps70
    go_wp2_with fail
    go_at_call 53
    refine isCountB.mono ?_
    rw [H1.out]
    rintro e w' ⟨rfl, rfl⟩
    go_wp2
    go_ret
    exact ⟨rfl, below1 _ _⟩

set_option maxHeartbeats 2000000 in
theorem isWithin {w : World} {R C row col x y : Int} {ao : Option Addr} {n cap : Nat} (hR : 1 ≤ R ∧ R ≤ 24) (hC : 1 ≤ C ∧ C ≤ 24) :
    Calls Try.prog 42 #[ruleV R C (.slice ao n cap), .int .i64 row, .int .i64 col, shapeV x y] w fun e w' => e = .returned (.bool (cutB R C row col x y)) ∧ Below w.heap.size w w' := by
  have HR := hid hR
  have HC := hid hC
  by_cases hh : (0 ≤ row ∧ row ≤ R - 1) ∧ 0 ≤ col ∧ col ≤ C - 1
  · have HH : Hid ((decide (0 ≤ row ∧ row ≤ R - 1) && decide (0 ≤ col ∧ col ≤ C - 1)) = true) := by simp only [Hid]; rw [decide_eq_true hh.1, decide_eq_true hh.2]; rfl
    have e0 : IntKind.i64.wrap (R - row) = R - row := by rw [IntKind.wrap_i64]; omega
    have e1 : IntKind.i64.wrap (C - col) = C - col := by rw [IntKind.wrap_i64]; omega
    by_cases h1 : 1 ≤ x ∧ x ≤ R - row
    · obtain ⟨qq, hq⟩ : ∃ qq, qq = decide (1 ≤ y ∧ y ≤ C - col) := ⟨_, rfl⟩
      have e : cutB R C row col x y = qq := by rw [hq]; exact decide_eq_decide.2 (by omega)
      rw [e]
      have H1 : Hid (decide (1 ≤ x ∧ x ≤ R - row) = true) := decide_eq_true h1
      have HQ := hid hq
      clear e hh hq h1 hR hC
      go_enter Try.func42, Try.ntmps42
      go_wp2_with fail
      obtain ⟨w1, hW⟩ : ∃ w1, w1 = (w.alloc (Obj.cells #[.int .i64 R, .int .i64 C, .slice ao n cap] 26)).alloc (Obj.cells #[.int .i64 x, .int .i64 y] 61) := ⟨_, rfl⟩
      obtain ⟨N, hN⟩ : ∃ N, N = w.heap.size := ⟨_, rfl⟩
      obtain ⟨M, hM⟩ : ∃ M, M = N + 1 := ⟨_, rfl⟩
      have st : Below w.heap.size w w1 ∧ w1.cell? ⟨N, 0, none⟩ = some (.int .i64 R) ∧ w1.cell? ⟨N, 1, none⟩ = some (.int .i64 C) ∧ w1.cell? ⟨M, 0, none⟩ = some (.int .i64 x) ∧ w1.cell? ⟨M, 1, none⟩ = some (.int .i64 y) ∧ w.heap.size ≤ w1.heap.size := by
        rw [hW, hM, hN]
        exact ⟨Go.Joins.below_alloc2 _ _ _, by simp, by simp, by simp, by simp, by simp; omega⟩
      simp only [← hW, ← hN, ← hM]
      clear hW hN hM
      go_at_call 43
      refine extentOf.mono ?_
      rintro e w2 ⟨rfl, bel⟩
      replace st := next4_0 bel st
      clear bel
      go_wp2_with fail
      go_at_call 70
      refine (has HR.out HC.out).mono ?_
      rw [HH.out]
      rintro e w3 ⟨rfl, bel⟩
      replace st := next4_0 bel st
      clear bel
      go_wp2_with fail
      go_at_call 71
      refine isFromB.mono ?_
      rw [H1.out]
      rintro e w' ⟨rfl, rfl⟩
      go_wp2_with fail
      go_at_call 71
      refine isFromB.mono ?_
      rw [← HQ.out]
      rintro e w' ⟨rfl, rfl⟩
      go_wp2
      go_ret
      exact ⟨rfl, st.1⟩
    · have e : cutB R C row col x y = false := decide_eq_false (fun h => h1 (by omega))
      rw [e]
      have H1 : Hid (decide (1 ≤ x ∧ x ≤ R - row) = false) := decide_eq_false h1
      clear e hh h1 hR hC
      go_enter Try.func42, Try.ntmps42
      go_wp2_with fail
      obtain ⟨w1, hW⟩ : ∃ w1, w1 = (w.alloc (Obj.cells #[.int .i64 R, .int .i64 C, .slice ao n cap] 26)).alloc (Obj.cells #[.int .i64 x, .int .i64 y] 61) := ⟨_, rfl⟩
      obtain ⟨N, hN⟩ : ∃ N, N = w.heap.size := ⟨_, rfl⟩
      obtain ⟨M, hM⟩ : ∃ M, M = N + 1 := ⟨_, rfl⟩
      have st : Below w.heap.size w w1 ∧ w1.cell? ⟨N, 0, none⟩ = some (.int .i64 R) ∧ w1.cell? ⟨N, 1, none⟩ = some (.int .i64 C) ∧ w1.cell? ⟨M, 0, none⟩ = some (.int .i64 x) ∧ w1.cell? ⟨M, 1, none⟩ = some (.int .i64 y) ∧ w.heap.size ≤ w1.heap.size := by
        rw [hW, hM, hN]
        exact ⟨Go.Joins.below_alloc2 _ _ _, by simp, by simp, by simp, by simp, by simp; omega⟩
      simp only [← hW, ← hN, ← hM]
      clear hW hN hM
      go_at_call 43
      refine extentOf.mono ?_
      rintro e w2 ⟨rfl, bel⟩
      replace st := next4_0 bel st
      clear bel
      go_wp2_with fail
      go_at_call 70
      refine (has HR.out HC.out).mono ?_
      rw [HH.out]
      rintro e w3 ⟨rfl, bel⟩
      replace st := next4_0 bel st
      clear bel
      go_wp2_with fail
      go_at_call 71
      refine isFromB.mono ?_
      rw [H1.out]
      rintro e w' ⟨rfl, rfl⟩
      go_wp2
      go_ret
      exact ⟨rfl, st.1⟩
  · have e : cutB R C row col x y = false := decide_eq_false (fun h => hh (by omega))
    rw [e]
    have HH : Hid ((decide (0 ≤ row ∧ row ≤ R - 1) && decide (0 ≤ col ∧ col ≤ C - 1)) = false) := by
      simp only [Hid]
      by_cases k : 0 ≤ row ∧ row ≤ R - 1
      · rw [decide_eq_false (fun h => hh ⟨k, h⟩), Bool.and_false]
      · rw [decide_eq_false k, Bool.false_and]
    clear e hh hR hC
    go_enter Try.func42, Try.ntmps42
    go_wp2_with fail
    obtain ⟨w1, hW⟩ : ∃ w1, w1 = (w.alloc (Obj.cells #[.int .i64 R, .int .i64 C, .slice ao n cap] 26)).alloc (Obj.cells #[.int .i64 x, .int .i64 y] 61) := ⟨_, rfl⟩
    obtain ⟨N, hN⟩ : ∃ N, N = w.heap.size := ⟨_, rfl⟩
    obtain ⟨M, hM⟩ : ∃ M, M = N + 1 := ⟨_, rfl⟩
    have st : Below w.heap.size w w1 ∧ w1.cell? ⟨N, 0, none⟩ = some (.int .i64 R) ∧ w1.cell? ⟨N, 1, none⟩ = some (.int .i64 C) ∧ w1.cell? ⟨M, 0, none⟩ = some (.int .i64 x) ∧ w1.cell? ⟨M, 1, none⟩ = some (.int .i64 y) ∧ w.heap.size ≤ w1.heap.size := by
      rw [hW, hM, hN]
      exact ⟨Go.Joins.below_alloc2 _ _ _, by simp, by simp, by simp, by simp, by simp; omega⟩
    simp only [← hW, ← hN, ← hM]
    clear hW hN hM
    go_at_call 43
    refine extentOf.mono ?_
    rintro e w2 ⟨rfl, bel⟩
    replace st := next4_0 bel st
    clear bel
    go_wp2_with fail
    go_at_call 70
    refine (has HR.out HC.out).mono ?_
    rw [HH.out]
    rintro e w3 ⟨rfl, bel⟩
    replace st := next4_0 bel st
    clear bel
    go_wp2
    go_ret
    exact ⟨rfl, st.1⟩

/-- The cells of a part of a field. -/
def cutL (zs : List Int) (C ra rb rc rd : Nat) : List Int := grid rc rd fun i k => zs.getD ((ra + i) * C + (rb + k)) 0

theorem gTrans {w0 w w' : World} {b : Nat} (g : w0.grownBy w (some b)) (h : w.grownBy w' (some b)) : w0.grownBy w' (some b) :=
  ⟨h.os.trans g.os, h.tape.trans g.tape, h.output.trans g.output, Nat.le_trans g.size h.size, fun k hk hne => (h.block k (Nat.lt_of_lt_of_le hk g.size) hne).trans (g.block k hk hne)⟩

end Go.Proofs.Ytmhonhkiakjdjaa.FCut
