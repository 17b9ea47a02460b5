/- CutField of both sides. -/
import Derived.Test.YthcbhbdgbiiagaaDoorGrow
import Derived.Test.YthcbhbdgbiiagaaDoorCopy
namespace Go.Proofs.YthcbhbdgbiiagaaDoor.FCut
open Go.RowKit Go.Proofs.YthcbhbdgbiiagaaDoor.Rd Go.Proofs.YthcbhbdgbiiagaaDoor.Help Go.Proofs.YthcbhbdgbiiagaaDoor.Ring Go.Proofs.YthcbhbdgbiiagaaDoor.Small Go.Proofs.YthcbhbdgbiiagaaDoor.FVal Go.Proofs.YthcbhbdgbiiagaaDoor.Keep Go.Proofs.YthcbhbdgbiiagaaDoor.Rule Go.Proofs.YthcbhbdgbiiagaaDoor.Grow Go.Proofs.YthcbhbdgbiiagaaDoor.Copy
set_option linter.unusedVariables false
set_option linter.unusedSimpArgs false

/-- A part of x rows and y columns from a row and a column on is within a field. -/
def cutB (R C row col x y : Int) : Bool := decide (0 ≤ row ∧ 0 ≤ col ∧ 1 ≤ x ∧ 1 ≤ y ∧ row + x ≤ R ∧ col + y ≤ C)

set_option maxHeartbeats 1000000 in
theorem has {w : World} {R C row col : Int} (hR : 1 ≤ R ∧ R ≤ 24) (hC : 1 ≤ C ∧ C ≤ 24) :
    Calls Tryd.prog 63 #[shapeV R C, .int .i64 row, .int .i64 col] w fun e w' => e = .returned (.bool (decide (0 ≤ row ∧ row ≤ R - 1) && decide (0 ≤ col ∧ col ≤ C - 1))) ∧ Below w.heap.size w w' := by
  have e0 : IntKind.i64.wrap (R - 1) = R - 1 := by rw [IntKind.wrap_i64]; omega
  have e1 : IntKind.i64.wrap (C - 1) = C - 1 := by rw [IntKind.wrap_i64]; omega
  by_cases h1 : 0 ≤ row ∧ row ≤ R - 1
  · obtain ⟨qq, hq⟩ : ∃ qq, qq = decide (0 ≤ col ∧ col ≤ C - 1) := ⟨_, rfl⟩
    rw [decide_eq_true h1, Bool.true_and, ← hq]
    have H1 : Hid (decide (0 ≤ row ∧ row ≤ R - 1) = true) := decide_eq_true h1
    have HQ := hid hq
    clear hq h1 hR hC
    go_enter Tryd.func63, Tryd.ntmps63
    go_wp2_with fail
    go_at_call 31
    refine isCountB.mono ?_
    rw [H1.out]
    rintro e w' ⟨rfl, rfl⟩
    go_wp2_with fail
    go_at_call 31
    refine isCountB.mono ?_
    rw [← HQ.out]
    rintro e w' ⟨rfl, rfl⟩
    go_wp2
    go_ret
    exact ⟨rfl, below1 _ _⟩
  · rw [decide_eq_false h1, Bool.false_and]
    have H1 : Hid (decide (0 ≤ row ∧ row ≤ R - 1) = false) := decide_eq_false h1
    clear h1 hR hC
    go_enter Tryd.func63, Tryd.ntmps63
    go_wp2_with fail
    go_at_call 31
    refine isCountB.mono ?_
    rw [H1.out]
    rintro e w' ⟨rfl, rfl⟩
    go_wp2
    go_ret
    exact ⟨rfl, below1 _ _⟩

/-- The cells of a part of a field. -/
def cutL (zs : List Int) (C ra rb rc rd : Nat) : List Int := grid rc rd fun i k => zs.getD ((ra + i) * C + (rb + k)) 0

theorem gTrans {w0 w w' : World} {b : Nat} (g : w0.grownBy w (some b)) (h : w.grownBy w' (some b)) : w0.grownBy w' (some b) :=
  ⟨h.os.trans g.os, h.tape.trans g.tape, h.output.trans g.output, Nat.le_trans g.size h.size, fun k hk hne => (h.block k (Nat.lt_of_lt_of_le hk g.size) hne).trans (g.block k hk hne)⟩

end Go.Proofs.YthcbhbdgbiiagaaDoor.FCut
