/- Fields with equal sides, and in how many cells they differ: both sides. -/
import Derived.Test.YtmbimekndhcgaaaFldKit
import Derived.Test.YtmbimekndhcgaaaFSpec
namespace Go.Proofs.Ytmbimekndhcgaaa.Apart
open Go.RowKit Go.Proofs.Ytmbimekndhcgaaa.Rd Go.Proofs.Ytmbimekndhcgaaa.Help Go.Proofs.Ytmbimekndhcgaaa.Ring Go.Proofs.Ytmbimekndhcgaaa.Small Go.Proofs.Ytmbimekndhcgaaa.FVal Go.Proofs.Ytmbimekndhcgaaa.Keep Go.Proofs.Ytmbimekndhcgaaa.Rule
set_option linter.unusedVariables false
set_option linter.unusedSimpArgs false

/-- In how many of the first k cells two lists differ. -/
def differ (xs ys : List Int) : Nat → Int
  | 0 => 0
  | k + 1 => if xs.getD k 0 = ys.getD k 0 then differ xs ys k else differ xs ys k + 1
theorem differ_bd (xs ys : List Int) (k : Nat) : 0 ≤ differ xs ys k ∧ differ xs ys k ≤ k := by
  induction k with
  | zero => simp [differ]
  | succ k ih => simp only [differ]; split <;> omega

/-- Both fields are valid, and their sides are equal. -/
def twoB (s r : Int) (xs : List Int) (s' r' : Int) (ys : List Int) : Bool := fieldB s r xs && (fieldB s' r' ys && decide (s = s' ∧ r = r'))

theorem isQ {w : World} {g : Nat} {s r : Int} {b : Nat} {v : Value} {zs : List Int} {q : Bool} (h : Rd w b v zs) (c0 : w.cell? ⟨g, 0, none⟩ = some (.int .i64 s)) (c1 : w.cell? ⟨g, 1, none⟩ = some (.int .i64 r)) (c2 : w.cell? ⟨g, 2, none⟩ = some v) (hq : fieldB s r zs = q) :
    Calls Try.prog 43 #[.pointer (some ⟨g, 0, none⟩)] w fun e w' => e = .returned (.bool q) ∧ ∃ m, w' = w.drewN m := by
  rw [← hq]; exact FSpec.is h c0 c1 c2
theorem validQ {w : World} {s r : Int} {b : Nat} {v : Value} {zs : List Int} {q : Bool} (h : Rd w b v zs) (hq : fieldB s r zs = q) :
    Calls Try.prog 46 #[ruleV s r v] w fun e w' => e = .returned (.bool q) ∧ Below w.heap.size w w' := by
  rw [← hq]; exact implValid h

/-- What twoB tells. -/
theorem two_parts {s r s' r' : Int} {xs ys : List Int} (h : twoB s r xs s' r' ys = true) : xs.length = ys.length ∧ xs.length ≤ 576 := by
  simp only [twoB, fieldB, Bool.and_eq_true, decide_eq_true_eq] at h
  obtain ⟨⟨hs, hx, _⟩, ⟨_, hy, _⟩, rfl, rfl⟩ := h
  have hb : (1 ≤ s ∧ s ≤ 24) ∧ 1 ≤ r ∧ r ≤ 24 := by simp [sidesB] at hs; omega
  have := prod_bd hb.1 hb.2
  omega

end Go.Proofs.Ytmbimekndhcgaaa.Apart
