/- Words of rings: spec.WordsOfRing and impl.WordsOfRing. -/
import Derived.Test.YthcbhbdgbiiagaaNum
import Derived.Test.YthcbhbdgbiiagaaLawKit
namespace Go.Proofs.Ythcbhbdgbiiagaa.Words
open Go.RowKit Go.Proofs.Ythcbhbdgbiiagaa.Rd Go.Proofs.Ythcbhbdgbiiagaa.Help Go.Proofs.Ythcbhbdgbiiagaa.Ring Go.Proofs.Ythcbhbdgbiiagaa.Small Go.Proofs.Ythcbhbdgbiiagaa.Num
set_option linter.unusedVariables false

def bump (cs : List Int) (x : Nat) : List Int := cs.set x (cs.getD x 0 + 1)
def counts (zs : List Int) (st : Int) (L : Nat) : Nat → List Int
  | 0 => List.replicate (st ^ L).toNat 0
  | i + 1 => bump (counts zs st L i) (num zs st i L).toNat
theorem counts_length (zs : List Int) (st : Int) (L i : Nat) : (counts zs st L i).length = (st ^ L).toNat := by
  induction i with
  | zero => simp [counts]
  | succ i ih => simp [counts, bump, ih]
theorem counts_bd (zs : List Int) (st : Int) (L i j : Nat) : 0 ≤ (counts zs st L i).getD j 0 ∧ (counts zs st L i).getD j 0 ≤ i := by
  induction i generalizing j with
  | zero =>
    simp only [counts, List.getD, List.getElem?_replicate]
    split <;> simp
  | succ i ih =>
    simp only [counts, bump]
    have h1 := ih j
    have h2 := ih (num zs st i L).toNat
    simp only [List.getD, List.getElem?_set] at *
    split
    · split
      · simp; omega
      · simp; omega
    · omega

/-- The arguments for which words are counted. -/
def Good (zs : List Int) (st L : Int) : Prop := isRingB zs st = true ∧ 1 ≤ L ∧ L ≤ 4

theorem good_parts {zs : List Int} {st : Int} (h : isRingB zs st = true) : (2 ≤ st ∧ st ≤ 3) ∧ ringB zs st = true ∧ allB zs st = true ∧ (1 ≤ zs.length ∧ zs.length ≤ 64) := by
  simp only [isRingB, ringB, Bool.and_eq_true, decide_eq_true_eq] at h ⊢
  exact ⟨h.1, h.2, h.2.1, h.2.2⟩

theorem not_good {zs : List Int} {st L : Int} (h : ¬ Good zs st L) : isRingB zs st = false ∨ (isRingB zs st = true ∧ L < 1) ∨ (isRingB zs st = true ∧ 4 < L) := by
  cases hr : isRingB zs st with
  | false => exact .inl rfl
  | true =>
    right
    by_cases h1 : L < 1
    · exact .inl ⟨rfl, h1⟩
    · exact .inr ⟨rfl, by have : ¬ (1 ≤ L ∧ L ≤ 4) := fun h2 => h ⟨hr, h2⟩; omega⟩

end Go.Proofs.Ythcbhbdgbiiagaa.Words
