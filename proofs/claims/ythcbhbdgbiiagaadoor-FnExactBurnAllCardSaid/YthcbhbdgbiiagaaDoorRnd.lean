/- spec.l04Round: the place of a cell, round and round. -/
import Derived.Test.YthcbhbdgbiiagaaDoorRound
import Derived.Test.YthcbhbdgbiiagaaDoorGrow
namespace Go.Proofs.YthcbhbdgbiiagaaDoor.Rnd
open Go.RowKit Go.Proofs.YthcbhbdgbiiagaaDoor.Rd Go.Proofs.YthcbhbdgbiiagaaDoor.Help Go.Proofs.YthcbhbdgbiiagaaDoor.Small Go.Proofs.YthcbhbdgbiiagaaDoor.Round
set_option linter.unusedVariables false
set_option linter.unusedSimpArgs false

theorem rnd_lt (x : Int) {n : Nat} (hn : 1 ≤ n) : ((x % (n : Int)).toNat : Int) = x % (n : Int) ∧ (x % (n : Int)).toNat < n := by
  have h1 := Int.emod_nonneg x (show (n : Int) ≠ 0 by omega)
  have h2 := Int.emod_lt_of_pos x (show (0 : Int) < (n : Int) by omega)
  omega
theorem rem_facts (x : Int) {n : Nat} (hx : -1000000 ≤ x ∧ x ≤ 1000000) (hn : 1 ≤ n ∧ n ≤ 1000) :
    (wrap64 ((x.tmod n) + n)).tmod n = ((x % (n : Int)).toNat : Int) ∧ IntKind.i64.wrap (x.tmod n) = x.tmod n ∧ IntKind.i64.wrap (x.tmod n + n) = x.tmod n + n ∧ (x.tmod n + n).tmod n = ((x % (n : Int)).toNat : Int) ∧ IntKind.i64.wrap ((x % (n : Int)).toNat : Int) = ((x % (n : Int)).toNat : Int) := by
  have g1 := Int.tmod_lt_of_pos x (show (0 : Int) < n by omega)
  have g2 : -(n : Int) < x.tmod n := Int.lt_tmod_of_pos x (by omega)
  have e : (x.tmod n + n).tmod n = ((x % (n : Int)).toNat : Int) := by
    rw [(rnd_lt x hn.1).1, Int.tmod_eq_emod_of_nonneg (by omega)]
    exact start_round x n (by omega)
  have r := rnd_lt x hn.1
  refine ⟨?_, ?_, ?_, e, ?_⟩
  · rw [wrap_id (by omega) (by omega)]; exact e
  · rw [IntKind.wrap_i64]; omega
  · rw [IntKind.wrap_i64]; omega
  · rw [IntKind.wrap_i64]; omega

end Go.Proofs.YthcbhbdgbiiagaaDoor.Rnd
