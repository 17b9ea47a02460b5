/- spec.l04Round: the place of a cell, round and round. -/
import Derived.Test.YthcbhbdgbiiagaaRound
import Derived.Test.YthcbhbdgbiiagaaGrow
namespace Go.Proofs.Ythcbhbdgbiiagaa.Rnd
open Go.RowKit Go.Proofs.Ythcbhbdgbiiagaa.Rd Go.Proofs.Ythcbhbdgbiiagaa.Help Go.Proofs.Ythcbhbdgbiiagaa.Small Go.Proofs.Ythcbhbdgbiiagaa.Round
set_option linter.unusedVariables false
set_option linter.unusedSimpArgs false

theorem rnd_lt (x : Int) {n : Nat} (hn : 1 ≤ n) : ((x % (n : Int)).toNat : Int) = x % (n : Int) ∧ (x % (n : Int)).toNat < n := by
  have h1 := Int.emod_nonneg x (show (n : Int) ≠ 0 by omega)
  have h2 := Int.emod_lt_of_pos x (show (0 : Int) < (n : Int) by omega)
  omega
theorem rem_facts (x : Int) {n : Nat} (hx : -1000000 ≤ x ∧ x ≤ 1000000) (hn : 1 ≤ n ∧ n ≤ 1000) :
    (wrap64 ((x.tmod n) + n)).tmod n = ((x % (n : Int)).toNat : Int) ∧ IntKind.i64.wrap (x.tmod n) = x.tmod n ∧ IntKind.i64.wrap (x.tmod n + n) = x.tmod n + n ∧ (x.tmod n + n).tmod n = ((x % (n : Int)).toNat : Int) ∧ IntKind.i64.wrap ((x % (n : Int)).toNat : Int) = ((x % (n : Int)).toNat : Int) := by
  have g1 := Int.tmod_lt_of_pos x (show (0 : Int) < n by omega)
  have g2 : -(n : Int) < x.tmod n := Int.lt_tmod_of_pos x (by omega)
  have e : (x.tmod n + n).tmod n = ((x % (n : Int)).toNat : Int) := by
    rw [(rnd_lt x hn.1).1, Int.tmod_eq_emod_of_nonneg (by omega)]
    exact start_round x n (by omega)
  have r := rnd_lt x hn.1
  refine ⟨?_, ?_, ?_, e, ?_⟩
  · rw [wrap_id (by omega) (by omega)]; exact e
  · rw [IntKind.wrap_i64]; omega
  · rw [IntKind.wrap_i64]; omega
  · rw [IntKind.wrap_i64]; omega

set_option maxHeartbeats 1000000 in
theorem l04Round {w : World} {g R C : Nat} {x y : Int} (c0 : w.cell? ⟨g, 0, none⟩ = some (.int .i64 R)) (c1 : w.cell? ⟨g, 1, none⟩ = some (.int .i64 C)) (hR : 1 ≤ R ∧ R ≤ 24) (hC : 1 ≤ C ∧ C ≤ 24) (hx : -1000000 ≤ x ∧ x ≤ 1000000) (hy : -1000000 ≤ y ∧ y ≤ 1000000) :
    Calls Try.prog 123 #[.pointer (some ⟨g, 0, none⟩), .int .i64 x, .int .i64 y] w fun e w' => e = .returned (.int .i64 (((x % (R : Int)).toNat * C + (y % (C : Int)).toNat : Nat))) ∧ ∃ m, w' = w.drewN m := by
  obtain ⟨x1, x2, x3, x4, x5⟩ := rem_facts x (n := R) hx (by omega)
  obtain ⟨y1, y2, y3, y4, y5⟩ := rem_facts y (n := C) hy (by omega)
  have r1 := rnd_lt x hR.1
  have r2 := rnd_lt y hC.1
  obtain ⟨X, hX⟩ : ∃ X, X = (x % (R : Int)).toNat := ⟨_, rfl⟩
  obtain ⟨Y, hY⟩ : ∃ Y, Y = (y % (C : Int)).toNat := ⟨_, rfl⟩
  rw [← hX] at x1 x4 x5 r1 ⊢
  rw [← hY] at y1 y4 y5 r2 ⊢
  have hb : X * C + Y < R * C := Grow.pos_bd r1.2 r2.2
  have hb2 : R * C ≤ 24 * 24 := Nat.mul_le_mul (by omega) (by omega)
  obtain ⟨e1, e2⟩ := Grow.wrap_pos (i := X) (C := C) (k := Y) (by omega)
  have hz : wrap64 ((X : Int) * (C : Int) + (Y : Int)) = ((X * C + Y : Nat) : Int) := by
    have hm : ((X * C : Nat) : Int) = (X : Int) * C := by simp
    rw [← hm, wrap_id (by omega) (by omega)]; simp
  have n0 : ¬ (R : Int) = 0 := by omega
  have n1 : ¬ (C : Int) = 0 := by omega
  clear r1 r2 hX hY hb hb2 hR hC hx hy
  go_enter Try.func123, Try.ntmps123
  go_wp2_with fail
  go_quiet (fail)
  go_wp2_with fail
  go_quiet (fail)
  go_wp2
  go_ret
  exact ⟨congrArg (fun x => Ending.returned (.int .i64 x)) hz, _, rfl⟩

end Go.Proofs.Ythcbhbdgbiiagaa.Rnd
