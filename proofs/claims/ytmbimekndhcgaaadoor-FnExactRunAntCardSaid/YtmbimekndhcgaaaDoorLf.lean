/- Neighbours of a cell: what a step of a life counts (the model's side). -/
import Derived.Test.YtmbimekndhcgaaaDoorGrow
import Derived.Test.YtmbimekndhcgaaaDoorRnd
namespace Go.Proofs.YtmbimekndhcgaaaDoor.Lf
open Go.RowKit Go.Proofs.YtmbimekndhcgaaaDoor.Rd Go.Proofs.YtmbimekndhcgaaaDoor.Help Go.Proofs.YtmbimekndhcgaaaDoor.Ring Go.Proofs.YtmbimekndhcgaaaDoor.Small Go.Proofs.YtmbimekndhcgaaaDoor.FVal Go.Proofs.YtmbimekndhcgaaaDoor.Keep Go.Proofs.YtmbimekndhcgaaaDoor.Rule Go.Proofs.YtmbimekndhcgaaaDoor.Grow Go.Proofs.YtmbimekndhcgaaaDoor.Rnd
set_option linter.unusedVariables false
set_option linter.unusedSimpArgs false

/-- What lies at a place: round and round, or 0 beyond the border. -/
def fr (zs : List Int) (R C : Nat) (rd : Bool) (i k : Int) : Int := if rd = true ∨ (0 ≤ i ∧ i < R ∧ 0 ≤ k ∧ k < C) then zs.getD ((i % (R : Int)).toNat * C + (k % (C : Int)).toNat) 0 else 0
/-- The neighbour with the number j, 4 being the cell itself. -/
def nb (zs : List Int) (R C : Nat) (rd : Bool) (i k : Int) (j : Nat) : Int := if j = 4 then 0 else fr zs R C rd (i - 1 + (j / 3 : Nat)) (k - 1 + (j % 3 : Nat))
/-- The sum of the first j neighbours. -/
def psum (zs : List Int) (R C : Nat) (rd : Bool) (i k : Int) : Nat → Int
  | 0 => 0
  | j + 1 => psum zs R C rd i k j + nb zs R C rd i k j
/-- How many neighbours are 1. -/
def aro (zs : List Int) (R C : Nat) (rd : Bool) (i k : Int) : Int := psum zs R C rd i k 9
/-- All cells are 0 or 1. -/
def plainB (zs : List Int) : Bool := zs.all fun x => decide (0 ≤ x ∧ x ≤ 1)
def nxt (xs ys zs : List Int) (R C : Nat) (rd : Bool) (i k : Nat) : Int :=
  if (zs.getD (i * C + k) 0 = 0 ∧ xs.contains (aro zs R C rd i k) = true) ∨ (zs.getD (i * C + k) 0 = 1 ∧ ys.contains (aro zs R C rd i k) = true) then 1 else 0
/-- The next field. -/
def lifeL (xs ys zs : List Int) (R C : Nat) (rd : Bool) : List Int := grid R C (nxt xs ys zs R C rd)
theorem plain_bd {zs : List Int} (h : plainB zs = true) (j : Nat) : 0 ≤ zs.getD j 0 ∧ zs.getD j 0 ≤ 1 := by
  by_cases hj : j < zs.length
  · have := List.all_eq_true.1 h (zs.getD j 0) (by rw [List.getD_eq_getElem?_getD, List.getElem?_eq_getElem hj]; exact List.getElem_mem hj)
    simpa using this
  · rw [List.getD_eq_getElem?_getD, List.getElem?_eq_none (by omega)]
    simp
theorem fr_bd {zs : List Int} (h : plainB zs = true) (R C : Nat) (rd : Bool) (i k : Int) : 0 ≤ fr zs R C rd i k ∧ fr zs R C rd i k ≤ 1 := by
  unfold fr
  split
  · exact plain_bd h _
  · omega
theorem nb_bd {zs : List Int} (h : plainB zs = true) (R C : Nat) (rd : Bool) (i k : Int) (j : Nat) : 0 ≤ nb zs R C rd i k j ∧ nb zs R C rd i k j ≤ 1 := by
  unfold nb
  split
  · omega
  · exact fr_bd h _ _ _ _ _
theorem psum_bd {zs : List Int} (h : plainB zs = true) (R C : Nat) (rd : Bool) (i k : Int) (j : Nat) : 0 ≤ psum zs R C rd i k j ∧ psum zs R C rd i k j ≤ j := by
  induction j with
  | zero => simp [psum]
  | succ j ih => have := nb_bd h R C rd i k j; simp only [psum]; omega
theorem aro_bd {zs : List Int} (h : plainB zs = true) (R C : Nat) (rd : Bool) (i k : Int) : 0 ≤ aro zs R C rd i k ∧ aro zs R C rd i k ≤ 8 := by
  have h8 : aro zs R C rd i k = psum zs R C rd i k 4 + (nb zs R C rd i k 5 + nb zs R C rd i k 6 + nb zs R C rd i k 7 + nb zs R C rd i k 8) := by
    simp [aro, psum, nb]; omega
  have a := psum_bd h R C rd i k 4
  have b5 := nb_bd h R C rd i k 5
  have b6 := nb_bd h R C rd i k 6
  have b7 := nb_bd h R C rd i k 7
  have b8 := nb_bd h R C rd i k 8
  omega
theorem aro_eq (zs : List Int) (R C : Nat) (rd : Bool) (i k : Int) : aro zs R C rd i k = fr zs R C rd (i - 1) (k - 1) + fr zs R C rd (i - 1) k + fr zs R C rd (i - 1) (k + 1) + fr zs R C rd i (k - 1) + fr zs R C rd i (k + 1) + fr zs R C rd (i + 1) (k - 1) + fr zs R C rd (i + 1) k + fr zs R C rd (i + 1) (k + 1) := by
  simp only [aro, psum, nb]
  simp [show i - 1 + 1 = i by omega, show k - 1 + 1 = k by omega, show i - 1 + 2 = i + 1 by omega, show k - 1 + 2 = k + 1 by omega]
theorem nb_at (zs : List Int) (R C : Nat) (rd : Bool) (i k : Int) {p q : Nat} (hq : q < 3) (h : ¬ (p = 1 ∧ q = 1)) : nb zs R C rd i k (3 * p + q) = fr zs R C rd (i - 1 + (p : Int)) (k - 1 + (q : Int)) := by
  unfold nb
  rw [if_neg (by omega), show (3 * p + q) / 3 = p by omega, show (3 * p + q) % 3 = q by omega]

theorem l04RoundX {w : World} {g R C S : Nat} {x y : Int} (c0 : w.cell? ⟨g, 0, none⟩ = some (.int .i64 R)) (c1 : w.cell? ⟨g, 1, none⟩ = some (.int .i64 C)) (hR : 1 ≤ R ∧ R ≤ 24) (hC : 1 ≤ C ∧ C ≤ 24) (hS : S = (x % (R : Int)).toNat * C + (y % (C : Int)).toNat) (hx : -1 ≤ x ∧ x ≤ 30) (hy : -1 ≤ y ∧ y ≤ 30) :
    Calls Tryd.prog 15 #[.pointer (some ⟨g, 0, none⟩), .int .i64 x, .int .i64 y] w fun e w' => e = .returned (.int .i64 (S : Int)) ∧ ∃ m, w' = w.drewN m := by
  rw [hS]
  exact Rnd.l04Round c0 c1 hR hC (by omega) (by omega)

end Go.Proofs.YtmbimekndhcgaaaDoor.Lf
