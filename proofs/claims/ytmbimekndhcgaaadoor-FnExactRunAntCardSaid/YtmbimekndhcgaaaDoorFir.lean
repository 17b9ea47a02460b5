/- fireAfter: a fire that spreads once, the program. -/
import Derived.Test.YtmbimekndhcgaaaDoorBes
import Derived.Test.YtmbimekndhcgaaaDoorBox
import Derived.Deep.Cut
namespace Go.Proofs.YtmbimekndhcgaaaDoor.Fir
open Go.RowKit Go.Shelf Go.Proofs.YtmbimekndhcgaaaDoor.Rd Go.Proofs.YtmbimekndhcgaaaDoor.Help Go.Proofs.YtmbimekndhcgaaaDoor.Ring Go.Proofs.YtmbimekndhcgaaaDoor.Small Go.Proofs.YtmbimekndhcgaaaDoor.FVal Go.Proofs.YtmbimekndhcgaaaDoor.Keep Go.Proofs.YtmbimekndhcgaaaDoor.Rule Go.Proofs.YtmbimekndhcgaaaDoor.Grow Go.Proofs.YtmbimekndhcgaaaDoor.Bes Go.Proofs.YtmbimekndhcgaaaDoor.Box Go.Proofs.YtmbimekndhcgaaaDoor.FMir
set_option linter.unusedVariables false
set_option linter.unusedSimpArgs false
attribute [local go_sem] Oper.semAt_some

def burnt (zs : List Int) (R C p i : Nat) : Bool := (List.range p).any fun j => decide (zs.getD j 0 = 2) && (besL R C j 4).contains i
/-- A cell when the fires ahead of p have spread. -/
def fv (zs : List Int) (R C p i : Nat) : Int := if zs.getD i 0 = 2 then (if i < p then 0 else 2) else if zs.getD i 0 = 1 ∧ burnt zs R C p i = true then 2 else zs.getD i 0
/-- A cell when, besides, the fire of p has spread to the places pre. -/
def fvI (zs : List Int) (R C p : Nat) (pre : List Nat) (i : Nat) : Int := if zs.getD i 0 = 2 then (if i < p + 1 then 0 else 2) else if zs.getD i 0 = 1 ∧ (burnt zs R C p i || pre.contains i) = true then 2 else zs.getD i 0
theorem burnt_succ (zs : List Int) (R C p i : Nat) : burnt zs R C (p + 1) i = (burnt zs R C p i || (decide (zs.getD p 0 = 2) && (besL R C p 4).contains i)) := by
  unfold burnt; rw [List.range_succ, List.any_append]; simp
theorem fv_zero (zs : List Int) (R C i : Nat) : fv zs R C 0 i = zs.getD i 0 := by
  unfold fv burnt
  simp
  intro h; exact h.symm
theorem fv_skip {zs : List Int} {R C p : Nat} (h : zs.getD p 0 ≠ 2) (i : Nat) : fv zs R C p i = fv zs R C (p + 1) i := by
  unfold fv
  rw [burnt_succ, decide_eq_false h, Bool.false_and, Bool.or_false]
  by_cases hi : zs.getD i 0 = 2
  · rw [if_pos hi, if_pos hi]
    have : i ≠ p := fun e => h (e ▸ hi)
    by_cases hp : i < p
    · rw [if_pos hp, if_pos (by omega)]
    · rw [if_neg hp, if_neg (by omega)]
  · rw [if_neg hi, if_neg hi]
theorem fv_start {zs : List Int} {R C p : Nat} (h : zs.getD p 0 = 2) (i : Nat) : (if i = p then 0 else fv zs R C p i) = fvI zs R C p [] i := by
  unfold fv fvI
  by_cases hp : i = p
  · subst hp
    rw [if_pos rfl, if_pos h, if_pos (by omega)]
  · rw [if_neg hp]
    by_cases hi : zs.getD i 0 = 2
    · rw [if_pos hi, if_pos hi]
      by_cases hq : i < p
      · rw [if_pos hq, if_pos (by omega)]
      · rw [if_neg hq, if_neg (by omega)]
    · rw [if_neg hi, if_neg hi]; simp
theorem fvI_one {zs : List Int} {R C p x : Nat} {pre : List Nat} (h : zs.getD x 0 = 1) (i : Nat) : (if i = x then 2 else fvI zs R C p pre i) = fvI zs R C p (pre ++ [x]) i := by
  unfold fvI
  by_cases hp : i = x
  · subst hp
    rw [if_pos rfl, if_neg (by rw [h]; decide), if_pos ⟨h, by simp⟩]
  · rw [if_neg hp]
    have : (pre ++ [x]).contains i = pre.contains i := by simp [hp]
    rw [this]
theorem fvI_skip {zs : List Int} {R C p x : Nat} {pre : List Nat} (h : zs.getD x 0 ≠ 1) (i : Nat) : fvI zs R C p pre i = fvI zs R C p (pre ++ [x]) i := by
  unfold fvI
  by_cases hi : zs.getD i 0 = 1
  · have hne : i ≠ x := fun e => h (e ▸ hi)
    have : (pre ++ [x]).contains i = pre.contains i := by simp [hne]
    rw [this]
  · by_cases h2 : zs.getD i 0 = 2
    · rw [if_pos h2, if_pos h2]
    · rw [if_neg h2, if_neg h2, if_neg (fun e => hi e.1), if_neg (fun e => hi e.1)]
theorem fvI_end {zs : List Int} {R C p : Nat} (h : zs.getD p 0 = 2) (i : Nat) : fvI zs R C p (besL R C p 4) i = fv zs R C (p + 1) i := by
  unfold fvI fv
  rw [burnt_succ, decide_eq_true h, Bool.true_and]
def fireL (zs : List Int) (R C n : Nat) : List Int := (List.range n).map (fv zs R C n)

end Go.Proofs.YtmbimekndhcgaaaDoor.Fir
