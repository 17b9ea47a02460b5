/- SenseOf: what is counted. -/
import Derived.Test.YtffcaffhkleclaaTold
import Derived.Test.YtffcaffhkleclaaAl
import Derived.Test.YtffcaffhkleclaaSpec
import Derived.Test.YtffcaffhkleclaaSame
namespace Go.Proofs.Ytffcaffhkleclaa.Sen
open Go.RowKit Go.Proofs.Ytffcaffhkleclaa.Rd Go.Proofs.Ytffcaffhkleclaa.Help Go.Proofs.Ytffcaffhkleclaa.Ring Go.Proofs.Ytffcaffhkleclaa.Small Go.Proofs.Ytffcaffhkleclaa.Num Go.Proofs.Ytffcaffhkleclaa.Keep Go.Proofs.Ytffcaffhkleclaa.Rule Go.Proofs.Ytffcaffhkleclaa.Dig Go.Proofs.Ytffcaffhkleclaa.DigP Go.Proofs.Ytffcaffhkleclaa.Fl
set_option linter.unusedVariables false
set_option linter.unusedSimpArgs false

def su (g : Nat → Nat) : Nat → Nat
  | 0 => 0
  | n + 1 => su g n + g n
theorem su_le {g : Nat → Nat} {B : Nat} (h : ∀ i, g i ≤ B) (n : Nat) : su g n ≤ n * B := by
  induction n with
  | zero => simp [su]
  | succ n ih => have := h n; simp only [su, Nat.succ_mul]; omega
/-- Whether a cell changed to a state changes what is told (dC), and whether it is another state (dA). -/
def dC (s : Int) (tbl : List Int) (L x k st : Nat) : Nat :=
  if (dig s x L).getD k 0 = (st : Int) then 0 else if tbl.getD (numL ((dig s x L).set k (st : Int)) s).toNat 0 = tbl.getD x 0 then 0 else 1
def dA (s : Int) (L x k st : Nat) : Nat := if (dig s x L).getD k 0 = (st : Int) then 0 else 1
def C1 (s : Int) (tbl : List Int) (L x k : Nat) : Nat → Nat := su (dC s tbl L x k)
def A1 (s : Int) (L x k : Nat) : Nat → Nat := su (dA s L x k)
def C2 (s : Int) (tbl : List Int) (L S x : Nat) : Nat → Nat := su fun k => C1 s tbl L x k S
def A2 (s : Int) (L S x : Nat) : Nat → Nat := su fun k => A1 s L x k S
def C3 (s : Int) (tbl : List Int) (L S : Nat) : Nat → Nat := su fun x => C2 s tbl L S x L
def A3 (s : Int) (L S : Nat) : Nat → Nat := su fun x => A2 s L S x L
theorem dC_le (s : Int) (tbl : List Int) (L x k st : Nat) : dC s tbl L x k st ≤ 1 := by unfold dC; split <;> (try split) <;> omega
theorem dA_le (s : Int) (L x k st : Nat) : dA s L x k st ≤ 1 := by unfold dA; split <;> omega
theorem C1_le (s : Int) (tbl : List Int) (L x k n : Nat) : C1 s tbl L x k n ≤ n := by have := su_le (g := dC s tbl L x k) (dC_le s tbl L x k) n; simpa [C1] using this
theorem A1_le (s : Int) (L x k n : Nat) : A1 s L x k n ≤ n := by have := su_le (g := dA s L x k) (dA_le s L x k) n; simpa [A1] using this
theorem C2_le (s : Int) (tbl : List Int) (L S x n : Nat) : C2 s tbl L S x n ≤ n * S := su_le (fun k => C1_le s tbl L x k S) n
theorem A2_le (s : Int) (L S x n : Nat) : A2 s L S x n ≤ n * S := su_le (fun k => A1_le s L x k S) n
theorem C3_le (s : Int) (tbl : List Int) (L S n : Nat) : C3 s tbl L S n ≤ n * (L * S) := su_le (fun x => C2_le s tbl L S x L) n
theorem A3_le (s : Int) (L S n : Nat) : A3 s L S n ≤ n * (L * S) := su_le (fun x => A2_le s L S x L) n
/-- All counts on the way stay small. -/
theorem bounds {s : Int} {tbl : List Int} {L S M x k n : Nat} (hL : L ≤ 5) (hS : S ≤ 3) (hM : M ≤ 243) (hx : x < M) (hk : k < L) (hn : n ≤ S) :
    C3 s tbl L S x + C2 s tbl L S x k + C1 s tbl L x k n ≤ 10000 ∧ A3 s L S x + A2 s L S x k + A1 s L x k n ≤ 10000 := by
  have e1 := C3_le s tbl L S x; have e2 := C2_le s tbl L S x k; have e3 := C1_le s tbl L x k n
  have f1 := A3_le s L S x; have f2 := A2_le s L S x k; have f3 := A1_le s L x k n
  have g1 : x * (L * S) ≤ 243 * (5 * 3) := Nat.mul_le_mul (by omega) (Nat.mul_le_mul hL hS)
  have g2 : k * S ≤ 5 * 3 := Nat.mul_le_mul (by omega) hS
  omega
theorem all_set {zs : List Int} {s y : Int} (h : allB zs s = true) (hy : 0 ≤ y ∧ y ≤ s - 1) (k : Nat) : allB (zs.set k y) s = true := by
  unfold allB at *
  rw [List.all_eq_true] at *
  intro x hx
  rcases List.mem_or_eq_of_mem_set hx with h1 | rfl
  · exact h x h1
  · simp [okB]; omega
theorem int_is (n : Nat) : Is .f32 (floatOfInt .f32 (n : Int)) (some (floatOfInt .f32 (n : Int))) := by
  have e : floatOfInt .f32 (n : Int) = FloatKind.f32.format.write (.number (decide ((n : Int) < 0)) (n : Int).natAbs 0) := rfl
  rw [e]
  exact Is_some (write_nan .f32 _ rfl) (FloatKind.f32.format.write_lt _)
theorem zero_is : Is .f32 0 (some 0) := ⟨by decide, by decide⟩
def senseV (s r : Int) (tbl : List Int) : Option Nat :=
  if validB s r tbl = true then fop .quo .f32 (some (floatOfInt .f32 (C3 s tbl (2 * r + 1).toNat s.toNat tbl.length : Nat))) (some (floatOfInt .f32 (A3 s (2 * r + 1).toNat s.toNat tbl.length : Nat))) else some 0

end Go.Proofs.Ytffcaffhkleclaa.Sen
