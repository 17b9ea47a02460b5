/- impl.IsSumRule, IsAdding, AddingTerms. -/
import Derived.Test.YtjeoccjemkdbiaaSum
import Derived.Test.YtjeoccjemkdbiaaAl
import Derived.Test.YtjeoccjemkdbiaaSame2
import Derived.Deep.Cut
namespace Go.Proofs.Ytjeoccjemkdbiaa.IsSum
open Go.RowKit Go.Proofs.Ytjeoccjemkdbiaa.Rd Go.Proofs.Ytjeoccjemkdbiaa.Help Go.Proofs.Ytjeoccjemkdbiaa.Ring Go.Proofs.Ytjeoccjemkdbiaa.Small Go.Proofs.Ytjeoccjemkdbiaa.Num Go.Proofs.Ytjeoccjemkdbiaa.Keep Go.Proofs.Ytjeoccjemkdbiaa.Rule Go.Proofs.Ytjeoccjemkdbiaa.Dig Go.Proofs.Ytjeoccjemkdbiaa.DigP Go.Proofs.Ytjeoccjemkdbiaa.Tell Go.Proofs.Ytjeoccjemkdbiaa.Sum
set_option linter.unusedVariables false
set_option linter.unusedSimpArgs false

theorem heap_keep {w w' : World} {n : Nat} {o : Obj} (bel : Below w.heap.size w w') (h : w.heap[n]? = some o) : w'.heap[n]? = some o :=
  (bel.block n (Array.getElem?_eq_some_iff.1 h).1).trans h
theorem own_lt {E : TypeId} {w : World} {b n cap : Nat} {zs : List Int} (h : Own E w b (.slice (some ⟨b, 0, none⟩) n cap) zs) : b < w.heap.size := h.lt
theorem set1 {N NB : Nat} {w0 w : World} {i : Nat} {x : Value} {p0 p1 p2 : Addr} {c0 c1 c2 : Value} {b0 : Nat} {v0 : Value} {z0 : List Int} (hN : N ≤ NB) (h0 : p0.block < NB) (h1 : p1.block < NB) (h2 : p2.block < NB) (hb : b0 < NB)
    (h : Below N w0 w ∧ w.cell? p0 = some c0 ∧ w.cell? p1 = some c1 ∧ w.cell? p2 = some c2 ∧ Rd w b0 v0 z0 ∧ N ≤ w.heap.size) :
    Below N w0 (w.setCell ⟨NB, i, none⟩ x) ∧ (w.setCell ⟨NB, i, none⟩ x).cell? p0 = some c0 ∧ (w.setCell ⟨NB, i, none⟩ x).cell? p1 = some c1 ∧ (w.setCell ⟨NB, i, none⟩ x).cell? p2 = some c2 ∧ Rd (w.setCell ⟨NB, i, none⟩ x) b0 v0 z0 ∧ N ≤ (w.setCell ⟨NB, i, none⟩ x).heap.size := by
  have bel : Below NB w (w.setCell ⟨NB, i, none⟩ x) := (Below.refl NB w).setCell (p := ⟨NB, i, none⟩) (Nat.le_refl _) x
  obtain ⟨a0, a1, a2, a3, a4, a5⟩ := h
  exact ⟨a0.trans (bel.mono hN), (bel.cell h0).trans a1, (bel.cell h1).trans a2, (bel.cell h2).trans a3, a4.keepAt bel hb, Nat.le_trans a5 bel.size⟩

/-- The table of the rule of weighed sums that a rule would be. -/
def sumT (s : Int) (tbl : List Int) (L M : Nat) : List Int := tab (fun k => dotK (Al.alo tbl s L) (dig s k L) L % s) M
def isSumB (s r : Int) (tbl : List Int) : Bool := Same.sameB s r tbl s r (sumT s tbl (2 * r + 1).toNat tbl.length)

end Go.Proofs.Ytjeoccjemkdbiaa.IsSum
