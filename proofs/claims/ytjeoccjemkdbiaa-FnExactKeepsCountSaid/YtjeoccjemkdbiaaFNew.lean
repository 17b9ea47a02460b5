/- New fields: l04New, emptyField, NewField of both sides. -/
import Derived.Test.YtjeoccjemkdbiaaKit0
import Derived.Test.YtjeoccjemkdbiaaFSpec
namespace Go.Proofs.Ytjeoccjemkdbiaa.FNew
open Go.RowKit Go.Proofs.Ytjeoccjemkdbiaa.Rd Go.Proofs.Ytjeoccjemkdbiaa.Help Go.Proofs.Ytjeoccjemkdbiaa.Ring Go.Proofs.Ytjeoccjemkdbiaa.Small Go.Proofs.Ytjeoccjemkdbiaa.FVal Go.Proofs.Ytjeoccjemkdbiaa.Keep Go.Proofs.Ytjeoccjemkdbiaa.Rule
set_option linter.unusedVariables false
set_option linter.unusedSimpArgs false

theorem heap_top {w : World} {o : Obj} {n : Nat} (hn : n = w.heap.size) : (w.alloc o).heap[n]? = some o := by
  subst hn; exact heap_alloc_new w o
theorem heap_old {w : World} {o o' : Obj} {n : Nat} (h : w.heap[n]? = some o) : (w.alloc o').heap[n]? = some o := by
  have hl : n < w.heap.size := (Array.getElem?_eq_some_iff.1 h).1
  rw [Below.heap_alloc _ _ _ (by omega)]; exact h
theorem set_cell {w : World} {a : Addr} {u c : Value} {g i : Nat} (h : w.cell? ⟨g, i, none⟩ = some c) (hne : g ≠ a.block) : (w.setCell a u).cell? ⟨g, i, none⟩ = some c :=
  (World.cell?_of_block (w := w) (Below.heap_setCell w a u g (by first | exact hne | exact Ne.symm hne))).trans h
theorem natmul {R C n : Nat} (hn : n = R * C) : (R : Int) * (C : Int) = (n : Int) := by rw [hn]; simp

end Go.Proofs.Ytjeoccjemkdbiaa.FNew
