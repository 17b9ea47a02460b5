/- New fields: l04New, emptyField, NewField of both sides. -/
import Derived.Test.YtbnndbciimfciaaKit0
import Derived.Test.YtbnndbciimfciaaFSpec
namespace Go.Proofs.Ytbnndbciimfciaa.FNew
open Go.RowKit Go.Proofs.Ytbnndbciimfciaa.Rd Go.Proofs.Ytbnndbciimfciaa.Help Go.Proofs.Ytbnndbciimfciaa.Ring Go.Proofs.Ytbnndbciimfciaa.Small Go.Proofs.Ytbnndbciimfciaa.FVal Go.Proofs.Ytbnndbciimfciaa.Keep Go.Proofs.Ytbnndbciimfciaa.Rule
set_option linter.unusedVariables false
set_option linter.unusedSimpArgs false

theorem heap_top {w : World} {o : Obj} {n : Nat} (hn : n = w.heap.size) : (w.alloc o).heap[n]? = some o := by
  subst hn; exact heap_alloc_new w o
theorem heap_old {w : World} {o o' : Obj} {n : Nat} (h : w.heap[n]? = some o) : (w.alloc o').heap[n]? = some o := by
  have hl : n < w.heap.size := (Array.getElem?_eq_some_iff.1 h).1
  rw [Below.heap_alloc _ _ _ (by omega)]; exact h
theorem set_cell {w : World} {a : Addr} {u c : Value} {g i : Nat} (h : w.cell? ⟨g, i, none⟩ = some c) (hne : g ≠ a.block) : (w.setCell a u).cell? ⟨g, i, none⟩ = some c :=
  (World.cell?_of_block (w := w) (Below.heap_setCell w a u g (by first | exact hne | exact Ne.symm hne))).trans h
theorem natmul {R C n : Nat} (hn : n = R * C) : (R : Int) * (C : Int) = (n : Int) := by rw [hn]; simp

end Go.Proofs.Ytbnndbciimfciaa.FNew
