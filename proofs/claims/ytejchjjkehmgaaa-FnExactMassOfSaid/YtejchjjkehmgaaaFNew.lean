/- New fields: l04New, emptyField, NewField of both sides. -/
import Derived.Test.YtejchjjkehmgaaaKit0
import Derived.Test.YtejchjjkehmgaaaFSpec
namespace Go.Proofs.Ytejchjjkehmgaaa.FNew
open Go.RowKit Go.Proofs.Ytejchjjkehmgaaa.Rd Go.Proofs.Ytejchjjkehmgaaa.Help Go.Proofs.Ytejchjjkehmgaaa.Ring Go.Proofs.Ytejchjjkehmgaaa.Small Go.Proofs.Ytejchjjkehmgaaa.FVal Go.Proofs.Ytejchjjkehmgaaa.Keep Go.Proofs.Ytejchjjkehmgaaa.Rule
set_option linter.unusedVariables false
set_option linter.unusedSimpArgs false

theorem heap_top {w : World} {o : Obj} {n : Nat} (hn : n = w.heap.size) : (w.alloc o).heap[n]? = some o := by
  subst hn; exact heap_alloc_new w o
theorem heap_old {w : World} {o o' : Obj} {n : Nat} (h : w.heap[n]? = some o) : (w.alloc o').heap[n]? = some o := by
  have hl : n < w.heap.size := (Array.getElem?_eq_some_iff.1 h).1
  rw [Below.heap_alloc _ _ _ (by omega)]; exact h
theorem set_cell {w : World} {a : Addr} {u c : Value} {g i : Nat} (h : w.cell? ⟨g, i, none⟩ = some c) (hne : g ≠ a.block) : (w.setCell a u).cell? ⟨g, i, none⟩ = some c :=
  (World.cell?_of_block (w := w) (Below.heap_setCell w a u g (by first | exact hne | exact Ne.symm hne))).trans h
theorem natmul {R C n : Nat} (hn : n = R * C) : (R : Int) * (C : Int) = (n : Int) := by rw [hn]; simp

theorem sizeN {w : World} {R C n : Nat} (hn : n = R * C) (h : n ≤ 576) :
    Calls Try.prog 129 #[shapeV R C] w fun e w' => e = .returned (.int .i64 n) ∧ Below w.heap.size w w' := by
  have hw : IntKind.i64.wrap ((R : Int) * (C : Int)) = (n : Int) := by rw [natmul hn, IntKind.wrap_i64]; omega
  clear hn
  go_enter Try.func129, Try.ntmps129
  go_wp2_with fail
  go_ret
  exact ⟨rfl, below1 _ _⟩

end Go.Proofs.Ytejchjjkehmgaaa.FNew
