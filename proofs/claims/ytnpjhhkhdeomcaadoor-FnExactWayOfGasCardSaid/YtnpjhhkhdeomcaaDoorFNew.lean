/- New fields: l04New, emptyField, NewField of both sides. -/
import Derived.Test.YtnpjhhkhdeomcaaDoorFldKit
import Derived.Test.YtnpjhhkhdeomcaaDoorFSpec
namespace Go.Proofs.YtnpjhhkhdeomcaaDoor.FNew
open Go.RowKit Go.Proofs.YtnpjhhkhdeomcaaDoor.Rd Go.Proofs.YtnpjhhkhdeomcaaDoor.Help Go.Proofs.YtnpjhhkhdeomcaaDoor.Ring Go.Proofs.YtnpjhhkhdeomcaaDoor.Small Go.Proofs.YtnpjhhkhdeomcaaDoor.FVal Go.Proofs.YtnpjhhkhdeomcaaDoor.Keep Go.Proofs.YtnpjhhkhdeomcaaDoor.Rule
set_option linter.unusedVariables false
set_option linter.unusedSimpArgs false

theorem heap_top {w : World} {o : Obj} {n : Nat} (hn : n = w.heap.size) : (w.alloc o).heap[n]? = some o := by
  subst hn; exact heap_alloc_new w o
theorem heap_old {w : World} {o o' : Obj} {n : Nat} (h : w.heap[n]? = some o) : (w.alloc o').heap[n]? = some o := by
  have hl : n < w.heap.size := (Array.getElem?_eq_some_iff.1 h).1
  rw [Below.heap_alloc _ _ _ (by omega)]; exact h
theorem set_cell {w : World} {a : Addr} {u c : Value} {g i : Nat} (h : w.cell? ⟨g, i, none⟩ = some c) (hne : g ≠ a.block) : (w.setCell a u).cell? ⟨g, i, none⟩ = some c :=
  (World.cell?_of_block (w := w) (Below.heap_setCell w a u g (by first | exact hne | exact Ne.symm hne))).trans h
theorem natmul {R C n : Nat} (hn : n = R * C) : (R : Int) * (C : Int) = (n : Int) := by rw [hn]; simp

theorem sizeN {w : World} {R C n : Nat} (hn : n = R * C) (h : n ≤ 576) :
    Calls Tryd.prog 29 #[shapeV R C] w fun e w' => e = .returned (.int .i64 n) ∧ Below w.heap.size w w' := by
  have hw : IntKind.i64.wrap ((R : Int) * (C : Int)) = (n : Int) := by rw [natmul hn, IntKind.wrap_i64]; omega
  clear hn
  go_enter Tryd.func29, Tryd.ntmps29
  go_wp2_with fail
  go_ret
  exact ⟨rfl, below1 _ _⟩

end Go.Proofs.YtnpjhhkhdeomcaaDoor.FNew
