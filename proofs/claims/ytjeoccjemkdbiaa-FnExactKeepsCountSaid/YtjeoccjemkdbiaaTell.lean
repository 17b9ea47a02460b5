/- ruleThatTells: the rule of a shape that tells what a function tells. -/
import Derived.Test.YtjeoccjemkdbiaaDigP
namespace Go.Proofs.Ytjeoccjemkdbiaa.Tell
open Go.RowKit Go.Proofs.Ytjeoccjemkdbiaa.Rd Go.Proofs.Ytjeoccjemkdbiaa.Help Go.Proofs.Ytjeoccjemkdbiaa.Ring Go.Proofs.Ytjeoccjemkdbiaa.Small Go.Proofs.Ytjeoccjemkdbiaa.Num Go.Proofs.Ytjeoccjemkdbiaa.Keep Go.Proofs.Ytjeoccjemkdbiaa.Rule Go.Proofs.Ytjeoccjemkdbiaa.Dig Go.Proofs.Ytjeoccjemkdbiaa.DigP
set_option linter.unusedVariables false
set_option linter.unusedSimpArgs false

/-- The first k entries of a table. -/
def tab (T : Nat → Int) (k : Nat) : List Int := (List.range k).map T
theorem tab_length (T : Nat → Int) (k : Nat) : (tab T k).length = k := by simp [tab]
theorem tab_succ (T : Nat → Int) (k : Nat) : tab T (k + 1) = tab T k ++ [T k] := by simp [tab, List.range_succ]
theorem tab_get (T : Nat → Int) (k i : Nat) (h : i < k) : (tab T k).getD i 0 = T i := by simp [tab, List.getD, h]
theorem set_tab (T : Nat → Int) (n k : Nat) (h : k < n) : (tab T k ++ List.replicate (n - k) 0).set k (T k) = tab T (k + 1) ++ List.replicate (n - (k + 1)) 0 := by
  have e : n - k = (n - (k + 1)) + 1 := by omega
  rw [e, List.replicate_succ, List.set_append_right _ _ (by rw [tab_length]; omega), tab_length, Nat.sub_self, List.set_cons_zero, tab_succ, List.append_assoc]
  rfl

theorem cell_top {w : World} {cs : Array Value} {t : TypeId} {n i : Nat} {c : Value} (hn : n = w.heap.size) (hc : cs[i]? = some c) : (w.alloc (.cells cs t)).cell? ⟨n, i, none⟩ = some c := by
  subst hn; simp [hc]
theorem cell_old {w : World} {o : Obj} {p : Addr} {c : Value} (h : w.cell? p = some c) : (w.alloc o).cell? p = some c := cell_keep (below1 w o) h
theorem heap_top {w : World} {o : Obj} {n : Nat} (hn : n = w.heap.size) : (w.alloc o).heap[n]? = some o := by
  subst hn; exact heap_alloc_new w o
theorem heap_old {w : World} {o o' : Obj} {n : Nat} (h : w.heap[n]? = some o) : (w.alloc o').heap[n]? = some o := by
  have hl : n < w.heap.size := (Array.getElem?_eq_some_iff.1 h).1
  rw [Below.heap_alloc _ _ _ (by omega)]; exact h
theorem nextAt2 {N B : Nat} {w0 w w' : World} {g : Nat} {i0 i1 : Nat} {c0 c1 : Value} (bel : Below B w w') (hg : g < B) (hN : N ≤ B)
    (h : Below N w0 w ∧ w.cell? ⟨g, i0, none⟩ = some c0 ∧ w.cell? ⟨g, i1, none⟩ = some c1 ∧ N ≤ w.heap.size) :
    Below N w0 w' ∧ w'.cell? ⟨g, i0, none⟩ = some c0 ∧ w'.cell? ⟨g, i1, none⟩ = some c1 ∧ N ≤ w'.heap.size :=
  ⟨h.1.trans (bel.mono hN), (bel.cell (p := ⟨g, i0, none⟩) hg).trans h.2.1, (bel.cell (p := ⟨g, i1, none⟩) hg).trans h.2.2.1, Nat.le_trans h.2.2.2 bel.size⟩
theorem set2 {N b : Nat} {w0 w : World} {g i : Nat} {c0 c1 v : Value} (hN : N ≤ b) (hg : g < b)
    (h : Below N w0 w ∧ w.cell? ⟨g, 0, none⟩ = some c0 ∧ w.cell? ⟨g, 1, none⟩ = some c1 ∧ N ≤ w.heap.size) :
    Below N w0 (w.setCell ⟨b, i, none⟩ v) ∧ (w.setCell ⟨b, i, none⟩ v).cell? ⟨g, 0, none⟩ = some c0 ∧ (w.setCell ⟨b, i, none⟩ v).cell? ⟨g, 1, none⟩ = some c1 ∧ N ≤ (w.setCell ⟨b, i, none⟩ v).heap.size :=
  nextAt2 ((Below.refl b w).setCell (Nat.le_refl _) _) hg hN h

end Go.Proofs.Ytjeoccjemkdbiaa.Tell
