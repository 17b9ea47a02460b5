/- Helpers of the laws that fields and rules have in common. -/
import Derived.Test.YtlecpilgimiaaaaFld
namespace Go.Proofs.Ytlecpilgimiaaaa.Help
open Go.RowKit Go.Proofs.Ytlecpilgimiaaaa.Rd Go.Proofs.Ytlecpilgimiaaaa.Keep Go.Proofs.Ytlecpilgimiaaaa.Rule
set_option linter.unusedVariables false
set_option linter.unusedSimpArgs false

theorem setCell_grown (w : World) (a : Addr) (u : Value) : w.grownBy (w.setCell a u) (some a.block) :=
  ⟨rfl, rfl, rfl, by simp [World.setCell], fun k _ hk => Below.heap_setCell _ _ _ _ (fun e => hk (by rw [e]))⟩
theorem own_set {E : TypeId} {w : World} {b : Nat} {v : Value} {zs : List Int} (h : Own E w b v zs) (a : Addr) (u : Value) (hne : a.block ≠ b) : Own E (w.setCell a u) b v zs :=
  h.grown (setCell_grown w a u) (by simp; exact hne)

theorem besideB {E : TypeId} {w w' : World} {b c : Nat} {v vc : Value} {zs : List Int} (h : Own E w b v zs) (g : w.grownBy w' (some c)) (hn : vc = .slice none 0 0 → Below w.heap.size w w') (hne : vc = .slice none 0 0 ∨ c ≠ b) : Own E w' b v zs := by
  rcases hne with hv | hne
  · exact h.keep (hn hv)
  · exact h.grown g (by simp; omega)

theorem mcell {w w' : World} {c n i : Nat} {u : Value} (g : w.grownBy w' (some c)) (h : w.cell? ⟨n, i, none⟩ = some u) (hne : n ≠ c) : w'.cell? ⟨n, i, none⟩ = some u :=
  g.cell h (by simp; exact hne)

theorem grown_after {w w1 w2 : World} {row : Option Nat} (bel : Below w.heap.size w w1) (g : w1.grownBy w2 row) : w.grownBy w2 row :=
  ⟨g.os.trans bel.os, g.tape.trans bel.tape, g.output.trans bel.output, Nat.le_trans bel.size g.size, fun k hk hne => (g.block k (Nat.lt_of_lt_of_le hk bel.size) hne).trans (bel.block k hk)⟩

theorem markSB {w : World} {b : Nat} {v : Value} {zs : List Int} {q : Int} (h : Own 2 w b v zs) (h0 : 0 ≤ q) (hq : q + zs.length ≤ 4611686018427387904) :
    Calls Try.prog 20 #[v, .int .i64 q] w fun e w' => e = .returned (.int .i64 (q + zs.length)) ∧ Own 2 w' b v (marks q zs.length) ∧ w.grownBy w' (some b) ∧ (v = .slice none 0 0 → Below w.heap.size w w') := by
  refine (markS h h0 hq).mono ?_
  rintro e w' ⟨rfl, o, g, n⟩
  exact ⟨rfl, o, g, fun hv => by rw [n hv]; exact Below.refl _ _⟩

end Go.Proofs.Ytlecpilgimiaaaa.Help
