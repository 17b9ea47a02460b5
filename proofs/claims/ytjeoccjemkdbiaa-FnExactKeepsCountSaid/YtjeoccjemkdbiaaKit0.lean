/- Helpers of the laws that fields and rules have in common. -/
import Derived.Test.YtjeoccjemkdbiaaFld
namespace Go.Proofs.Ytjeoccjemkdbiaa.Help
open Go.RowKit Go.Proofs.Ytjeoccjemkdbiaa.Rd Go.Proofs.Ytjeoccjemkdbiaa.Keep Go.Proofs.Ytjeoccjemkdbiaa.Rule
set_option linter.unusedVariables false
set_option linter.unusedSimpArgs false

theorem szS {w : World} {ao : Option Addr} {n cap : Nat} {q : Int} (hn : n ≤ 9223372036854775807) (h0 : 0 ≤ q) (hq : q ≤ 1048576) :
    Calls Try.prog 23 #[.slice ao n cap, .int .i64 q] w fun e w' => e = .returned (.int .i64 (if (n : Int) ≤ q then q - n else -1)) ∧ w = w' := by
  by_cases h : (n : Int) ≤ q
  · rw [if_pos h]
    have h1 : decide (q - (n : Int) < 0) = false := by simp; omega
    go_enter Try.func23, Try.ntmps23
    go_wp2
    go_ret
    exact ⟨rfl, rfl⟩
  · rw [if_neg h]
    have h1 : decide (q - (n : Int) < 0) = true := by simp; omega
    go_enter Try.func23, Try.ntmps23
    go_wp2
    go_ret
    exact ⟨rfl, rfl⟩

theorem setCell_grown (w : World) (a : Addr) (u : Value) : w.grownBy (w.setCell a u) (some a.block) :=
  ⟨rfl, rfl, rfl, by simp [World.setCell], fun k _ hk => Below.heap_setCell _ _ _ _ (fun e => hk (by rw [e]))⟩
theorem own_set {E : TypeId} {w : World} {b : Nat} {v : Value} {zs : List Int} (h : Own E w b v zs) (a : Addr) (u : Value) (hne : a.block ≠ b) : Own E (w.setCell a u) b v zs :=
  h.grown (setCell_grown w a u) (by simp; exact hne)

theorem toSE {w : World} {b : Nat} {v : Value} {zs : List Int} (h : Rd w b v zs) (hl : zs.length ≤ 1048576) :
    Calls Try.prog 11 #[v] w fun e w' => ∃ b', e = .returned (.slice (some ⟨b', 0, none⟩) zs.length zs.length) ∧ Own 2 w' b' (.slice (some ⟨b', 0, none⟩) zs.length zs.length) zs ∧ w.heap.size ≤ b' ∧ Below w.heap.size w w' := by
  refine (toS h hl).mono ?_
  rintro e w' ⟨rfl, o, bel⟩
  exact ⟨_, rfl, o, Nat.le_refl _, bel⟩

theorem besideB {E : TypeId} {w w' : World} {b c : Nat} {v vc : Value} {zs : List Int} (h : Own E w b v zs) (g : w.grownBy w' (some c)) (hn : vc = .slice none 0 0 → Below w.heap.size w w') (hne : vc = .slice none 0 0 ∨ c ≠ b) : Own E w' b v zs := by
  rcases hne with hv | hne
  · exact h.keep (hn hv)
  · exact h.grown g (by simp; omega)

theorem mcell {w w' : World} {c n i : Nat} {u : Value} (g : w.grownBy w' (some c)) (h : w.cell? ⟨n, i, none⟩ = some u) (hne : n ≠ c) : w'.cell? ⟨n, i, none⟩ = some u :=
  g.cell h (by simp; exact hne)

theorem grown_after {w w1 w2 : World} {row : Option Nat} (bel : Below w.heap.size w w1) (g : w1.grownBy w2 row) : w.grownBy w2 row :=
  ⟨g.os.trans bel.os, g.tape.trans bel.tape, g.output.trans bel.output, Nat.le_trans bel.size g.size, fun k hk hne => (g.block k (Nat.lt_of_lt_of_le hk bel.size) hne).trans (bel.block k hk)⟩

end Go.Proofs.Ytjeoccjemkdbiaa.Help
