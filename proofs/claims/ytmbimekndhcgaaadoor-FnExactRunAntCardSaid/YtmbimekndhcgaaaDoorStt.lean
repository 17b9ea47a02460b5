/- impl.settle: heaps that fall, the program. -/
import Derived.Test.YtmbimekndhcgaaaDoorSet
import Derived.Test.YtmbimekndhcgaaaDoorBox
import Derived.Test.YtmbimekndhcgaaaDoorBes
import Derived.ScopeJumps
import Derived.WalkMore
import Derived.Deep.Cut
namespace Go.Proofs.YtmbimekndhcgaaaDoor.Stt
open Go.RowKit Go.Shelf Go.Proofs.YtmbimekndhcgaaaDoor.Rd Go.Proofs.YtmbimekndhcgaaaDoor.Help Go.Proofs.YtmbimekndhcgaaaDoor.Small Go.Proofs.YtmbimekndhcgaaaDoor.FVal Go.Proofs.YtmbimekndhcgaaaDoor.Keep Go.Proofs.YtmbimekndhcgaaaDoor.Rule Go.Proofs.YtmbimekndhcgaaaDoor.Grow Go.Proofs.YtmbimekndhcgaaaDoor.Bes Go.Proofs.YtmbimekndhcgaaaDoor.Box Go.Proofs.YtmbimekndhcgaaaDoor.Sbe Go.Proofs.YtmbimekndhcgaaaDoor.Sfi Go.Proofs.YtmbimekndhcgaaaDoor.Hea Go.Proofs.YtmbimekndhcgaaaDoor.Heb Go.Proofs.YtmbimekndhcgaaaDoor.Set
set_option linter.unusedVariables false
set_option linter.unusedSimpArgs false
attribute [local go_sem] Oper.semAt_some

theorem wp_scope_again {P : Program} {c rest : Code} {Q : Exit → Act → World → Prop} {a : Act} {w : World} (l : Nat) (J : Act → World → Prop) (μ : Act → World → Nat) (hf : findLabel c l = some (Code.seq Code.skip rest))
    (pass : ∀ a w, J a w → rest.wp P (Exit.jump l (fun a' w' => J a' w' ∧ μ a' w' < μ a w) Q) a w)
    (first : (∀ a w, J a w → rest.wp P (Exit.jump l J Q) a w) → c.wp P (Exit.jump l J Q) a w) : (Code.scope c).wp P Q a w := by
  refine wp_scope_jumps l J μ hf (first fun a w h => wp_mono (pass a w h) ?_) (fun a w h => wp_seq (wp_skip (pass a w h)))
  intro e a' w' hq
  cases e with
  | goto l' => exact ⟨hq.1, hq.2.1⟩
  | normal => exact hq
  | exit id => exact hq
  | ret => exact hq
  | panic ch => exact hq
  | outgrown => exact hq
theorem below_g {w w' : World} {b : Nat} (bel : Below w.heap.size w w') : w.grownBy w' (some b) := ⟨bel.os, bel.tape, bel.output, bel.size, fun k hk _ => bel.block k hk⟩
theorem heap_lt' {w : World} {n : Nat} {o : Obj} (h : w.heap[n]? = some o) : n < w.heap.size := (Array.getElem?_eq_some_iff.1 h).1
theorem gw_g {w w' : World} {b : Nat} (h : GW w) (g : w.grownBy w' (some b)) (hb : 0 ≠ b) : GW w' := by
  obtain ⟨t, fr, h3⟩ := h
  exact ⟨t, fr, g_heap g h3 hb⟩
theorem bes_ge {R C a i : Nat} (hC : 1 ≤ C) (ha : a < R * C) (h : i ∈ besL R C a 4) : a - C ≤ i := by
  have hi := mem_bes_lt h
  have h2 := (Adj.bes_iff hC hi).1 h
  have h3 : a ∈ sbL R C i := (Adj.sb_iff hC hi ha).2 h2
  rcases Adj.mem_sbL.1 h3 with ⟨_, h4⟩ | ⟨_, h4⟩ | ⟨_, h4⟩ | ⟨_, h4⟩ <;> omega
theorem hv_ge {y : List Int} {m : Nat} (hm : m ≤ y.length) (h : ∀ i, i < m → y.getD i 0 < 4) : m ≤ hv y := by
  rcases Nat.lt_or_ge (hv y) m with h1 | h1
  · have h2 := h _ h1
    have h3 := hv_get (y := y) (by omega)
    omega
  · exact h1
end Go.Proofs.YtmbimekndhcgaaaDoor.Stt
