/- A region that draws its order, within a round of a loop over a function: as outside of rounds, where no operation defers. -/
import Derived.OrdersIn
import Derived.TacticsIn
namespace Go.Proofs.Ytjeoccjemkdbiaa.Rin
set_option linter.unusedVariables false
/-- No operation of a region defers. -/
def noDefer (ops : Array Oper) : Bool := ops.all fun o => match o.op with | .defer _ => false | _ => true
theorem noDefer_at {ops : Array Oper} (h : noDefer ops = true) {i : Nat} {o : Oper} (hi : ops[i]? = some o) : ∀ c, o.op ≠ .defer c := by
  intro c hc
  have h1 := Array.all_eq_true_iff_forall_mem.1 h o (Array.mem_of_getElem? hi)
  rw [hc] at h1
  cases h1
theorem upon_round {F : Fence} {n l : Nat} {P : Program} {o : Oper} {a : Act} {K : Act → World → Prop} {Q : Exit → Act → World → Prop} {r : Result Next} (h : Oper.uponIn F n P o a K Q r) : Oper.uponIn (F.inRound l) n P o a K Q r := h
theorem op_round {F : Fence} {n l : Nat} {P : Program} {ops : Array Oper} {Q : Exit → Act → World → Prop} {i : Nat} {K K' : Act → World → Prop} {a : Act} {w : World} (hro : F.round = none) (hd : noDefer ops = true) (hk : ∀ a w, K a w → K' a w)
    (h : wpOpIn F n P ops Q i K a w) : wpOpIn (F.inRound l) n P ops Q i K' a w := by
  have h2 : wpOpIn F n P ops Q i K' a w := wpOpIn_mono hk h
  unfold wpOpIn at h2 ⊢
  cases ho : ops[i]? with
  | none => simp only [ho] at h2 ⊢; exact h2
  | some o =>
    simp only [ho] at h2 ⊢
    split
    · rename_i hw
      simp only [hw, if_true] at h2
      unfold Oper.wpIn at h2 ⊢
      rw [Oper.semAt_eq _ _ _ (noDefer_at hd ho)] at h2 ⊢
      exact h2
    · rename_i hw
      simp only [hw] at h2
      exact h2
theorem any_round {F : Fence} {n l : Nat} {P : Program} {md : Region.Mode} {ops : Array Oper} {Q : Exit → Act → World → Prop} (hro : F.round = none) (hd : noDefer ops = true) :
    ∀ (fuel : Nat) (listed : Array Bool) (a : Act) (w : World), wpAnyIn F n P md ops Q fuel listed a w → wpAnyIn (F.inRound l) n P md ops Q fuel listed a w
  | 0, _, _, _, h => h
  | fuel + 1, listed, a, w, h => ⟨h.1, fun i hi => op_round hro hd (any_round hro hd fuel _) (h.2 i hi)⟩
/-- The beginning: such a region within a round. -/
theorem wpIn_region_round {F : Fence} {n l : Nat} {P : Program} {ops : Array Oper} {Q : Exit → Act → World → Prop} {id : Nat} {a : Act} {w : World} (hro : F.round = none) (hm : P.follows .mixedOrders = true) (hd : noDefer ops = true)
    (h : wpAnyIn F n P .any ops Q ops.size (Array.replicate ops.size false) a w.drew) : (Code.region id ops true).wpIn (F.inRound l) n P Q a w :=
  wpIn_region_any hm (any_round hro hd _ _ _ _ h)
end Go.Proofs.Ytjeoccjemkdbiaa.Rin
