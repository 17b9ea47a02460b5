/- PasteField of both sides. -/
import Derived.Test.YtmbimekndhcgaaaGrow
import Derived.Test.YtmbimekndhcgaaaFCut
import Derived.Test.YtmbimekndhcgaaaSOwn
import Derived.Test.YtmbimekndhcgaaaApart
namespace Go.Proofs.Ytmbimekndhcgaaa.FPst
open Go.RowKit Go.Proofs.Ytmbimekndhcgaaa.Rd Go.Proofs.Ytmbimekndhcgaaa.Help Go.Proofs.Ytmbimekndhcgaaa.Ring Go.Proofs.Ytmbimekndhcgaaa.Small Go.Proofs.Ytmbimekndhcgaaa.FVal Go.Proofs.Ytmbimekndhcgaaa.Keep Go.Proofs.Ytmbimekndhcgaaa.Rule Go.Proofs.Ytmbimekndhcgaaa.Grow Go.Proofs.Ytmbimekndhcgaaa.Copy Go.Proofs.Ytmbimekndhcgaaa.FCut
set_option linter.unusedVariables false
set_option linter.unusedSimpArgs false

/-- Behind p rows, and q cells of the next one, that are put on. -/
def pst (zs ps : List Int) (C Q ra rb p q i k : Nat) : Int :=
  if rb ≤ k ∧ k < rb + Q ∧ ra ≤ i ∧ (i < ra + p ∨ (i = ra + p ∧ k < rb + q)) then ps.getD ((i - ra) * Q + (k - rb)) 0 else zs.getD (i * C + k) 0
/-- The cells of a field on which another one is put. -/
def pasteL (zs ps : List Int) (R C P Q ra rb : Nat) : List Int := grid R C (pst zs ps C Q ra rb P 0)
theorem pst_start {zs ps : List Int} {R C Q ra rb : Nat} (h : zs.length = R * C) : AtG zs R C (pst zs ps C Q ra rb 0 0) :=
  ⟨h, fun i k _ _ => by rw [pst, if_neg (by omega)]⟩
theorem pst_end {zs ps ys : List Int} {R C P Q ra rb : Nat} (h : AtG ys R C (pst zs ps C Q ra rb P 0)) : ys = pasteL zs ps R C P Q ra rb := at_grid h.1 h.2
theorem pst_row {zs ps ys : List Int} {R C Q ra rb p : Nat} (h : AtG ys R C (pst zs ps C Q ra rb p Q)) : AtG ys R C (pst zs ps C Q ra rb (p + 1) 0) := by
  refine ⟨h.1, fun i k hi hk => ?_⟩
  rw [h.2 i k hi hk, pst, pst]
  by_cases c : rb ≤ k ∧ k < rb + Q ∧ ra ≤ i ∧ (i < ra + p ∨ (i = ra + p ∧ k < rb + Q))
  · rw [if_pos c, if_pos (by omega)]
  · rw [if_neg c, if_neg (by omega)]
theorem same_place {C i k j l : Nat} (hk : k < C) (hl : l < C) (h : i * C + k = j * C + l) : i = j ∧ k = l := by
  have h1 := pos_div (i := i) hk
  have h2 := pos_div (i := j) hl
  rw [h] at h1
  exact ⟨h1.1.symm.trans h2.1, h1.2.symm.trans h2.2⟩
theorem pst_set {zs ps ys : List Int} {R C Q ra rb p q : Nat} (h : AtG ys R C (pst zs ps C Q ra rb p q)) (hp : ra + p < R) (hq : rb + q < C) (hQ : q < Q) :
    AtG (ys.set ((ra + p) * C + (rb + q)) (ps.getD (p * Q + q) 0)) R C (pst zs ps C Q ra rb p (q + 1)) := by
  have hb := pos_bd hp hq
  refine ⟨by rw [List.length_set]; exact h.1, fun i k hi hk => ?_⟩
  by_cases e : i * C + k = (ra + p) * C + (rb + q)
  · obtain ⟨e1, e2⟩ := same_place hk hq e
    rw [e, pst, if_pos (by omega), show i - ra = p by omega, show k - rb = q by omega]
    simp only [List.getD]
    rw [List.getElem?_set_self (by rw [h.1]; exact hb)]
    rfl
  · have hs := h.2 i k hi hk
    simp only [List.getD] at hs ⊢
    rw [List.getElem?_set_ne (fun x => e x.symm), hs, pst, pst]
    have e' : ¬ (i = ra + p ∧ k = rb + q) := fun x => e (by rw [x.1, x.2])
    by_cases c : rb ≤ k ∧ k < rb + Q ∧ ra ≤ i ∧ (i < ra + p ∨ (i = ra + p ∧ k < rb + q))
    · rw [if_pos c, if_pos (by omega)]
    · rw [if_neg c, if_neg (by omega)]
theorem pst_splice {zs ps ys xs : List Int} {R C Q ra rb p : Nat} (h : AtG ys R C (pst zs ps C Q ra rb p 0)) (hp : ra + p < R) (hq : rb + Q ≤ C) (hx : xs.length = Q) (hf : ∀ k, k < Q → xs.getD k 0 = ps.getD (p * Q + k) 0) :
    AtG (splice ys ((ra + p) * C + rb) xs) R C (pst zs ps C Q ra rb (p + 1) 0) := by
  have hin := Row.row_in (C := C) hp
  have hfit : (ra + p) * C + rb + xs.length ≤ ys.length := by rw [h.1, hx]; omega
  refine ⟨by rw [length_splice _ _ _ hfit]; exact h.1, fun i k hi hk => ?_⟩
  rw [splice_get hfit, hx]
  rcases Nat.lt_trichotomy i (ra + p) with hip | hip | hip
  · have hm := Nat.mul_le_mul_right C (show i + 1 ≤ ra + p by omega)
    rw [Nat.succ_mul] at hm
    rw [if_neg (by omega), h.2 i k hi hk, pst, pst]
    by_cases c : rb ≤ k ∧ k < rb + Q ∧ ra ≤ i ∧ (i < ra + p ∨ (i = ra + p ∧ k < rb + 0))
    · rw [if_pos c, if_pos (by omega)]
    · rw [if_neg c, if_neg (by omega)]
  · subst hip
    by_cases c : rb ≤ k ∧ k < rb + Q
    · rw [if_pos (by omega), show (ra + p) * C + k - ((ra + p) * C + rb) = k - rb by omega, hf _ (by omega), pst, if_pos (by omega), show ra + p - ra = p by omega]
    · rw [if_neg (by omega), h.2 _ k hi hk, pst, pst, if_neg (by omega), if_neg (by omega)]
  · have hm := Nat.mul_le_mul_right C (show ra + p + 1 ≤ i by omega)
    rw [Nat.succ_mul] at hm
    rw [if_neg (by omega), h.2 i k hi hk, pst, pst, if_neg (by omega), if_neg (by omega)]
theorem gTr {w0 w w' : World} {b : Nat} (g : w0.grownBy w (some b)) (h : w.grownBy w' (some b)) : w0.grownBy w' (some b) :=
  ⟨h.os.trans g.os, h.tape.trans g.tape, h.output.trans g.output, Nat.le_trans g.size h.size, fun k hk hne => (h.block k (Nat.lt_of_lt_of_le hk g.size) hne).trans (g.block k hk hne)⟩

end Go.Proofs.Ytmbimekndhcgaaa.FPst
