/- SettleHeap of both sides. -/
import Derived.Test.YtmbimekndhcgaaaDoorStt
import Derived.Test.YtmbimekndhcgaaaDoorLaid
namespace Go.Proofs.YtmbimekndhcgaaaDoor.Sth
open Go.RowKit Go.Proofs.YtmbimekndhcgaaaDoor.Rd Go.Proofs.YtmbimekndhcgaaaDoor.Help Go.Proofs.YtmbimekndhcgaaaDoor.Ring Go.Proofs.YtmbimekndhcgaaaDoor.Small Go.Proofs.YtmbimekndhcgaaaDoor.FVal Go.Proofs.YtmbimekndhcgaaaDoor.Keep Go.Proofs.YtmbimekndhcgaaaDoor.Rule Go.Proofs.YtmbimekndhcgaaaDoor.Grow Go.Proofs.YtmbimekndhcgaaaDoor.Bes Go.Proofs.YtmbimekndhcgaaaDoor.Box Go.Proofs.YtmbimekndhcgaaaDoor.Hea Go.Proofs.YtmbimekndhcgaaaDoor.Heb
set_option linter.unusedVariables false
set_option linter.unusedSimpArgs false

theorem own_cap {E : TypeId} {w : World} {b n k : Nat} {zs : List Int} (h : Rd.Own E w b (.slice (some ⟨b, 0, none⟩) n k) zs) : n ≤ k ∧ k ≤ maxLen := by
  rcases h.form with ⟨h1, _⟩ | ⟨cap, h1, h2, h3, _⟩
  · simp at h1
  · simp at h1
    obtain ⟨rfl, rfl⟩ := h1
    exact ⟨h2, h3⟩
theorem one_bd {B : Int} : ∀ (y : List Int) (k : Nat), (∀ x ∈ y, x ≤ B) → wsum (fun _ => 1) y k ≤ B * (y.length : Int)
  | [], k, _ => by simp [wsum]
  | z :: zs, k, h => by
    have h1 := one_bd zs (k + 1) (fun x hx => h x (by simp [hx]))
    have h2 := h z (by simp)
    show z * 1 + wsum (fun _ => 1) zs (k + 1) ≤ B * ((zs.length + 1 : Nat) : Int)
    rw [Int.natCast_add, Int.mul_add]
    simp
    omega
theorem hgd_of {n : Nat} {B : Int} {y : List Int} (hl : y.length = n) (h : ∀ x ∈ y, 0 ≤ x ∧ x ≤ B) : Hgd n (B * (n : Int)) y := by
  refine ⟨hl, fun i => ?_, by rw [← hl]; exact one_bd y 0 (fun x hx => (h x hx).2)⟩
  rcases Nat.lt_or_ge i y.length with hi | hi
  · rw [List.getD_eq_getElem?_getD, List.getElem?_eq_getElem hi]; exact (h _ (List.getElem_mem hi)).1
  · rw [List.getD_eq_getElem?_getD, List.getElem?_eq_none hi]; exact Int.le_refl _
theorem field_cells {R C : Nat} {zs : List Int} (h : fieldB R C zs = true) : ∀ x ∈ zs, 0 ≤ x ∧ x ≤ 9 := by
  simp only [fieldB, Bool.and_eq_true] at h
  have ha := h.2.2
  unfold allB at ha
  rw [List.all_eq_true] at ha
  intro x hx
  have := ha x hx
  simp [okB] at this
  omega
theorem hgd_field {R C n : Nat} {zs : List Int} (h : fieldB R C zs = true) (hn : n = R * C) : Hgd n (9 * (n : Int)) zs := hgd_of (by rw [hn]; exact (field_nat h).2.2.1) (field_cells h)

end Go.Proofs.YtmbimekndhcgaaaDoor.Sth
