/- TotalRule: both sides agree. -/
import Derived.Test.YtonghkooncmjgaaTotS
namespace Go.Proofs.Ytonghkooncmjgaa.TotA
open Go.RowKit Go.Proofs.Ytonghkooncmjgaa.Rd Go.Proofs.Ytonghkooncmjgaa.Help Go.Proofs.Ytonghkooncmjgaa.App Go.Proofs.Ytonghkooncmjgaa.Ring Go.Proofs.Ytonghkooncmjgaa.Small Go.Proofs.Ytonghkooncmjgaa.Num Go.Proofs.Ytonghkooncmjgaa.Keep Go.Proofs.Ytonghkooncmjgaa.Rule Go.Proofs.Ytonghkooncmjgaa.Dig Go.Proofs.Ytonghkooncmjgaa.DigP Go.Proofs.Ytonghkooncmjgaa.Tell Go.Proofs.Ytonghkooncmjgaa.Weigh Go.Proofs.Ytonghkooncmjgaa.Give Go.Proofs.Ytonghkooncmjgaa.Tot Go.Proofs.Ytonghkooncmjgaa.TotS
set_option linter.unusedVariables false
set_option linter.unusedSimpArgs false
set_option maxRecDepth 4000

theorem all_of {s : Int} {zs : List Int} (h : ∀ k, k < zs.length → 0 ≤ zs.getD k 0 ∧ zs.getD k 0 ≤ s - 1) : allB zs s = true := by
  simp only [allB, List.all_eq_true]
  intro x hx
  obtain ⟨k, hk, rfl⟩ := List.getElem_of_mem hx
  have := h k hk
  simp only [List.getD, List.getElem?_eq_getElem hk, Option.getD_some] at this
  simp [okB]; exact this

theorem hit21 : ∀ i, i < 2 → ∃ k, k < 2 ∧ sumL (dig 2 (k : Nat) 1) = ((i : Nat) : Int) := by decide +kernel
theorem hit23 : ∀ i, i < 4 → ∃ k, k < 8 ∧ sumL (dig 2 (k : Nat) 3) = ((i : Nat) : Int) := by decide +kernel
theorem hit25 : ∀ i, i < 6 → ∃ k, k < 32 ∧ sumL (dig 2 (k : Nat) 5) = ((i : Nat) : Int) := by decide +kernel
theorem hit31 : ∀ i, i < 3 → ∃ k, k < 3 ∧ sumL (dig 3 (k : Nat) 1) = ((i : Nat) : Int) := by decide +kernel
theorem hit33 : ∀ i, i < 7 → ∃ k, k < 27 ∧ sumL (dig 3 (k : Nat) 3) = ((i : Nat) : Int) := by decide +kernel
theorem hit35 : ∀ i, i < 11 → ∃ k, k < 243 ∧ sumL (dig 3 (k : Nat) 5) = ((i : Nat) : Int) := by decide +kernel

theorem hit {s r : Int} {L M : Nat} (hs : 2 ≤ s ∧ s ≤ 3) (hr : 0 ≤ r ∧ r ≤ 2) (hL : (L : Int) = 2 * r + 1) (hM : (M : Int) = s ^ L) {i : Nat} (hi : (i : Int) < (2 * r + 1) * (s - 1) + 1) :
    ∃ k, k < M ∧ sumL (dig s (k : Nat) L) = (i : Int) := by
  rcases (show s = 2 ∨ s = 3 by omega) with rfl | rfl <;> rcases (show L = 1 ∨ L = 3 ∨ L = 5 by omega) with rfl | rfl | rfl
  · have : M = 2 := by have h : (M : Int) = 2 := by rw [hM]; rfl
                       omega
    subst this; exact hit21 i (by omega)
  · have : M = 8 := by have h : (M : Int) = 8 := by rw [hM]; rfl
                       omega
    subst this; exact hit23 i (by omega)
  · have : M = 32 := by have h : (M : Int) = 32 := by rw [hM]; rfl
                        omega
    subst this; exact hit25 i (by omega)
  · have : M = 3 := by have h : (M : Int) = 3 := by rw [hM]; rfl
                       omega
    subst this; exact hit31 i (by omega)
  · have : M = 27 := by have h : (M : Int) = 27 := by rw [hM]; rfl
                        omega
    subst this; exact hit33 i (by omega)
  · have : M = 243 := by have h : (M : Int) = 243 := by rw [hM]; rfl
                         omega
    subst this; exact hit35 i (by omega)

theorem tab_valid {s r : Int} {L M : Nat} {told : List Int} (hs : 2 ≤ s ∧ s ≤ 3) (hr : 0 ≤ r ∧ r ≤ 2) (hL : (L : Int) = 2 * r + 1) (hM : (M : Int) = s ^ L) (hl : (told.length : Int) = (2 * r + 1) * (s - 1) + 1) :
    validB s r (tab (totT s told L) M) = allB told s := by
  have hlen : ((tab (totT s told L) M).length : Int) = s ^ (2 * r + 1).toNat := by rw [tab_length, hM]; congr 1; omega
  have hsh : shapeB s r = true := by simp [shapeB]; omega
  have hv : validB s r (tab (totT s told L) M) = allB (tab (totT s told L) M) s := by
    unfold validB
    rw [hsh, decide_eq_true hlen]; rfl
  rw [hv, Bool.eq_iff_iff]
  constructor
  · intro h
    refine all_of fun i hi => ?_
    obtain ⟨k, hk, he⟩ := hit hs hr hL hM (i := i) (by omega)
    have h1 := all_get h (i := k) (by rw [tab_length]; exact hk)
    rw [tab_get _ _ _ hk] at h1
    unfold totT at h1
    rw [he] at h1
    simpa using h1
  · intro h
    refine all_of fun k hk => ?_
    rw [tab_length] at hk
    rw [tab_get _ _ _ hk]
    unfold totT
    have h1 := sumL_bd hs (dig_all hs (k : Int) L)
    rw [dig_length, hL] at h1
    exact all_get h (by omega)

end Go.Proofs.Ytonghkooncmjgaa.TotA
