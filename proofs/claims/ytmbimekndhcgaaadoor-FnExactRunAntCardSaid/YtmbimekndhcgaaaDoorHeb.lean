/- Heaps come to an end: the sequence of topplings at the first heavy cell. -/
import Derived.Test.YtmbimekndhcgaaaDoorHea
namespace Go.Proofs.YtmbimekndhcgaaaDoor.Heb
open Go.RowKit Go.Proofs.YtmbimekndhcgaaaDoor.Grow Go.Proofs.YtmbimekndhcgaaaDoor.Sbe Go.Proofs.YtmbimekndhcgaaaDoor.Sfi Go.Proofs.YtmbimekndhcgaaaDoor.Hea Go.Proofs.YtmbimekndhcgaaaDoor.Adj
set_option linter.unusedVariables false
set_option linter.unusedSimpArgs false

def hv (y : List Int) : Nat := y.findIdx fun z => decide (4 ≤ z)
theorem hv_le (y : List Int) : hv y ≤ y.length := List.findIdx_le_length
theorem hv_get {y : List Int} (h : hv y < y.length) : 4 ≤ y.getD (hv y) 0 := by
  have := List.findIdx_getElem (p := fun z : Int => decide (4 ≤ z)) (xs := y) (w := h)
  have h2 : 4 ≤ y[List.findIdx (fun z : Int => decide (4 ≤ z)) y]'h := by simpa using this
  rw [List.getD_eq_getElem?_getD, List.getElem?_eq_getElem h]
  exact h2
theorem hv_before {y : List Int} {j : Nat} (h : j < hv y) : y.getD j 0 < 4 := by
  have := List.not_of_lt_findIdx (p := fun z : Int => decide (4 ≤ z)) (xs := y) (i := j) h
  have hj : j < y.length := Nat.lt_of_lt_of_le h (hv_le y)
  rw [List.getD_eq_getElem?_getD, List.getElem?_eq_getElem hj]
  simpa using this
theorem hv_eq {y : List Int} {a : Nat} (ha : a < y.length) (h4 : 4 ≤ y.getD a 0) (hb : ∀ j, j < a → y.getD j 0 < 4) : hv y = a := by
  rcases Nat.lt_trichotomy (hv y) a with h | h | h
  · have := hb _ h
    have := hv_get (y := y) (by omega)
    omega
  · exact h
  · have := hv_before h
    omega
theorem hv_none {y : List Int} (hb : ∀ j, j < y.length → y.getD j 0 < 4) : hv y = y.length := by
  rcases Nat.lt_or_ge (hv y) y.length with h | h
  · have := hb _ h
    have := hv_get h
    omega
  · exact Nat.le_antisymm (hv_le y) h

def Hgd (n : Nat) (T : Int) (y : List Int) : Prop := y.length = n ∧ (∀ i, 0 ≤ y.getD i 0) ∧ wsum (fun _ => 1) y 0 ≤ T
theorem nonneg_tail {z : Int} {zs : List Int} (h : ∀ i, 0 ≤ (z :: zs).getD i 0) : 0 ≤ z ∧ ∀ i, 0 ≤ zs.getD i 0 :=
  ⟨by simpa using h 0, fun i => by simpa using h (i + 1)⟩
theorem wsum_nonneg {φ : Nat → Int} : ∀ (y : List Int) (k : Nat), (∀ i, 0 ≤ y.getD i 0) → (∀ i, i < k + y.length → 0 ≤ φ i) → 0 ≤ wsum φ y k
  | [], k, _, _ => Int.le_refl _
  | z :: zs, k, h, hφ => by
    obtain ⟨h1, h2⟩ := nonneg_tail h
    have h3 := wsum_nonneg zs (k + 1) h2 (fun i hi => hφ i (by simp; omega))
    have h4 := Int.mul_nonneg h1 (hφ k (by simp))
    show 0 ≤ z * φ k + wsum φ zs (k + 1)
    omega
theorem one_le : ∀ (y : List Int) (k i : Nat), (∀ i, 0 ≤ y.getD i 0) → y.getD i 0 ≤ wsum (fun _ => 1) y k
  | [], k, i, _ => by simp [wsum]
  | z :: zs, k, i, h => by
    obtain ⟨h1, h2⟩ := nonneg_tail h
    have h3 := wsum_nonneg (φ := fun _ => 1) zs (k + 1) h2 (fun _ _ => by decide)
    show (z :: zs).getD i 0 ≤ z * 1 + wsum (fun _ => 1) zs (k + 1)
    cases i with
    | zero => simp; omega
    | succ i =>
      have := one_le zs (k + 1) i h2
      have e : (z :: zs).getD (i + 1) 0 = zs.getD i 0 := by simp
      rw [e]; omega
theorem Hgd.le {n : Nat} {T : Int} {y : List Int} (h : Hgd n T y) (i : Nat) : 0 ≤ y.getD i 0 ∧ y.getD i 0 ≤ T := ⟨h.2.1 i, Int.le_trans (one_le y 0 i h.2.1) h.2.2⟩
theorem fsum_one (L : List Nat) : fsum (fun _ => 1) L = (L.length : Int) := by
  unfold fsum
  induction L with
  | nil => rfl
  | cons x L ih => simp [ih]; omega
theorem Hgd.topple {R C n a : Nat} {T : Int} {y : List Int} (h : Hgd n T y) (hC : 1 ≤ C) (hn : n = R * C) (ha : a < n) (h4 : 4 ≤ y.getD a 0) : Hgd n T (topple y a (sbL R C a)) := by
  have hL : ∀ x ∈ sbL R C a, x < y.length := fun x hx => by rw [h.1, hn]; exact sb_mem hC (hn ▸ ha) hx
  have hay : a < y.length := by rw [h.1]; exact ha
  refine ⟨by rw [topple_len, h.1], fun i => ?_, ?_⟩
  · rw [topple_get hL hay i]
    have h1 := h.2.1 i
    by_cases hi : i = a
    · subst hi; rw [if_pos rfl]; omega
    · rw [if_neg hi]; omega
  · rw [wsum_topple _ hL hay, fsum_one]
    have h1 := sbL_len R C a
    have h2 := h.2.2
    omega
theorem pot_bd {R C i : Nat} (hR : R ≤ 24) (hi : i < R * C) : 0 ≤ pot R C i := by
  have hq : i / C < R := Nat.div_lt_of_lt_mul (by rw [Nat.mul_comm]; exact hi)
  rw [pot_row rfl]
  exact Int.mul_nonneg (Int.add_nonneg (Int.natCast_nonneg _) (by decide)) (Int.sub_nonneg_of_le (Int.ofNat_le.2 (Nat.le_of_lt hq)))
theorem pot_le {R C i : Nat} (hR : R ≤ 24) (hi : i < R * C) : pot R C i ≤ 576 := by
  have hq : i / C < R := Nat.div_lt_of_lt_mul (by rw [Nat.mul_comm]; exact hi)
  rw [pot_row rfl]
  generalize i / C = q at *
  have h1 : ((q : Int) + 1) * ((R : Int) - (q : Int)) ≤ 24 * 24 := Int.mul_le_mul (by omega) (by omega) (by omega) (by omega)
  omega
theorem wsum_le {φ : Nat → Int} {B : Int} : ∀ (y : List Int) (k : Nat), (∀ i, 0 ≤ y.getD i 0) → (∀ i, i < k + y.length → φ i ≤ B) → wsum φ y k ≤ B * wsum (fun _ => 1) y k
  | [], k, _, _ => by show (0 : Int) ≤ B * 0; simp
  | z :: zs, k, h, hφ => by
    obtain ⟨h1, h2⟩ := nonneg_tail h
    have h3 := wsum_le zs (k + 1) h2 (fun i hi => hφ i (by simp; omega))
    have h4 := Int.mul_le_mul_of_nonneg_left (hφ k (by simp)) h1
    show z * φ k + wsum φ zs (k + 1) ≤ B * (z * 1 + wsum (fun _ => 1) zs (k + 1))
    rw [Int.mul_add, Int.mul_one, Int.mul_comm B z]
    omega
def hseq (R C : Nat) (y : List Int) : Nat → List Int
  | 0 => y
  | k + 1 => topple (hseq R C y k) (hv (hseq R C y k)) (sbL R C (hv (hseq R C y k)))
theorem hseq_succ (R C : Nat) (y : List Int) : ∀ k, hseq R C (topple y (hv y) (sbL R C (hv y))) k = hseq R C y (k + 1)
  | 0 => rfl
  | k + 1 => by
    show topple (hseq R C (topple y (hv y) (sbL R C (hv y))) k) _ _ = topple (hseq R C y (k + 1)) _ _
    rw [hseq_succ R C y k]
theorem settles {R C n : Nat} {T : Int} (hC : 1 ≤ C) (hR : R ≤ 24) (hn : n = R * C) : ∀ (m : Nat) (y : List Int), Hgd n T y → wsum (pot R C) y 0 ≤ (m : Int) →
    ∃ N, N ≤ m ∧ hv (hseq R C y N) = n ∧ ∀ j, j < N → hv (hseq R C y j) < n
  | m, y, hg, hm => by
    rcases Nat.lt_or_ge (hv y) n with h | h
    · have h4 := hv_get (y := y) (by rw [hg.1]; exact h)
      have hL : ∀ x ∈ sbL R C (hv y), x < y.length := fun x hx => by rw [hg.1, hn]; exact sb_mem hC (hn ▸ h) hx
      have hw := wsum_topple (pot R C) hL (by rw [hg.1]; exact h)
      have hd := pot_drop (R := R) hC (hn ▸ h)
      have hg' := hg.topple hC hn h h4
      have h0 := wsum_nonneg (φ := pot R C) _ 0 hg'.2.1 (fun i hi => pot_bd hR (by rw [hg'.1] at hi; rw [← hn]; omega))
      cases m with
      | zero => omega
      | succ m =>
        obtain ⟨N, h1, h2, h3⟩ := settles hC hR hn m _ hg' (by omega)
        refine ⟨N + 1, by omega, by rw [← hseq_succ]; exact h2, fun j hj => ?_⟩
        cases j with
        | zero => exact h
        | succ j => rw [← hseq_succ]; exact h3 j (by omega)
    · exact ⟨0, Nat.zero_le _, Nat.le_antisymm (by rw [← hg.1]; exact hv_le y) h, fun j hj => by omega⟩
theorem hseq_good {R C n : Nat} {T : Int} (hC : 1 ≤ C) (hn : n = R * C) {y : List Int} (hg : Hgd n T y) {N : Nat} (h : ∀ j, j < N → hv (hseq R C y j) < n) : ∀ j, j ≤ N → Hgd n T (hseq R C y j)
  | 0, _ => hg
  | j + 1, hj => by
    have ih := hseq_good hC hn hg h j (by omega)
    have h1 := h j (by omega)
    exact ih.topple hC hn h1 (hv_get (by rw [ih.1]; exact h1))
/-- Any heap of few grains settles. -/
theorem settle_ex {R C n : Nat} {T : Int} (hC : 1 ≤ C) (hR : R ≤ 24) (hn : n = R * C) (hT : T ≤ 20000) {y : List Int} (hg : Hgd n T y) :
    ∃ N, N ≤ 11520000 ∧ hv (hseq R C y N) = n ∧ ∀ j, j < N → hv (hseq R C y j) < n := by
  have h1 := wsum_le (φ := pot R C) (B := 576) y 0 hg.2.1 (fun i hi => pot_le hR (by rw [hg.1] at hi; rw [← hn]; omega))
  have h2 := hg.2.2
  exact settles hC hR hn 11520000 y hg (by omega)
end Go.Proofs.YtmbimekndhcgaaaDoor.Heb
