/- Words that come behind steps: lists that tell of numbers whether something is so (pure). -/
import Derived.Test.YtjeoccjemkdbiaaDigP
namespace Go.Proofs.Ytjeoccjemkdbiaa.CwP
open Go.Proofs.Ytjeoccjemkdbiaa.Rd Go.Proofs.Ytjeoccjemkdbiaa.Help Go.Proofs.Ytjeoccjemkdbiaa.Ring Go.Proofs.Ytjeoccjemkdbiaa.Rule Go.Proofs.Ytjeoccjemkdbiaa.Dig Go.Proofs.Ytjeoccjemkdbiaa.DigP
set_option linter.unusedVariables false
set_option linter.unusedSimpArgs false

theorem dig_add {s : Int} (hs : 2 ≤ s ∧ s ≤ 3) (a y : Int) (k : Nat) : ∀ j, j ≤ k → dig s (a * s ^ k + y) j = dig s y j
  | 0, _ => rfl
  | j + 1, hj => by
    have ih := dig_add hs a y k j (by omega)
    show ((a * s ^ k + y) / s ^ j % s) :: dig s (a * s ^ k + y) j = (y / s ^ j % s) :: dig s y j
    rw [ih]
    have hp := pow_pos' hs j
    obtain ⟨m, rfl⟩ : ∃ m, k = j + 1 + m := ⟨k - (j + 1), by omega⟩
    have e1 : a * s ^ (j + 1 + m) + y = y + (a * s ^ m * s) * s ^ j := by
      rw [Int.pow_add, Int.pow_succ, Int.mul_assoc (s ^ j), Int.mul_comm (s ^ j) (s * s ^ m), ← Int.mul_assoc, Int.mul_comm s (s ^ m), ← Int.mul_assoc a, Int.add_comm]
    rw [e1, Int.add_mul_ediv_right _ _ (by omega), Int.add_mul_emod_self_right]
theorem dig_num {s : Int} (hs : 2 ≤ s ∧ s ≤ 3) : ∀ (zs : List Int), allB zs s = true → dig s (numL zs s) zs.length = zs
  | [], _ => rfl
  | a :: ys, h => by
    have hya : allB ys s = true := by unfold allB at h ⊢; rw [List.all_cons, Bool.and_eq_true] at h; exact h.2
    have haa : 0 ≤ a ∧ a ≤ s - 1 := by
      unfold allB at h; rw [List.all_cons, Bool.and_eq_true] at h
      have h2 := h.1
      simp only [okB, decide_eq_true_eq] at h2; exact h2
    have hb := numL_bd hs hya
    have hp := pow_pos' hs ys.length
    rw [numL_cons]
    show ((a * s ^ ys.length + numL ys s) / s ^ ys.length % s) :: dig s (a * s ^ ys.length + numL ys s) ys.length = a :: ys
    rw [dig_add hs a (numL ys s) ys.length ys.length (Nat.le_refl _), dig_num hs ys hya, Int.add_comm, Int.add_mul_ediv_right _ _ (by omega), Int.ediv_eq_zero_of_lt hb.1 hb.2, Int.zero_add, Int.emod_eq_of_lt haa.1 (by omega)]

section
attribute [local instance] Classical.propDecidable
/-- Which of the first m numbers are as told. -/
noncomputable def lo (m : Nat) (p : Nat → Prop) : List Bool := (List.range m).map (fun j => decide (p j))
theorem lo_length (m : Nat) (p : Nat → Prop) : (lo m p).length = m := by simp [lo]
theorem lo_get {m : Nat} {p : Nat → Prop} {j : Nat} (h : j < m) : (lo m p).getD j false = true ↔ p j := by
  simp [lo, List.getD_eq_getElem?_getD, List.getElem?_map, List.getElem?_range, h]
theorem lo_congr {m : Nat} {p q : Nat → Prop} (h : ∀ j, j < m → (p j ↔ q j)) : lo m p = lo m q := by
  unfold lo
  apply List.map_congr_left
  intro j hj
  have := h j (List.mem_range.1 hj)
  by_cases e : p j
  · rw [decide_eq_true e, decide_eq_true (this.1 e)]
  · rw [decide_eq_false e, decide_eq_false (fun x => e (this.2 x))]
theorem lo_set {m : Nat} {p : Nat → Prop} {j : Nat} (h : j < m) : (lo m p).set j true = lo m (fun i => p i ∨ i = j) := by
  apply List.ext_getElem
  · simp [lo]
  · intro i h1 h2
    have hi : i < m := by simpa [lo] using h2
    by_cases e : j = i
    · subst e; simp [lo]
    · rw [List.getElem_set_ne e]
      simp only [lo, List.getElem_map, List.getElem_range]
      by_cases c : p i
      · rw [decide_eq_true c, decide_eq_true (Or.inl c)]
      · rw [decide_eq_false c, decide_eq_false (fun x => x.elim c (fun y => e y.symm))]
theorem lo_false (m : Nat) : List.replicate m false = lo m (fun _ => False) := by
  apply List.ext_getElem
  · simp [lo]
  · intro i h1 h2
    simp [lo]
theorem lo_true (m : Nat) : List.replicate m true = lo m (fun _ => True) := by
  apply List.ext_getElem
  · simp [lo]
  · intro i h1 h2
    simp [lo]

end
section
variable (tbl : List Int) (s r : Int)
/-- What a word becomes. -/
def nextW (zs : List Int) : List Int := (List.range (zs.length - (2 * r).toNat)).map (fun i => tbl.getD (numL ((zs.drop i).take (2 * r + 1).toNat) s).toNat 0)
theorem nextW_length (zs : List Int) : (nextW tbl s r zs).length = zs.length - (2 * r).toNat := by simp [nextW]
def iterW : Nat → List Int → List Int
  | 0, zs => zs
  | t + 1, zs => nextW tbl s r (iterW t zs)
def numN (zs : List Int) : Nat := (numL zs s).toNat
def pw (L : Nat) : Nat := (s ^ L).toNat
end
section
variable {tbl : List Int} {s r : Int}
/-- A rule as words want it. -/
structure Ok (tbl : List Int) (s r : Int) : Prop where
  st : 2 ≤ s ∧ s ≤ 3
  re : 0 ≤ r ∧ r ≤ 2
  len : (tbl.length : Int) = s ^ (2 * r + 1).toNat
  ta : allB tbl s = true
theorem pw_cast (h : 2 ≤ s ∧ s ≤ 3) (L : Nat) : ((pw s L : Nat) : Int) = s ^ L := by
  unfold pw
  exact Int.toNat_of_nonneg (Int.le_of_lt (pow_pos' h L))
theorem num_cast (h : 2 ≤ s ∧ s ≤ 3) {zs : List Int} (ha : allB zs s = true) : ((numN s zs : Nat) : Int) = numL zs s := by
  unfold numN
  exact Int.toNat_of_nonneg (numL_bd h ha).1
theorem num_lt (h : 2 ≤ s ∧ s ≤ 3) {zs : List Int} (ha : allB zs s = true) : numN s zs < pw s zs.length := by
  have h1 := (numL_bd h ha).2
  have h2 := num_cast h ha
  have h3 := pw_cast h zs.length
  omega
theorem told_in (h : Ok tbl s r) {zs : List Int} (ha : allB zs s = true) {i : Nat} (hi : i + (2 * r + 1).toNat ≤ zs.length) : numN s ((zs.drop i).take (2 * r + 1).toNat) < tbl.length := by
  have h1 := num_lt h.st (all_take (all_drop ha i) (2 * r + 1).toNat)
  have h2 := h.len
  have h3 := pw_cast h.st (2 * r + 1).toNat
  have h4 : ((zs.drop i).take (2 * r + 1).toNat).length = (2 * r + 1).toNat := by simp; omega
  rw [h4] at h1
  omega
theorem nextW_all (h : Ok tbl s r) {zs : List Int} (ha : allB zs s = true) : allB (nextW tbl s r zs) s = true := by
  unfold nextW allB
  rw [List.all_map, List.all_eq_true]
  intro i hi
  have hi' := List.mem_range.1 hi
  have hr := h.re
  have h1 := told_in h ha (i := i) (by omega)
  have h2 := all_get h.ta h1
  unfold numN at h2
  simp only [Function.comp, okB, decide_eq_true_eq]
  exact h2
theorem iterW_all (h : Ok tbl s r) {zs : List Int} (ha : allB zs s = true) : ∀ t, allB (iterW tbl s r t zs) s = true
  | 0 => ha
  | t + 1 => nextW_all h (iterW_all h ha t)
theorem iterW_length (tbl : List Int) (s r : Int) (zs : List Int) : ∀ t, (iterW tbl s r t zs).length = zs.length - (2 * r).toNat * t
  | 0 => by simp [iterW]
  | t + 1 => by
    show (nextW tbl s r (iterW tbl s r t zs)).length = _
    rw [nextW_length, iterW_length tbl s r zs t, Nat.mul_add, Nat.mul_one]; omega
/-- What comes behind t steps, from words of A cells. -/
def cm (tbl : List Int) (s r : Int) (A t j : Nat) : Prop := ∃ k, k < pw s A ∧ numN s (iterW tbl s r t (dig s (k : Int) A)) = j
theorem num_dig (h : 2 ≤ s ∧ s ≤ 3) {A k : Nat} (hk : k < pw s A) : numN s (dig s (k : Int) A) = k := by
  have h3 := pw_cast h A
  unfold numN
  rw [numL_dig_lt h (by omega) (by omega)]; omega
theorem cm_zero (h : 2 ≤ s ∧ s ≤ 3) (A : Nat) : lo (pw s A) (fun _ => True) = lo (pw s A) (cm tbl s r A 0) :=
  lo_congr fun j hj => ⟨fun _ => ⟨j, hj, num_dig h hj⟩, fun _ => trivial⟩
/-- One step more. -/
theorem cm_succ (h : Ok tbl s r) {A t L : Nat} (hL : L = A - (2 * r).toNat * t) (j : Nat) :
    (∃ i, i < pw s L ∧ cm tbl s r A t i ∧ numN s (nextW tbl s r (dig s (i : Int) L)) = j) ↔ cm tbl s r A (t + 1) j := by
  have back : ∀ k, k < pw s A → numN s (iterW tbl s r t (dig s (k : Int) A)) < pw s L ∧ dig s ((numN s (iterW tbl s r t (dig s (k : Int) A)) : Nat) : Int) L = iterW tbl s r t (dig s (k : Int) A) := by
    intro k hk
    have ha := iterW_all h (dig_all h.st (k : Int) A) t
    have hl : (iterW tbl s r t (dig s (k : Int) A)).length = L := by rw [iterW_length, dig_length, hL]
    have h1 := num_lt h.st ha
    rw [hl] at h1
    refine ⟨h1, ?_⟩
    rw [num_cast h.st ha]
    have := dig_num h.st _ ha
    rw [hl] at this
    exact this
  constructor
  · rintro ⟨i, hi, ⟨k, hk, hki⟩, hj⟩
    refine ⟨k, hk, ?_⟩
    have hb := (back k hk).2
    rw [hki] at hb
    show numN s (nextW tbl s r (iterW tbl s r t (dig s (k : Int) A))) = j
    rw [← hb]; exact hj
  · rintro ⟨k, hk, hj⟩
    obtain ⟨h1, h2⟩ := back k hk
    exact ⟨_, h1, ⟨k, hk, rfl⟩, by rw [h2]; exact hj⟩
end
end Go.Proofs.Ytjeoccjemkdbiaa.CwP
