/- Digits of numbers, and the numbers that digits make: no program. -/
import Derived.Test.YtjeoccjemkdbiaaRing
namespace Go.Proofs.Ytjeoccjemkdbiaa.Dig
open Go.RowKit Go.Proofs.Ytjeoccjemkdbiaa.Ring
set_option linter.unusedVariables false

/-- The last k digits of x, the greatest one first. -/
def dig (s x : Int) : Nat → List Int
  | 0 => []
  | k + 1 => (x / s ^ k % s) :: dig s x k
theorem dig_length (s x : Int) (k : Nat) : (dig s x k).length = k := by
  induction k with
  | zero => rfl
  | succ k ih => simp [dig, ih]
theorem dig_all {s : Int} (hs : 2 ≤ s ∧ s ≤ 3) (x : Int) (k : Nat) : allB (dig s x k) s = true := by
  induction k with
  | zero => rfl
  | succ k ih =>
    unfold allB at ih ⊢
    simp only [dig, List.all_cons, ih, Bool.and_true, okB, decide_eq_true_eq]
    have h1 := Int.emod_nonneg (x / s ^ k) (show s ≠ 0 by omega)
    have h2 := Int.emod_lt_of_pos (x / s ^ k) (show 0 < s by omega)
    omega

/-- The number whose digits are zs, the greatest one first. -/
def numL (zs : List Int) (s : Int) : Int := zs.foldl (fun n x => n * s + x) 0
theorem numL_nil (s : Int) : numL [] s = 0 := rfl
theorem numL_snoc (zs : List Int) (x s : Int) : numL (zs ++ [x]) s = numL zs s * s + x := by simp [numL]
theorem numL_take (zs : List Int) (s : Int) (k : Nat) (h : k < zs.length) : numL (zs.take (k + 1)) s = numL (zs.take k) s * s + zs.getD k 0 := by
  rw [List.take_succ_eq_append_getElem h, numL_snoc]
  simp [List.getD, h]
theorem foldl_num (s : Int) (zs : List Int) : ∀ n : Int, zs.foldl (fun n x => n * s + x) n = n * s ^ zs.length + numL zs s := by
  induction zs with
  | nil => intro n; simp [numL]
  | cons a zs ih =>
    intro n
    unfold numL
    simp only [List.foldl_cons, List.length_cons]
    rw [ih, ih (0 * s + a), Int.pow_succ, Int.zero_mul, Int.zero_add, Int.add_mul, Int.mul_assoc, Int.mul_comm s]
    omega
theorem numL_cons (a s : Int) (zs : List Int) : numL (a :: zs) s = a * s ^ zs.length + numL zs s := by
  have := foldl_num s zs a
  unfold numL
  simp only [List.foldl_cons, Int.zero_mul, Int.zero_add]
  exact this
theorem pow_pos' {s : Int} (hs : 2 ≤ s ∧ s ≤ 3) (k : Nat) : 0 < s ^ k := by
  induction k with
  | zero => simp
  | succ k ih => rw [Int.pow_succ]; exact Int.mul_pos ih (by omega)
theorem pow_le' {s : Int} (hs : 2 ≤ s ∧ s ≤ 3) {j k : Nat} (h : j ≤ k) : s ^ j ≤ s ^ k := by
  obtain ⟨d, rfl⟩ := Nat.exists_eq_add_of_le h
  rw [Int.pow_add]
  have h1 := pow_pos' hs j
  have h2 := pow_pos' hs d
  calc s ^ j = s ^ j * 1 := (Int.mul_one _).symm
    _ ≤ s ^ j * s ^ d := Int.mul_le_mul_of_nonneg_left (by omega) (by omega)
theorem pow_16 {s : Int} (hs : 2 ≤ s ∧ s ≤ 3) {k : Nat} (h : k ≤ 16) : s ^ k ≤ 43046721 := by
  have h1 := pow_le' hs h
  rcases (show s = 2 ∨ s = 3 by omega) with rfl | rfl
  · have : (2 : Int) ^ 16 = 65536 := by decide
    omega
  · have : (3 : Int) ^ 16 = 43046721 := by decide
    omega
theorem numL_bd {s : Int} (hs : 2 ≤ s ∧ s ≤ 3) {zs : List Int} (h : allB zs s = true) : 0 ≤ numL zs s ∧ numL zs s < s ^ zs.length := by
  induction zs with
  | nil => simp [numL]
  | cons a zs ih =>
    unfold allB at h ih
    simp only [List.all_cons, Bool.and_eq_true, okB, decide_eq_true_eq] at h
    have h1 := ih h.2
    rw [numL_cons, List.length_cons, Int.pow_succ]
    have h2 := pow_pos' hs zs.length
    generalize numL zs s = X at *
    generalize s ^ zs.length = P at *
    obtain ⟨⟨g1, g2⟩, _⟩ := h
    rcases (show s = 2 ∨ s = 3 by omega) with rfl | rfl
    · rcases (show a = 0 ∨ a = 1 by omega) with rfl | rfl <;> omega
    · rcases (show a = 0 ∨ a = 1 ∨ a = 2 by omega) with rfl | rfl | rfl <;> omega
theorem all_take {zs : List Int} {s : Int} (h : allB zs s = true) (k : Nat) : allB (zs.take k) s = true := by
  unfold allB at h ⊢
  rw [List.all_eq_true] at h ⊢
  exact fun x hx => h x (List.mem_of_mem_take hx)
theorem all_drop {zs : List Int} {s : Int} (h : allB zs s = true) (k : Nat) : allB (zs.drop k) s = true := by
  unfold allB at h ⊢
  rw [List.all_eq_true] at h ⊢
  exact fun x hx => h x (List.mem_of_mem_drop hx)
theorem all_get {zs : List Int} {s : Int} (h : allB zs s = true) {i : Nat} (hi : i < zs.length) : 0 ≤ zs.getD i 0 ∧ zs.getD i 0 ≤ s - 1 := by
  unfold allB at h
  rw [List.all_eq_true] at h
  have := h (zs[i]) (List.getElem_mem hi)
  simp only [okB, decide_eq_true_eq] at this
  simpa [List.getD, hi] using this
theorem numL_take_bd {s : Int} (hs : 2 ≤ s ∧ s ≤ 3) {zs : List Int} (h : allB zs s = true) (k : Nat) : 0 ≤ numL (zs.take k) s ∧ numL (zs.take k) s < s ^ zs.length := by
  have h1 := numL_bd hs (all_take h k)
  have h2 := pow_le' hs (show (zs.take k).length ≤ zs.length by simp; omega)
  omega
theorem numL_dig {s : Int} (hs : 2 ≤ s ∧ s ≤ 3) (x : Int) (k : Nat) : numL (dig s x k) s = x % s ^ k := by
  induction k with
  | zero => simp [dig, numL, Int.emod_one]
  | succ k ih =>
    have hp := pow_pos' hs k
    rw [dig, numL_cons, dig_length, ih, Int.pow_succ]
    have e1 : x % s ^ k = x - s ^ k * (x / s ^ k) := Int.emod_def _ _
    have e2 : x % (s ^ k * s) = x - s ^ k * s * (x / (s ^ k * s)) := Int.emod_def _ _
    have e3 : x / (s ^ k * s) = x / s ^ k / s := by rw [Int.ediv_ediv_of_nonneg (by omega)]
    have e4 : x / s ^ k % s = x / s ^ k - s * (x / s ^ k / s) := Int.emod_def _ _
    rw [e1, e2, e3, e4]
    generalize x / s ^ k = Y
    generalize s ^ k = P
    rw [Int.sub_mul, Int.mul_comm Y P, Int.mul_assoc P s, Int.mul_comm (s * (Y / s)) P]
    omega
theorem numL_dig_lt {s : Int} (hs : 2 ≤ s ∧ s ≤ 3) {x : Int} {k : Nat} (h0 : 0 ≤ x) (hx : x < s ^ k) : numL (dig s x k) s = x := by
  rw [numL_dig hs, Int.emod_eq_of_lt h0 hx]

/-- The sum of a list. -/
def sumL (zs : List Int) : Int := zs.foldl (fun n x => n + x) 0
theorem sumL_snoc (zs : List Int) (x : Int) : sumL (zs ++ [x]) = sumL zs + x := by simp [sumL]
theorem sumL_take (zs : List Int) (k : Nat) (h : k < zs.length) : sumL (zs.take (k + 1)) = sumL (zs.take k) + zs.getD k 0 := by
  rw [List.take_succ_eq_append_getElem h, sumL_snoc]
  simp [List.getD, h]
theorem foldl_sum (zs : List Int) : ∀ n : Int, zs.foldl (fun n x => n + x) n = n + sumL zs := by
  induction zs with
  | nil => intro n; simp [sumL]
  | cons a zs ih =>
    intro n
    unfold sumL
    simp only [List.foldl_cons]
    rw [ih, ih (0 + a)]; omega
theorem sumL_cons (a : Int) (zs : List Int) : sumL (a :: zs) = a + sumL zs := by
  have := foldl_sum zs a
  unfold sumL
  simp only [List.foldl_cons, Int.zero_add]
  exact this
theorem sumL_bd {s : Int} (hs : 2 ≤ s ∧ s ≤ 3) {zs : List Int} (h : allB zs s = true) : 0 ≤ sumL zs ∧ sumL zs ≤ zs.length * (s - 1) := by
  induction zs with
  | nil => simp [sumL]
  | cons a zs ih =>
    unfold allB at h ih
    simp only [List.all_cons, Bool.and_eq_true, okB, decide_eq_true_eq] at h
    have h1 := ih h.2
    rw [sumL_cons, List.length_cons]
    obtain ⟨⟨g1, g2⟩, _⟩ := h
    rcases (show s = 2 ∨ s = 3 by omega) with rfl | rfl <;> omega
theorem sumL_take_bd {s : Int} (hs : 2 ≤ s ∧ s ≤ 3) {zs : List Int} (h : allB zs s = true) (k : Nat) : 0 ≤ sumL (zs.take k) ∧ sumL (zs.take k) ≤ zs.length * (s - 1) := by
  have h1 := sumL_bd hs (all_take h k)
  have h2 : (zs.take k).length ≤ zs.length := by simp; omega
  rcases (show s = 2 ∨ s = 3 by omega) with rfl | rfl <;> omega

/-- A step of the loop that writes digits from the right to the left. -/
theorem set_dig (s x : Int) (L k : Nat) (h : k < L) :
    (List.replicate (L - k) 0 ++ dig s x k).set (L - 1 - k) (x / s ^ k % s) = List.replicate (L - (k + 1)) 0 ++ dig s x (k + 1) := by
  obtain ⟨m, hm⟩ : ∃ m, L - k = m + 1 := ⟨L - k - 1, by omega⟩
  have e1 : L - 1 - k = m := by omega
  have e2 : L - (k + 1) = m := by omega
  rw [hm, e1, e2, List.replicate_succ', List.append_assoc]
  simp [dig]
theorem ediv_pow_succ {s : Int} (hs : 2 ≤ s ∧ s ≤ 3) (x : Int) (k : Nat) : x / s ^ k / s = x / s ^ (k + 1) := by
  have hp := pow_pos' hs k
  rw [Int.pow_succ, Int.ediv_ediv_of_nonneg (by omega)]

end Go.Proofs.Ytjeoccjemkdbiaa.Dig
