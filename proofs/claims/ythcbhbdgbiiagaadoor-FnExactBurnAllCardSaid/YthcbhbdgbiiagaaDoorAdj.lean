/- Neighbours of both sides: the same relation; fires of both sides: the same field. -/
import Derived.Test.YthcbhbdgbiiagaaDoorFir
import Derived.Test.YthcbhbdgbiiagaaDoorSfi
namespace Go.Proofs.YthcbhbdgbiiagaaDoor.Adj
open Go.RowKit Go.Proofs.YthcbhbdgbiiagaaDoor.Grow Go.Proofs.YthcbhbdgbiiagaaDoor.Bes Go.Proofs.YthcbhbdgbiiagaaDoor.Sbe Go.Proofs.YthcbhbdgbiiagaaDoor.Sfi Go.Proofs.YthcbhbdgbiiagaaDoor.Fir
set_option linter.unusedVariables false
set_option linter.unusedSimpArgs false

def adj (C j i : Nat) : Prop := (i / C + 1 = j / C ∧ i % C = j % C) ∨ (i / C = j / C ∧ i % C = j % C + 1) ∨ (i / C = j / C + 1 ∧ i % C = j % C) ∨ (i / C = j / C ∧ i % C + 1 = j % C)
theorem eqv {C x r c : Nat} (hc : c < C) : x = r * C + c ↔ x / C = r ∧ x % C = c := by
  constructor
  · rintro rfl; exact pos_div hc
  · rintro ⟨h1, h2⟩
    have := Nat.div_add_mod x C
    rw [h1, h2, Nat.mul_comm] at this
    exact this.symm
theorem one {R C i j k : Nat} (hC : 1 ≤ C) (hi : i < R * C) : (inB4 R C j k = true ∧ i = posN C j k) ↔ (((i / C : Nat) : Int) = nr C j k ∧ ((i % C : Nat) : Int) = nc C j k) := by
  have hq : i / C < R := Nat.div_lt_of_lt_mul (by rw [Nat.mul_comm]; exact hi)
  have hm : i % C < C := Nat.mod_lt i (by omega)
  constructor
  · rintro ⟨h, e⟩
    have hp := (pos_in h).1
    rw [← e] at hp
    simp only [inB4, Bool.and_eq_true, decide_eq_true_eq] at h
    obtain ⟨r, hr⟩ := Int.eq_ofNat_of_zero_le h.1.1
    obtain ⟨c, hcc⟩ := Int.eq_ofNat_of_zero_le h.2.1
    rw [hr, hcc] at hp ⊢
    have hcC : c < C := by have := h.2.2; rw [hcc] at this; omega
    have e2 : i = r * C + c := by
      have : (i : Int) = ((r * C + c : Nat) : Int) := by rw [hp]; simp
      exact Int.ofNat.inj this
    obtain ⟨h3, h4⟩ := (eqv hcC).1 e2
    rw [h3, h4]
    exact ⟨rfl, rfl⟩
  · rintro ⟨h1, h2⟩
    have hin : inB4 R C j k = true := by
      simp only [inB4, Bool.and_eq_true, decide_eq_true_eq]
      rw [← h1, ← h2]
      clear h1 h2
      generalize i / C = a at hq ⊢
      generalize i % C = b at hm ⊢
      omega
    refine ⟨hin, ?_⟩
    have hp := (pos_in hin).1
    rw [← h1, ← h2] at hp
    have : ((posN C j k : Nat) : Int) = ((i / C * C + i % C : Nat) : Int) := by rw [hp]; simp
    have e := Int.ofNat.inj this
    rw [e]
    exact (eqv hm).2 ⟨rfl, rfl⟩
theorem mem_bes {R C A x : Nat} : x ∈ besL R C A 4 ↔ (inB4 R C A 0 = true ∧ x = posN C A 0) ∨ (inB4 R C A 1 = true ∧ x = posN C A 1) ∨ (inB4 R C A 2 = true ∧ x = posN C A 2) ∨ (inB4 R C A 3 = true ∧ x = posN C A 3) := by
  have key : ∀ k, (x ∈ (if inB4 R C A k = true then [posN C A k] else [])) ↔ (inB4 R C A k = true ∧ x = posN C A k) := by
    intro k
    by_cases h : inB4 R C A k = true
    · rw [if_pos h]; simp [h]
    · rw [if_neg h]; simp [h]
  show x ∈ (((([] ++ _) ++ _) ++ _) ++ _) ↔ _
  rw [List.mem_append, List.mem_append, List.mem_append, List.mem_append, key, key, key, key]
  simp only [List.not_mem_nil, false_or, or_assoc]
theorem bes_iff {R C i j : Nat} (hC : 1 ≤ C) (hi : i < R * C) : i ∈ besL R C j 4 ↔ adj C j i := by
  rw [mem_bes, one hC hi, one hC hi, one hC hi, one hC hi]
  unfold adj nr nc
  have w0 : wayR 0 = -1 ∧ wayC 0 = 0 := ⟨rfl, rfl⟩
  have w1 : wayR 1 = 0 ∧ wayC 1 = 1 := ⟨rfl, rfl⟩
  have w2 : wayR 2 = 1 ∧ wayC 2 = 0 := ⟨rfl, rfl⟩
  have w3 : wayR 3 = 0 ∧ wayC 3 = -1 := ⟨rfl, rfl⟩
  rw [w0.1, w0.2, w1.1, w1.2, w2.1, w2.2, w3.1, w3.2]
  clear w0 w1 w2 w3 hi
  generalize i / C = a
  generalize i % C = b
  generalize j / C = c
  generalize j % C = d
  omega
theorem mem_sb' {c : Prop} [Decidable c] {x y : Nat} {L : List Nat} : x ∈ sb c y L ↔ x ∈ L ∨ (c ∧ x = y) := by
  unfold sb
  by_cases h : c
  · rw [if_pos h]; simp [h]
  · rw [if_neg h]; simp [h]
theorem mem_sbL {R C A x : Nat} : x ∈ sbL R C A ↔ (0 < A / C ∧ x = A - C) ∨ (A / C + 1 < R ∧ x = A + C) ∨ (0 < A % C ∧ x = A - 1) ∨ (A % C + 1 < C ∧ x = A + 1) := by
  unfold sbL s3 s2 s1
  rw [mem_sb', mem_sb', mem_sb', mem_sb']
  simp only [List.not_mem_nil, false_or, or_assoc]
theorem sb_iff {R C i j : Nat} (hC : 1 ≤ C) (hi : i < R * C) (hj : j < R * C) : j ∈ sbL R C i ↔ adj C j i := by
  rw [mem_sbL]
  have hjq : j / C < R := Nat.div_lt_of_lt_mul (by rw [Nat.mul_comm]; exact hj)
  have hjm : j % C < C := Nat.mod_lt j (by omega)
  have hm : i % C < C := Nat.mod_lt i (by omega)
  have hd : i = i / C * C + i % C := (eqv hm).2 ⟨rfl, rfl⟩
  have e1 : (0 < i / C ∧ j = i - C) ↔ (j / C + 1 = i / C ∧ j % C = i % C) := by
    constructor
    · rintro ⟨h1, h2⟩
      obtain ⟨t, ht⟩ : ∃ t, i / C = t + 1 := ⟨i / C - 1, by omega⟩
      rw [ht, Nat.succ_mul] at hd
      have := (eqv (x := j) (r := t) hm).1 (by omega)
      omega
    · rintro ⟨h1, h2⟩
      refine ⟨by rw [← h1]; exact Nat.succ_pos _, ?_⟩
      have := (eqv (x := j) hm).2 ⟨rfl, h2⟩
      rw [← h1, Nat.succ_mul] at hd
      generalize j / C * C = z at *
      omega
  have e2 : (i / C + 1 < R ∧ j = i + C) ↔ (j / C = i / C + 1 ∧ j % C = i % C) := by
    constructor
    · rintro ⟨h1, h2⟩
      have := (eqv (x := j) (r := i / C + 1) hm).1 (by rw [Nat.succ_mul]; omega)
      omega
    · rintro ⟨h1, h2⟩
      refine ⟨by rw [← h1]; exact hjq, ?_⟩
      have := (eqv (x := j) hm).2 ⟨h1, h2⟩
      rw [Nat.succ_mul] at this
      omega
  have e3 : (0 < i % C ∧ j = i - 1) ↔ (j / C = i / C ∧ j % C + 1 = i % C) := by
    constructor
    · rintro ⟨h1, h2⟩
      have := (eqv (x := j) (r := i / C) (c := i % C - 1) (C := C) (by omega)).1 (by omega)
      omega
    · rintro ⟨h1, h2⟩
      refine ⟨by rw [← h2]; exact Nat.succ_pos _, ?_⟩
      have := (eqv (x := j) hjm).2 ⟨h1, rfl⟩
      omega
  have e4 : (i % C + 1 < C ∧ j = i + 1) ↔ (j / C = i / C ∧ j % C = i % C + 1) := by
    constructor
    · rintro ⟨h1, h2⟩
      have := (eqv (x := j) (r := i / C) (c := i % C + 1) h1).1 (by omega)
      omega
    · rintro ⟨h1, h2⟩
      refine ⟨by rw [← h2]; exact hjm, ?_⟩
      have := (eqv (x := j) hjm).2 ⟨h1, rfl⟩
      omega
  rw [e1, e2, e3, e4]
  unfold adj
  clear e1 e2 e3 e4 hd hjq hjm hm hi hj
  generalize i / C = a
  generalize i % C = b
  generalize j / C = c
  generalize j % C = d
  omega
theorem burnt_near {zs : List Int} {R C n i : Nat} (hC : 1 ≤ C) (hn : n = R * C) (hi : i < n) : burnt zs R C n i = near2 zs (sbL R C i) := by
  rw [Bool.eq_iff_iff]
  unfold burnt near2
  rw [List.any_eq_true, List.any_eq_true]
  constructor
  · rintro ⟨j, hj, h⟩
    have hj' : j < n := by simpa using hj
    simp only [Bool.and_eq_true, decide_eq_true_eq, List.contains_iff_mem] at h
    exact ⟨j, (sb_iff hC (hn ▸ hi) (hn ▸ hj')).2 ((bes_iff hC (hn ▸ hi)).1 h.2), by simpa using h.1⟩
  · rintro ⟨j, hj, h⟩
    have hj' : j < R * C := sb_mem hC (hn ▸ hi) hj
    refine ⟨j, by simpa [hn] using hj', ?_⟩
    simp only [Bool.and_eq_true, decide_eq_true_eq, List.contains_iff_mem]
    exact ⟨by simpa using h, (bes_iff hC (hn ▸ hi)).2 ((sb_iff hC (hn ▸ hi) hj').1 hj)⟩
theorem fire_eq {zs : List Int} {R C n : Nat} (hC : 1 ≤ C) (hn : n = R * C) : fireL zs R C n = fireS zs R C n := by
  unfold fireL fireS
  apply List.map_congr_left
  intro i hi
  have hi' : i < n := by simpa using hi
  unfold fv sfin
  rw [burnt_near hC hn hi', if_pos hi']
end Go.Proofs.YthcbhbdgbiiagaaDoor.Adj
