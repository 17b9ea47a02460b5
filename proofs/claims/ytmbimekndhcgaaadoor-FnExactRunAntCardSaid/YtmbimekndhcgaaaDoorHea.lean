/- Heaps: toppling, what it keeps, and that it comes to an end (no program in it but the lists of neighbours). -/
import Derived.Test.YtmbimekndhcgaaaDoorAdj
namespace Go.Proofs.YtmbimekndhcgaaaDoor.Hea
open Go.RowKit Go.Proofs.YtmbimekndhcgaaaDoor.Grow Go.Proofs.YtmbimekndhcgaaaDoor.Bes Go.Proofs.YtmbimekndhcgaaaDoor.Sbe Go.Proofs.YtmbimekndhcgaaaDoor.Sfi Go.Proofs.YtmbimekndhcgaaaDoor.Adj
set_option linter.unusedVariables false
set_option linter.unusedSimpArgs false

def add1 (y : List Int) (x : Nat) : List Int := y.set x (y.getD x 0 + 1)
def addAll (y : List Int) (L : List Nat) : List Int := L.foldl add1 y
def topple (y : List Int) (a : Nat) (L : List Nat) : List Int := addAll (y.set a (y.getD a 0 - 4)) L
theorem getD_set (y : List Int) (x i : Nat) (v : Int) : (y.set x v).getD i 0 = if i = x ∧ x < y.length then v else y.getD i 0 := by
  simp only [List.getD_eq_getElem?_getD, List.getElem?_set]
  by_cases h : x = i
  · subst h
    by_cases h2 : x < y.length
    · simp [h2]
    · simp [h2, List.getElem?_eq_none (Nat.le_of_not_lt h2)]
  · have : ¬ (i = x ∧ x < y.length) := fun e => h e.1.symm
    rw [if_neg h, if_neg this]
theorem addAll_snoc (y : List Int) (L : List Nat) (x : Nat) : addAll y (L ++ [x]) = add1 (addAll y L) x := by simp [addAll]
theorem addAll_len (y : List Int) : ∀ L : List Nat, (addAll y L).length = y.length := by
  intro L
  induction L generalizing y with
  | nil => rfl
  | cons x L ih => show (addAll (add1 y x) L).length = _; rw [ih]; simp [add1]
theorem addAll_get (i : Nat) : ∀ (L : List Nat) (y : List Int), (∀ x ∈ L, x < y.length) → (addAll y L).getD i 0 = y.getD i 0 + (L.count i : Int) := by
  intro L
  induction L with
  | nil => intro y _; simp [addAll]
  | cons x L ih =>
    intro y h
    show (addAll (add1 y x) L).getD i 0 = _
    rw [ih _ (by intro z hz; simp [add1]; exact h z (by simp [hz]))]
    unfold add1
    rw [getD_set, List.count_cons]
    have hx := h x (by simp)
    by_cases hi : i = x
    · subst hi; simp [hx]; omega
    · have : ¬ (x == i) = true := by simp; exact fun e => hi e.symm
      rw [if_neg (fun e => hi e.1), if_neg this]; simp
theorem topple_len (y : List Int) (a : Nat) (L : List Nat) : (topple y a L).length = y.length := by unfold topple; rw [addAll_len]; simp
theorem topple_get {y : List Int} {a : Nat} {L : List Nat} (h : ∀ x ∈ L, x < y.length) (ha : a < y.length) (i : Nat) : (topple y a L).getD i 0 = y.getD i 0 - (if i = a then 4 else 0) + (L.count i : Int) := by
  unfold topple
  rw [addAll_get i L _ (by simpa using h), getD_set]
  by_cases hi : i = a
  · subst hi; simp [ha]
  · simp [hi]

def ind (c : Prop) [Decidable c] : Nat := if c then 1 else 0
theorem count_ite {c : Prop} [Decidable c] (x i : Nat) : (if c then [x] else []).count i = ind (c ∧ i = x) := by
  unfold ind
  by_cases h : c
  · rw [if_pos h]
    by_cases e : i = x
    · subst e; simp [h]
    · have : ¬ x = i := fun e2 => e e2.symm
      simp [h, e, this, List.count_cons]
  · rw [if_neg h]; simp [h]
theorem ind_congr {c d : Prop} [Decidable c] [Decidable d] (h : c ↔ d) : ind c = ind d := by
  unfold ind
  by_cases hc : c
  · rw [if_pos hc, if_pos (h.1 hc)]
  · rw [if_neg hc, if_neg (fun e => hc (h.2 e))]
theorem count_sb {c : Prop} [Decidable c] (y i : Nat) (L : List Nat) : (sb c y L).count i = L.count i + ind (c ∧ i = y) := by
  unfold sb ind
  by_cases h : c
  · rw [if_pos h, List.count_append]
    by_cases e : i = y
    · subst e; simp [h]
    · have : ¬ y = i := fun e2 => e e2.symm
      simp [h, e, this, List.count_cons]
  · rw [if_neg h]; simp [h]
theorem e1 {R C i j : Nat} (hC : 1 ≤ C) (hi : i < R * C) (hj : j < R * C) : (0 < i / C ∧ j = i - C) ↔ (j / C + 1 = i / C ∧ j % C = i % C) := by
  have hjm : j % C < C := Nat.mod_lt j (by omega)
  have hm : i % C < C := Nat.mod_lt i (by omega)
  have hd : i = i / C * C + i % C := (eqv hm).2 ⟨rfl, rfl⟩
  constructor
  · rintro ⟨h1, h2⟩
    obtain ⟨t, ht⟩ : ∃ t, i / C = t + 1 := ⟨i / C - 1, by omega⟩
    rw [ht, Nat.succ_mul] at hd
    have := (eqv (x := j) (r := t) hm).1 (by omega)
    omega
  · rintro ⟨h1, h2⟩
    refine ⟨by rw [← h1]; exact Nat.succ_pos _, ?_⟩
    have := (eqv (x := j) hm).2 ⟨rfl, h2⟩
    rw [← h1, Nat.succ_mul] at hd
    generalize j / C * C = z at *
    omega
theorem e2 {R C i j : Nat} (hC : 1 ≤ C) (hi : i < R * C) (hj : j < R * C) : (i / C + 1 < R ∧ j = i + C) ↔ (j / C = i / C + 1 ∧ j % C = i % C) := by
  have hjq : j / C < R := Nat.div_lt_of_lt_mul (by rw [Nat.mul_comm]; exact hj)
  have hm : i % C < C := Nat.mod_lt i (by omega)
  have hd : i = i / C * C + i % C := (eqv hm).2 ⟨rfl, rfl⟩
  constructor
  · rintro ⟨h1, h2⟩
    have := (eqv (x := j) (r := i / C + 1) hm).1 (by rw [Nat.succ_mul]; omega)
    omega
  · rintro ⟨h1, h2⟩
    refine ⟨by rw [← h1]; exact hjq, ?_⟩
    have := (eqv (x := j) hm).2 ⟨h1, h2⟩
    rw [Nat.succ_mul] at this
    omega
theorem e3 {R C i j : Nat} (hC : 1 ≤ C) (hi : i < R * C) (hj : j < R * C) : (0 < i % C ∧ j = i - 1) ↔ (j / C = i / C ∧ j % C + 1 = i % C) := by
  have hjm : j % C < C := Nat.mod_lt j (by omega)
  have hm : i % C < C := Nat.mod_lt i (by omega)
  have hd : i = i / C * C + i % C := (eqv hm).2 ⟨rfl, rfl⟩
  constructor
  · rintro ⟨h1, h2⟩
    have := (eqv (x := j) (r := i / C) (c := i % C - 1) (C := C) (by omega)).1 (by omega)
    omega
  · rintro ⟨h1, h2⟩
    refine ⟨by rw [← h2]; exact Nat.succ_pos _, ?_⟩
    have := (eqv (x := j) hjm).2 ⟨h1, rfl⟩
    omega
theorem e4 {R C i j : Nat} (hC : 1 ≤ C) (hi : i < R * C) (hj : j < R * C) : (i % C + 1 < C ∧ j = i + 1) ↔ (j / C = i / C ∧ j % C = i % C + 1) := by
  have hjm : j % C < C := Nat.mod_lt j (by omega)
  have hm : i % C < C := Nat.mod_lt i (by omega)
  have hd : i = i / C * C + i % C := (eqv hm).2 ⟨rfl, rfl⟩
  constructor
  · rintro ⟨h1, h2⟩
    have := (eqv (x := j) (r := i / C) (c := i % C + 1) h1).1 (by omega)
    omega
  · rintro ⟨h1, h2⟩
    refine ⟨by rw [← h2]; exact hjm, ?_⟩
    have := (eqv (x := j) hjm).2 ⟨h1, rfl⟩
    omega
theorem mem_bes_lt {R C A x : Nat} (h : x ∈ besL R C A 4) : x < R * C := by
  rcases mem_bes.1 h with ⟨h1, rfl⟩ | ⟨h1, rfl⟩ | ⟨h1, rfl⟩ | ⟨h1, rfl⟩ <;> exact (pos_in h1).2
/-- Each place is as often among the neighbours on both sides. -/
theorem count_eq {R C a i : Nat} (hC : 1 ≤ C) (ha : a < R * C) : (besL R C a 4).count i = (sbL R C a).count i := by
  by_cases hi : i < R * C
  · have key : ∀ k, (if inB4 R C a k = true then [posN C a k] else []).count i = ind (((i / C : Nat) : Int) = nr C a k ∧ ((i % C : Nat) : Int) = nc C a k) := fun k => by
      rw [count_ite]; exact ind_congr (one hC hi)
    have hb : (besL R C a 4).count i = ind (((i / C : Nat) : Int) = nr C a 0 ∧ ((i % C : Nat) : Int) = nc C a 0) + ind (((i / C : Nat) : Int) = nr C a 1 ∧ ((i % C : Nat) : Int) = nc C a 1) + ind (((i / C : Nat) : Int) = nr C a 2 ∧ ((i % C : Nat) : Int) = nc C a 2) + ind (((i / C : Nat) : Int) = nr C a 3 ∧ ((i % C : Nat) : Int) = nc C a 3) := by
      show (((([] ++ _) ++ _) ++ _) ++ _ : List Nat).count i = _
      rw [List.count_append, List.count_append, List.count_append, List.count_append, key, key, key, key]
      simp
    rw [hb]
    unfold sbL s3 s2 s1
    rw [count_sb, count_sb, count_sb, count_sb]
    rw [ind_congr (e1 hC ha hi), ind_congr (e2 hC ha hi), ind_congr (e3 hC ha hi), ind_congr (e4 hC ha hi)]
    have c0 : (((i / C : Nat) : Int) = nr C a 0 ∧ ((i % C : Nat) : Int) = nc C a 0) ↔ (i / C + 1 = a / C ∧ i % C = a % C) := by
      unfold nr nc; rw [show wayR 0 = -1 from rfl, show wayC 0 = 0 from rfl]; generalize i / C = x; generalize i % C = y; generalize a / C = z; generalize a % C = u; omega
    have c1 : (((i / C : Nat) : Int) = nr C a 1 ∧ ((i % C : Nat) : Int) = nc C a 1) ↔ (i / C = a / C ∧ i % C = a % C + 1) := by
      unfold nr nc; rw [show wayR 1 = 0 from rfl, show wayC 1 = 1 from rfl]; generalize i / C = x; generalize i % C = y; generalize a / C = z; generalize a % C = u; omega
    have c2 : (((i / C : Nat) : Int) = nr C a 2 ∧ ((i % C : Nat) : Int) = nc C a 2) ↔ (i / C = a / C + 1 ∧ i % C = a % C) := by
      unfold nr nc; rw [show wayR 2 = 1 from rfl, show wayC 2 = 0 from rfl]; generalize i / C = x; generalize i % C = y; generalize a / C = z; generalize a % C = u; omega
    have c3 : (((i / C : Nat) : Int) = nr C a 3 ∧ ((i % C : Nat) : Int) = nc C a 3) ↔ (i / C = a / C ∧ i % C + 1 = a % C) := by
      unfold nr nc; rw [show wayR 3 = 0 from rfl, show wayC 3 = -1 from rfl]; generalize i / C = x; generalize i % C = y; generalize a / C = z; generalize a % C = u; omega
    rw [ind_congr c0, ind_congr c1, ind_congr c2, ind_congr c3]
    simp
    omega
  · rw [List.count_eq_zero.2 (fun h => hi (mem_bes_lt h)), List.count_eq_zero.2 (fun h => hi (sb_mem hC ha h))]
theorem topple_eq {R C n a : Nat} {y : List Int} (hC : 1 ≤ C) (hn : n = R * C) (hy : y.length = n) (ha : a < n) : topple y a (besL R C a 4) = topple y a (sbL R C a) := by
  have h1 : ∀ x ∈ besL R C a 4, x < y.length := fun x hx => by rw [hy, hn]; exact mem_bes_lt hx
  have h2 : ∀ x ∈ sbL R C a, x < y.length := fun x hx => by rw [hy, hn]; exact sb_mem hC (hn ▸ ha) hx
  apply List.ext_getElem
  · rw [topple_len, topple_len]
  · intro i h3 h4
    have hay : a < y.length := by rw [hy]; exact ha
    have e := topple_get h1 hay i
    have e' := topple_get h2 hay i
    rw [count_eq hC (hn ▸ ha), ← e'] at e
    simpa [List.getD_eq_getElem?_getD, h3, h4] using e

/-- The sum of all cells, each so often as φ says. -/
def wsum (φ : Nat → Int) : List Int → Nat → Int
  | [], _ => 0
  | z :: zs, k => z * φ k + wsum φ zs (k + 1)
theorem wsum_set (φ : Nat → Int) : ∀ (y : List Int) (k x : Nat) (v : Int), x < y.length → wsum φ (y.set x v) k = wsum φ y k + (v - y.getD x 0) * φ (k + x)
  | [], k, x, v, h => by simp at h
  | z :: zs, k, 0, v, h => by
    show v * φ k + wsum φ zs (k + 1) = z * φ k + wsum φ zs (k + 1) + (v - z) * φ (k + 0)
    simp only [Nat.add_zero, Int.sub_mul]; omega
  | z :: zs, k, x + 1, v, h => by
    show z * φ k + wsum φ (zs.set x v) (k + 1) = z * φ k + wsum φ zs (k + 1) + (v - (z :: zs).getD (x + 1) 0) * φ (k + (x + 1))
    rw [wsum_set φ zs (k + 1) x v (by simpa using h)]
    have : (z :: zs).getD (x + 1) 0 = zs.getD x 0 := by simp
    rw [this, show k + 1 + x = k + (x + 1) by omega]
    omega
def fsum (φ : Nat → Int) (L : List Nat) : Int := (L.map φ).sum
theorem wsum_addAll (φ : Nat → Int) : ∀ (L : List Nat) (y : List Int), (∀ x ∈ L, x < y.length) → wsum φ (addAll y L) 0 = wsum φ y 0 + fsum φ L := by
  intro L
  induction L with
  | nil => intro y _; simp [addAll, fsum]
  | cons x L ih =>
    intro y h
    show wsum φ (addAll (add1 y x) L) 0 = _
    rw [ih _ (by intro z hz; simp [add1]; exact h z (by simp [hz]))]
    unfold add1
    rw [wsum_set φ y 0 x _ (h x (by simp)), Nat.zero_add]
    have : fsum φ (x :: L) = φ x + fsum φ L := by simp [fsum]
    rw [this, show y.getD x 0 + 1 - y.getD x 0 = 1 by omega, Int.one_mul]
    omega
theorem wsum_topple (φ : Nat → Int) {y : List Int} {a : Nat} {L : List Nat} (h : ∀ x ∈ L, x < y.length) (ha : a < y.length) : wsum φ (topple y a L) 0 = wsum φ y 0 - 4 * φ a + fsum φ L := by
  unfold topple
  rw [wsum_addAll φ L _ (by simpa using h), wsum_set φ y 0 a _ ha, Nat.zero_add, show y.getD a 0 - 4 - y.getD a 0 = -4 by omega, Int.neg_mul]
  omega
theorem fsum_sb {c : Prop} [Decidable c] (φ : Nat → Int) (y : Nat) (L : List Nat) : fsum φ (sb c y L) = fsum φ L + (if c then φ y else 0) := by
  unfold sb fsum
  by_cases h : c
  · rw [if_pos h, if_pos h]; simp [List.sum_append]
  · rw [if_neg h, if_neg h]; simp
/-- A row's height above the border. -/
def pot (R C i : Nat) : Int := (((i / C + 1 : Nat) : Int)) * ((R : Int) - ((i / C : Nat) : Int))
theorem pot_row {R C i q : Nat} (h : i / C = q) : pot R C i = ((q : Int) + 1) * ((R : Int) - (q : Int)) := by unfold pot; rw [h]; simp
theorem div_dec {C a : Nat} (hC : 1 ≤ C) (h : 0 < a % C) : (a - 1) / C = a / C := by
  have hm : a % C < C := Nat.mod_lt a (by omega)
  have hd : a = a / C * C + a % C := (eqv hm).2 ⟨rfl, rfl⟩
  exact ((eqv (x := a - 1) (r := a / C) (c := a % C - 1) (C := C) (by omega)).1 (by omega)).1
theorem div_inc {C a : Nat} (hC : 1 ≤ C) (h : a % C + 1 < C) : (a + 1) / C = a / C := by
  have hm : a % C < C := Nat.mod_lt a (by omega)
  have hd : a = a / C * C + a % C := (eqv hm).2 ⟨rfl, rfl⟩
  exact ((eqv (x := a + 1) (r := a / C) (c := a % C + 1) (C := C) h).1 (by omega)).1
theorem div_up {C a t : Nat} (hC : 1 ≤ C) (h : a / C = t + 1) : (a - C) / C = t := by
  have hm : a % C < C := Nat.mod_lt a (by omega)
  have hd : a = a / C * C + a % C := (eqv hm).2 ⟨rfl, rfl⟩
  rw [h, Nat.succ_mul] at hd
  exact ((eqv (x := a - C) (r := t) (c := a % C) (C := C) hm).1 (by omega)).1
theorem div_down {C a : Nat} (hC : 1 ≤ C) : (a + C) / C = a / C + 1 := Nat.add_div_right a (by omega)
theorem pot_drop {R C a : Nat} (hC : 1 ≤ C) (ha : a < R * C) : fsum (pot R C) (sbL R C a) ≤ 4 * pot R C a - 2 := by
  have hq : a / C < R := Nat.div_lt_of_lt_mul (by rw [Nat.mul_comm]; exact ha)
  have hm : a % C < C := Nat.mod_lt a (by omega)
  have hd : a = a / C * C + a % C := (eqv hm).2 ⟨rfl, rfl⟩
  unfold sbL s3 s2 s1
  rw [fsum_sb, fsum_sb, fsum_sb, fsum_sb]
  have p0 := pot_row (R := R) (C := C) (i := a) rfl
  have hpos : 0 ≤ pot R C a := by rw [p0]; exact Int.mul_nonneg (Int.add_nonneg (Int.natCast_nonneg _) (by decide)) (Int.sub_nonneg_of_le (Int.ofNat_le.2 (Nat.le_of_lt hq)))
  have h3 : (if 0 < a % C then pot R C (a - 1) else 0) ≤ pot R C a := by
    by_cases h : 0 < a % C
    · rw [if_pos h]
      rw [pot_row (div_dec hC h), p0]; exact Int.le_refl _
    · rw [if_neg h]; exact hpos
  have h4 : (if a % C + 1 < C then pot R C (a + 1) else 0) ≤ pot R C a := by
    by_cases h : a % C + 1 < C
    · rw [if_pos h]
      rw [pot_row (div_inc hC h), p0]; exact Int.le_refl _
    · rw [if_neg h]; exact hpos
  have h1 : (if 0 < a / C then pot R C (a - C) else 0) = ((a / C : Nat) : Int) * ((R : Int) - ((a / C : Nat) : Int) + 1) := by
    by_cases h : 0 < a / C
    · rw [if_pos h]
      obtain ⟨t, ht⟩ : ∃ t, a / C = t + 1 := ⟨a / C - 1, by omega⟩
      rw [pot_row (div_up hC ht), ht]
      have x1 : ((t + 1 : Nat) : Int) = (t : Int) + 1 := by simp
      rw [x1, show (R : Int) - ((t : Int) + 1) + 1 = (R : Int) - (t : Int) by omega]
    · have h0 : a / C = 0 := Nat.eq_zero_of_not_pos h
      rw [if_neg h, h0]; simp
  have h2 : (if a / C + 1 < R then pot R C (a + C) else 0) = (((a / C : Nat) : Int) + 2) * ((R : Int) - ((a / C : Nat) : Int) - 1) := by
    by_cases h : a / C + 1 < R
    · rw [if_pos h]
      rw [pot_row (div_down hC)]
      have x1 : ((a / C + 1 : Nat) : Int) = ((a / C : Nat) : Int) + 1 := by simp
      rw [x1]
      generalize ((a / C : Nat) : Int) = q
      rw [show q + 1 + 1 = q + 2 by omega, show (R : Int) - (q + 1) = (R : Int) - q - 1 by omega]
    · have h5 : a / C + 1 = R := Nat.le_antisymm hq (Nat.le_of_not_lt h)
      have h0 : (R : Int) - ((a / C : Nat) : Int) - 1 = 0 := by rw [← h5]; generalize a / C = z; omega
      rw [if_neg h, h0]; simp
  rw [h1, h2]
  rw [show fsum (pot R C) [] = 0 from rfl]
  generalize (if 0 < a % C then pot R C (a - 1) else 0) = x3 at *
  generalize (if a % C + 1 < C then pot R C (a + 1) else 0) = x4 at *
  rw [p0] at h3 h4 ⊢
  clear h1 h2 hpos p0 hd hm ha
  generalize ((a / C : Nat) : Int) = q at *
  generalize (R : Int) = r at *
  have id1 : q * (r - q + 1) + (q + 2) * (r - q - 1) = 2 * ((q + 1) * (r - q)) - 2 := by
    simp only [Int.add_mul, Int.mul_add, Int.mul_sub, Int.sub_mul]
    generalize q * r = u
    generalize q * q = v
    omega
  omega
end Go.Proofs.YtmbimekndhcgaaaDoor.Hea
