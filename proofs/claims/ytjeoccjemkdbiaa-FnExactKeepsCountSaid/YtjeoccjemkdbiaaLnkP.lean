/- Neighbourhoods that join ends: how many ways there are, forward and back (pure). -/
import Derived.Test.YtjeoccjemkdbiaaRd
namespace Go.Proofs.Ytjeoccjemkdbiaa.LnkP
set_option linter.unusedVariables false
set_option linter.unusedSimpArgs false

def updL (l : List Int) (j : Nat) (v : Int) : List Int := l.set j (l.getD j 0 + v)
@[simp] theorem updL_length (l : List Int) (j : Nat) (v : Int) : (updL l j v).length = l.length := by simp [updL]
theorem updL_zero (l : List Int) (j : Nat) : updL l j 0 = l := by
  unfold updL
  apply List.ext_getElem
  · simp
  · intro i h1 h2
    by_cases e : j = i
    · subst e; simp [List.getD_eq_getElem?_getD, h2]
    · rw [List.getElem_set_ne e]
theorem updL_getD (l : List Int) (j : Nat) (v : Int) (i : Nat) (hj : j < l.length) : (updL l j v).getD i 0 = if i = j then l.getD i 0 + v else l.getD i 0 := by
  unfold updL
  by_cases e : i = j
  · subst e; rw [if_pos rfl]; simp [List.getD_eq_getElem?_getD, hj]
  · rw [if_neg e]; simp [List.getD_eq_getElem?_getD, List.getElem?_set, Ne.symm e]
def dotL : List Int → List Int → Int
  | x :: xs, y :: ys => x * y + dotL xs ys
  | _, _ => 0
theorem dot_comm : ∀ (u v : List Int), dotL u v = dotL v u
  | [], [] => rfl
  | [], _ :: _ => rfl
  | _ :: _, [] => rfl
  | x :: xs, y :: ys => by show x * y + dotL xs ys = y * x + dotL ys xs; rw [dot_comm xs ys, Int.mul_comm]
theorem dot_upd : ∀ (u v : List Int) (j : Nat) (x : Int), j < u.length → u.length = v.length → dotL (updL u j x) v = dotL u v + x * v.getD j 0
  | [], _, j, _, hj, _ => absurd hj (by simp)
  | _ :: _, [], _, _, _, hl => absurd hl (by simp)
  | a :: u, b :: v, 0, x, _, _ => by
    show (a + x) * b + dotL u v = a * b + dotL u v + x * b
    rw [Int.add_mul]; omega
  | a :: u, b :: v, j + 1, x, hj, hl => by
    have h := dot_upd u v j x (by simpa using hj) (by simpa using hl)
    show a * b + dotL (updL u j x) v = a * b + dotL u v + x * v.getD j 0
    rw [h]; omega
theorem dot_upd_r (u v : List Int) (j : Nat) (x : Int) (hj : j < v.length) (hl : u.length = v.length) : dotL u (updL v j x) = dotL u v + u.getD j 0 * x := by
  rw [dot_comm, dot_upd v u j x hj hl.symm, dot_comm v u, Int.mul_comm]
theorem dot_zero : ∀ (n : Nat) (v : List Int), dotL (List.replicate n 0) v = 0
  | 0, [] => rfl
  | 0, _ :: _ => rfl
  | n + 1, [] => rfl
  | n + 1, y :: v => by show 0 * y + dotL (List.replicate n 0) v = 0; rw [dot_zero n v]; omega
theorem dot_ones : ∀ (u : List Int) (n : Nat), u.length = n → dotL u (List.replicate n 1) = u.sum
  | [], 0, _ => rfl
  | [], n + 1, h => absurd h (by simp)
  | x :: u, 0, h => absurd h (by simp)
  | x :: u, n + 1, h => by
    have := dot_ones u n (by simpa using h)
    show x * 1 + dotL u (List.replicate n 1) = (x :: u).sum
    rw [this, List.sum_cons]; omega
section
variable (T : List Int) (s n : Nat)
/-- What is behind one neighbourhood with a next state, as far as the first i neighbourhoods tell. -/
def fwdL (t : Int) (now : List Int) : Nat → List Int
  | 0 => List.replicate n 0
  | i + 1 => if T.getD i 0 = t then updL (fwdL t now i) (i % n) (now.getD (i / s) 0) else fwdL t now i
/-- What is before it. -/
def bwdL (t : Int) (after : List Int) : Nat → List Int
  | 0 => List.replicate n 0
  | i + 1 => if T.getD i 0 = t then updL (bwdL t after i) (i / s) (after.getD (i % n) 0) else bwdL t after i
theorem fwd_len (t : Int) (now : List Int) : ∀ i, (fwdL T s n t now i).length = n
  | 0 => by simp [fwdL]
  | i + 1 => by unfold fwdL; split <;> simp [fwd_len t now i]
theorem bwd_len (t : Int) (after : List Int) : ∀ i, (bwdL T s n t after i).length = n
  | 0 => by simp [bwdL]
  | i + 1 => by unfold bwdL; split <;> simp [bwd_len t after i]
theorem div_lt' {i s n : Nat} (h : i < n * s) : i / s < n := Nat.div_lt_of_lt_mul (by rw [Nat.mul_comm]; exact h)
theorem adj1 {t : Int} {now after : List Int} (hn : 0 < n) (h1 : now.length = n) (h2 : after.length = n) : ∀ i, i ≤ n * s → dotL (fwdL T s n t now i) after = dotL now (bwdL T s n t after i)
  | 0, _ => by show dotL (List.replicate n 0) after = dotL now (List.replicate n 0); rw [dot_comm now, dot_zero, dot_zero]
  | i + 1, hi => by
    have ih := adj1 hn h1 h2 (t := t) i (by omega)
    unfold fwdL bwdL
    by_cases e : T.getD i 0 = t
    · rw [if_pos e, if_pos e, dot_upd _ _ _ _ (by rw [fwd_len]; exact Nat.mod_lt _ hn) (by rw [fwd_len, h2]), dot_upd_r _ _ _ _ (by rw [bwd_len]; exact div_lt' (by omega)) (by rw [bwd_len, h1]), ih]
    · rw [if_neg e, if_neg e, ih]
def fwdA (t : Int) (now : List Int) : List Int := fwdL T s n t now (n * s)
def bwdA (t : Int) (after : List Int) : List Int := bwdL T s n t after (n * s)
def fwds (ws now : List Int) : List Int := ws.foldl (fun a t => fwdA T s n t a) now
def bwds (ws after : List Int) : List Int := ws.foldr (fun t a => bwdA T s n t a) after
theorem fwds_len : ∀ (ws now : List Int), now.length = n → (fwds T s n ws now).length = n
  | [], _, h => h
  | t :: ws, now, h => fwds_len ws _ (fwd_len T s n t now _)
theorem bwds_len : ∀ (ws after : List Int), after.length = n → (bwds T s n ws after).length = n
  | [], _, h => h
  | t :: ws, after, h => bwd_len T s n t _ _
theorem adjs (hn : 0 < n) {after : List Int} (h2 : after.length = n) : ∀ (ws now : List Int), now.length = n → dotL (fwds T s n ws now) after = dotL now (bwds T s n ws after)
  | [], now, _ => rfl
  | t :: ws, now, h1 => by
    show dotL (fwds T s n ws (fwdA T s n t now)) after = dotL now (bwdA T s n t (bwds T s n ws after))
    rw [adjs hn h2 ws (fwdA T s n t now) (fwd_len T s n t now _)]
    exact adj1 T s n hn h1 (bwds_len T s n ws after h2) _ (Nat.le_refl _)
end
/-- All entries are from 0 to M. -/
def Bd (M : Int) (l : List Int) : Prop := ∀ i, 0 ≤ l.getD i 0 ∧ l.getD i 0 ≤ M
theorem nn_sum : ∀ (l : List Int), (∀ i, 0 ≤ l.getD i 0) → ∀ i, l.getD i 0 ≤ l.sum ∧ 0 ≤ l.sum
  | [], _, i => by simp
  | x :: l, h, 0 => by
    have h0 := h 0
    have := (nn_sum l (fun i => h (i + 1)) 0).2
    simp only [List.getD_cons_zero, List.sum_cons] at *; omega
  | x :: l, h, i + 1 => by
    have h0 := h 0
    have := nn_sum l (fun i => h (i + 1)) i
    simp only [List.getD_cons_zero, List.getD_cons_succ, List.sum_cons] at *; omega
theorem sum_upd : ∀ (l : List Int) (j : Nat) (x : Int), j < l.length → (updL l j x).sum = l.sum + x
  | [], _, _, h => absurd h (by simp)
  | a :: l, 0, x, _ => by show ((a + x) :: l).sum = _; simp only [List.sum_cons]; omega
  | a :: l, j + 1, x, h => by
    have := sum_upd l j x (by simpa using h)
    show (a :: updL l j x).sum = _
    simp only [List.sum_cons, this]; omega
def gsum (f : Nat → Int) : Nat → Int
  | 0 => 0
  | i + 1 => gsum f i + f i
theorem take_sum : ∀ (l : List Int) (j : Nat), (l.take (j + 1)).sum = (l.take j).sum + l.getD j 0
  | [], j => by simp
  | x :: l, 0 => by simp
  | x :: l, j + 1 => by
    have := take_sum l j
    simp only [List.take_succ_cons, List.sum_cons, List.getD_cons_succ] at *; omega
theorem gsum_mod {l : List Int} {n : Nat} (hn : 0 < n) (h : l.length = n) : ∀ k j, j ≤ n → gsum (fun i => l.getD (i % n) 0) (n * k + j) = k * l.sum + (l.take j).sum
  | 0, 0, _ => by simp [gsum]
  | k + 1, 0, _ => by
    have := gsum_mod hn h k n (Nat.le_refl _)
    rw [show n * (k + 1) + 0 = n * k + n by rw [Nat.mul_succ]; rfl, this, List.take_of_length_le (by omega)]
    simp [Int.add_mul]
  | k, j + 1, hj => by
    have ih := gsum_mod hn h k j (by omega)
    show gsum _ (n * k + j) + l.getD ((n * k + j) % n) 0 = _
    rw [ih, Nat.mul_add_mod, Nat.mod_eq_of_lt (show j < n by omega), take_sum]; omega
theorem gsum_div {l : List Int} {s : Nat} (hs : 0 < s) : ∀ a j, j ≤ s → a < l.length ∨ (a = l.length ∧ j = 0) → gsum (fun i => l.getD (i / s) 0) (s * a + j) = s * (l.take a).sum + j * l.getD a 0
  | 0, 0, _, _ => by simp [gsum]
  | a + 1, 0, _, ha => by
    have := gsum_div (l := l) hs a s (Nat.le_refl _) (.inl (by omega))
    rw [show s * (a + 1) + 0 = s * a + s by rw [Nat.mul_succ]; rfl, this, take_sum]
    simp [Int.mul_add]
  | a, j + 1, hj, ha => by
    have ih := gsum_div (l := l) hs a j (by omega) (.inl (by omega))
    show gsum _ (s * a + j) + l.getD ((s * a + j) / s) 0 = _
    rw [ih, Nat.mul_add_div hs, Nat.div_eq_of_lt (show j < s by omega), Nat.add_zero]
    simp [Int.add_mul]; omega
section
variable (T : List Int) (s n : Nat)
theorem fwd_bd {t M : Int} {now : List Int} (hn : 0 < n) (hM : 0 ≤ M) (hb : Bd M now) : ∀ i, i ≤ n * s → (∀ j, 0 ≤ (fwdL T s n t now i).getD j 0 ∧ (fwdL T s n t now i).getD j 0 ≤ i * M) ∧ (fwdL T s n t now i).sum ≤ gsum (fun i => now.getD (i / s) 0) i
  | 0, _ => by
    refine ⟨fun j => ?_, ?_⟩
    · simp only [fwdL, List.getD_eq_getElem?_getD, List.getElem?_replicate]; split <;> simp
    · simp [fwdL, gsum]
  | i + 1, hi => by
    obtain ⟨h1, h2⟩ := fwd_bd hn hM hb (t := t) i (by omega)
    have hb' := hb (i / s)
    have em : ((i + 1 : Nat) : Int) * M = i * M + M := by simp [Int.add_mul]
    unfold fwdL
    show (∀ j, _) ∧ _ ≤ gsum _ i + now.getD (i / s) 0
    split
    · refine ⟨fun j => ?_, ?_⟩
      · rw [updL_getD _ _ _ _ (by rw [fwd_len]; exact Nat.mod_lt _ hn)]
        have := h1 j
        split <;> omega
      · rw [sum_upd _ _ _ (by rw [fwd_len]; exact Nat.mod_lt _ hn)]; omega
    · refine ⟨fun j => ?_, by omega⟩
      have := h1 j
      omega
theorem bwd_bd {t M : Int} {after : List Int} (hM : 0 ≤ M) (hb : Bd M after) : ∀ i, i ≤ n * s → (∀ j, 0 ≤ (bwdL T s n t after i).getD j 0 ∧ (bwdL T s n t after i).getD j 0 ≤ i * M) ∧ (bwdL T s n t after i).sum ≤ gsum (fun i => after.getD (i % n) 0) i
  | 0, _ => by
    refine ⟨fun j => ?_, ?_⟩
    · simp only [bwdL, List.getD_eq_getElem?_getD, List.getElem?_replicate]; split <;> simp
    · simp [bwdL, gsum]
  | i + 1, hi => by
    obtain ⟨h1, h2⟩ := bwd_bd hM hb (t := t) i (by omega)
    have hb' := hb (i % n)
    have em : ((i + 1 : Nat) : Int) * M = i * M + M := by simp [Int.add_mul]
    unfold bwdL
    show (∀ j, _) ∧ _ ≤ gsum _ i + after.getD (i % n) 0
    split
    · refine ⟨fun j => ?_, ?_⟩
      · rw [updL_getD _ _ _ _ (by rw [bwd_len]; exact div_lt' (by omega))]
        have := h1 j
        split <;> omega
      · rw [sum_upd _ _ _ (by rw [bwd_len]; exact div_lt' (by omega))]; omega
    · refine ⟨fun j => ?_, by omega⟩
      have := h1 j
      omega
/-- The entries are not less than 0, and their sum is at most M. -/
def Sm (M : Int) (l : List Int) : Prop := (∀ i, 0 ≤ l.getD i 0) ∧ l.sum ≤ M
theorem Sm.bd {M : Int} {l : List Int} (h : Sm M l) : Bd M l := fun i => ⟨h.1 i, Int.le_trans (nn_sum l h.1 i).1 h.2⟩
theorem Sm.nn {M : Int} {l : List Int} (h : Sm M l) : 0 ≤ M := Int.le_trans (nn_sum l h.1 0).2 h.2
theorem fwd_sm {t M : Int} {now : List Int} (hn : 0 < n) (hs : 0 < s) (h1 : now.length = n) (h : Sm M now) : Sm (s * M) (fwdA T s n t now) := by
  obtain ⟨a, b⟩ := fwd_bd T s n (t := t) hn h.nn h.bd (n * s) (Nat.le_refl _)
  refine ⟨fun i => (a i).1, Int.le_trans b ?_⟩
  have := gsum_div (l := now) hs n 0 (by omega) (.inr ⟨h1.symm, rfl⟩)
  rw [Nat.add_zero, Nat.mul_comm] at this
  rw [this, List.take_of_length_le (by omega)]
  have := Int.mul_le_mul_of_nonneg_left h.2 (show (0 : Int) ≤ s by omega)
  simp; exact this
theorem bwd_sm {t M : Int} {after : List Int} (hn : 0 < n) (h1 : after.length = n) (h : Sm M after) : Sm (s * M) (bwdA T s n t after) := by
  obtain ⟨a, b⟩ := bwd_bd T s n (t := t) h.nn h.bd (n * s) (Nat.le_refl _)
  refine ⟨fun i => (a i).1, Int.le_trans b ?_⟩
  have := gsum_mod hn h1 s 0 (by omega)
  rw [Nat.add_zero] at this
  rw [this]
  have := Int.mul_le_mul_of_nonneg_left h.2 (show (0 : Int) ≤ s by omega)
  simp; exact this
end
section
variable (T : List Int) (s n : Nat)
/-- The list of n numbers, of which the one at e is 1, and the others 0. -/
def unitL (e : Nat) : List Int := updL (List.replicate n 0) e 1
theorem unit_len (e : Nat) : (unitL n e).length = n := by simp [unitL]
theorem dot_unit {v : List Int} {e : Nat} (he : e < n) (h : v.length = n) : dotL (unitL n e) v = v.getD e 0 := by
  unfold unitL
  rw [dot_upd _ _ _ _ (by simpa using he) (by simp [h]), dot_zero]; omega
theorem dot_unit_r {v : List Int} {e : Nat} (he : e < n) (h : v.length = n) : dotL v (unitL n e) = v.getD e 0 := by rw [dot_comm, dot_unit n he h]
theorem gsum_congr {f g : Nat → Int} : ∀ m, (∀ i, i < m → f i = g i) → gsum f m = gsum g m
  | 0, _ => rfl
  | m + 1, h => by show gsum f m + f m = gsum g m + g m; rw [gsum_congr m (fun i hi => h i (by omega)), h m (by omega)]
theorem gsum_shift (f : Nat → Int) : ∀ m, gsum f (m + 1) = f 0 + gsum (fun i => f (i + 1)) m
  | 0 => by simp [gsum]
  | m + 1 => by show gsum f (m + 1) + f (m + 1) = f 0 + (gsum (fun i => f (i + 1)) m + f (m + 1)); rw [gsum_shift f m]; omega
theorem dot_gsum : ∀ (u v : List Int) (m : Nat), u.length = m → v.length = m → dotL u v = gsum (fun j => u.getD j 0 * v.getD j 0) m
  | [], [], 0, _, _ => rfl
  | [], _, _ + 1, h, _ => absurd h (by simp)
  | _ :: _, _, 0, h, _ => absurd h (by simp)
  | _, [], _ + 1, _, h => absurd h (by simp)
  | _, _ :: _, 0, _, h => absurd h (by simp)
  | a :: u, b :: v, m + 1, h1, h2 => by
    rw [gsum_shift]
    show a * b + dotL u v = a * b + _
    rw [dot_gsum u v m (by simpa using h1) (by simpa using h2)]; rfl
theorem gsum_add (f g : Nat → Int) : ∀ m, gsum (fun i => f i + g i) m = gsum f m + gsum g m
  | 0 => rfl
  | m + 1 => by show gsum (fun i => f i + g i) m + (f m + g m) = gsum f m + f m + (gsum g m + g m); rw [gsum_add f g m]; omega
theorem gsum_swap (f : Nat → Nat → Int) : ∀ a b, gsum (fun i => gsum (fun j => f i j) b) a = gsum (fun j => gsum (fun i => f i j) a) b
  | 0, b => by
    show 0 = gsum (fun _ => 0) b
    induction b with
    | zero => rfl
    | succ b ih => show 0 = gsum (fun _ => 0) b + 0; omega
  | a + 1, b => by
    show gsum (fun i => gsum (fun j => f i j) b) a + gsum (fun j => f a j) b = gsum (fun j => gsum (fun i => f i j) a + f a j) b
    rw [gsum_swap f a b, gsum_add]
/-- In how many ways one can go around. -/
def trL (ws : List Int) : Int := gsum (fun e => (fwds T s n ws (unitL n e)).getD e 0) n
theorem fwds_app (u v x : List Int) : fwds T s n (u ++ v) x = fwds T s n v (fwds T s n u x) := by simp [fwds]
theorem bwds_at (hn : 0 < n) {v : List Int} {e j : Nat} (he : e < n) (hj : j < n) : (bwds T s n v (unitL n e)).getD j 0 = (fwds T s n v (unitL n j)).getD e 0 := by
  rw [← dot_unit n hj (bwds_len T s n v _ (unit_len n e)), ← adjs T s n hn (unit_len n e) v _ (unit_len n j), dot_unit_r n he (fwds_len T s n v _ (unit_len n j))]
theorem tr_two (hn : 0 < n) (u v : List Int) : trL T s n (u ++ v) = gsum (fun e => gsum (fun j => (fwds T s n u (unitL n e)).getD j 0 * (fwds T s n v (unitL n j)).getD e 0) n) n := by
  refine gsum_congr n (fun e he => ?_)
  rw [fwds_app, ← dot_unit_r n he (fwds_len T s n v _ (fwds_len T s n u _ (unit_len n e))), adjs T s n hn (unit_len n e) v _ (fwds_len T s n u _ (unit_len n e)),
    dot_gsum _ _ n (fwds_len T s n u _ (unit_len n e)) (bwds_len T s n v _ (unit_len n e))]
  refine gsum_congr n (fun j hj => ?_)
  rw [bwds_at T s n hn he hj]
theorem tr_turn (hn : 0 < n) (u v : List Int) : trL T s n (u ++ v) = trL T s n (v ++ u) := by
  rw [tr_two T s n hn u v, tr_two T s n hn v u, gsum_swap]
  refine gsum_congr n (fun j _ => gsum_congr n (fun e _ => ?_))
  rw [Int.mul_comm]
theorem tr_bwd (hn : 0 < n) (ws : List Int) : gsum (fun e => (bwds T s n ws (unitL n e)).getD e 0) n = trL T s n ws :=
  gsum_congr n (fun e he => bwds_at T s n hn he he)
end

end Go.Proofs.Ytjeoccjemkdbiaa.LnkP
