/- PairTable of both sides. -/
import Derived.Test.YtjeoccjemkdbiaaLnkI
import Derived.Test.YtjeoccjemkdbiaaBox
import Derived.Test.YtjeoccjemkdbiaaSpO
namespace Go.Proofs.Ytjeoccjemkdbiaa.Ptb
open Go.RowKit Go.Shelf Go.Proofs.Ytjeoccjemkdbiaa.Rd Go.Proofs.Ytjeoccjemkdbiaa.Help Go.Proofs.Ytjeoccjemkdbiaa.Ring Go.Proofs.Ytjeoccjemkdbiaa.Small Go.Proofs.Ytjeoccjemkdbiaa.Num Go.Proofs.Ytjeoccjemkdbiaa.Keep Go.Proofs.Ytjeoccjemkdbiaa.Rule Go.Proofs.Ytjeoccjemkdbiaa.Lnk Go.Proofs.Ytjeoccjemkdbiaa.LnkP Go.Proofs.Ytjeoccjemkdbiaa.LnkI Go.Proofs.Ytjeoccjemkdbiaa.Box
set_option linter.unusedVariables false
set_option linter.unusedSimpArgs false
attribute [local go_sem] Oper.semAt_some

/-- The place of a pair of ends that a neighbourhood joins. -/
def ix (S n i : Nat) : Nat := (i / S) * n + i % n
theorem ix_lt {S n i : Nat} (hn : 1 ≤ n) (h : i < n * S) : ix S n i < n * n := by
  have h1 : i / S < n := div_lt' h
  have h2 : i % n < n := Nat.mod_lt _ hn
  have h3 : (i / S + 1) * n ≤ n * n := Nat.mul_le_mul_right _ h1
  unfold ix; rw [Nat.add_mul] at h3; omega
/-- How often some neighbourhoods join each pair of ends. -/
def pt (S n : Nat) (xs : List Nat) : List Int := xs.foldl (fun l i => updL l (ix S n i) 1) (List.replicate (n * n) 0)
theorem pt_snoc (S n : Nat) (xs : List Nat) (i : Nat) : pt S n (xs ++ [i]) = updL (pt S n xs) (ix S n i) 1 := by simp [pt]
theorem fold_len (S n : Nat) : ∀ (xs : List Nat) (l : List Int), (xs.foldl (fun l i => updL l (ix S n i) 1) l).length = l.length
  | [], _ => rfl
  | i :: xs, l => by show (xs.foldl _ (updL l (ix S n i) 1)).length = _; rw [fold_len S n xs]; simp
theorem pt_len (S n : Nat) (xs : List Nat) : (pt S n xs).length = n * n := by unfold pt; rw [fold_len]; simp
theorem fold_bd (S n : Nat) (hn : 1 ≤ n) : ∀ (xs : List Nat) (l : List Int) (M : Int), l.length = n * n → (∀ i, i ∈ xs → i < n * S) → (∀ j, 0 ≤ l.getD j 0 ∧ l.getD j 0 ≤ M) → ∀ j, 0 ≤ (xs.foldl (fun l i => updL l (ix S n i) 1) l).getD j 0 ∧ (xs.foldl (fun l i => updL l (ix S n i) 1) l).getD j 0 ≤ M + xs.length
  | [], l, M, _, _, hb, j => by simpa using hb j
  | i :: xs, l, M, hl, hx, hb, j => by
    have := fold_bd S n hn xs (updL l (ix S n i) 1) (M + 1) (by simpa using hl) (fun k hk => hx k (by simp [hk])) (fun k => by
      rw [updL_getD _ _ _ _ (by rw [hl]; exact ix_lt hn (hx i (by simp)))]
      have := hb k
      split <;> omega) j
    show 0 ≤ (xs.foldl _ (updL l (ix S n i) 1)).getD j 0 ∧ (xs.foldl _ (updL l (ix S n i) 1)).getD j 0 ≤ M + ((xs.length + 1 : Nat) : Int)
    have e : ((xs.length + 1 : Nat) : Int) = xs.length + 1 := by simp
    rw [e]; omega
theorem pt_bd {S n : Nat} (hn : 1 ≤ n) {xs : List Nat} (hx : ∀ i, i ∈ xs → i < n * S) (hl : xs.length ≤ 243) (j : Nat) : 0 ≤ (pt S n xs).getD j 0 ∧ (pt S n xs).getD j 0 ≤ 243 := by
  have := fold_bd S n hn xs (List.replicate (n * n) 0) 0 (by simp) hx (fun j => by simp only [List.getD_eq_getElem?_getD, List.getElem?_replicate]; split <;> simp) j
  unfold pt; omega
theorem lk_mem {tbl : List Int} {to : Int} {m i : Nat} (h : i ∈ lkL tbl to m) : i < m := List.mem_range.1 (List.mem_filter.1 h).1
theorem nn_bd {n : Nat} (h : 1 ≤ n ∧ n ≤ 81) : 1 ≤ n * n ∧ n * n ≤ 6561 := ⟨Nat.mul_le_mul h.1 h.1, Nat.mul_le_mul h.2 h.2⟩

end Go.Proofs.Ytjeoccjemkdbiaa.Ptb
