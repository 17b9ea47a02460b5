/- MirrorField of both sides. -/
import Derived.Test.YtjeoccjemkdbiaaGrow
import Derived.Test.YtjeoccjemkdbiaaClone
namespace Go.Proofs.Ytjeoccjemkdbiaa.FMir
open Go.RowKit Go.Proofs.Ytjeoccjemkdbiaa.Rd Go.Proofs.Ytjeoccjemkdbiaa.Help Go.Proofs.Ytjeoccjemkdbiaa.Ring Go.Proofs.Ytjeoccjemkdbiaa.Small Go.Proofs.Ytjeoccjemkdbiaa.FVal Go.Proofs.Ytjeoccjemkdbiaa.Keep Go.Proofs.Ytjeoccjemkdbiaa.Rule Go.Proofs.Ytjeoccjemkdbiaa.Grow
set_option linter.unusedVariables false
set_option linter.unusedSimpArgs false

theorem g_trans {w0 w w' : World} {b : Nat} (g : w0.grownBy w (some b)) (h : w.grownBy w' (some b)) : w0.grownBy w' (some b) :=
  ⟨h.os.trans g.os, h.tape.trans g.tape, h.output.trans g.output, Nat.le_trans g.size h.size, fun k hk hne => (h.block k (Nat.lt_of_lt_of_le hk g.size) hne).trans (g.block k hk hne)⟩
/-- A list told place by place. -/
def At (ys : List Int) (n : Nat) (F : Nat → Int) : Prop := ys.length = n ∧ ∀ i, i < n → ys.getD i 0 = F i
theorem at_set {ys : List Int} {n t : Nat} {F : Nat → Int} (h : At ys n F) (ht : t < n) (x : Int) : At (ys.set t x) n (fun i => if i = t then x else F i) := by
  refine ⟨by rw [List.length_set]; exact h.1, fun i hi => ?_⟩
  by_cases e : i = t
  · subst e; simp [List.getD, h.1, hi]
  · have := h.2 i hi
    simp only [List.getD] at this ⊢
    rw [List.getElem?_set_ne (by omega), if_neg e]
    exact this
theorem at_congr {ys : List Int} {n : Nat} {F G : Nat → Int} (h : At ys n F) (e : ∀ i, i < n → F i = G i) : At ys n G := ⟨h.1, fun i hi => (h.2 i hi).trans (e i hi)⟩
theorem at_self {zs : List Int} {n : Nat} (h : zs.length = n) : At zs n (fun i => zs.getD i 0) := ⟨h, fun _ _ => rfl⟩
theorem at_grid {ys : List Int} {R C : Nat} {f : Nat → Nat → Int} (hl : ys.length = R * C) (h : ∀ i k, i < R → k < C → ys.getD (i * C + k) 0 = f i k) : ys = grid R C f := by
  apply List.ext_getElem
  · rw [hl, grid_len]
  · intro t h1 h2
    have hC : 0 < C := by rcases Nat.eq_zero_or_pos C with e | e; · subst e; simp at hl; rw [hl] at h1; simp at h1
                          · exact e
    have ht : t / C * C + t % C = t := by rw [Nat.mul_comm]; exact Nat.div_add_mod t C
    have hk : t % C < C := Nat.mod_lt _ hC
    have hi : t / C < R := by rw [Nat.div_lt_iff_lt_mul hC]; omega
    have e1 := h (t / C) (t % C) hi hk
    have e2 := grid_get f hi hk
    rw [ht] at e1 e2
    simp only [List.getD, List.getElem?_eq_getElem h1, List.getElem?_eq_getElem h2, Option.getD_some] at e1 e2
    rw [e1, e2]

/-- Behind k exchanges of the outer cells of the C cells from L on. -/
def rvF (zs : List Int) (L C k i : Nat) : Int := if (L ≤ i ∧ i < L + k) ∨ (L + C - k ≤ i ∧ i < L + C) then zs.getD (2 * L + C - 1 - i) 0 else zs.getD i 0
def revF (zs : List Int) (L C i : Nat) : Int := if L ≤ i ∧ i < L + C then zs.getD (2 * L + C - 1 - i) 0 else zs.getD i 0
theorem rv_step (zs : List Int) (L C k i : Nat) (h : k + (k + 1) < C) : (if i = L + (C - 1 - k) then zs.getD (L + k) 0 else if i = L + k then zs.getD (L + (C - 1 - k)) 0 else rvF zs L C k i) = rvF zs L C (k + 1) i := by
  by_cases e1 : i = L + (C - 1 - k)
  · rw [if_pos e1, rvF, if_pos (by omega)]
    congr 1; omega
  · rw [if_neg e1]
    by_cases e2 : i = L + k
    · rw [if_pos e2, rvF, if_pos (by omega)]
      congr 1; omega
    · rw [if_neg e2, rvF, rvF]
      by_cases e3 : (L ≤ i ∧ i < L + k) ∨ (L + C - k ≤ i ∧ i < L + C)
      · rw [if_pos e3, if_pos (by omega)]
      · rw [if_neg e3, if_neg (by omega)]
theorem rv_end (zs : List Int) (L C k i : Nat) (h1 : 2 * k ≤ C) (h2 : C ≤ 2 * k + 1) : rvF zs L C k i = revF zs L C i := by
  rw [rvF, revF]
  by_cases e3 : (L ≤ i ∧ i < L + k) ∨ (L + C - k ≤ i ∧ i < L + C)
  · rw [if_pos e3, if_pos (by omega)]
  · rw [if_neg e3]
    by_cases e4 : L ≤ i ∧ i < L + C
    · rw [if_pos e4]; congr 1; omega
    · rw [if_neg e4]

/-- The cells of a field that is mirrored. -/
def mirL (zs : List Int) (R C : Nat) : List Int := grid R C fun i k => zs.getD (i * C + (C - 1 - k)) 0

/-- A list of R rows of C cells. -/
def AtG (ys : List Int) (R C : Nat) (f : Nat → Nat → Int) : Prop := ys.length = R * C ∧ ∀ i k, i < R → k < C → ys.getD (i * C + k) 0 = f i k
def mirF (zs : List Int) (C p i k : Nat) : Int := if i < p then zs.getD (i * C + (C - 1 - k)) 0 else zs.getD (i * C + k) 0
theorem mir_step {zs ys ys2 : List Int} {R C p : Nat} (hp : p < R) (h : AtG ys R C (mirF zs C p)) (h2 : At ys2 (R * C) (revF ys (p * C) C)) : AtG ys2 R C (mirF zs C (p + 1)) := by
  refine ⟨h2.1, fun i k hi hk => ?_⟩
  have hb := pos_bd hi hk
  rw [h2.2 _ hb, revF]
  rcases Nat.lt_trichotomy i p with hip | hip | hip
  · have hm := Nat.mul_le_mul_right C (show i + 1 ≤ p by omega)
    rw [Nat.succ_mul] at hm
    rw [if_neg (by omega), h.2 i k hi hk, mirF, mirF, if_pos hip, if_pos (by omega)]
  · subst hip
    have hq := h.2 i (C - 1 - k) hi (by omega)
    rw [if_pos (by omega), show 2 * (i * C) + C - 1 - (i * C + k) = i * C + (C - 1 - k) by omega, hq, mirF, mirF, if_neg (by omega), if_pos (by omega)]
  · have hm := Nat.mul_le_mul_right C (show p + 1 ≤ i by omega)
    rw [Nat.succ_mul] at hm
    rw [if_neg (by omega), h.2 i k hi hk, mirF, mirF, if_neg (by omega), if_neg (by omega)]
theorem mir_start {zs : List Int} {R C : Nat} (h : zs.length = R * C) : AtG zs R C (mirF zs C 0) := ⟨h, fun i k _ _ => by rw [mirF, if_neg (by omega)]⟩
theorem mir_end {zs ys : List Int} {R C : Nat} (h : AtG ys R C (mirF zs C R)) : ys = mirL zs R C := by
  rw [mirL]
  exact at_grid h.1 (fun i k hi hk => by rw [h.2 i k hi hk, mirF, if_pos hi])

end Go.Proofs.Ytjeoccjemkdbiaa.FMir
