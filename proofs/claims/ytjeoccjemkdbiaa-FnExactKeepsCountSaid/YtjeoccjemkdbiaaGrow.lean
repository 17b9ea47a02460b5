/- Behind stores into a row of one's own: what stays; lists that are filled from the front. -/
import Derived.Test.YtjeoccjemkdbiaaRow
import Derived.Lib.BufferOwn
import Derived.StillTailTactics
namespace Go.Proofs.Ytjeoccjemkdbiaa.Grow
open Go.RowKit Go.Proofs.Ytjeoccjemkdbiaa.Rd Go.Proofs.Ytjeoccjemkdbiaa.Help Go.Proofs.Ytjeoccjemkdbiaa.FVal Go.Proofs.Ytjeoccjemkdbiaa.Keep Go.Proofs.Ytjeoccjemkdbiaa.Rule
set_option linter.unusedVariables false
set_option linter.unusedSimpArgs false

theorem g_refl (w : World) (b : Nat) : w.grownBy w (some b) := World.grownBy.refl _ _
theorem g_bel {w0 w w' : World} {b : Nat} (g : w0.grownBy w (some b)) (bel : Below w.heap.size w w') : w0.grownBy w' (some b) :=
  ⟨bel.os.trans g.os, bel.tape.trans g.tape, bel.output.trans g.output, Nat.le_trans g.size bel.size, fun k hk hne => (bel.block k (Nat.lt_of_lt_of_le hk g.size)).trans (g.block k hk hne)⟩
theorem g_drew {w0 w : World} {b : Nat} (g : w0.grownBy w (some b)) : w0.grownBy w.drew (some b) := ⟨g.os, g.tape, g.output, g.size, g.block⟩
theorem g_set {w0 w : World} {b : Nat} (g : w0.grownBy w (some b)) (i : Nat) (x : Value) : w0.grownBy (w.setCell ⟨b, i, none⟩ x) (some b) :=
  ⟨g.os, g.tape, g.output, by simpa [World.setCell] using g.size, fun k hk hne => (Below.heap_setCell _ _ _ _ (by intro e; exact hne (by rw [e]))).trans (g.block k hk hne)⟩
theorem g_cell {w0 w : World} {b g i : Nat} {c : Value} (h : w0.grownBy w (some b)) (hc : w0.cell? ⟨g, i, none⟩ = some c) (hne : g ≠ b) : w.cell? ⟨g, i, none⟩ = some c :=
  World.grownBy.cell h hc (by simp; exact hne)
theorem g_heap {w0 w : World} {b g : Nat} {o : Obj} (h : w0.grownBy w (some b)) (hc : w0.heap[g]? = some o) (hne : g ≠ b) : w.heap[g]? = some o :=
  (h.block g (Array.getElem?_eq_some_iff.1 hc).1 (by simp; exact hne)).trans hc
theorem g_below {w0 w1 w : World} {b : Nat} (bel : Below w0.heap.size w0 w1) (g : w1.grownBy w (some b)) (hb : w0.heap.size ≤ b) : Below w0.heap.size w0 w :=
  below_mark bel g bel.size hb

/-- The first t cells of a list of n, the others 0. -/
def filN (tgt : List Int) (n t : Nat) : List Int := tgt.take t ++ List.replicate (n - t) 0
theorem filN_zero (tgt : List Int) (n : Nat) : filN tgt n 0 = List.replicate n 0 := by simp [filN]
theorem filN_all (tgt : List Int) (n : Nat) (h : tgt.length = n) : filN tgt n n = tgt := by subst h; simp [filN]
theorem filN_len (tgt : List Int) (n t : Nat) (h : tgt.length = n) (ht : t ≤ n) : (filN tgt n t).length = n := by simp [filN]; omega
theorem filN_set (tgt : List Int) (n t : Nat) (h : tgt.length = n) (ht : t < n) : (filN tgt n t).set t (tgt.getD t 0) = filN tgt n (t + 1) := by
  subst h; exact set_part tgt t ht

theorem field_nat {R C : Nat} {zs : List Int} (h : fieldB R C zs = true) : (1 ≤ R ∧ R ≤ 24) ∧ (1 ≤ C ∧ C ≤ 24) ∧ zs.length = R * C ∧ R * C ≤ 576 := by
  simp only [fieldB, Bool.and_eq_true, decide_eq_true_eq] at h
  obtain ⟨hs, hx, _⟩ := h
  have hb : (1 ≤ R ∧ R ≤ 24) ∧ 1 ≤ C ∧ C ≤ 24 := by simp [sidesB] at hs; omega
  have h1 : R * C ≤ 24 * 24 := Nat.mul_le_mul (by omega) (by omega)
  have h2 : ((R * C : Nat) : Int) = (R : Int) * C := by simp
  exact ⟨hb.1, hb.2, by omega, by omega⟩
theorem pos_bd {R C i k : Nat} (hi : i < R) (hk : k < C) : i * C + k < R * C := by
  have := Row.row_in (C := C) hi
  omega
theorem pos_div {C i k : Nat} (hk : k < C) : (i * C + k) / C = i ∧ (i * C + k) % C = k := by
  have h0 : 0 < C := by omega
  constructor
  · rw [Nat.add_comm, Nat.add_mul_div_right _ _ h0, Nat.div_eq_of_lt hk, Nat.zero_add]
  · rw [Nat.add_comm, Nat.add_mul_mod_self_right, Nat.mod_eq_of_lt hk]
/-- A list told by the rows and columns of its cells. -/
def grid (R C : Nat) (f : Nat → Nat → Int) : List Int := (List.range (R * C)).map fun t => f (t / C) (t % C)
theorem grid_len (R C : Nat) (f : Nat → Nat → Int) : (grid R C f).length = R * C := by simp [grid]
theorem grid_get {R C i k : Nat} (f : Nat → Nat → Int) (hi : i < R) (hk : k < C) : (grid R C f).getD (i * C + k) 0 = f i k := by
  have h := pos_bd hi hk
  have hp := pos_div (i := i) hk
  simp [grid, List.getD, h, hp.1, hp.2]
/-- The wraps of a place. -/
theorem wrap_pos {i C k : Nat} (h : i * C + k ≤ 1000) : IntKind.i64.wrap ((i : Int) * (C : Int)) = ((i * C : Nat) : Int) ∧ IntKind.i64.wrap (((i * C : Nat) : Int) + (k : Int)) = ((i * C + k : Nat) : Int) := by
  have e : ((i * C : Nat) : Int) = (i : Int) * C := by simp
  constructor
  · rw [← e, IntKind.wrap_i64]; omega
  · rw [IntKind.wrap_i64]; omega

theorem set_cell {w : World} {a : Addr} {u c : Value} {g i : Nat} (h : w.cell? ⟨g, i, none⟩ = some c) (hne : g ≠ a.block) : (w.setCell a u).cell? ⟨g, i, none⟩ = some c := FNew.set_cell h hne

end Go.Proofs.Ytjeoccjemkdbiaa.Grow
