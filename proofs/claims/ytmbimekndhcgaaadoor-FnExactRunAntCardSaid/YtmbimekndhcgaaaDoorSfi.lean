/- spec.l04Fire: a fire that spreads once, the model. -/
import Derived.Test.YtmbimekndhcgaaaDoorSbe
import Derived.Test.YtmbimekndhcgaaaDoorSOwn
import Derived.Test.YtmbimekndhcgaaaDoorFMir
import Derived.Test.YtmbimekndhcgaaaDoorFSpec
import Derived.Deep.Cut
import Derived.Deep.QuietTactic
import Derived.BigQuiet
namespace Go.Proofs.YtmbimekndhcgaaaDoor.Sfi
open Go.RowKit Go.Proofs.YtmbimekndhcgaaaDoor.Rd Go.Proofs.YtmbimekndhcgaaaDoor.Help Go.Proofs.YtmbimekndhcgaaaDoor.Small Go.Proofs.YtmbimekndhcgaaaDoor.FVal Go.Proofs.YtmbimekndhcgaaaDoor.Keep Go.Proofs.YtmbimekndhcgaaaDoor.Rule Go.Proofs.YtmbimekndhcgaaaDoor.Grow Go.Proofs.YtmbimekndhcgaaaDoor.Sbe Go.Proofs.YtmbimekndhcgaaaDoor.FMir
set_option linter.unusedVariables false
set_option linter.unusedSimpArgs false

theorem heap_keep {w w' : World} {n : Nat} {o : Obj} (bel : Below w.heap.size w w') (h : w.heap[n]? = some o) : w'.heap[n]? = some o :=
  (bel.block n (Array.getElem?_eq_some_iff.1 h).1).trans h
theorem heap_lt {w : World} {n : Nat} {o : Obj} (h : w.heap[n]? = some o) : n < w.heap.size := (Array.getElem?_eq_some_iff.1 h).1
theorem at_list {ys : List Int} {n : Nat} {F : Nat → Int} (h : FMir.At ys n F) : ys = (List.range n).map F := by
  apply List.ext_getElem
  · simp [h.1]
  · intro i h1 h2
    have := h.2 i (by have := h.1; omega)
    rw [List.getD_eq_getElem?_getD, List.getElem?_eq_getElem h1] at this
    simpa using this
def near2 (zs : List Int) (L : List Nat) : Bool := L.any fun j => decide (zs.getD j 0 = 2)
/-- A cell behind the fire. -/
def sfin (zs : List Int) (R C i : Nat) : Int := if zs.getD i 0 = 2 then 0 else if zs.getD i 0 = 1 ∧ near2 zs (sbL R C i) = true then 2 else zs.getD i 0
def sv (zs : List Int) (R C p i : Nat) : Int := if i < p then sfin zs R C i else zs.getD i 0
def svI (zs : List Int) (R C p k i : Nat) : Int := if i = p then (if near2 zs ((sbL R C p).take k) = true then 2 else 1) else sv zs R C p i
theorem sv_zero (zs : List Int) (R C i : Nat) : sv zs R C 0 i = zs.getD i 0 := by unfold sv; rw [if_neg (by omega)]
theorem sv_two {zs : List Int} {R C p : Nat} (h : zs.getD p 0 = 2) (i : Nat) : (if i = p then 0 else sv zs R C p i) = sv zs R C (p + 1) i := by
  unfold sv
  by_cases hp : i = p
  · subst hp; rw [if_pos rfl, if_pos (by omega)]; unfold sfin; rw [if_pos h]
  · rw [if_neg hp]
    by_cases hq : i < p
    · rw [if_pos hq, if_pos (by omega)]
    · rw [if_neg hq, if_neg (by omega)]
theorem sv_skip {zs : List Int} {R C p : Nat} (h : zs.getD p 0 ≠ 2) (h1 : zs.getD p 0 ≠ 1) (i : Nat) : sv zs R C p i = sv zs R C (p + 1) i := by
  unfold sv
  by_cases hp : i = p
  · subst hp; rw [if_neg (by omega), if_pos (by omega)]; unfold sfin; rw [if_neg h, if_neg (fun e => h1 e.1)]
  · by_cases hq : i < p
    · rw [if_pos hq, if_pos (by omega)]
    · rw [if_neg hq, if_neg (by omega)]
theorem svI_zero {zs : List Int} {R C p : Nat} (h : zs.getD p 0 = 1) (i : Nat) : sv zs R C p i = svI zs R C p 0 i := by
  unfold svI
  by_cases hp : i = p
  · subst hp; rw [if_pos rfl]; unfold sv; rw [if_neg (by omega), h]; simp [near2]
  · rw [if_neg hp]
theorem near_succ {zs : List Int} {L : List Nat} {k : Nat} (hk : k < L.length) : near2 zs (L.take (k + 1)) = (near2 zs (L.take k) || decide (zs.getD (L.getD k 0) 0 = 2)) := by
  unfold near2
  rw [List.take_add_one, List.any_append]
  simp [List.getElem?_eq_getElem hk, List.getD_eq_getElem?_getD]
theorem svI_yes {zs : List Int} {R C p k : Nat} (hk : k < (sbL R C p).length) (h : zs.getD ((sbL R C p).getD k 0) 0 = 2) (i : Nat) : (if i = p then 2 else svI zs R C p k i) = svI zs R C p (k + 1) i := by
  unfold svI
  rw [near_succ hk, decide_eq_true h, Bool.or_true]
  by_cases hp : i = p
  · rw [if_pos hp, if_pos hp, if_pos rfl]
  · rw [if_neg hp, if_neg hp, if_neg hp]
theorem svI_no {zs : List Int} {R C p k : Nat} (hk : k < (sbL R C p).length) (h : zs.getD ((sbL R C p).getD k 0) 0 ≠ 2) (i : Nat) : svI zs R C p k i = svI zs R C p (k + 1) i := by
  unfold svI
  rw [near_succ hk, decide_eq_false h, Bool.or_false]
theorem sfin_one {zs : List Int} {R C i : Nat} (h : zs.getD i 0 = 1) : sfin zs R C i = if near2 zs (sbL R C i) = true then 2 else 1 := by
  unfold sfin; rw [h]
  by_cases hn : near2 zs (sbL R C i) = true <;> simp [hn]
theorem svI_end {zs : List Int} {R C p : Nat} (h : zs.getD p 0 = 1) (i : Nat) : svI zs R C p (sbL R C p).length i = sv zs R C (p + 1) i := by
  unfold svI
  rw [List.take_length]
  by_cases hp : i = p
  · subst hp
    have hs : sv zs R C (i + 1) i = sfin zs R C i := by unfold sv; rw [if_pos (by omega)]
    rw [if_pos rfl, hs, sfin_one h]
  · rw [if_neg hp]; unfold sv
    by_cases hq : i < p
    · rw [if_pos hq, if_pos (by omega)]
    · rw [if_neg hq, if_neg (by omega)]
theorem mem_sb {c : Prop} [Decidable c] {x y : Nat} {L : List Nat} (h : x ∈ sb c y L) : (c ∧ x = y) ∨ x ∈ L := by
  unfold sb at h
  split at h
  · rcases List.mem_append.1 h with h | h
    · exact .inr h
    · exact .inl ⟨‹_›, by simpa using h⟩
  · exact .inr h
theorem sb_mem {R C A x : Nat} (hC : 1 ≤ C) (hA : A < R * C) (h : x ∈ sbL R C A) : x < R * C := by
  have hd := Nat.div_add_mod A C
  have hm := Nat.mod_lt A (show 0 < C by omega)
  have hq : A / C < R := Nat.div_lt_of_lt_mul (by rw [Nat.mul_comm]; exact hA)
  have hrow : ∀ r, r < R → C * r + C ≤ R * C := fun r hr => by
    have : (r + 1) * C ≤ R * C := Nat.mul_le_mul_right C hr
    rw [Nat.succ_mul, Nat.mul_comm r C] at this; exact this
  generalize hqq : A / C = q at hd hq
  generalize hmm : A % C = m at hd hm
  have h0 := hrow q hq
  have key : x = A - C ∨ (q + 1 < R ∧ x = A + C) ∨ x = A - 1 ∨ (m + 1 < C ∧ x = A + 1) := by
    rcases mem_sb h with ⟨h1, h2⟩ | h
    · exact .inr (.inr (.inr ⟨by rw [← hmm]; exact h1, h2⟩))
    rcases mem_sb h with ⟨_, h2⟩ | h
    · exact .inr (.inr (.inl h2))
    rcases mem_sb h with ⟨h1, h2⟩ | h
    · exact .inr (.inl ⟨by rw [← hqq]; exact h1, h2⟩)
    rcases mem_sb h with ⟨_, h2⟩ | h
    · exact .inl h2
    · simp at h
  rcases key with rfl | ⟨h1, rfl⟩ | rfl | ⟨h1, rfl⟩
  · omega
  · have := hrow (q + 1) h1
    rw [Nat.mul_succ] at this; omega
  · omega
  · omega
def fireS (zs : List Int) (R C n : Nat) : List Int := (List.range n).map (sfin zs R C)
theorem sv_end {zs ys : List Int} {R C n : Nat} (h : At ys n (sv zs R C n)) : ys = fireS zs R C n := by
  refine at_list (at_congr h (fun i hi => ?_))
  unfold sv; rw [if_pos hi]

end Go.Proofs.YtmbimekndhcgaaaDoor.Sfi
