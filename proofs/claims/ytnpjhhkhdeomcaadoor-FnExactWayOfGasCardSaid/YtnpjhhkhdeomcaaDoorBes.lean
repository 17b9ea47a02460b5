/- The iterator over those of the four neighbours of a place that are within a field. -/
import Derived.Test.YtnpjhhkhdeomcaaDoorFCut
import Derived.Test.YtnpjhhkhdeomcaaDoorFNew
import Derived.Test.YtnpjhhkhdeomcaaDoorFSpec
import Derived.RangeFuncNested
import Derived.RangeFuncBound
import Derived.RangeFuncCalls
import Derived.RangeFuncLeaves
import Derived.Shelf.Abstract
import Derived.Shelf.RegionOpen
import Derived.WalkKit
import Derived.OwnWalkIn
import Derived.TacticsInMore
import Derived.LoopNIn
import Derived.LoopIn
import Derived.Laws.Rows
import Derived.Deep.Cut
namespace Go.Proofs.YtnpjhhkhdeomcaaDoor.Bes
open Go.RowKit Go.Shelf Go.Proofs.YtnpjhhkhdeomcaaDoor.Rd Go.Proofs.YtnpjhhkhdeomcaaDoor.Help Go.Proofs.YtnpjhhkhdeomcaaDoor.Ring Go.Proofs.YtnpjhhkhdeomcaaDoor.Small Go.Proofs.YtnpjhhkhdeomcaaDoor.FVal Go.Proofs.YtnpjhhkhdeomcaaDoor.Keep Go.Proofs.YtnpjhhkhdeomcaaDoor.Rule Go.Proofs.YtnpjhhkhdeomcaaDoor.Grow Go.Proofs.YtnpjhhkhdeomcaaDoor.FCut
set_option linter.unusedVariables false
set_option linter.unusedSimpArgs false
attribute [local go_sem] Oper.semAt_some

def wayR (k : Nat) : Int := if k = 0 then -1 else if k = 2 then 1 else 0
def wayC (k : Nat) : Int := if k = 1 then 1 else if k = 3 then -1 else 0
def nr (C A k : Nat) : Int := ((A / C : Nat) : Int) + wayR k
def nc (C A k : Nat) : Int := ((A % C : Nat) : Int) + wayC k
def inB4 (R C A k : Nat) : Bool := decide (0 ≤ nr C A k ∧ nr C A k ≤ (R : Int) - 1) && decide (0 ≤ nc C A k ∧ nc C A k ≤ (C : Int) - 1)
def posN (C A k : Nat) : Nat := (nr C A k * (C : Int) + nc C A k).toNat
/-- The first k of the four ways: those places that are within. -/
def besL (R C A : Nat) : Nat → List Nat
  | 0 => []
  | k + 1 => besL R C A k ++ (if inB4 R C A k = true then [posN C A k] else [])
theorem besL_yes {R C A k : Nat} (h : inB4 R C A k = true) : besL R C A (k + 1) = besL R C A k ++ [posN C A k] := by show _ ++ _ = _; rw [if_pos h]
theorem besL_no {R C A k : Nat} (h : inB4 R C A k = false) : besL R C A (k + 1) = besL R C A k := by show _ ++ _ = _; rw [if_neg (by rw [h]; decide), List.append_nil]
theorem besL_len (R C A : Nat) : ∀ k, (besL R C A k).length ≤ k
  | 0 => Nat.le_refl _
  | k + 1 => by
    have := besL_len R C A k
    show (besL R C A k ++ (if inB4 R C A k = true then [posN C A k] else [])).length ≤ k + 1
    split <;> simp <;> omega
theorem besL_pre {R C A j m : Nat} (h : j ≤ m) : besL R C A j <+: besL R C A m := by
  induction m with
  | zero => rw [show j = 0 by omega]; exact List.prefix_refl _
  | succ m ih =>
    by_cases hj : j = m + 1
    · rw [hj]; exact List.prefix_refl _
    · exact (ih (by omega)).trans ⟨_, rfl⟩
theorem pos_in {R C A k : Nat} (h : inB4 R C A k = true) : ((posN C A k : Nat) : Int) = nr C A k * (C : Int) + nc C A k ∧ posN C A k < R * C := by
  simp only [inB4, Bool.and_eq_true, decide_eq_true_eq] at h
  obtain ⟨⟨h1, h2⟩, h3, h4⟩ := h
  obtain ⟨r, hr⟩ := Int.eq_ofNat_of_zero_le h1
  obtain ⟨c, hc⟩ := Int.eq_ofNat_of_zero_le h3
  unfold posN
  rw [hr] at h2
  rw [hc] at h4
  rw [hr, hc]
  have e : (r : Int) * (C : Int) + (c : Int) = ((r * C + c : Nat) : Int) := by simp
  rw [e, Int.toNat_natCast]
  exact ⟨rfl, pos_bd (by omega) (by omega)⟩

/-- The four ways, as they lie in the package's variable. -/
def fourL : List Int := [-1, 0, 0, 1, 1, 0, 0, -1]
def GW (w : World) : Prop := ∃ t fr, w.heap[0]? = some (Obj.cells ((fourL.map (Value.int .i64)).toArray) t fr)
abbrev Pos (R C : Nat) := { x : Nat // x < R * C }
def encP {R C : Nat} (x : Pos R C) : Array Value := #[.int .i64 (x.1 : Int)]
/-- What a round keeps: the two captured variables, and the ways. -/
def KpB (NA NS : Nat) (W W' : World) : Prop := W.heap.size ≤ W'.heap.size ∧ ∀ k, (k = NA ∨ k = NS ∨ k = 0) → W'.heap[k]? = W.heap[k]?
theorem KpB.t {NA NS : Nat} {A B C : World} (h : KpB NA NS A B) (k : KpB NA NS B C) : KpB NA NS A C := ⟨Nat.le_trans h.1 k.1, fun j hj => (k.2 j hj).trans (h.2 j hj)⟩
theorem KpB.set {NA NS b : Nat} (h : NA ≠ b ∧ NS ≠ b ∧ 0 ≠ b) (W : World) (i : Nat) (v : Value) : KpB NA NS W (W.setCell ⟨b, i, none⟩ v) := by
  refine ⟨by simp [World.setCell], fun j hj => Below.heap_setCell W ⟨b, i, none⟩ v j ?_⟩
  rcases hj with rfl | rfl | rfl
  · exact h.1
  · exact h.2.1
  · exact h.2.2
theorem KpB.b {NA NS : Nat} {w : World} (h1 : NA < w.heap.size) (h2 : NS < w.heap.size) (h3 : 0 < w.heap.size) (W : World) (l : Nat) (o o' : Obj) (hl : w.heap.size ≤ l) (h : W.heap[l]? = some o) (_ : o.isCells = false) (_ : o.isWalk = false) : KpB NA NS W (W.putObj l o') :=
  ⟨by simp, fun j hj => World.putObj_heap_other (by omega)⟩
theorem abides_bel {β : Type} {B : Nat} {J : β → World → Prop} (hJ : AbidesFrom B J) {s : β} {W W' : World} (h : J s W) (bel : Below W.heap.size W W') : J s W' :=
  hJ s W W' none h (below_grown bel) (fun r e => by cases e)
theorem abides_drew {β : Type} {B : Nat} {J : β → World → Prop} (hJ : AbidesFrom B J) {s : β} {W : World} (h : J s W) : J s W.drew :=
  hJ s W W.drew none h ⟨rfl, rfl, rfl, Nat.le_refl _, fun _ _ _ => rfl⟩ (fun r e => by cases e)

/-- The captured variables of the iterator. -/
def Cap (W : World) (NA NS R C A : Nat) : Prop :=
  W.heap[NA]? = some (Obj.cells #[.int .i64 (A : Int)] 2) ∧ W.heap[NS]? = some (Obj.cells #[.int .i64 (R : Int), .int .i64 (C : Int)] 54) ∧ GW W
theorem Cap.kp {W W' : World} {NA NS R C A : Nat} (h : Cap W NA NS R C A) (k : KpB NA NS W W') : Cap W' NA NS R C A := by
  obtain ⟨h1, h2, t, fr, h3⟩ := h
  exact ⟨(k.2 NA (.inl rfl)).trans h1, (k.2 NS (.inr (.inl rfl))).trans h2, t, fr, (k.2 0 (.inr (.inr rfl))).trans h3⟩
theorem Cap.bel {W W' : World} {NA NS R C A : Nat} (h : Cap W NA NS R C A) (bel : Below W.heap.size W W') : Cap W' NA NS R C A := by
  obtain ⟨h1, h2, t, fr, h3⟩ := h
  exact ⟨(bel.block _ (Array.getElem?_eq_some_iff.1 h1).1).trans h1, (bel.block _ (Array.getElem?_eq_some_iff.1 h2).1).trans h2, t, fr, (bel.block _ (Array.getElem?_eq_some_iff.1 h3).1).trans h3⟩
theorem Cap.drew {W : World} {NA NS R C A : Nat} (h : Cap W NA NS R C A) : Cap W.drew NA NS R C A := h

theorem gw_bel {w w' : World} (h : GW w) (bel : Below w.heap.size w w') : GW w' := by
  obtain ⟨t, fr, h3⟩ := h
  exact ⟨t, fr, (bel.block _ (Array.getElem?_eq_some_iff.1 h3).1).trans h3⟩
theorem gw_lt {w : World} (h : GW w) : 0 < w.heap.size := by
  obtain ⟨t, fr, h3⟩ := h
  exact (Array.getElem?_eq_some_iff.1 h3).1
theorem gw_ne {w : World} {b : Nat} (h : GW w) (hb : w.heap.size ≤ b) : 0 ≠ b := by have := gw_lt h; omega
theorem way01 (k : Nat) : -1 ≤ wayR k ∧ wayR k ≤ 1 ∧ -1 ≤ wayC k ∧ wayC k ≤ 1 := by
  unfold wayR wayC
  split <;> split <;> (try split) <;> (try split) <;> omega
theorem div24 {R C A : Nat} (hC : 1 ≤ C ∧ C ≤ 24) (hR : R ≤ 24) (hA : A < R * C) : A / C < 24 ∧ A % C < 24 := by
  have h1 : A / C < R := Nat.div_lt_of_lt_mul (by rw [Nat.mul_comm]; exact hA)
  have h2 : A % C < C := Nat.mod_lt _ (by omega)
  exact ⟨by omega, by omega⟩
theorem way_bd {R C A k : Nat} (hC : 1 ≤ C ∧ C ≤ 24) (hR : R ≤ 24) (hA : A < R * C) : -1 ≤ nr C A k ∧ nr C A k ≤ 24 ∧ -1 ≤ nc C A k ∧ nc C A k ≤ 24 := by
  have h := div24 hC hR hA
  have hw := way01 k
  unfold nr nc
  generalize A / C = q at *
  generalize A % C = m at *
  generalize wayR k = x at *
  generalize wayC k = y at *
  clear hA
  omega
theorem way_wrap {R C A k : Nat} (hC : 1 ≤ C ∧ C ≤ 24) (hR : R ≤ 24) (hA : A < R * C) :
    wrap64 (wrap64 ((A : Int) / (C : Int)) + wayR k) = nr C A k ∧ wrap64 ((A : Int) % (C : Int) + wayC k) = nc C A k := by
  have h := div24 hC hR hA
  have hw := way01 k
  rw [show (A : Int) / (C : Int) = ((A / C : Nat) : Int) from (Int.natCast_ediv A C).symm, show (A : Int) % (C : Int) = ((A % C : Nat) : Int) from (Int.natCast_emod A C).symm]
  unfold nr nc
  generalize A / C = q at *
  generalize A % C = m at *
  generalize wayR k = x at *
  generalize wayC k = y at *
  clear hA hC hR
  rw [wrap_id (x := (q : Int)) (by omega) (by omega)]
  exact ⟨wrap_id (by omega) (by omega), wrap_id (by omega) (by omega)⟩

theorem pos_wrap {R C P : Nat} {X Y : Int} (hC : 1 ≤ C ∧ C ≤ 24) (hb : -1 ≤ X ∧ X ≤ 24 ∧ -1 ≤ Y ∧ Y ≤ 24) (h : (P : Int) = X * (C : Int) + Y) (hP : P < R * C) (hR : R ≤ 24) :
    wrap64 (wrap64 (X * (C : Int)) + Y) = (P : Int) := by
  have h1 : X * (C : Int) ≤ 24 * 24 := by
    by_cases hx : 0 ≤ X
    · exact Int.mul_le_mul hb.2.1 (by omega) (by omega) (by omega)
    · have : X * (C : Int) ≤ 0 := Int.mul_nonpos_of_nonpos_of_nonneg (by omega) (by omega)
      omega
  generalize X * (C : Int) = Z at *
  have h2 : -25 ≤ Z := by omega
  clear hP
  rw [wrap_id (x := Z) (by omega) (by omega), wrap_id (by omega) (by omega), h]

end Go.Proofs.YtnpjhhkhdeomcaaDoor.Bes
