/- The iterator over those of the four neighbours of a place that are within a field. -/
import Derived.Test.YthcbhbdgbiiagaaDoorFCut
import Derived.Test.YthcbhbdgbiiagaaDoorFNew
import Derived.Test.YthcbhbdgbiiagaaDoorFSpec
import Derived.RangeFuncNested
import Derived.RangeFuncBound
import Derived.RangeFuncCalls
import Derived.RangeFuncLeaves
import Derived.Shelf.Abstract
import Derived.Shelf.RegionOpen
import Derived.WalkKit
import Derived.OwnWalkIn
import Derived.TacticsInMore
import Derived.LoopNIn
import Derived.LoopIn
import Derived.Laws.Rows
import Derived.Deep.Cut
namespace Go.Proofs.YthcbhbdgbiiagaaDoor.Bes
open Go.RowKit Go.Shelf Go.Proofs.YthcbhbdgbiiagaaDoor.Rd Go.Proofs.YthcbhbdgbiiagaaDoor.Help Go.Proofs.YthcbhbdgbiiagaaDoor.Ring Go.Proofs.YthcbhbdgbiiagaaDoor.Small Go.Proofs.YthcbhbdgbiiagaaDoor.FVal Go.Proofs.YthcbhbdgbiiagaaDoor.Keep Go.Proofs.YthcbhbdgbiiagaaDoor.Rule Go.Proofs.YthcbhbdgbiiagaaDoor.Grow Go.Proofs.YthcbhbdgbiiagaaDoor.FCut
set_option linter.unusedVariables false
set_option linter.unusedSimpArgs false
attribute [local go_sem] Oper.semAt_some

def wayR (k : Nat) : Int := if k = 0 then -1 else if k = 2 then 1 else 0
def wayC (k : Nat) : Int := if k = 1 then 1 else if k = 3 then -1 else 0
def nr (C A k : Nat) : Int := ((A / C : Nat) : Int) + wayR k
def nc (C A k : Nat) : Int := ((A % C : Nat) : Int) + wayC k
def inB4 (R C A k : Nat) : Bool := decide (0 ≤ nr C A k ∧ nr C A k ≤ (R : Int) - 1) && decide (0 ≤ nc C A k ∧ nc C A k ≤ (C : Int) - 1)
def posN (C A k : Nat) : Nat := (nr C A k * (C : Int) + nc C A k).toNat
/-- The first k of the four ways: those places that are within. -/
def besL (R C A : Nat) : Nat → List Nat
  | 0 => []
  | k + 1 => besL R C A k ++ (if inB4 R C A k = true then [posN C A k] else [])
theorem besL_yes {R C A k : Nat} (h : inB4 R C A k = true) : besL R C A (k + 1) = besL R C A k ++ [posN C A k] := by show _ ++ _ = _; rw [if_pos h]
theorem besL_no {R C A k : Nat} (h : inB4 R C A k = false) : besL R C A (k + 1) = besL R C A k := by show _ ++ _ = _; rw [if_neg (by rw [h]; decide), List.append_nil]
theorem besL_len (R C A : Nat) : ∀ k, (besL R C A k).length ≤ k
  | 0 => Nat.le_refl _
  | k + 1 => by
    have := besL_len R C A k
    show (besL R C A k ++ (if inB4 R C A k = true then [posN C A k] else [])).length ≤ k + 1
    split <;> simp <;> omega
theorem besL_pre {R C A j m : Nat} (h : j ≤ m) : besL R C A j <+: besL R C A m := by
  induction m with
  | zero => rw [show j = 0 by omega]; exact List.prefix_refl _
  | succ m ih =>
    by_cases hj : j = m + 1
    · rw [hj]; exact List.prefix_refl _
    · exact (ih (by omega)).trans ⟨_, rfl⟩
theorem pos_in {R C A k : Nat} (h : inB4 R C A k = true) : ((posN C A k : Nat) : Int) = nr C A k * (C : Int) + nc C A k ∧ posN C A k < R * C := by
  simp only [inB4, Bool.and_eq_true, decide_eq_true_eq] at h
  obtain ⟨⟨h1, h2⟩, h3, h4⟩ := h
  obtain ⟨r, hr⟩ := Int.eq_ofNat_of_zero_le h1
  obtain ⟨c, hc⟩ := Int.eq_ofNat_of_zero_le h3
  unfold posN
  rw [hr] at h2
  rw [hc] at h4
  rw [hr, hc]
  have e : (r : Int) * (C : Int) + (c : Int) = ((r * C + c : Nat) : Int) := by simp
  rw [e, Int.toNat_natCast]
  exact ⟨rfl, pos_bd (by omega) (by omega)⟩

/-- The four ways, as they lie in the package's variable. -/
def fourL : List Int := [-1, 0, 0, 1, 1, 0, 0, -1]
def GW (w : World) : Prop := ∃ t fr, w.heap[0]? = some (Obj.cells ((fourL.map (Value.int .i64)).toArray) t fr)
abbrev Pos (R C : Nat) := { x : Nat // x < R * C }
def encP {R C : Nat} (x : Pos R C) : Array Value := #[.int .i64 (x.1 : Int)]
/-- What a round keeps: the two captured variables, and the ways. -/
def KpB (NA NS : Nat) (W W' : World) : Prop := W.heap.size ≤ W'.heap.size ∧ ∀ k, (k = NA ∨ k = NS ∨ k = 0) → W'.heap[k]? = W.heap[k]?
theorem KpB.t {NA NS : Nat} {A B C : World} (h : KpB NA NS A B) (k : KpB NA NS B C) : KpB NA NS A C := ⟨Nat.le_trans h.1 k.1, fun j hj => (k.2 j hj).trans (h.2 j hj)⟩
theorem KpB.set {NA NS b : Nat} (h : NA ≠ b ∧ NS ≠ b ∧ 0 ≠ b) (W : World) (i : Nat) (v : Value) : KpB NA NS W (W.setCell ⟨b, i, none⟩ v) := by
  refine ⟨by simp [World.setCell], fun j hj => Below.heap_setCell W ⟨b, i, none⟩ v j ?_⟩
  rcases hj with rfl | rfl | rfl
  · exact h.1
  · exact h.2.1
  · exact h.2.2
theorem KpB.b {NA NS : Nat} {w : World} (h1 : NA < w.heap.size) (h2 : NS < w.heap.size) (h3 : 0 < w.heap.size) (W : World) (l : Nat) (o o' : Obj) (hl : w.heap.size ≤ l) (h : W.heap[l]? = some o) (_ : o.isCells = false) (_ : o.isWalk = false) : KpB NA NS W (W.putObj l o') :=
  ⟨by simp, fun j hj => World.putObj_heap_other (by omega)⟩
theorem abides_bel {β : Type} {B : Nat} {J : β → World → Prop} (hJ : AbidesFrom B J) {s : β} {W W' : World} (h : J s W) (bel : Below W.heap.size W W') : J s W' :=
  hJ s W W' none h (below_grown bel) (fun r e => by cases e)
theorem abides_drew {β : Type} {B : Nat} {J : β → World → Prop} (hJ : AbidesFrom B J) {s : β} {W : World} (h : J s W) : J s W.drew :=
  hJ s W W.drew none h ⟨rfl, rfl, rfl, Nat.le_refl _, fun _ _ _ => rfl⟩ (fun r e => by cases e)

/-- The captured variables of the iterator. -/
def Cap (W : World) (NA NS R C A : Nat) : Prop :=
  W.heap[NA]? = some (Obj.cells #[.int .i64 (A : Int)] 2) ∧ W.heap[NS]? = some (Obj.cells #[.int .i64 (R : Int), .int .i64 (C : Int)] 60) ∧ GW W
theorem Cap.kp {W W' : World} {NA NS R C A : Nat} (h : Cap W NA NS R C A) (k : KpB NA NS W W') : Cap W' NA NS R C A := by
  obtain ⟨h1, h2, t, fr, h3⟩ := h
  exact ⟨(k.2 NA (.inl rfl)).trans h1, (k.2 NS (.inr (.inl rfl))).trans h2, t, fr, (k.2 0 (.inr (.inr rfl))).trans h3⟩
theorem Cap.bel {W W' : World} {NA NS R C A : Nat} (h : Cap W NA NS R C A) (bel : Below W.heap.size W W') : Cap W' NA NS R C A := by
  obtain ⟨h1, h2, t, fr, h3⟩ := h
  exact ⟨(bel.block _ (Array.getElem?_eq_some_iff.1 h1).1).trans h1, (bel.block _ (Array.getElem?_eq_some_iff.1 h2).1).trans h2, t, fr, (bel.block _ (Array.getElem?_eq_some_iff.1 h3).1).trans h3⟩
theorem Cap.drew {W : World} {NA NS R C A : Nat} (h : Cap W NA NS R C A) : Cap W.drew NA NS R C A := h

theorem gw_bel {w w' : World} (h : GW w) (bel : Below w.heap.size w w') : GW w' := by
  obtain ⟨t, fr, h3⟩ := h
  exact ⟨t, fr, (bel.block _ (Array.getElem?_eq_some_iff.1 h3).1).trans h3⟩
theorem gw_lt {w : World} (h : GW w) : 0 < w.heap.size := by
  obtain ⟨t, fr, h3⟩ := h
  exact (Array.getElem?_eq_some_iff.1 h3).1
theorem gw_ne {w : World} {b : Nat} (h : GW w) (hb : w.heap.size ≤ b) : 0 ≠ b := by have := gw_lt h; omega
theorem way01 (k : Nat) : -1 ≤ wayR k ∧ wayR k ≤ 1 ∧ -1 ≤ wayC k ∧ wayC k ≤ 1 := by
  unfold wayR wayC
  split <;> split <;> (try split) <;> (try split) <;> omega
theorem div24 {R C A : Nat} (hC : 1 ≤ C ∧ C ≤ 24) (hR : R ≤ 24) (hA : A < R * C) : A / C < 24 ∧ A % C < 24 := by
  have h1 : A / C < R := Nat.div_lt_of_lt_mul (by rw [Nat.mul_comm]; exact hA)
  have h2 : A % C < C := Nat.mod_lt _ (by omega)
  exact ⟨by omega, by omega⟩
theorem way_bd {R C A k : Nat} (hC : 1 ≤ C ∧ C ≤ 24) (hR : R ≤ 24) (hA : A < R * C) : -1 ≤ nr C A k ∧ nr C A k ≤ 24 ∧ -1 ≤ nc C A k ∧ nc C A k ≤ 24 := by
  have h := div24 hC hR hA
  have hw := way01 k
  unfold nr nc
  generalize A / C = q at *
  generalize A % C = m at *
  generalize wayR k = x at *
  generalize wayC k = y at *
  clear hA
  omega
theorem way_wrap {R C A k : Nat} (hC : 1 ≤ C ∧ C ≤ 24) (hR : R ≤ 24) (hA : A < R * C) :
    wrap64 (wrap64 ((A : Int) / (C : Int)) + wayR k) = nr C A k ∧ wrap64 ((A : Int) % (C : Int) + wayC k) = nc C A k := by
  have h := div24 hC hR hA
  have hw := way01 k
  rw [show (A : Int) / (C : Int) = ((A / C : Nat) : Int) from (Int.natCast_ediv A C).symm, show (A : Int) % (C : Int) = ((A % C : Nat) : Int) from (Int.natCast_emod A C).symm]
  unfold nr nc
  generalize A / C = q at *
  generalize A % C = m at *
  generalize wayR k = x at *
  generalize wayC k = y at *
  clear hA hC hR
  rw [wrap_id (x := (q : Int)) (by omega) (by omega)]
  exact ⟨wrap_id (by omega) (by omega), wrap_id (by omega) (by omega)⟩

theorem pos_wrap {R C P : Nat} {X Y : Int} (hC : 1 ≤ C ∧ C ≤ 24) (hb : -1 ≤ X ∧ X ≤ 24 ∧ -1 ≤ Y ∧ Y ≤ 24) (h : (P : Int) = X * (C : Int) + Y) (hP : P < R * C) (hR : R ≤ 24) :
    wrap64 (wrap64 (X * (C : Int)) + Y) = (P : Int) := by
  have h1 : X * (C : Int) ≤ 24 * 24 := by
    by_cases hx : 0 ≤ X
    · exact Int.mul_le_mul hb.2.1 (by omega) (by omega) (by omega)
    · have : X * (C : Int) ≤ 0 := Int.mul_nonpos_of_nonpos_of_nonneg (by omega) (by omega)
      omega
  generalize X * (C : Int) = Z at *
  have h2 : -25 ≤ Z := by omega
  clear hP
  rw [wrap_id (x := Z) (by omega) (by omega), wrap_id (by omega) (by omega), h]

theorem pos_wrapI {C : Nat} {X Y : Int} (hC : 1 ≤ C ∧ C ≤ 24) (hb : -1 ≤ X ∧ X ≤ 24 ∧ -1 ≤ Y ∧ Y ≤ 24) :
    wrap64 (wrap64 (X * (C : Int)) + Y) = X * (C : Int) + Y := by
  have h1 : X * (C : Int) ≤ 24 * 24 ∧ -24 ≤ X * (C : Int) := by
    by_cases hx : 0 ≤ X
    · exact ⟨Int.mul_le_mul hb.2.1 (by omega) (by omega) (by omega), by have := Int.mul_nonneg hx (show (0 : Int) ≤ C by omega); omega⟩
    · have : X = -1 := by omega
      subst this
      omega
  generalize X * (C : Int) = Z at *
  rw [wrap_id (x := Z) (by omega) (by omega), wrap_id (by omega) (by omega)]

set_option maxHeartbeats 4000000 in
set_option maxRecDepth 8000 in
theorem inFrom {w : World} {R C A k : Nat} (hR : 1 ≤ R ∧ R ≤ 24) (hC : 1 ≤ C ∧ C ≤ 24) (hA : A < R * C) :
    Calls Tryd.prog 59 #[shapeV R C, .int .i64 A, shapeV (wayR k) (wayC k)] w fun e w' => e = .returned (.tuple #[.int .i64 (nr C A k * (C : Int) + nc C A k), .bool (inB4 R C A k)]) ∧ Below w.heap.size w w' := by
  obtain ⟨Q, hQ⟩ : ∃ Q, Q = inB4 R C A k := ⟨_, rfl⟩
  obtain ⟨X, hX⟩ : ∃ X, X = nr C A k := ⟨_, rfl⟩
  obtain ⟨Y, hY⟩ : ∃ Y, Y = nc C A k := ⟨_, rfl⟩
  have HD : Hid (wrap64 (wrap64 ((A : Int) / (C : Int)) + wayR k) = X ∧ wrap64 ((A : Int) % (C : Int) + wayC k) = Y) := by
    simp only [Hid]; rw [hX, hY]; exact way_wrap hC hR.2 hA
  have HI2 : Hid ((decide (0 ≤ X ∧ X ≤ (R : Int) - 1) && decide (0 ≤ Y ∧ Y ≤ (C : Int) - 1)) = Q) := by simp only [Hid]; rw [hX, hY, hQ]; rfl
  have hXb := way_bd (k := k) hC hR.2 hA
  rw [← hX, ← hY] at hXb
  have hXw := pos_wrapI hC hXb
  obtain ⟨Z, hZ⟩ : ∃ Z, Z = X * (C : Int) := ⟨_, rfl⟩
  rw [← hQ, ← hX, ← hY]
  have hC0 : ¬ (C : Int) = 0 := by omega
  have HXW := hid hXw
  clear hQ hX hY hZ hA hXw
  go_enter Tryd.func59, Tryd.ntmps59
  go_wp2_with fail
  obtain ⟨w1, hW⟩ : ∃ w1, w1 = (w.alloc (Obj.cells #[.int .i64 (R : Int), .int .i64 (C : Int)] 60)).alloc (Obj.cells #[.int .i64 (wayR k), .int .i64 (wayC k)] 60) := ⟨_, rfl⟩
  obtain ⟨N, hN⟩ : ∃ N, N = w.heap.size := ⟨_, rfl⟩
  obtain ⟨Q2, hQ2⟩ : ∃ Q2, Q2 = N + 1 := ⟨_, rfl⟩
  have st : Below w.heap.size w w1 ∧ w1.cell? ⟨N, 0, none⟩ = some (.int .i64 (R : Int)) ∧ w1.cell? ⟨N, 1, none⟩ = some (.int .i64 (C : Int)) ∧ w.heap.size ≤ w1.heap.size := by
    rw [hW, hN]
    exact ⟨Go.Joins.below_alloc2 _ _ _, by simp, by simp, by simp; omega⟩
  have s0 := st.2.1
  have s1 := st.2.2.1
  have b0 : w1.cell? ⟨Q2, 0, none⟩ = some (.int .i64 (wayR k)) := by rw [hW, hQ2, hN]; simp
  have b1 : w1.cell? ⟨Q2, 1, none⟩ = some (.int .i64 (wayC k)) := by rw [hW, hQ2, hN]; simp
  simp only [← hW, ← hN, ← hQ2]
  clear hW hN hQ2
  go_quiet (fail)
  simp only [HD.out.1, HD.out.2]
  obtain ⟨w2, hw2⟩ : ∃ w2, w2 = w1.drewN nq := ⟨_, rfl⟩
  have bel2 : Below w1.heap.size w1 w2 := by rw [hw2]; exact FSpec.below_drewN' _ _ _
  have st2 := next2_0 bel2 st
  simp only [← hw2]
  clear hw2 bel2 b0 b1 s0 s1 st
  go_wp2_with fail
  refine wp_region_held_drew (S := (fun ww => Below w.heap.size w ww ∧ ww.cell? ⟨N, 0, none⟩ = some (.int .i64 (R : Int)) ∧ ww.cell? ⟨N, 1, none⟩ = some (.int .i64 (C : Int)) ∧ w.heap.size ≤ ww.heap.size)) (by kernel_rfl) ?_ (fun hHeld => ?_)
  · ((try dsimp only); exact drew2_0 st2)
  clear st2
  (refine wpAnyH_take (i := 0) (v := ?_) rfl ?_ ?_ ?_ (fun _ _ _ h => h) (Or.inl ⟨?_, ?_⟩) ?_ ?_; rotate_left 1; (focus decide +kernel); (focus decide +kernel); (focus decide +kernel); (focus rfl); (focus (intro w hSw; (try dsimp only at hSw); go_simp; (try (with_reducible rfl)); done)); (focus assumption); (try simp only [Act.put, List.setIfInBounds_toArray, List.set_cons_zero, List.set_cons_succ, List.getElem_toArray, List.getElem_cons_succ, List.getElem_cons_zero]))
  (refine wpAnyH_take (i := 1) (v := ?_) rfl ?_ ?_ ?_ (fun _ _ _ h => h) (Or.inl ⟨?_, ?_⟩) ?_ ?_; rotate_left 1; (focus decide +kernel); (focus decide +kernel); (focus decide +kernel); (focus rfl); (focus (intro w hSw; (try dsimp only at hSw); go_simp; (try (with_reducible rfl)); done)); (focus assumption); (try simp only [Act.put, List.setIfInBounds_toArray, List.set_cons_zero, List.set_cons_succ, List.getElem_toArray, List.getElem_cons_succ, List.getElem_cons_zero]))
  (refine wpAnyH_take (i := 2) (v := ?_) rfl ?_ ?_ ?_ (fun _ _ _ h => h) (Or.inl ⟨?_, ?_⟩) ?_ ?_; rotate_left 1; (focus decide +kernel); (focus decide +kernel); (focus decide +kernel); (focus rfl); (focus (intro w hSw; (try dsimp only at hSw); go_simp; (try (with_reducible rfl)); done)); (focus assumption); (try simp only [Act.put, List.setIfInBounds_toArray, List.set_cons_zero, List.set_cons_succ, List.getElem_toArray, List.getElem_cons_succ, List.getElem_cons_zero]))
  (refine wpAnyH_take (i := 3) (v := ?_) rfl ?_ ?_ ?_ (fun _ _ _ h => h) (Or.inl ⟨?_, ?_⟩) ?_ ?_; rotate_left 1; (focus decide +kernel); (focus decide +kernel); (focus decide +kernel); (focus rfl); (focus (intro w hSw; (try dsimp only at hSw); go_simp; (try (with_reducible rfl)); done)); (focus assumption); (try simp only [Act.put, List.setIfInBounds_toArray, List.set_cons_zero, List.set_cons_succ, List.getElem_toArray, List.getElem_cons_succ, List.getElem_cons_zero]))
  (refine wpAnyH_take (i := 4) (v := ?_) rfl ?_ ?_ ?_ (fun _ _ _ h => h) (Or.inl ⟨?_, ?_⟩) ?_ ?_; rotate_left 1; (focus decide +kernel); (focus decide +kernel); (focus decide +kernel); (focus rfl); (focus (intro w hSw; (try dsimp only at hSw); go_simp; (try (with_reducible rfl)); done)); (focus assumption); (try simp only [Act.put, List.setIfInBounds_toArray, List.set_cons_zero, List.set_cons_succ, List.getElem_toArray, List.getElem_cons_succ, List.getElem_cons_zero]))
  (refine wpAnyH_take (i := 5) (v := ?_) rfl ?_ ?_ ?_ (fun _ _ _ h => h) (Or.inl ⟨?_, ?_⟩) ?_ ?_; rotate_left 1; (focus decide +kernel); (focus decide +kernel); (focus decide +kernel); (focus rfl); (focus (intro w hSw; (try dsimp only at hSw); go_simp; (try (with_reducible rfl)); done)); (focus assumption); (try simp only [Act.put, List.setIfInBounds_toArray, List.set_cons_zero, List.set_cons_succ, List.getElem_toArray, List.getElem_cons_succ, List.getElem_cons_zero]))
  (refine wpAnyH_take (i := 6) (v := ?_) rfl ?_ ?_ ?_ (fun _ _ _ h => h) (Or.inl ⟨?_, ?_⟩) ?_ ?_; rotate_left 1; (focus decide +kernel); (focus decide +kernel); (focus decide +kernel); (focus rfl); (focus (intro w hSw; (try dsimp only at hSw); go_simp; (try (with_reducible rfl)); done)); (focus assumption); (try simp only [Act.put, List.setIfInBounds_toArray, List.set_cons_zero, List.set_cons_succ, List.getElem_toArray, List.getElem_cons_succ, List.getElem_cons_zero]))
  (refine wpAnyH_take (i := 7) (v := ?_) rfl ?_ ?_ ?_ (fun _ _ _ h => h) (Or.inl ⟨?_, ?_⟩) ?_ ?_; rotate_left 1; (focus decide +kernel); (focus decide +kernel); (focus decide +kernel); (focus rfl); (focus (intro w hSw; (try dsimp only at hSw); go_simp; (try (with_reducible rfl)); done)); (focus assumption); (try simp only [Act.put, List.setIfInBounds_toArray, List.set_cons_zero, List.set_cons_succ, List.getElem_toArray, List.getElem_cons_succ, List.getElem_cons_zero]))
  (refine wpAnyH_take (i := 8) (v := ?_) rfl ?_ ?_ ?_ (fun _ _ _ h => h) (Or.inl ⟨?_, ?_⟩) ?_ ?_; rotate_left 1; (focus decide +kernel); (focus decide +kernel); (focus decide +kernel); (focus rfl); (focus (intro w hSw; (try dsimp only at hSw); go_simp; (try (with_reducible rfl)); done)); (focus assumption); (try simp only [Act.put, List.setIfInBounds_toArray, List.set_cons_zero, List.set_cons_succ, List.getElem_toArray, List.getElem_cons_succ, List.getElem_cons_zero]))
  refine wpAnyH_ready (rs := [9]) ?_ (by simp) ?_
  · decide +kernel
  refine AllReadyH.cons rfl (fun K hK => ?_) AllReadyH.nil
  go_simp
  go_at_call 63
  refine (has (by omega) (by omega)).mono ?_
  rw [HI2.out]
  rintro e w4 ⟨rfl, bel⟩
  refine hK.out _ _ ?_ (fun hHeld2 => ?_)
  · (try dsimp only); exact next2_0 bel hHeld
  clear hK K hHeld bel
  have hHeld := hHeld2
  clear hHeld2
  (try simp only [Act.put, List.setIfInBounds_toArray, List.set_cons_zero, List.set_cons_succ, List.getElem_toArray, List.getElem_cons_succ, List.getElem_cons_zero])
  (refine wpAnyH_take (i := 10) (v := ?_) rfl ?_ ?_ ?_ (fun _ _ _ h => h) (Or.inl ⟨?_, ?_⟩) ?_ ?_; rotate_left 1; (focus decide +kernel); (focus decide +kernel); (focus decide +kernel); (focus rfl); (focus (intro w hSw; (try dsimp only at hSw); go_simp; (try (with_reducible rfl)); done)); (focus assumption); (try simp only [Act.put, List.setIfInBounds_toArray, List.set_cons_zero, List.set_cons_succ, List.getElem_toArray, List.getElem_cons_succ, List.getElem_cons_zero]))
  (refine wpAnyH_take (i := 11) (v := ?_) rfl ?_ ?_ ?_ (fun _ _ _ h => h) (Or.inl ⟨?_, ?_⟩) ?_ ?_; rotate_left 1; (focus decide +kernel); (focus decide +kernel); (focus decide +kernel); (focus rfl); (focus (intro w hSw; (try dsimp only at hSw); go_simp; (try (with_reducible rfl)); done)); (focus assumption); (try simp only [Act.put, List.setIfInBounds_toArray, List.set_cons_zero, List.set_cons_succ, List.getElem_toArray, List.getElem_cons_succ, List.getElem_cons_zero]))
  refine wpAnyH_done (by kernel_rfl) ?_ _
  have HB := hid hHeld.1
  clear hHeld
  go_wp2
  go_ret2
  exact ⟨by rw [show X * (C : Int) + Y = IntKind.i64.wrap (IntKind.i64.wrap (X * (C : Int)) + Y) from by rw [IntKind.wrap_i64, IntKind.wrap_i64]; have h := HXW.out; unfold wrap64 at h; exact h.symm]; rfl, HB.out⟩

set_option maxHeartbeats 4000000 in
set_option maxRecDepth 100000 in
theorem beside_stops {n R C A NA NS : Nat} {w : World} (hR : 1 ≤ R ∧ R ≤ 24) (hC : 1 ≤ C ∧ C ≤ 24) (hA : A < R * C) (hcap : Cap w NA NS R C A) :
    SeqStopsK Fence.wide n Tryd.prog 58 #[.pointer (some ⟨NS, 0, none⟩), .pointer (some ⟨NA, 0, none⟩)] (encP (R := R) (C := C)) (KpB NA NS) (fun xs => xs.map (·.1) = besL R C A 4) (fun pre => pre.map (·.1) <+: besL R C A 4) 4 w := by
  intro l J Jx W hW hJ hJx hY h0
  refine callsIn_wide.2 ?_
  have hcap1 := hcap.bel hW
  clear hcap
  have HC0 : Hid (Cap W NA NS R C A) := hcap1
  obtain ⟨h1, h2, t, fr, h3⟩ := hcap1
  have HG : Hid (W.heap[0]? = some (Obj.cells ((fourL.map (Value.int .i64)).toArray) t fr)) := h3
  have HJ := hid hJ
  have HJx := hid hJx
  have HY := hid hY
  have H0 := hid h0
  clear h1 h2 h3 hJ hJx hY h0
  go_enter Tryd.func58, Tryd.ntmps58
  go_upto_region 0 with fail
  refine wp_region_lit ?_
  refine wpList_load_row rfl 70 _ rfl 0 rfl t _ fr _ HG.out Tryd.underlying70 rfl (by kernel_rfl) ?_
  go_wp2
  go_loopw [9] (fun i wr => ∃ k : Nat, k ≤ 4 ∧ i = .int .i64 (k : Int) ∧ ∃ pre, pre.map (·.1) = besL R C A k ∧ J pre wr ∧ Cap wr NA NS R C A) (fun i _ => 4 - (intOf i).toNat)
  case atStart => exact ⟨0, by omega, rfl, [], rfl, H0.out, HC0.out⟩
  case round =>
    obtain ⟨k, hk, rfl, pre, hpre, hj, hcap⟩ := hrel
    have HP := hid hpre
    have HJ0 := hid hj
    have HC1 := hid hcap
    clear hpre hj hcap
    by_cases hk4 : k < 4
    · have hi0 : ∀ w, (Instr.index 70 (.agg (fourL.map (Value.int .i64)).toArray) (.int .i64 (k : Int))).run Tryd.prog w = .ok (.agg #[.int .i64 (wayR k), .int .i64 (wayC k)]) w := by
        intro w
        have : k = 0 ∨ k = 1 ∨ k = 2 ∨ k = 3 := by omega
        rcases this with rfl | rfl | rfl | rfl <;> (show _ = _; kernel_rfl)
      go_upto_region 3 with fail
      obtain ⟨w1, hw1⟩ : ∃ w1, w1 = wr.alloc (Obj.cells #[.int .i64 (wayR k), .int .i64 (wayC k)] 60) := ⟨_, rfl⟩
      obtain ⟨NB, hNB⟩ : ∃ NB, NB = wr.heap.size := ⟨_, rfl⟩
      have bel : Below wr.heap.size wr w1 := by rw [hw1]; exact below1 _ _
      have b0 : w1.cell? ⟨NB, 0, none⟩ = some (.int .i64 (wayR k)) := by rw [hw1, hNB]; simp
      have b1 : w1.cell? ⟨NB, 1, none⟩ = some (.int .i64 (wayC k)) := by rw [hw1, hNB]; simp
      have HJ1 := hid (abides_bel HJ.out HJ0.out bel)
      have HC2 := hid (HC1.out.bel bel)
      simp only [← hw1, ← hNB]
      clear hw1 hNB bel
      have a0 : w1.cell? ⟨NA, 0, none⟩ = some (.int .i64 (A : Int)) := Go.Joins.cell_of_block HC2.out.1 0
      have s0 : w1.cell? ⟨NS, 0, none⟩ = some (.int .i64 (R : Int)) := Go.Joins.cell_of_block HC2.out.2.1 0
      have s1 : w1.cell? ⟨NS, 1, none⟩ = some (.int .i64 (C : Int)) := Go.Joins.cell_of_block HC2.out.2.1 1
      go_wp2_with fail
      refine (inFrom (k := k) hR hC hA).mono ?_
      obtain ⟨B, hB⟩ : ∃ B, B = inB4 R C A k := ⟨_, rfl⟩
      obtain ⟨P, hP⟩ : ∃ P, P = nr C A k * (C : Int) + nc C A k := ⟨_, rfl⟩
      rw [← hB, ← hP]
      rintro e w3 ⟨rfl, bel⟩
      have HJ3 := hid (abides_bel HJ.out HJ1.out bel)
      have HC4 := hid (HC2.out.bel bel)
      clear bel a0 s0 s1 b0 b1
      cases B with
      | true =>
        have HIN : Hid (inB4 R C A k = true) := hB.symm
        obtain ⟨x, hx⟩ : ∃ x : Pos R C, x = ⟨posN C A k, (pos_in HIN.out).2⟩ := ⟨_, rfl⟩
        have hPx : P = (x.1 : Int) := by rw [hP, hx]; exact (pos_in HIN.out).1.symm
        rw [hPx]
        obtain ⟨fn, tmps, assign, body, hy, hRr⟩ := HY.out pre x w3 HJ3.out (by have h1 := besL_len R C A k; have h2 := HP.out; have h3 : (pre.map (·.1)).length = pre.length := by simp
                                                                                rw [← h3, h2]; omega)
        simp only [encP] at hy
        have HX := hid hx
        have HHY := hid hRr
        clear hx hRr hB hP hPx
        go_upto_region 4 with fail
        refine (wpIn_wide (n := n)).1 ?_
        gi_wp2_with fail
        refine ⟨(fun h => by cases h), ?_⟩
        refine HHY.out.mono ?_
        clear hy HHY
        rintro e W' (⟨rfl, hJ', hk⟩ | ⟨rfl, hJx'⟩)
        · have HJ5 := hid hJ'
          have HC5 := hid (HC4.out.kp hk)
          have HPX : Hid ((pre ++ [x]).map (·.1) = besL R C A (k + 1)) := by
            simp only [Hid]; rw [besL_yes HIN.out, List.map_append, HP.out, HX.out]; rfl
          clear hJ' hk
          gi_wp2_with fail
          go_wp2
          go_roundw
          case rel => exact ⟨k + 1, by omega, by go_num, pre ++ [x], HPX.out, HJ5.out, HC5.out⟩
          case measure => simp [intOf]; omega
        · have HJ5 := hid hJx'
          clear hJx'
          gi_wp2_with fail
          go_wp2
          refine bodyPost_ret (results_none rfl _ _ _) rfl ?_
          exact ⟨⟨_, rfl⟩, .inr ⟨pre ++ [x], by rw [List.map_append, HP.out, HX.out]; exact (besL_yes HIN.out ▸ besL_pre (by omega : k + 1 ≤ 4)), HJ5.out⟩⟩
      | false =>
        have HPX : Hid (pre.map (·.1) = besL R C A (k + 1)) := by
          simp only [Hid]; rw [besL_no hB.symm, HP.out]
        clear hB hP
        go_wp2
        go_roundw
        case rel => exact ⟨k + 1, by omega, by go_num, pre, HPX.out, HJ3.out, HC4.out⟩
        case measure => simp [intOf]; omega
    · have hk5 : k = 4 := by omega
      subst hk5
      go_wp2
      go_end0
      exact ⟨⟨_, rfl⟩, .inl ⟨pre, HP.out, HJ0.out⟩⟩

theorem beside {w : World} {R C A : Nat} (hg : GW w) :
    Calls Tryd.prog 46 #[shapeV R C, .int .i64 A] w fun e w' => ∃ NA NS, e = .returned (.func (.func 58) #[] #[.pointer (some ⟨NS, 0, none⟩), .pointer (some ⟨NA, 0, none⟩)]) ∧
      Cap w' NA NS R C A ∧ w.heap.size ≤ NA ∧ w.heap.size ≤ NS ∧ Below w.heap.size w w' := by
  have HG := hid hg
  clear hg
  go_enter Tryd.func46, Tryd.ntmps46
  go_wp2
  go_ret
  have bel := Go.Joins.below_alloc2 w (Obj.cells #[.int .i64 (R : Int), .int .i64 (C : Int)] 60) (Obj.cells #[.int .i64 (A : Int)] 2)
  obtain ⟨t, fr, h3⟩ := HG.out
  exact ⟨w.heap.size + 1, w.heap.size, rfl, ⟨FNew.heap_top (by simp), FNew.heap_old (FNew.heap_top rfl), t, fr, (bel.block _ (Array.getElem?_eq_some_iff.1 h3).1).trans h3⟩, by omega, Nat.le_refl _, bel⟩

end Go.Proofs.YthcbhbdgbiiagaaDoor.Bes
