/- JoinRules of the model. -/
import Derived.Test.YtejchjjkehmgaaaJoi
import Derived.Test.YtejchjjkehmgaaaFNew
import Derived.Test.YtejchjjkehmgaaaApp
namespace Go.Proofs.Ytejchjjkehmgaaa.JoiS
open Go.RowKit Go.Proofs.Ytejchjjkehmgaaa.Rd Go.Proofs.Ytejchjjkehmgaaa.Help Go.Proofs.Ytejchjjkehmgaaa.App Go.Proofs.Ytejchjjkehmgaaa.Ring Go.Proofs.Ytejchjjkehmgaaa.Small Go.Proofs.Ytejchjjkehmgaaa.Num Go.Proofs.Ytejchjjkehmgaaa.Keep Go.Proofs.Ytejchjjkehmgaaa.Rule Go.Proofs.Ytejchjjkehmgaaa.Dig Go.Proofs.Ytejchjjkehmgaaa.DigP Go.Proofs.Ytejchjjkehmgaaa.Tell Go.Proofs.Ytejchjjkehmgaaa.Joi
set_option linter.unusedVariables false
set_option linter.unusedSimpArgs false

theorem heap_keep {w w' : World} {n : Nat} {o : Obj} (bel : Below w.heap.size w w') (h : w.heap[n]? = some o) : w'.heap[n]? = some o :=
  (bel.block n (Array.getElem?_eq_some_iff.1 h).1).trans h
theorem heap_lt {w : World} {n : Nat} {o : Obj} (h : w.heap[n]? = some o) : n < w.heap.size := (Array.getElem?_eq_some_iff.1 h).1
theorem rows_set {w : World} {base : Nat} {v : Value} {n : Nat} {xs : List Value} (h : w.ownsRow base 2 1 v n xs) (a : Addr) (u : Value) (hlt : a.block < base) : (w.setCell a u).ownsRow base 2 1 v n xs := by
  refine h.kept (setCell_grown w a u) ?_
  cases hv : v.ownBlock with
  | none => exact .inl rfl
  | some k => right; intro e; have := (h.lt k hv).1; simp at e; omega
theorem rows_keep {w w' : World} {base : Nat} {v : Value} {n : Nat} {xs : List Value} (h : w.ownsRow base 2 1 v n xs) (bel : Below w.heap.size w w') : w'.ownsRow base 2 1 v n xs := by
  refine h.kept (below_grown bel) ?_
  cases hv : v.ownBlock with
  | none => exact .inl rfl
  | some k => right; simp
theorem next3N {N : Nat} {w0 w w' : World} {p0 p1 p2 : Addr} {c0 c1 c2 : Value} (l0 : p0.block < N) (l1 : p1.block < N) (l2 : p2.block < N) (bel : Below N w w') (h : Below N w0 w ∧ w.cell? p0 = some c0 ∧ w.cell? p1 = some c1 ∧ w.cell? p2 = some c2 ∧ N ≤ w.heap.size) :
    Below N w0 w' ∧ w'.cell? p0 = some c0 ∧ w'.cell? p1 = some c1 ∧ w'.cell? p2 = some c2 ∧ N ≤ w'.heap.size :=
  ⟨h.1.trans bel, (bel.cell l0).trans h.2.1, (bel.cell l1).trans h.2.2.1, (bel.cell l2).trans h.2.2.2.1, Nat.le_trans h.2.2.2.2 bel.size⟩
theorem next4N {N : Nat} {w0 w w' : World} {p0 p1 p2 p3 : Addr} {c0 c1 c2 c3 : Value} (l : p0.block < N ∧ p1.block < N ∧ p2.block < N ∧ p3.block < N) (bel : Below N w w') (h : Below N w0 w ∧ w.cell? p0 = some c0 ∧ w.cell? p1 = some c1 ∧ w.cell? p2 = some c2 ∧ w.cell? p3 = some c3 ∧ N ≤ w.heap.size) :
    Below N w0 w' ∧ w'.cell? p0 = some c0 ∧ w'.cell? p1 = some c1 ∧ w'.cell? p2 = some c2 ∧ w'.cell? p3 = some c3 ∧ N ≤ w'.heap.size :=
  ⟨h.1.trans bel, (bel.cell l.1).trans h.2.1, (bel.cell l.2.1).trans h.2.2.1, (bel.cell l.2.2.1).trans h.2.2.2.1, (bel.cell l.2.2.2).trans h.2.2.2.2.1, Nat.le_trans h.2.2.2.2.2 bel.size⟩
theorem below_of_grown {w w' : World} {n : Nat} (g : w.grownBy w' (some n)) (hn : n ≤ w.heap.size) : Below n w w' :=
  ⟨g.os, g.tape, g.output, g.size, fun k hk => g.block k (Nat.lt_of_lt_of_le hk hn) (by simp; omega)⟩
theorem rows_up {w : World} {B C : Nat} {v : Value} {n : Nat} {xs : List Value} (h : w.ownsRow B 2 1 v n xs) : True := trivial

theorem drew14 {N : Nat} {w0 w : World} {p0 p1 p2 : Addr} {c0 c1 c2 : Value} (h : Below N w0 w ∧ w.cell? p0 = some c0 ∧ w.cell? p1 = some c1 ∧ w.cell? p2 = some c2 ∧ N ≤ w.heap.size) :
    Below N w0 w.drew ∧ w.drew.cell? p0 = some c0 ∧ w.drew.cell? p1 = some c1 ∧ w.drew.cell? p2 = some c2 ∧ N ≤ w.drew.heap.size := ⟨h.1.drew, h.2.1, h.2.2.1, h.2.2.2.1, h.2.2.2.2⟩

set_option maxHeartbeats 4000000 in
theorem specNoA {w : World} {s s2 rA rB : Int} {bA bB : Nat} {vA vB : Value} {tA tB : List Int} (hA : Rd w bA vA tA) (hB : Rd w bB vB tB) (hv : validB s rA tA = false) :
    Calls Try.prog 59 #[ruleV s rA vA, ruleV s2 rB vB] w fun e w' => e = .returned (.tuple #[ruleV 0 0 (.slice none 0 0), .bool false]) ∧ Below w.heap.size w w' := by
  have HV1 := hid hv
  clear hv
  have H1 := hid hA
  have H2 := hid hB
  obtain ⟨aoA, cA, rfl, _, _, _⟩ := hA
  obtain ⟨aoB, cB, rfl, _, _, _⟩ := hB
  go_enter Try.func59, Try.ntmps59
  go_wp2_with fail
  obtain ⟨w1, hW⟩ : ∃ w1, w1 = ((w.alloc (Obj.cells #[.int .i64 s, .int .i64 rA, (Value.slice aoA tA.length cA)] 50)).alloc (Obj.cells #[.int .i64 s2, .int .i64 rB, (Value.slice aoB tB.length cB)] 50)).alloc (Obj.cells #[.int .i64 0, .int .i64 0, .slice none 0 0] 50) := ⟨_, rfl⟩
  obtain ⟨NA, hA⟩ : ∃ NA, NA = w.heap.size := ⟨_, rfl⟩
  obtain ⟨NB, hB⟩ : ∃ NB, NB = NA + 1 := ⟨_, rfl⟩
  obtain ⟨NT, hT⟩ : ∃ NT, NT = NB + 1 := ⟨_, rfl⟩
  have st : Below w.heap.size w w1 ∧ w1.cell? ⟨NA, 0, none⟩ = some (.int .i64 s) ∧ w1.cell? ⟨NA, 1, none⟩ = some (.int .i64 rA) ∧ w1.cell? ⟨NA, 2, none⟩ = some ((Value.slice aoA tA.length cA)) ∧ w1.cell? ⟨NB, 0, none⟩ = some (.int .i64 s2) ∧ w1.cell? ⟨NB, 1, none⟩ = some (.int .i64 rB) ∧ w1.cell? ⟨NB, 2, none⟩ = some ((Value.slice aoB tB.length cB)) ∧ w.heap.size ≤ w1.heap.size := by
    rw [hW, hB, hA]
    exact ⟨Go.Joins.below_alloc3 _ _ _ _, cell_keep (Go.Joins.below_alloc2 _ _ _) (by simp), cell_keep (Go.Joins.below_alloc2 _ _ _) (by simp), cell_keep (Go.Joins.below_alloc2 _ _ _) (by simp), cell_keep (below1 _ _) (by simp), cell_keep (below1 _ _) (by simp), cell_keep (below1 _ _) (by simp), by simp <;> omega⟩
  have kT : w1.heap[NT]? = some (Obj.cells #[.int .i64 0, .int .i64 0, .slice none 0 0] 50) := by rw [hW]; exact FNew.heap_top (by rw [hT, hB, hA]; simp)
  have HNT : Hid (w.heap.size ≤ NT) := by simp only [Hid]; omega
  have HNX : Hid (NA = w.heap.size ∧ NB = NA + 1 ∧ NT = NB + 1) := ⟨hA, hB, hT⟩
  simp only [← hW, ← hA, ← hB, ← hT]
  clear hW hA hB hT
  go_at_call 90
  refine (Spec.is (H1.out.keep st.1 (Nat.le_refl _)) st.2.1 st.2.2.1 st.2.2.2.1).mono ?_
  rw [HV1.out]
  rintro e w2 ⟨rfl, mm2, hw2⟩
  have bel : Below w1.heap.size w1 w2 := by rw [hw2]; exact Spec.below_drewN' _ _ _
  clear hw2
  replace st := next6_0 bel st
  replace kT := heap_keep bel kT
  clear bel
  have HB := hid st.1
  have y0 : w2.cell? ⟨NT, 0, none⟩ = some (.int .i64 0) := Go.Joins.cell_of_block kT 0
  have y1 : w2.cell? ⟨NT, 1, none⟩ = some (.int .i64 0) := Go.Joins.cell_of_block kT 1
  have y2 : w2.cell? ⟨NT, 2, none⟩ = some (.slice none 0 0) := Go.Joins.cell_of_block kT 2
  have g0 : w2.frozen? ⟨NT, 0, none⟩ = false := Go.Joins.unfrozen_of_block kT 0
  have g1 : w2.frozen? ⟨NT, 1, none⟩ = false := Go.Joins.unfrozen_of_block kT 1
  have g2 : w2.frozen? ⟨NT, 2, none⟩ = false := Go.Joins.unfrozen_of_block kT 2
  have HKx := hid kT
  clear kT
  go_wp2
  obtain ⟨W5, hW⟩ : ∃ W5, W5 = (((w2.setCell ⟨NT, 0, none⟩ (.int .i64 0)).setCell ⟨NT, 1, none⟩ (.int .i64 0)).setCell ⟨NT, 2, none⟩ (.slice none 0 0)) := ⟨_, rfl⟩
  have q0 := (Go.Joins.block_setCell (i := 2) (Go.Joins.block_setCell (i := 1) (Go.Joins.block_setCell (i := 0) HKx.out (.int .i64 0)) (.int .i64 0)) (.slice none 0 0))
  rw [← hW] at q0
  have z0 : W5.cell? ⟨NT, 0, none⟩ = some (.int .i64 0) := Go.Joins.cell_of_block q0 0
  have z1 : W5.cell? ⟨NT, 1, none⟩ = some (.int .i64 0) := Go.Joins.cell_of_block q0 1
  have z2 : W5.cell? ⟨NT, 2, none⟩ = some (.slice none 0 0) := Go.Joins.cell_of_block q0 2
  have B5 : Below w.heap.size w W5 := by
    have h1 := HNT.out
    rw [hW]
    exact ((HB.out.setCell (by simp; omega) _).setCell (by simp; omega) _).setCell (by simp; omega) _
  simp only [← hW]
  clear hW q0
  simp [bodyPost, results, Try.results59, go_sem, z0, z1, z2]
  exact B5

set_option maxHeartbeats 4000000 in
theorem specNoB {w : World} {s s2 rA rB : Int} {bA bB : Nat} {vA vB : Value} {tA tB : List Int} (hA : Rd w bA vA tA) (hB : Rd w bB vB tB) (hv : validB s rA tA = true) (hv2 : validB s2 rB tB = false) :
    Calls Try.prog 59 #[ruleV s rA vA, ruleV s2 rB vB] w fun e w' => e = .returned (.tuple #[ruleV 0 0 (.slice none 0 0), .bool false]) ∧ Below w.heap.size w w' := by
  have HV1 := hid hv
  have HV2 := hid hv2
  clear hv hv2
  have H1 := hid hA
  have H2 := hid hB
  obtain ⟨aoA, cA, rfl, _, _, _⟩ := hA
  obtain ⟨aoB, cB, rfl, _, _, _⟩ := hB
  go_enter Try.func59, Try.ntmps59
  go_wp2_with fail
  obtain ⟨w1, hW⟩ : ∃ w1, w1 = ((w.alloc (Obj.cells #[.int .i64 s, .int .i64 rA, (Value.slice aoA tA.length cA)] 50)).alloc (Obj.cells #[.int .i64 s2, .int .i64 rB, (Value.slice aoB tB.length cB)] 50)).alloc (Obj.cells #[.int .i64 0, .int .i64 0, .slice none 0 0] 50) := ⟨_, rfl⟩
  obtain ⟨NA, hA⟩ : ∃ NA, NA = w.heap.size := ⟨_, rfl⟩
  obtain ⟨NB, hB⟩ : ∃ NB, NB = NA + 1 := ⟨_, rfl⟩
  obtain ⟨NT, hT⟩ : ∃ NT, NT = NB + 1 := ⟨_, rfl⟩
  have st : Below w.heap.size w w1 ∧ w1.cell? ⟨NA, 0, none⟩ = some (.int .i64 s) ∧ w1.cell? ⟨NA, 1, none⟩ = some (.int .i64 rA) ∧ w1.cell? ⟨NA, 2, none⟩ = some ((Value.slice aoA tA.length cA)) ∧ w1.cell? ⟨NB, 0, none⟩ = some (.int .i64 s2) ∧ w1.cell? ⟨NB, 1, none⟩ = some (.int .i64 rB) ∧ w1.cell? ⟨NB, 2, none⟩ = some ((Value.slice aoB tB.length cB)) ∧ w.heap.size ≤ w1.heap.size := by
    rw [hW, hB, hA]
    exact ⟨Go.Joins.below_alloc3 _ _ _ _, cell_keep (Go.Joins.below_alloc2 _ _ _) (by simp), cell_keep (Go.Joins.below_alloc2 _ _ _) (by simp), cell_keep (Go.Joins.below_alloc2 _ _ _) (by simp), cell_keep (below1 _ _) (by simp), cell_keep (below1 _ _) (by simp), cell_keep (below1 _ _) (by simp), by simp <;> omega⟩
  have kT : w1.heap[NT]? = some (Obj.cells #[.int .i64 0, .int .i64 0, .slice none 0 0] 50) := by rw [hW]; exact FNew.heap_top (by rw [hT, hB, hA]; simp)
  have HNT : Hid (w.heap.size ≤ NT) := by simp only [Hid]; omega
  have HNX : Hid (NA = w.heap.size ∧ NB = NA + 1 ∧ NT = NB + 1) := ⟨hA, hB, hT⟩
  simp only [← hW, ← hA, ← hB, ← hT]
  clear hW hA hB hT
  go_at_call 90
  refine (Spec.is (H1.out.keep st.1 (Nat.le_refl _)) st.2.1 st.2.2.1 st.2.2.2.1).mono ?_
  rw [HV1.out]
  rintro e w2 ⟨rfl, mm2, hw2⟩
  have bel : Below w1.heap.size w1 w2 := by rw [hw2]; exact Spec.below_drewN' _ _ _
  clear hw2
  replace st := next6_0 bel st
  replace kT := heap_keep bel kT
  clear bel
  go_wp2_with fail
  go_at_call 90
  refine (Spec.is (H2.out.keep st.1 (Nat.le_refl _)) st.2.2.2.2.1 st.2.2.2.2.2.1 st.2.2.2.2.2.2.1).mono ?_
  rw [HV2.out]
  rintro e w3 ⟨rfl, mm3, hw2⟩
  have bel : Below w2.heap.size w2 w3 := by rw [hw2]; exact Spec.below_drewN' _ _ _
  clear hw2
  replace st := next6_0 bel st
  replace kT := heap_keep bel kT
  clear bel
  have HB := hid st.1
  have y0 : w3.cell? ⟨NT, 0, none⟩ = some (.int .i64 0) := Go.Joins.cell_of_block kT 0
  have y1 : w3.cell? ⟨NT, 1, none⟩ = some (.int .i64 0) := Go.Joins.cell_of_block kT 1
  have y2 : w3.cell? ⟨NT, 2, none⟩ = some (.slice none 0 0) := Go.Joins.cell_of_block kT 2
  have g0 : w3.frozen? ⟨NT, 0, none⟩ = false := Go.Joins.unfrozen_of_block kT 0
  have g1 : w3.frozen? ⟨NT, 1, none⟩ = false := Go.Joins.unfrozen_of_block kT 1
  have g2 : w3.frozen? ⟨NT, 2, none⟩ = false := Go.Joins.unfrozen_of_block kT 2
  have HKx := hid kT
  clear kT
  go_wp2
  obtain ⟨W5, hW⟩ : ∃ W5, W5 = (((w3.setCell ⟨NT, 0, none⟩ (.int .i64 0)).setCell ⟨NT, 1, none⟩ (.int .i64 0)).setCell ⟨NT, 2, none⟩ (.slice none 0 0)) := ⟨_, rfl⟩
  have q0 := (Go.Joins.block_setCell (i := 2) (Go.Joins.block_setCell (i := 1) (Go.Joins.block_setCell (i := 0) HKx.out (.int .i64 0)) (.int .i64 0)) (.slice none 0 0))
  rw [← hW] at q0
  have z0 : W5.cell? ⟨NT, 0, none⟩ = some (.int .i64 0) := Go.Joins.cell_of_block q0 0
  have z1 : W5.cell? ⟨NT, 1, none⟩ = some (.int .i64 0) := Go.Joins.cell_of_block q0 1
  have z2 : W5.cell? ⟨NT, 2, none⟩ = some (.slice none 0 0) := Go.Joins.cell_of_block q0 2
  have B5 : Below w.heap.size w W5 := by
    have h1 := HNT.out
    rw [hW]
    exact ((HB.out.setCell (by simp; omega) _).setCell (by simp; omega) _).setCell (by simp; omega) _
  simp only [← hW]
  clear hW q0
  simp [bodyPost, results, Try.results59, go_sem, z0, z1, z2]
  exact B5

set_option maxHeartbeats 4000000 in
theorem specNoC {w : World} {s s2 rA rB : Int} {bA bB : Nat} {vA vB : Value} {tA tB : List Int} (hA : Rd w bA vA tA) (hB : Rd w bB vB tB) (hv : validB s rA tA = true) (hv2 : validB s2 rB tB = true) (hne : ¬ s = s2) :
    Calls Try.prog 59 #[ruleV s rA vA, ruleV s2 rB vB] w fun e w' => e = .returned (.tuple #[ruleV 0 0 (.slice none 0 0), .bool false]) ∧ Below w.heap.size w w' := by
  have HV1 := hid hv
  have HV2 := hid hv2
  have hneb : (s != s2) = true := by simpa using hne
  clear hv hv2 hne
  have H1 := hid hA
  have H2 := hid hB
  obtain ⟨aoA, cA, rfl, _, _, _⟩ := hA
  obtain ⟨aoB, cB, rfl, _, _, _⟩ := hB
  go_enter Try.func59, Try.ntmps59
  go_wp2_with fail
  obtain ⟨w1, hW⟩ : ∃ w1, w1 = ((w.alloc (Obj.cells #[.int .i64 s, .int .i64 rA, (Value.slice aoA tA.length cA)] 50)).alloc (Obj.cells #[.int .i64 s2, .int .i64 rB, (Value.slice aoB tB.length cB)] 50)).alloc (Obj.cells #[.int .i64 0, .int .i64 0, .slice none 0 0] 50) := ⟨_, rfl⟩
  obtain ⟨NA, hA⟩ : ∃ NA, NA = w.heap.size := ⟨_, rfl⟩
  obtain ⟨NB, hB⟩ : ∃ NB, NB = NA + 1 := ⟨_, rfl⟩
  obtain ⟨NT, hT⟩ : ∃ NT, NT = NB + 1 := ⟨_, rfl⟩
  have st : Below w.heap.size w w1 ∧ w1.cell? ⟨NA, 0, none⟩ = some (.int .i64 s) ∧ w1.cell? ⟨NA, 1, none⟩ = some (.int .i64 rA) ∧ w1.cell? ⟨NA, 2, none⟩ = some ((Value.slice aoA tA.length cA)) ∧ w1.cell? ⟨NB, 0, none⟩ = some (.int .i64 s2) ∧ w1.cell? ⟨NB, 1, none⟩ = some (.int .i64 rB) ∧ w1.cell? ⟨NB, 2, none⟩ = some ((Value.slice aoB tB.length cB)) ∧ w.heap.size ≤ w1.heap.size := by
    rw [hW, hB, hA]
    exact ⟨Go.Joins.below_alloc3 _ _ _ _, cell_keep (Go.Joins.below_alloc2 _ _ _) (by simp), cell_keep (Go.Joins.below_alloc2 _ _ _) (by simp), cell_keep (Go.Joins.below_alloc2 _ _ _) (by simp), cell_keep (below1 _ _) (by simp), cell_keep (below1 _ _) (by simp), cell_keep (below1 _ _) (by simp), by simp <;> omega⟩
  have kT : w1.heap[NT]? = some (Obj.cells #[.int .i64 0, .int .i64 0, .slice none 0 0] 50) := by rw [hW]; exact FNew.heap_top (by rw [hT, hB, hA]; simp)
  have HNT : Hid (w.heap.size ≤ NT) := by simp only [Hid]; omega
  have HNX : Hid (NA = w.heap.size ∧ NB = NA + 1 ∧ NT = NB + 1) := ⟨hA, hB, hT⟩
  simp only [← hW, ← hA, ← hB, ← hT]
  clear hW hA hB hT
  go_at_call 90
  refine (Spec.is (H1.out.keep st.1 (Nat.le_refl _)) st.2.1 st.2.2.1 st.2.2.2.1).mono ?_
  rw [HV1.out]
  rintro e w2 ⟨rfl, mm2, hw2⟩
  have bel : Below w1.heap.size w1 w2 := by rw [hw2]; exact Spec.below_drewN' _ _ _
  clear hw2
  replace st := next6_0 bel st
  replace kT := heap_keep bel kT
  clear bel
  go_wp2_with fail
  go_at_call 90
  refine (Spec.is (H2.out.keep st.1 (Nat.le_refl _)) st.2.2.2.2.1 st.2.2.2.2.2.1 st.2.2.2.2.2.2.1).mono ?_
  rw [HV2.out]
  rintro e w3 ⟨rfl, mm3, hw2⟩
  have bel : Below w2.heap.size w2 w3 := by rw [hw2]; exact Spec.below_drewN' _ _ _
  clear hw2
  replace st := next6_0 bel st
  replace kT := heap_keep bel kT
  clear bel
  have HB := hid st.1
  have y0 : w3.cell? ⟨NT, 0, none⟩ = some (.int .i64 0) := Go.Joins.cell_of_block kT 0
  have y1 : w3.cell? ⟨NT, 1, none⟩ = some (.int .i64 0) := Go.Joins.cell_of_block kT 1
  have y2 : w3.cell? ⟨NT, 2, none⟩ = some (.slice none 0 0) := Go.Joins.cell_of_block kT 2
  have g0 : w3.frozen? ⟨NT, 0, none⟩ = false := Go.Joins.unfrozen_of_block kT 0
  have g1 : w3.frozen? ⟨NT, 1, none⟩ = false := Go.Joins.unfrozen_of_block kT 1
  have g2 : w3.frozen? ⟨NT, 2, none⟩ = false := Go.Joins.unfrozen_of_block kT 2
  have HKx := hid kT
  clear kT
  go_wp2
  obtain ⟨W5, hW⟩ : ∃ W5, W5 = (((w3.setCell ⟨NT, 0, none⟩ (.int .i64 0)).setCell ⟨NT, 1, none⟩ (.int .i64 0)).setCell ⟨NT, 2, none⟩ (.slice none 0 0)) := ⟨_, rfl⟩
  have q0 := (Go.Joins.block_setCell (i := 2) (Go.Joins.block_setCell (i := 1) (Go.Joins.block_setCell (i := 0) HKx.out (.int .i64 0)) (.int .i64 0)) (.slice none 0 0))
  rw [← hW] at q0
  have z0 : W5.cell? ⟨NT, 0, none⟩ = some (.int .i64 0) := Go.Joins.cell_of_block q0 0
  have z1 : W5.cell? ⟨NT, 1, none⟩ = some (.int .i64 0) := Go.Joins.cell_of_block q0 1
  have z2 : W5.cell? ⟨NT, 2, none⟩ = some (.slice none 0 0) := Go.Joins.cell_of_block q0 2
  have B5 : Below w.heap.size w W5 := by
    have h1 := HNT.out
    rw [hW]
    exact ((HB.out.setCell (by simp; omega) _).setCell (by simp; omega) _).setCell (by simp; omega) _
  simp only [← hW]
  clear hW q0
  simp [bodyPost, results, Try.results59, go_sem, z0, z1, z2]
  exact B5

set_option maxHeartbeats 4000000 in
theorem specNoD {w : World} {s rA rB : Int} {bA bB : Nat} {vA vB : Value} {tA tB : List Int} (hA : Rd w bA vA tA) (hB : Rd w bB vB tB) (hv : validB s rA tA = true) (hv2 : validB s rB tB = true) (h3 : ¬ rA + rB ≤ 2) :
    Calls Try.prog 59 #[ruleV s rA vA, ruleV s rB vB] w fun e w' => e = .returned (.tuple #[ruleV 0 0 (.slice none 0 0), .bool false]) ∧ Below w.heap.size w w' := by
  have HV1 := hid hv
  have HV2 := hid hv2
  obtain ⟨_, hr1, _, _⟩ := Al.valid_parts hv
  obtain ⟨_, hr2, _, _⟩ := Al.valid_parts hv2
  have hw : IntKind.i64.wrap (rA + rB) = rA + rB := by rw [IntKind.wrap_i64]; omega
  have hss : (s != s) = false := by simp
  have hd : decide (2 < rA + rB) = true := by simp; omega
  clear hv hv2 h3 hr1 hr2
  have H1 := hid hA
  have H2 := hid hB
  obtain ⟨aoA, cA, rfl, _, _, _⟩ := hA
  obtain ⟨aoB, cB, rfl, _, _, _⟩ := hB
  go_enter Try.func59, Try.ntmps59
  go_wp2_with fail
  obtain ⟨w1, hW⟩ : ∃ w1, w1 = ((w.alloc (Obj.cells #[.int .i64 s, .int .i64 rA, (Value.slice aoA tA.length cA)] 50)).alloc (Obj.cells #[.int .i64 s, .int .i64 rB, (Value.slice aoB tB.length cB)] 50)).alloc (Obj.cells #[.int .i64 0, .int .i64 0, .slice none 0 0] 50) := ⟨_, rfl⟩
  obtain ⟨NA, hA⟩ : ∃ NA, NA = w.heap.size := ⟨_, rfl⟩
  obtain ⟨NB, hB⟩ : ∃ NB, NB = NA + 1 := ⟨_, rfl⟩
  obtain ⟨NT, hT⟩ : ∃ NT, NT = NB + 1 := ⟨_, rfl⟩
  have st : Below w.heap.size w w1 ∧ w1.cell? ⟨NA, 0, none⟩ = some (.int .i64 s) ∧ w1.cell? ⟨NA, 1, none⟩ = some (.int .i64 rA) ∧ w1.cell? ⟨NA, 2, none⟩ = some ((Value.slice aoA tA.length cA)) ∧ w1.cell? ⟨NB, 0, none⟩ = some (.int .i64 s) ∧ w1.cell? ⟨NB, 1, none⟩ = some (.int .i64 rB) ∧ w1.cell? ⟨NB, 2, none⟩ = some ((Value.slice aoB tB.length cB)) ∧ w.heap.size ≤ w1.heap.size := by
    rw [hW, hB, hA]
    exact ⟨Go.Joins.below_alloc3 _ _ _ _, cell_keep (Go.Joins.below_alloc2 _ _ _) (by simp), cell_keep (Go.Joins.below_alloc2 _ _ _) (by simp), cell_keep (Go.Joins.below_alloc2 _ _ _) (by simp), cell_keep (below1 _ _) (by simp), cell_keep (below1 _ _) (by simp), cell_keep (below1 _ _) (by simp), by simp <;> omega⟩
  have kT : w1.heap[NT]? = some (Obj.cells #[.int .i64 0, .int .i64 0, .slice none 0 0] 50) := by rw [hW]; exact FNew.heap_top (by rw [hT, hB, hA]; simp)
  have HNT : Hid (w.heap.size ≤ NT) := by simp only [Hid]; omega
  have HNX : Hid (NA = w.heap.size ∧ NB = NA + 1 ∧ NT = NB + 1) := ⟨hA, hB, hT⟩
  simp only [← hW, ← hA, ← hB, ← hT]
  clear hW hA hB hT
  go_at_call 90
  refine (Spec.is (H1.out.keep st.1 (Nat.le_refl _)) st.2.1 st.2.2.1 st.2.2.2.1).mono ?_
  rw [HV1.out]
  rintro e w2 ⟨rfl, mm2, hw2⟩
  have bel : Below w1.heap.size w1 w2 := by rw [hw2]; exact Spec.below_drewN' _ _ _
  clear hw2
  replace st := next6_0 bel st
  replace kT := heap_keep bel kT
  clear bel
  go_wp2_with fail
  go_at_call 90
  refine (Spec.is (H2.out.keep st.1 (Nat.le_refl _)) st.2.2.2.2.1 st.2.2.2.2.2.1 st.2.2.2.2.2.2.1).mono ?_
  rw [HV2.out]
  rintro e w3 ⟨rfl, mm3, hw2⟩
  have bel : Below w2.heap.size w2 w3 := by rw [hw2]; exact Spec.below_drewN' _ _ _
  clear hw2
  replace st := next6_0 bel st
  replace kT := heap_keep bel kT
  clear bel
  have HB := hid st.1
  have y0 : w3.cell? ⟨NT, 0, none⟩ = some (.int .i64 0) := Go.Joins.cell_of_block kT 0
  have y1 : w3.cell? ⟨NT, 1, none⟩ = some (.int .i64 0) := Go.Joins.cell_of_block kT 1
  have y2 : w3.cell? ⟨NT, 2, none⟩ = some (.slice none 0 0) := Go.Joins.cell_of_block kT 2
  have g0 : w3.frozen? ⟨NT, 0, none⟩ = false := Go.Joins.unfrozen_of_block kT 0
  have g1 : w3.frozen? ⟨NT, 1, none⟩ = false := Go.Joins.unfrozen_of_block kT 1
  have g2 : w3.frozen? ⟨NT, 2, none⟩ = false := Go.Joins.unfrozen_of_block kT 2
  have HKx := hid kT
  clear kT
  go_wp2
  obtain ⟨W5, hW⟩ : ∃ W5, W5 = (((w3.setCell ⟨NT, 0, none⟩ (.int .i64 0)).setCell ⟨NT, 1, none⟩ (.int .i64 0)).setCell ⟨NT, 2, none⟩ (.slice none 0 0)) := ⟨_, rfl⟩
  have q0 := (Go.Joins.block_setCell (i := 2) (Go.Joins.block_setCell (i := 1) (Go.Joins.block_setCell (i := 0) HKx.out (.int .i64 0)) (.int .i64 0)) (.slice none 0 0))
  rw [← hW] at q0
  have z0 : W5.cell? ⟨NT, 0, none⟩ = some (.int .i64 0) := Go.Joins.cell_of_block q0 0
  have z1 : W5.cell? ⟨NT, 1, none⟩ = some (.int .i64 0) := Go.Joins.cell_of_block q0 1
  have z2 : W5.cell? ⟨NT, 2, none⟩ = some (.slice none 0 0) := Go.Joins.cell_of_block q0 2
  have B5 : Below w.heap.size w W5 := by
    have h1 := HNT.out
    rw [hW]
    exact ((HB.out.setCell (by simp; omega) _).setCell (by simp; omega) _).setCell (by simp; omega) _
  simp only [← hW]
  clear hW q0
  simp [bodyPost, results, Try.results59, go_sem, z0, z1, z2]
  exact B5

set_option maxHeartbeats 16000000 in
set_option maxRecDepth 100000 in
theorem specOk {w : World} {s rA rB : Int} {LA LB LL M bA bB : Nat} {vA vB : Value} {tA tB : List Int} (hA : Rd w bA vA tA) (hB : Rd w bB vB tB) (hv : validB s rA tA = true) (hv2 : validB s rB tB = true) (h3 : rA + rB ≤ 2)
    (hLA : (LA : Int) = 2 * rA + 1) (hLB : (LB : Int) = 2 * rB + 1) (hLL : LL + 1 = LA + LB) (hM : (M : Int) = s ^ LL) :
    Calls Try.prog 59 #[ruleV s rA vA, ruleV s rB vB] w fun e w' => ∃ v' b', e = .returned (.tuple #[ruleV s (rA + rB) v', .bool true]) ∧
      Own 2 w' b' v' (tab (joinT s tA tB LA LB LL) M) ∧ w.heap.size ≤ b' ∧ Below w.heap.size w w' := by
  have HV1 := hid hv
  have HV2 := hid hv2
  obtain ⟨hs, hr1, hl1, ha⟩ := Al.valid_parts hv
  obtain ⟨_, hr2, hl2, _⟩ := Al.valid_parts hv2
  have HS := hid hs
  have HlA : Hid ((tA.length : Int) = s ^ LA) := by simp only [Hid]; rw [hl1]; congr 1 <;> omega
  have HlB : Hid ((tB.length : Int) = s ^ LB) := by simp only [Hid]; rw [hl2]; congr 1 <;> omega
  have HAl := hid ha
  have HL3 : Hid ((1 ≤ LA ∧ LA ≤ 5) ∧ (1 ≤ LB ∧ LB ≤ 5) ∧ LL + 1 = LA + LB) := by simp only [Hid]; omega
  have HM := hid hM
  have hM2 : M ≤ 243 := by have := (pow_bd hs (show LL ≤ 5 by omega)).2; omega
  have hw : IntKind.i64.wrap (rA + rB) = rA + rB := by rw [IntKind.wrap_i64]; omega
  have hw64 : wrap64 (rA + rB) = rA + rB := wrap_id (by omega) (by omega)
  have hLe : 2 * (rA + rB) + 1 = (LL : Int) := by omega
  have hLAe : 2 * rA + 1 = (LA : Int) := by omega
  have hLBe : 2 * rB + 1 = (LB : Int) := by omega
  have hss : (s != s) = false := by simp
  have hd : decide (2 < rA + rB) = false := by simp; omega
  have HA := hid hA
  have HB' := hid hB
  obtain ⟨aoA, cA, rfl, _, _, h4⟩ := hA
  obtain ⟨oA, rfl, hbA, hcA⟩ := h4 (by have := pow_pos' hs (2 * rA + 1).toNat; omega)
  obtain ⟨aoB, cB, rfl, _, _, h5⟩ := hB
  obtain ⟨oB, rfl, hbB, hcB⟩ := h5 (by have := pow_pos' hs (2 * rB + 1).toNat; omega)
  have HCA := hid hcA
  have HCB := hid hcB
  have HbA := hid hbA
  have HbB := hid hbB
  obtain ⟨nA, hnA⟩ : ∃ n, n = tA.length := ⟨_, rfl⟩
  obtain ⟨nB, hnB⟩ : ∃ n, n = tB.length := ⟨_, rfl⟩
  have HnA := hid hnA
  have HnB := hid hnB
  have H1 := HA
  have H2 := HB'
  rw [← hnA] at H1 HlA HCA ⊢
  rw [← hnB] at H2 HlB HCB ⊢
  obtain ⟨r1, r2⟩ := hr1
  obtain ⟨r3, r4⟩ := hr2
  clear hv hv2 hl1 hl2 ha hLA hLB hLL hM h4 h5 hcA hcB hbA hbB hnA hnB HA HB'
  go_enter Try.func59, Try.ntmps59
  go_wp2_with fail
  obtain ⟨w1, hW⟩ : ∃ w1, w1 = ((w.alloc (Obj.cells #[.int .i64 s, .int .i64 rA, (Value.slice (some ⟨bA, oA, none⟩) nA cA)] 50)).alloc (Obj.cells #[.int .i64 s, .int .i64 rB, (Value.slice (some ⟨bB, oB, none⟩) nB cB)] 50)).alloc (Obj.cells #[.int .i64 0, .int .i64 0, .slice none 0 0] 50) := ⟨_, rfl⟩
  obtain ⟨NA, hA⟩ : ∃ NA, NA = w.heap.size := ⟨_, rfl⟩
  obtain ⟨NB, hB⟩ : ∃ NB, NB = NA + 1 := ⟨_, rfl⟩
  obtain ⟨NT, hT⟩ : ∃ NT, NT = NB + 1 := ⟨_, rfl⟩
  have st : Below w.heap.size w w1 ∧ w1.cell? ⟨NA, 0, none⟩ = some (.int .i64 s) ∧ w1.cell? ⟨NA, 1, none⟩ = some (.int .i64 rA) ∧ w1.cell? ⟨NA, 2, none⟩ = some ((Value.slice (some ⟨bA, oA, none⟩) nA cA)) ∧ w1.cell? ⟨NB, 0, none⟩ = some (.int .i64 s) ∧ w1.cell? ⟨NB, 1, none⟩ = some (.int .i64 rB) ∧ w1.cell? ⟨NB, 2, none⟩ = some ((Value.slice (some ⟨bB, oB, none⟩) nB cB)) ∧ w.heap.size ≤ w1.heap.size := by
    rw [hW, hB, hA]
    exact ⟨Go.Joins.below_alloc3 _ _ _ _, cell_keep (Go.Joins.below_alloc2 _ _ _) (by simp), cell_keep (Go.Joins.below_alloc2 _ _ _) (by simp), cell_keep (Go.Joins.below_alloc2 _ _ _) (by simp), cell_keep (below1 _ _) (by simp), cell_keep (below1 _ _) (by simp), cell_keep (below1 _ _) (by simp), by simp <;> omega⟩
  have kT : w1.heap[NT]? = some (Obj.cells #[.int .i64 0, .int .i64 0, .slice none 0 0] 50) := by rw [hW]; exact FNew.heap_top (by rw [hT, hB, hA]; simp)
  have kA : w1.heap[NA]? = some (Obj.cells #[.int .i64 s, .int .i64 rA, (Value.slice (some ⟨bA, oA, none⟩) nA cA)] 50) := by rw [hW]; exact FNew.heap_old (FNew.heap_old (FNew.heap_top hA))
  have kB : w1.heap[NB]? = some (Obj.cells #[.int .i64 s, .int .i64 rB, (Value.slice (some ⟨bB, oB, none⟩) nB cB)] 50) := by rw [hW]; exact FNew.heap_old (FNew.heap_top (by rw [hB, hA]; simp))
  have HNT : Hid (w.heap.size ≤ NT) := by simp only [Hid]; omega
  have HNX : Hid (NA = w.heap.size ∧ NB = NA + 1 ∧ NT = NB + 1) := ⟨hA, hB, hT⟩
  simp only [← hW, ← hA, ← hB, ← hT]
  clear hW hA hB hT
  go_at_call 90
  refine (Spec.is (H1.out.keep st.1 (Nat.le_refl _)) st.2.1 st.2.2.1 st.2.2.2.1).mono ?_
  rw [HV1.out]
  rintro e w2 ⟨rfl, mm2, hw2⟩
  have bel : Below w1.heap.size w1 w2 := by rw [hw2]; exact Spec.below_drewN' _ _ _
  clear hw2
  replace st := next6_0 bel st
  replace kT := heap_keep bel kT
  replace kA := heap_keep bel kA
  replace kB := heap_keep bel kB
  clear bel
  go_wp2_with fail
  go_at_call 90
  refine (Spec.is (H2.out.keep st.1 (Nat.le_refl _)) st.2.2.2.2.1 st.2.2.2.2.2.1 st.2.2.2.2.2.2.1).mono ?_
  rw [HV2.out]
  rintro e w3 ⟨rfl, mm3, hw2⟩
  have bel : Below w2.heap.size w2 w3 := by rw [hw2]; exact Spec.below_drewN' _ _ _
  clear hw2
  replace st := next6_0 bel st
  replace kT := heap_keep bel kT
  replace kA := heap_keep bel kA
  replace kB := heap_keep bel kB
  clear bel
  have HB3 := hid st.1
  go_wp2
  obtain ⟨wz, hW⟩ : ∃ wz, wz = w3.alloc (Obj.cells #[.int .i64 s, .int .i64 (rA + rB), .slice none 0 0] 50) := ⟨_, rfl⟩
  obtain ⟨NO, hN⟩ : ∃ NO, NO = w3.heap.size := ⟨_, rfl⟩
  have HTO : Hid (NT < NO) := by simp only [Hid]; rw [hN]; exact heap_lt kT
  have HAO : Hid (NA < NO ∧ NB < NO) := by have := HTO.out; have := HNX.out; simp only [Hid]; omega
  have kTz : wz.heap[NT]? = some (Obj.cells #[.int .i64 0, .int .i64 0, .slice none 0 0] 50) := by rw [hW]; exact FNew.heap_old kT
  have kAz : wz.heap[NA]? = some (Obj.cells #[.int .i64 s, .int .i64 rA, (Value.slice (some ⟨bA, oA, none⟩) nA cA)] 50) := by rw [hW]; exact FNew.heap_old kA
  have kBz : wz.heap[NB]? = some (Obj.cells #[.int .i64 s, .int .i64 rB, (Value.slice (some ⟨bB, oB, none⟩) nB cB)] 50) := by rw [hW]; exact FNew.heap_old kB
  have kOz : wz.heap[NO]? = some (Obj.cells #[.int .i64 s, .int .i64 (rA + rB), .slice none 0 0] 50) := by rw [hW]; exact FNew.heap_top hN
  have bz : Below w.heap.size w wz := by rw [hW]; exact HB3.out.trans ((below1 _ _).mono HB3.out.size)
  have HNO : Hid (w.heap.size ≤ NO) := by simp only [Hid]; rw [hN]; exact HB3.out.size
  simp only [← hW, ← hN]
  clear hW hN kT kA kB st HB3
  go_loopw [8] (fun t wr => ∃ m : Nat, m ≤ M ∧ t = .int .i64 m ∧ Below w.heap.size w wr ∧ wr.heap[NT]? = some (Obj.cells #[.int .i64 0, .int .i64 0, .slice none 0 0] 50) ∧ wr.heap[NA]? = some (Obj.cells #[.int .i64 s, .int .i64 rA, (Value.slice (some ⟨bA, oA, none⟩) nA cA)] 50) ∧ wr.heap[NB]? = some (Obj.cells #[.int .i64 s, .int .i64 rB, (Value.slice (some ⟨bB, oB, none⟩) nB cB)] 50) ∧ ∃ ao5 c5, wr.heap[NO]? = some (Obj.cells #[.int .i64 s, .int .i64 (rA + rB), .slice ao5 m c5] 50) ∧ wr.ownsRow (NO + 1) 2 1 (.slice ao5 m c5) (tab (joinT s tA tB LA LB LL) m).length ((tab (joinT s tA tB LA LB LL) m).map (Value.int .i64))) (fun t _ => M - (intOf t).toNat)
  case atStart => exact ⟨0, Nat.zero_le _, rfl, bz, kTz, kAz, kBz, none, 0, kOz, World.ownsRow_nil wz (NO + 1) 2 1⟩
  case round =>
    clear bz kTz kAz kBz kOz
    obtain ⟨m, hm, rfl, bel0, kT, kA, kB, ao5, c5, kO, hR⟩ := hrel
    have hpw := (specPower (w := wr) (st := s) (k := LL) HS.out (by have := HL3.out; omega)).mono (R' := fun e w' => e = .returned (.int .i64 M) ∧ wr = w') (by rintro e w' ⟨rfl, rfl⟩; exact ⟨by rw [← HM.out], rfl⟩)
    have d0 : wr.cell? ⟨NA, 0, none⟩ = some (.int .i64 s) := Go.Joins.cell_of_block kA 0
    by_cases hlt : m < M
    · have hmi : (m : Int) < (M : Int) := by omega
      have HB0 := hid bel0
      have HkT := hid kT
      have HkO := hid kO
      have HkA := hid kA
      have HkB := hid kB
      have HhR := hid hR
      clear bel0 kT kO hR kA kB
      go_wp2_with fail
      go_at_call 117
      refine hpw.mono ?_
      clear hpw
      rintro e w' ⟨rfl, hw'⟩
      subst hw'
      go_wp2_with fail
      go_at_call 118
      refine (specDigits HS.out (by omega) (by have := HL3.out; omega)).mono ?_
      rw [dig_length, Int.toNat_natCast]
      rintro e w4 ⟨bd, rfl, od, lo, bel⟩
      have HkT4 := hid (heap_keep bel HkT.out)
      have HkO4 := hid (heap_keep bel HkO.out)
      have HkA4 := hid (heap_keep bel HkA.out)
      have HkB4 := hid (heap_keep bel HkB.out)
      have HR4 := hid (rows_keep HhR.out bel)
      have HB4 := hid (HB0.out.trans (bel.mono HB0.out.size))
      have HRO : Hid (∀ k, (Value.slice ao5 m c5).ownBlock = some k → NO + 1 ≤ k ∧ k < w4.heap.size) := fun k hk => ⟨(HhR.out.lt k hk).1, Nat.lt_of_lt_of_le (HhR.out.lt k hk).2 bel.size⟩
      obtain ⟨ds, hds⟩ : ∃ ds, ds = dig s m LL := ⟨_, rfl⟩
      have hdl : ds.length = LL := by rw [hds, dig_length]
      have hda : allB ds s = true := by rw [hds]; exact dig_all HS.out _ _
      have HJ : Hid (joinT s tA tB LA LB LL m = tB.getD (numL (tab (midE s tA ds LA) LB) s).toNat 0) := by simp only [Hid]; rw [hds]; rfl
      rw [← hds] at od
      have HDL := hid hdl
      have HDD := hid hda
      have HOd := hid od.rd
      have hNOl := heap_lt HkO4.out
      have HL4 : Hid (NA < w4.heap.size ∧ NA < w4.heap.size ∧ NA < w4.heap.size ∧ bA < w4.heap.size) := by
        have h1 := HAO.out; have h2 := HbA.out; have h3 := HNO.out
        simp only [Hid]; omega
      clear hds hdl hda od lo bel hNOl d0 HkT HkO HkA HkB HhR
      have hx5 : (w4.alloc (Obj.cells #[] 2)).ownsRow w4.heap.size 2 1 (.slice (some ⟨w4.heap.size, 0, none⟩) 0 0) (tab (midE s tA ds LA) 0).length ((tab (midE s tA ds LA) 0).map (Value.int .i64)) := by simpa [tab] using World.ownsRow_lit (base := w4.heap.size) (e := 2) (size := 1) w4 #[] 0 (Nat.le_refl _) (by simp) (by simp)
      go_wp2
      go_loopw [10, 11] (fun p k wr => ∃ j : Nat, j ≤ LB ∧ k = .int .i64 j ∧ Below w4.heap.size w4 wr ∧ ∃ vm, p = vm ∧ wr.ownsRow w4.heap.size 2 1 vm (tab (midE s tA ds LA) j).length ((tab (midE s tA ds LA) j).map (Value.int .i64))) (fun _ k _ => LB - (intOf k).toNat)
      case atStart => exact ⟨0, Nat.zero_le _, rfl, below1 _ _, _, rfl, hx5⟩
      case round =>
        clear hx5
        obtain ⟨j, hj, rfl, bel2, vm, hp, hRm⟩ := hrel
        have hq := hp.symm
        clear hp
        subst hq
        have d1 : wr.cell? ⟨NB, 1, none⟩ = some (.int .i64 rB) := (bel2.cell (p := ⟨NB, 1, none⟩) (heap_lt HkB4.out)).trans (Go.Joins.cell_of_block HkB4.out 1)
        have hL3 := HL3.out
        have hDL := HDL.out
        by_cases hjl : j < LB
        · have hji : (j : Int) < (LB : Int) := by omega
          have hpart := Told.rd_part HOd.out j LA (by omega)
          rw [Nat.zero_add] at hpart
          have hlA : (tA.length : Int) = s ^ LA := by rw [← HnA.out]; exact HlA.out
          obtain ⟨f1, f2, f3⟩ := part_facts HS.out hlA HDD.out (i := j) (by omega)
          obtain ⟨zs, hzs⟩ : ∃ zs, zs = (ds.drop j).take LA := ⟨_, rfl⟩
          rw [← hzs] at hpart f1 f2 f3
          obtain ⟨mi, hmm⟩ : ∃ mi : Nat, numL zs s = mi := ⟨_, (Int.toNat_of_nonneg (numL_bd HS.out f2).1).symm⟩
          obtain ⟨x, hx⟩ : ∃ x, x = midE s tA ds LA j := ⟨_, rfl⟩
          have hcx : tA.getD mi 0 = x := by rw [hx]; unfold midE; rw [← hzs, hmm]; simp
          have HTj : Hid (tab (midE s tA ds LA) (j + 1) = (tab (midE s tA ds LA) j) ++ [x]) := by simp only [Hid]; rw [tab_succ, hx]
          have hmn : (mi : Int) < (nA : Int) := by have := HnA.out; omega
          have st13 : Below w4.heap.size w4 wr ∧ wr.cell? ⟨NA, 0, none⟩ = some (.int .i64 s) ∧ wr.cell? ⟨NA, 1, none⟩ = some (.int .i64 rA) ∧ wr.cell? ⟨NA, 2, none⟩ = some (Value.slice (some ⟨bA, oA, none⟩) nA cA) ∧ wr.cell? ⟨bA, oA + mi, none⟩ = some (.int .i64 x) ∧ w4.heap.size ≤ wr.heap.size := ⟨bel2, (bel2.cell (p := ⟨NA, 0, none⟩) HL4.out.1).trans (Go.Joins.cell_of_block HkA4.out 0), (bel2.cell (p := ⟨NA, 1, none⟩) HL4.out.1).trans (Go.Joins.cell_of_block HkA4.out 1), (bel2.cell (p := ⟨NA, 2, none⟩) HL4.out.1).trans (Go.Joins.cell_of_block HkA4.out 2), by rw [← hcx]; exact (bel2.cell (p := ⟨bA, oA + mi, none⟩) HL4.out.2.2.2).trans ((HB4.out.cell (p := ⟨bA, oA + mi, none⟩) HbA.out).trans (HCA.out mi (by omega))), bel2.size⟩
          have HZ : Hid (zs.length ≤ 16) := by simp only [Hid]; omega
          have HDA := hid f2
          have HMi := hid hmm
          have HP := hid hpart
          have HRm := hid hRm
          have w1 : IntKind.i64.wrap (2 * rA) = 2 * rA := by rw [IntKind.wrap_i64]; omega
          have w2 : IntKind.i64.wrap ((j : Int) + 2 * rA) = (j : Int) + 2 * rA := by rw [IntKind.wrap_i64]; omega
          have w3 : IntKind.i64.wrap ((j : Int) + 2 * rA + 1) = (j : Int) + 2 * rA + 1 := by rw [IntKind.wrap_i64]; omega
          have e8 : j ≤ ((j : Int) + 2 * rA + 1).toNat := by omega
          have e2 : max ((j : Int) + 2 * rA + 1) 0 = (j : Int) + 2 * rA + 1 := by omega
          have e3 : ((j : Int) + 2 * rA + 1).toNat - j = LA := by omega
          have e4 : (j : Int) ≤ (j : Int) + 2 * rA + 1 := by omega
          have e5 : (j : Int) + 2 * rA + 1 ≤ (LL : Int) := by omega
          have e6 : (0 : Int) ≤ (j : Int) + 2 * rA + 1 := by omega
          have e7 : ¬ LL = j := by omega
          clear f1 f2 f3 hzs hx hcx hmm hpart hRm bel2 hL3 hDL hlA
          go_wp2_with fail
          refine wp_region_held_drew (S := (fun ww => Below w4.heap.size w4 ww ∧ ww.cell? ⟨NA, 0, none⟩ = some (.int .i64 s) ∧ ww.cell? ⟨NA, 1, none⟩ = some (.int .i64 rA) ∧ ww.cell? ⟨NA, 2, none⟩ = some (Value.slice (some ⟨bA, oA, none⟩) nA cA) ∧ ww.cell? ⟨bA, oA + mi, none⟩ = some (.int .i64 x) ∧ w4.heap.size ≤ ww.heap.size)) (by kernel_rfl) ?_ (fun hHeld => ?_)
          · ((try dsimp only); exact drew4_0 st13)
          generalize hD : wr.drew = wD at hHeld ⊢
          have hR : wD.ownsRow w4.heap.size 2 1 vm (tab (midE s tA ds LA) j).length ((tab (midE s tA ds LA) j).map (Value.int .i64)) := by rw [← hD]; exact HRm.out
          clear hD st13
          (refine wpAnyH_take (i := 0) (v := ?_) rfl ?_ ?_ ?_ (fun _ _ _ h => h) (Or.inl ⟨?_, ?_⟩) ?_ ?_; rotate_left 1; (focus decide +kernel); (focus decide +kernel); (focus decide +kernel); (focus rfl); (focus (intro w hSw; (try dsimp only at hSw); go_simp; (try (with_reducible rfl)); done)); (focus assumption); (try simp only [Act.put, List.setIfInBounds_toArray, List.set_cons_zero, List.set_cons_succ, List.getElem_toArray, List.getElem_cons_succ, List.getElem_cons_zero]))
          (refine wpAnyH_take (i := 1) (v := ?_) rfl ?_ ?_ ?_ (fun _ _ _ h => h) (Or.inl ⟨?_, ?_⟩) ?_ ?_; rotate_left 1; (focus decide +kernel); (focus decide +kernel); (focus decide +kernel); (focus rfl); (focus (intro w hSw; (try dsimp only at hSw); go_simp; (try (with_reducible rfl)); done)); (focus assumption); (try simp only [Act.put, List.setIfInBounds_toArray, List.set_cons_zero, List.set_cons_succ, List.getElem_toArray, List.getElem_cons_succ, List.getElem_cons_zero]))
          (refine wpAnyH_take (i := 2) (v := ?_) rfl ?_ ?_ ?_ (fun _ _ _ h => h) (Or.inl ⟨?_, ?_⟩) ?_ ?_; rotate_left 1; (focus decide +kernel); (focus decide +kernel); (focus decide +kernel); (focus rfl); (focus (intro w hSw; (try dsimp only at hSw); go_simp; (try (with_reducible rfl)); done)); (focus assumption); (try simp only [Act.put, List.setIfInBounds_toArray, List.set_cons_zero, List.set_cons_succ, List.getElem_toArray, List.getElem_cons_succ, List.getElem_cons_zero]))
          (refine wpAnyH_take (i := 3) (v := ?_) rfl ?_ ?_ ?_ (fun _ _ _ h => h) (Or.inl ⟨?_, ?_⟩) ?_ ?_; rotate_left 1; (focus decide +kernel); (focus decide +kernel); (focus decide +kernel); (focus rfl); (focus (intro w hSw; (try dsimp only at hSw); go_simp; (try (with_reducible rfl)); done)); (focus assumption); (try simp only [Act.put, List.setIfInBounds_toArray, List.set_cons_zero, List.set_cons_succ, List.getElem_toArray, List.getElem_cons_succ, List.getElem_cons_zero]))
          (refine wpAnyH_take (i := 4) (v := ?_) rfl ?_ ?_ ?_ (fun _ _ _ h => h) (Or.inl ⟨?_, ?_⟩) ?_ ?_; rotate_left 1; (focus decide +kernel); (focus decide +kernel); (focus decide +kernel); (focus rfl); (focus (intro w hSw; (try dsimp only at hSw); go_simp; (try (with_reducible rfl)); done)); (focus assumption); (try simp only [Act.put, List.setIfInBounds_toArray, List.set_cons_zero, List.set_cons_succ, List.getElem_toArray, List.getElem_cons_succ, List.getElem_cons_zero]))
          (refine wpAnyH_take (i := 5) (v := ?_) rfl ?_ ?_ ?_ (fun _ _ _ h => h) (Or.inl ⟨?_, ?_⟩) ?_ ?_; rotate_left 1; (focus decide +kernel); (focus decide +kernel); (focus decide +kernel); (focus rfl); (focus (intro w hSw; (try dsimp only at hSw); go_simp; (try (with_reducible rfl)); done)); (focus assumption); (try simp only [Act.put, List.setIfInBounds_toArray, List.set_cons_zero, List.set_cons_succ, List.getElem_toArray, List.getElem_cons_succ, List.getElem_cons_zero]))
          (refine wpAnyH_take (i := 6) (v := ?_) rfl ?_ ?_ ?_ (fun _ _ _ h => h) (Or.inl ⟨?_, ?_⟩) ?_ ?_; rotate_left 1; (focus decide +kernel); (focus decide +kernel); (focus decide +kernel); (focus rfl); (focus (intro w hSw; (try dsimp only at hSw); go_simp; (try (with_reducible rfl)); done)); (focus assumption); (try simp only [Act.put, List.setIfInBounds_toArray, List.set_cons_zero, List.set_cons_succ, List.getElem_toArray, List.getElem_cons_succ, List.getElem_cons_zero]))
          (refine wpAnyH_take (i := 7) (v := ?_) rfl ?_ ?_ ?_ (fun _ _ _ h => h) (Or.inl ⟨?_, ?_⟩) ?_ ?_; rotate_left 1; (focus decide +kernel); (focus decide +kernel); (focus decide +kernel); (focus rfl); (focus (intro w hSw; (try dsimp only at hSw); go_simp; (try (with_reducible rfl)); done)); (focus assumption); (try simp only [Act.put, List.setIfInBounds_toArray, List.set_cons_zero, List.set_cons_succ, List.getElem_toArray, List.getElem_cons_succ, List.getElem_cons_zero]))
          (refine wpAnyH_take (i := 8) (v := ?_) rfl ?_ ?_ ?_ (fun _ _ _ h => h) (Or.inl ⟨?_, ?_⟩) ?_ ?_; rotate_left 1; (focus decide +kernel); (focus decide +kernel); (focus decide +kernel); (focus rfl); (focus (intro w hSw; (try dsimp only at hSw); go_simp; (try (with_reducible rfl)); done)); (focus assumption); (try simp only [Act.put, List.setIfInBounds_toArray, List.set_cons_zero, List.set_cons_succ, List.getElem_toArray, List.getElem_cons_succ, List.getElem_cons_zero]))
          (refine wpAnyH_take (i := 9) (v := ?_) rfl ?_ ?_ ?_ (fun _ _ _ h => h) (Or.inl ⟨?_, ?_⟩) ?_ ?_; rotate_left 1; (focus decide +kernel); (focus decide +kernel); (focus decide +kernel); (focus rfl); (focus (intro w hSw; (try dsimp only at hSw); go_simp; (try (with_reducible rfl)); done)); (focus assumption); (try simp only [Act.put, List.setIfInBounds_toArray, List.set_cons_zero, List.set_cons_succ, List.getElem_toArray, List.getElem_cons_succ, List.getElem_cons_zero]))
          (refine wpAnyH_take (i := 10) (v := ?_) rfl ?_ ?_ ?_ (fun _ _ _ h => h) (Or.inl ⟨?_, ?_⟩) ?_ ?_; rotate_left 1; (focus decide +kernel); (focus decide +kernel); (focus decide +kernel); (focus rfl); (focus (intro w hSw; (try dsimp only at hSw); go_simp; (try (with_reducible rfl)); done)); (focus assumption); (try simp only [Act.put, List.setIfInBounds_toArray, List.set_cons_zero, List.set_cons_succ, List.getElem_toArray, List.getElem_cons_succ, List.getElem_cons_zero]))
          (refine wpAnyH_take (i := 11) (v := ?_) rfl ?_ ?_ ?_ (fun _ _ _ h => h) (Or.inl ⟨?_, ?_⟩) ?_ ?_; rotate_left 1; (focus decide +kernel); (focus decide +kernel); (focus decide +kernel); (focus rfl); (focus (intro w hSw; (try dsimp only at hSw); go_simp; (try (with_reducible rfl)); done)); (focus assumption); (try simp only [Act.put, List.setIfInBounds_toArray, List.set_cons_zero, List.set_cons_succ, List.getElem_toArray, List.getElem_cons_succ, List.getElem_cons_zero]))
          (refine wpAnyH_take (i := 12) (v := ?_) rfl ?_ ?_ ?_ (fun _ _ _ h => h) (Or.inl ⟨?_, ?_⟩) ?_ ?_; rotate_left 1; (focus decide +kernel); (focus decide +kernel); (focus decide +kernel); (focus rfl); (focus (intro w hSw; (try dsimp only at hSw); go_simp; (try (with_reducible rfl)); done)); (focus assumption); (try simp only [Act.put, List.setIfInBounds_toArray, List.set_cons_zero, List.set_cons_succ, List.getElem_toArray, List.getElem_cons_succ, List.getElem_cons_zero]))
          (refine wpAnyH_take (i := 13) (v := ?_) rfl ?_ ?_ ?_ (fun _ _ _ h => h) (Or.inl ⟨?_, ?_⟩) ?_ ?_; rotate_left 1; (focus decide +kernel); (focus decide +kernel); (focus decide +kernel); (focus rfl); (focus (intro w hSw; (try dsimp only at hSw); go_simp; (try (with_reducible rfl)); done)); (focus assumption); (try simp only [Act.put, List.setIfInBounds_toArray, List.set_cons_zero, List.set_cons_succ, List.getElem_toArray, List.getElem_cons_succ, List.getElem_cons_zero]))
          refine wpAnyH_ready (rs := [14]) ?_ (by simp) ?_
          · decide +kernel
          refine AllReadyH.cons rfl (fun K hK => ?_) AllReadyH.nil
          go_simp
          go_at_call 119
          refine (specIndex (HP.out.keep hHeld.1 (Nat.le_refl _)) HS.out HZ.out HDA.out).mono ?_
          rw [HMi.out]
          rintro e w' ⟨rfl, hw'⟩
          subst hw'
          refine hK.out _ _ ?_ (fun hHeld => ?_)
          · (try dsimp only); exact hHeld
          clear hK K
          (try simp only [Act.put, List.setIfInBounds_toArray, List.set_cons_zero, List.set_cons_succ, List.getElem_toArray, List.getElem_cons_succ, List.getElem_cons_zero])
          (refine wpAnyH_take (i := 15) (v := ?_) rfl ?_ ?_ ?_ (fun _ _ _ h => h) (Or.inl ⟨?_, ?_⟩) ?_ ?_; rotate_left 1; (focus decide +kernel); (focus decide +kernel); (focus decide +kernel); (focus rfl); (focus (intro w hSw; (try dsimp only at hSw); go_simp; (try (with_reducible rfl)); done)); (focus assumption); (try simp only [Act.put, List.setIfInBounds_toArray, List.set_cons_zero, List.set_cons_succ, List.getElem_toArray, List.getElem_cons_succ, List.getElem_cons_zero]))
          (refine wpAnyH_take (i := 16) (v := ?_) rfl ?_ ?_ ?_ (fun _ _ _ h => h) (Or.inl ⟨?_, ?_⟩) ?_ ?_; rotate_left 1; (focus decide +kernel); (focus decide +kernel); (focus decide +kernel); (focus rfl); (focus (intro w hSw; (try dsimp only at hSw); go_simp; (try (with_reducible rfl)); done)); (focus assumption); (try simp only [Act.put, List.setIfInBounds_toArray, List.set_cons_zero, List.set_cons_succ, List.getElem_toArray, List.getElem_cons_succ, List.getElem_cons_zero]))
          refine wpAnyH_ready (rs := [17]) ?_ (by simp) ?_
          · decide +kernel
          refine AllReadyH.cons rfl (fun K hK => ?_) AllReadyH.nil
          go_simp
          refine hK.out _ _ ?_ (fun hHeld2 => ?_)
          · (try dsimp only); exact next4N HL4.out ((below1 wD (Obj.cells #[.int .i64 x] 2)).mono hHeld.2.2.2.2.2) hHeld
          clear hK K
          (try simp only [Act.put, List.setIfInBounds_toArray, List.set_cons_zero, List.set_cons_succ, List.getElem_toArray, List.getElem_cons_succ, List.getElem_cons_zero])
          refine wpAnyH_ready (rs := [18]) ?_ (by simp) ?_
          · decide +kernel
          refine AllReadyH.cons rfl (fun K hK => ?_) AllReadyH.nil
          refine op_append1 rfl _ _ rfl w4.heap.size _ _ rfl hR x rfl ?c1 ?c2 ?_
          case c1 => rw [tab_length]; omega
          case c2 => exact hHeld.2.2.2.2.2
          intro v' w5 hown5 hbel5 g5
          refine hK.out _ _ ?_ (fun hHeld3 => ?_)
          · (try dsimp only); exact next4N HL4.out hbel5 hHeld
          clear hK K
          (try simp only [Act.put, List.setIfInBounds_toArray, List.set_cons_zero, List.set_cons_succ, List.getElem_toArray, List.getElem_cons_succ, List.getElem_cons_zero])
          (refine wpAnyH_take (i := 19) (v := ?_) rfl ?_ ?_ ?_ (fun _ _ _ h => h) (Or.inl ⟨?_, ?_⟩) ?_ ?_; rotate_left 1; (focus decide +kernel); (focus decide +kernel); (focus decide +kernel); (focus rfl); (focus (intro w hSw; (try dsimp only at hSw); go_simp; (try (with_reducible rfl)); done)); (focus assumption); (try simp only [Act.put, List.setIfInBounds_toArray, List.set_cons_zero, List.set_cons_succ, List.getElem_toArray, List.getElem_cons_succ, List.getElem_cons_zero]))
          refine wpAnyH_done (by kernel_rfl) ?_ _
          have hB5 := hHeld3.1
          clear hHeld hHeld2 hHeld3 hbel5 g5
          go_wp2
          go_roundw
          case rel => exact ⟨j + 1, by omega, by go_num, hB5, _, rfl, by rw [HTj.out]; exact hown5⟩
          case measure => simp [intOf]; omega
        · have hkn : LB = j := by omega
          subst hkn
          have HBI := hid (HB4.out.trans (bel2.mono HB4.out.size))
          obtain ⟨bm, hbm, om⟩ := Own.of hRm
          have hlA : (tA.length : Int) = s ^ LA := by rw [← HnA.out]; exact HlA.out
          have hlB : (tB.length : Int) = s ^ LB := by rw [← HnB.out]; exact HlB.out
          obtain ⟨g1, g2⟩ := Joi.mid_facts HS.out hlA hlB HAl.out HDD.out (by omega)
          have hor := om.rd
          obtain ⟨zm, hzm⟩ : ∃ zm, zm = (tab (midE s tA ds LA) LB) := ⟨_, rfl⟩
          have hzl : zm.length = LB := by rw [hzm, tab_length]
          rw [← hzm] at g1 g2 hor HJ
          obtain ⟨mi, hmm⟩ : ∃ mi : Nat, numL zm s = mi := ⟨_, (Int.toNat_of_nonneg (numL_bd HS.out g1).1).symm⟩
          obtain ⟨x, hx⟩ : ∃ x, x = tB.getD mi 0 := ⟨_, rfl⟩
          have HT : Hid (tab (joinT s tA tB LA LB LL) (m + 1) = tab (joinT s tA tB LA LB LL) m ++ [x]) := by
            simp only [Hid]; rw [tab_succ, HJ.out, hmm, hx]; simp
          have hmn : (mi : Int) < (nB : Int) := by have := HnB.out; omega
          have kT0 := hid (heap_keep bel2 HkT4.out)
          have kA0 := hid (heap_keep bel2 HkA4.out)
          have kB0 := hid (heap_keep bel2 HkB4.out)
          have kO0 := hid (heap_keep bel2 HkO4.out)
          have hR0 := hid (rows_keep HR4.out bel2)
          have HLT : Hid (NA < NO ∧ NB < NO ∧ bB < NO) := ⟨HAO.out.1, HAO.out.2, Nat.lt_of_lt_of_le HbB.out HNO.out⟩
          have st14 : Below NO wr wr ∧ wr.cell? ⟨NA, 0, none⟩ = some (.int .i64 s) ∧ wr.cell? ⟨NB, 2, none⟩ = some (Value.slice (some ⟨bB, oB, none⟩) nB cB) ∧ wr.cell? ⟨bB, oB + mi, none⟩ = some (.int .i64 x) ∧ NO ≤ wr.heap.size := ⟨Below.refl _ _, Go.Joins.cell_of_block kA0.out 0, Go.Joins.cell_of_block kB0.out 2, by rw [hx]; exact (HBI.out.cell (p := ⟨bB, oB + mi, none⟩) HbB.out).trans (HCB.out mi (by have := HnB.out; omega)), Nat.le_of_lt (heap_lt kO0.out)⟩
          have HZ : Hid (zm.length ≤ 16) := by simp only [Hid]; omega
          have HDA := hid g1
          have HMi := hid hmm
          have HRM := hid hor
          clear g1 g2 hor hzm hzl hmm hx om hbm hRm bel2 hL3 hDL hlA hlB
          go_wp2_with fail
          refine wp_region_held_drew (S := (fun ww => Below NO wr ww ∧ ww.cell? ⟨NA, 0, none⟩ = some (.int .i64 s) ∧ ww.cell? ⟨NB, 2, none⟩ = some (Value.slice (some ⟨bB, oB, none⟩) nB cB) ∧ ww.cell? ⟨bB, oB + mi, none⟩ = some (.int .i64 x) ∧ NO ≤ ww.heap.size)) (by kernel_rfl) ?_ (fun hHeld => ?_)
          · ((try dsimp only); exact drew14 st14)
          generalize hD : wr.drew = wD at hHeld ⊢
          have kT : wD.heap[NT]? = some (Obj.cells #[.int .i64 0, .int .i64 0, .slice none 0 0] 50) := by rw [← hD]; exact kT0.out
          have kA : wD.heap[NA]? = some (Obj.cells #[.int .i64 s, .int .i64 rA, (Value.slice (some ⟨bA, oA, none⟩) nA cA)] 50) := by rw [← hD]; exact kA0.out
          have kB : wD.heap[NB]? = some (Obj.cells #[.int .i64 s, .int .i64 rB, (Value.slice (some ⟨bB, oB, none⟩) nB cB)] 50) := by rw [← hD]; exact kB0.out
          have kO : wD.heap[NO]? = some (Obj.cells #[.int .i64 s, .int .i64 (rA + rB), .slice ao5 m c5] 50) := by rw [← hD]; exact kO0.out
          have hR : wD.ownsRow (NO + 1) 2 1 (.slice ao5 m c5) (tab (joinT s tA tB LA LB LL) m).length ((tab (joinT s tA tB LA LB LL) m).map (Value.int .i64)) := by rw [← hD]; exact hR0.out
          have HRM : Hid (Rd wD bm vm zm) := by simp only [Hid]; rw [← hD]; exact HRM.out
          clear hD st14
          (refine wpAnyH_take (i := 0) (v := ?_) rfl ?_ ?_ ?_ (fun _ _ _ h => h) (Or.inl ⟨?_, ?_⟩) ?_ ?_; rotate_left 1; (focus decide +kernel); (focus decide +kernel); (focus decide +kernel); (focus rfl); (focus (intro w hSw; (try dsimp only at hSw); go_simp; (try (with_reducible rfl)); done)); (focus assumption); (try simp only [Act.put, List.setIfInBounds_toArray, List.set_cons_zero, List.set_cons_succ, List.getElem_toArray, List.getElem_cons_succ, List.getElem_cons_zero]))
          (refine wpAnyH_take (i := 2) (v := ?_) rfl ?_ ?_ ?_ (fun _ _ _ h => h) (Or.inl ⟨?_, ?_⟩) ?_ ?_; rotate_left 1; (focus decide +kernel); (focus decide +kernel); (focus decide +kernel); (focus rfl); (focus (intro w hSw; (try dsimp only at hSw); go_simp; (try (with_reducible rfl)); done)); (focus assumption); (try simp only [Act.put, List.setIfInBounds_toArray, List.set_cons_zero, List.set_cons_succ, List.getElem_toArray, List.getElem_cons_succ, List.getElem_cons_zero]))
          (refine wpAnyH_take (i := 3) (v := ?_) rfl ?_ ?_ ?_ (fun _ _ _ h => h) (Or.inl ⟨?_, ?_⟩) ?_ ?_; rotate_left 1; (focus decide +kernel); (focus decide +kernel); (focus decide +kernel); (focus rfl); (focus (intro w hSw; (try dsimp only at hSw); go_simp; (try (with_reducible rfl)); done)); (focus assumption); (try simp only [Act.put, List.setIfInBounds_toArray, List.set_cons_zero, List.set_cons_succ, List.getElem_toArray, List.getElem_cons_succ, List.getElem_cons_zero]))
          (refine wpAnyH_take (i := 4) (v := ?_) rfl ?_ ?_ ?_ (fun _ _ _ h => h) (Or.inl ⟨?_, ?_⟩) ?_ ?_; rotate_left 1; (focus decide +kernel); (focus decide +kernel); (focus decide +kernel); (focus rfl); (focus (intro w hSw; (try dsimp only at hSw); go_simp; (try (with_reducible rfl)); done)); (focus assumption); (try simp only [Act.put, List.setIfInBounds_toArray, List.set_cons_zero, List.set_cons_succ, List.getElem_toArray, List.getElem_cons_succ, List.getElem_cons_zero]))
          (refine wpAnyH_take (i := 5) (v := ?_) rfl ?_ ?_ ?_ (fun _ _ _ h => h) (Or.inl ⟨?_, ?_⟩) ?_ ?_; rotate_left 1; (focus decide +kernel); (focus decide +kernel); (focus decide +kernel); (focus rfl); (focus (intro w hSw; (try dsimp only at hSw); go_simp; (try (with_reducible rfl)); done)); (focus assumption); (try simp only [Act.put, List.setIfInBounds_toArray, List.set_cons_zero, List.set_cons_succ, List.getElem_toArray, List.getElem_cons_succ, List.getElem_cons_zero]))
          (refine wpAnyH_take (i := 6) (v := ?_) rfl ?_ ?_ ?_ (fun _ _ _ h => h) (Or.inl ⟨?_, ?_⟩) ?_ ?_; rotate_left 1; (focus decide +kernel); (focus decide +kernel); (focus decide +kernel); (focus rfl); (focus (intro w hSw; (try dsimp only at hSw); go_simp; (try (with_reducible rfl)); done)); (focus assumption); (try simp only [Act.put, List.setIfInBounds_toArray, List.set_cons_zero, List.set_cons_succ, List.getElem_toArray, List.getElem_cons_succ, List.getElem_cons_zero]))
          refine wpAnyH_ready (rs := [1, 7]) ?_ (by simp) ?_
          · decide +kernel
          refine AllReadyH.cons rfl (fun K hK => ?_) (AllReadyH.cons rfl (fun K hK => ?_) AllReadyH.nil)
          · have kv : wD.cell? ⟨NO, 2, none⟩ = some (.slice ao5 m c5) := Go.Joins.cell_of_block (kO) 2
            go_simp
            refine hK.out _ _ ?_ (fun hHeld => ?_)
            · (try dsimp only); exact hHeld
            clear hK K kv
            (try simp only [Act.put, List.setIfInBounds_toArray, List.set_cons_zero, List.set_cons_succ, List.getElem_toArray, List.getElem_cons_succ, List.getElem_cons_zero])
            refine wpAnyH_ready (rs := [7]) ?_ (by simp) ?_
            · decide +kernel
            refine AllReadyH.cons rfl (fun K hK => ?_) AllReadyH.nil
            go_simp
            go_at_call 119
            refine (specIndex HRM.out HS.out HZ.out HDA.out).mono ?_
            rw [HMi.out]
            rintro e w' ⟨rfl, hw'⟩
            subst hw'
            refine hK.out _ _ ?_ (fun hHeld => ?_)
            · (try dsimp only); exact hHeld
            clear hK K
            (try simp only [Act.put, List.setIfInBounds_toArray, List.set_cons_zero, List.set_cons_succ, List.getElem_toArray, List.getElem_cons_succ, List.getElem_cons_zero])
            (refine wpAnyH_take (i := 8) (v := ?_) rfl ?_ ?_ ?_ (fun _ _ _ h => h) (Or.inl ⟨?_, ?_⟩) ?_ ?_; rotate_left 1; (focus decide +kernel); (focus decide +kernel); (focus decide +kernel); (focus rfl); (focus (intro w hSw; (try dsimp only at hSw); go_simp; (try (with_reducible rfl)); done)); (focus assumption); (try simp only [Act.put, List.setIfInBounds_toArray, List.set_cons_zero, List.set_cons_succ, List.getElem_toArray, List.getElem_cons_succ, List.getElem_cons_zero]))
            (refine wpAnyH_take (i := 9) (v := ?_) rfl ?_ ?_ ?_ (fun _ _ _ h => h) (Or.inl ⟨?_, ?_⟩) ?_ ?_; rotate_left 1; (focus decide +kernel); (focus decide +kernel); (focus decide +kernel); (focus rfl); (focus (intro w hSw; (try dsimp only at hSw); go_simp; (try (with_reducible rfl)); done)); (focus assumption); (try simp only [Act.put, List.setIfInBounds_toArray, List.set_cons_zero, List.set_cons_succ, List.getElem_toArray, List.getElem_cons_succ, List.getElem_cons_zero]))
            refine wpAnyH_ready (rs := [10]) ?_ (by simp) ?_
            · decide +kernel
            refine AllReadyH.cons rfl (fun K hK => ?_) AllReadyH.nil
            go_simp
            refine hK.out _ _ ?_ (fun hHeld2 => ?_)
            · (try dsimp only); have bel := below1 wD (Obj.cells #[.int .i64 x] 2); exact next3N HLT.out.1 HLT.out.2.1 HLT.out.2.2 (bel.mono hHeld.2.2.2.2) hHeld
            clear hK K
            have hHeld1 := hHeld
            clear hHeld
            have hHeld := hHeld2
            clear hHeld2
            (try simp only [Act.put, List.setIfInBounds_toArray, List.set_cons_zero, List.set_cons_succ, List.getElem_toArray, List.getElem_cons_succ, List.getElem_cons_zero])
            refine wpAnyH_ready (rs := [11]) ?_ (by simp) ?_
            · decide +kernel
            refine AllReadyH.cons rfl (fun K hK => ?_) AllReadyH.nil
            refine op_append1 rfl _ _ rfl (NO + 1) _ _ rfl hR x rfl ?c1 ?c2 ?_
            case c1 => rw [tab_length]; omega
            case c2 => exact (Array.getElem?_eq_some_iff.1 kO).1
            intro v' w5 hown5 hbel5 g5
            have kO5 := (hbel5.block NO (Nat.lt_succ_self NO)).trans kO
            have kT5 := (hbel5.block _ (Nat.lt_of_lt_of_le HTO.out (Nat.le_succ NO))).trans kT
            have kA5 := (hbel5.block _ (Nat.lt_of_lt_of_le HAO.out.1 (Nat.le_succ NO))).trans kA
            have kB5 := (hbel5.block _ (Nat.lt_of_lt_of_le HAO.out.2 (Nat.le_succ NO))).trans kB
            have bel : Below w.heap.size wD w5 := hbel5.mono (by have := HNO.out; omega)
            refine hK.out _ _ ?_ (fun hHeld3 => ?_)
            · (try dsimp only); exact next3N HLT.out.1 HLT.out.2.1 HLT.out.2.2 (hbel5.mono (Nat.le_succ NO)) hHeld1
            clear hK K hHeld hHeld1
            obtain ⟨b5, hb5, ho5⟩ := Own.of hown5
            rcases ho5.form with ⟨_, he⟩ | ⟨c6, rfl, _, _, _⟩
            · exact absurd he (by simp)
            rw [show (tab (joinT s tA tB LA LB LL) m ++ [x]).length = m + 1 by simp [tab_length]] at hown5 ⊢
            have hHeld := hHeld3
            clear hHeld3 bel ho5 hbel5
            (try simp only [Act.put, List.setIfInBounds_toArray, List.set_cons_zero, List.set_cons_succ, List.getElem_toArray, List.getElem_cons_succ, List.getElem_cons_zero])
            (refine wpAnyH_take (i := 12) (v := ?_) rfl ?_ ?_ ?_ (fun _ _ _ h => h) (Or.inl ⟨?_, ?_⟩) ?_ ?_; rotate_left 1; (focus decide +kernel); (focus decide +kernel); (focus decide +kernel); (focus rfl); (focus (intro w hSw; (try dsimp only at hSw); go_simp; (try (with_reducible rfl)); done)); (focus assumption); (try simp only [Act.put, List.setIfInBounds_toArray, List.set_cons_zero, List.set_cons_succ, List.getElem_toArray, List.getElem_cons_succ, List.getElem_cons_zero]))
            refine wpAnyH_ready (rs := [13]) ?_ (by simp) ?_
            · decide +kernel
            refine AllReadyH.cons rfl (fun K hK => ?_) AllReadyH.nil
            have y2 : w5.cell? ⟨NO, 2, none⟩ = some (.slice ao5 m c5) := Go.Joins.cell_of_block kO5 2
            have g2 : w5.frozen? ⟨NO, 2, none⟩ = false := Go.Joins.unfrozen_of_block kO5 2
            go_simp
            have kOs := Go.Joins.block_setCell (i := 2) kO5 (.slice (some ⟨b5, 0, none⟩) (m + 1) c6)
            have hRs := rows_set hown5 ⟨NO, 2, none⟩ (.slice (some ⟨b5, 0, none⟩) (m + 1) c6) (Nat.lt_succ_self NO)
            have kTs := (Below.heap_setCell w5 ⟨NO, 2, none⟩ (.slice (some ⟨b5, 0, none⟩) (m + 1) c6) _ (Nat.ne_of_lt HTO.out)).trans kT5
            have kAs := (Below.heap_setCell w5 ⟨NO, 2, none⟩ (.slice (some ⟨b5, 0, none⟩) (m + 1) c6) _ (Nat.ne_of_lt HAO.out.1)).trans kA5
            have kBs := (Below.heap_setCell w5 ⟨NO, 2, none⟩ (.slice (some ⟨b5, 0, none⟩) (m + 1) c6) _ (Nat.ne_of_lt HAO.out.2)).trans kB5
            have bel : Below w.heap.size w5 (w5.setCell ⟨NO, 2, none⟩ (.slice (some ⟨b5, 0, none⟩) (m + 1) c6)) := (Below.refl _ _).setCell (by have := HNO.out; simp; omega) _
            have gs : w5.grownBy (w5.setCell ⟨NO, 2, none⟩ (.slice (some ⟨b5, 0, none⟩) (m + 1) c6)) (some NO) := setCell_grown w5 ⟨NO, 2, none⟩ (.slice (some ⟨b5, 0, none⟩) (m + 1) c6)
            obtain ⟨wS, hW⟩ : ∃ wS, wS = w5.setCell ⟨NO, 2, none⟩ (.slice (some ⟨b5, 0, none⟩) (m + 1) c6) := ⟨_, rfl⟩
            rw [← hW] at kOs hRs bel gs kTs kAs kBs
            refine hK.out _ _ ?_ (fun hHeld4 => ?_)
            · (try dsimp only); rw [← hW]; exact next3N HLT.out.1 HLT.out.2.1 HLT.out.2.2 (below_of_grown gs hHeld.2.2.2.2) hHeld
            clear hK K
            simp only [← hW] at hHeld4 ⊢
            clear hW y2 g2
            (try simp only [Act.put, List.setIfInBounds_toArray, List.set_cons_zero, List.set_cons_succ, List.getElem_toArray, List.getElem_cons_succ, List.getElem_cons_zero])
            refine wpAnyH_done (by kernel_rfl) ?_ _
            have hBs : Below w.heap.size w wS := HBI.out.trans (hHeld4.1.mono HNO.out)
            clear hHeld4 hHeld
            go_wp2
            go_roundw
            case rel =>
              refine ⟨m + 1, by omega, by go_num, hBs, kTs, kAs, kBs, some ⟨b5, 0, none⟩, c6, kOs, ?_⟩
              rw [HT.out, List.map_append, List.length_append]
              simpa [tab_length] using hRs
            case measure => simp [intOf]; omega
          · go_simp
            go_at_call 119
            refine (specIndex HRM.out HS.out HZ.out HDA.out).mono ?_
            rw [HMi.out]
            rintro e w' ⟨rfl, hw'⟩
            subst hw'
            refine hK.out _ _ ?_ (fun hHeld => ?_)
            · (try dsimp only); exact hHeld
            clear hK K
            (try simp only [Act.put, List.setIfInBounds_toArray, List.set_cons_zero, List.set_cons_succ, List.getElem_toArray, List.getElem_cons_succ, List.getElem_cons_zero])
            (refine wpAnyH_take (i := 8) (v := ?_) rfl ?_ ?_ ?_ (fun _ _ _ h => h) (Or.inl ⟨?_, ?_⟩) ?_ ?_; rotate_left 1; (focus decide +kernel); (focus decide +kernel); (focus decide +kernel); (focus rfl); (focus (intro w hSw; (try dsimp only at hSw); go_simp; (try (with_reducible rfl)); done)); (focus assumption); (try simp only [Act.put, List.setIfInBounds_toArray, List.set_cons_zero, List.set_cons_succ, List.getElem_toArray, List.getElem_cons_succ, List.getElem_cons_zero]))
            (refine wpAnyH_take (i := 9) (v := ?_) rfl ?_ ?_ ?_ (fun _ _ _ h => h) (Or.inl ⟨?_, ?_⟩) ?_ ?_; rotate_left 1; (focus decide +kernel); (focus decide +kernel); (focus decide +kernel); (focus rfl); (focus (intro w hSw; (try dsimp only at hSw); go_simp; (try (with_reducible rfl)); done)); (focus assumption); (try simp only [Act.put, List.setIfInBounds_toArray, List.set_cons_zero, List.set_cons_succ, List.getElem_toArray, List.getElem_cons_succ, List.getElem_cons_zero]))
            refine wpAnyH_ready (rs := [1, 10]) ?_ (by simp) ?_
            · decide +kernel
            refine AllReadyH.cons rfl (fun K hK => ?_) (AllReadyH.cons rfl (fun K hK => ?_) AllReadyH.nil)
            · have kv : wD.cell? ⟨NO, 2, none⟩ = some (.slice ao5 m c5) := Go.Joins.cell_of_block (kO) 2
              go_simp
              refine hK.out _ _ ?_ (fun hHeld => ?_)
              · (try dsimp only); exact hHeld
              clear hK K kv
              (try simp only [Act.put, List.setIfInBounds_toArray, List.set_cons_zero, List.set_cons_succ, List.getElem_toArray, List.getElem_cons_succ, List.getElem_cons_zero])
              refine wpAnyH_ready (rs := [10]) ?_ (by simp) ?_
              · decide +kernel
              refine AllReadyH.cons rfl (fun K hK => ?_) AllReadyH.nil
              go_simp
              refine hK.out _ _ ?_ (fun hHeld2 => ?_)
              · (try dsimp only); have bel := below1 wD (Obj.cells #[.int .i64 x] 2); exact next3N HLT.out.1 HLT.out.2.1 HLT.out.2.2 (bel.mono hHeld.2.2.2.2) hHeld
              clear hK K
              have hHeld1 := hHeld
              clear hHeld
              have hHeld := hHeld2
              clear hHeld2
              (try simp only [Act.put, List.setIfInBounds_toArray, List.set_cons_zero, List.set_cons_succ, List.getElem_toArray, List.getElem_cons_succ, List.getElem_cons_zero])
              refine wpAnyH_ready (rs := [11]) ?_ (by simp) ?_
              · decide +kernel
              refine AllReadyH.cons rfl (fun K hK => ?_) AllReadyH.nil
              refine op_append1 rfl _ _ rfl (NO + 1) _ _ rfl hR x rfl ?c1 ?c2 ?_
              case c1 => rw [tab_length]; omega
              case c2 => exact (Array.getElem?_eq_some_iff.1 kO).1
              intro v' w5 hown5 hbel5 g5
              have kO5 := (hbel5.block NO (Nat.lt_succ_self NO)).trans kO
              have kT5 := (hbel5.block _ (Nat.lt_of_lt_of_le HTO.out (Nat.le_succ NO))).trans kT
              have kA5 := (hbel5.block _ (Nat.lt_of_lt_of_le HAO.out.1 (Nat.le_succ NO))).trans kA
              have kB5 := (hbel5.block _ (Nat.lt_of_lt_of_le HAO.out.2 (Nat.le_succ NO))).trans kB
              have bel : Below w.heap.size wD w5 := hbel5.mono (by have := HNO.out; omega)
              refine hK.out _ _ ?_ (fun hHeld3 => ?_)
              · (try dsimp only); exact next3N HLT.out.1 HLT.out.2.1 HLT.out.2.2 (hbel5.mono (Nat.le_succ NO)) hHeld1
              clear hK K hHeld hHeld1
              obtain ⟨b5, hb5, ho5⟩ := Own.of hown5
              rcases ho5.form with ⟨_, he⟩ | ⟨c6, rfl, _, _, _⟩
              · exact absurd he (by simp)
              rw [show (tab (joinT s tA tB LA LB LL) m ++ [x]).length = m + 1 by simp [tab_length]] at hown5 ⊢
              have hHeld := hHeld3
              clear hHeld3 bel ho5 hbel5
              (try simp only [Act.put, List.setIfInBounds_toArray, List.set_cons_zero, List.set_cons_succ, List.getElem_toArray, List.getElem_cons_succ, List.getElem_cons_zero])
              (refine wpAnyH_take (i := 12) (v := ?_) rfl ?_ ?_ ?_ (fun _ _ _ h => h) (Or.inl ⟨?_, ?_⟩) ?_ ?_; rotate_left 1; (focus decide +kernel); (focus decide +kernel); (focus decide +kernel); (focus rfl); (focus (intro w hSw; (try dsimp only at hSw); go_simp; (try (with_reducible rfl)); done)); (focus assumption); (try simp only [Act.put, List.setIfInBounds_toArray, List.set_cons_zero, List.set_cons_succ, List.getElem_toArray, List.getElem_cons_succ, List.getElem_cons_zero]))
              refine wpAnyH_ready (rs := [13]) ?_ (by simp) ?_
              · decide +kernel
              refine AllReadyH.cons rfl (fun K hK => ?_) AllReadyH.nil
              have y2 : w5.cell? ⟨NO, 2, none⟩ = some (.slice ao5 m c5) := Go.Joins.cell_of_block kO5 2
              have g2 : w5.frozen? ⟨NO, 2, none⟩ = false := Go.Joins.unfrozen_of_block kO5 2
              go_simp
              have kOs := Go.Joins.block_setCell (i := 2) kO5 (.slice (some ⟨b5, 0, none⟩) (m + 1) c6)
              have hRs := rows_set hown5 ⟨NO, 2, none⟩ (.slice (some ⟨b5, 0, none⟩) (m + 1) c6) (Nat.lt_succ_self NO)
              have kTs := (Below.heap_setCell w5 ⟨NO, 2, none⟩ (.slice (some ⟨b5, 0, none⟩) (m + 1) c6) _ (Nat.ne_of_lt HTO.out)).trans kT5
              have kAs := (Below.heap_setCell w5 ⟨NO, 2, none⟩ (.slice (some ⟨b5, 0, none⟩) (m + 1) c6) _ (Nat.ne_of_lt HAO.out.1)).trans kA5
              have kBs := (Below.heap_setCell w5 ⟨NO, 2, none⟩ (.slice (some ⟨b5, 0, none⟩) (m + 1) c6) _ (Nat.ne_of_lt HAO.out.2)).trans kB5
              have bel : Below w.heap.size w5 (w5.setCell ⟨NO, 2, none⟩ (.slice (some ⟨b5, 0, none⟩) (m + 1) c6)) := (Below.refl _ _).setCell (by have := HNO.out; simp; omega) _
              have gs : w5.grownBy (w5.setCell ⟨NO, 2, none⟩ (.slice (some ⟨b5, 0, none⟩) (m + 1) c6)) (some NO) := setCell_grown w5 ⟨NO, 2, none⟩ (.slice (some ⟨b5, 0, none⟩) (m + 1) c6)
              obtain ⟨wS, hW⟩ : ∃ wS, wS = w5.setCell ⟨NO, 2, none⟩ (.slice (some ⟨b5, 0, none⟩) (m + 1) c6) := ⟨_, rfl⟩
              rw [← hW] at kOs hRs bel gs kTs kAs kBs
              refine hK.out _ _ ?_ (fun hHeld4 => ?_)
              · (try dsimp only); rw [← hW]; exact next3N HLT.out.1 HLT.out.2.1 HLT.out.2.2 (below_of_grown gs hHeld.2.2.2.2) hHeld
              clear hK K
              simp only [← hW] at hHeld4 ⊢
              clear hW y2 g2
              (try simp only [Act.put, List.setIfInBounds_toArray, List.set_cons_zero, List.set_cons_succ, List.getElem_toArray, List.getElem_cons_succ, List.getElem_cons_zero])
              refine wpAnyH_done (by kernel_rfl) ?_ _
              have hBs : Below w.heap.size w wS := HBI.out.trans (hHeld4.1.mono HNO.out)
              clear hHeld4 hHeld
              go_wp2
              go_roundw
              case rel =>
                refine ⟨m + 1, by omega, by go_num, hBs, kTs, kAs, kBs, some ⟨b5, 0, none⟩, c6, kOs, ?_⟩
                rw [HT.out, List.map_append, List.length_append]
                simpa [tab_length] using hRs
              case measure => simp [intOf]; omega
            · go_simp
              refine hK.out _ _ ?_ (fun hHeld2 => ?_)
              · (try dsimp only); have bel := below1 wD (Obj.cells #[.int .i64 x] 2); exact next3N HLT.out.1 HLT.out.2.1 HLT.out.2.2 (bel.mono hHeld.2.2.2.2) hHeld
              clear hK K
              have hHeld1 := hHeld
              clear hHeld
              have hHeld := hHeld2
              clear hHeld2
              (try simp only [Act.put, List.setIfInBounds_toArray, List.set_cons_zero, List.set_cons_succ, List.getElem_toArray, List.getElem_cons_succ, List.getElem_cons_zero])
              refine wpAnyH_ready (rs := [1]) ?_ (by simp) ?_
              · decide +kernel
              refine AllReadyH.cons rfl (fun K hK => ?_) AllReadyH.nil
              have kv : (wD.alloc (Obj.cells #[.int .i64 x] 2)).cell? ⟨NO, 2, none⟩ = some (.slice ao5 m c5) := Go.Joins.cell_of_block (heap_old kO) 2
              go_simp
              refine hK.out _ _ ?_ (fun hHeld => ?_)
              · (try dsimp only); exact hHeld
              clear hK K kv
              (try simp only [Act.put, List.setIfInBounds_toArray, List.set_cons_zero, List.set_cons_succ, List.getElem_toArray, List.getElem_cons_succ, List.getElem_cons_zero])
              refine wpAnyH_ready (rs := [11]) ?_ (by simp) ?_
              · decide +kernel
              refine AllReadyH.cons rfl (fun K hK => ?_) AllReadyH.nil
              refine op_append1 rfl _ _ rfl (NO + 1) _ _ rfl hR x rfl ?c1 ?c2 ?_
              case c1 => rw [tab_length]; omega
              case c2 => exact (Array.getElem?_eq_some_iff.1 kO).1
              intro v' w5 hown5 hbel5 g5
              have kO5 := (hbel5.block NO (Nat.lt_succ_self NO)).trans kO
              have kT5 := (hbel5.block _ (Nat.lt_of_lt_of_le HTO.out (Nat.le_succ NO))).trans kT
              have kA5 := (hbel5.block _ (Nat.lt_of_lt_of_le HAO.out.1 (Nat.le_succ NO))).trans kA
              have kB5 := (hbel5.block _ (Nat.lt_of_lt_of_le HAO.out.2 (Nat.le_succ NO))).trans kB
              have bel : Below w.heap.size wD w5 := hbel5.mono (by have := HNO.out; omega)
              refine hK.out _ _ ?_ (fun hHeld3 => ?_)
              · (try dsimp only); exact next3N HLT.out.1 HLT.out.2.1 HLT.out.2.2 (hbel5.mono (Nat.le_succ NO)) hHeld1
              clear hK K hHeld hHeld1
              obtain ⟨b5, hb5, ho5⟩ := Own.of hown5
              rcases ho5.form with ⟨_, he⟩ | ⟨c6, rfl, _, _, _⟩
              · exact absurd he (by simp)
              rw [show (tab (joinT s tA tB LA LB LL) m ++ [x]).length = m + 1 by simp [tab_length]] at hown5 ⊢
              have hHeld := hHeld3
              clear hHeld3 bel ho5 hbel5
              (try simp only [Act.put, List.setIfInBounds_toArray, List.set_cons_zero, List.set_cons_succ, List.getElem_toArray, List.getElem_cons_succ, List.getElem_cons_zero])
              (refine wpAnyH_take (i := 12) (v := ?_) rfl ?_ ?_ ?_ (fun _ _ _ h => h) (Or.inl ⟨?_, ?_⟩) ?_ ?_; rotate_left 1; (focus decide +kernel); (focus decide +kernel); (focus decide +kernel); (focus rfl); (focus (intro w hSw; (try dsimp only at hSw); go_simp; (try (with_reducible rfl)); done)); (focus assumption); (try simp only [Act.put, List.setIfInBounds_toArray, List.set_cons_zero, List.set_cons_succ, List.getElem_toArray, List.getElem_cons_succ, List.getElem_cons_zero]))
              refine wpAnyH_ready (rs := [13]) ?_ (by simp) ?_
              · decide +kernel
              refine AllReadyH.cons rfl (fun K hK => ?_) AllReadyH.nil
              have y2 : w5.cell? ⟨NO, 2, none⟩ = some (.slice ao5 m c5) := Go.Joins.cell_of_block kO5 2
              have g2 : w5.frozen? ⟨NO, 2, none⟩ = false := Go.Joins.unfrozen_of_block kO5 2
              go_simp
              have kOs := Go.Joins.block_setCell (i := 2) kO5 (.slice (some ⟨b5, 0, none⟩) (m + 1) c6)
              have hRs := rows_set hown5 ⟨NO, 2, none⟩ (.slice (some ⟨b5, 0, none⟩) (m + 1) c6) (Nat.lt_succ_self NO)
              have kTs := (Below.heap_setCell w5 ⟨NO, 2, none⟩ (.slice (some ⟨b5, 0, none⟩) (m + 1) c6) _ (Nat.ne_of_lt HTO.out)).trans kT5
              have kAs := (Below.heap_setCell w5 ⟨NO, 2, none⟩ (.slice (some ⟨b5, 0, none⟩) (m + 1) c6) _ (Nat.ne_of_lt HAO.out.1)).trans kA5
              have kBs := (Below.heap_setCell w5 ⟨NO, 2, none⟩ (.slice (some ⟨b5, 0, none⟩) (m + 1) c6) _ (Nat.ne_of_lt HAO.out.2)).trans kB5
              have bel : Below w.heap.size w5 (w5.setCell ⟨NO, 2, none⟩ (.slice (some ⟨b5, 0, none⟩) (m + 1) c6)) := (Below.refl _ _).setCell (by have := HNO.out; simp; omega) _
              have gs : w5.grownBy (w5.setCell ⟨NO, 2, none⟩ (.slice (some ⟨b5, 0, none⟩) (m + 1) c6)) (some NO) := setCell_grown w5 ⟨NO, 2, none⟩ (.slice (some ⟨b5, 0, none⟩) (m + 1) c6)
              obtain ⟨wS, hW⟩ : ∃ wS, wS = w5.setCell ⟨NO, 2, none⟩ (.slice (some ⟨b5, 0, none⟩) (m + 1) c6) := ⟨_, rfl⟩
              rw [← hW] at kOs hRs bel gs kTs kAs kBs
              refine hK.out _ _ ?_ (fun hHeld4 => ?_)
              · (try dsimp only); rw [← hW]; exact next3N HLT.out.1 HLT.out.2.1 HLT.out.2.2 (below_of_grown gs hHeld.2.2.2.2) hHeld
              clear hK K
              simp only [← hW] at hHeld4 ⊢
              clear hW y2 g2
              (try simp only [Act.put, List.setIfInBounds_toArray, List.set_cons_zero, List.set_cons_succ, List.getElem_toArray, List.getElem_cons_succ, List.getElem_cons_zero])
              refine wpAnyH_done (by kernel_rfl) ?_ _
              have hBs : Below w.heap.size w wS := HBI.out.trans (hHeld4.1.mono HNO.out)
              clear hHeld4 hHeld
              go_wp2
              go_roundw
              case rel =>
                refine ⟨m + 1, by omega, by go_num, hBs, kTs, kAs, kBs, some ⟨b5, 0, none⟩, c6, kOs, ?_⟩
                rw [HT.out, List.map_append, List.length_append]
                simpa [tab_length] using hRs
              case measure => simp [intOf]; omega
    · have hkn : m = M := by omega
      subst hkn
      obtain ⟨b', hb', o'⟩ := Own.of hR
      have x0 : wr.cell? ⟨NO, 0, none⟩ = some (.int .i64 s) := Go.Joins.cell_of_block kO 0
      have x1 : wr.cell? ⟨NO, 1, none⟩ = some (.int .i64 (rA + rB)) := Go.Joins.cell_of_block kO 1
      have x2 : wr.cell? ⟨NO, 2, none⟩ = some (.slice ao5 m c5) := Go.Joins.cell_of_block kO 2
      have hne : NT ≠ b' := by have := HTO.out; omega
      have HNB := hid hne
      have HLo : Hid (w.heap.size ≤ b') := by have := HNO.out; simp only [Hid]; omega
      have HB := hid bel0
      have HO := hid o'
      have HkT := hid kT
      clear bel0 hR kO o' hb' hne kT kA kB
      go_wp2_with fail
      go_at_call 117
      refine hpw.mono ?_
      clear hpw
      rintro e w' ⟨rfl, hw'⟩
      subst hw'
      have kb := HkT.out
      have y0 : wr.cell? ⟨NT, 0, none⟩ = some (.int .i64 0) := Go.Joins.cell_of_block kb 0
      have y1 : wr.cell? ⟨NT, 1, none⟩ = some (.int .i64 0) := Go.Joins.cell_of_block kb 1
      have y2 : wr.cell? ⟨NT, 2, none⟩ = some (.slice none 0 0) := Go.Joins.cell_of_block kb 2
      have g0 : wr.frozen? ⟨NT, 0, none⟩ = false := Go.Joins.unfrozen_of_block kb 0
      have g1 : wr.frozen? ⟨NT, 1, none⟩ = false := Go.Joins.unfrozen_of_block kb 1
      have g2 : wr.frozen? ⟨NT, 2, none⟩ = false := Go.Joins.unfrozen_of_block kb 2
      have HKx := hid kb
      clear kb
      go_wp2
      obtain ⟨W5, hW⟩ : ∃ W5, W5 = (((wr.setCell ⟨NT, 0, none⟩ (.int .i64 s)).setCell ⟨NT, 1, none⟩ (.int .i64 (rA + rB))).setCell ⟨NT, 2, none⟩ (.slice ao5 m c5)) := ⟨_, rfl⟩
      have q0 := (Go.Joins.block_setCell (i := 2) (Go.Joins.block_setCell (i := 1) (Go.Joins.block_setCell (i := 0) HKx.out (.int .i64 s)) (.int .i64 (rA + rB))) (.slice ao5 m c5))
      rw [← hW] at q0
      have z0 : W5.cell? ⟨NT, 0, none⟩ = some (.int .i64 s) := Go.Joins.cell_of_block q0 0
      have z1 : W5.cell? ⟨NT, 1, none⟩ = some (.int .i64 (rA + rB)) := Go.Joins.cell_of_block q0 1
      have z2 : W5.cell? ⟨NT, 2, none⟩ = some (.slice ao5 m c5) := Go.Joins.cell_of_block q0 2
      have O5 := (own_set (own_set (own_set HO.out ⟨NT, 0, none⟩ (.int .i64 s) HNB.out) ⟨NT, 1, none⟩ (.int .i64 (rA + rB)) HNB.out) ⟨NT, 2, none⟩ (.slice ao5 m c5) HNB.out)
      rw [← hW] at O5
      have B5 : Below w.heap.size w W5 := by
        have h1 := HNT.out
        rw [hW]
        exact ((HB.out.setCell (by simp; omega) _).setCell (by simp; omega) _).setCell (by simp; omega) _
      simp only [← hW]
      clear hW q0
      simp [bodyPost, results, Try.results59, go_sem, z0, z1, z2]
      exact ⟨b', O5, HLo.out, B5⟩

end Go.Proofs.Ytejchjjkehmgaaa.JoiS
