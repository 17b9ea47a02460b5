/- JoinRules of the program. -/
import Derived.Test.YtejchjjkehmgaaaJoi
import Derived.Test.YtejchjjkehmgaaaFNew
namespace Go.Proofs.Ytejchjjkehmgaaa.JoiI
open Go.RowKit Go.Proofs.Ytejchjjkehmgaaa.Rd Go.Proofs.Ytejchjjkehmgaaa.Help Go.Proofs.Ytejchjjkehmgaaa.Ring Go.Proofs.Ytejchjjkehmgaaa.Small Go.Proofs.Ytejchjjkehmgaaa.Num Go.Proofs.Ytejchjjkehmgaaa.Keep Go.Proofs.Ytejchjjkehmgaaa.Rule Go.Proofs.Ytejchjjkehmgaaa.Dig Go.Proofs.Ytejchjjkehmgaaa.DigP Go.Proofs.Ytejchjjkehmgaaa.Tell Go.Proofs.Ytejchjjkehmgaaa.Joi
set_option linter.unusedVariables false
set_option linter.unusedSimpArgs false

theorem heap_keep {w w' : World} {n : Nat} {o : Obj} (bel : Below w.heap.size w w') (h : w.heap[n]? = some o) : w'.heap[n]? = some o :=
  (bel.block n (Array.getElem?_eq_some_iff.1 h).1).trans h
theorem heap_lt {w : World} {n : Nat} {o : Obj} (h : w.heap[n]? = some o) : n < w.heap.size := (Array.getElem?_eq_some_iff.1 h).1
theorem mono_at {P : Program} {c : Code} {Q' : Exit → Act → World → Prop} {a : Act} {w : World} (R : Act → Exit → Act → World → Prop) (h : c.wp P (R a) a w) (hq : ∀ e a' w', R a e a' w' → Q' e a' w') : c.wp P Q' a w := Code.wp_mono hq h
theorem wideL {w : World} {s r : Int} {L : Nat} (hr : 0 ≤ r ∧ r ≤ 2) (hL : (L : Int) = 2 * r + 1) :
    Calls Try.prog 101 #[shapeV s r] w fun e w' => e = .returned (.int .i64 L) ∧ Below w.heap.size w w' := by
  rw [hL]; exact wide hr

set_option maxHeartbeats 4000000 in
theorem implNoA {w : World} {s s2 rA rB : Int} {bA bB : Nat} {vA vB : Value} {tA tB : List Int} (hA : Rd w bA vA tA) (hB : Rd w bB vB tB) (hv : validB s rA tA = false) :
    Calls Try.prog 60 #[ruleV s rA vA, ruleV s2 rB vB] w fun e w' => e = .returned (.tuple #[ruleV 0 0 (.slice none 0 0), .bool false]) ∧ Below w.heap.size w w' := by
  have HV1 := hid hv
  clear hv
  have H1 := hid hA
  have H2 := hid hB
  obtain ⟨aoA, cA, rfl, _, _, _⟩ := hA
  obtain ⟨aoB, cB, rfl, _, _, _⟩ := hB
  go_enter Try.func60, Try.ntmps60
  go_wp2_with fail
  obtain ⟨w1, hW⟩ : ∃ w1, w1 = ((w.alloc (Obj.cells #[.int .i64 s, .int .i64 rA, (Value.slice aoA tA.length cA)] 50)).alloc (Obj.cells #[.int .i64 s2, .int .i64 rB, (Value.slice aoB tB.length cB)] 50)).alloc (Obj.cells #[.int .i64 0, .int .i64 0, .slice none 0 0] 50) := ⟨_, rfl⟩
  obtain ⟨NA, hA⟩ : ∃ NA, NA = w.heap.size := ⟨_, rfl⟩
  obtain ⟨NB, hB⟩ : ∃ NB, NB = NA + 1 := ⟨_, rfl⟩
  obtain ⟨NT, hT⟩ : ∃ NT, NT = NB + 1 := ⟨_, rfl⟩
  have st : Below w.heap.size w w1 ∧ w1.cell? ⟨NA, 0, none⟩ = some (.int .i64 s) ∧ w1.cell? ⟨NA, 1, none⟩ = some (.int .i64 rA) ∧ w1.cell? ⟨NA, 2, none⟩ = some ((Value.slice aoA tA.length cA)) ∧ w1.cell? ⟨NB, 0, none⟩ = some (.int .i64 s2) ∧ w1.cell? ⟨NB, 1, none⟩ = some (.int .i64 rB) ∧ w1.cell? ⟨NB, 2, none⟩ = some ((Value.slice aoB tB.length cB)) ∧ w.heap.size ≤ w1.heap.size := by
    rw [hW, hB, hA]
    exact ⟨Go.Joins.below_alloc3 _ _ _ _, cell_keep (Go.Joins.below_alloc2 _ _ _) (by simp), cell_keep (Go.Joins.below_alloc2 _ _ _) (by simp), cell_keep (Go.Joins.below_alloc2 _ _ _) (by simp), cell_keep (below1 _ _) (by simp), cell_keep (below1 _ _) (by simp), cell_keep (below1 _ _) (by simp), by simp <;> omega⟩
  have kT : w1.heap[NT]? = some (Obj.cells #[.int .i64 0, .int .i64 0, .slice none 0 0] 50) := by rw [hW]; exact FNew.heap_top (by rw [hT, hB, hA]; simp)
  have HNT : Hid (w.heap.size ≤ NT) := by simp only [Hid]; omega
  have HNX : Hid (NA = w.heap.size ∧ NB = NA + 1 ∧ NT = NB + 1) := ⟨hA, hB, hT⟩
  simp only [← hW, ← hA, ← hB, ← hT]
  clear hW hA hB hT
  go_wp2_with fail
  go_at_call 91
  refine (implValid (H1.out.keep st.1 (Nat.le_refl _))).mono ?_
  rw [HV1.out]
  rintro e w2 ⟨rfl, bel⟩
  replace st := next6_0 bel st
  replace kT := heap_keep bel kT
  clear bel
  have HB := hid st.1
  have y0 : w2.cell? ⟨NT, 0, none⟩ = some (.int .i64 0) := Go.Joins.cell_of_block kT 0
  have y1 : w2.cell? ⟨NT, 1, none⟩ = some (.int .i64 0) := Go.Joins.cell_of_block kT 1
  have y2 : w2.cell? ⟨NT, 2, none⟩ = some (.slice none 0 0) := Go.Joins.cell_of_block kT 2
  have g0 : w2.frozen? ⟨NT, 0, none⟩ = false := Go.Joins.unfrozen_of_block kT 0
  have g1 : w2.frozen? ⟨NT, 1, none⟩ = false := Go.Joins.unfrozen_of_block kT 1
  have g2 : w2.frozen? ⟨NT, 2, none⟩ = false := Go.Joins.unfrozen_of_block kT 2
  have HKx := hid kT
  clear kT
  go_wp2
  obtain ⟨W5, hW⟩ : ∃ W5, W5 = (((w2.setCell ⟨NT, 0, none⟩ (.int .i64 0)).setCell ⟨NT, 1, none⟩ (.int .i64 0)).setCell ⟨NT, 2, none⟩ (.slice none 0 0)) := ⟨_, rfl⟩
  have q0 := (Go.Joins.block_setCell (i := 2) (Go.Joins.block_setCell (i := 1) (Go.Joins.block_setCell (i := 0) HKx.out (.int .i64 0)) (.int .i64 0)) (.slice none 0 0))
  rw [← hW] at q0
  have z0 : W5.cell? ⟨NT, 0, none⟩ = some (.int .i64 0) := Go.Joins.cell_of_block q0 0
  have z1 : W5.cell? ⟨NT, 1, none⟩ = some (.int .i64 0) := Go.Joins.cell_of_block q0 1
  have z2 : W5.cell? ⟨NT, 2, none⟩ = some (.slice none 0 0) := Go.Joins.cell_of_block q0 2
  have B5 : Below w.heap.size w W5 := by
    have h1 := HNT.out
    rw [hW]
    exact ((HB.out.setCell (by simp; omega) _).setCell (by simp; omega) _).setCell (by simp; omega) _
  simp only [← hW]
  clear hW q0
  simp [bodyPost, results, Try.results60, go_sem, z0, z1, z2]
  exact B5

set_option maxHeartbeats 4000000 in
theorem implNoB {w : World} {s s2 rA rB : Int} {bA bB : Nat} {vA vB : Value} {tA tB : List Int} (hA : Rd w bA vA tA) (hB : Rd w bB vB tB) (hv : validB s rA tA = true) (hv2 : validB s2 rB tB = false) :
    Calls Try.prog 60 #[ruleV s rA vA, ruleV s2 rB vB] w fun e w' => e = .returned (.tuple #[ruleV 0 0 (.slice none 0 0), .bool false]) ∧ Below w.heap.size w w' := by
  have HV1 := hid hv
  have HV2 := hid hv2
  clear hv hv2
  have H1 := hid hA
  have H2 := hid hB
  obtain ⟨aoA, cA, rfl, _, _, _⟩ := hA
  obtain ⟨aoB, cB, rfl, _, _, _⟩ := hB
  go_enter Try.func60, Try.ntmps60
  go_wp2_with fail
  obtain ⟨w1, hW⟩ : ∃ w1, w1 = ((w.alloc (Obj.cells #[.int .i64 s, .int .i64 rA, (Value.slice aoA tA.length cA)] 50)).alloc (Obj.cells #[.int .i64 s2, .int .i64 rB, (Value.slice aoB tB.length cB)] 50)).alloc (Obj.cells #[.int .i64 0, .int .i64 0, .slice none 0 0] 50) := ⟨_, rfl⟩
  obtain ⟨NA, hA⟩ : ∃ NA, NA = w.heap.size := ⟨_, rfl⟩
  obtain ⟨NB, hB⟩ : ∃ NB, NB = NA + 1 := ⟨_, rfl⟩
  obtain ⟨NT, hT⟩ : ∃ NT, NT = NB + 1 := ⟨_, rfl⟩
  have st : Below w.heap.size w w1 ∧ w1.cell? ⟨NA, 0, none⟩ = some (.int .i64 s) ∧ w1.cell? ⟨NA, 1, none⟩ = some (.int .i64 rA) ∧ w1.cell? ⟨NA, 2, none⟩ = some ((Value.slice aoA tA.length cA)) ∧ w1.cell? ⟨NB, 0, none⟩ = some (.int .i64 s2) ∧ w1.cell? ⟨NB, 1, none⟩ = some (.int .i64 rB) ∧ w1.cell? ⟨NB, 2, none⟩ = some ((Value.slice aoB tB.length cB)) ∧ w.heap.size ≤ w1.heap.size := by
    rw [hW, hB, hA]
    exact ⟨Go.Joins.below_alloc3 _ _ _ _, cell_keep (Go.Joins.below_alloc2 _ _ _) (by simp), cell_keep (Go.Joins.below_alloc2 _ _ _) (by simp), cell_keep (Go.Joins.below_alloc2 _ _ _) (by simp), cell_keep (below1 _ _) (by simp), cell_keep (below1 _ _) (by simp), cell_keep (below1 _ _) (by simp), by simp <;> omega⟩
  have kT : w1.heap[NT]? = some (Obj.cells #[.int .i64 0, .int .i64 0, .slice none 0 0] 50) := by rw [hW]; exact FNew.heap_top (by rw [hT, hB, hA]; simp)
  have HNT : Hid (w.heap.size ≤ NT) := by simp only [Hid]; omega
  have HNX : Hid (NA = w.heap.size ∧ NB = NA + 1 ∧ NT = NB + 1) := ⟨hA, hB, hT⟩
  simp only [← hW, ← hA, ← hB, ← hT]
  clear hW hA hB hT
  go_wp2_with fail
  go_at_call 91
  refine (implValid (H1.out.keep st.1 (Nat.le_refl _))).mono ?_
  rw [HV1.out]
  rintro e w2 ⟨rfl, bel⟩
  replace st := next6_0 bel st
  replace kT := heap_keep bel kT
  clear bel
  go_wp2_with fail
  go_at_call 91
  refine (implValid (H2.out.keep st.1 (Nat.le_refl _))).mono ?_
  rw [HV2.out]
  rintro e w3 ⟨rfl, bel⟩
  replace st := next6_0 bel st
  replace kT := heap_keep bel kT
  clear bel
  have HB := hid st.1
  have y0 : w3.cell? ⟨NT, 0, none⟩ = some (.int .i64 0) := Go.Joins.cell_of_block kT 0
  have y1 : w3.cell? ⟨NT, 1, none⟩ = some (.int .i64 0) := Go.Joins.cell_of_block kT 1
  have y2 : w3.cell? ⟨NT, 2, none⟩ = some (.slice none 0 0) := Go.Joins.cell_of_block kT 2
  have g0 : w3.frozen? ⟨NT, 0, none⟩ = false := Go.Joins.unfrozen_of_block kT 0
  have g1 : w3.frozen? ⟨NT, 1, none⟩ = false := Go.Joins.unfrozen_of_block kT 1
  have g2 : w3.frozen? ⟨NT, 2, none⟩ = false := Go.Joins.unfrozen_of_block kT 2
  have HKx := hid kT
  clear kT
  go_wp2
  obtain ⟨W5, hW⟩ : ∃ W5, W5 = (((w3.setCell ⟨NT, 0, none⟩ (.int .i64 0)).setCell ⟨NT, 1, none⟩ (.int .i64 0)).setCell ⟨NT, 2, none⟩ (.slice none 0 0)) := ⟨_, rfl⟩
  have q0 := (Go.Joins.block_setCell (i := 2) (Go.Joins.block_setCell (i := 1) (Go.Joins.block_setCell (i := 0) HKx.out (.int .i64 0)) (.int .i64 0)) (.slice none 0 0))
  rw [← hW] at q0
  have z0 : W5.cell? ⟨NT, 0, none⟩ = some (.int .i64 0) := Go.Joins.cell_of_block q0 0
  have z1 : W5.cell? ⟨NT, 1, none⟩ = some (.int .i64 0) := Go.Joins.cell_of_block q0 1
  have z2 : W5.cell? ⟨NT, 2, none⟩ = some (.slice none 0 0) := Go.Joins.cell_of_block q0 2
  have B5 : Below w.heap.size w W5 := by
    have h1 := HNT.out
    rw [hW]
    exact ((HB.out.setCell (by simp; omega) _).setCell (by simp; omega) _).setCell (by simp; omega) _
  simp only [← hW]
  clear hW q0
  simp [bodyPost, results, Try.results60, go_sem, z0, z1, z2]
  exact B5

set_option maxHeartbeats 4000000 in
theorem implNoC {w : World} {s s2 rA rB : Int} {bA bB : Nat} {vA vB : Value} {tA tB : List Int} (hA : Rd w bA vA tA) (hB : Rd w bB vB tB) (hv : validB s rA tA = true) (hv2 : validB s2 rB tB = true) (hne : ¬ s = s2) :
    Calls Try.prog 60 #[ruleV s rA vA, ruleV s2 rB vB] w fun e w' => e = .returned (.tuple #[ruleV 0 0 (.slice none 0 0), .bool false]) ∧ Below w.heap.size w w' := by
  have HV1 := hid hv
  have HV2 := hid hv2
  have hneb : (s != s2) = true := by simpa using hne
  clear hv hv2 hne
  have H1 := hid hA
  have H2 := hid hB
  obtain ⟨aoA, cA, rfl, _, _, _⟩ := hA
  obtain ⟨aoB, cB, rfl, _, _, _⟩ := hB
  go_enter Try.func60, Try.ntmps60
  go_wp2_with fail
  obtain ⟨w1, hW⟩ : ∃ w1, w1 = ((w.alloc (Obj.cells #[.int .i64 s, .int .i64 rA, (Value.slice aoA tA.length cA)] 50)).alloc (Obj.cells #[.int .i64 s2, .int .i64 rB, (Value.slice aoB tB.length cB)] 50)).alloc (Obj.cells #[.int .i64 0, .int .i64 0, .slice none 0 0] 50) := ⟨_, rfl⟩
  obtain ⟨NA, hA⟩ : ∃ NA, NA = w.heap.size := ⟨_, rfl⟩
  obtain ⟨NB, hB⟩ : ∃ NB, NB = NA + 1 := ⟨_, rfl⟩
  obtain ⟨NT, hT⟩ : ∃ NT, NT = NB + 1 := ⟨_, rfl⟩
  have st : Below w.heap.size w w1 ∧ w1.cell? ⟨NA, 0, none⟩ = some (.int .i64 s) ∧ w1.cell? ⟨NA, 1, none⟩ = some (.int .i64 rA) ∧ w1.cell? ⟨NA, 2, none⟩ = some ((Value.slice aoA tA.length cA)) ∧ w1.cell? ⟨NB, 0, none⟩ = some (.int .i64 s2) ∧ w1.cell? ⟨NB, 1, none⟩ = some (.int .i64 rB) ∧ w1.cell? ⟨NB, 2, none⟩ = some ((Value.slice aoB tB.length cB)) ∧ w.heap.size ≤ w1.heap.size := by
    rw [hW, hB, hA]
    exact ⟨Go.Joins.below_alloc3 _ _ _ _, cell_keep (Go.Joins.below_alloc2 _ _ _) (by simp), cell_keep (Go.Joins.below_alloc2 _ _ _) (by simp), cell_keep (Go.Joins.below_alloc2 _ _ _) (by simp), cell_keep (below1 _ _) (by simp), cell_keep (below1 _ _) (by simp), cell_keep (below1 _ _) (by simp), by simp <;> omega⟩
  have kT : w1.heap[NT]? = some (Obj.cells #[.int .i64 0, .int .i64 0, .slice none 0 0] 50) := by rw [hW]; exact FNew.heap_top (by rw [hT, hB, hA]; simp)
  have HNT : Hid (w.heap.size ≤ NT) := by simp only [Hid]; omega
  have HNX : Hid (NA = w.heap.size ∧ NB = NA + 1 ∧ NT = NB + 1) := ⟨hA, hB, hT⟩
  simp only [← hW, ← hA, ← hB, ← hT]
  clear hW hA hB hT
  go_wp2_with fail
  go_at_call 91
  refine (implValid (H1.out.keep st.1 (Nat.le_refl _))).mono ?_
  rw [HV1.out]
  rintro e w2 ⟨rfl, bel⟩
  replace st := next6_0 bel st
  replace kT := heap_keep bel kT
  clear bel
  go_wp2_with fail
  go_at_call 91
  refine (implValid (H2.out.keep st.1 (Nat.le_refl _))).mono ?_
  rw [HV2.out]
  rintro e w3 ⟨rfl, bel⟩
  replace st := next6_0 bel st
  replace kT := heap_keep bel kT
  clear bel
  have HB := hid st.1
  have y0 : w3.cell? ⟨NT, 0, none⟩ = some (.int .i64 0) := Go.Joins.cell_of_block kT 0
  have y1 : w3.cell? ⟨NT, 1, none⟩ = some (.int .i64 0) := Go.Joins.cell_of_block kT 1
  have y2 : w3.cell? ⟨NT, 2, none⟩ = some (.slice none 0 0) := Go.Joins.cell_of_block kT 2
  have g0 : w3.frozen? ⟨NT, 0, none⟩ = false := Go.Joins.unfrozen_of_block kT 0
  have g1 : w3.frozen? ⟨NT, 1, none⟩ = false := Go.Joins.unfrozen_of_block kT 1
  have g2 : w3.frozen? ⟨NT, 2, none⟩ = false := Go.Joins.unfrozen_of_block kT 2
  have HKx := hid kT
  clear kT
  go_wp2
  obtain ⟨W5, hW⟩ : ∃ W5, W5 = (((w3.setCell ⟨NT, 0, none⟩ (.int .i64 0)).setCell ⟨NT, 1, none⟩ (.int .i64 0)).setCell ⟨NT, 2, none⟩ (.slice none 0 0)) := ⟨_, rfl⟩
  have q0 := (Go.Joins.block_setCell (i := 2) (Go.Joins.block_setCell (i := 1) (Go.Joins.block_setCell (i := 0) HKx.out (.int .i64 0)) (.int .i64 0)) (.slice none 0 0))
  rw [← hW] at q0
  have z0 : W5.cell? ⟨NT, 0, none⟩ = some (.int .i64 0) := Go.Joins.cell_of_block q0 0
  have z1 : W5.cell? ⟨NT, 1, none⟩ = some (.int .i64 0) := Go.Joins.cell_of_block q0 1
  have z2 : W5.cell? ⟨NT, 2, none⟩ = some (.slice none 0 0) := Go.Joins.cell_of_block q0 2
  have B5 : Below w.heap.size w W5 := by
    have h1 := HNT.out
    rw [hW]
    exact ((HB.out.setCell (by simp; omega) _).setCell (by simp; omega) _).setCell (by simp; omega) _
  simp only [← hW]
  clear hW q0
  simp [bodyPost, results, Try.results60, go_sem, z0, z1, z2]
  exact B5

set_option maxHeartbeats 4000000 in
theorem implNoD {w : World} {s rA rB : Int} {bA bB : Nat} {vA vB : Value} {tA tB : List Int} (hA : Rd w bA vA tA) (hB : Rd w bB vB tB) (hv : validB s rA tA = true) (hv2 : validB s rB tB = true) (h3 : ¬ rA + rB ≤ 2) :
    Calls Try.prog 60 #[ruleV s rA vA, ruleV s rB vB] w fun e w' => e = .returned (.tuple #[ruleV 0 0 (.slice none 0 0), .bool false]) ∧ Below w.heap.size w w' := by
  have HV1 := hid hv
  have HV2 := hid hv2
  obtain ⟨_, hr1, _, _⟩ := Al.valid_parts hv
  obtain ⟨_, hr2, _, _⟩ := Al.valid_parts hv2
  have hw : IntKind.i64.wrap (rA + rB) = rA + rB := by rw [IntKind.wrap_i64]; omega
  have hss : (s != s) = false := by simp
  have hd : decide (2 < rA + rB) = true := by simp; omega
  clear hv hv2 h3 hr1 hr2
  have H1 := hid hA
  have H2 := hid hB
  obtain ⟨aoA, cA, rfl, _, _, _⟩ := hA
  obtain ⟨aoB, cB, rfl, _, _, _⟩ := hB
  go_enter Try.func60, Try.ntmps60
  go_wp2_with fail
  obtain ⟨w1, hW⟩ : ∃ w1, w1 = ((w.alloc (Obj.cells #[.int .i64 s, .int .i64 rA, (Value.slice aoA tA.length cA)] 50)).alloc (Obj.cells #[.int .i64 s, .int .i64 rB, (Value.slice aoB tB.length cB)] 50)).alloc (Obj.cells #[.int .i64 0, .int .i64 0, .slice none 0 0] 50) := ⟨_, rfl⟩
  obtain ⟨NA, hA⟩ : ∃ NA, NA = w.heap.size := ⟨_, rfl⟩
  obtain ⟨NB, hB⟩ : ∃ NB, NB = NA + 1 := ⟨_, rfl⟩
  obtain ⟨NT, hT⟩ : ∃ NT, NT = NB + 1 := ⟨_, rfl⟩
  have st : Below w.heap.size w w1 ∧ w1.cell? ⟨NA, 0, none⟩ = some (.int .i64 s) ∧ w1.cell? ⟨NA, 1, none⟩ = some (.int .i64 rA) ∧ w1.cell? ⟨NA, 2, none⟩ = some ((Value.slice aoA tA.length cA)) ∧ w1.cell? ⟨NB, 0, none⟩ = some (.int .i64 s) ∧ w1.cell? ⟨NB, 1, none⟩ = some (.int .i64 rB) ∧ w1.cell? ⟨NB, 2, none⟩ = some ((Value.slice aoB tB.length cB)) ∧ w.heap.size ≤ w1.heap.size := by
    rw [hW, hB, hA]
    exact ⟨Go.Joins.below_alloc3 _ _ _ _, cell_keep (Go.Joins.below_alloc2 _ _ _) (by simp), cell_keep (Go.Joins.below_alloc2 _ _ _) (by simp), cell_keep (Go.Joins.below_alloc2 _ _ _) (by simp), cell_keep (below1 _ _) (by simp), cell_keep (below1 _ _) (by simp), cell_keep (below1 _ _) (by simp), by simp <;> omega⟩
  have kT : w1.heap[NT]? = some (Obj.cells #[.int .i64 0, .int .i64 0, .slice none 0 0] 50) := by rw [hW]; exact FNew.heap_top (by rw [hT, hB, hA]; simp)
  have HNT : Hid (w.heap.size ≤ NT) := by simp only [Hid]; omega
  have HNX : Hid (NA = w.heap.size ∧ NB = NA + 1 ∧ NT = NB + 1) := ⟨hA, hB, hT⟩
  simp only [← hW, ← hA, ← hB, ← hT]
  clear hW hA hB hT
  go_wp2_with fail
  go_at_call 91
  refine (implValid (H1.out.keep st.1 (Nat.le_refl _))).mono ?_
  rw [HV1.out]
  rintro e w2 ⟨rfl, bel⟩
  replace st := next6_0 bel st
  replace kT := heap_keep bel kT
  clear bel
  go_wp2_with fail
  go_at_call 91
  refine (implValid (H2.out.keep st.1 (Nat.le_refl _))).mono ?_
  rw [HV2.out]
  rintro e w3 ⟨rfl, bel⟩
  replace st := next6_0 bel st
  replace kT := heap_keep bel kT
  clear bel
  have HB := hid st.1
  have y0 : w3.cell? ⟨NT, 0, none⟩ = some (.int .i64 0) := Go.Joins.cell_of_block kT 0
  have y1 : w3.cell? ⟨NT, 1, none⟩ = some (.int .i64 0) := Go.Joins.cell_of_block kT 1
  have y2 : w3.cell? ⟨NT, 2, none⟩ = some (.slice none 0 0) := Go.Joins.cell_of_block kT 2
  have g0 : w3.frozen? ⟨NT, 0, none⟩ = false := Go.Joins.unfrozen_of_block kT 0
  have g1 : w3.frozen? ⟨NT, 1, none⟩ = false := Go.Joins.unfrozen_of_block kT 1
  have g2 : w3.frozen? ⟨NT, 2, none⟩ = false := Go.Joins.unfrozen_of_block kT 2
  have HKx := hid kT
  clear kT
  go_wp2
  obtain ⟨W5, hW⟩ : ∃ W5, W5 = (((w3.setCell ⟨NT, 0, none⟩ (.int .i64 0)).setCell ⟨NT, 1, none⟩ (.int .i64 0)).setCell ⟨NT, 2, none⟩ (.slice none 0 0)) := ⟨_, rfl⟩
  have q0 := (Go.Joins.block_setCell (i := 2) (Go.Joins.block_setCell (i := 1) (Go.Joins.block_setCell (i := 0) HKx.out (.int .i64 0)) (.int .i64 0)) (.slice none 0 0))
  rw [← hW] at q0
  have z0 : W5.cell? ⟨NT, 0, none⟩ = some (.int .i64 0) := Go.Joins.cell_of_block q0 0
  have z1 : W5.cell? ⟨NT, 1, none⟩ = some (.int .i64 0) := Go.Joins.cell_of_block q0 1
  have z2 : W5.cell? ⟨NT, 2, none⟩ = some (.slice none 0 0) := Go.Joins.cell_of_block q0 2
  have B5 : Below w.heap.size w W5 := by
    have h1 := HNT.out
    rw [hW]
    exact ((HB.out.setCell (by simp; omega) _).setCell (by simp; omega) _).setCell (by simp; omega) _
  simp only [← hW]
  clear hW q0
  simp [bodyPost, results, Try.results60, go_sem, z0, z1, z2]
  exact B5

set_option maxHeartbeats 8000000 in
theorem tellJoin {w : World} {s r : Int} {M L : Nat} (hs : 2 ≤ s ∧ s ≤ 3) (hr : 0 ≤ r ∧ r ≤ 2) (hM : (M : Int) = s ^ (2 * r + 1).toNat) (hL : L = (2 * r + 1).toNat) {k0 k1 k2 k3 : Value} (T : Nat → Int)
    (h : ∀ k, k < M → ∀ (wr : World) (b : Nat), Below w.heap.size w wr → w.heap.size ≤ b → Own 2 wr b (.slice (some ⟨b, 0, none⟩) L L) (dig s k L) →
      Calls Try.prog 121 #[.slice (some ⟨b, 0, none⟩) L L, k0, k1, k2, k3] wr fun e w' => e = .returned (.int .i64 (T k)) ∧ Below b wr w') :
    Calls Try.prog 120 #[shapeV s r, .func (.func 121) #[] #[k0, k1, k2, k3]] w fun e w' => ∃ b', e = .returned (ruleV s r (.slice (some ⟨b', 0, none⟩) M M)) ∧
      Own 2 w' b' (.slice (some ⟨b', 0, none⟩) M M) (tab T M) ∧ w.heap.size ≤ b' ∧ Below w.heap.size w w' := by
  have HS := hid hs
  have HR := hid hr
  have H := hid h
  have HLL := hid hL
  have HM := hid hM
  have hM2 : 1 ≤ M ∧ M ≤ 243 := by
    have := pow_bd hs (show (2 * r + 1).toNat ≤ 5 by omega)
    omega
  obtain ⟨m1, m2⟩ := hM2
  have HW : Hid (0 ≤ 2 * r + 1 ∧ 2 * r + 1 ≤ 64) := by simp only [Hid]; omega
  have hmk := run_make_row' (P := Try.prog) 43 2 (.int .i64 0) 8 Try.underlying43 infoI rfl .i64 .i64 M (by omega) (by omega)
  have HMk := hid hmk
  clear h hs hr hM hL
  go_enter Try.func120, Try.ntmps120
  go_wp2_with fail
  obtain ⟨w1, hW⟩ : ∃ w1, w1 = (w.alloc (Obj.cells #[.int .i64 s, .int .i64 r] 116)).alloc (Obj.cells #[.int .i64 0, .int .i64 0, .slice none 0 0] 50) := ⟨_, rfl⟩
  obtain ⟨NS, hN⟩ : ∃ NS, NS = w.heap.size := ⟨_, rfl⟩
  have st : Below w.heap.size w w1 ∧ w1.cell? ⟨NS, 0, none⟩ = some (.int .i64 s) ∧ w1.cell? ⟨NS, 1, none⟩ = some (.int .i64 r) ∧ w.heap.size ≤ w1.heap.size := by
    rw [hW, hN]
    exact ⟨Go.Joins.below_alloc2 _ _ _, by simp, by simp, by simp; omega⟩
  have kb : w1.heap[NS + 1]? = some (Obj.cells #[.int .i64 0, .int .i64 0, .slice none 0 0] 50) := by
    rw [hW, hN]
    have := heap_alloc_new (w.alloc (Obj.cells #[.int .i64 s, .int .i64 r] 116)) (Obj.cells #[.int .i64 0, .int .i64 0, .slice none 0 0] 50)
    simpa using this
  have hsz : w1.heap.size = NS + 2 := by rw [hW, hN]; simp
  have HNE := hid hN
  simp only [← hW, ← hN]
  clear hW hN
  go_at_call 99
  refine (kinds HS.out HR.out).mono ?_
  rw [← HM.out]
  rintro e w2 ⟨rfl, bel⟩
  replace kb := (bel.block _ (by omega)).trans kb
  replace st := next2_0 bel st
  have hsz2 := bel.size
  clear bel
  have hmk := HMk.out
  go_wp2_with fail
  have HKB := hid kb
  have ST := hid st
  obtain ⟨b0, hb0⟩ : ∃ b0, b0 = w2.heap.size := ⟨_, rfl⟩
  have HB0 := hid hb0
  have HNS : Hid (NS < b0) := by simp only [Hid]; omega
  have HN1 : Hid (NS + 1 < b0) := by simp only [Hid]; omega
  have HN0 : Hid (w.heap.size ≤ b0) := by simp only [Hid]; rw [hb0]; exact st.2.2.2
  simp only [← hb0]
  have hb0' : w2.heap.size = b0 := hb0.symm
  have hown0 : Own 2 (w2.alloc (.cells (madeCells #[.int .i64 0] M) 2)) b0 (.slice (some ⟨b0, 0, none⟩) M M) (List.replicate M 0) := by
    have := Own.made 2 w2 M (by unfold maxLen; omega)
    rw [hb0'] at this; exact this
  have hbel0 : Below b0 w2 (w2.alloc (.cells (madeCells #[.int .i64 0] M) 2)) := (Below.refl _ _).alloc (by omega) _
  clear kb st hb0 hsz hsz2 hmk
  go_loopw [6, 12] (fun j t wr => ∃ k : Nat, k ≤ M ∧ t = .int .i64 k ∧ Own 2 wr b0 (.slice (some ⟨b0, 0, none⟩) M M) (tab T k ++ List.replicate (M - k) 0) ∧ Below b0 w2 wr) (fun _ t _ => M - (intOf t).toNat)
  case atStart => exact ⟨0, Nat.zero_le _, rfl, by simpa [tab] using hown0, hbel0⟩
  case round =>
    clear hown0 hbel0
    obtain ⟨k, hk, rfl, hown, hbel⟩ := hrel
    by_cases hlt : k < M
    · have hki : (k : Int) < (M : Int) := by omega
      have s2 := nextAt2 hbel HNS.out HN0.out ST.out
      have HLT : Hid (b0 ≤ wr.heap.size) := by simp only [Hid]; exact Nat.le_of_lt hown.lt
      have HL1 : Hid (b0 < wr.heap.size) := hown.lt
      have HB := hid hbel
      have HO := hid hown
      clear hbel hown
      go_wp2_with fail
      refine wp_region_held_drew (S := (fun ww => Below w.heap.size w ww ∧ ww.cell? ⟨NS, 0, none⟩ = some (.int .i64 s) ∧ ww.cell? ⟨NS, 1, none⟩ = some (.int .i64 r) ∧ w.heap.size ≤ ww.heap.size)) (by kernel_rfl) ?_ (fun hHeld => ?_)
      · ((try dsimp only); exact drew2_0 s2)
      first | (refine wpAnyH_take (i := 0) (v := ?_) rfl ?_ ?_ ?_ (fun _ _ _ h => h) (Or.inl ⟨?_, ?_⟩) ?_ ?_; rotate_left 1; (focus decide +kernel); (focus decide +kernel); (focus decide +kernel); (focus rfl); (focus (intro w hSw; (try dsimp only at hSw); go_simp; (try (with_reducible rfl)); done)); (focus assumption); (try simp only [Act.put, List.setIfInBounds_toArray, List.set_cons_zero, List.set_cons_succ, List.getElem_toArray, List.getElem_cons_succ, List.getElem_cons_zero])) | (refine wpAnyH_take (i := 0) (v := undef) rfl ?_ ?_ ?_ (fun _ _ _ h => h) (Or.inr ⟨?_, rfl⟩) ?_ ?_; (focus decide +kernel); (focus decide +kernel); (focus decide +kernel); (focus rfl); (focus assumption); (try simp only [Act.put, List.setIfInBounds_toArray, List.set_cons_zero, List.set_cons_succ, List.getElem_toArray, List.getElem_cons_succ, List.getElem_cons_zero])) | skip
      first | (refine wpAnyH_take (i := 1) (v := ?_) rfl ?_ ?_ ?_ (fun _ _ _ h => h) (Or.inl ⟨?_, ?_⟩) ?_ ?_; rotate_left 1; (focus decide +kernel); (focus decide +kernel); (focus decide +kernel); (focus rfl); (focus (intro w hSw; (try dsimp only at hSw); go_simp; (try (with_reducible rfl)); done)); (focus assumption); (try simp only [Act.put, List.setIfInBounds_toArray, List.set_cons_zero, List.set_cons_succ, List.getElem_toArray, List.getElem_cons_succ, List.getElem_cons_zero])) | (refine wpAnyH_take (i := 1) (v := undef) rfl ?_ ?_ ?_ (fun _ _ _ h => h) (Or.inr ⟨?_, rfl⟩) ?_ ?_; (focus decide +kernel); (focus decide +kernel); (focus decide +kernel); (focus rfl); (focus assumption); (try simp only [Act.put, List.setIfInBounds_toArray, List.set_cons_zero, List.set_cons_succ, List.getElem_toArray, List.getElem_cons_succ, List.getElem_cons_zero])) | skip
      first | (refine wpAnyH_take (i := 2) (v := ?_) rfl ?_ ?_ ?_ (fun _ _ _ h => h) (Or.inl ⟨?_, ?_⟩) ?_ ?_; rotate_left 1; (focus decide +kernel); (focus decide +kernel); (focus decide +kernel); (focus rfl); (focus (intro w hSw; (try dsimp only at hSw); go_simp; (try (with_reducible rfl)); done)); (focus assumption); (try simp only [Act.put, List.setIfInBounds_toArray, List.set_cons_zero, List.set_cons_succ, List.getElem_toArray, List.getElem_cons_succ, List.getElem_cons_zero])) | (refine wpAnyH_take (i := 2) (v := undef) rfl ?_ ?_ ?_ (fun _ _ _ h => h) (Or.inr ⟨?_, rfl⟩) ?_ ?_; (focus decide +kernel); (focus decide +kernel); (focus decide +kernel); (focus rfl); (focus assumption); (try simp only [Act.put, List.setIfInBounds_toArray, List.set_cons_zero, List.set_cons_succ, List.getElem_toArray, List.getElem_cons_succ, List.getElem_cons_zero])) | skip
      first | (refine wpAnyH_take (i := 3) (v := ?_) rfl ?_ ?_ ?_ (fun _ _ _ h => h) (Or.inl ⟨?_, ?_⟩) ?_ ?_; rotate_left 1; (focus decide +kernel); (focus decide +kernel); (focus decide +kernel); (focus rfl); (focus (intro w hSw; (try dsimp only at hSw); go_simp; (try (with_reducible rfl)); done)); (focus assumption); (try simp only [Act.put, List.setIfInBounds_toArray, List.set_cons_zero, List.set_cons_succ, List.getElem_toArray, List.getElem_cons_succ, List.getElem_cons_zero])) | (refine wpAnyH_take (i := 3) (v := undef) rfl ?_ ?_ ?_ (fun _ _ _ h => h) (Or.inr ⟨?_, rfl⟩) ?_ ?_; (focus decide +kernel); (focus decide +kernel); (focus decide +kernel); (focus rfl); (focus assumption); (try simp only [Act.put, List.setIfInBounds_toArray, List.set_cons_zero, List.set_cons_succ, List.getElem_toArray, List.getElem_cons_succ, List.getElem_cons_zero])) | skip
      first | (refine wpAnyH_take (i := 4) (v := ?_) rfl ?_ ?_ ?_ (fun _ _ _ h => h) (Or.inl ⟨?_, ?_⟩) ?_ ?_; rotate_left 1; (focus decide +kernel); (focus decide +kernel); (focus decide +kernel); (focus rfl); (focus (intro w hSw; (try dsimp only at hSw); go_simp; (try (with_reducible rfl)); done)); (focus assumption); (try simp only [Act.put, List.setIfInBounds_toArray, List.set_cons_zero, List.set_cons_succ, List.getElem_toArray, List.getElem_cons_succ, List.getElem_cons_zero])) | (refine wpAnyH_take (i := 4) (v := undef) rfl ?_ ?_ ?_ (fun _ _ _ h => h) (Or.inr ⟨?_, rfl⟩) ?_ ?_; (focus decide +kernel); (focus decide +kernel); (focus decide +kernel); (focus rfl); (focus assumption); (try simp only [Act.put, List.setIfInBounds_toArray, List.set_cons_zero, List.set_cons_succ, List.getElem_toArray, List.getElem_cons_succ, List.getElem_cons_zero])) | skip
      first | (refine wpAnyH_take (i := 5) (v := ?_) rfl ?_ ?_ ?_ (fun _ _ _ h => h) (Or.inl ⟨?_, ?_⟩) ?_ ?_; rotate_left 1; (focus decide +kernel); (focus decide +kernel); (focus decide +kernel); (focus rfl); (focus (intro w hSw; (try dsimp only at hSw); go_simp; (try (with_reducible rfl)); done)); (focus assumption); (try simp only [Act.put, List.setIfInBounds_toArray, List.set_cons_zero, List.set_cons_succ, List.getElem_toArray, List.getElem_cons_succ, List.getElem_cons_zero])) | (refine wpAnyH_take (i := 5) (v := undef) rfl ?_ ?_ ?_ (fun _ _ _ h => h) (Or.inr ⟨?_, rfl⟩) ?_ ?_; (focus decide +kernel); (focus decide +kernel); (focus decide +kernel); (focus rfl); (focus assumption); (try simp only [Act.put, List.setIfInBounds_toArray, List.set_cons_zero, List.set_cons_succ, List.getElem_toArray, List.getElem_cons_succ, List.getElem_cons_zero])) | skip
      first | (refine wpAnyH_take (i := 6) (v := ?_) rfl ?_ ?_ ?_ (fun _ _ _ h => h) (Or.inl ⟨?_, ?_⟩) ?_ ?_; rotate_left 1; (focus decide +kernel); (focus decide +kernel); (focus decide +kernel); (focus rfl); (focus (intro w hSw; (try dsimp only at hSw); go_simp; (try (with_reducible rfl)); done)); (focus assumption); (try simp only [Act.put, List.setIfInBounds_toArray, List.set_cons_zero, List.set_cons_succ, List.getElem_toArray, List.getElem_cons_succ, List.getElem_cons_zero])) | (refine wpAnyH_take (i := 6) (v := undef) rfl ?_ ?_ ?_ (fun _ _ _ h => h) (Or.inr ⟨?_, rfl⟩) ?_ ?_; (focus decide +kernel); (focus decide +kernel); (focus decide +kernel); (focus rfl); (focus assumption); (try simp only [Act.put, List.setIfInBounds_toArray, List.set_cons_zero, List.set_cons_succ, List.getElem_toArray, List.getElem_cons_succ, List.getElem_cons_zero])) | skip
      first | (refine wpAnyH_take (i := 10) (v := ?_) rfl ?_ ?_ ?_ (fun _ _ _ h => h) (Or.inl ⟨?_, ?_⟩) ?_ ?_; rotate_left 1; (focus decide +kernel); (focus decide +kernel); (focus decide +kernel); (focus rfl); (focus (intro w hSw; (try dsimp only at hSw); go_simp; (try (with_reducible rfl)); done)); (focus assumption); (try simp only [Act.put, List.setIfInBounds_toArray, List.set_cons_zero, List.set_cons_succ, List.getElem_toArray, List.getElem_cons_succ, List.getElem_cons_zero])) | (refine wpAnyH_take (i := 10) (v := undef) rfl ?_ ?_ ?_ (fun _ _ _ h => h) (Or.inr ⟨?_, rfl⟩) ?_ ?_; (focus decide +kernel); (focus decide +kernel); (focus decide +kernel); (focus rfl); (focus assumption); (try simp only [Act.put, List.setIfInBounds_toArray, List.set_cons_zero, List.set_cons_succ, List.getElem_toArray, List.getElem_cons_succ, List.getElem_cons_zero])) | skip
      first | (refine wpAnyH_take (i := 11) (v := ?_) rfl ?_ ?_ ?_ (fun _ _ _ h => h) (Or.inl ⟨?_, ?_⟩) ?_ ?_; rotate_left 1; (focus decide +kernel); (focus decide +kernel); (focus decide +kernel); (focus rfl); (focus (intro w hSw; (try dsimp only at hSw); go_simp; (try (with_reducible rfl)); done)); (focus assumption); (try simp only [Act.put, List.setIfInBounds_toArray, List.set_cons_zero, List.set_cons_succ, List.getElem_toArray, List.getElem_cons_succ, List.getElem_cons_zero])) | (refine wpAnyH_take (i := 11) (v := undef) rfl ?_ ?_ ?_ (fun _ _ _ h => h) (Or.inr ⟨?_, rfl⟩) ?_ ?_; (focus decide +kernel); (focus decide +kernel); (focus decide +kernel); (focus rfl); (focus assumption); (try simp only [Act.put, List.setIfInBounds_toArray, List.set_cons_zero, List.set_cons_succ, List.getElem_toArray, List.getElem_cons_succ, List.getElem_cons_zero])) | skip
      first | (refine wpAnyH_take (i := 7) (v := undef) rfl ?_ ?_ ?_ (fun _ _ _ h => h) (Or.inr ⟨?_, rfl⟩) ?_ ?_; (focus decide +kernel); (focus decide +kernel); (focus decide +kernel); (focus rfl); (focus assumption); (try simp only [Act.put, List.setIfInBounds_toArray, List.set_cons_zero, List.set_cons_succ, List.getElem_toArray, List.getElem_cons_succ, List.getElem_cons_zero])) | (refine wpAnyH_ready (rs := [7]) ?_ (by simp) ?_; (focus decide +kernel); refine AllReadyH.cons rfl (fun K hK => ?_) AllReadyH.nil; go_simp; (go_at_call 101; refine (wide HR.out).mono ?_; rintro e w4 ⟨rfl, bel⟩; have o4 : Own 2 wr.drew b0 (.slice (some ⟨b0, 0, none⟩) M M) (tab T k ++ List.replicate (M - k) 0) := HO.out; replace o4 := o4.keep bel; have bb := (Below.refl b0 wr).drew; replace bb := bb.trans (bel.mono HLT.out); have bb0 := bb.size); refine hK.out _ _ ?_ (fun hHeld => ?_); ((try dsimp only); first | exact next2_0 bel hHeld | exact nextAt2 bel (Nat.lt_trans HNS.out lb) (Nat.le_trans HN0.out (Nat.le_of_lt lb)) hHeld); clear hK K; (try simp only [Act.put, List.setIfInBounds_toArray, List.set_cons_zero, List.set_cons_succ, List.getElem_toArray, List.getElem_cons_succ, List.getElem_cons_zero]))
      first | (refine wpAnyH_take (i := 10) (v := ?_) rfl ?_ ?_ ?_ (fun _ _ _ h => h) (Or.inl ⟨?_, ?_⟩) ?_ ?_; rotate_left 1; (focus decide +kernel); (focus decide +kernel); (focus decide +kernel); (focus rfl); (focus (intro w hSw; (try dsimp only at hSw); go_simp; (try (with_reducible rfl)); done)); (focus assumption); (try simp only [Act.put, List.setIfInBounds_toArray, List.set_cons_zero, List.set_cons_succ, List.getElem_toArray, List.getElem_cons_succ, List.getElem_cons_zero])) | (refine wpAnyH_take (i := 10) (v := undef) rfl ?_ ?_ ?_ (fun _ _ _ h => h) (Or.inr ⟨?_, rfl⟩) ?_ ?_; (focus decide +kernel); (focus decide +kernel); (focus decide +kernel); (focus rfl); (focus assumption); (try simp only [Act.put, List.setIfInBounds_toArray, List.set_cons_zero, List.set_cons_succ, List.getElem_toArray, List.getElem_cons_succ, List.getElem_cons_zero])) | skip
      first | (refine wpAnyH_take (i := 11) (v := ?_) rfl ?_ ?_ ?_ (fun _ _ _ h => h) (Or.inl ⟨?_, ?_⟩) ?_ ?_; rotate_left 1; (focus decide +kernel); (focus decide +kernel); (focus decide +kernel); (focus rfl); (focus (intro w hSw; (try dsimp only at hSw); go_simp; (try (with_reducible rfl)); done)); (focus assumption); (try simp only [Act.put, List.setIfInBounds_toArray, List.set_cons_zero, List.set_cons_succ, List.getElem_toArray, List.getElem_cons_succ, List.getElem_cons_zero])) | (refine wpAnyH_take (i := 11) (v := undef) rfl ?_ ?_ ?_ (fun _ _ _ h => h) (Or.inr ⟨?_, rfl⟩) ?_ ?_; (focus decide +kernel); (focus decide +kernel); (focus decide +kernel); (focus rfl); (focus assumption); (try simp only [Act.put, List.setIfInBounds_toArray, List.set_cons_zero, List.set_cons_succ, List.getElem_toArray, List.getElem_cons_succ, List.getElem_cons_zero])) | skip
      first | (refine wpAnyH_take (i := 8) (v := undef) rfl ?_ ?_ ?_ (fun _ _ _ h => h) (Or.inr ⟨?_, rfl⟩) ?_ ?_; (focus decide +kernel); (focus decide +kernel); (focus decide +kernel); (focus rfl); (focus assumption); (try simp only [Act.put, List.setIfInBounds_toArray, List.set_cons_zero, List.set_cons_succ, List.getElem_toArray, List.getElem_cons_succ, List.getElem_cons_zero])) | (refine wpAnyH_ready (rs := [8]) ?_ (by simp) ?_; (focus decide +kernel); refine AllReadyH.cons rfl (fun K hK => ?_) AllReadyH.nil; go_simp; (go_at_call 159; refine (implDigits HS.out (by omega) HW.out).mono ?_; rw [dig_length, ← HLL.out]; rintro e w5 ⟨bd, rfl, od, lo, bel⟩; replace o4 := o4.keep bel; have l4 := Nat.le_trans HLT.out bb.size; replace bb := bb.trans (bel.mono l4); have b04 := Nat.lt_of_lt_of_le HL1.out bb0); refine hK.out _ _ ?_ (fun hHeld => ?_); ((try dsimp only); first | exact next2_0 bel hHeld | exact nextAt2 bel (Nat.lt_trans HNS.out lb) (Nat.le_trans HN0.out (Nat.le_of_lt lb)) hHeld); clear hK K; (try simp only [Act.put, List.setIfInBounds_toArray, List.set_cons_zero, List.set_cons_succ, List.getElem_toArray, List.getElem_cons_succ, List.getElem_cons_zero]))
      first | (refine wpAnyH_take (i := 10) (v := ?_) rfl ?_ ?_ ?_ (fun _ _ _ h => h) (Or.inl ⟨?_, ?_⟩) ?_ ?_; rotate_left 1; (focus decide +kernel); (focus decide +kernel); (focus decide +kernel); (focus rfl); (focus (intro w hSw; (try dsimp only at hSw); go_simp; (try (with_reducible rfl)); done)); (focus assumption); (try simp only [Act.put, List.setIfInBounds_toArray, List.set_cons_zero, List.set_cons_succ, List.getElem_toArray, List.getElem_cons_succ, List.getElem_cons_zero])) | (refine wpAnyH_take (i := 10) (v := undef) rfl ?_ ?_ ?_ (fun _ _ _ h => h) (Or.inr ⟨?_, rfl⟩) ?_ ?_; (focus decide +kernel); (focus decide +kernel); (focus decide +kernel); (focus rfl); (focus assumption); (try simp only [Act.put, List.setIfInBounds_toArray, List.set_cons_zero, List.set_cons_succ, List.getElem_toArray, List.getElem_cons_succ, List.getElem_cons_zero])) | skip
      first | (refine wpAnyH_take (i := 11) (v := ?_) rfl ?_ ?_ ?_ (fun _ _ _ h => h) (Or.inl ⟨?_, ?_⟩) ?_ ?_; rotate_left 1; (focus decide +kernel); (focus decide +kernel); (focus decide +kernel); (focus rfl); (focus (intro w hSw; (try dsimp only at hSw); go_simp; (try (with_reducible rfl)); done)); (focus assumption); (try simp only [Act.put, List.setIfInBounds_toArray, List.set_cons_zero, List.set_cons_succ, List.getElem_toArray, List.getElem_cons_succ, List.getElem_cons_zero])) | (refine wpAnyH_take (i := 11) (v := undef) rfl ?_ ?_ ?_ (fun _ _ _ h => h) (Or.inr ⟨?_, rfl⟩) ?_ ?_; (focus decide +kernel); (focus decide +kernel); (focus decide +kernel); (focus rfl); (focus assumption); (try simp only [Act.put, List.setIfInBounds_toArray, List.set_cons_zero, List.set_cons_succ, List.getElem_toArray, List.getElem_cons_succ, List.getElem_cons_zero])) | skip
      first | (refine wpAnyH_take (i := 9) (v := undef) rfl ?_ ?_ ?_ (fun _ _ _ h => h) (Or.inr ⟨?_, rfl⟩) ?_ ?_; (focus decide +kernel); (focus decide +kernel); (focus decide +kernel); (focus rfl); (focus assumption); (try simp only [Act.put, List.setIfInBounds_toArray, List.set_cons_zero, List.set_cons_succ, List.getElem_toArray, List.getElem_cons_succ, List.getElem_cons_zero])) | (refine wpAnyH_ready (rs := [9]) ?_ (by simp) ?_; (focus decide +kernel); refine AllReadyH.cons rfl (fun K hK => ?_) AllReadyH.nil; go_simp; (have hA := H.out k hlt w5 bd (And.left hHeld) (Nat.le_trans HN0.out (Nat.le_trans l4 lo)) od; go_at_call 121; refine hA.mono ?_; clear hA; rintro e w6 ⟨rfl, bel⟩; have lb := Nat.lt_of_lt_of_le b04 lo; replace o4 := o4.keepAt bel lb; replace bb := bb.trans (bel.mono (Nat.le_of_lt lb))); refine hK.out _ _ ?_ (fun hHeld => ?_); ((try dsimp only); first | exact next2_0 bel hHeld | exact nextAt2 bel (Nat.lt_trans HNS.out lb) (Nat.le_trans HN0.out (Nat.le_of_lt lb)) hHeld); clear hK K; (try simp only [Act.put, List.setIfInBounds_toArray, List.set_cons_zero, List.set_cons_succ, List.getElem_toArray, List.getElem_cons_succ, List.getElem_cons_zero]))
      first | (refine wpAnyH_take (i := 10) (v := ?_) rfl ?_ ?_ ?_ (fun _ _ _ h => h) (Or.inl ⟨?_, ?_⟩) ?_ ?_; rotate_left 1; (focus decide +kernel); (focus decide +kernel); (focus decide +kernel); (focus rfl); (focus (intro w hSw; (try dsimp only at hSw); go_simp; (try (with_reducible rfl)); done)); (focus assumption); (try simp only [Act.put, List.setIfInBounds_toArray, List.set_cons_zero, List.set_cons_succ, List.getElem_toArray, List.getElem_cons_succ, List.getElem_cons_zero])) | (refine wpAnyH_take (i := 10) (v := undef) rfl ?_ ?_ ?_ (fun _ _ _ h => h) (Or.inr ⟨?_, rfl⟩) ?_ ?_; (focus decide +kernel); (focus decide +kernel); (focus decide +kernel); (focus rfl); (focus assumption); (try simp only [Act.put, List.setIfInBounds_toArray, List.set_cons_zero, List.set_cons_succ, List.getElem_toArray, List.getElem_cons_succ, List.getElem_cons_zero])) | skip
      first | (refine wpAnyH_take (i := 11) (v := ?_) rfl ?_ ?_ ?_ (fun _ _ _ h => h) (Or.inl ⟨?_, ?_⟩) ?_ ?_; rotate_left 1; (focus decide +kernel); (focus decide +kernel); (focus decide +kernel); (focus rfl); (focus (intro w hSw; (try dsimp only at hSw); go_simp; (try (with_reducible rfl)); done)); (focus assumption); (try simp only [Act.put, List.setIfInBounds_toArray, List.set_cons_zero, List.set_cons_succ, List.getElem_toArray, List.getElem_cons_succ, List.getElem_cons_zero])) | (refine wpAnyH_take (i := 11) (v := undef) rfl ?_ ?_ ?_ (fun _ _ _ h => h) (Or.inr ⟨?_, rfl⟩) ?_ ?_; (focus decide +kernel); (focus decide +kernel); (focus decide +kernel); (focus rfl); (focus assumption); (try simp only [Act.put, List.setIfInBounds_toArray, List.set_cons_zero, List.set_cons_succ, List.getElem_toArray, List.getElem_cons_succ, List.getElem_cons_zero])) | skip
      have hlen : (tab T k ++ List.replicate (M - k) 0).length = M := by simp [tab_length]; omega
      have hox := o4.cell (i := k) (by omega)
      have hof := o4.free k
      have HO6 := hid o4
      have HB6 := hid bb
      clear o4 bb hlen od lb
      refine wpAnyH_ready (rs := [11]) ?_ (by simp) ?_
      · decide +kernel
      refine AllReadyH.cons rfl (fun K hK => ?_) AllReadyH.nil
      go_simp
      refine hK.out _ _ ?_ (fun hHeld2 => ?_)
      · (try dsimp only); exact set2 HN0.out HNS.out hHeld
      clear hK K
      refine wpAnyH_done (by kernel_rfl) ?_ _
      clear s2
      go_wp2
      go_roundw
      case rel =>
        refine ⟨k + 1, by omega, by go_num, ?_, ?_⟩
        · rw [← set_tab T M k hlt]
          exact HO6.out.set k _
        · exact (HB.out.trans HB6.out).setCell (Nat.le_refl _) _
      case measure => simp [intOf]; omega
    · have hkn : M = k := by omega
      subst hkn
      have s2 := nextAt2 hbel HNS.out HN0.out ST.out
      have kb := (hbel.block _ HN1.out).trans HKB.out
      have y0 : wr.cell? ⟨NS + 1, 0, none⟩ = some (.int .i64 0) := Go.Joins.cell_of_block kb 0
      have y1 : wr.cell? ⟨NS + 1, 1, none⟩ = some (.int .i64 0) := Go.Joins.cell_of_block kb 1
      have y2 : wr.cell? ⟨NS + 1, 2, none⟩ = some (.slice none 0 0) := Go.Joins.cell_of_block kb 2
      have g0 : wr.frozen? ⟨NS + 1, 0, none⟩ = false := Go.Joins.unfrozen_of_block kb 0
      have g1 : wr.frozen? ⟨NS + 1, 1, none⟩ = false := Go.Joins.unfrozen_of_block kb 1
      have g2 : wr.frozen? ⟨NS + 1, 2, none⟩ = false := Go.Joins.unfrozen_of_block kb 2
      have HO := hid hown
      have HB := hid hbel
      have HK := hid kb
      clear hown hbel kb
      go_wp2
      obtain ⟨W5, hW⟩ : ∃ W5, W5 = (((wr.setCell { block := NS + 1, off := 0 } (Value.int IntKind.i64 s)).setCell { block := NS + 1, off := 1 } (Value.int IntKind.i64 r)).setCell { block := NS + 1, off := 2 } (Value.slice (some { block := b0, off := 0 }) M M)) := ⟨_, rfl⟩
      have q0 := Go.Joins.block_setCell (Go.Joins.block_setCell (Go.Joins.block_setCell (i := 0) HK.out (Value.int IntKind.i64 s)) (i := 1) (Value.int IntKind.i64 r)) (i := 2) (Value.slice (some { block := b0, off := 0 }) M M)
      rw [← hW] at q0
      have z0 : W5.cell? ⟨NS + 1, 0, none⟩ = some (.int .i64 s) := Go.Joins.cell_of_block q0 0
      have z1 : W5.cell? ⟨NS + 1, 1, none⟩ = some (.int .i64 r) := Go.Joins.cell_of_block q0 1
      have z2 : W5.cell? ⟨NS + 1, 2, none⟩ = some (Value.slice (some { block := b0, off := 0 }) M M) := Go.Joins.cell_of_block q0 2
      have O5 : Own 2 W5 b0 (Value.slice (some { block := b0, off := 0 }) M M) (tab T M) := by
        have h1 := HN1.out
        have hO := HO.out
        rw [Nat.sub_self, List.replicate_zero, List.append_nil] at hO
        rw [hW]
        exact own_set (own_set (own_set hO _ _ (by simp; omega)) _ _ (by simp; omega)) _ _ (by simp; omega)
      have B5 : Below w.heap.size w W5 := by
        have h1 := HNE.out
        rw [hW]
        exact ((s2.1.setCell (by simp; omega) _).setCell (by simp; omega) _).setCell (by simp; omega) _
      simp only [← hW]
      clear hW q0
      simp [bodyPost, results, Try.results120, go_sem, z0, z1, z2]
      exact ⟨O5, HN0.out, B5⟩

set_option maxHeartbeats 16000000 in
set_option maxRecDepth 100000 in
theorem implOk {w : World} {s rA rB : Int} {LA LB LL M bA bB : Nat} {vA vB : Value} {tA tB : List Int} (hA : Rd w bA vA tA) (hB : Rd w bB vB tB) (hv : validB s rA tA = true) (hv2 : validB s rB tB = true) (h3 : rA + rB ≤ 2)
    (hLA : (LA : Int) = 2 * rA + 1) (hLB : (LB : Int) = 2 * rB + 1) (hLL : LL + 1 = LA + LB) (hM : (M : Int) = s ^ LL) :
    Calls Try.prog 60 #[ruleV s rA vA, ruleV s rB vB] w fun e w' => ∃ b', e = .returned (.tuple #[ruleV s (rA + rB) (.slice (some ⟨b', 0, none⟩) M M), .bool true]) ∧
      Own 2 w' b' (.slice (some ⟨b', 0, none⟩) M M) (tab (joinT s tA tB LA LB LL) M) ∧ w.heap.size ≤ b' ∧ Below w.heap.size w w' := by
  have HV1 := hid hv
  have HV2 := hid hv2
  obtain ⟨hs, hr1, hl1, ha⟩ := Al.valid_parts hv
  obtain ⟨_, hr2, hl2, _⟩ := Al.valid_parts hv2
  have HS := hid hs
  have HR1 := hid hr1
  have HR2 := hid hr2
  have HLA := hid hLA
  have HLB := hid hLB
  have HlA : Hid ((tA.length : Int) = s ^ LA) := by simp only [Hid]; rw [hl1]; congr 1 <;> omega
  have HlB : Hid ((tB.length : Int) = s ^ LB) := by simp only [Hid]; rw [hl2]; congr 1 <;> omega
  have HAl := hid ha
  have HL3 : Hid ((1 ≤ LA ∧ LA ≤ 5) ∧ (1 ≤ LB ∧ LB ≤ 5) ∧ LL + 1 = LA + LB) := by simp only [Hid]; omega
  have HRR : Hid (0 ≤ rA + rB ∧ rA + rB ≤ 2) := by simp only [Hid]; omega
  have HLL : Hid (LL = (2 * (rA + rB) + 1).toNat) := by simp only [Hid]; omega
  have HM : Hid ((M : Int) = s ^ (2 * (rA + rB) + 1).toNat) := by simp only [Hid]; rw [hM]; congr 1 <;> omega
  have hw : IntKind.i64.wrap (rA + rB) = rA + rB := by rw [IntKind.wrap_i64]; omega
  have hss : (s != s) = false := by simp
  have hd : decide (2 < rA + rB) = false := by simp; omega
  clear hv hv2 h3 hs hr1 hr2 hl1 hl2 ha hLA hLB hLL hM
  have H1 := hid hA
  have H2 := hid hB
  obtain ⟨aoA, cA, rfl, _, _, _⟩ := hA
  obtain ⟨aoB, cB, rfl, _, _, _⟩ := hB
  go_enter Try.func60, Try.ntmps60
  go_wp2_with fail
  obtain ⟨w1, hW⟩ : ∃ w1, w1 = ((w.alloc (Obj.cells #[.int .i64 s, .int .i64 rA, (Value.slice aoA tA.length cA)] 50)).alloc (Obj.cells #[.int .i64 s, .int .i64 rB, (Value.slice aoB tB.length cB)] 50)).alloc (Obj.cells #[.int .i64 0, .int .i64 0, .slice none 0 0] 50) := ⟨_, rfl⟩
  obtain ⟨NA, hA⟩ : ∃ NA, NA = w.heap.size := ⟨_, rfl⟩
  obtain ⟨NB, hB⟩ : ∃ NB, NB = NA + 1 := ⟨_, rfl⟩
  obtain ⟨NT, hT⟩ : ∃ NT, NT = NB + 1 := ⟨_, rfl⟩
  have st : Below w.heap.size w w1 ∧ w1.cell? ⟨NA, 0, none⟩ = some (.int .i64 s) ∧ w1.cell? ⟨NA, 1, none⟩ = some (.int .i64 rA) ∧ w1.cell? ⟨NA, 2, none⟩ = some ((Value.slice aoA tA.length cA)) ∧ w1.cell? ⟨NB, 0, none⟩ = some (.int .i64 s) ∧ w1.cell? ⟨NB, 1, none⟩ = some (.int .i64 rB) ∧ w1.cell? ⟨NB, 2, none⟩ = some ((Value.slice aoB tB.length cB)) ∧ w.heap.size ≤ w1.heap.size := by
    rw [hW, hB, hA]
    exact ⟨Go.Joins.below_alloc3 _ _ _ _, cell_keep (Go.Joins.below_alloc2 _ _ _) (by simp), cell_keep (Go.Joins.below_alloc2 _ _ _) (by simp), cell_keep (Go.Joins.below_alloc2 _ _ _) (by simp), cell_keep (below1 _ _) (by simp), cell_keep (below1 _ _) (by simp), cell_keep (below1 _ _) (by simp), by simp <;> omega⟩
  have kT : w1.heap[NT]? = some (Obj.cells #[.int .i64 0, .int .i64 0, .slice none 0 0] 50) := by rw [hW]; exact FNew.heap_top (by rw [hT, hB, hA]; simp)
  have HNT : Hid (w.heap.size ≤ NT) := by simp only [Hid]; omega
  have HNX : Hid (NA = w.heap.size ∧ NB = NA + 1 ∧ NT = NB + 1) := ⟨hA, hB, hT⟩
  simp only [← hW, ← hA, ← hB, ← hT]
  clear hW hA hB hT
  go_wp2_with fail
  go_at_call 91
  refine (implValid (H1.out.keep st.1 (Nat.le_refl _))).mono ?_
  rw [HV1.out]
  rintro e w2 ⟨rfl, bel⟩
  replace st := next6_0 bel st
  replace kT := heap_keep bel kT
  clear bel
  go_wp2_with fail
  go_at_call 91
  refine (implValid (H2.out.keep st.1 (Nat.le_refl _))).mono ?_
  rw [HV2.out]
  rintro e w3 ⟨rfl, bel⟩
  replace st := next6_0 bel st
  replace kT := heap_keep bel kT
  clear bel
  go_wp2_with fail
  refine mono_at (fun a e a' w' => e = .normal ∧ ∃ NF NS, a' = (((((((a.put (some 32) (ruleV s rA (Value.slice aoA tA.length cA))).put (some 33) (shapeV s rA)).put (some 34) (.int .i64 LA)).put (some 35) (ruleV s rB (Value.slice aoB tB.length cB))).put (some 36) (shapeV s rB)).put (some 37) (.int .i64 LB)).put (some 6) (.pointer (some ⟨NF, 0, none⟩))).put (some 7) (.pointer (some ⟨NS, 0, none⟩)) ∧ (Below w.heap.size w w' ∧ w'.cell? ⟨NA, 0, none⟩ = some (.int .i64 s) ∧ w'.cell? ⟨NA, 1, none⟩ = some (.int .i64 rA) ∧ w'.cell? ⟨NA, 2, none⟩ = some ((Value.slice aoA tA.length cA)) ∧ w'.cell? ⟨NB, 0, none⟩ = some (.int .i64 s) ∧ w'.cell? ⟨NB, 1, none⟩ = some (.int .i64 rB) ∧ w'.cell? ⟨NB, 2, none⟩ = some ((Value.slice aoB tB.length cB)) ∧ w.heap.size ≤ w'.heap.size) ∧ w'.heap[NT]? = some (Obj.cells #[.int .i64 0, .int .i64 0, .slice none 0 0] 50) ∧ w'.cell? ⟨NF, 0, none⟩ = some (.int .i64 LA) ∧ w'.cell? ⟨NS, 0, none⟩ = some (.int .i64 LB)) ?_ ?_
  · (try dsimp only)
    refine wp_region_held_drew (S := (fun ww => Below w.heap.size w ww ∧ ww.cell? ⟨NA, 0, none⟩ = some (.int .i64 s) ∧ ww.cell? ⟨NA, 1, none⟩ = some (.int .i64 rA) ∧ ww.cell? ⟨NA, 2, none⟩ = some ((Value.slice aoA tA.length cA)) ∧ ww.cell? ⟨NB, 0, none⟩ = some (.int .i64 s) ∧ ww.cell? ⟨NB, 1, none⟩ = some (.int .i64 rB) ∧ ww.cell? ⟨NB, 2, none⟩ = some ((Value.slice aoB tB.length cB)) ∧ w.heap.size ≤ ww.heap.size)) (by kernel_rfl) ?_ (fun hHeld => ?_)
    · ((try dsimp only); exact drew6_0 st)
    generalize hD : w3.drew = wD at hHeld ⊢
    have HKT : Hid (wD.heap[NT]? = some (Obj.cells #[.int .i64 0, .int .i64 0, .slice none 0 0] 50)) := by simp only [Hid]; rw [← hD]; exact kT
    have HD0 := hid hHeld
    have belD : Below wD.heap.size wD wD := Below.refl _ _
    clear hD st kT
    (refine wpAnyH_take (i := 0) (v := ?_) rfl ?_ ?_ ?_ (fun _ _ _ h => by cases h.1) (Or.inl ⟨?_, ?_⟩) ?_ ?_; rotate_left 1; (focus decide +kernel); (focus decide +kernel); (focus decide +kernel); (focus rfl); (focus (intro w hSw; (try dsimp only at hSw); go_simp; (try (with_reducible rfl)); done)); (focus assumption); (try simp only [Act.put, List.setIfInBounds_toArray, List.set_cons_zero, List.set_cons_succ, List.getElem_toArray, List.getElem_cons_succ, List.getElem_cons_zero]))
    (refine wpAnyH_take (i := 3) (v := ?_) rfl ?_ ?_ ?_ (fun _ _ _ h => by cases h.1) (Or.inl ⟨?_, ?_⟩) ?_ ?_; rotate_left 1; (focus decide +kernel); (focus decide +kernel); (focus decide +kernel); (focus rfl); (focus (intro w hSw; (try dsimp only at hSw); go_simp; (try (with_reducible rfl)); done)); (focus assumption); (try simp only [Act.put, List.setIfInBounds_toArray, List.set_cons_zero, List.set_cons_succ, List.getElem_toArray, List.getElem_cons_succ, List.getElem_cons_zero]))
    refine wpAnyH_ready (rs := [1, 6, 7]) ?_ (by simp) ?_
    · decide +kernel
    refine AllReadyH.cons rfl (fun K hK => ?_) (AllReadyH.cons rfl (fun K hK => ?_) (AllReadyH.cons rfl (fun K hK => ?_) AllReadyH.nil))
    · go_simp
      go_at_call 105
      refine (shapeOf).mono ?_
      rintro e v3 ⟨rfl, bel⟩
      replace belD := belD.trans (bel.mono belD.size)
      refine hK.out _ _ ?_ (fun hHeld2 => ?_)
      · (try dsimp only); exact next6_0 belD HD0.out
      clear hK K hHeld bel
      have hHeld := hHeld2
      clear hHeld2
      (try simp only [Act.put, List.setIfInBounds_toArray, List.set_cons_zero, List.set_cons_succ, List.getElem_toArray, List.getElem_cons_succ, List.getElem_cons_zero])
      refine wpAnyH_ready (rs := [2, 6, 7]) ?_ (by simp) ?_
      · decide +kernel
      refine AllReadyH.cons rfl (fun K hK => ?_) (AllReadyH.cons rfl (fun K hK => ?_) (AllReadyH.cons rfl (fun K hK => ?_) AllReadyH.nil))
      · go_simp
        go_at_call 101
        refine (wideL HR1.out HLA.out).mono ?_
        rintro e v4 ⟨rfl, bel⟩
        replace belD := belD.trans (bel.mono belD.size)
        refine hK.out _ _ ?_ (fun hHeld2 => ?_)
        · (try dsimp only); exact next6_0 belD HD0.out
        clear hK K hHeld bel
        have hHeld := hHeld2
        clear hHeld2
        (try simp only [Act.put, List.setIfInBounds_toArray, List.set_cons_zero, List.set_cons_succ, List.getElem_toArray, List.getElem_cons_succ, List.getElem_cons_zero])
        refine wpAnyH_ready (rs := [4, 6, 7]) ?_ (by simp) ?_
        · decide +kernel
        refine AllReadyH.cons rfl (fun K hK => ?_) (AllReadyH.cons rfl (fun K hK => ?_) (AllReadyH.cons rfl (fun K hK => ?_) AllReadyH.nil))
        · go_simp
          go_at_call 105
          refine (shapeOf).mono ?_
          rintro e v5 ⟨rfl, bel⟩
          replace belD := belD.trans (bel.mono belD.size)
          refine hK.out _ _ ?_ (fun hHeld2 => ?_)
          · (try dsimp only); exact next6_0 belD HD0.out
          clear hK K hHeld bel
          have hHeld := hHeld2
          clear hHeld2
          (try simp only [Act.put, List.setIfInBounds_toArray, List.set_cons_zero, List.set_cons_succ, List.getElem_toArray, List.getElem_cons_succ, List.getElem_cons_zero])
          refine wpAnyH_ready (rs := [5, 6, 7]) ?_ (by simp) ?_
          · decide +kernel
          refine AllReadyH.cons rfl (fun K hK => ?_) (AllReadyH.cons rfl (fun K hK => ?_) (AllReadyH.cons rfl (fun K hK => ?_) AllReadyH.nil))
          · go_simp
            go_at_call 101
            refine (wideL HR2.out HLB.out).mono ?_
            rintro e v6 ⟨rfl, bel⟩
            replace belD := belD.trans (bel.mono belD.size)
            refine hK.out _ _ ?_ (fun hHeld2 => ?_)
            · (try dsimp only); exact next6_0 belD HD0.out
            clear hK K hHeld bel
            have hHeld := hHeld2
            clear hHeld2
            (try simp only [Act.put, List.setIfInBounds_toArray, List.set_cons_zero, List.set_cons_succ, List.getElem_toArray, List.getElem_cons_succ, List.getElem_cons_zero])
            refine wpAnyH_ready (rs := [6, 7]) ?_ (by simp) ?_
            · decide +kernel
            refine AllReadyH.cons rfl (fun K hK => ?_) (AllReadyH.cons rfl (fun K hK => ?_) AllReadyH.nil)
            · go_simp
              have bel := below1 v6 (Obj.cells #[.int .i64 0] 2)
              have lmS := belD.size
              replace belD := belD.trans (bel.mono belD.size)
              refine hK.out _ _ ?_ (fun hHeld2 => ?_)
              · (try dsimp only); exact next6_0 belD HD0.out
              clear hK K hHeld bel
              obtain ⟨v7, hWa⟩ : ∃ v7, v7 = v6.alloc (Obj.cells #[.int .i64 0] 2) := ⟨_, rfl⟩
              obtain ⟨NF, hNa⟩ : ∃ NF, NF = v6.heap.size := ⟨_, rfl⟩
              have kF : v7.heap[NF]? = some (Obj.cells #[.int .i64 0] 2) := by rw [hWa]; exact FNew.heap_top hNa
              have lmF : wD.heap.size ≤ NF := by rw [hNa]; exact lmS
              clear lmS
              rw [← hWa] at belD
              (try dsimp only at hHeld2)
              simp only [← hWa, ← hNa] at hHeld2 ⊢
              clear hWa hNa
              have hHeld := hHeld2
              clear hHeld2
              (try simp only [Act.put, List.setIfInBounds_toArray, List.set_cons_zero, List.set_cons_succ, List.getElem_toArray, List.getElem_cons_succ, List.getElem_cons_zero])
              refine wpAnyH_ready (rs := [7]) ?_ (by simp) ?_
              · decide +kernel
              refine AllReadyH.cons rfl (fun K hK => ?_) AllReadyH.nil
              go_simp
              have bel := below1 v7 (Obj.cells #[.int .i64 0] 2)
              have lmS := belD.size
              have ltF := (heap_lt kF)
              replace belD := belD.trans (bel.mono belD.size)
              replace kF := heap_keep bel kF
              refine hK.out _ _ ?_ (fun hHeld2 => ?_)
              · (try dsimp only); exact next6_0 belD HD0.out
              clear hK K hHeld bel
              obtain ⟨v8, hWa⟩ : ∃ v8, v8 = v7.alloc (Obj.cells #[.int .i64 0] 2) := ⟨_, rfl⟩
              obtain ⟨NS, hNa⟩ : ∃ NS, NS = v7.heap.size := ⟨_, rfl⟩
              have kQ : v8.heap[NS]? = some (Obj.cells #[.int .i64 0] 2) := by rw [hWa]; exact FNew.heap_top hNa
              have lmQ : wD.heap.size ≤ NS := by rw [hNa]; exact lmS
              clear lmS
              have nF_Q : NF ≠ NS := by rw [hNa]; exact Nat.ne_of_lt ltF
              clear ltF
              rw [← hWa] at belD kF
              (try dsimp only at hHeld2)
              simp only [← hWa, ← hNa] at hHeld2 ⊢
              clear hWa hNa
              have hHeld := hHeld2
              clear hHeld2
              (try simp only [Act.put, List.setIfInBounds_toArray, List.set_cons_zero, List.set_cons_succ, List.getElem_toArray, List.getElem_cons_succ, List.getElem_cons_zero])
              refine wpAnyH_ready (rs := [8]) ?_ (by simp) ?_
              · decide +kernel
              refine AllReadyH.cons rfl (fun K hK => ?_) AllReadyH.nil
              have y0 : v8.cell? ⟨NF, 0, none⟩ = some (.int .i64 0) := Go.Joins.cell_of_block kF 0
              have g0 : v8.frozen? ⟨NF, 0, none⟩ = false := Go.Joins.unfrozen_of_block kF 0
              have HKF := hid kF
              clear kF
              have HKQ := hid kQ
              clear kQ
              go_simp
              clear y0 g0
              have qF := (Go.Joins.block_setCell (i := 0) HKF.out (.int .i64 LA))
              have bz := (belD.setCell (p := ⟨NF, 0, none⟩) lmF (.int .i64 LA))
              have qQ := ((Below.heap_setCell _ ⟨NF, 0, none⟩ (.int .i64 LA) _ (Ne.symm nF_Q)).trans HKQ.out)
              obtain ⟨v9, hW5⟩ : ∃ v9, v9 = (v8.setCell ⟨NF, 0, none⟩ (.int .i64 LA)) := ⟨_, rfl⟩
              rw [← hW5] at qF bz qQ
              clear HKF belD HKQ
              have kF : v9.heap[NF]? = some (Obj.cells #[.int .i64 LA] 2) := qF
              have belD := bz
              have kQ := qQ
              clear qF bz qQ
              refine hK.out _ _ ?_ (fun hHeld2 => ?_)
              · (try dsimp only); rw [← hW5]; exact next6_0 belD HD0.out
              clear hK K hHeld
              (try dsimp only at hHeld2)
              simp only [← hW5] at hHeld2 ⊢
              clear hW5
              have hHeld := hHeld2
              clear hHeld2
              (try simp only [Act.put, List.setIfInBounds_toArray, List.set_cons_zero, List.set_cons_succ, List.getElem_toArray, List.getElem_cons_succ, List.getElem_cons_zero])
              refine wpAnyH_ready (rs := [9]) ?_ (by simp) ?_
              · decide +kernel
              refine AllReadyH.cons rfl (fun K hK => ?_) AllReadyH.nil
              have y0 : v9.cell? ⟨NS, 0, none⟩ = some (.int .i64 0) := Go.Joins.cell_of_block kQ 0
              have g0 : v9.frozen? ⟨NS, 0, none⟩ = false := Go.Joins.unfrozen_of_block kQ 0
              have HKQ := hid kQ
              clear kQ
              have HKF := hid kF
              clear kF
              go_simp
              clear y0 g0
              have qQ := (Go.Joins.block_setCell (i := 0) HKQ.out (.int .i64 LB))
              have bz := (belD.setCell (p := ⟨NS, 0, none⟩) lmQ (.int .i64 LB))
              have qF := ((Below.heap_setCell _ ⟨NS, 0, none⟩ (.int .i64 LB) _ nF_Q).trans HKF.out)
              obtain ⟨v10, hW5⟩ : ∃ v10, v10 = (v9.setCell ⟨NS, 0, none⟩ (.int .i64 LB)) := ⟨_, rfl⟩
              rw [← hW5] at qQ bz qF
              clear HKQ belD HKF
              have kQ : v10.heap[NS]? = some (Obj.cells #[.int .i64 LB] 2) := qQ
              have belD := bz
              have kF := qF
              clear qQ bz qF
              refine hK.out _ _ ?_ (fun hHeld2 => ?_)
              · (try dsimp only); rw [← hW5]; exact next6_0 belD HD0.out
              clear hK K hHeld
              (try dsimp only at hHeld2)
              simp only [← hW5] at hHeld2 ⊢
              clear hW5
              have hHeld := hHeld2
              clear hHeld2
              (try simp only [Act.put, List.setIfInBounds_toArray, List.set_cons_zero, List.set_cons_succ, List.getElem_toArray, List.getElem_cons_succ, List.getElem_cons_zero])
              refine wpAnyH_done (by kernel_rfl) ?_ _
              have hx := next6_0 belD HD0.out
              have kTx := heap_keep belD HKT.out
              have cFx : v10.cell? ⟨NF, 0, none⟩ = some (.int .i64 LA) := Go.Joins.cell_of_block kF 0
              have cSx : v10.cell? ⟨NS, 0, none⟩ = some (.int .i64 LB) := Go.Joins.cell_of_block kQ 0
              exact ⟨rfl, NF, NS, rfl, hx, kTx, cFx, cSx⟩
            · go_simp
              have bel := below1 v6 (Obj.cells #[.int .i64 0] 2)
              have lmS := belD.size
              replace belD := belD.trans (bel.mono belD.size)
              refine hK.out _ _ ?_ (fun hHeld2 => ?_)
              · (try dsimp only); exact next6_0 belD HD0.out
              clear hK K hHeld bel
              obtain ⟨v11, hWa⟩ : ∃ v11, v11 = v6.alloc (Obj.cells #[.int .i64 0] 2) := ⟨_, rfl⟩
              obtain ⟨NS, hNa⟩ : ∃ NS, NS = v6.heap.size := ⟨_, rfl⟩
              have kQ : v11.heap[NS]? = some (Obj.cells #[.int .i64 0] 2) := by rw [hWa]; exact FNew.heap_top hNa
              have lmQ : wD.heap.size ≤ NS := by rw [hNa]; exact lmS
              clear lmS
              rw [← hWa] at belD
              (try dsimp only at hHeld2)
              simp only [← hWa, ← hNa] at hHeld2 ⊢
              clear hWa hNa
              have hHeld := hHeld2
              clear hHeld2
              (try simp only [Act.put, List.setIfInBounds_toArray, List.set_cons_zero, List.set_cons_succ, List.getElem_toArray, List.getElem_cons_succ, List.getElem_cons_zero])
              refine wpAnyH_ready (rs := [6]) ?_ (by simp) ?_
              · decide +kernel
              refine AllReadyH.cons rfl (fun K hK => ?_) AllReadyH.nil
              go_simp
              have bel := below1 v11 (Obj.cells #[.int .i64 0] 2)
              have lmS := belD.size
              have ltQ := (heap_lt kQ)
              replace belD := belD.trans (bel.mono belD.size)
              replace kQ := heap_keep bel kQ
              refine hK.out _ _ ?_ (fun hHeld2 => ?_)
              · (try dsimp only); exact next6_0 belD HD0.out
              clear hK K hHeld bel
              obtain ⟨v12, hWa⟩ : ∃ v12, v12 = v11.alloc (Obj.cells #[.int .i64 0] 2) := ⟨_, rfl⟩
              obtain ⟨NF, hNa⟩ : ∃ NF, NF = v11.heap.size := ⟨_, rfl⟩
              have kF : v12.heap[NF]? = some (Obj.cells #[.int .i64 0] 2) := by rw [hWa]; exact FNew.heap_top hNa
              have lmF : wD.heap.size ≤ NF := by rw [hNa]; exact lmS
              clear lmS
              have nQ_F : NS ≠ NF := by rw [hNa]; exact Nat.ne_of_lt ltQ
              clear ltQ
              rw [← hWa] at belD kQ
              (try dsimp only at hHeld2)
              simp only [← hWa, ← hNa] at hHeld2 ⊢
              clear hWa hNa
              have hHeld := hHeld2
              clear hHeld2
              (try simp only [Act.put, List.setIfInBounds_toArray, List.set_cons_zero, List.set_cons_succ, List.getElem_toArray, List.getElem_cons_succ, List.getElem_cons_zero])
              refine wpAnyH_ready (rs := [8]) ?_ (by simp) ?_
              · decide +kernel
              refine AllReadyH.cons rfl (fun K hK => ?_) AllReadyH.nil
              have y0 : v12.cell? ⟨NF, 0, none⟩ = some (.int .i64 0) := Go.Joins.cell_of_block kF 0
              have g0 : v12.frozen? ⟨NF, 0, none⟩ = false := Go.Joins.unfrozen_of_block kF 0
              have HKF := hid kF
              clear kF
              have HKQ := hid kQ
              clear kQ
              go_simp
              clear y0 g0
              have qF := (Go.Joins.block_setCell (i := 0) HKF.out (.int .i64 LA))
              have bz := (belD.setCell (p := ⟨NF, 0, none⟩) lmF (.int .i64 LA))
              have qQ := ((Below.heap_setCell _ ⟨NF, 0, none⟩ (.int .i64 LA) _ nQ_F).trans HKQ.out)
              obtain ⟨v13, hW5⟩ : ∃ v13, v13 = (v12.setCell ⟨NF, 0, none⟩ (.int .i64 LA)) := ⟨_, rfl⟩
              rw [← hW5] at qF bz qQ
              clear HKF belD HKQ
              have kF : v13.heap[NF]? = some (Obj.cells #[.int .i64 LA] 2) := qF
              have belD := bz
              have kQ := qQ
              clear qF bz qQ
              refine hK.out _ _ ?_ (fun hHeld2 => ?_)
              · (try dsimp only); rw [← hW5]; exact next6_0 belD HD0.out
              clear hK K hHeld
              (try dsimp only at hHeld2)
              simp only [← hW5] at hHeld2 ⊢
              clear hW5
              have hHeld := hHeld2
              clear hHeld2
              (try simp only [Act.put, List.setIfInBounds_toArray, List.set_cons_zero, List.set_cons_succ, List.getElem_toArray, List.getElem_cons_succ, List.getElem_cons_zero])
              refine wpAnyH_ready (rs := [9]) ?_ (by simp) ?_
              · decide +kernel
              refine AllReadyH.cons rfl (fun K hK => ?_) AllReadyH.nil
              have y0 : v13.cell? ⟨NS, 0, none⟩ = some (.int .i64 0) := Go.Joins.cell_of_block kQ 0
              have g0 : v13.frozen? ⟨NS, 0, none⟩ = false := Go.Joins.unfrozen_of_block kQ 0
              have HKQ := hid kQ
              clear kQ
              have HKF := hid kF
              clear kF
              go_simp
              clear y0 g0
              have qQ := (Go.Joins.block_setCell (i := 0) HKQ.out (.int .i64 LB))
              have bz := (belD.setCell (p := ⟨NS, 0, none⟩) lmQ (.int .i64 LB))
              have qF := ((Below.heap_setCell _ ⟨NS, 0, none⟩ (.int .i64 LB) _ (Ne.symm nQ_F)).trans HKF.out)
              obtain ⟨v14, hW5⟩ : ∃ v14, v14 = (v13.setCell ⟨NS, 0, none⟩ (.int .i64 LB)) := ⟨_, rfl⟩
              rw [← hW5] at qQ bz qF
              clear HKQ belD HKF
              have kQ : v14.heap[NS]? = some (Obj.cells #[.int .i64 LB] 2) := qQ
              have belD := bz
              have kF := qF
              clear qQ bz qF
              refine hK.out _ _ ?_ (fun hHeld2 => ?_)
              · (try dsimp only); rw [← hW5]; exact next6_0 belD HD0.out
              clear hK K hHeld
              (try dsimp only at hHeld2)
              simp only [← hW5] at hHeld2 ⊢
              clear hW5
              have hHeld := hHeld2
              clear hHeld2
              (try simp only [Act.put, List.setIfInBounds_toArray, List.set_cons_zero, List.set_cons_succ, List.getElem_toArray, List.getElem_cons_succ, List.getElem_cons_zero])
              refine wpAnyH_done (by kernel_rfl) ?_ _
              have hx := next6_0 belD HD0.out
              have kTx := heap_keep belD HKT.out
              have cFx : v14.cell? ⟨NF, 0, none⟩ = some (.int .i64 LA) := Go.Joins.cell_of_block kF 0
              have cSx : v14.cell? ⟨NS, 0, none⟩ = some (.int .i64 LB) := Go.Joins.cell_of_block kQ 0
              exact ⟨rfl, NF, NS, rfl, hx, kTx, cFx, cSx⟩
          · go_simp
            have bel := below1 v5 (Obj.cells #[.int .i64 0] 2)
            have lmS := belD.size
            replace belD := belD.trans (bel.mono belD.size)
            refine hK.out _ _ ?_ (fun hHeld2 => ?_)
            · (try dsimp only); exact next6_0 belD HD0.out
            clear hK K hHeld bel
            obtain ⟨v15, hWa⟩ : ∃ v15, v15 = v5.alloc (Obj.cells #[.int .i64 0] 2) := ⟨_, rfl⟩
            obtain ⟨NF, hNa⟩ : ∃ NF, NF = v5.heap.size := ⟨_, rfl⟩
            have kF : v15.heap[NF]? = some (Obj.cells #[.int .i64 0] 2) := by rw [hWa]; exact FNew.heap_top hNa
            have lmF : wD.heap.size ≤ NF := by rw [hNa]; exact lmS
            clear lmS
            rw [← hWa] at belD
            (try dsimp only at hHeld2)
            simp only [← hWa, ← hNa] at hHeld2 ⊢
            clear hWa hNa
            have hHeld := hHeld2
            clear hHeld2
            (try simp only [Act.put, List.setIfInBounds_toArray, List.set_cons_zero, List.set_cons_succ, List.getElem_toArray, List.getElem_cons_succ, List.getElem_cons_zero])
            refine wpAnyH_ready (rs := [5, 7]) ?_ (by simp) ?_
            · decide +kernel
            refine AllReadyH.cons rfl (fun K hK => ?_) (AllReadyH.cons rfl (fun K hK => ?_) AllReadyH.nil)
            · go_simp
              go_at_call 101
              refine (wideL HR2.out HLB.out).mono ?_
              rintro e v16 ⟨rfl, bel⟩
              replace belD := belD.trans (bel.mono belD.size)
              replace kF := heap_keep bel kF
              refine hK.out _ _ ?_ (fun hHeld2 => ?_)
              · (try dsimp only); exact next6_0 belD HD0.out
              clear hK K hHeld bel
              have hHeld := hHeld2
              clear hHeld2
              (try simp only [Act.put, List.setIfInBounds_toArray, List.set_cons_zero, List.set_cons_succ, List.getElem_toArray, List.getElem_cons_succ, List.getElem_cons_zero])
              refine wpAnyH_ready (rs := [7]) ?_ (by simp) ?_
              · decide +kernel
              refine AllReadyH.cons rfl (fun K hK => ?_) AllReadyH.nil
              go_simp
              have bel := below1 v16 (Obj.cells #[.int .i64 0] 2)
              have lmS := belD.size
              have ltF := (heap_lt kF)
              replace belD := belD.trans (bel.mono belD.size)
              replace kF := heap_keep bel kF
              refine hK.out _ _ ?_ (fun hHeld2 => ?_)
              · (try dsimp only); exact next6_0 belD HD0.out
              clear hK K hHeld bel
              obtain ⟨v17, hWa⟩ : ∃ v17, v17 = v16.alloc (Obj.cells #[.int .i64 0] 2) := ⟨_, rfl⟩
              obtain ⟨NS, hNa⟩ : ∃ NS, NS = v16.heap.size := ⟨_, rfl⟩
              have kQ : v17.heap[NS]? = some (Obj.cells #[.int .i64 0] 2) := by rw [hWa]; exact FNew.heap_top hNa
              have lmQ : wD.heap.size ≤ NS := by rw [hNa]; exact lmS
              clear lmS
              have nF_Q : NF ≠ NS := by rw [hNa]; exact Nat.ne_of_lt ltF
              clear ltF
              rw [← hWa] at belD kF
              (try dsimp only at hHeld2)
              simp only [← hWa, ← hNa] at hHeld2 ⊢
              clear hWa hNa
              have hHeld := hHeld2
              clear hHeld2
              (try simp only [Act.put, List.setIfInBounds_toArray, List.set_cons_zero, List.set_cons_succ, List.getElem_toArray, List.getElem_cons_succ, List.getElem_cons_zero])
              refine wpAnyH_ready (rs := [8]) ?_ (by simp) ?_
              · decide +kernel
              refine AllReadyH.cons rfl (fun K hK => ?_) AllReadyH.nil
              have y0 : v17.cell? ⟨NF, 0, none⟩ = some (.int .i64 0) := Go.Joins.cell_of_block kF 0
              have g0 : v17.frozen? ⟨NF, 0, none⟩ = false := Go.Joins.unfrozen_of_block kF 0
              have HKF := hid kF
              clear kF
              have HKQ := hid kQ
              clear kQ
              go_simp
              clear y0 g0
              have qF := (Go.Joins.block_setCell (i := 0) HKF.out (.int .i64 LA))
              have bz := (belD.setCell (p := ⟨NF, 0, none⟩) lmF (.int .i64 LA))
              have qQ := ((Below.heap_setCell _ ⟨NF, 0, none⟩ (.int .i64 LA) _ (Ne.symm nF_Q)).trans HKQ.out)
              obtain ⟨v18, hW5⟩ : ∃ v18, v18 = (v17.setCell ⟨NF, 0, none⟩ (.int .i64 LA)) := ⟨_, rfl⟩
              rw [← hW5] at qF bz qQ
              clear HKF belD HKQ
              have kF : v18.heap[NF]? = some (Obj.cells #[.int .i64 LA] 2) := qF
              have belD := bz
              have kQ := qQ
              clear qF bz qQ
              refine hK.out _ _ ?_ (fun hHeld2 => ?_)
              · (try dsimp only); rw [← hW5]; exact next6_0 belD HD0.out
              clear hK K hHeld
              (try dsimp only at hHeld2)
              simp only [← hW5] at hHeld2 ⊢
              clear hW5
              have hHeld := hHeld2
              clear hHeld2
              (try simp only [Act.put, List.setIfInBounds_toArray, List.set_cons_zero, List.set_cons_succ, List.getElem_toArray, List.getElem_cons_succ, List.getElem_cons_zero])
              refine wpAnyH_ready (rs := [9]) ?_ (by simp) ?_
              · decide +kernel
              refine AllReadyH.cons rfl (fun K hK => ?_) AllReadyH.nil
              have y0 : v18.cell? ⟨NS, 0, none⟩ = some (.int .i64 0) := Go.Joins.cell_of_block kQ 0
              have g0 : v18.frozen? ⟨NS, 0, none⟩ = false := Go.Joins.unfrozen_of_block kQ 0
              have HKQ := hid kQ
              clear kQ
              have HKF := hid kF
              clear kF
              go_simp
              clear y0 g0
              have qQ := (Go.Joins.block_setCell (i := 0) HKQ.out (.int .i64 LB))
              have bz := (belD.setCell (p := ⟨NS, 0, none⟩) lmQ (.int .i64 LB))
              have qF := ((Below.heap_setCell _ ⟨NS, 0, none⟩ (.int .i64 LB) _ nF_Q).trans HKF.out)
              obtain ⟨v19, hW5⟩ : ∃ v19, v19 = (v18.setCell ⟨NS, 0, none⟩ (.int .i64 LB)) := ⟨_, rfl⟩
              rw [← hW5] at qQ bz qF
              clear HKQ belD HKF
              have kQ : v19.heap[NS]? = some (Obj.cells #[.int .i64 LB] 2) := qQ
              have belD := bz
              have kF := qF
              clear qQ bz qF
              refine hK.out _ _ ?_ (fun hHeld2 => ?_)
              · (try dsimp only); rw [← hW5]; exact next6_0 belD HD0.out
              clear hK K hHeld
              (try dsimp only at hHeld2)
              simp only [← hW5] at hHeld2 ⊢
              clear hW5
              have hHeld := hHeld2
              clear hHeld2
              (try simp only [Act.put, List.setIfInBounds_toArray, List.set_cons_zero, List.set_cons_succ, List.getElem_toArray, List.getElem_cons_succ, List.getElem_cons_zero])
              refine wpAnyH_done (by kernel_rfl) ?_ _
              have hx := next6_0 belD HD0.out
              have kTx := heap_keep belD HKT.out
              have cFx : v19.cell? ⟨NF, 0, none⟩ = some (.int .i64 LA) := Go.Joins.cell_of_block kF 0
              have cSx : v19.cell? ⟨NS, 0, none⟩ = some (.int .i64 LB) := Go.Joins.cell_of_block kQ 0
              exact ⟨rfl, NF, NS, rfl, hx, kTx, cFx, cSx⟩
            · go_simp
              have bel := below1 v15 (Obj.cells #[.int .i64 0] 2)
              have lmS := belD.size
              have ltF := (heap_lt kF)
              replace belD := belD.trans (bel.mono belD.size)
              replace kF := heap_keep bel kF
              refine hK.out _ _ ?_ (fun hHeld2 => ?_)
              · (try dsimp only); exact next6_0 belD HD0.out
              clear hK K hHeld bel
              obtain ⟨v20, hWa⟩ : ∃ v20, v20 = v15.alloc (Obj.cells #[.int .i64 0] 2) := ⟨_, rfl⟩
              obtain ⟨NS, hNa⟩ : ∃ NS, NS = v15.heap.size := ⟨_, rfl⟩
              have kQ : v20.heap[NS]? = some (Obj.cells #[.int .i64 0] 2) := by rw [hWa]; exact FNew.heap_top hNa
              have lmQ : wD.heap.size ≤ NS := by rw [hNa]; exact lmS
              clear lmS
              have nF_Q : NF ≠ NS := by rw [hNa]; exact Nat.ne_of_lt ltF
              clear ltF
              rw [← hWa] at belD kF
              (try dsimp only at hHeld2)
              simp only [← hWa, ← hNa] at hHeld2 ⊢
              clear hWa hNa
              have hHeld := hHeld2
              clear hHeld2
              (try simp only [Act.put, List.setIfInBounds_toArray, List.set_cons_zero, List.set_cons_succ, List.getElem_toArray, List.getElem_cons_succ, List.getElem_cons_zero])
              refine wpAnyH_ready (rs := [5]) ?_ (by simp) ?_
              · decide +kernel
              refine AllReadyH.cons rfl (fun K hK => ?_) AllReadyH.nil
              go_simp
              go_at_call 101
              refine (wideL HR2.out HLB.out).mono ?_
              rintro e v21 ⟨rfl, bel⟩
              replace belD := belD.trans (bel.mono belD.size)
              replace kF := heap_keep bel kF
              replace kQ := heap_keep bel kQ
              refine hK.out _ _ ?_ (fun hHeld2 => ?_)
              · (try dsimp only); exact next6_0 belD HD0.out
              clear hK K hHeld bel
              have hHeld := hHeld2
              clear hHeld2
              (try simp only [Act.put, List.setIfInBounds_toArray, List.set_cons_zero, List.set_cons_succ, List.getElem_toArray, List.getElem_cons_succ, List.getElem_cons_zero])
              refine wpAnyH_ready (rs := [8]) ?_ (by simp) ?_
              · decide +kernel
              refine AllReadyH.cons rfl (fun K hK => ?_) AllReadyH.nil
              have y0 : v21.cell? ⟨NF, 0, none⟩ = some (.int .i64 0) := Go.Joins.cell_of_block kF 0
              have g0 : v21.frozen? ⟨NF, 0, none⟩ = false := Go.Joins.unfrozen_of_block kF 0
              have HKF := hid kF
              clear kF
              have HKQ := hid kQ
              clear kQ
              go_simp
              clear y0 g0
              have qF := (Go.Joins.block_setCell (i := 0) HKF.out (.int .i64 LA))
              have bz := (belD.setCell (p := ⟨NF, 0, none⟩) lmF (.int .i64 LA))
              have qQ := ((Below.heap_setCell _ ⟨NF, 0, none⟩ (.int .i64 LA) _ (Ne.symm nF_Q)).trans HKQ.out)
              obtain ⟨v22, hW5⟩ : ∃ v22, v22 = (v21.setCell ⟨NF, 0, none⟩ (.int .i64 LA)) := ⟨_, rfl⟩
              rw [← hW5] at qF bz qQ
              clear HKF belD HKQ
              have kF : v22.heap[NF]? = some (Obj.cells #[.int .i64 LA] 2) := qF
              have belD := bz
              have kQ := qQ
              clear qF bz qQ
              refine hK.out _ _ ?_ (fun hHeld2 => ?_)
              · (try dsimp only); rw [← hW5]; exact next6_0 belD HD0.out
              clear hK K hHeld
              (try dsimp only at hHeld2)
              simp only [← hW5] at hHeld2 ⊢
              clear hW5
              have hHeld := hHeld2
              clear hHeld2
              (try simp only [Act.put, List.setIfInBounds_toArray, List.set_cons_zero, List.set_cons_succ, List.getElem_toArray, List.getElem_cons_succ, List.getElem_cons_zero])
              refine wpAnyH_ready (rs := [9]) ?_ (by simp) ?_
              · decide +kernel
              refine AllReadyH.cons rfl (fun K hK => ?_) AllReadyH.nil
              have y0 : v22.cell? ⟨NS, 0, none⟩ = some (.int .i64 0) := Go.Joins.cell_of_block kQ 0
              have g0 : v22.frozen? ⟨NS, 0, none⟩ = false := Go.Joins.unfrozen_of_block kQ 0
              have HKQ := hid kQ
              clear kQ
              have HKF := hid kF
              clear kF
              go_simp
              clear y0 g0
              have qQ := (Go.Joins.block_setCell (i := 0) HKQ.out (.int .i64 LB))
              have bz := (belD.setCell (p := ⟨NS, 0, none⟩) lmQ (.int .i64 LB))
              have qF := ((Below.heap_setCell _ ⟨NS, 0, none⟩ (.int .i64 LB) _ nF_Q).trans HKF.out)
              obtain ⟨v23, hW5⟩ : ∃ v23, v23 = (v22.setCell ⟨NS, 0, none⟩ (.int .i64 LB)) := ⟨_, rfl⟩
              rw [← hW5] at qQ bz qF
              clear HKQ belD HKF
              have kQ : v23.heap[NS]? = some (Obj.cells #[.int .i64 LB] 2) := qQ
              have belD := bz
              have kF := qF
              clear qQ bz qF
              refine hK.out _ _ ?_ (fun hHeld2 => ?_)
              · (try dsimp only); rw [← hW5]; exact next6_0 belD HD0.out
              clear hK K hHeld
              (try dsimp only at hHeld2)
              simp only [← hW5] at hHeld2 ⊢
              clear hW5
              have hHeld := hHeld2
              clear hHeld2
              (try simp only [Act.put, List.setIfInBounds_toArray, List.set_cons_zero, List.set_cons_succ, List.getElem_toArray, List.getElem_cons_succ, List.getElem_cons_zero])
              refine wpAnyH_done (by kernel_rfl) ?_ _
              have hx := next6_0 belD HD0.out
              have kTx := heap_keep belD HKT.out
              have cFx : v23.cell? ⟨NF, 0, none⟩ = some (.int .i64 LA) := Go.Joins.cell_of_block kF 0
              have cSx : v23.cell? ⟨NS, 0, none⟩ = some (.int .i64 LB) := Go.Joins.cell_of_block kQ 0
              exact ⟨rfl, NF, NS, rfl, hx, kTx, cFx, cSx⟩
          · go_simp
            have bel := below1 v5 (Obj.cells #[.int .i64 0] 2)
            have lmS := belD.size
            replace belD := belD.trans (bel.mono belD.size)
            refine hK.out _ _ ?_ (fun hHeld2 => ?_)
            · (try dsimp only); exact next6_0 belD HD0.out
            clear hK K hHeld bel
            obtain ⟨v24, hWa⟩ : ∃ v24, v24 = v5.alloc (Obj.cells #[.int .i64 0] 2) := ⟨_, rfl⟩
            obtain ⟨NS, hNa⟩ : ∃ NS, NS = v5.heap.size := ⟨_, rfl⟩
            have kQ : v24.heap[NS]? = some (Obj.cells #[.int .i64 0] 2) := by rw [hWa]; exact FNew.heap_top hNa
            have lmQ : wD.heap.size ≤ NS := by rw [hNa]; exact lmS
            clear lmS
            rw [← hWa] at belD
            (try dsimp only at hHeld2)
            simp only [← hWa, ← hNa] at hHeld2 ⊢
            clear hWa hNa
            have hHeld := hHeld2
            clear hHeld2
            (try simp only [Act.put, List.setIfInBounds_toArray, List.set_cons_zero, List.set_cons_succ, List.getElem_toArray, List.getElem_cons_succ, List.getElem_cons_zero])
            refine wpAnyH_ready (rs := [5, 6]) ?_ (by simp) ?_
            · decide +kernel
            refine AllReadyH.cons rfl (fun K hK => ?_) (AllReadyH.cons rfl (fun K hK => ?_) AllReadyH.nil)
            · go_simp
              go_at_call 101
              refine (wideL HR2.out HLB.out).mono ?_
              rintro e v25 ⟨rfl, bel⟩
              replace belD := belD.trans (bel.mono belD.size)
              replace kQ := heap_keep bel kQ
              refine hK.out _ _ ?_ (fun hHeld2 => ?_)
              · (try dsimp only); exact next6_0 belD HD0.out
              clear hK K hHeld bel
              have hHeld := hHeld2
              clear hHeld2
              (try simp only [Act.put, List.setIfInBounds_toArray, List.set_cons_zero, List.set_cons_succ, List.getElem_toArray, List.getElem_cons_succ, List.getElem_cons_zero])
              refine wpAnyH_ready (rs := [6]) ?_ (by simp) ?_
              · decide +kernel
              refine AllReadyH.cons rfl (fun K hK => ?_) AllReadyH.nil
              go_simp
              have bel := below1 v25 (Obj.cells #[.int .i64 0] 2)
              have lmS := belD.size
              have ltQ := (heap_lt kQ)
              replace belD := belD.trans (bel.mono belD.size)
              replace kQ := heap_keep bel kQ
              refine hK.out _ _ ?_ (fun hHeld2 => ?_)
              · (try dsimp only); exact next6_0 belD HD0.out
              clear hK K hHeld bel
              obtain ⟨v26, hWa⟩ : ∃ v26, v26 = v25.alloc (Obj.cells #[.int .i64 0] 2) := ⟨_, rfl⟩
              obtain ⟨NF, hNa⟩ : ∃ NF, NF = v25.heap.size := ⟨_, rfl⟩
              have kF : v26.heap[NF]? = some (Obj.cells #[.int .i64 0] 2) := by rw [hWa]; exact FNew.heap_top hNa
              have lmF : wD.heap.size ≤ NF := by rw [hNa]; exact lmS
              clear lmS
              have nQ_F : NS ≠ NF := by rw [hNa]; exact Nat.ne_of_lt ltQ
              clear ltQ
              rw [← hWa] at belD kQ
              (try dsimp only at hHeld2)
              simp only [← hWa, ← hNa] at hHeld2 ⊢
              clear hWa hNa
              have hHeld := hHeld2
              clear hHeld2
              (try simp only [Act.put, List.setIfInBounds_toArray, List.set_cons_zero, List.set_cons_succ, List.getElem_toArray, List.getElem_cons_succ, List.getElem_cons_zero])
              refine wpAnyH_ready (rs := [8]) ?_ (by simp) ?_
              · decide +kernel
              refine AllReadyH.cons rfl (fun K hK => ?_) AllReadyH.nil
              have y0 : v26.cell? ⟨NF, 0, none⟩ = some (.int .i64 0) := Go.Joins.cell_of_block kF 0
              have g0 : v26.frozen? ⟨NF, 0, none⟩ = false := Go.Joins.unfrozen_of_block kF 0
              have HKF := hid kF
              clear kF
              have HKQ := hid kQ
              clear kQ
              go_simp
              clear y0 g0
              have qF := (Go.Joins.block_setCell (i := 0) HKF.out (.int .i64 LA))
              have bz := (belD.setCell (p := ⟨NF, 0, none⟩) lmF (.int .i64 LA))
              have qQ := ((Below.heap_setCell _ ⟨NF, 0, none⟩ (.int .i64 LA) _ nQ_F).trans HKQ.out)
              obtain ⟨v27, hW5⟩ : ∃ v27, v27 = (v26.setCell ⟨NF, 0, none⟩ (.int .i64 LA)) := ⟨_, rfl⟩
              rw [← hW5] at qF bz qQ
              clear HKF belD HKQ
              have kF : v27.heap[NF]? = some (Obj.cells #[.int .i64 LA] 2) := qF
              have belD := bz
              have kQ := qQ
              clear qF bz qQ
              refine hK.out _ _ ?_ (fun hHeld2 => ?_)
              · (try dsimp only); rw [← hW5]; exact next6_0 belD HD0.out
              clear hK K hHeld
              (try dsimp only at hHeld2)
              simp only [← hW5] at hHeld2 ⊢
              clear hW5
              have hHeld := hHeld2
              clear hHeld2
              (try simp only [Act.put, List.setIfInBounds_toArray, List.set_cons_zero, List.set_cons_succ, List.getElem_toArray, List.getElem_cons_succ, List.getElem_cons_zero])
              refine wpAnyH_ready (rs := [9]) ?_ (by simp) ?_
              · decide +kernel
              refine AllReadyH.cons rfl (fun K hK => ?_) AllReadyH.nil
              have y0 : v27.cell? ⟨NS, 0, none⟩ = some (.int .i64 0) := Go.Joins.cell_of_block kQ 0
              have g0 : v27.frozen? ⟨NS, 0, none⟩ = false := Go.Joins.unfrozen_of_block kQ 0
              have HKQ := hid kQ
              clear kQ
              have HKF := hid kF
              clear kF
              go_simp
              clear y0 g0
              have qQ := (Go.Joins.block_setCell (i := 0) HKQ.out (.int .i64 LB))
              have bz := (belD.setCell (p := ⟨NS, 0, none⟩) lmQ (.int .i64 LB))
              have qF := ((Below.heap_setCell _ ⟨NS, 0, none⟩ (.int .i64 LB) _ (Ne.symm nQ_F)).trans HKF.out)
              obtain ⟨v28, hW5⟩ : ∃ v28, v28 = (v27.setCell ⟨NS, 0, none⟩ (.int .i64 LB)) := ⟨_, rfl⟩
              rw [← hW5] at qQ bz qF
              clear HKQ belD HKF
              have kQ : v28.heap[NS]? = some (Obj.cells #[.int .i64 LB] 2) := qQ
              have belD := bz
              have kF := qF
              clear qQ bz qF
              refine hK.out _ _ ?_ (fun hHeld2 => ?_)
              · (try dsimp only); rw [← hW5]; exact next6_0 belD HD0.out
              clear hK K hHeld
              (try dsimp only at hHeld2)
              simp only [← hW5] at hHeld2 ⊢
              clear hW5
              have hHeld := hHeld2
              clear hHeld2
              (try simp only [Act.put, List.setIfInBounds_toArray, List.set_cons_zero, List.set_cons_succ, List.getElem_toArray, List.getElem_cons_succ, List.getElem_cons_zero])
              refine wpAnyH_done (by kernel_rfl) ?_ _
              have hx := next6_0 belD HD0.out
              have kTx := heap_keep belD HKT.out
              have cFx : v28.cell? ⟨NF, 0, none⟩ = some (.int .i64 LA) := Go.Joins.cell_of_block kF 0
              have cSx : v28.cell? ⟨NS, 0, none⟩ = some (.int .i64 LB) := Go.Joins.cell_of_block kQ 0
              exact ⟨rfl, NF, NS, rfl, hx, kTx, cFx, cSx⟩
            · go_simp
              have bel := below1 v24 (Obj.cells #[.int .i64 0] 2)
              have lmS := belD.size
              have ltQ := (heap_lt kQ)
              replace belD := belD.trans (bel.mono belD.size)
              replace kQ := heap_keep bel kQ
              refine hK.out _ _ ?_ (fun hHeld2 => ?_)
              · (try dsimp only); exact next6_0 belD HD0.out
              clear hK K hHeld bel
              obtain ⟨v29, hWa⟩ : ∃ v29, v29 = v24.alloc (Obj.cells #[.int .i64 0] 2) := ⟨_, rfl⟩
              obtain ⟨NF, hNa⟩ : ∃ NF, NF = v24.heap.size := ⟨_, rfl⟩
              have kF : v29.heap[NF]? = some (Obj.cells #[.int .i64 0] 2) := by rw [hWa]; exact FNew.heap_top hNa
              have lmF : wD.heap.size ≤ NF := by rw [hNa]; exact lmS
              clear lmS
              have nQ_F : NS ≠ NF := by rw [hNa]; exact Nat.ne_of_lt ltQ
              clear ltQ
              rw [← hWa] at belD kQ
              (try dsimp only at hHeld2)
              simp only [← hWa, ← hNa] at hHeld2 ⊢
              clear hWa hNa
              have hHeld := hHeld2
              clear hHeld2
              (try simp only [Act.put, List.setIfInBounds_toArray, List.set_cons_zero, List.set_cons_succ, List.getElem_toArray, List.getElem_cons_succ, List.getElem_cons_zero])
              refine wpAnyH_ready (rs := [5]) ?_ (by simp) ?_
              · decide +kernel
              refine AllReadyH.cons rfl (fun K hK => ?_) AllReadyH.nil
              go_simp
              go_at_call 101
              refine (wideL HR2.out HLB.out).mono ?_
              rintro e v30 ⟨rfl, bel⟩
              replace belD := belD.trans (bel.mono belD.size)
              replace kQ := heap_keep bel kQ
              replace kF := heap_keep bel kF
              refine hK.out _ _ ?_ (fun hHeld2 => ?_)
              · (try dsimp only); exact next6_0 belD HD0.out
              clear hK K hHeld bel
              have hHeld := hHeld2
              clear hHeld2
              (try simp only [Act.put, List.setIfInBounds_toArray, List.set_cons_zero, List.set_cons_succ, List.getElem_toArray, List.getElem_cons_succ, List.getElem_cons_zero])
              refine wpAnyH_ready (rs := [8]) ?_ (by simp) ?_
              · decide +kernel
              refine AllReadyH.cons rfl (fun K hK => ?_) AllReadyH.nil
              have y0 : v30.cell? ⟨NF, 0, none⟩ = some (.int .i64 0) := Go.Joins.cell_of_block kF 0
              have g0 : v30.frozen? ⟨NF, 0, none⟩ = false := Go.Joins.unfrozen_of_block kF 0
              have HKF := hid kF
              clear kF
              have HKQ := hid kQ
              clear kQ
              go_simp
              clear y0 g0
              have qF := (Go.Joins.block_setCell (i := 0) HKF.out (.int .i64 LA))
              have bz := (belD.setCell (p := ⟨NF, 0, none⟩) lmF (.int .i64 LA))
              have qQ := ((Below.heap_setCell _ ⟨NF, 0, none⟩ (.int .i64 LA) _ nQ_F).trans HKQ.out)
              obtain ⟨v31, hW5⟩ : ∃ v31, v31 = (v30.setCell ⟨NF, 0, none⟩ (.int .i64 LA)) := ⟨_, rfl⟩
              rw [← hW5] at qF bz qQ
              clear HKF belD HKQ
              have kF : v31.heap[NF]? = some (Obj.cells #[.int .i64 LA] 2) := qF
              have belD := bz
              have kQ := qQ
              clear qF bz qQ
              refine hK.out _ _ ?_ (fun hHeld2 => ?_)
              · (try dsimp only); rw [← hW5]; exact next6_0 belD HD0.out
              clear hK K hHeld
              (try dsimp only at hHeld2)
              simp only [← hW5] at hHeld2 ⊢
              clear hW5
              have hHeld := hHeld2
              clear hHeld2
              (try simp only [Act.put, List.setIfInBounds_toArray, List.set_cons_zero, List.set_cons_succ, List.getElem_toArray, List.getElem_cons_succ, List.getElem_cons_zero])
              refine wpAnyH_ready (rs := [9]) ?_ (by simp) ?_
              · decide +kernel
              refine AllReadyH.cons rfl (fun K hK => ?_) AllReadyH.nil
              have y0 : v31.cell? ⟨NS, 0, none⟩ = some (.int .i64 0) := Go.Joins.cell_of_block kQ 0
              have g0 : v31.frozen? ⟨NS, 0, none⟩ = false := Go.Joins.unfrozen_of_block kQ 0
              have HKQ := hid kQ
              clear kQ
              have HKF := hid kF
              clear kF
              go_simp
              clear y0 g0
              have qQ := (Go.Joins.block_setCell (i := 0) HKQ.out (.int .i64 LB))
              have bz := (belD.setCell (p := ⟨NS, 0, none⟩) lmQ (.int .i64 LB))
              have qF := ((Below.heap_setCell _ ⟨NS, 0, none⟩ (.int .i64 LB) _ (Ne.symm nQ_F)).trans HKF.out)
              obtain ⟨v32, hW5⟩ : ∃ v32, v32 = (v31.setCell ⟨NS, 0, none⟩ (.int .i64 LB)) := ⟨_, rfl⟩
              rw [← hW5] at qQ bz qF
              clear HKQ belD HKF
              have kQ : v32.heap[NS]? = some (Obj.cells #[.int .i64 LB] 2) := qQ
              have belD := bz
              have kF := qF
              clear qQ bz qF
              refine hK.out _ _ ?_ (fun hHeld2 => ?_)
              · (try dsimp only); rw [← hW5]; exact next6_0 belD HD0.out
              clear hK K hHeld
              (try dsimp only at hHeld2)
              simp only [← hW5] at hHeld2 ⊢
              clear hW5
              have hHeld := hHeld2
              clear hHeld2
              (try simp only [Act.put, List.setIfInBounds_toArray, List.set_cons_zero, List.set_cons_succ, List.getElem_toArray, List.getElem_cons_succ, List.getElem_cons_zero])
              refine wpAnyH_done (by kernel_rfl) ?_ _
              have hx := next6_0 belD HD0.out
              have kTx := heap_keep belD HKT.out
              have cFx : v32.cell? ⟨NF, 0, none⟩ = some (.int .i64 LA) := Go.Joins.cell_of_block kF 0
              have cSx : v32.cell? ⟨NS, 0, none⟩ = some (.int .i64 LB) := Go.Joins.cell_of_block kQ 0
              exact ⟨rfl, NF, NS, rfl, hx, kTx, cFx, cSx⟩
        · go_simp
          have bel := below1 v4 (Obj.cells #[.int .i64 0] 2)
          have lmS := belD.size
          replace belD := belD.trans (bel.mono belD.size)
          refine hK.out _ _ ?_ (fun hHeld2 => ?_)
          · (try dsimp only); exact next6_0 belD HD0.out
          clear hK K hHeld bel
          obtain ⟨v33, hWa⟩ : ∃ v33, v33 = v4.alloc (Obj.cells #[.int .i64 0] 2) := ⟨_, rfl⟩
          obtain ⟨NF, hNa⟩ : ∃ NF, NF = v4.heap.size := ⟨_, rfl⟩
          have kF : v33.heap[NF]? = some (Obj.cells #[.int .i64 0] 2) := by rw [hWa]; exact FNew.heap_top hNa
          have lmF : wD.heap.size ≤ NF := by rw [hNa]; exact lmS
          clear lmS
          rw [← hWa] at belD
          (try dsimp only at hHeld2)
          simp only [← hWa, ← hNa] at hHeld2 ⊢
          clear hWa hNa
          have hHeld := hHeld2
          clear hHeld2
          (try simp only [Act.put, List.setIfInBounds_toArray, List.set_cons_zero, List.set_cons_succ, List.getElem_toArray, List.getElem_cons_succ, List.getElem_cons_zero])
          refine wpAnyH_ready (rs := [4, 7]) ?_ (by simp) ?_
          · decide +kernel
          refine AllReadyH.cons rfl (fun K hK => ?_) (AllReadyH.cons rfl (fun K hK => ?_) AllReadyH.nil)
          · go_simp
            go_at_call 105
            refine (shapeOf).mono ?_
            rintro e v34 ⟨rfl, bel⟩
            replace belD := belD.trans (bel.mono belD.size)
            replace kF := heap_keep bel kF
            refine hK.out _ _ ?_ (fun hHeld2 => ?_)
            · (try dsimp only); exact next6_0 belD HD0.out
            clear hK K hHeld bel
            have hHeld := hHeld2
            clear hHeld2
            (try simp only [Act.put, List.setIfInBounds_toArray, List.set_cons_zero, List.set_cons_succ, List.getElem_toArray, List.getElem_cons_succ, List.getElem_cons_zero])
            refine wpAnyH_ready (rs := [5, 7]) ?_ (by simp) ?_
            · decide +kernel
            refine AllReadyH.cons rfl (fun K hK => ?_) (AllReadyH.cons rfl (fun K hK => ?_) AllReadyH.nil)
            · go_simp
              go_at_call 101
              refine (wideL HR2.out HLB.out).mono ?_
              rintro e v35 ⟨rfl, bel⟩
              replace belD := belD.trans (bel.mono belD.size)
              replace kF := heap_keep bel kF
              refine hK.out _ _ ?_ (fun hHeld2 => ?_)
              · (try dsimp only); exact next6_0 belD HD0.out
              clear hK K hHeld bel
              have hHeld := hHeld2
              clear hHeld2
              (try simp only [Act.put, List.setIfInBounds_toArray, List.set_cons_zero, List.set_cons_succ, List.getElem_toArray, List.getElem_cons_succ, List.getElem_cons_zero])
              refine wpAnyH_ready (rs := [7]) ?_ (by simp) ?_
              · decide +kernel
              refine AllReadyH.cons rfl (fun K hK => ?_) AllReadyH.nil
              go_simp
              have bel := below1 v35 (Obj.cells #[.int .i64 0] 2)
              have lmS := belD.size
              have ltF := (heap_lt kF)
              replace belD := belD.trans (bel.mono belD.size)
              replace kF := heap_keep bel kF
              refine hK.out _ _ ?_ (fun hHeld2 => ?_)
              · (try dsimp only); exact next6_0 belD HD0.out
              clear hK K hHeld bel
              obtain ⟨v36, hWa⟩ : ∃ v36, v36 = v35.alloc (Obj.cells #[.int .i64 0] 2) := ⟨_, rfl⟩
              obtain ⟨NS, hNa⟩ : ∃ NS, NS = v35.heap.size := ⟨_, rfl⟩
              have kQ : v36.heap[NS]? = some (Obj.cells #[.int .i64 0] 2) := by rw [hWa]; exact FNew.heap_top hNa
              have lmQ : wD.heap.size ≤ NS := by rw [hNa]; exact lmS
              clear lmS
              have nF_Q : NF ≠ NS := by rw [hNa]; exact Nat.ne_of_lt ltF
              clear ltF
              rw [← hWa] at belD kF
              (try dsimp only at hHeld2)
              simp only [← hWa, ← hNa] at hHeld2 ⊢
              clear hWa hNa
              have hHeld := hHeld2
              clear hHeld2
              (try simp only [Act.put, List.setIfInBounds_toArray, List.set_cons_zero, List.set_cons_succ, List.getElem_toArray, List.getElem_cons_succ, List.getElem_cons_zero])
              refine wpAnyH_ready (rs := [8]) ?_ (by simp) ?_
              · decide +kernel
              refine AllReadyH.cons rfl (fun K hK => ?_) AllReadyH.nil
              have y0 : v36.cell? ⟨NF, 0, none⟩ = some (.int .i64 0) := Go.Joins.cell_of_block kF 0
              have g0 : v36.frozen? ⟨NF, 0, none⟩ = false := Go.Joins.unfrozen_of_block kF 0
              have HKF := hid kF
              clear kF
              have HKQ := hid kQ
              clear kQ
              go_simp
              clear y0 g0
              have qF := (Go.Joins.block_setCell (i := 0) HKF.out (.int .i64 LA))
              have bz := (belD.setCell (p := ⟨NF, 0, none⟩) lmF (.int .i64 LA))
              have qQ := ((Below.heap_setCell _ ⟨NF, 0, none⟩ (.int .i64 LA) _ (Ne.symm nF_Q)).trans HKQ.out)
              obtain ⟨v37, hW5⟩ : ∃ v37, v37 = (v36.setCell ⟨NF, 0, none⟩ (.int .i64 LA)) := ⟨_, rfl⟩
              rw [← hW5] at qF bz qQ
              clear HKF belD HKQ
              have kF : v37.heap[NF]? = some (Obj.cells #[.int .i64 LA] 2) := qF
              have belD := bz
              have kQ := qQ
              clear qF bz qQ
              refine hK.out _ _ ?_ (fun hHeld2 => ?_)
              · (try dsimp only); rw [← hW5]; exact next6_0 belD HD0.out
              clear hK K hHeld
              (try dsimp only at hHeld2)
              simp only [← hW5] at hHeld2 ⊢
              clear hW5
              have hHeld := hHeld2
              clear hHeld2
              (try simp only [Act.put, List.setIfInBounds_toArray, List.set_cons_zero, List.set_cons_succ, List.getElem_toArray, List.getElem_cons_succ, List.getElem_cons_zero])
              refine wpAnyH_ready (rs := [9]) ?_ (by simp) ?_
              · decide +kernel
              refine AllReadyH.cons rfl (fun K hK => ?_) AllReadyH.nil
              have y0 : v37.cell? ⟨NS, 0, none⟩ = some (.int .i64 0) := Go.Joins.cell_of_block kQ 0
              have g0 : v37.frozen? ⟨NS, 0, none⟩ = false := Go.Joins.unfrozen_of_block kQ 0
              have HKQ := hid kQ
              clear kQ
              have HKF := hid kF
              clear kF
              go_simp
              clear y0 g0
              have qQ := (Go.Joins.block_setCell (i := 0) HKQ.out (.int .i64 LB))
              have bz := (belD.setCell (p := ⟨NS, 0, none⟩) lmQ (.int .i64 LB))
              have qF := ((Below.heap_setCell _ ⟨NS, 0, none⟩ (.int .i64 LB) _ nF_Q).trans HKF.out)
              obtain ⟨v38, hW5⟩ : ∃ v38, v38 = (v37.setCell ⟨NS, 0, none⟩ (.int .i64 LB)) := ⟨_, rfl⟩
              rw [← hW5] at qQ bz qF
              clear HKQ belD HKF
              have kQ : v38.heap[NS]? = some (Obj.cells #[.int .i64 LB] 2) := qQ
              have belD := bz
              have kF := qF
              clear qQ bz qF
              refine hK.out _ _ ?_ (fun hHeld2 => ?_)
              · (try dsimp only); rw [← hW5]; exact next6_0 belD HD0.out
              clear hK K hHeld
              (try dsimp only at hHeld2)
              simp only [← hW5] at hHeld2 ⊢
              clear hW5
              have hHeld := hHeld2
              clear hHeld2
              (try simp only [Act.put, List.setIfInBounds_toArray, List.set_cons_zero, List.set_cons_succ, List.getElem_toArray, List.getElem_cons_succ, List.getElem_cons_zero])
              refine wpAnyH_done (by kernel_rfl) ?_ _
              have hx := next6_0 belD HD0.out
              have kTx := heap_keep belD HKT.out
              have cFx : v38.cell? ⟨NF, 0, none⟩ = some (.int .i64 LA) := Go.Joins.cell_of_block kF 0
              have cSx : v38.cell? ⟨NS, 0, none⟩ = some (.int .i64 LB) := Go.Joins.cell_of_block kQ 0
              exact ⟨rfl, NF, NS, rfl, hx, kTx, cFx, cSx⟩
            · go_simp
              have bel := below1 v34 (Obj.cells #[.int .i64 0] 2)
              have lmS := belD.size
              have ltF := (heap_lt kF)
              replace belD := belD.trans (bel.mono belD.size)
              replace kF := heap_keep bel kF
              refine hK.out _ _ ?_ (fun hHeld2 => ?_)
              · (try dsimp only); exact next6_0 belD HD0.out
              clear hK K hHeld bel
              obtain ⟨v39, hWa⟩ : ∃ v39, v39 = v34.alloc (Obj.cells #[.int .i64 0] 2) := ⟨_, rfl⟩
              obtain ⟨NS, hNa⟩ : ∃ NS, NS = v34.heap.size := ⟨_, rfl⟩
              have kQ : v39.heap[NS]? = some (Obj.cells #[.int .i64 0] 2) := by rw [hWa]; exact FNew.heap_top hNa
              have lmQ : wD.heap.size ≤ NS := by rw [hNa]; exact lmS
              clear lmS
              have nF_Q : NF ≠ NS := by rw [hNa]; exact Nat.ne_of_lt ltF
              clear ltF
              rw [← hWa] at belD kF
              (try dsimp only at hHeld2)
              simp only [← hWa, ← hNa] at hHeld2 ⊢
              clear hWa hNa
              have hHeld := hHeld2
              clear hHeld2
              (try simp only [Act.put, List.setIfInBounds_toArray, List.set_cons_zero, List.set_cons_succ, List.getElem_toArray, List.getElem_cons_succ, List.getElem_cons_zero])
              refine wpAnyH_ready (rs := [5]) ?_ (by simp) ?_
              · decide +kernel
              refine AllReadyH.cons rfl (fun K hK => ?_) AllReadyH.nil
              go_simp
              go_at_call 101
              refine (wideL HR2.out HLB.out).mono ?_
              rintro e v40 ⟨rfl, bel⟩
              replace belD := belD.trans (bel.mono belD.size)
              replace kF := heap_keep bel kF
              replace kQ := heap_keep bel kQ
              refine hK.out _ _ ?_ (fun hHeld2 => ?_)
              · (try dsimp only); exact next6_0 belD HD0.out
              clear hK K hHeld bel
              have hHeld := hHeld2
              clear hHeld2
              (try simp only [Act.put, List.setIfInBounds_toArray, List.set_cons_zero, List.set_cons_succ, List.getElem_toArray, List.getElem_cons_succ, List.getElem_cons_zero])
              refine wpAnyH_ready (rs := [8]) ?_ (by simp) ?_
              · decide +kernel
              refine AllReadyH.cons rfl (fun K hK => ?_) AllReadyH.nil
              have y0 : v40.cell? ⟨NF, 0, none⟩ = some (.int .i64 0) := Go.Joins.cell_of_block kF 0
              have g0 : v40.frozen? ⟨NF, 0, none⟩ = false := Go.Joins.unfrozen_of_block kF 0
              have HKF := hid kF
              clear kF
              have HKQ := hid kQ
              clear kQ
              go_simp
              clear y0 g0
              have qF := (Go.Joins.block_setCell (i := 0) HKF.out (.int .i64 LA))
              have bz := (belD.setCell (p := ⟨NF, 0, none⟩) lmF (.int .i64 LA))
              have qQ := ((Below.heap_setCell _ ⟨NF, 0, none⟩ (.int .i64 LA) _ (Ne.symm nF_Q)).trans HKQ.out)
              obtain ⟨v41, hW5⟩ : ∃ v41, v41 = (v40.setCell ⟨NF, 0, none⟩ (.int .i64 LA)) := ⟨_, rfl⟩
              rw [← hW5] at qF bz qQ
              clear HKF belD HKQ
              have kF : v41.heap[NF]? = some (Obj.cells #[.int .i64 LA] 2) := qF
              have belD := bz
              have kQ := qQ
              clear qF bz qQ
              refine hK.out _ _ ?_ (fun hHeld2 => ?_)
              · (try dsimp only); rw [← hW5]; exact next6_0 belD HD0.out
              clear hK K hHeld
              (try dsimp only at hHeld2)
              simp only [← hW5] at hHeld2 ⊢
              clear hW5
              have hHeld := hHeld2
              clear hHeld2
              (try simp only [Act.put, List.setIfInBounds_toArray, List.set_cons_zero, List.set_cons_succ, List.getElem_toArray, List.getElem_cons_succ, List.getElem_cons_zero])
              refine wpAnyH_ready (rs := [9]) ?_ (by simp) ?_
              · decide +kernel
              refine AllReadyH.cons rfl (fun K hK => ?_) AllReadyH.nil
              have y0 : v41.cell? ⟨NS, 0, none⟩ = some (.int .i64 0) := Go.Joins.cell_of_block kQ 0
              have g0 : v41.frozen? ⟨NS, 0, none⟩ = false := Go.Joins.unfrozen_of_block kQ 0
              have HKQ := hid kQ
              clear kQ
              have HKF := hid kF
              clear kF
              go_simp
              clear y0 g0
              have qQ := (Go.Joins.block_setCell (i := 0) HKQ.out (.int .i64 LB))
              have bz := (belD.setCell (p := ⟨NS, 0, none⟩) lmQ (.int .i64 LB))
              have qF := ((Below.heap_setCell _ ⟨NS, 0, none⟩ (.int .i64 LB) _ nF_Q).trans HKF.out)
              obtain ⟨v42, hW5⟩ : ∃ v42, v42 = (v41.setCell ⟨NS, 0, none⟩ (.int .i64 LB)) := ⟨_, rfl⟩
              rw [← hW5] at qQ bz qF
              clear HKQ belD HKF
              have kQ : v42.heap[NS]? = some (Obj.cells #[.int .i64 LB] 2) := qQ
              have belD := bz
              have kF := qF
              clear qQ bz qF
              refine hK.out _ _ ?_ (fun hHeld2 => ?_)
              · (try dsimp only); rw [← hW5]; exact next6_0 belD HD0.out
              clear hK K hHeld
              (try dsimp only at hHeld2)
              simp only [← hW5] at hHeld2 ⊢
              clear hW5
              have hHeld := hHeld2
              clear hHeld2
              (try simp only [Act.put, List.setIfInBounds_toArray, List.set_cons_zero, List.set_cons_succ, List.getElem_toArray, List.getElem_cons_succ, List.getElem_cons_zero])
              refine wpAnyH_done (by kernel_rfl) ?_ _
              have hx := next6_0 belD HD0.out
              have kTx := heap_keep belD HKT.out
              have cFx : v42.cell? ⟨NF, 0, none⟩ = some (.int .i64 LA) := Go.Joins.cell_of_block kF 0
              have cSx : v42.cell? ⟨NS, 0, none⟩ = some (.int .i64 LB) := Go.Joins.cell_of_block kQ 0
              exact ⟨rfl, NF, NS, rfl, hx, kTx, cFx, cSx⟩
          · go_simp
            have bel := below1 v33 (Obj.cells #[.int .i64 0] 2)
            have lmS := belD.size
            have ltF := (heap_lt kF)
            replace belD := belD.trans (bel.mono belD.size)
            replace kF := heap_keep bel kF
            refine hK.out _ _ ?_ (fun hHeld2 => ?_)
            · (try dsimp only); exact next6_0 belD HD0.out
            clear hK K hHeld bel
            obtain ⟨v43, hWa⟩ : ∃ v43, v43 = v33.alloc (Obj.cells #[.int .i64 0] 2) := ⟨_, rfl⟩
            obtain ⟨NS, hNa⟩ : ∃ NS, NS = v33.heap.size := ⟨_, rfl⟩
            have kQ : v43.heap[NS]? = some (Obj.cells #[.int .i64 0] 2) := by rw [hWa]; exact FNew.heap_top hNa
            have lmQ : wD.heap.size ≤ NS := by rw [hNa]; exact lmS
            clear lmS
            have nF_Q : NF ≠ NS := by rw [hNa]; exact Nat.ne_of_lt ltF
            clear ltF
            rw [← hWa] at belD kF
            (try dsimp only at hHeld2)
            simp only [← hWa, ← hNa] at hHeld2 ⊢
            clear hWa hNa
            have hHeld := hHeld2
            clear hHeld2
            (try simp only [Act.put, List.setIfInBounds_toArray, List.set_cons_zero, List.set_cons_succ, List.getElem_toArray, List.getElem_cons_succ, List.getElem_cons_zero])
            refine wpAnyH_ready (rs := [4]) ?_ (by simp) ?_
            · decide +kernel
            refine AllReadyH.cons rfl (fun K hK => ?_) AllReadyH.nil
            go_simp
            go_at_call 105
            refine (shapeOf).mono ?_
            rintro e v44 ⟨rfl, bel⟩
            replace belD := belD.trans (bel.mono belD.size)
            replace kF := heap_keep bel kF
            replace kQ := heap_keep bel kQ
            refine hK.out _ _ ?_ (fun hHeld2 => ?_)
            · (try dsimp only); exact next6_0 belD HD0.out
            clear hK K hHeld bel
            have hHeld := hHeld2
            clear hHeld2
            (try simp only [Act.put, List.setIfInBounds_toArray, List.set_cons_zero, List.set_cons_succ, List.getElem_toArray, List.getElem_cons_succ, List.getElem_cons_zero])
            refine wpAnyH_ready (rs := [5]) ?_ (by simp) ?_
            · decide +kernel
            refine AllReadyH.cons rfl (fun K hK => ?_) AllReadyH.nil
            go_simp
            go_at_call 101
            refine (wideL HR2.out HLB.out).mono ?_
            rintro e v45 ⟨rfl, bel⟩
            replace belD := belD.trans (bel.mono belD.size)
            replace kF := heap_keep bel kF
            replace kQ := heap_keep bel kQ
            refine hK.out _ _ ?_ (fun hHeld2 => ?_)
            · (try dsimp only); exact next6_0 belD HD0.out
            clear hK K hHeld bel
            have hHeld := hHeld2
            clear hHeld2
            (try simp only [Act.put, List.setIfInBounds_toArray, List.set_cons_zero, List.set_cons_succ, List.getElem_toArray, List.getElem_cons_succ, List.getElem_cons_zero])
            refine wpAnyH_ready (rs := [8]) ?_ (by simp) ?_
            · decide +kernel
            refine AllReadyH.cons rfl (fun K hK => ?_) AllReadyH.nil
            have y0 : v45.cell? ⟨NF, 0, none⟩ = some (.int .i64 0) := Go.Joins.cell_of_block kF 0
            have g0 : v45.frozen? ⟨NF, 0, none⟩ = false := Go.Joins.unfrozen_of_block kF 0
            have HKF := hid kF
            clear kF
            have HKQ := hid kQ
            clear kQ
            go_simp
            clear y0 g0
            have qF := (Go.Joins.block_setCell (i := 0) HKF.out (.int .i64 LA))
            have bz := (belD.setCell (p := ⟨NF, 0, none⟩) lmF (.int .i64 LA))
            have qQ := ((Below.heap_setCell _ ⟨NF, 0, none⟩ (.int .i64 LA) _ (Ne.symm nF_Q)).trans HKQ.out)
            obtain ⟨v46, hW5⟩ : ∃ v46, v46 = (v45.setCell ⟨NF, 0, none⟩ (.int .i64 LA)) := ⟨_, rfl⟩
            rw [← hW5] at qF bz qQ
            clear HKF belD HKQ
            have kF : v46.heap[NF]? = some (Obj.cells #[.int .i64 LA] 2) := qF
            have belD := bz
            have kQ := qQ
            clear qF bz qQ
            refine hK.out _ _ ?_ (fun hHeld2 => ?_)
            · (try dsimp only); rw [← hW5]; exact next6_0 belD HD0.out
            clear hK K hHeld
            (try dsimp only at hHeld2)
            simp only [← hW5] at hHeld2 ⊢
            clear hW5
            have hHeld := hHeld2
            clear hHeld2
            (try simp only [Act.put, List.setIfInBounds_toArray, List.set_cons_zero, List.set_cons_succ, List.getElem_toArray, List.getElem_cons_succ, List.getElem_cons_zero])
            refine wpAnyH_ready (rs := [9]) ?_ (by simp) ?_
            · decide +kernel
            refine AllReadyH.cons rfl (fun K hK => ?_) AllReadyH.nil
            have y0 : v46.cell? ⟨NS, 0, none⟩ = some (.int .i64 0) := Go.Joins.cell_of_block kQ 0
            have g0 : v46.frozen? ⟨NS, 0, none⟩ = false := Go.Joins.unfrozen_of_block kQ 0
            have HKQ := hid kQ
            clear kQ
            have HKF := hid kF
            clear kF
            go_simp
            clear y0 g0
            have qQ := (Go.Joins.block_setCell (i := 0) HKQ.out (.int .i64 LB))
            have bz := (belD.setCell (p := ⟨NS, 0, none⟩) lmQ (.int .i64 LB))
            have qF := ((Below.heap_setCell _ ⟨NS, 0, none⟩ (.int .i64 LB) _ nF_Q).trans HKF.out)
            obtain ⟨v47, hW5⟩ : ∃ v47, v47 = (v46.setCell ⟨NS, 0, none⟩ (.int .i64 LB)) := ⟨_, rfl⟩
            rw [← hW5] at qQ bz qF
            clear HKQ belD HKF
            have kQ : v47.heap[NS]? = some (Obj.cells #[.int .i64 LB] 2) := qQ
            have belD := bz
            have kF := qF
            clear qQ bz qF
            refine hK.out _ _ ?_ (fun hHeld2 => ?_)
            · (try dsimp only); rw [← hW5]; exact next6_0 belD HD0.out
            clear hK K hHeld
            (try dsimp only at hHeld2)
            simp only [← hW5] at hHeld2 ⊢
            clear hW5
            have hHeld := hHeld2
            clear hHeld2
            (try simp only [Act.put, List.setIfInBounds_toArray, List.set_cons_zero, List.set_cons_succ, List.getElem_toArray, List.getElem_cons_succ, List.getElem_cons_zero])
            refine wpAnyH_done (by kernel_rfl) ?_ _
            have hx := next6_0 belD HD0.out
            have kTx := heap_keep belD HKT.out
            have cFx : v47.cell? ⟨NF, 0, none⟩ = some (.int .i64 LA) := Go.Joins.cell_of_block kF 0
            have cSx : v47.cell? ⟨NS, 0, none⟩ = some (.int .i64 LB) := Go.Joins.cell_of_block kQ 0
            exact ⟨rfl, NF, NS, rfl, hx, kTx, cFx, cSx⟩
        · go_simp
          have bel := below1 v4 (Obj.cells #[.int .i64 0] 2)
          have lmS := belD.size
          replace belD := belD.trans (bel.mono belD.size)
          refine hK.out _ _ ?_ (fun hHeld2 => ?_)
          · (try dsimp only); exact next6_0 belD HD0.out
          clear hK K hHeld bel
          obtain ⟨v48, hWa⟩ : ∃ v48, v48 = v4.alloc (Obj.cells #[.int .i64 0] 2) := ⟨_, rfl⟩
          obtain ⟨NS, hNa⟩ : ∃ NS, NS = v4.heap.size := ⟨_, rfl⟩
          have kQ : v48.heap[NS]? = some (Obj.cells #[.int .i64 0] 2) := by rw [hWa]; exact FNew.heap_top hNa
          have lmQ : wD.heap.size ≤ NS := by rw [hNa]; exact lmS
          clear lmS
          rw [← hWa] at belD
          (try dsimp only at hHeld2)
          simp only [← hWa, ← hNa] at hHeld2 ⊢
          clear hWa hNa
          have hHeld := hHeld2
          clear hHeld2
          (try simp only [Act.put, List.setIfInBounds_toArray, List.set_cons_zero, List.set_cons_succ, List.getElem_toArray, List.getElem_cons_succ, List.getElem_cons_zero])
          refine wpAnyH_ready (rs := [4, 6]) ?_ (by simp) ?_
          · decide +kernel
          refine AllReadyH.cons rfl (fun K hK => ?_) (AllReadyH.cons rfl (fun K hK => ?_) AllReadyH.nil)
          · go_simp
            go_at_call 105
            refine (shapeOf).mono ?_
            rintro e v49 ⟨rfl, bel⟩
            replace belD := belD.trans (bel.mono belD.size)
            replace kQ := heap_keep bel kQ
            refine hK.out _ _ ?_ (fun hHeld2 => ?_)
            · (try dsimp only); exact next6_0 belD HD0.out
            clear hK K hHeld bel
            have hHeld := hHeld2
            clear hHeld2
            (try simp only [Act.put, List.setIfInBounds_toArray, List.set_cons_zero, List.set_cons_succ, List.getElem_toArray, List.getElem_cons_succ, List.getElem_cons_zero])
            refine wpAnyH_ready (rs := [5, 6]) ?_ (by simp) ?_
            · decide +kernel
            refine AllReadyH.cons rfl (fun K hK => ?_) (AllReadyH.cons rfl (fun K hK => ?_) AllReadyH.nil)
            · go_simp
              go_at_call 101
              refine (wideL HR2.out HLB.out).mono ?_
              rintro e v50 ⟨rfl, bel⟩
              replace belD := belD.trans (bel.mono belD.size)
              replace kQ := heap_keep bel kQ
              refine hK.out _ _ ?_ (fun hHeld2 => ?_)
              · (try dsimp only); exact next6_0 belD HD0.out
              clear hK K hHeld bel
              have hHeld := hHeld2
              clear hHeld2
              (try simp only [Act.put, List.setIfInBounds_toArray, List.set_cons_zero, List.set_cons_succ, List.getElem_toArray, List.getElem_cons_succ, List.getElem_cons_zero])
              refine wpAnyH_ready (rs := [6]) ?_ (by simp) ?_
              · decide +kernel
              refine AllReadyH.cons rfl (fun K hK => ?_) AllReadyH.nil
              go_simp
              have bel := below1 v50 (Obj.cells #[.int .i64 0] 2)
              have lmS := belD.size
              have ltQ := (heap_lt kQ)
              replace belD := belD.trans (bel.mono belD.size)
              replace kQ := heap_keep bel kQ
              refine hK.out _ _ ?_ (fun hHeld2 => ?_)
              · (try dsimp only); exact next6_0 belD HD0.out
              clear hK K hHeld bel
              obtain ⟨v51, hWa⟩ : ∃ v51, v51 = v50.alloc (Obj.cells #[.int .i64 0] 2) := ⟨_, rfl⟩
              obtain ⟨NF, hNa⟩ : ∃ NF, NF = v50.heap.size := ⟨_, rfl⟩
              have kF : v51.heap[NF]? = some (Obj.cells #[.int .i64 0] 2) := by rw [hWa]; exact FNew.heap_top hNa
              have lmF : wD.heap.size ≤ NF := by rw [hNa]; exact lmS
              clear lmS
              have nQ_F : NS ≠ NF := by rw [hNa]; exact Nat.ne_of_lt ltQ
              clear ltQ
              rw [← hWa] at belD kQ
              (try dsimp only at hHeld2)
              simp only [← hWa, ← hNa] at hHeld2 ⊢
              clear hWa hNa
              have hHeld := hHeld2
              clear hHeld2
              (try simp only [Act.put, List.setIfInBounds_toArray, List.set_cons_zero, List.set_cons_succ, List.getElem_toArray, List.getElem_cons_succ, List.getElem_cons_zero])
              refine wpAnyH_ready (rs := [8]) ?_ (by simp) ?_
              · decide +kernel
              refine AllReadyH.cons rfl (fun K hK => ?_) AllReadyH.nil
              have y0 : v51.cell? ⟨NF, 0, none⟩ = some (.int .i64 0) := Go.Joins.cell_of_block kF 0
              have g0 : v51.frozen? ⟨NF, 0, none⟩ = false := Go.Joins.unfrozen_of_block kF 0
              have HKF := hid kF
              clear kF
              have HKQ := hid kQ
              clear kQ
              go_simp
              clear y0 g0
              have qF := (Go.Joins.block_setCell (i := 0) HKF.out (.int .i64 LA))
              have bz := (belD.setCell (p := ⟨NF, 0, none⟩) lmF (.int .i64 LA))
              have qQ := ((Below.heap_setCell _ ⟨NF, 0, none⟩ (.int .i64 LA) _ nQ_F).trans HKQ.out)
              obtain ⟨v52, hW5⟩ : ∃ v52, v52 = (v51.setCell ⟨NF, 0, none⟩ (.int .i64 LA)) := ⟨_, rfl⟩
              rw [← hW5] at qF bz qQ
              clear HKF belD HKQ
              have kF : v52.heap[NF]? = some (Obj.cells #[.int .i64 LA] 2) := qF
              have belD := bz
              have kQ := qQ
              clear qF bz qQ
              refine hK.out _ _ ?_ (fun hHeld2 => ?_)
              · (try dsimp only); rw [← hW5]; exact next6_0 belD HD0.out
              clear hK K hHeld
              (try dsimp only at hHeld2)
              simp only [← hW5] at hHeld2 ⊢
              clear hW5
              have hHeld := hHeld2
              clear hHeld2
              (try simp only [Act.put, List.setIfInBounds_toArray, List.set_cons_zero, List.set_cons_succ, List.getElem_toArray, List.getElem_cons_succ, List.getElem_cons_zero])
              refine wpAnyH_ready (rs := [9]) ?_ (by simp) ?_
              · decide +kernel
              refine AllReadyH.cons rfl (fun K hK => ?_) AllReadyH.nil
              have y0 : v52.cell? ⟨NS, 0, none⟩ = some (.int .i64 0) := Go.Joins.cell_of_block kQ 0
              have g0 : v52.frozen? ⟨NS, 0, none⟩ = false := Go.Joins.unfrozen_of_block kQ 0
              have HKQ := hid kQ
              clear kQ
              have HKF := hid kF
              clear kF
              go_simp
              clear y0 g0
              have qQ := (Go.Joins.block_setCell (i := 0) HKQ.out (.int .i64 LB))
              have bz := (belD.setCell (p := ⟨NS, 0, none⟩) lmQ (.int .i64 LB))
              have qF := ((Below.heap_setCell _ ⟨NS, 0, none⟩ (.int .i64 LB) _ (Ne.symm nQ_F)).trans HKF.out)
              obtain ⟨v53, hW5⟩ : ∃ v53, v53 = (v52.setCell ⟨NS, 0, none⟩ (.int .i64 LB)) := ⟨_, rfl⟩
              rw [← hW5] at qQ bz qF
              clear HKQ belD HKF
              have kQ : v53.heap[NS]? = some (Obj.cells #[.int .i64 LB] 2) := qQ
              have belD := bz
              have kF := qF
              clear qQ bz qF
              refine hK.out _ _ ?_ (fun hHeld2 => ?_)
              · (try dsimp only); rw [← hW5]; exact next6_0 belD HD0.out
              clear hK K hHeld
              (try dsimp only at hHeld2)
              simp only [← hW5] at hHeld2 ⊢
              clear hW5
              have hHeld := hHeld2
              clear hHeld2
              (try simp only [Act.put, List.setIfInBounds_toArray, List.set_cons_zero, List.set_cons_succ, List.getElem_toArray, List.getElem_cons_succ, List.getElem_cons_zero])
              refine wpAnyH_done (by kernel_rfl) ?_ _
              have hx := next6_0 belD HD0.out
              have kTx := heap_keep belD HKT.out
              have cFx : v53.cell? ⟨NF, 0, none⟩ = some (.int .i64 LA) := Go.Joins.cell_of_block kF 0
              have cSx : v53.cell? ⟨NS, 0, none⟩ = some (.int .i64 LB) := Go.Joins.cell_of_block kQ 0
              exact ⟨rfl, NF, NS, rfl, hx, kTx, cFx, cSx⟩
            · go_simp
              have bel := below1 v49 (Obj.cells #[.int .i64 0] 2)
              have lmS := belD.size
              have ltQ := (heap_lt kQ)
              replace belD := belD.trans (bel.mono belD.size)
              replace kQ := heap_keep bel kQ
              refine hK.out _ _ ?_ (fun hHeld2 => ?_)
              · (try dsimp only); exact next6_0 belD HD0.out
              clear hK K hHeld bel
              obtain ⟨v54, hWa⟩ : ∃ v54, v54 = v49.alloc (Obj.cells #[.int .i64 0] 2) := ⟨_, rfl⟩
              obtain ⟨NF, hNa⟩ : ∃ NF, NF = v49.heap.size := ⟨_, rfl⟩
              have kF : v54.heap[NF]? = some (Obj.cells #[.int .i64 0] 2) := by rw [hWa]; exact FNew.heap_top hNa
              have lmF : wD.heap.size ≤ NF := by rw [hNa]; exact lmS
              clear lmS
              have nQ_F : NS ≠ NF := by rw [hNa]; exact Nat.ne_of_lt ltQ
              clear ltQ
              rw [← hWa] at belD kQ
              (try dsimp only at hHeld2)
              simp only [← hWa, ← hNa] at hHeld2 ⊢
              clear hWa hNa
              have hHeld := hHeld2
              clear hHeld2
              (try simp only [Act.put, List.setIfInBounds_toArray, List.set_cons_zero, List.set_cons_succ, List.getElem_toArray, List.getElem_cons_succ, List.getElem_cons_zero])
              refine wpAnyH_ready (rs := [5]) ?_ (by simp) ?_
              · decide +kernel
              refine AllReadyH.cons rfl (fun K hK => ?_) AllReadyH.nil
              go_simp
              go_at_call 101
              refine (wideL HR2.out HLB.out).mono ?_
              rintro e v55 ⟨rfl, bel⟩
              replace belD := belD.trans (bel.mono belD.size)
              replace kQ := heap_keep bel kQ
              replace kF := heap_keep bel kF
              refine hK.out _ _ ?_ (fun hHeld2 => ?_)
              · (try dsimp only); exact next6_0 belD HD0.out
              clear hK K hHeld bel
              have hHeld := hHeld2
              clear hHeld2
              (try simp only [Act.put, List.setIfInBounds_toArray, List.set_cons_zero, List.set_cons_succ, List.getElem_toArray, List.getElem_cons_succ, List.getElem_cons_zero])
              refine wpAnyH_ready (rs := [8]) ?_ (by simp) ?_
              · decide +kernel
              refine AllReadyH.cons rfl (fun K hK => ?_) AllReadyH.nil
              have y0 : v55.cell? ⟨NF, 0, none⟩ = some (.int .i64 0) := Go.Joins.cell_of_block kF 0
              have g0 : v55.frozen? ⟨NF, 0, none⟩ = false := Go.Joins.unfrozen_of_block kF 0
              have HKF := hid kF
              clear kF
              have HKQ := hid kQ
              clear kQ
              go_simp
              clear y0 g0
              have qF := (Go.Joins.block_setCell (i := 0) HKF.out (.int .i64 LA))
              have bz := (belD.setCell (p := ⟨NF, 0, none⟩) lmF (.int .i64 LA))
              have qQ := ((Below.heap_setCell _ ⟨NF, 0, none⟩ (.int .i64 LA) _ nQ_F).trans HKQ.out)
              obtain ⟨v56, hW5⟩ : ∃ v56, v56 = (v55.setCell ⟨NF, 0, none⟩ (.int .i64 LA)) := ⟨_, rfl⟩
              rw [← hW5] at qF bz qQ
              clear HKF belD HKQ
              have kF : v56.heap[NF]? = some (Obj.cells #[.int .i64 LA] 2) := qF
              have belD := bz
              have kQ := qQ
              clear qF bz qQ
              refine hK.out _ _ ?_ (fun hHeld2 => ?_)
              · (try dsimp only); rw [← hW5]; exact next6_0 belD HD0.out
              clear hK K hHeld
              (try dsimp only at hHeld2)
              simp only [← hW5] at hHeld2 ⊢
              clear hW5
              have hHeld := hHeld2
              clear hHeld2
              (try simp only [Act.put, List.setIfInBounds_toArray, List.set_cons_zero, List.set_cons_succ, List.getElem_toArray, List.getElem_cons_succ, List.getElem_cons_zero])
              refine wpAnyH_ready (rs := [9]) ?_ (by simp) ?_
              · decide +kernel
              refine AllReadyH.cons rfl (fun K hK => ?_) AllReadyH.nil
              have y0 : v56.cell? ⟨NS, 0, none⟩ = some (.int .i64 0) := Go.Joins.cell_of_block kQ 0
              have g0 : v56.frozen? ⟨NS, 0, none⟩ = false := Go.Joins.unfrozen_of_block kQ 0
              have HKQ := hid kQ
              clear kQ
              have HKF := hid kF
              clear kF
              go_simp
              clear y0 g0
              have qQ := (Go.Joins.block_setCell (i := 0) HKQ.out (.int .i64 LB))
              have bz := (belD.setCell (p := ⟨NS, 0, none⟩) lmQ (.int .i64 LB))
              have qF := ((Below.heap_setCell _ ⟨NS, 0, none⟩ (.int .i64 LB) _ (Ne.symm nQ_F)).trans HKF.out)
              obtain ⟨v57, hW5⟩ : ∃ v57, v57 = (v56.setCell ⟨NS, 0, none⟩ (.int .i64 LB)) := ⟨_, rfl⟩
              rw [← hW5] at qQ bz qF
              clear HKQ belD HKF
              have kQ : v57.heap[NS]? = some (Obj.cells #[.int .i64 LB] 2) := qQ
              have belD := bz
              have kF := qF
              clear qQ bz qF
              refine hK.out _ _ ?_ (fun hHeld2 => ?_)
              · (try dsimp only); rw [← hW5]; exact next6_0 belD HD0.out
              clear hK K hHeld
              (try dsimp only at hHeld2)
              simp only [← hW5] at hHeld2 ⊢
              clear hW5
              have hHeld := hHeld2
              clear hHeld2
              (try simp only [Act.put, List.setIfInBounds_toArray, List.set_cons_zero, List.set_cons_succ, List.getElem_toArray, List.getElem_cons_succ, List.getElem_cons_zero])
              refine wpAnyH_done (by kernel_rfl) ?_ _
              have hx := next6_0 belD HD0.out
              have kTx := heap_keep belD HKT.out
              have cFx : v57.cell? ⟨NF, 0, none⟩ = some (.int .i64 LA) := Go.Joins.cell_of_block kF 0
              have cSx : v57.cell? ⟨NS, 0, none⟩ = some (.int .i64 LB) := Go.Joins.cell_of_block kQ 0
              exact ⟨rfl, NF, NS, rfl, hx, kTx, cFx, cSx⟩
          · go_simp
            have bel := below1 v48 (Obj.cells #[.int .i64 0] 2)
            have lmS := belD.size
            have ltQ := (heap_lt kQ)
            replace belD := belD.trans (bel.mono belD.size)
            replace kQ := heap_keep bel kQ
            refine hK.out _ _ ?_ (fun hHeld2 => ?_)
            · (try dsimp only); exact next6_0 belD HD0.out
            clear hK K hHeld bel
            obtain ⟨v58, hWa⟩ : ∃ v58, v58 = v48.alloc (Obj.cells #[.int .i64 0] 2) := ⟨_, rfl⟩
            obtain ⟨NF, hNa⟩ : ∃ NF, NF = v48.heap.size := ⟨_, rfl⟩
            have kF : v58.heap[NF]? = some (Obj.cells #[.int .i64 0] 2) := by rw [hWa]; exact FNew.heap_top hNa
            have lmF : wD.heap.size ≤ NF := by rw [hNa]; exact lmS
            clear lmS
            have nQ_F : NS ≠ NF := by rw [hNa]; exact Nat.ne_of_lt ltQ
            clear ltQ
            rw [← hWa] at belD kQ
            (try dsimp only at hHeld2)
            simp only [← hWa, ← hNa] at hHeld2 ⊢
            clear hWa hNa
            have hHeld := hHeld2
            clear hHeld2
            (try simp only [Act.put, List.setIfInBounds_toArray, List.set_cons_zero, List.set_cons_succ, List.getElem_toArray, List.getElem_cons_succ, List.getElem_cons_zero])
            refine wpAnyH_ready (rs := [4]) ?_ (by simp) ?_
            · decide +kernel
            refine AllReadyH.cons rfl (fun K hK => ?_) AllReadyH.nil
            go_simp
            go_at_call 105
            refine (shapeOf).mono ?_
            rintro e v59 ⟨rfl, bel⟩
            replace belD := belD.trans (bel.mono belD.size)
            replace kQ := heap_keep bel kQ
            replace kF := heap_keep bel kF
            refine hK.out _ _ ?_ (fun hHeld2 => ?_)
            · (try dsimp only); exact next6_0 belD HD0.out
            clear hK K hHeld bel
            have hHeld := hHeld2
            clear hHeld2
            (try simp only [Act.put, List.setIfInBounds_toArray, List.set_cons_zero, List.set_cons_succ, List.getElem_toArray, List.getElem_cons_succ, List.getElem_cons_zero])
            refine wpAnyH_ready (rs := [5]) ?_ (by simp) ?_
            · decide +kernel
            refine AllReadyH.cons rfl (fun K hK => ?_) AllReadyH.nil
            go_simp
            go_at_call 101
            refine (wideL HR2.out HLB.out).mono ?_
            rintro e v60 ⟨rfl, bel⟩
            replace belD := belD.trans (bel.mono belD.size)
            replace kQ := heap_keep bel kQ
            replace kF := heap_keep bel kF
            refine hK.out _ _ ?_ (fun hHeld2 => ?_)
            · (try dsimp only); exact next6_0 belD HD0.out
            clear hK K hHeld bel
            have hHeld := hHeld2
            clear hHeld2
            (try simp only [Act.put, List.setIfInBounds_toArray, List.set_cons_zero, List.set_cons_succ, List.getElem_toArray, List.getElem_cons_succ, List.getElem_cons_zero])
            refine wpAnyH_ready (rs := [8]) ?_ (by simp) ?_
            · decide +kernel
            refine AllReadyH.cons rfl (fun K hK => ?_) AllReadyH.nil
            have y0 : v60.cell? ⟨NF, 0, none⟩ = some (.int .i64 0) := Go.Joins.cell_of_block kF 0
            have g0 : v60.frozen? ⟨NF, 0, none⟩ = false := Go.Joins.unfrozen_of_block kF 0
            have HKF := hid kF
            clear kF
            have HKQ := hid kQ
            clear kQ
            go_simp
            clear y0 g0
            have qF := (Go.Joins.block_setCell (i := 0) HKF.out (.int .i64 LA))
            have bz := (belD.setCell (p := ⟨NF, 0, none⟩) lmF (.int .i64 LA))
            have qQ := ((Below.heap_setCell _ ⟨NF, 0, none⟩ (.int .i64 LA) _ nQ_F).trans HKQ.out)
            obtain ⟨v61, hW5⟩ : ∃ v61, v61 = (v60.setCell ⟨NF, 0, none⟩ (.int .i64 LA)) := ⟨_, rfl⟩
            rw [← hW5] at qF bz qQ
            clear HKF belD HKQ
            have kF : v61.heap[NF]? = some (Obj.cells #[.int .i64 LA] 2) := qF
            have belD := bz
            have kQ := qQ
            clear qF bz qQ
            refine hK.out _ _ ?_ (fun hHeld2 => ?_)
            · (try dsimp only); rw [← hW5]; exact next6_0 belD HD0.out
            clear hK K hHeld
            (try dsimp only at hHeld2)
            simp only [← hW5] at hHeld2 ⊢
            clear hW5
            have hHeld := hHeld2
            clear hHeld2
            (try simp only [Act.put, List.setIfInBounds_toArray, List.set_cons_zero, List.set_cons_succ, List.getElem_toArray, List.getElem_cons_succ, List.getElem_cons_zero])
            refine wpAnyH_ready (rs := [9]) ?_ (by simp) ?_
            · decide +kernel
            refine AllReadyH.cons rfl (fun K hK => ?_) AllReadyH.nil
            have y0 : v61.cell? ⟨NS, 0, none⟩ = some (.int .i64 0) := Go.Joins.cell_of_block kQ 0
            have g0 : v61.frozen? ⟨NS, 0, none⟩ = false := Go.Joins.unfrozen_of_block kQ 0
            have HKQ := hid kQ
            clear kQ
            have HKF := hid kF
            clear kF
            go_simp
            clear y0 g0
            have qQ := (Go.Joins.block_setCell (i := 0) HKQ.out (.int .i64 LB))
            have bz := (belD.setCell (p := ⟨NS, 0, none⟩) lmQ (.int .i64 LB))
            have qF := ((Below.heap_setCell _ ⟨NS, 0, none⟩ (.int .i64 LB) _ (Ne.symm nQ_F)).trans HKF.out)
            obtain ⟨v62, hW5⟩ : ∃ v62, v62 = (v61.setCell ⟨NS, 0, none⟩ (.int .i64 LB)) := ⟨_, rfl⟩
            rw [← hW5] at qQ bz qF
            clear HKQ belD HKF
            have kQ : v62.heap[NS]? = some (Obj.cells #[.int .i64 LB] 2) := qQ
            have belD := bz
            have kF := qF
            clear qQ bz qF
            refine hK.out _ _ ?_ (fun hHeld2 => ?_)
            · (try dsimp only); rw [← hW5]; exact next6_0 belD HD0.out
            clear hK K hHeld
            (try dsimp only at hHeld2)
            simp only [← hW5] at hHeld2 ⊢
            clear hW5
            have hHeld := hHeld2
            clear hHeld2
            (try simp only [Act.put, List.setIfInBounds_toArray, List.set_cons_zero, List.set_cons_succ, List.getElem_toArray, List.getElem_cons_succ, List.getElem_cons_zero])
            refine wpAnyH_done (by kernel_rfl) ?_ _
            have hx := next6_0 belD HD0.out
            have kTx := heap_keep belD HKT.out
            have cFx : v62.cell? ⟨NF, 0, none⟩ = some (.int .i64 LA) := Go.Joins.cell_of_block kF 0
            have cSx : v62.cell? ⟨NS, 0, none⟩ = some (.int .i64 LB) := Go.Joins.cell_of_block kQ 0
            exact ⟨rfl, NF, NS, rfl, hx, kTx, cFx, cSx⟩
      · go_simp
        have bel := below1 v3 (Obj.cells #[.int .i64 0] 2)
        have lmS := belD.size
        replace belD := belD.trans (bel.mono belD.size)
        refine hK.out _ _ ?_ (fun hHeld2 => ?_)
        · (try dsimp only); exact next6_0 belD HD0.out
        clear hK K hHeld bel
        obtain ⟨v63, hWa⟩ : ∃ v63, v63 = v3.alloc (Obj.cells #[.int .i64 0] 2) := ⟨_, rfl⟩
        obtain ⟨NF, hNa⟩ : ∃ NF, NF = v3.heap.size := ⟨_, rfl⟩
        have kF : v63.heap[NF]? = some (Obj.cells #[.int .i64 0] 2) := by rw [hWa]; exact FNew.heap_top hNa
        have lmF : wD.heap.size ≤ NF := by rw [hNa]; exact lmS
        clear lmS
        rw [← hWa] at belD
        (try dsimp only at hHeld2)
        simp only [← hWa, ← hNa] at hHeld2 ⊢
        clear hWa hNa
        have hHeld := hHeld2
        clear hHeld2
        (try simp only [Act.put, List.setIfInBounds_toArray, List.set_cons_zero, List.set_cons_succ, List.getElem_toArray, List.getElem_cons_succ, List.getElem_cons_zero])
        refine wpAnyH_ready (rs := [2, 7]) ?_ (by simp) ?_
        · decide +kernel
        refine AllReadyH.cons rfl (fun K hK => ?_) (AllReadyH.cons rfl (fun K hK => ?_) AllReadyH.nil)
        · go_simp
          go_at_call 101
          refine (wideL HR1.out HLA.out).mono ?_
          rintro e v64 ⟨rfl, bel⟩
          replace belD := belD.trans (bel.mono belD.size)
          replace kF := heap_keep bel kF
          refine hK.out _ _ ?_ (fun hHeld2 => ?_)
          · (try dsimp only); exact next6_0 belD HD0.out
          clear hK K hHeld bel
          have hHeld := hHeld2
          clear hHeld2
          (try simp only [Act.put, List.setIfInBounds_toArray, List.set_cons_zero, List.set_cons_succ, List.getElem_toArray, List.getElem_cons_succ, List.getElem_cons_zero])
          refine wpAnyH_ready (rs := [4, 7]) ?_ (by simp) ?_
          · decide +kernel
          refine AllReadyH.cons rfl (fun K hK => ?_) (AllReadyH.cons rfl (fun K hK => ?_) AllReadyH.nil)
          · go_simp
            go_at_call 105
            refine (shapeOf).mono ?_
            rintro e v65 ⟨rfl, bel⟩
            replace belD := belD.trans (bel.mono belD.size)
            replace kF := heap_keep bel kF
            refine hK.out _ _ ?_ (fun hHeld2 => ?_)
            · (try dsimp only); exact next6_0 belD HD0.out
            clear hK K hHeld bel
            have hHeld := hHeld2
            clear hHeld2
            (try simp only [Act.put, List.setIfInBounds_toArray, List.set_cons_zero, List.set_cons_succ, List.getElem_toArray, List.getElem_cons_succ, List.getElem_cons_zero])
            refine wpAnyH_ready (rs := [5, 7]) ?_ (by simp) ?_
            · decide +kernel
            refine AllReadyH.cons rfl (fun K hK => ?_) (AllReadyH.cons rfl (fun K hK => ?_) AllReadyH.nil)
            · go_simp
              go_at_call 101
              refine (wideL HR2.out HLB.out).mono ?_
              rintro e v66 ⟨rfl, bel⟩
              replace belD := belD.trans (bel.mono belD.size)
              replace kF := heap_keep bel kF
              refine hK.out _ _ ?_ (fun hHeld2 => ?_)
              · (try dsimp only); exact next6_0 belD HD0.out
              clear hK K hHeld bel
              have hHeld := hHeld2
              clear hHeld2
              (try simp only [Act.put, List.setIfInBounds_toArray, List.set_cons_zero, List.set_cons_succ, List.getElem_toArray, List.getElem_cons_succ, List.getElem_cons_zero])
              refine wpAnyH_ready (rs := [7]) ?_ (by simp) ?_
              · decide +kernel
              refine AllReadyH.cons rfl (fun K hK => ?_) AllReadyH.nil
              go_simp
              have bel := below1 v66 (Obj.cells #[.int .i64 0] 2)
              have lmS := belD.size
              have ltF := (heap_lt kF)
              replace belD := belD.trans (bel.mono belD.size)
              replace kF := heap_keep bel kF
              refine hK.out _ _ ?_ (fun hHeld2 => ?_)
              · (try dsimp only); exact next6_0 belD HD0.out
              clear hK K hHeld bel
              obtain ⟨v67, hWa⟩ : ∃ v67, v67 = v66.alloc (Obj.cells #[.int .i64 0] 2) := ⟨_, rfl⟩
              obtain ⟨NS, hNa⟩ : ∃ NS, NS = v66.heap.size := ⟨_, rfl⟩
              have kQ : v67.heap[NS]? = some (Obj.cells #[.int .i64 0] 2) := by rw [hWa]; exact FNew.heap_top hNa
              have lmQ : wD.heap.size ≤ NS := by rw [hNa]; exact lmS
              clear lmS
              have nF_Q : NF ≠ NS := by rw [hNa]; exact Nat.ne_of_lt ltF
              clear ltF
              rw [← hWa] at belD kF
              (try dsimp only at hHeld2)
              simp only [← hWa, ← hNa] at hHeld2 ⊢
              clear hWa hNa
              have hHeld := hHeld2
              clear hHeld2
              (try simp only [Act.put, List.setIfInBounds_toArray, List.set_cons_zero, List.set_cons_succ, List.getElem_toArray, List.getElem_cons_succ, List.getElem_cons_zero])
              refine wpAnyH_ready (rs := [8]) ?_ (by simp) ?_
              · decide +kernel
              refine AllReadyH.cons rfl (fun K hK => ?_) AllReadyH.nil
              have y0 : v67.cell? ⟨NF, 0, none⟩ = some (.int .i64 0) := Go.Joins.cell_of_block kF 0
              have g0 : v67.frozen? ⟨NF, 0, none⟩ = false := Go.Joins.unfrozen_of_block kF 0
              have HKF := hid kF
              clear kF
              have HKQ := hid kQ
              clear kQ
              go_simp
              clear y0 g0
              have qF := (Go.Joins.block_setCell (i := 0) HKF.out (.int .i64 LA))
              have bz := (belD.setCell (p := ⟨NF, 0, none⟩) lmF (.int .i64 LA))
              have qQ := ((Below.heap_setCell _ ⟨NF, 0, none⟩ (.int .i64 LA) _ (Ne.symm nF_Q)).trans HKQ.out)
              obtain ⟨v68, hW5⟩ : ∃ v68, v68 = (v67.setCell ⟨NF, 0, none⟩ (.int .i64 LA)) := ⟨_, rfl⟩
              rw [← hW5] at qF bz qQ
              clear HKF belD HKQ
              have kF : v68.heap[NF]? = some (Obj.cells #[.int .i64 LA] 2) := qF
              have belD := bz
              have kQ := qQ
              clear qF bz qQ
              refine hK.out _ _ ?_ (fun hHeld2 => ?_)
              · (try dsimp only); rw [← hW5]; exact next6_0 belD HD0.out
              clear hK K hHeld
              (try dsimp only at hHeld2)
              simp only [← hW5] at hHeld2 ⊢
              clear hW5
              have hHeld := hHeld2
              clear hHeld2
              (try simp only [Act.put, List.setIfInBounds_toArray, List.set_cons_zero, List.set_cons_succ, List.getElem_toArray, List.getElem_cons_succ, List.getElem_cons_zero])
              refine wpAnyH_ready (rs := [9]) ?_ (by simp) ?_
              · decide +kernel
              refine AllReadyH.cons rfl (fun K hK => ?_) AllReadyH.nil
              have y0 : v68.cell? ⟨NS, 0, none⟩ = some (.int .i64 0) := Go.Joins.cell_of_block kQ 0
              have g0 : v68.frozen? ⟨NS, 0, none⟩ = false := Go.Joins.unfrozen_of_block kQ 0
              have HKQ := hid kQ
              clear kQ
              have HKF := hid kF
              clear kF
              go_simp
              clear y0 g0
              have qQ := (Go.Joins.block_setCell (i := 0) HKQ.out (.int .i64 LB))
              have bz := (belD.setCell (p := ⟨NS, 0, none⟩) lmQ (.int .i64 LB))
              have qF := ((Below.heap_setCell _ ⟨NS, 0, none⟩ (.int .i64 LB) _ nF_Q).trans HKF.out)
              obtain ⟨v69, hW5⟩ : ∃ v69, v69 = (v68.setCell ⟨NS, 0, none⟩ (.int .i64 LB)) := ⟨_, rfl⟩
              rw [← hW5] at qQ bz qF
              clear HKQ belD HKF
              have kQ : v69.heap[NS]? = some (Obj.cells #[.int .i64 LB] 2) := qQ
              have belD := bz
              have kF := qF
              clear qQ bz qF
              refine hK.out _ _ ?_ (fun hHeld2 => ?_)
              · (try dsimp only); rw [← hW5]; exact next6_0 belD HD0.out
              clear hK K hHeld
              (try dsimp only at hHeld2)
              simp only [← hW5] at hHeld2 ⊢
              clear hW5
              have hHeld := hHeld2
              clear hHeld2
              (try simp only [Act.put, List.setIfInBounds_toArray, List.set_cons_zero, List.set_cons_succ, List.getElem_toArray, List.getElem_cons_succ, List.getElem_cons_zero])
              refine wpAnyH_done (by kernel_rfl) ?_ _
              have hx := next6_0 belD HD0.out
              have kTx := heap_keep belD HKT.out
              have cFx : v69.cell? ⟨NF, 0, none⟩ = some (.int .i64 LA) := Go.Joins.cell_of_block kF 0
              have cSx : v69.cell? ⟨NS, 0, none⟩ = some (.int .i64 LB) := Go.Joins.cell_of_block kQ 0
              exact ⟨rfl, NF, NS, rfl, hx, kTx, cFx, cSx⟩
            · go_simp
              have bel := below1 v65 (Obj.cells #[.int .i64 0] 2)
              have lmS := belD.size
              have ltF := (heap_lt kF)
              replace belD := belD.trans (bel.mono belD.size)
              replace kF := heap_keep bel kF
              refine hK.out _ _ ?_ (fun hHeld2 => ?_)
              · (try dsimp only); exact next6_0 belD HD0.out
              clear hK K hHeld bel
              obtain ⟨v70, hWa⟩ : ∃ v70, v70 = v65.alloc (Obj.cells #[.int .i64 0] 2) := ⟨_, rfl⟩
              obtain ⟨NS, hNa⟩ : ∃ NS, NS = v65.heap.size := ⟨_, rfl⟩
              have kQ : v70.heap[NS]? = some (Obj.cells #[.int .i64 0] 2) := by rw [hWa]; exact FNew.heap_top hNa
              have lmQ : wD.heap.size ≤ NS := by rw [hNa]; exact lmS
              clear lmS
              have nF_Q : NF ≠ NS := by rw [hNa]; exact Nat.ne_of_lt ltF
              clear ltF
              rw [← hWa] at belD kF
              (try dsimp only at hHeld2)
              simp only [← hWa, ← hNa] at hHeld2 ⊢
              clear hWa hNa
              have hHeld := hHeld2
              clear hHeld2
              (try simp only [Act.put, List.setIfInBounds_toArray, List.set_cons_zero, List.set_cons_succ, List.getElem_toArray, List.getElem_cons_succ, List.getElem_cons_zero])
              refine wpAnyH_ready (rs := [5]) ?_ (by simp) ?_
              · decide +kernel
              refine AllReadyH.cons rfl (fun K hK => ?_) AllReadyH.nil
              go_simp
              go_at_call 101
              refine (wideL HR2.out HLB.out).mono ?_
              rintro e v71 ⟨rfl, bel⟩
              replace belD := belD.trans (bel.mono belD.size)
              replace kF := heap_keep bel kF
              replace kQ := heap_keep bel kQ
              refine hK.out _ _ ?_ (fun hHeld2 => ?_)
              · (try dsimp only); exact next6_0 belD HD0.out
              clear hK K hHeld bel
              have hHeld := hHeld2
              clear hHeld2
              (try simp only [Act.put, List.setIfInBounds_toArray, List.set_cons_zero, List.set_cons_succ, List.getElem_toArray, List.getElem_cons_succ, List.getElem_cons_zero])
              refine wpAnyH_ready (rs := [8]) ?_ (by simp) ?_
              · decide +kernel
              refine AllReadyH.cons rfl (fun K hK => ?_) AllReadyH.nil
              have y0 : v71.cell? ⟨NF, 0, none⟩ = some (.int .i64 0) := Go.Joins.cell_of_block kF 0
              have g0 : v71.frozen? ⟨NF, 0, none⟩ = false := Go.Joins.unfrozen_of_block kF 0
              have HKF := hid kF
              clear kF
              have HKQ := hid kQ
              clear kQ
              go_simp
              clear y0 g0
              have qF := (Go.Joins.block_setCell (i := 0) HKF.out (.int .i64 LA))
              have bz := (belD.setCell (p := ⟨NF, 0, none⟩) lmF (.int .i64 LA))
              have qQ := ((Below.heap_setCell _ ⟨NF, 0, none⟩ (.int .i64 LA) _ (Ne.symm nF_Q)).trans HKQ.out)
              obtain ⟨v72, hW5⟩ : ∃ v72, v72 = (v71.setCell ⟨NF, 0, none⟩ (.int .i64 LA)) := ⟨_, rfl⟩
              rw [← hW5] at qF bz qQ
              clear HKF belD HKQ
              have kF : v72.heap[NF]? = some (Obj.cells #[.int .i64 LA] 2) := qF
              have belD := bz
              have kQ := qQ
              clear qF bz qQ
              refine hK.out _ _ ?_ (fun hHeld2 => ?_)
              · (try dsimp only); rw [← hW5]; exact next6_0 belD HD0.out
              clear hK K hHeld
              (try dsimp only at hHeld2)
              simp only [← hW5] at hHeld2 ⊢
              clear hW5
              have hHeld := hHeld2
              clear hHeld2
              (try simp only [Act.put, List.setIfInBounds_toArray, List.set_cons_zero, List.set_cons_succ, List.getElem_toArray, List.getElem_cons_succ, List.getElem_cons_zero])
              refine wpAnyH_ready (rs := [9]) ?_ (by simp) ?_
              · decide +kernel
              refine AllReadyH.cons rfl (fun K hK => ?_) AllReadyH.nil
              have y0 : v72.cell? ⟨NS, 0, none⟩ = some (.int .i64 0) := Go.Joins.cell_of_block kQ 0
              have g0 : v72.frozen? ⟨NS, 0, none⟩ = false := Go.Joins.unfrozen_of_block kQ 0
              have HKQ := hid kQ
              clear kQ
              have HKF := hid kF
              clear kF
              go_simp
              clear y0 g0
              have qQ := (Go.Joins.block_setCell (i := 0) HKQ.out (.int .i64 LB))
              have bz := (belD.setCell (p := ⟨NS, 0, none⟩) lmQ (.int .i64 LB))
              have qF := ((Below.heap_setCell _ ⟨NS, 0, none⟩ (.int .i64 LB) _ nF_Q).trans HKF.out)
              obtain ⟨v73, hW5⟩ : ∃ v73, v73 = (v72.setCell ⟨NS, 0, none⟩ (.int .i64 LB)) := ⟨_, rfl⟩
              rw [← hW5] at qQ bz qF
              clear HKQ belD HKF
              have kQ : v73.heap[NS]? = some (Obj.cells #[.int .i64 LB] 2) := qQ
              have belD := bz
              have kF := qF
              clear qQ bz qF
              refine hK.out _ _ ?_ (fun hHeld2 => ?_)
              · (try dsimp only); rw [← hW5]; exact next6_0 belD HD0.out
              clear hK K hHeld
              (try dsimp only at hHeld2)
              simp only [← hW5] at hHeld2 ⊢
              clear hW5
              have hHeld := hHeld2
              clear hHeld2
              (try simp only [Act.put, List.setIfInBounds_toArray, List.set_cons_zero, List.set_cons_succ, List.getElem_toArray, List.getElem_cons_succ, List.getElem_cons_zero])
              refine wpAnyH_done (by kernel_rfl) ?_ _
              have hx := next6_0 belD HD0.out
              have kTx := heap_keep belD HKT.out
              have cFx : v73.cell? ⟨NF, 0, none⟩ = some (.int .i64 LA) := Go.Joins.cell_of_block kF 0
              have cSx : v73.cell? ⟨NS, 0, none⟩ = some (.int .i64 LB) := Go.Joins.cell_of_block kQ 0
              exact ⟨rfl, NF, NS, rfl, hx, kTx, cFx, cSx⟩
          · go_simp
            have bel := below1 v64 (Obj.cells #[.int .i64 0] 2)
            have lmS := belD.size
            have ltF := (heap_lt kF)
            replace belD := belD.trans (bel.mono belD.size)
            replace kF := heap_keep bel kF
            refine hK.out _ _ ?_ (fun hHeld2 => ?_)
            · (try dsimp only); exact next6_0 belD HD0.out
            clear hK K hHeld bel
            obtain ⟨v74, hWa⟩ : ∃ v74, v74 = v64.alloc (Obj.cells #[.int .i64 0] 2) := ⟨_, rfl⟩
            obtain ⟨NS, hNa⟩ : ∃ NS, NS = v64.heap.size := ⟨_, rfl⟩
            have kQ : v74.heap[NS]? = some (Obj.cells #[.int .i64 0] 2) := by rw [hWa]; exact FNew.heap_top hNa
            have lmQ : wD.heap.size ≤ NS := by rw [hNa]; exact lmS
            clear lmS
            have nF_Q : NF ≠ NS := by rw [hNa]; exact Nat.ne_of_lt ltF
            clear ltF
            rw [← hWa] at belD kF
            (try dsimp only at hHeld2)
            simp only [← hWa, ← hNa] at hHeld2 ⊢
            clear hWa hNa
            have hHeld := hHeld2
            clear hHeld2
            (try simp only [Act.put, List.setIfInBounds_toArray, List.set_cons_zero, List.set_cons_succ, List.getElem_toArray, List.getElem_cons_succ, List.getElem_cons_zero])
            refine wpAnyH_ready (rs := [4]) ?_ (by simp) ?_
            · decide +kernel
            refine AllReadyH.cons rfl (fun K hK => ?_) AllReadyH.nil
            go_simp
            go_at_call 105
            refine (shapeOf).mono ?_
            rintro e v75 ⟨rfl, bel⟩
            replace belD := belD.trans (bel.mono belD.size)
            replace kF := heap_keep bel kF
            replace kQ := heap_keep bel kQ
            refine hK.out _ _ ?_ (fun hHeld2 => ?_)
            · (try dsimp only); exact next6_0 belD HD0.out
            clear hK K hHeld bel
            have hHeld := hHeld2
            clear hHeld2
            (try simp only [Act.put, List.setIfInBounds_toArray, List.set_cons_zero, List.set_cons_succ, List.getElem_toArray, List.getElem_cons_succ, List.getElem_cons_zero])
            refine wpAnyH_ready (rs := [5]) ?_ (by simp) ?_
            · decide +kernel
            refine AllReadyH.cons rfl (fun K hK => ?_) AllReadyH.nil
            go_simp
            go_at_call 101
            refine (wideL HR2.out HLB.out).mono ?_
            rintro e v76 ⟨rfl, bel⟩
            replace belD := belD.trans (bel.mono belD.size)
            replace kF := heap_keep bel kF
            replace kQ := heap_keep bel kQ
            refine hK.out _ _ ?_ (fun hHeld2 => ?_)
            · (try dsimp only); exact next6_0 belD HD0.out
            clear hK K hHeld bel
            have hHeld := hHeld2
            clear hHeld2
            (try simp only [Act.put, List.setIfInBounds_toArray, List.set_cons_zero, List.set_cons_succ, List.getElem_toArray, List.getElem_cons_succ, List.getElem_cons_zero])
            refine wpAnyH_ready (rs := [8]) ?_ (by simp) ?_
            · decide +kernel
            refine AllReadyH.cons rfl (fun K hK => ?_) AllReadyH.nil
            have y0 : v76.cell? ⟨NF, 0, none⟩ = some (.int .i64 0) := Go.Joins.cell_of_block kF 0
            have g0 : v76.frozen? ⟨NF, 0, none⟩ = false := Go.Joins.unfrozen_of_block kF 0
            have HKF := hid kF
            clear kF
            have HKQ := hid kQ
            clear kQ
            go_simp
            clear y0 g0
            have qF := (Go.Joins.block_setCell (i := 0) HKF.out (.int .i64 LA))
            have bz := (belD.setCell (p := ⟨NF, 0, none⟩) lmF (.int .i64 LA))
            have qQ := ((Below.heap_setCell _ ⟨NF, 0, none⟩ (.int .i64 LA) _ (Ne.symm nF_Q)).trans HKQ.out)
            obtain ⟨v77, hW5⟩ : ∃ v77, v77 = (v76.setCell ⟨NF, 0, none⟩ (.int .i64 LA)) := ⟨_, rfl⟩
            rw [← hW5] at qF bz qQ
            clear HKF belD HKQ
            have kF : v77.heap[NF]? = some (Obj.cells #[.int .i64 LA] 2) := qF
            have belD := bz
            have kQ := qQ
            clear qF bz qQ
            refine hK.out _ _ ?_ (fun hHeld2 => ?_)
            · (try dsimp only); rw [← hW5]; exact next6_0 belD HD0.out
            clear hK K hHeld
            (try dsimp only at hHeld2)
            simp only [← hW5] at hHeld2 ⊢
            clear hW5
            have hHeld := hHeld2
            clear hHeld2
            (try simp only [Act.put, List.setIfInBounds_toArray, List.set_cons_zero, List.set_cons_succ, List.getElem_toArray, List.getElem_cons_succ, List.getElem_cons_zero])
            refine wpAnyH_ready (rs := [9]) ?_ (by simp) ?_
            · decide +kernel
            refine AllReadyH.cons rfl (fun K hK => ?_) AllReadyH.nil
            have y0 : v77.cell? ⟨NS, 0, none⟩ = some (.int .i64 0) := Go.Joins.cell_of_block kQ 0
            have g0 : v77.frozen? ⟨NS, 0, none⟩ = false := Go.Joins.unfrozen_of_block kQ 0
            have HKQ := hid kQ
            clear kQ
            have HKF := hid kF
            clear kF
            go_simp
            clear y0 g0
            have qQ := (Go.Joins.block_setCell (i := 0) HKQ.out (.int .i64 LB))
            have bz := (belD.setCell (p := ⟨NS, 0, none⟩) lmQ (.int .i64 LB))
            have qF := ((Below.heap_setCell _ ⟨NS, 0, none⟩ (.int .i64 LB) _ nF_Q).trans HKF.out)
            obtain ⟨v78, hW5⟩ : ∃ v78, v78 = (v77.setCell ⟨NS, 0, none⟩ (.int .i64 LB)) := ⟨_, rfl⟩
            rw [← hW5] at qQ bz qF
            clear HKQ belD HKF
            have kQ : v78.heap[NS]? = some (Obj.cells #[.int .i64 LB] 2) := qQ
            have belD := bz
            have kF := qF
            clear qQ bz qF
            refine hK.out _ _ ?_ (fun hHeld2 => ?_)
            · (try dsimp only); rw [← hW5]; exact next6_0 belD HD0.out
            clear hK K hHeld
            (try dsimp only at hHeld2)
            simp only [← hW5] at hHeld2 ⊢
            clear hW5
            have hHeld := hHeld2
            clear hHeld2
            (try simp only [Act.put, List.setIfInBounds_toArray, List.set_cons_zero, List.set_cons_succ, List.getElem_toArray, List.getElem_cons_succ, List.getElem_cons_zero])
            refine wpAnyH_done (by kernel_rfl) ?_ _
            have hx := next6_0 belD HD0.out
            have kTx := heap_keep belD HKT.out
            have cFx : v78.cell? ⟨NF, 0, none⟩ = some (.int .i64 LA) := Go.Joins.cell_of_block kF 0
            have cSx : v78.cell? ⟨NS, 0, none⟩ = some (.int .i64 LB) := Go.Joins.cell_of_block kQ 0
            exact ⟨rfl, NF, NS, rfl, hx, kTx, cFx, cSx⟩
        · go_simp
          have bel := below1 v63 (Obj.cells #[.int .i64 0] 2)
          have lmS := belD.size
          have ltF := (heap_lt kF)
          replace belD := belD.trans (bel.mono belD.size)
          replace kF := heap_keep bel kF
          refine hK.out _ _ ?_ (fun hHeld2 => ?_)
          · (try dsimp only); exact next6_0 belD HD0.out
          clear hK K hHeld bel
          obtain ⟨v79, hWa⟩ : ∃ v79, v79 = v63.alloc (Obj.cells #[.int .i64 0] 2) := ⟨_, rfl⟩
          obtain ⟨NS, hNa⟩ : ∃ NS, NS = v63.heap.size := ⟨_, rfl⟩
          have kQ : v79.heap[NS]? = some (Obj.cells #[.int .i64 0] 2) := by rw [hWa]; exact FNew.heap_top hNa
          have lmQ : wD.heap.size ≤ NS := by rw [hNa]; exact lmS
          clear lmS
          have nF_Q : NF ≠ NS := by rw [hNa]; exact Nat.ne_of_lt ltF
          clear ltF
          rw [← hWa] at belD kF
          (try dsimp only at hHeld2)
          simp only [← hWa, ← hNa] at hHeld2 ⊢
          clear hWa hNa
          have hHeld := hHeld2
          clear hHeld2
          (try simp only [Act.put, List.setIfInBounds_toArray, List.set_cons_zero, List.set_cons_succ, List.getElem_toArray, List.getElem_cons_succ, List.getElem_cons_zero])
          refine wpAnyH_ready (rs := [2]) ?_ (by simp) ?_
          · decide +kernel
          refine AllReadyH.cons rfl (fun K hK => ?_) AllReadyH.nil
          go_simp
          go_at_call 101
          refine (wideL HR1.out HLA.out).mono ?_
          rintro e v80 ⟨rfl, bel⟩
          replace belD := belD.trans (bel.mono belD.size)
          replace kF := heap_keep bel kF
          replace kQ := heap_keep bel kQ
          refine hK.out _ _ ?_ (fun hHeld2 => ?_)
          · (try dsimp only); exact next6_0 belD HD0.out
          clear hK K hHeld bel
          have hHeld := hHeld2
          clear hHeld2
          (try simp only [Act.put, List.setIfInBounds_toArray, List.set_cons_zero, List.set_cons_succ, List.getElem_toArray, List.getElem_cons_succ, List.getElem_cons_zero])
          refine wpAnyH_ready (rs := [4]) ?_ (by simp) ?_
          · decide +kernel
          refine AllReadyH.cons rfl (fun K hK => ?_) AllReadyH.nil
          go_simp
          go_at_call 105
          refine (shapeOf).mono ?_
          rintro e v81 ⟨rfl, bel⟩
          replace belD := belD.trans (bel.mono belD.size)
          replace kF := heap_keep bel kF
          replace kQ := heap_keep bel kQ
          refine hK.out _ _ ?_ (fun hHeld2 => ?_)
          · (try dsimp only); exact next6_0 belD HD0.out
          clear hK K hHeld bel
          have hHeld := hHeld2
          clear hHeld2
          (try simp only [Act.put, List.setIfInBounds_toArray, List.set_cons_zero, List.set_cons_succ, List.getElem_toArray, List.getElem_cons_succ, List.getElem_cons_zero])
          refine wpAnyH_ready (rs := [5]) ?_ (by simp) ?_
          · decide +kernel
          refine AllReadyH.cons rfl (fun K hK => ?_) AllReadyH.nil
          go_simp
          go_at_call 101
          refine (wideL HR2.out HLB.out).mono ?_
          rintro e v82 ⟨rfl, bel⟩
          replace belD := belD.trans (bel.mono belD.size)
          replace kF := heap_keep bel kF
          replace kQ := heap_keep bel kQ
          refine hK.out _ _ ?_ (fun hHeld2 => ?_)
          · (try dsimp only); exact next6_0 belD HD0.out
          clear hK K hHeld bel
          have hHeld := hHeld2
          clear hHeld2
          (try simp only [Act.put, List.setIfInBounds_toArray, List.set_cons_zero, List.set_cons_succ, List.getElem_toArray, List.getElem_cons_succ, List.getElem_cons_zero])
          refine wpAnyH_ready (rs := [8]) ?_ (by simp) ?_
          · decide +kernel
          refine AllReadyH.cons rfl (fun K hK => ?_) AllReadyH.nil
          have y0 : v82.cell? ⟨NF, 0, none⟩ = some (.int .i64 0) := Go.Joins.cell_of_block kF 0
          have g0 : v82.frozen? ⟨NF, 0, none⟩ = false := Go.Joins.unfrozen_of_block kF 0
          have HKF := hid kF
          clear kF
          have HKQ := hid kQ
          clear kQ
          go_simp
          clear y0 g0
          have qF := (Go.Joins.block_setCell (i := 0) HKF.out (.int .i64 LA))
          have bz := (belD.setCell (p := ⟨NF, 0, none⟩) lmF (.int .i64 LA))
          have qQ := ((Below.heap_setCell _ ⟨NF, 0, none⟩ (.int .i64 LA) _ (Ne.symm nF_Q)).trans HKQ.out)
          obtain ⟨v83, hW5⟩ : ∃ v83, v83 = (v82.setCell ⟨NF, 0, none⟩ (.int .i64 LA)) := ⟨_, rfl⟩
          rw [← hW5] at qF bz qQ
          clear HKF belD HKQ
          have kF : v83.heap[NF]? = some (Obj.cells #[.int .i64 LA] 2) := qF
          have belD := bz
          have kQ := qQ
          clear qF bz qQ
          refine hK.out _ _ ?_ (fun hHeld2 => ?_)
          · (try dsimp only); rw [← hW5]; exact next6_0 belD HD0.out
          clear hK K hHeld
          (try dsimp only at hHeld2)
          simp only [← hW5] at hHeld2 ⊢
          clear hW5
          have hHeld := hHeld2
          clear hHeld2
          (try simp only [Act.put, List.setIfInBounds_toArray, List.set_cons_zero, List.set_cons_succ, List.getElem_toArray, List.getElem_cons_succ, List.getElem_cons_zero])
          refine wpAnyH_ready (rs := [9]) ?_ (by simp) ?_
          · decide +kernel
          refine AllReadyH.cons rfl (fun K hK => ?_) AllReadyH.nil
          have y0 : v83.cell? ⟨NS, 0, none⟩ = some (.int .i64 0) := Go.Joins.cell_of_block kQ 0
          have g0 : v83.frozen? ⟨NS, 0, none⟩ = false := Go.Joins.unfrozen_of_block kQ 0
          have HKQ := hid kQ
          clear kQ
          have HKF := hid kF
          clear kF
          go_simp
          clear y0 g0
          have qQ := (Go.Joins.block_setCell (i := 0) HKQ.out (.int .i64 LB))
          have bz := (belD.setCell (p := ⟨NS, 0, none⟩) lmQ (.int .i64 LB))
          have qF := ((Below.heap_setCell _ ⟨NS, 0, none⟩ (.int .i64 LB) _ nF_Q).trans HKF.out)
          obtain ⟨v84, hW5⟩ : ∃ v84, v84 = (v83.setCell ⟨NS, 0, none⟩ (.int .i64 LB)) := ⟨_, rfl⟩
          rw [← hW5] at qQ bz qF
          clear HKQ belD HKF
          have kQ : v84.heap[NS]? = some (Obj.cells #[.int .i64 LB] 2) := qQ
          have belD := bz
          have kF := qF
          clear qQ bz qF
          refine hK.out _ _ ?_ (fun hHeld2 => ?_)
          · (try dsimp only); rw [← hW5]; exact next6_0 belD HD0.out
          clear hK K hHeld
          (try dsimp only at hHeld2)
          simp only [← hW5] at hHeld2 ⊢
          clear hW5
          have hHeld := hHeld2
          clear hHeld2
          (try simp only [Act.put, List.setIfInBounds_toArray, List.set_cons_zero, List.set_cons_succ, List.getElem_toArray, List.getElem_cons_succ, List.getElem_cons_zero])
          refine wpAnyH_done (by kernel_rfl) ?_ _
          have hx := next6_0 belD HD0.out
          have kTx := heap_keep belD HKT.out
          have cFx : v84.cell? ⟨NF, 0, none⟩ = some (.int .i64 LA) := Go.Joins.cell_of_block kF 0
          have cSx : v84.cell? ⟨NS, 0, none⟩ = some (.int .i64 LB) := Go.Joins.cell_of_block kQ 0
          exact ⟨rfl, NF, NS, rfl, hx, kTx, cFx, cSx⟩
      · go_simp
        have bel := below1 v3 (Obj.cells #[.int .i64 0] 2)
        have lmS := belD.size
        replace belD := belD.trans (bel.mono belD.size)
        refine hK.out _ _ ?_ (fun hHeld2 => ?_)
        · (try dsimp only); exact next6_0 belD HD0.out
        clear hK K hHeld bel
        obtain ⟨v85, hWa⟩ : ∃ v85, v85 = v3.alloc (Obj.cells #[.int .i64 0] 2) := ⟨_, rfl⟩
        obtain ⟨NS, hNa⟩ : ∃ NS, NS = v3.heap.size := ⟨_, rfl⟩
        have kQ : v85.heap[NS]? = some (Obj.cells #[.int .i64 0] 2) := by rw [hWa]; exact FNew.heap_top hNa
        have lmQ : wD.heap.size ≤ NS := by rw [hNa]; exact lmS
        clear lmS
        rw [← hWa] at belD
        (try dsimp only at hHeld2)
        simp only [← hWa, ← hNa] at hHeld2 ⊢
        clear hWa hNa
        have hHeld := hHeld2
        clear hHeld2
        (try simp only [Act.put, List.setIfInBounds_toArray, List.set_cons_zero, List.set_cons_succ, List.getElem_toArray, List.getElem_cons_succ, List.getElem_cons_zero])
        refine wpAnyH_ready (rs := [2, 6]) ?_ (by simp) ?_
        · decide +kernel
        refine AllReadyH.cons rfl (fun K hK => ?_) (AllReadyH.cons rfl (fun K hK => ?_) AllReadyH.nil)
        · go_simp
          go_at_call 101
          refine (wideL HR1.out HLA.out).mono ?_
          rintro e v86 ⟨rfl, bel⟩
          replace belD := belD.trans (bel.mono belD.size)
          replace kQ := heap_keep bel kQ
          refine hK.out _ _ ?_ (fun hHeld2 => ?_)
          · (try dsimp only); exact next6_0 belD HD0.out
          clear hK K hHeld bel
          have hHeld := hHeld2
          clear hHeld2
          (try simp only [Act.put, List.setIfInBounds_toArray, List.set_cons_zero, List.set_cons_succ, List.getElem_toArray, List.getElem_cons_succ, List.getElem_cons_zero])
          refine wpAnyH_ready (rs := [4, 6]) ?_ (by simp) ?_
          · decide +kernel
          refine AllReadyH.cons rfl (fun K hK => ?_) (AllReadyH.cons rfl (fun K hK => ?_) AllReadyH.nil)
          · go_simp
            go_at_call 105
            refine (shapeOf).mono ?_
            rintro e v87 ⟨rfl, bel⟩
            replace belD := belD.trans (bel.mono belD.size)
            replace kQ := heap_keep bel kQ
            refine hK.out _ _ ?_ (fun hHeld2 => ?_)
            · (try dsimp only); exact next6_0 belD HD0.out
            clear hK K hHeld bel
            have hHeld := hHeld2
            clear hHeld2
            (try simp only [Act.put, List.setIfInBounds_toArray, List.set_cons_zero, List.set_cons_succ, List.getElem_toArray, List.getElem_cons_succ, List.getElem_cons_zero])
            refine wpAnyH_ready (rs := [5, 6]) ?_ (by simp) ?_
            · decide +kernel
            refine AllReadyH.cons rfl (fun K hK => ?_) (AllReadyH.cons rfl (fun K hK => ?_) AllReadyH.nil)
            · go_simp
              go_at_call 101
              refine (wideL HR2.out HLB.out).mono ?_
              rintro e v88 ⟨rfl, bel⟩
              replace belD := belD.trans (bel.mono belD.size)
              replace kQ := heap_keep bel kQ
              refine hK.out _ _ ?_ (fun hHeld2 => ?_)
              · (try dsimp only); exact next6_0 belD HD0.out
              clear hK K hHeld bel
              have hHeld := hHeld2
              clear hHeld2
              (try simp only [Act.put, List.setIfInBounds_toArray, List.set_cons_zero, List.set_cons_succ, List.getElem_toArray, List.getElem_cons_succ, List.getElem_cons_zero])
              refine wpAnyH_ready (rs := [6]) ?_ (by simp) ?_
              · decide +kernel
              refine AllReadyH.cons rfl (fun K hK => ?_) AllReadyH.nil
              go_simp
              have bel := below1 v88 (Obj.cells #[.int .i64 0] 2)
              have lmS := belD.size
              have ltQ := (heap_lt kQ)
              replace belD := belD.trans (bel.mono belD.size)
              replace kQ := heap_keep bel kQ
              refine hK.out _ _ ?_ (fun hHeld2 => ?_)
              · (try dsimp only); exact next6_0 belD HD0.out
              clear hK K hHeld bel
              obtain ⟨v89, hWa⟩ : ∃ v89, v89 = v88.alloc (Obj.cells #[.int .i64 0] 2) := ⟨_, rfl⟩
              obtain ⟨NF, hNa⟩ : ∃ NF, NF = v88.heap.size := ⟨_, rfl⟩
              have kF : v89.heap[NF]? = some (Obj.cells #[.int .i64 0] 2) := by rw [hWa]; exact FNew.heap_top hNa
              have lmF : wD.heap.size ≤ NF := by rw [hNa]; exact lmS
              clear lmS
              have nQ_F : NS ≠ NF := by rw [hNa]; exact Nat.ne_of_lt ltQ
              clear ltQ
              rw [← hWa] at belD kQ
              (try dsimp only at hHeld2)
              simp only [← hWa, ← hNa] at hHeld2 ⊢
              clear hWa hNa
              have hHeld := hHeld2
              clear hHeld2
              (try simp only [Act.put, List.setIfInBounds_toArray, List.set_cons_zero, List.set_cons_succ, List.getElem_toArray, List.getElem_cons_succ, List.getElem_cons_zero])
              refine wpAnyH_ready (rs := [8]) ?_ (by simp) ?_
              · decide +kernel
              refine AllReadyH.cons rfl (fun K hK => ?_) AllReadyH.nil
              have y0 : v89.cell? ⟨NF, 0, none⟩ = some (.int .i64 0) := Go.Joins.cell_of_block kF 0
              have g0 : v89.frozen? ⟨NF, 0, none⟩ = false := Go.Joins.unfrozen_of_block kF 0
              have HKF := hid kF
              clear kF
              have HKQ := hid kQ
              clear kQ
              go_simp
              clear y0 g0
              have qF := (Go.Joins.block_setCell (i := 0) HKF.out (.int .i64 LA))
              have bz := (belD.setCell (p := ⟨NF, 0, none⟩) lmF (.int .i64 LA))
              have qQ := ((Below.heap_setCell _ ⟨NF, 0, none⟩ (.int .i64 LA) _ nQ_F).trans HKQ.out)
              obtain ⟨v90, hW5⟩ : ∃ v90, v90 = (v89.setCell ⟨NF, 0, none⟩ (.int .i64 LA)) := ⟨_, rfl⟩
              rw [← hW5] at qF bz qQ
              clear HKF belD HKQ
              have kF : v90.heap[NF]? = some (Obj.cells #[.int .i64 LA] 2) := qF
              have belD := bz
              have kQ := qQ
              clear qF bz qQ
              refine hK.out _ _ ?_ (fun hHeld2 => ?_)
              · (try dsimp only); rw [← hW5]; exact next6_0 belD HD0.out
              clear hK K hHeld
              (try dsimp only at hHeld2)
              simp only [← hW5] at hHeld2 ⊢
              clear hW5
              have hHeld := hHeld2
              clear hHeld2
              (try simp only [Act.put, List.setIfInBounds_toArray, List.set_cons_zero, List.set_cons_succ, List.getElem_toArray, List.getElem_cons_succ, List.getElem_cons_zero])
              refine wpAnyH_ready (rs := [9]) ?_ (by simp) ?_
              · decide +kernel
              refine AllReadyH.cons rfl (fun K hK => ?_) AllReadyH.nil
              have y0 : v90.cell? ⟨NS, 0, none⟩ = some (.int .i64 0) := Go.Joins.cell_of_block kQ 0
              have g0 : v90.frozen? ⟨NS, 0, none⟩ = false := Go.Joins.unfrozen_of_block kQ 0
              have HKQ := hid kQ
              clear kQ
              have HKF := hid kF
              clear kF
              go_simp
              clear y0 g0
              have qQ := (Go.Joins.block_setCell (i := 0) HKQ.out (.int .i64 LB))
              have bz := (belD.setCell (p := ⟨NS, 0, none⟩) lmQ (.int .i64 LB))
              have qF := ((Below.heap_setCell _ ⟨NS, 0, none⟩ (.int .i64 LB) _ (Ne.symm nQ_F)).trans HKF.out)
              obtain ⟨v91, hW5⟩ : ∃ v91, v91 = (v90.setCell ⟨NS, 0, none⟩ (.int .i64 LB)) := ⟨_, rfl⟩
              rw [← hW5] at qQ bz qF
              clear HKQ belD HKF
              have kQ : v91.heap[NS]? = some (Obj.cells #[.int .i64 LB] 2) := qQ
              have belD := bz
              have kF := qF
              clear qQ bz qF
              refine hK.out _ _ ?_ (fun hHeld2 => ?_)
              · (try dsimp only); rw [← hW5]; exact next6_0 belD HD0.out
              clear hK K hHeld
              (try dsimp only at hHeld2)
              simp only [← hW5] at hHeld2 ⊢
              clear hW5
              have hHeld := hHeld2
              clear hHeld2
              (try simp only [Act.put, List.setIfInBounds_toArray, List.set_cons_zero, List.set_cons_succ, List.getElem_toArray, List.getElem_cons_succ, List.getElem_cons_zero])
              refine wpAnyH_done (by kernel_rfl) ?_ _
              have hx := next6_0 belD HD0.out
              have kTx := heap_keep belD HKT.out
              have cFx : v91.cell? ⟨NF, 0, none⟩ = some (.int .i64 LA) := Go.Joins.cell_of_block kF 0
              have cSx : v91.cell? ⟨NS, 0, none⟩ = some (.int .i64 LB) := Go.Joins.cell_of_block kQ 0
              exact ⟨rfl, NF, NS, rfl, hx, kTx, cFx, cSx⟩
            · go_simp
              have bel := below1 v87 (Obj.cells #[.int .i64 0] 2)
              have lmS := belD.size
              have ltQ := (heap_lt kQ)
              replace belD := belD.trans (bel.mono belD.size)
              replace kQ := heap_keep bel kQ
              refine hK.out _ _ ?_ (fun hHeld2 => ?_)
              · (try dsimp only); exact next6_0 belD HD0.out
              clear hK K hHeld bel
              obtain ⟨v92, hWa⟩ : ∃ v92, v92 = v87.alloc (Obj.cells #[.int .i64 0] 2) := ⟨_, rfl⟩
              obtain ⟨NF, hNa⟩ : ∃ NF, NF = v87.heap.size := ⟨_, rfl⟩
              have kF : v92.heap[NF]? = some (Obj.cells #[.int .i64 0] 2) := by rw [hWa]; exact FNew.heap_top hNa
              have lmF : wD.heap.size ≤ NF := by rw [hNa]; exact lmS
              clear lmS
              have nQ_F : NS ≠ NF := by rw [hNa]; exact Nat.ne_of_lt ltQ
              clear ltQ
              rw [← hWa] at belD kQ
              (try dsimp only at hHeld2)
              simp only [← hWa, ← hNa] at hHeld2 ⊢
              clear hWa hNa
              have hHeld := hHeld2
              clear hHeld2
              (try simp only [Act.put, List.setIfInBounds_toArray, List.set_cons_zero, List.set_cons_succ, List.getElem_toArray, List.getElem_cons_succ, List.getElem_cons_zero])
              refine wpAnyH_ready (rs := [5]) ?_ (by simp) ?_
              · decide +kernel
              refine AllReadyH.cons rfl (fun K hK => ?_) AllReadyH.nil
              go_simp
              go_at_call 101
              refine (wideL HR2.out HLB.out).mono ?_
              rintro e v93 ⟨rfl, bel⟩
              replace belD := belD.trans (bel.mono belD.size)
              replace kQ := heap_keep bel kQ
              replace kF := heap_keep bel kF
              refine hK.out _ _ ?_ (fun hHeld2 => ?_)
              · (try dsimp only); exact next6_0 belD HD0.out
              clear hK K hHeld bel
              have hHeld := hHeld2
              clear hHeld2
              (try simp only [Act.put, List.setIfInBounds_toArray, List.set_cons_zero, List.set_cons_succ, List.getElem_toArray, List.getElem_cons_succ, List.getElem_cons_zero])
              refine wpAnyH_ready (rs := [8]) ?_ (by simp) ?_
              · decide +kernel
              refine AllReadyH.cons rfl (fun K hK => ?_) AllReadyH.nil
              have y0 : v93.cell? ⟨NF, 0, none⟩ = some (.int .i64 0) := Go.Joins.cell_of_block kF 0
              have g0 : v93.frozen? ⟨NF, 0, none⟩ = false := Go.Joins.unfrozen_of_block kF 0
              have HKF := hid kF
              clear kF
              have HKQ := hid kQ
              clear kQ
              go_simp
              clear y0 g0
              have qF := (Go.Joins.block_setCell (i := 0) HKF.out (.int .i64 LA))
              have bz := (belD.setCell (p := ⟨NF, 0, none⟩) lmF (.int .i64 LA))
              have qQ := ((Below.heap_setCell _ ⟨NF, 0, none⟩ (.int .i64 LA) _ nQ_F).trans HKQ.out)
              obtain ⟨v94, hW5⟩ : ∃ v94, v94 = (v93.setCell ⟨NF, 0, none⟩ (.int .i64 LA)) := ⟨_, rfl⟩
              rw [← hW5] at qF bz qQ
              clear HKF belD HKQ
              have kF : v94.heap[NF]? = some (Obj.cells #[.int .i64 LA] 2) := qF
              have belD := bz
              have kQ := qQ
              clear qF bz qQ
              refine hK.out _ _ ?_ (fun hHeld2 => ?_)
              · (try dsimp only); rw [← hW5]; exact next6_0 belD HD0.out
              clear hK K hHeld
              (try dsimp only at hHeld2)
              simp only [← hW5] at hHeld2 ⊢
              clear hW5
              have hHeld := hHeld2
              clear hHeld2
              (try simp only [Act.put, List.setIfInBounds_toArray, List.set_cons_zero, List.set_cons_succ, List.getElem_toArray, List.getElem_cons_succ, List.getElem_cons_zero])
              refine wpAnyH_ready (rs := [9]) ?_ (by simp) ?_
              · decide +kernel
              refine AllReadyH.cons rfl (fun K hK => ?_) AllReadyH.nil
              have y0 : v94.cell? ⟨NS, 0, none⟩ = some (.int .i64 0) := Go.Joins.cell_of_block kQ 0
              have g0 : v94.frozen? ⟨NS, 0, none⟩ = false := Go.Joins.unfrozen_of_block kQ 0
              have HKQ := hid kQ
              clear kQ
              have HKF := hid kF
              clear kF
              go_simp
              clear y0 g0
              have qQ := (Go.Joins.block_setCell (i := 0) HKQ.out (.int .i64 LB))
              have bz := (belD.setCell (p := ⟨NS, 0, none⟩) lmQ (.int .i64 LB))
              have qF := ((Below.heap_setCell _ ⟨NS, 0, none⟩ (.int .i64 LB) _ (Ne.symm nQ_F)).trans HKF.out)
              obtain ⟨v95, hW5⟩ : ∃ v95, v95 = (v94.setCell ⟨NS, 0, none⟩ (.int .i64 LB)) := ⟨_, rfl⟩
              rw [← hW5] at qQ bz qF
              clear HKQ belD HKF
              have kQ : v95.heap[NS]? = some (Obj.cells #[.int .i64 LB] 2) := qQ
              have belD := bz
              have kF := qF
              clear qQ bz qF
              refine hK.out _ _ ?_ (fun hHeld2 => ?_)
              · (try dsimp only); rw [← hW5]; exact next6_0 belD HD0.out
              clear hK K hHeld
              (try dsimp only at hHeld2)
              simp only [← hW5] at hHeld2 ⊢
              clear hW5
              have hHeld := hHeld2
              clear hHeld2
              (try simp only [Act.put, List.setIfInBounds_toArray, List.set_cons_zero, List.set_cons_succ, List.getElem_toArray, List.getElem_cons_succ, List.getElem_cons_zero])
              refine wpAnyH_done (by kernel_rfl) ?_ _
              have hx := next6_0 belD HD0.out
              have kTx := heap_keep belD HKT.out
              have cFx : v95.cell? ⟨NF, 0, none⟩ = some (.int .i64 LA) := Go.Joins.cell_of_block kF 0
              have cSx : v95.cell? ⟨NS, 0, none⟩ = some (.int .i64 LB) := Go.Joins.cell_of_block kQ 0
              exact ⟨rfl, NF, NS, rfl, hx, kTx, cFx, cSx⟩
          · go_simp
            have bel := below1 v86 (Obj.cells #[.int .i64 0] 2)
            have lmS := belD.size
            have ltQ := (heap_lt kQ)
            replace belD := belD.trans (bel.mono belD.size)
            replace kQ := heap_keep bel kQ
            refine hK.out _ _ ?_ (fun hHeld2 => ?_)
            · (try dsimp only); exact next6_0 belD HD0.out
            clear hK K hHeld bel
            obtain ⟨v96, hWa⟩ : ∃ v96, v96 = v86.alloc (Obj.cells #[.int .i64 0] 2) := ⟨_, rfl⟩
            obtain ⟨NF, hNa⟩ : ∃ NF, NF = v86.heap.size := ⟨_, rfl⟩
            have kF : v96.heap[NF]? = some (Obj.cells #[.int .i64 0] 2) := by rw [hWa]; exact FNew.heap_top hNa
            have lmF : wD.heap.size ≤ NF := by rw [hNa]; exact lmS
            clear lmS
            have nQ_F : NS ≠ NF := by rw [hNa]; exact Nat.ne_of_lt ltQ
            clear ltQ
            rw [← hWa] at belD kQ
            (try dsimp only at hHeld2)
            simp only [← hWa, ← hNa] at hHeld2 ⊢
            clear hWa hNa
            have hHeld := hHeld2
            clear hHeld2
            (try simp only [Act.put, List.setIfInBounds_toArray, List.set_cons_zero, List.set_cons_succ, List.getElem_toArray, List.getElem_cons_succ, List.getElem_cons_zero])
            refine wpAnyH_ready (rs := [4]) ?_ (by simp) ?_
            · decide +kernel
            refine AllReadyH.cons rfl (fun K hK => ?_) AllReadyH.nil
            go_simp
            go_at_call 105
            refine (shapeOf).mono ?_
            rintro e v97 ⟨rfl, bel⟩
            replace belD := belD.trans (bel.mono belD.size)
            replace kQ := heap_keep bel kQ
            replace kF := heap_keep bel kF
            refine hK.out _ _ ?_ (fun hHeld2 => ?_)
            · (try dsimp only); exact next6_0 belD HD0.out
            clear hK K hHeld bel
            have hHeld := hHeld2
            clear hHeld2
            (try simp only [Act.put, List.setIfInBounds_toArray, List.set_cons_zero, List.set_cons_succ, List.getElem_toArray, List.getElem_cons_succ, List.getElem_cons_zero])
            refine wpAnyH_ready (rs := [5]) ?_ (by simp) ?_
            · decide +kernel
            refine AllReadyH.cons rfl (fun K hK => ?_) AllReadyH.nil
            go_simp
            go_at_call 101
            refine (wideL HR2.out HLB.out).mono ?_
            rintro e v98 ⟨rfl, bel⟩
            replace belD := belD.trans (bel.mono belD.size)
            replace kQ := heap_keep bel kQ
            replace kF := heap_keep bel kF
            refine hK.out _ _ ?_ (fun hHeld2 => ?_)
            · (try dsimp only); exact next6_0 belD HD0.out
            clear hK K hHeld bel
            have hHeld := hHeld2
            clear hHeld2
            (try simp only [Act.put, List.setIfInBounds_toArray, List.set_cons_zero, List.set_cons_succ, List.getElem_toArray, List.getElem_cons_succ, List.getElem_cons_zero])
            refine wpAnyH_ready (rs := [8]) ?_ (by simp) ?_
            · decide +kernel
            refine AllReadyH.cons rfl (fun K hK => ?_) AllReadyH.nil
            have y0 : v98.cell? ⟨NF, 0, none⟩ = some (.int .i64 0) := Go.Joins.cell_of_block kF 0
            have g0 : v98.frozen? ⟨NF, 0, none⟩ = false := Go.Joins.unfrozen_of_block kF 0
            have HKF := hid kF
            clear kF
            have HKQ := hid kQ
            clear kQ
            go_simp
            clear y0 g0
            have qF := (Go.Joins.block_setCell (i := 0) HKF.out (.int .i64 LA))
            have bz := (belD.setCell (p := ⟨NF, 0, none⟩) lmF (.int .i64 LA))
            have qQ := ((Below.heap_setCell _ ⟨NF, 0, none⟩ (.int .i64 LA) _ nQ_F).trans HKQ.out)
            obtain ⟨v99, hW5⟩ : ∃ v99, v99 = (v98.setCell ⟨NF, 0, none⟩ (.int .i64 LA)) := ⟨_, rfl⟩
            rw [← hW5] at qF bz qQ
            clear HKF belD HKQ
            have kF : v99.heap[NF]? = some (Obj.cells #[.int .i64 LA] 2) := qF
            have belD := bz
            have kQ := qQ
            clear qF bz qQ
            refine hK.out _ _ ?_ (fun hHeld2 => ?_)
            · (try dsimp only); rw [← hW5]; exact next6_0 belD HD0.out
            clear hK K hHeld
            (try dsimp only at hHeld2)
            simp only [← hW5] at hHeld2 ⊢
            clear hW5
            have hHeld := hHeld2
            clear hHeld2
            (try simp only [Act.put, List.setIfInBounds_toArray, List.set_cons_zero, List.set_cons_succ, List.getElem_toArray, List.getElem_cons_succ, List.getElem_cons_zero])
            refine wpAnyH_ready (rs := [9]) ?_ (by simp) ?_
            · decide +kernel
            refine AllReadyH.cons rfl (fun K hK => ?_) AllReadyH.nil
            have y0 : v99.cell? ⟨NS, 0, none⟩ = some (.int .i64 0) := Go.Joins.cell_of_block kQ 0
            have g0 : v99.frozen? ⟨NS, 0, none⟩ = false := Go.Joins.unfrozen_of_block kQ 0
            have HKQ := hid kQ
            clear kQ
            have HKF := hid kF
            clear kF
            go_simp
            clear y0 g0
            have qQ := (Go.Joins.block_setCell (i := 0) HKQ.out (.int .i64 LB))
            have bz := (belD.setCell (p := ⟨NS, 0, none⟩) lmQ (.int .i64 LB))
            have qF := ((Below.heap_setCell _ ⟨NS, 0, none⟩ (.int .i64 LB) _ (Ne.symm nQ_F)).trans HKF.out)
            obtain ⟨v100, hW5⟩ : ∃ v100, v100 = (v99.setCell ⟨NS, 0, none⟩ (.int .i64 LB)) := ⟨_, rfl⟩
            rw [← hW5] at qQ bz qF
            clear HKQ belD HKF
            have kQ : v100.heap[NS]? = some (Obj.cells #[.int .i64 LB] 2) := qQ
            have belD := bz
            have kF := qF
            clear qQ bz qF
            refine hK.out _ _ ?_ (fun hHeld2 => ?_)
            · (try dsimp only); rw [← hW5]; exact next6_0 belD HD0.out
            clear hK K hHeld
            (try dsimp only at hHeld2)
            simp only [← hW5] at hHeld2 ⊢
            clear hW5
            have hHeld := hHeld2
            clear hHeld2
            (try simp only [Act.put, List.setIfInBounds_toArray, List.set_cons_zero, List.set_cons_succ, List.getElem_toArray, List.getElem_cons_succ, List.getElem_cons_zero])
            refine wpAnyH_done (by kernel_rfl) ?_ _
            have hx := next6_0 belD HD0.out
            have kTx := heap_keep belD HKT.out
            have cFx : v100.cell? ⟨NF, 0, none⟩ = some (.int .i64 LA) := Go.Joins.cell_of_block kF 0
            have cSx : v100.cell? ⟨NS, 0, none⟩ = some (.int .i64 LB) := Go.Joins.cell_of_block kQ 0
            exact ⟨rfl, NF, NS, rfl, hx, kTx, cFx, cSx⟩
        · go_simp
          have bel := below1 v85 (Obj.cells #[.int .i64 0] 2)
          have lmS := belD.size
          have ltQ := (heap_lt kQ)
          replace belD := belD.trans (bel.mono belD.size)
          replace kQ := heap_keep bel kQ
          refine hK.out _ _ ?_ (fun hHeld2 => ?_)
          · (try dsimp only); exact next6_0 belD HD0.out
          clear hK K hHeld bel
          obtain ⟨v101, hWa⟩ : ∃ v101, v101 = v85.alloc (Obj.cells #[.int .i64 0] 2) := ⟨_, rfl⟩
          obtain ⟨NF, hNa⟩ : ∃ NF, NF = v85.heap.size := ⟨_, rfl⟩
          have kF : v101.heap[NF]? = some (Obj.cells #[.int .i64 0] 2) := by rw [hWa]; exact FNew.heap_top hNa
          have lmF : wD.heap.size ≤ NF := by rw [hNa]; exact lmS
          clear lmS
          have nQ_F : NS ≠ NF := by rw [hNa]; exact Nat.ne_of_lt ltQ
          clear ltQ
          rw [← hWa] at belD kQ
          (try dsimp only at hHeld2)
          simp only [← hWa, ← hNa] at hHeld2 ⊢
          clear hWa hNa
          have hHeld := hHeld2
          clear hHeld2
          (try simp only [Act.put, List.setIfInBounds_toArray, List.set_cons_zero, List.set_cons_succ, List.getElem_toArray, List.getElem_cons_succ, List.getElem_cons_zero])
          refine wpAnyH_ready (rs := [2]) ?_ (by simp) ?_
          · decide +kernel
          refine AllReadyH.cons rfl (fun K hK => ?_) AllReadyH.nil
          go_simp
          go_at_call 101
          refine (wideL HR1.out HLA.out).mono ?_
          rintro e v102 ⟨rfl, bel⟩
          replace belD := belD.trans (bel.mono belD.size)
          replace kQ := heap_keep bel kQ
          replace kF := heap_keep bel kF
          refine hK.out _ _ ?_ (fun hHeld2 => ?_)
          · (try dsimp only); exact next6_0 belD HD0.out
          clear hK K hHeld bel
          have hHeld := hHeld2
          clear hHeld2
          (try simp only [Act.put, List.setIfInBounds_toArray, List.set_cons_zero, List.set_cons_succ, List.getElem_toArray, List.getElem_cons_succ, List.getElem_cons_zero])
          refine wpAnyH_ready (rs := [4]) ?_ (by simp) ?_
          · decide +kernel
          refine AllReadyH.cons rfl (fun K hK => ?_) AllReadyH.nil
          go_simp
          go_at_call 105
          refine (shapeOf).mono ?_
          rintro e v103 ⟨rfl, bel⟩
          replace belD := belD.trans (bel.mono belD.size)
          replace kQ := heap_keep bel kQ
          replace kF := heap_keep bel kF
          refine hK.out _ _ ?_ (fun hHeld2 => ?_)
          · (try dsimp only); exact next6_0 belD HD0.out
          clear hK K hHeld bel
          have hHeld := hHeld2
          clear hHeld2
          (try simp only [Act.put, List.setIfInBounds_toArray, List.set_cons_zero, List.set_cons_succ, List.getElem_toArray, List.getElem_cons_succ, List.getElem_cons_zero])
          refine wpAnyH_ready (rs := [5]) ?_ (by simp) ?_
          · decide +kernel
          refine AllReadyH.cons rfl (fun K hK => ?_) AllReadyH.nil
          go_simp
          go_at_call 101
          refine (wideL HR2.out HLB.out).mono ?_
          rintro e v104 ⟨rfl, bel⟩
          replace belD := belD.trans (bel.mono belD.size)
          replace kQ := heap_keep bel kQ
          replace kF := heap_keep bel kF
          refine hK.out _ _ ?_ (fun hHeld2 => ?_)
          · (try dsimp only); exact next6_0 belD HD0.out
          clear hK K hHeld bel
          have hHeld := hHeld2
          clear hHeld2
          (try simp only [Act.put, List.setIfInBounds_toArray, List.set_cons_zero, List.set_cons_succ, List.getElem_toArray, List.getElem_cons_succ, List.getElem_cons_zero])
          refine wpAnyH_ready (rs := [8]) ?_ (by simp) ?_
          · decide +kernel
          refine AllReadyH.cons rfl (fun K hK => ?_) AllReadyH.nil
          have y0 : v104.cell? ⟨NF, 0, none⟩ = some (.int .i64 0) := Go.Joins.cell_of_block kF 0
          have g0 : v104.frozen? ⟨NF, 0, none⟩ = false := Go.Joins.unfrozen_of_block kF 0
          have HKF := hid kF
          clear kF
          have HKQ := hid kQ
          clear kQ
          go_simp
          clear y0 g0
          have qF := (Go.Joins.block_setCell (i := 0) HKF.out (.int .i64 LA))
          have bz := (belD.setCell (p := ⟨NF, 0, none⟩) lmF (.int .i64 LA))
          have qQ := ((Below.heap_setCell _ ⟨NF, 0, none⟩ (.int .i64 LA) _ nQ_F).trans HKQ.out)
          obtain ⟨v105, hW5⟩ : ∃ v105, v105 = (v104.setCell ⟨NF, 0, none⟩ (.int .i64 LA)) := ⟨_, rfl⟩
          rw [← hW5] at qF bz qQ
          clear HKF belD HKQ
          have kF : v105.heap[NF]? = some (Obj.cells #[.int .i64 LA] 2) := qF
          have belD := bz
          have kQ := qQ
          clear qF bz qQ
          refine hK.out _ _ ?_ (fun hHeld2 => ?_)
          · (try dsimp only); rw [← hW5]; exact next6_0 belD HD0.out
          clear hK K hHeld
          (try dsimp only at hHeld2)
          simp only [← hW5] at hHeld2 ⊢
          clear hW5
          have hHeld := hHeld2
          clear hHeld2
          (try simp only [Act.put, List.setIfInBounds_toArray, List.set_cons_zero, List.set_cons_succ, List.getElem_toArray, List.getElem_cons_succ, List.getElem_cons_zero])
          refine wpAnyH_ready (rs := [9]) ?_ (by simp) ?_
          · decide +kernel
          refine AllReadyH.cons rfl (fun K hK => ?_) AllReadyH.nil
          have y0 : v105.cell? ⟨NS, 0, none⟩ = some (.int .i64 0) := Go.Joins.cell_of_block kQ 0
          have g0 : v105.frozen? ⟨NS, 0, none⟩ = false := Go.Joins.unfrozen_of_block kQ 0
          have HKQ := hid kQ
          clear kQ
          have HKF := hid kF
          clear kF
          go_simp
          clear y0 g0
          have qQ := (Go.Joins.block_setCell (i := 0) HKQ.out (.int .i64 LB))
          have bz := (belD.setCell (p := ⟨NS, 0, none⟩) lmQ (.int .i64 LB))
          have qF := ((Below.heap_setCell _ ⟨NS, 0, none⟩ (.int .i64 LB) _ (Ne.symm nQ_F)).trans HKF.out)
          obtain ⟨v106, hW5⟩ : ∃ v106, v106 = (v105.setCell ⟨NS, 0, none⟩ (.int .i64 LB)) := ⟨_, rfl⟩
          rw [← hW5] at qQ bz qF
          clear HKQ belD HKF
          have kQ : v106.heap[NS]? = some (Obj.cells #[.int .i64 LB] 2) := qQ
          have belD := bz
          have kF := qF
          clear qQ bz qF
          refine hK.out _ _ ?_ (fun hHeld2 => ?_)
          · (try dsimp only); rw [← hW5]; exact next6_0 belD HD0.out
          clear hK K hHeld
          (try dsimp only at hHeld2)
          simp only [← hW5] at hHeld2 ⊢
          clear hW5
          have hHeld := hHeld2
          clear hHeld2
          (try simp only [Act.put, List.setIfInBounds_toArray, List.set_cons_zero, List.set_cons_succ, List.getElem_toArray, List.getElem_cons_succ, List.getElem_cons_zero])
          refine wpAnyH_done (by kernel_rfl) ?_ _
          have hx := next6_0 belD HD0.out
          have kTx := heap_keep belD HKT.out
          have cFx : v106.cell? ⟨NF, 0, none⟩ = some (.int .i64 LA) := Go.Joins.cell_of_block kF 0
          have cSx : v106.cell? ⟨NS, 0, none⟩ = some (.int .i64 LB) := Go.Joins.cell_of_block kQ 0
          exact ⟨rfl, NF, NS, rfl, hx, kTx, cFx, cSx⟩
    · go_simp
      have bel := below1 wD (Obj.cells #[.int .i64 0] 2)
      have lmS := belD.size
      replace belD := belD.trans (bel.mono belD.size)
      refine hK.out _ _ ?_ (fun hHeld2 => ?_)
      · (try dsimp only); exact next6_0 belD HD0.out
      clear hK K hHeld bel
      obtain ⟨v107, hWa⟩ : ∃ v107, v107 = wD.alloc (Obj.cells #[.int .i64 0] 2) := ⟨_, rfl⟩
      obtain ⟨NF, hNa⟩ : ∃ NF, NF = wD.heap.size := ⟨_, rfl⟩
      have kF : v107.heap[NF]? = some (Obj.cells #[.int .i64 0] 2) := by rw [hWa]; exact FNew.heap_top hNa
      have lmF : wD.heap.size ≤ NF := by rw [hNa]; exact lmS
      clear lmS
      rw [← hWa] at belD
      (try dsimp only at hHeld2)
      simp only [← hWa, ← hNa] at hHeld2 ⊢
      clear hWa hNa
      have hHeld := hHeld2
      clear hHeld2
      (try simp only [Act.put, List.setIfInBounds_toArray, List.set_cons_zero, List.set_cons_succ, List.getElem_toArray, List.getElem_cons_succ, List.getElem_cons_zero])
      refine wpAnyH_ready (rs := [1, 7]) ?_ (by simp) ?_
      · decide +kernel
      refine AllReadyH.cons rfl (fun K hK => ?_) (AllReadyH.cons rfl (fun K hK => ?_) AllReadyH.nil)
      · go_simp
        go_at_call 105
        refine (shapeOf).mono ?_
        rintro e v108 ⟨rfl, bel⟩
        replace belD := belD.trans (bel.mono belD.size)
        replace kF := heap_keep bel kF
        refine hK.out _ _ ?_ (fun hHeld2 => ?_)
        · (try dsimp only); exact next6_0 belD HD0.out
        clear hK K hHeld bel
        have hHeld := hHeld2
        clear hHeld2
        (try simp only [Act.put, List.setIfInBounds_toArray, List.set_cons_zero, List.set_cons_succ, List.getElem_toArray, List.getElem_cons_succ, List.getElem_cons_zero])
        refine wpAnyH_ready (rs := [2, 7]) ?_ (by simp) ?_
        · decide +kernel
        refine AllReadyH.cons rfl (fun K hK => ?_) (AllReadyH.cons rfl (fun K hK => ?_) AllReadyH.nil)
        · go_simp
          go_at_call 101
          refine (wideL HR1.out HLA.out).mono ?_
          rintro e v109 ⟨rfl, bel⟩
          replace belD := belD.trans (bel.mono belD.size)
          replace kF := heap_keep bel kF
          refine hK.out _ _ ?_ (fun hHeld2 => ?_)
          · (try dsimp only); exact next6_0 belD HD0.out
          clear hK K hHeld bel
          have hHeld := hHeld2
          clear hHeld2
          (try simp only [Act.put, List.setIfInBounds_toArray, List.set_cons_zero, List.set_cons_succ, List.getElem_toArray, List.getElem_cons_succ, List.getElem_cons_zero])
          refine wpAnyH_ready (rs := [4, 7]) ?_ (by simp) ?_
          · decide +kernel
          refine AllReadyH.cons rfl (fun K hK => ?_) (AllReadyH.cons rfl (fun K hK => ?_) AllReadyH.nil)
          · go_simp
            go_at_call 105
            refine (shapeOf).mono ?_
            rintro e v110 ⟨rfl, bel⟩
            replace belD := belD.trans (bel.mono belD.size)
            replace kF := heap_keep bel kF
            refine hK.out _ _ ?_ (fun hHeld2 => ?_)
            · (try dsimp only); exact next6_0 belD HD0.out
            clear hK K hHeld bel
            have hHeld := hHeld2
            clear hHeld2
            (try simp only [Act.put, List.setIfInBounds_toArray, List.set_cons_zero, List.set_cons_succ, List.getElem_toArray, List.getElem_cons_succ, List.getElem_cons_zero])
            refine wpAnyH_ready (rs := [5, 7]) ?_ (by simp) ?_
            · decide +kernel
            refine AllReadyH.cons rfl (fun K hK => ?_) (AllReadyH.cons rfl (fun K hK => ?_) AllReadyH.nil)
            · go_simp
              go_at_call 101
              refine (wideL HR2.out HLB.out).mono ?_
              rintro e v111 ⟨rfl, bel⟩
              replace belD := belD.trans (bel.mono belD.size)
              replace kF := heap_keep bel kF
              refine hK.out _ _ ?_ (fun hHeld2 => ?_)
              · (try dsimp only); exact next6_0 belD HD0.out
              clear hK K hHeld bel
              have hHeld := hHeld2
              clear hHeld2
              (try simp only [Act.put, List.setIfInBounds_toArray, List.set_cons_zero, List.set_cons_succ, List.getElem_toArray, List.getElem_cons_succ, List.getElem_cons_zero])
              refine wpAnyH_ready (rs := [7]) ?_ (by simp) ?_
              · decide +kernel
              refine AllReadyH.cons rfl (fun K hK => ?_) AllReadyH.nil
              go_simp
              have bel := below1 v111 (Obj.cells #[.int .i64 0] 2)
              have lmS := belD.size
              have ltF := (heap_lt kF)
              replace belD := belD.trans (bel.mono belD.size)
              replace kF := heap_keep bel kF
              refine hK.out _ _ ?_ (fun hHeld2 => ?_)
              · (try dsimp only); exact next6_0 belD HD0.out
              clear hK K hHeld bel
              obtain ⟨v112, hWa⟩ : ∃ v112, v112 = v111.alloc (Obj.cells #[.int .i64 0] 2) := ⟨_, rfl⟩
              obtain ⟨NS, hNa⟩ : ∃ NS, NS = v111.heap.size := ⟨_, rfl⟩
              have kQ : v112.heap[NS]? = some (Obj.cells #[.int .i64 0] 2) := by rw [hWa]; exact FNew.heap_top hNa
              have lmQ : wD.heap.size ≤ NS := by rw [hNa]; exact lmS
              clear lmS
              have nF_Q : NF ≠ NS := by rw [hNa]; exact Nat.ne_of_lt ltF
              clear ltF
              rw [← hWa] at belD kF
              (try dsimp only at hHeld2)
              simp only [← hWa, ← hNa] at hHeld2 ⊢
              clear hWa hNa
              have hHeld := hHeld2
              clear hHeld2
              (try simp only [Act.put, List.setIfInBounds_toArray, List.set_cons_zero, List.set_cons_succ, List.getElem_toArray, List.getElem_cons_succ, List.getElem_cons_zero])
              refine wpAnyH_ready (rs := [8]) ?_ (by simp) ?_
              · decide +kernel
              refine AllReadyH.cons rfl (fun K hK => ?_) AllReadyH.nil
              have y0 : v112.cell? ⟨NF, 0, none⟩ = some (.int .i64 0) := Go.Joins.cell_of_block kF 0
              have g0 : v112.frozen? ⟨NF, 0, none⟩ = false := Go.Joins.unfrozen_of_block kF 0
              have HKF := hid kF
              clear kF
              have HKQ := hid kQ
              clear kQ
              go_simp
              clear y0 g0
              have qF := (Go.Joins.block_setCell (i := 0) HKF.out (.int .i64 LA))
              have bz := (belD.setCell (p := ⟨NF, 0, none⟩) lmF (.int .i64 LA))
              have qQ := ((Below.heap_setCell _ ⟨NF, 0, none⟩ (.int .i64 LA) _ (Ne.symm nF_Q)).trans HKQ.out)
              obtain ⟨v113, hW5⟩ : ∃ v113, v113 = (v112.setCell ⟨NF, 0, none⟩ (.int .i64 LA)) := ⟨_, rfl⟩
              rw [← hW5] at qF bz qQ
              clear HKF belD HKQ
              have kF : v113.heap[NF]? = some (Obj.cells #[.int .i64 LA] 2) := qF
              have belD := bz
              have kQ := qQ
              clear qF bz qQ
              refine hK.out _ _ ?_ (fun hHeld2 => ?_)
              · (try dsimp only); rw [← hW5]; exact next6_0 belD HD0.out
              clear hK K hHeld
              (try dsimp only at hHeld2)
              simp only [← hW5] at hHeld2 ⊢
              clear hW5
              have hHeld := hHeld2
              clear hHeld2
              (try simp only [Act.put, List.setIfInBounds_toArray, List.set_cons_zero, List.set_cons_succ, List.getElem_toArray, List.getElem_cons_succ, List.getElem_cons_zero])
              refine wpAnyH_ready (rs := [9]) ?_ (by simp) ?_
              · decide +kernel
              refine AllReadyH.cons rfl (fun K hK => ?_) AllReadyH.nil
              have y0 : v113.cell? ⟨NS, 0, none⟩ = some (.int .i64 0) := Go.Joins.cell_of_block kQ 0
              have g0 : v113.frozen? ⟨NS, 0, none⟩ = false := Go.Joins.unfrozen_of_block kQ 0
              have HKQ := hid kQ
              clear kQ
              have HKF := hid kF
              clear kF
              go_simp
              clear y0 g0
              have qQ := (Go.Joins.block_setCell (i := 0) HKQ.out (.int .i64 LB))
              have bz := (belD.setCell (p := ⟨NS, 0, none⟩) lmQ (.int .i64 LB))
              have qF := ((Below.heap_setCell _ ⟨NS, 0, none⟩ (.int .i64 LB) _ nF_Q).trans HKF.out)
              obtain ⟨v114, hW5⟩ : ∃ v114, v114 = (v113.setCell ⟨NS, 0, none⟩ (.int .i64 LB)) := ⟨_, rfl⟩
              rw [← hW5] at qQ bz qF
              clear HKQ belD HKF
              have kQ : v114.heap[NS]? = some (Obj.cells #[.int .i64 LB] 2) := qQ
              have belD := bz
              have kF := qF
              clear qQ bz qF
              refine hK.out _ _ ?_ (fun hHeld2 => ?_)
              · (try dsimp only); rw [← hW5]; exact next6_0 belD HD0.out
              clear hK K hHeld
              (try dsimp only at hHeld2)
              simp only [← hW5] at hHeld2 ⊢
              clear hW5
              have hHeld := hHeld2
              clear hHeld2
              (try simp only [Act.put, List.setIfInBounds_toArray, List.set_cons_zero, List.set_cons_succ, List.getElem_toArray, List.getElem_cons_succ, List.getElem_cons_zero])
              refine wpAnyH_done (by kernel_rfl) ?_ _
              have hx := next6_0 belD HD0.out
              have kTx := heap_keep belD HKT.out
              have cFx : v114.cell? ⟨NF, 0, none⟩ = some (.int .i64 LA) := Go.Joins.cell_of_block kF 0
              have cSx : v114.cell? ⟨NS, 0, none⟩ = some (.int .i64 LB) := Go.Joins.cell_of_block kQ 0
              exact ⟨rfl, NF, NS, rfl, hx, kTx, cFx, cSx⟩
            · go_simp
              have bel := below1 v110 (Obj.cells #[.int .i64 0] 2)
              have lmS := belD.size
              have ltF := (heap_lt kF)
              replace belD := belD.trans (bel.mono belD.size)
              replace kF := heap_keep bel kF
              refine hK.out _ _ ?_ (fun hHeld2 => ?_)
              · (try dsimp only); exact next6_0 belD HD0.out
              clear hK K hHeld bel
              obtain ⟨v115, hWa⟩ : ∃ v115, v115 = v110.alloc (Obj.cells #[.int .i64 0] 2) := ⟨_, rfl⟩
              obtain ⟨NS, hNa⟩ : ∃ NS, NS = v110.heap.size := ⟨_, rfl⟩
              have kQ : v115.heap[NS]? = some (Obj.cells #[.int .i64 0] 2) := by rw [hWa]; exact FNew.heap_top hNa
              have lmQ : wD.heap.size ≤ NS := by rw [hNa]; exact lmS
              clear lmS
              have nF_Q : NF ≠ NS := by rw [hNa]; exact Nat.ne_of_lt ltF
              clear ltF
              rw [← hWa] at belD kF
              (try dsimp only at hHeld2)
              simp only [← hWa, ← hNa] at hHeld2 ⊢
              clear hWa hNa
              have hHeld := hHeld2
              clear hHeld2
              (try simp only [Act.put, List.setIfInBounds_toArray, List.set_cons_zero, List.set_cons_succ, List.getElem_toArray, List.getElem_cons_succ, List.getElem_cons_zero])
              refine wpAnyH_ready (rs := [5]) ?_ (by simp) ?_
              · decide +kernel
              refine AllReadyH.cons rfl (fun K hK => ?_) AllReadyH.nil
              go_simp
              go_at_call 101
              refine (wideL HR2.out HLB.out).mono ?_
              rintro e v116 ⟨rfl, bel⟩
              replace belD := belD.trans (bel.mono belD.size)
              replace kF := heap_keep bel kF
              replace kQ := heap_keep bel kQ
              refine hK.out _ _ ?_ (fun hHeld2 => ?_)
              · (try dsimp only); exact next6_0 belD HD0.out
              clear hK K hHeld bel
              have hHeld := hHeld2
              clear hHeld2
              (try simp only [Act.put, List.setIfInBounds_toArray, List.set_cons_zero, List.set_cons_succ, List.getElem_toArray, List.getElem_cons_succ, List.getElem_cons_zero])
              refine wpAnyH_ready (rs := [8]) ?_ (by simp) ?_
              · decide +kernel
              refine AllReadyH.cons rfl (fun K hK => ?_) AllReadyH.nil
              have y0 : v116.cell? ⟨NF, 0, none⟩ = some (.int .i64 0) := Go.Joins.cell_of_block kF 0
              have g0 : v116.frozen? ⟨NF, 0, none⟩ = false := Go.Joins.unfrozen_of_block kF 0
              have HKF := hid kF
              clear kF
              have HKQ := hid kQ
              clear kQ
              go_simp
              clear y0 g0
              have qF := (Go.Joins.block_setCell (i := 0) HKF.out (.int .i64 LA))
              have bz := (belD.setCell (p := ⟨NF, 0, none⟩) lmF (.int .i64 LA))
              have qQ := ((Below.heap_setCell _ ⟨NF, 0, none⟩ (.int .i64 LA) _ (Ne.symm nF_Q)).trans HKQ.out)
              obtain ⟨v117, hW5⟩ : ∃ v117, v117 = (v116.setCell ⟨NF, 0, none⟩ (.int .i64 LA)) := ⟨_, rfl⟩
              rw [← hW5] at qF bz qQ
              clear HKF belD HKQ
              have kF : v117.heap[NF]? = some (Obj.cells #[.int .i64 LA] 2) := qF
              have belD := bz
              have kQ := qQ
              clear qF bz qQ
              refine hK.out _ _ ?_ (fun hHeld2 => ?_)
              · (try dsimp only); rw [← hW5]; exact next6_0 belD HD0.out
              clear hK K hHeld
              (try dsimp only at hHeld2)
              simp only [← hW5] at hHeld2 ⊢
              clear hW5
              have hHeld := hHeld2
              clear hHeld2
              (try simp only [Act.put, List.setIfInBounds_toArray, List.set_cons_zero, List.set_cons_succ, List.getElem_toArray, List.getElem_cons_succ, List.getElem_cons_zero])
              refine wpAnyH_ready (rs := [9]) ?_ (by simp) ?_
              · decide +kernel
              refine AllReadyH.cons rfl (fun K hK => ?_) AllReadyH.nil
              have y0 : v117.cell? ⟨NS, 0, none⟩ = some (.int .i64 0) := Go.Joins.cell_of_block kQ 0
              have g0 : v117.frozen? ⟨NS, 0, none⟩ = false := Go.Joins.unfrozen_of_block kQ 0
              have HKQ := hid kQ
              clear kQ
              have HKF := hid kF
              clear kF
              go_simp
              clear y0 g0
              have qQ := (Go.Joins.block_setCell (i := 0) HKQ.out (.int .i64 LB))
              have bz := (belD.setCell (p := ⟨NS, 0, none⟩) lmQ (.int .i64 LB))
              have qF := ((Below.heap_setCell _ ⟨NS, 0, none⟩ (.int .i64 LB) _ nF_Q).trans HKF.out)
              obtain ⟨v118, hW5⟩ : ∃ v118, v118 = (v117.setCell ⟨NS, 0, none⟩ (.int .i64 LB)) := ⟨_, rfl⟩
              rw [← hW5] at qQ bz qF
              clear HKQ belD HKF
              have kQ : v118.heap[NS]? = some (Obj.cells #[.int .i64 LB] 2) := qQ
              have belD := bz
              have kF := qF
              clear qQ bz qF
              refine hK.out _ _ ?_ (fun hHeld2 => ?_)
              · (try dsimp only); rw [← hW5]; exact next6_0 belD HD0.out
              clear hK K hHeld
              (try dsimp only at hHeld2)
              simp only [← hW5] at hHeld2 ⊢
              clear hW5
              have hHeld := hHeld2
              clear hHeld2
              (try simp only [Act.put, List.setIfInBounds_toArray, List.set_cons_zero, List.set_cons_succ, List.getElem_toArray, List.getElem_cons_succ, List.getElem_cons_zero])
              refine wpAnyH_done (by kernel_rfl) ?_ _
              have hx := next6_0 belD HD0.out
              have kTx := heap_keep belD HKT.out
              have cFx : v118.cell? ⟨NF, 0, none⟩ = some (.int .i64 LA) := Go.Joins.cell_of_block kF 0
              have cSx : v118.cell? ⟨NS, 0, none⟩ = some (.int .i64 LB) := Go.Joins.cell_of_block kQ 0
              exact ⟨rfl, NF, NS, rfl, hx, kTx, cFx, cSx⟩
          · go_simp
            have bel := below1 v109 (Obj.cells #[.int .i64 0] 2)
            have lmS := belD.size
            have ltF := (heap_lt kF)
            replace belD := belD.trans (bel.mono belD.size)
            replace kF := heap_keep bel kF
            refine hK.out _ _ ?_ (fun hHeld2 => ?_)
            · (try dsimp only); exact next6_0 belD HD0.out
            clear hK K hHeld bel
            obtain ⟨v119, hWa⟩ : ∃ v119, v119 = v109.alloc (Obj.cells #[.int .i64 0] 2) := ⟨_, rfl⟩
            obtain ⟨NS, hNa⟩ : ∃ NS, NS = v109.heap.size := ⟨_, rfl⟩
            have kQ : v119.heap[NS]? = some (Obj.cells #[.int .i64 0] 2) := by rw [hWa]; exact FNew.heap_top hNa
            have lmQ : wD.heap.size ≤ NS := by rw [hNa]; exact lmS
            clear lmS
            have nF_Q : NF ≠ NS := by rw [hNa]; exact Nat.ne_of_lt ltF
            clear ltF
            rw [← hWa] at belD kF
            (try dsimp only at hHeld2)
            simp only [← hWa, ← hNa] at hHeld2 ⊢
            clear hWa hNa
            have hHeld := hHeld2
            clear hHeld2
            (try simp only [Act.put, List.setIfInBounds_toArray, List.set_cons_zero, List.set_cons_succ, List.getElem_toArray, List.getElem_cons_succ, List.getElem_cons_zero])
            refine wpAnyH_ready (rs := [4]) ?_ (by simp) ?_
            · decide +kernel
            refine AllReadyH.cons rfl (fun K hK => ?_) AllReadyH.nil
            go_simp
            go_at_call 105
            refine (shapeOf).mono ?_
            rintro e v120 ⟨rfl, bel⟩
            replace belD := belD.trans (bel.mono belD.size)
            replace kF := heap_keep bel kF
            replace kQ := heap_keep bel kQ
            refine hK.out _ _ ?_ (fun hHeld2 => ?_)
            · (try dsimp only); exact next6_0 belD HD0.out
            clear hK K hHeld bel
            have hHeld := hHeld2
            clear hHeld2
            (try simp only [Act.put, List.setIfInBounds_toArray, List.set_cons_zero, List.set_cons_succ, List.getElem_toArray, List.getElem_cons_succ, List.getElem_cons_zero])
            refine wpAnyH_ready (rs := [5]) ?_ (by simp) ?_
            · decide +kernel
            refine AllReadyH.cons rfl (fun K hK => ?_) AllReadyH.nil
            go_simp
            go_at_call 101
            refine (wideL HR2.out HLB.out).mono ?_
            rintro e v121 ⟨rfl, bel⟩
            replace belD := belD.trans (bel.mono belD.size)
            replace kF := heap_keep bel kF
            replace kQ := heap_keep bel kQ
            refine hK.out _ _ ?_ (fun hHeld2 => ?_)
            · (try dsimp only); exact next6_0 belD HD0.out
            clear hK K hHeld bel
            have hHeld := hHeld2
            clear hHeld2
            (try simp only [Act.put, List.setIfInBounds_toArray, List.set_cons_zero, List.set_cons_succ, List.getElem_toArray, List.getElem_cons_succ, List.getElem_cons_zero])
            refine wpAnyH_ready (rs := [8]) ?_ (by simp) ?_
            · decide +kernel
            refine AllReadyH.cons rfl (fun K hK => ?_) AllReadyH.nil
            have y0 : v121.cell? ⟨NF, 0, none⟩ = some (.int .i64 0) := Go.Joins.cell_of_block kF 0
            have g0 : v121.frozen? ⟨NF, 0, none⟩ = false := Go.Joins.unfrozen_of_block kF 0
            have HKF := hid kF
            clear kF
            have HKQ := hid kQ
            clear kQ
            go_simp
            clear y0 g0
            have qF := (Go.Joins.block_setCell (i := 0) HKF.out (.int .i64 LA))
            have bz := (belD.setCell (p := ⟨NF, 0, none⟩) lmF (.int .i64 LA))
            have qQ := ((Below.heap_setCell _ ⟨NF, 0, none⟩ (.int .i64 LA) _ (Ne.symm nF_Q)).trans HKQ.out)
            obtain ⟨v122, hW5⟩ : ∃ v122, v122 = (v121.setCell ⟨NF, 0, none⟩ (.int .i64 LA)) := ⟨_, rfl⟩
            rw [← hW5] at qF bz qQ
            clear HKF belD HKQ
            have kF : v122.heap[NF]? = some (Obj.cells #[.int .i64 LA] 2) := qF
            have belD := bz
            have kQ := qQ
            clear qF bz qQ
            refine hK.out _ _ ?_ (fun hHeld2 => ?_)
            · (try dsimp only); rw [← hW5]; exact next6_0 belD HD0.out
            clear hK K hHeld
            (try dsimp only at hHeld2)
            simp only [← hW5] at hHeld2 ⊢
            clear hW5
            have hHeld := hHeld2
            clear hHeld2
            (try simp only [Act.put, List.setIfInBounds_toArray, List.set_cons_zero, List.set_cons_succ, List.getElem_toArray, List.getElem_cons_succ, List.getElem_cons_zero])
            refine wpAnyH_ready (rs := [9]) ?_ (by simp) ?_
            · decide +kernel
            refine AllReadyH.cons rfl (fun K hK => ?_) AllReadyH.nil
            have y0 : v122.cell? ⟨NS, 0, none⟩ = some (.int .i64 0) := Go.Joins.cell_of_block kQ 0
            have g0 : v122.frozen? ⟨NS, 0, none⟩ = false := Go.Joins.unfrozen_of_block kQ 0
            have HKQ := hid kQ
            clear kQ
            have HKF := hid kF
            clear kF
            go_simp
            clear y0 g0
            have qQ := (Go.Joins.block_setCell (i := 0) HKQ.out (.int .i64 LB))
            have bz := (belD.setCell (p := ⟨NS, 0, none⟩) lmQ (.int .i64 LB))
            have qF := ((Below.heap_setCell _ ⟨NS, 0, none⟩ (.int .i64 LB) _ nF_Q).trans HKF.out)
            obtain ⟨v123, hW5⟩ : ∃ v123, v123 = (v122.setCell ⟨NS, 0, none⟩ (.int .i64 LB)) := ⟨_, rfl⟩
            rw [← hW5] at qQ bz qF
            clear HKQ belD HKF
            have kQ : v123.heap[NS]? = some (Obj.cells #[.int .i64 LB] 2) := qQ
            have belD := bz
            have kF := qF
            clear qQ bz qF
            refine hK.out _ _ ?_ (fun hHeld2 => ?_)
            · (try dsimp only); rw [← hW5]; exact next6_0 belD HD0.out
            clear hK K hHeld
            (try dsimp only at hHeld2)
            simp only [← hW5] at hHeld2 ⊢
            clear hW5
            have hHeld := hHeld2
            clear hHeld2
            (try simp only [Act.put, List.setIfInBounds_toArray, List.set_cons_zero, List.set_cons_succ, List.getElem_toArray, List.getElem_cons_succ, List.getElem_cons_zero])
            refine wpAnyH_done (by kernel_rfl) ?_ _
            have hx := next6_0 belD HD0.out
            have kTx := heap_keep belD HKT.out
            have cFx : v123.cell? ⟨NF, 0, none⟩ = some (.int .i64 LA) := Go.Joins.cell_of_block kF 0
            have cSx : v123.cell? ⟨NS, 0, none⟩ = some (.int .i64 LB) := Go.Joins.cell_of_block kQ 0
            exact ⟨rfl, NF, NS, rfl, hx, kTx, cFx, cSx⟩
        · go_simp
          have bel := below1 v108 (Obj.cells #[.int .i64 0] 2)
          have lmS := belD.size
          have ltF := (heap_lt kF)
          replace belD := belD.trans (bel.mono belD.size)
          replace kF := heap_keep bel kF
          refine hK.out _ _ ?_ (fun hHeld2 => ?_)
          · (try dsimp only); exact next6_0 belD HD0.out
          clear hK K hHeld bel
          obtain ⟨v124, hWa⟩ : ∃ v124, v124 = v108.alloc (Obj.cells #[.int .i64 0] 2) := ⟨_, rfl⟩
          obtain ⟨NS, hNa⟩ : ∃ NS, NS = v108.heap.size := ⟨_, rfl⟩
          have kQ : v124.heap[NS]? = some (Obj.cells #[.int .i64 0] 2) := by rw [hWa]; exact FNew.heap_top hNa
          have lmQ : wD.heap.size ≤ NS := by rw [hNa]; exact lmS
          clear lmS
          have nF_Q : NF ≠ NS := by rw [hNa]; exact Nat.ne_of_lt ltF
          clear ltF
          rw [← hWa] at belD kF
          (try dsimp only at hHeld2)
          simp only [← hWa, ← hNa] at hHeld2 ⊢
          clear hWa hNa
          have hHeld := hHeld2
          clear hHeld2
          (try simp only [Act.put, List.setIfInBounds_toArray, List.set_cons_zero, List.set_cons_succ, List.getElem_toArray, List.getElem_cons_succ, List.getElem_cons_zero])
          refine wpAnyH_ready (rs := [2]) ?_ (by simp) ?_
          · decide +kernel
          refine AllReadyH.cons rfl (fun K hK => ?_) AllReadyH.nil
          go_simp
          go_at_call 101
          refine (wideL HR1.out HLA.out).mono ?_
          rintro e v125 ⟨rfl, bel⟩
          replace belD := belD.trans (bel.mono belD.size)
          replace kF := heap_keep bel kF
          replace kQ := heap_keep bel kQ
          refine hK.out _ _ ?_ (fun hHeld2 => ?_)
          · (try dsimp only); exact next6_0 belD HD0.out
          clear hK K hHeld bel
          have hHeld := hHeld2
          clear hHeld2
          (try simp only [Act.put, List.setIfInBounds_toArray, List.set_cons_zero, List.set_cons_succ, List.getElem_toArray, List.getElem_cons_succ, List.getElem_cons_zero])
          refine wpAnyH_ready (rs := [4]) ?_ (by simp) ?_
          · decide +kernel
          refine AllReadyH.cons rfl (fun K hK => ?_) AllReadyH.nil
          go_simp
          go_at_call 105
          refine (shapeOf).mono ?_
          rintro e v126 ⟨rfl, bel⟩
          replace belD := belD.trans (bel.mono belD.size)
          replace kF := heap_keep bel kF
          replace kQ := heap_keep bel kQ
          refine hK.out _ _ ?_ (fun hHeld2 => ?_)
          · (try dsimp only); exact next6_0 belD HD0.out
          clear hK K hHeld bel
          have hHeld := hHeld2
          clear hHeld2
          (try simp only [Act.put, List.setIfInBounds_toArray, List.set_cons_zero, List.set_cons_succ, List.getElem_toArray, List.getElem_cons_succ, List.getElem_cons_zero])
          refine wpAnyH_ready (rs := [5]) ?_ (by simp) ?_
          · decide +kernel
          refine AllReadyH.cons rfl (fun K hK => ?_) AllReadyH.nil
          go_simp
          go_at_call 101
          refine (wideL HR2.out HLB.out).mono ?_
          rintro e v127 ⟨rfl, bel⟩
          replace belD := belD.trans (bel.mono belD.size)
          replace kF := heap_keep bel kF
          replace kQ := heap_keep bel kQ
          refine hK.out _ _ ?_ (fun hHeld2 => ?_)
          · (try dsimp only); exact next6_0 belD HD0.out
          clear hK K hHeld bel
          have hHeld := hHeld2
          clear hHeld2
          (try simp only [Act.put, List.setIfInBounds_toArray, List.set_cons_zero, List.set_cons_succ, List.getElem_toArray, List.getElem_cons_succ, List.getElem_cons_zero])
          refine wpAnyH_ready (rs := [8]) ?_ (by simp) ?_
          · decide +kernel
          refine AllReadyH.cons rfl (fun K hK => ?_) AllReadyH.nil
          have y0 : v127.cell? ⟨NF, 0, none⟩ = some (.int .i64 0) := Go.Joins.cell_of_block kF 0
          have g0 : v127.frozen? ⟨NF, 0, none⟩ = false := Go.Joins.unfrozen_of_block kF 0
          have HKF := hid kF
          clear kF
          have HKQ := hid kQ
          clear kQ
          go_simp
          clear y0 g0
          have qF := (Go.Joins.block_setCell (i := 0) HKF.out (.int .i64 LA))
          have bz := (belD.setCell (p := ⟨NF, 0, none⟩) lmF (.int .i64 LA))
          have qQ := ((Below.heap_setCell _ ⟨NF, 0, none⟩ (.int .i64 LA) _ (Ne.symm nF_Q)).trans HKQ.out)
          obtain ⟨v128, hW5⟩ : ∃ v128, v128 = (v127.setCell ⟨NF, 0, none⟩ (.int .i64 LA)) := ⟨_, rfl⟩
          rw [← hW5] at qF bz qQ
          clear HKF belD HKQ
          have kF : v128.heap[NF]? = some (Obj.cells #[.int .i64 LA] 2) := qF
          have belD := bz
          have kQ := qQ
          clear qF bz qQ
          refine hK.out _ _ ?_ (fun hHeld2 => ?_)
          · (try dsimp only); rw [← hW5]; exact next6_0 belD HD0.out
          clear hK K hHeld
          (try dsimp only at hHeld2)
          simp only [← hW5] at hHeld2 ⊢
          clear hW5
          have hHeld := hHeld2
          clear hHeld2
          (try simp only [Act.put, List.setIfInBounds_toArray, List.set_cons_zero, List.set_cons_succ, List.getElem_toArray, List.getElem_cons_succ, List.getElem_cons_zero])
          refine wpAnyH_ready (rs := [9]) ?_ (by simp) ?_
          · decide +kernel
          refine AllReadyH.cons rfl (fun K hK => ?_) AllReadyH.nil
          have y0 : v128.cell? ⟨NS, 0, none⟩ = some (.int .i64 0) := Go.Joins.cell_of_block kQ 0
          have g0 : v128.frozen? ⟨NS, 0, none⟩ = false := Go.Joins.unfrozen_of_block kQ 0
          have HKQ := hid kQ
          clear kQ
          have HKF := hid kF
          clear kF
          go_simp
          clear y0 g0
          have qQ := (Go.Joins.block_setCell (i := 0) HKQ.out (.int .i64 LB))
          have bz := (belD.setCell (p := ⟨NS, 0, none⟩) lmQ (.int .i64 LB))
          have qF := ((Below.heap_setCell _ ⟨NS, 0, none⟩ (.int .i64 LB) _ nF_Q).trans HKF.out)
          obtain ⟨v129, hW5⟩ : ∃ v129, v129 = (v128.setCell ⟨NS, 0, none⟩ (.int .i64 LB)) := ⟨_, rfl⟩
          rw [← hW5] at qQ bz qF
          clear HKQ belD HKF
          have kQ : v129.heap[NS]? = some (Obj.cells #[.int .i64 LB] 2) := qQ
          have belD := bz
          have kF := qF
          clear qQ bz qF
          refine hK.out _ _ ?_ (fun hHeld2 => ?_)
          · (try dsimp only); rw [← hW5]; exact next6_0 belD HD0.out
          clear hK K hHeld
          (try dsimp only at hHeld2)
          simp only [← hW5] at hHeld2 ⊢
          clear hW5
          have hHeld := hHeld2
          clear hHeld2
          (try simp only [Act.put, List.setIfInBounds_toArray, List.set_cons_zero, List.set_cons_succ, List.getElem_toArray, List.getElem_cons_succ, List.getElem_cons_zero])
          refine wpAnyH_done (by kernel_rfl) ?_ _
          have hx := next6_0 belD HD0.out
          have kTx := heap_keep belD HKT.out
          have cFx : v129.cell? ⟨NF, 0, none⟩ = some (.int .i64 LA) := Go.Joins.cell_of_block kF 0
          have cSx : v129.cell? ⟨NS, 0, none⟩ = some (.int .i64 LB) := Go.Joins.cell_of_block kQ 0
          exact ⟨rfl, NF, NS, rfl, hx, kTx, cFx, cSx⟩
      · go_simp
        have bel := below1 v107 (Obj.cells #[.int .i64 0] 2)
        have lmS := belD.size
        have ltF := (heap_lt kF)
        replace belD := belD.trans (bel.mono belD.size)
        replace kF := heap_keep bel kF
        refine hK.out _ _ ?_ (fun hHeld2 => ?_)
        · (try dsimp only); exact next6_0 belD HD0.out
        clear hK K hHeld bel
        obtain ⟨v130, hWa⟩ : ∃ v130, v130 = v107.alloc (Obj.cells #[.int .i64 0] 2) := ⟨_, rfl⟩
        obtain ⟨NS, hNa⟩ : ∃ NS, NS = v107.heap.size := ⟨_, rfl⟩
        have kQ : v130.heap[NS]? = some (Obj.cells #[.int .i64 0] 2) := by rw [hWa]; exact FNew.heap_top hNa
        have lmQ : wD.heap.size ≤ NS := by rw [hNa]; exact lmS
        clear lmS
        have nF_Q : NF ≠ NS := by rw [hNa]; exact Nat.ne_of_lt ltF
        clear ltF
        rw [← hWa] at belD kF
        (try dsimp only at hHeld2)
        simp only [← hWa, ← hNa] at hHeld2 ⊢
        clear hWa hNa
        have hHeld := hHeld2
        clear hHeld2
        (try simp only [Act.put, List.setIfInBounds_toArray, List.set_cons_zero, List.set_cons_succ, List.getElem_toArray, List.getElem_cons_succ, List.getElem_cons_zero])
        refine wpAnyH_ready (rs := [1]) ?_ (by simp) ?_
        · decide +kernel
        refine AllReadyH.cons rfl (fun K hK => ?_) AllReadyH.nil
        go_simp
        go_at_call 105
        refine (shapeOf).mono ?_
        rintro e v131 ⟨rfl, bel⟩
        replace belD := belD.trans (bel.mono belD.size)
        replace kF := heap_keep bel kF
        replace kQ := heap_keep bel kQ
        refine hK.out _ _ ?_ (fun hHeld2 => ?_)
        · (try dsimp only); exact next6_0 belD HD0.out
        clear hK K hHeld bel
        have hHeld := hHeld2
        clear hHeld2
        (try simp only [Act.put, List.setIfInBounds_toArray, List.set_cons_zero, List.set_cons_succ, List.getElem_toArray, List.getElem_cons_succ, List.getElem_cons_zero])
        refine wpAnyH_ready (rs := [2]) ?_ (by simp) ?_
        · decide +kernel
        refine AllReadyH.cons rfl (fun K hK => ?_) AllReadyH.nil
        go_simp
        go_at_call 101
        refine (wideL HR1.out HLA.out).mono ?_
        rintro e v132 ⟨rfl, bel⟩
        replace belD := belD.trans (bel.mono belD.size)
        replace kF := heap_keep bel kF
        replace kQ := heap_keep bel kQ
        refine hK.out _ _ ?_ (fun hHeld2 => ?_)
        · (try dsimp only); exact next6_0 belD HD0.out
        clear hK K hHeld bel
        have hHeld := hHeld2
        clear hHeld2
        (try simp only [Act.put, List.setIfInBounds_toArray, List.set_cons_zero, List.set_cons_succ, List.getElem_toArray, List.getElem_cons_succ, List.getElem_cons_zero])
        refine wpAnyH_ready (rs := [4]) ?_ (by simp) ?_
        · decide +kernel
        refine AllReadyH.cons rfl (fun K hK => ?_) AllReadyH.nil
        go_simp
        go_at_call 105
        refine (shapeOf).mono ?_
        rintro e v133 ⟨rfl, bel⟩
        replace belD := belD.trans (bel.mono belD.size)
        replace kF := heap_keep bel kF
        replace kQ := heap_keep bel kQ
        refine hK.out _ _ ?_ (fun hHeld2 => ?_)
        · (try dsimp only); exact next6_0 belD HD0.out
        clear hK K hHeld bel
        have hHeld := hHeld2
        clear hHeld2
        (try simp only [Act.put, List.setIfInBounds_toArray, List.set_cons_zero, List.set_cons_succ, List.getElem_toArray, List.getElem_cons_succ, List.getElem_cons_zero])
        refine wpAnyH_ready (rs := [5]) ?_ (by simp) ?_
        · decide +kernel
        refine AllReadyH.cons rfl (fun K hK => ?_) AllReadyH.nil
        go_simp
        go_at_call 101
        refine (wideL HR2.out HLB.out).mono ?_
        rintro e v134 ⟨rfl, bel⟩
        replace belD := belD.trans (bel.mono belD.size)
        replace kF := heap_keep bel kF
        replace kQ := heap_keep bel kQ
        refine hK.out _ _ ?_ (fun hHeld2 => ?_)
        · (try dsimp only); exact next6_0 belD HD0.out
        clear hK K hHeld bel
        have hHeld := hHeld2
        clear hHeld2
        (try simp only [Act.put, List.setIfInBounds_toArray, List.set_cons_zero, List.set_cons_succ, List.getElem_toArray, List.getElem_cons_succ, List.getElem_cons_zero])
        refine wpAnyH_ready (rs := [8]) ?_ (by simp) ?_
        · decide +kernel
        refine AllReadyH.cons rfl (fun K hK => ?_) AllReadyH.nil
        have y0 : v134.cell? ⟨NF, 0, none⟩ = some (.int .i64 0) := Go.Joins.cell_of_block kF 0
        have g0 : v134.frozen? ⟨NF, 0, none⟩ = false := Go.Joins.unfrozen_of_block kF 0
        have HKF := hid kF
        clear kF
        have HKQ := hid kQ
        clear kQ
        go_simp
        clear y0 g0
        have qF := (Go.Joins.block_setCell (i := 0) HKF.out (.int .i64 LA))
        have bz := (belD.setCell (p := ⟨NF, 0, none⟩) lmF (.int .i64 LA))
        have qQ := ((Below.heap_setCell _ ⟨NF, 0, none⟩ (.int .i64 LA) _ (Ne.symm nF_Q)).trans HKQ.out)
        obtain ⟨v135, hW5⟩ : ∃ v135, v135 = (v134.setCell ⟨NF, 0, none⟩ (.int .i64 LA)) := ⟨_, rfl⟩
        rw [← hW5] at qF bz qQ
        clear HKF belD HKQ
        have kF : v135.heap[NF]? = some (Obj.cells #[.int .i64 LA] 2) := qF
        have belD := bz
        have kQ := qQ
        clear qF bz qQ
        refine hK.out _ _ ?_ (fun hHeld2 => ?_)
        · (try dsimp only); rw [← hW5]; exact next6_0 belD HD0.out
        clear hK K hHeld
        (try dsimp only at hHeld2)
        simp only [← hW5] at hHeld2 ⊢
        clear hW5
        have hHeld := hHeld2
        clear hHeld2
        (try simp only [Act.put, List.setIfInBounds_toArray, List.set_cons_zero, List.set_cons_succ, List.getElem_toArray, List.getElem_cons_succ, List.getElem_cons_zero])
        refine wpAnyH_ready (rs := [9]) ?_ (by simp) ?_
        · decide +kernel
        refine AllReadyH.cons rfl (fun K hK => ?_) AllReadyH.nil
        have y0 : v135.cell? ⟨NS, 0, none⟩ = some (.int .i64 0) := Go.Joins.cell_of_block kQ 0
        have g0 : v135.frozen? ⟨NS, 0, none⟩ = false := Go.Joins.unfrozen_of_block kQ 0
        have HKQ := hid kQ
        clear kQ
        have HKF := hid kF
        clear kF
        go_simp
        clear y0 g0
        have qQ := (Go.Joins.block_setCell (i := 0) HKQ.out (.int .i64 LB))
        have bz := (belD.setCell (p := ⟨NS, 0, none⟩) lmQ (.int .i64 LB))
        have qF := ((Below.heap_setCell _ ⟨NS, 0, none⟩ (.int .i64 LB) _ nF_Q).trans HKF.out)
        obtain ⟨v136, hW5⟩ : ∃ v136, v136 = (v135.setCell ⟨NS, 0, none⟩ (.int .i64 LB)) := ⟨_, rfl⟩
        rw [← hW5] at qQ bz qF
        clear HKQ belD HKF
        have kQ : v136.heap[NS]? = some (Obj.cells #[.int .i64 LB] 2) := qQ
        have belD := bz
        have kF := qF
        clear qQ bz qF
        refine hK.out _ _ ?_ (fun hHeld2 => ?_)
        · (try dsimp only); rw [← hW5]; exact next6_0 belD HD0.out
        clear hK K hHeld
        (try dsimp only at hHeld2)
        simp only [← hW5] at hHeld2 ⊢
        clear hW5
        have hHeld := hHeld2
        clear hHeld2
        (try simp only [Act.put, List.setIfInBounds_toArray, List.set_cons_zero, List.set_cons_succ, List.getElem_toArray, List.getElem_cons_succ, List.getElem_cons_zero])
        refine wpAnyH_done (by kernel_rfl) ?_ _
        have hx := next6_0 belD HD0.out
        have kTx := heap_keep belD HKT.out
        have cFx : v136.cell? ⟨NF, 0, none⟩ = some (.int .i64 LA) := Go.Joins.cell_of_block kF 0
        have cSx : v136.cell? ⟨NS, 0, none⟩ = some (.int .i64 LB) := Go.Joins.cell_of_block kQ 0
        exact ⟨rfl, NF, NS, rfl, hx, kTx, cFx, cSx⟩
    · go_simp
      have bel := below1 wD (Obj.cells #[.int .i64 0] 2)
      have lmS := belD.size
      replace belD := belD.trans (bel.mono belD.size)
      refine hK.out _ _ ?_ (fun hHeld2 => ?_)
      · (try dsimp only); exact next6_0 belD HD0.out
      clear hK K hHeld bel
      obtain ⟨v137, hWa⟩ : ∃ v137, v137 = wD.alloc (Obj.cells #[.int .i64 0] 2) := ⟨_, rfl⟩
      obtain ⟨NS, hNa⟩ : ∃ NS, NS = wD.heap.size := ⟨_, rfl⟩
      have kQ : v137.heap[NS]? = some (Obj.cells #[.int .i64 0] 2) := by rw [hWa]; exact FNew.heap_top hNa
      have lmQ : wD.heap.size ≤ NS := by rw [hNa]; exact lmS
      clear lmS
      rw [← hWa] at belD
      (try dsimp only at hHeld2)
      simp only [← hWa, ← hNa] at hHeld2 ⊢
      clear hWa hNa
      have hHeld := hHeld2
      clear hHeld2
      (try simp only [Act.put, List.setIfInBounds_toArray, List.set_cons_zero, List.set_cons_succ, List.getElem_toArray, List.getElem_cons_succ, List.getElem_cons_zero])
      refine wpAnyH_ready (rs := [1, 6]) ?_ (by simp) ?_
      · decide +kernel
      refine AllReadyH.cons rfl (fun K hK => ?_) (AllReadyH.cons rfl (fun K hK => ?_) AllReadyH.nil)
      · go_simp
        go_at_call 105
        refine (shapeOf).mono ?_
        rintro e v138 ⟨rfl, bel⟩
        replace belD := belD.trans (bel.mono belD.size)
        replace kQ := heap_keep bel kQ
        refine hK.out _ _ ?_ (fun hHeld2 => ?_)
        · (try dsimp only); exact next6_0 belD HD0.out
        clear hK K hHeld bel
        have hHeld := hHeld2
        clear hHeld2
        (try simp only [Act.put, List.setIfInBounds_toArray, List.set_cons_zero, List.set_cons_succ, List.getElem_toArray, List.getElem_cons_succ, List.getElem_cons_zero])
        refine wpAnyH_ready (rs := [2, 6]) ?_ (by simp) ?_
        · decide +kernel
        refine AllReadyH.cons rfl (fun K hK => ?_) (AllReadyH.cons rfl (fun K hK => ?_) AllReadyH.nil)
        · go_simp
          go_at_call 101
          refine (wideL HR1.out HLA.out).mono ?_
          rintro e v139 ⟨rfl, bel⟩
          replace belD := belD.trans (bel.mono belD.size)
          replace kQ := heap_keep bel kQ
          refine hK.out _ _ ?_ (fun hHeld2 => ?_)
          · (try dsimp only); exact next6_0 belD HD0.out
          clear hK K hHeld bel
          have hHeld := hHeld2
          clear hHeld2
          (try simp only [Act.put, List.setIfInBounds_toArray, List.set_cons_zero, List.set_cons_succ, List.getElem_toArray, List.getElem_cons_succ, List.getElem_cons_zero])
          refine wpAnyH_ready (rs := [4, 6]) ?_ (by simp) ?_
          · decide +kernel
          refine AllReadyH.cons rfl (fun K hK => ?_) (AllReadyH.cons rfl (fun K hK => ?_) AllReadyH.nil)
          · go_simp
            go_at_call 105
            refine (shapeOf).mono ?_
            rintro e v140 ⟨rfl, bel⟩
            replace belD := belD.trans (bel.mono belD.size)
            replace kQ := heap_keep bel kQ
            refine hK.out _ _ ?_ (fun hHeld2 => ?_)
            · (try dsimp only); exact next6_0 belD HD0.out
            clear hK K hHeld bel
            have hHeld := hHeld2
            clear hHeld2
            (try simp only [Act.put, List.setIfInBounds_toArray, List.set_cons_zero, List.set_cons_succ, List.getElem_toArray, List.getElem_cons_succ, List.getElem_cons_zero])
            refine wpAnyH_ready (rs := [5, 6]) ?_ (by simp) ?_
            · decide +kernel
            refine AllReadyH.cons rfl (fun K hK => ?_) (AllReadyH.cons rfl (fun K hK => ?_) AllReadyH.nil)
            · go_simp
              go_at_call 101
              refine (wideL HR2.out HLB.out).mono ?_
              rintro e v141 ⟨rfl, bel⟩
              replace belD := belD.trans (bel.mono belD.size)
              replace kQ := heap_keep bel kQ
              refine hK.out _ _ ?_ (fun hHeld2 => ?_)
              · (try dsimp only); exact next6_0 belD HD0.out
              clear hK K hHeld bel
              have hHeld := hHeld2
              clear hHeld2
              (try simp only [Act.put, List.setIfInBounds_toArray, List.set_cons_zero, List.set_cons_succ, List.getElem_toArray, List.getElem_cons_succ, List.getElem_cons_zero])
              refine wpAnyH_ready (rs := [6]) ?_ (by simp) ?_
              · decide +kernel
              refine AllReadyH.cons rfl (fun K hK => ?_) AllReadyH.nil
              go_simp
              have bel := below1 v141 (Obj.cells #[.int .i64 0] 2)
              have lmS := belD.size
              have ltQ := (heap_lt kQ)
              replace belD := belD.trans (bel.mono belD.size)
              replace kQ := heap_keep bel kQ
              refine hK.out _ _ ?_ (fun hHeld2 => ?_)
              · (try dsimp only); exact next6_0 belD HD0.out
              clear hK K hHeld bel
              obtain ⟨v142, hWa⟩ : ∃ v142, v142 = v141.alloc (Obj.cells #[.int .i64 0] 2) := ⟨_, rfl⟩
              obtain ⟨NF, hNa⟩ : ∃ NF, NF = v141.heap.size := ⟨_, rfl⟩
              have kF : v142.heap[NF]? = some (Obj.cells #[.int .i64 0] 2) := by rw [hWa]; exact FNew.heap_top hNa
              have lmF : wD.heap.size ≤ NF := by rw [hNa]; exact lmS
              clear lmS
              have nQ_F : NS ≠ NF := by rw [hNa]; exact Nat.ne_of_lt ltQ
              clear ltQ
              rw [← hWa] at belD kQ
              (try dsimp only at hHeld2)
              simp only [← hWa, ← hNa] at hHeld2 ⊢
              clear hWa hNa
              have hHeld := hHeld2
              clear hHeld2
              (try simp only [Act.put, List.setIfInBounds_toArray, List.set_cons_zero, List.set_cons_succ, List.getElem_toArray, List.getElem_cons_succ, List.getElem_cons_zero])
              refine wpAnyH_ready (rs := [8]) ?_ (by simp) ?_
              · decide +kernel
              refine AllReadyH.cons rfl (fun K hK => ?_) AllReadyH.nil
              have y0 : v142.cell? ⟨NF, 0, none⟩ = some (.int .i64 0) := Go.Joins.cell_of_block kF 0
              have g0 : v142.frozen? ⟨NF, 0, none⟩ = false := Go.Joins.unfrozen_of_block kF 0
              have HKF := hid kF
              clear kF
              have HKQ := hid kQ
              clear kQ
              go_simp
              clear y0 g0
              have qF := (Go.Joins.block_setCell (i := 0) HKF.out (.int .i64 LA))
              have bz := (belD.setCell (p := ⟨NF, 0, none⟩) lmF (.int .i64 LA))
              have qQ := ((Below.heap_setCell _ ⟨NF, 0, none⟩ (.int .i64 LA) _ nQ_F).trans HKQ.out)
              obtain ⟨v143, hW5⟩ : ∃ v143, v143 = (v142.setCell ⟨NF, 0, none⟩ (.int .i64 LA)) := ⟨_, rfl⟩
              rw [← hW5] at qF bz qQ
              clear HKF belD HKQ
              have kF : v143.heap[NF]? = some (Obj.cells #[.int .i64 LA] 2) := qF
              have belD := bz
              have kQ := qQ
              clear qF bz qQ
              refine hK.out _ _ ?_ (fun hHeld2 => ?_)
              · (try dsimp only); rw [← hW5]; exact next6_0 belD HD0.out
              clear hK K hHeld
              (try dsimp only at hHeld2)
              simp only [← hW5] at hHeld2 ⊢
              clear hW5
              have hHeld := hHeld2
              clear hHeld2
              (try simp only [Act.put, List.setIfInBounds_toArray, List.set_cons_zero, List.set_cons_succ, List.getElem_toArray, List.getElem_cons_succ, List.getElem_cons_zero])
              refine wpAnyH_ready (rs := [9]) ?_ (by simp) ?_
              · decide +kernel
              refine AllReadyH.cons rfl (fun K hK => ?_) AllReadyH.nil
              have y0 : v143.cell? ⟨NS, 0, none⟩ = some (.int .i64 0) := Go.Joins.cell_of_block kQ 0
              have g0 : v143.frozen? ⟨NS, 0, none⟩ = false := Go.Joins.unfrozen_of_block kQ 0
              have HKQ := hid kQ
              clear kQ
              have HKF := hid kF
              clear kF
              go_simp
              clear y0 g0
              have qQ := (Go.Joins.block_setCell (i := 0) HKQ.out (.int .i64 LB))
              have bz := (belD.setCell (p := ⟨NS, 0, none⟩) lmQ (.int .i64 LB))
              have qF := ((Below.heap_setCell _ ⟨NS, 0, none⟩ (.int .i64 LB) _ (Ne.symm nQ_F)).trans HKF.out)
              obtain ⟨v144, hW5⟩ : ∃ v144, v144 = (v143.setCell ⟨NS, 0, none⟩ (.int .i64 LB)) := ⟨_, rfl⟩
              rw [← hW5] at qQ bz qF
              clear HKQ belD HKF
              have kQ : v144.heap[NS]? = some (Obj.cells #[.int .i64 LB] 2) := qQ
              have belD := bz
              have kF := qF
              clear qQ bz qF
              refine hK.out _ _ ?_ (fun hHeld2 => ?_)
              · (try dsimp only); rw [← hW5]; exact next6_0 belD HD0.out
              clear hK K hHeld
              (try dsimp only at hHeld2)
              simp only [← hW5] at hHeld2 ⊢
              clear hW5
              have hHeld := hHeld2
              clear hHeld2
              (try simp only [Act.put, List.setIfInBounds_toArray, List.set_cons_zero, List.set_cons_succ, List.getElem_toArray, List.getElem_cons_succ, List.getElem_cons_zero])
              refine wpAnyH_done (by kernel_rfl) ?_ _
              have hx := next6_0 belD HD0.out
              have kTx := heap_keep belD HKT.out
              have cFx : v144.cell? ⟨NF, 0, none⟩ = some (.int .i64 LA) := Go.Joins.cell_of_block kF 0
              have cSx : v144.cell? ⟨NS, 0, none⟩ = some (.int .i64 LB) := Go.Joins.cell_of_block kQ 0
              exact ⟨rfl, NF, NS, rfl, hx, kTx, cFx, cSx⟩
            · go_simp
              have bel := below1 v140 (Obj.cells #[.int .i64 0] 2)
              have lmS := belD.size
              have ltQ := (heap_lt kQ)
              replace belD := belD.trans (bel.mono belD.size)
              replace kQ := heap_keep bel kQ
              refine hK.out _ _ ?_ (fun hHeld2 => ?_)
              · (try dsimp only); exact next6_0 belD HD0.out
              clear hK K hHeld bel
              obtain ⟨v145, hWa⟩ : ∃ v145, v145 = v140.alloc (Obj.cells #[.int .i64 0] 2) := ⟨_, rfl⟩
              obtain ⟨NF, hNa⟩ : ∃ NF, NF = v140.heap.size := ⟨_, rfl⟩
              have kF : v145.heap[NF]? = some (Obj.cells #[.int .i64 0] 2) := by rw [hWa]; exact FNew.heap_top hNa
              have lmF : wD.heap.size ≤ NF := by rw [hNa]; exact lmS
              clear lmS
              have nQ_F : NS ≠ NF := by rw [hNa]; exact Nat.ne_of_lt ltQ
              clear ltQ
              rw [← hWa] at belD kQ
              (try dsimp only at hHeld2)
              simp only [← hWa, ← hNa] at hHeld2 ⊢
              clear hWa hNa
              have hHeld := hHeld2
              clear hHeld2
              (try simp only [Act.put, List.setIfInBounds_toArray, List.set_cons_zero, List.set_cons_succ, List.getElem_toArray, List.getElem_cons_succ, List.getElem_cons_zero])
              refine wpAnyH_ready (rs := [5]) ?_ (by simp) ?_
              · decide +kernel
              refine AllReadyH.cons rfl (fun K hK => ?_) AllReadyH.nil
              go_simp
              go_at_call 101
              refine (wideL HR2.out HLB.out).mono ?_
              rintro e v146 ⟨rfl, bel⟩
              replace belD := belD.trans (bel.mono belD.size)
              replace kQ := heap_keep bel kQ
              replace kF := heap_keep bel kF
              refine hK.out _ _ ?_ (fun hHeld2 => ?_)
              · (try dsimp only); exact next6_0 belD HD0.out
              clear hK K hHeld bel
              have hHeld := hHeld2
              clear hHeld2
              (try simp only [Act.put, List.setIfInBounds_toArray, List.set_cons_zero, List.set_cons_succ, List.getElem_toArray, List.getElem_cons_succ, List.getElem_cons_zero])
              refine wpAnyH_ready (rs := [8]) ?_ (by simp) ?_
              · decide +kernel
              refine AllReadyH.cons rfl (fun K hK => ?_) AllReadyH.nil
              have y0 : v146.cell? ⟨NF, 0, none⟩ = some (.int .i64 0) := Go.Joins.cell_of_block kF 0
              have g0 : v146.frozen? ⟨NF, 0, none⟩ = false := Go.Joins.unfrozen_of_block kF 0
              have HKF := hid kF
              clear kF
              have HKQ := hid kQ
              clear kQ
              go_simp
              clear y0 g0
              have qF := (Go.Joins.block_setCell (i := 0) HKF.out (.int .i64 LA))
              have bz := (belD.setCell (p := ⟨NF, 0, none⟩) lmF (.int .i64 LA))
              have qQ := ((Below.heap_setCell _ ⟨NF, 0, none⟩ (.int .i64 LA) _ nQ_F).trans HKQ.out)
              obtain ⟨v147, hW5⟩ : ∃ v147, v147 = (v146.setCell ⟨NF, 0, none⟩ (.int .i64 LA)) := ⟨_, rfl⟩
              rw [← hW5] at qF bz qQ
              clear HKF belD HKQ
              have kF : v147.heap[NF]? = some (Obj.cells #[.int .i64 LA] 2) := qF
              have belD := bz
              have kQ := qQ
              clear qF bz qQ
              refine hK.out _ _ ?_ (fun hHeld2 => ?_)
              · (try dsimp only); rw [← hW5]; exact next6_0 belD HD0.out
              clear hK K hHeld
              (try dsimp only at hHeld2)
              simp only [← hW5] at hHeld2 ⊢
              clear hW5
              have hHeld := hHeld2
              clear hHeld2
              (try simp only [Act.put, List.setIfInBounds_toArray, List.set_cons_zero, List.set_cons_succ, List.getElem_toArray, List.getElem_cons_succ, List.getElem_cons_zero])
              refine wpAnyH_ready (rs := [9]) ?_ (by simp) ?_
              · decide +kernel
              refine AllReadyH.cons rfl (fun K hK => ?_) AllReadyH.nil
              have y0 : v147.cell? ⟨NS, 0, none⟩ = some (.int .i64 0) := Go.Joins.cell_of_block kQ 0
              have g0 : v147.frozen? ⟨NS, 0, none⟩ = false := Go.Joins.unfrozen_of_block kQ 0
              have HKQ := hid kQ
              clear kQ
              have HKF := hid kF
              clear kF
              go_simp
              clear y0 g0
              have qQ := (Go.Joins.block_setCell (i := 0) HKQ.out (.int .i64 LB))
              have bz := (belD.setCell (p := ⟨NS, 0, none⟩) lmQ (.int .i64 LB))
              have qF := ((Below.heap_setCell _ ⟨NS, 0, none⟩ (.int .i64 LB) _ (Ne.symm nQ_F)).trans HKF.out)
              obtain ⟨v148, hW5⟩ : ∃ v148, v148 = (v147.setCell ⟨NS, 0, none⟩ (.int .i64 LB)) := ⟨_, rfl⟩
              rw [← hW5] at qQ bz qF
              clear HKQ belD HKF
              have kQ : v148.heap[NS]? = some (Obj.cells #[.int .i64 LB] 2) := qQ
              have belD := bz
              have kF := qF
              clear qQ bz qF
              refine hK.out _ _ ?_ (fun hHeld2 => ?_)
              · (try dsimp only); rw [← hW5]; exact next6_0 belD HD0.out
              clear hK K hHeld
              (try dsimp only at hHeld2)
              simp only [← hW5] at hHeld2 ⊢
              clear hW5
              have hHeld := hHeld2
              clear hHeld2
              (try simp only [Act.put, List.setIfInBounds_toArray, List.set_cons_zero, List.set_cons_succ, List.getElem_toArray, List.getElem_cons_succ, List.getElem_cons_zero])
              refine wpAnyH_done (by kernel_rfl) ?_ _
              have hx := next6_0 belD HD0.out
              have kTx := heap_keep belD HKT.out
              have cFx : v148.cell? ⟨NF, 0, none⟩ = some (.int .i64 LA) := Go.Joins.cell_of_block kF 0
              have cSx : v148.cell? ⟨NS, 0, none⟩ = some (.int .i64 LB) := Go.Joins.cell_of_block kQ 0
              exact ⟨rfl, NF, NS, rfl, hx, kTx, cFx, cSx⟩
          · go_simp
            have bel := below1 v139 (Obj.cells #[.int .i64 0] 2)
            have lmS := belD.size
            have ltQ := (heap_lt kQ)
            replace belD := belD.trans (bel.mono belD.size)
            replace kQ := heap_keep bel kQ
            refine hK.out _ _ ?_ (fun hHeld2 => ?_)
            · (try dsimp only); exact next6_0 belD HD0.out
            clear hK K hHeld bel
            obtain ⟨v149, hWa⟩ : ∃ v149, v149 = v139.alloc (Obj.cells #[.int .i64 0] 2) := ⟨_, rfl⟩
            obtain ⟨NF, hNa⟩ : ∃ NF, NF = v139.heap.size := ⟨_, rfl⟩
            have kF : v149.heap[NF]? = some (Obj.cells #[.int .i64 0] 2) := by rw [hWa]; exact FNew.heap_top hNa
            have lmF : wD.heap.size ≤ NF := by rw [hNa]; exact lmS
            clear lmS
            have nQ_F : NS ≠ NF := by rw [hNa]; exact Nat.ne_of_lt ltQ
            clear ltQ
            rw [← hWa] at belD kQ
            (try dsimp only at hHeld2)
            simp only [← hWa, ← hNa] at hHeld2 ⊢
            clear hWa hNa
            have hHeld := hHeld2
            clear hHeld2
            (try simp only [Act.put, List.setIfInBounds_toArray, List.set_cons_zero, List.set_cons_succ, List.getElem_toArray, List.getElem_cons_succ, List.getElem_cons_zero])
            refine wpAnyH_ready (rs := [4]) ?_ (by simp) ?_
            · decide +kernel
            refine AllReadyH.cons rfl (fun K hK => ?_) AllReadyH.nil
            go_simp
            go_at_call 105
            refine (shapeOf).mono ?_
            rintro e v150 ⟨rfl, bel⟩
            replace belD := belD.trans (bel.mono belD.size)
            replace kQ := heap_keep bel kQ
            replace kF := heap_keep bel kF
            refine hK.out _ _ ?_ (fun hHeld2 => ?_)
            · (try dsimp only); exact next6_0 belD HD0.out
            clear hK K hHeld bel
            have hHeld := hHeld2
            clear hHeld2
            (try simp only [Act.put, List.setIfInBounds_toArray, List.set_cons_zero, List.set_cons_succ, List.getElem_toArray, List.getElem_cons_succ, List.getElem_cons_zero])
            refine wpAnyH_ready (rs := [5]) ?_ (by simp) ?_
            · decide +kernel
            refine AllReadyH.cons rfl (fun K hK => ?_) AllReadyH.nil
            go_simp
            go_at_call 101
            refine (wideL HR2.out HLB.out).mono ?_
            rintro e v151 ⟨rfl, bel⟩
            replace belD := belD.trans (bel.mono belD.size)
            replace kQ := heap_keep bel kQ
            replace kF := heap_keep bel kF
            refine hK.out _ _ ?_ (fun hHeld2 => ?_)
            · (try dsimp only); exact next6_0 belD HD0.out
            clear hK K hHeld bel
            have hHeld := hHeld2
            clear hHeld2
            (try simp only [Act.put, List.setIfInBounds_toArray, List.set_cons_zero, List.set_cons_succ, List.getElem_toArray, List.getElem_cons_succ, List.getElem_cons_zero])
            refine wpAnyH_ready (rs := [8]) ?_ (by simp) ?_
            · decide +kernel
            refine AllReadyH.cons rfl (fun K hK => ?_) AllReadyH.nil
            have y0 : v151.cell? ⟨NF, 0, none⟩ = some (.int .i64 0) := Go.Joins.cell_of_block kF 0
            have g0 : v151.frozen? ⟨NF, 0, none⟩ = false := Go.Joins.unfrozen_of_block kF 0
            have HKF := hid kF
            clear kF
            have HKQ := hid kQ
            clear kQ
            go_simp
            clear y0 g0
            have qF := (Go.Joins.block_setCell (i := 0) HKF.out (.int .i64 LA))
            have bz := (belD.setCell (p := ⟨NF, 0, none⟩) lmF (.int .i64 LA))
            have qQ := ((Below.heap_setCell _ ⟨NF, 0, none⟩ (.int .i64 LA) _ nQ_F).trans HKQ.out)
            obtain ⟨v152, hW5⟩ : ∃ v152, v152 = (v151.setCell ⟨NF, 0, none⟩ (.int .i64 LA)) := ⟨_, rfl⟩
            rw [← hW5] at qF bz qQ
            clear HKF belD HKQ
            have kF : v152.heap[NF]? = some (Obj.cells #[.int .i64 LA] 2) := qF
            have belD := bz
            have kQ := qQ
            clear qF bz qQ
            refine hK.out _ _ ?_ (fun hHeld2 => ?_)
            · (try dsimp only); rw [← hW5]; exact next6_0 belD HD0.out
            clear hK K hHeld
            (try dsimp only at hHeld2)
            simp only [← hW5] at hHeld2 ⊢
            clear hW5
            have hHeld := hHeld2
            clear hHeld2
            (try simp only [Act.put, List.setIfInBounds_toArray, List.set_cons_zero, List.set_cons_succ, List.getElem_toArray, List.getElem_cons_succ, List.getElem_cons_zero])
            refine wpAnyH_ready (rs := [9]) ?_ (by simp) ?_
            · decide +kernel
            refine AllReadyH.cons rfl (fun K hK => ?_) AllReadyH.nil
            have y0 : v152.cell? ⟨NS, 0, none⟩ = some (.int .i64 0) := Go.Joins.cell_of_block kQ 0
            have g0 : v152.frozen? ⟨NS, 0, none⟩ = false := Go.Joins.unfrozen_of_block kQ 0
            have HKQ := hid kQ
            clear kQ
            have HKF := hid kF
            clear kF
            go_simp
            clear y0 g0
            have qQ := (Go.Joins.block_setCell (i := 0) HKQ.out (.int .i64 LB))
            have bz := (belD.setCell (p := ⟨NS, 0, none⟩) lmQ (.int .i64 LB))
            have qF := ((Below.heap_setCell _ ⟨NS, 0, none⟩ (.int .i64 LB) _ (Ne.symm nQ_F)).trans HKF.out)
            obtain ⟨v153, hW5⟩ : ∃ v153, v153 = (v152.setCell ⟨NS, 0, none⟩ (.int .i64 LB)) := ⟨_, rfl⟩
            rw [← hW5] at qQ bz qF
            clear HKQ belD HKF
            have kQ : v153.heap[NS]? = some (Obj.cells #[.int .i64 LB] 2) := qQ
            have belD := bz
            have kF := qF
            clear qQ bz qF
            refine hK.out _ _ ?_ (fun hHeld2 => ?_)
            · (try dsimp only); rw [← hW5]; exact next6_0 belD HD0.out
            clear hK K hHeld
            (try dsimp only at hHeld2)
            simp only [← hW5] at hHeld2 ⊢
            clear hW5
            have hHeld := hHeld2
            clear hHeld2
            (try simp only [Act.put, List.setIfInBounds_toArray, List.set_cons_zero, List.set_cons_succ, List.getElem_toArray, List.getElem_cons_succ, List.getElem_cons_zero])
            refine wpAnyH_done (by kernel_rfl) ?_ _
            have hx := next6_0 belD HD0.out
            have kTx := heap_keep belD HKT.out
            have cFx : v153.cell? ⟨NF, 0, none⟩ = some (.int .i64 LA) := Go.Joins.cell_of_block kF 0
            have cSx : v153.cell? ⟨NS, 0, none⟩ = some (.int .i64 LB) := Go.Joins.cell_of_block kQ 0
            exact ⟨rfl, NF, NS, rfl, hx, kTx, cFx, cSx⟩
        · go_simp
          have bel := below1 v138 (Obj.cells #[.int .i64 0] 2)
          have lmS := belD.size
          have ltQ := (heap_lt kQ)
          replace belD := belD.trans (bel.mono belD.size)
          replace kQ := heap_keep bel kQ
          refine hK.out _ _ ?_ (fun hHeld2 => ?_)
          · (try dsimp only); exact next6_0 belD HD0.out
          clear hK K hHeld bel
          obtain ⟨v154, hWa⟩ : ∃ v154, v154 = v138.alloc (Obj.cells #[.int .i64 0] 2) := ⟨_, rfl⟩
          obtain ⟨NF, hNa⟩ : ∃ NF, NF = v138.heap.size := ⟨_, rfl⟩
          have kF : v154.heap[NF]? = some (Obj.cells #[.int .i64 0] 2) := by rw [hWa]; exact FNew.heap_top hNa
          have lmF : wD.heap.size ≤ NF := by rw [hNa]; exact lmS
          clear lmS
          have nQ_F : NS ≠ NF := by rw [hNa]; exact Nat.ne_of_lt ltQ
          clear ltQ
          rw [← hWa] at belD kQ
          (try dsimp only at hHeld2)
          simp only [← hWa, ← hNa] at hHeld2 ⊢
          clear hWa hNa
          have hHeld := hHeld2
          clear hHeld2
          (try simp only [Act.put, List.setIfInBounds_toArray, List.set_cons_zero, List.set_cons_succ, List.getElem_toArray, List.getElem_cons_succ, List.getElem_cons_zero])
          refine wpAnyH_ready (rs := [2]) ?_ (by simp) ?_
          · decide +kernel
          refine AllReadyH.cons rfl (fun K hK => ?_) AllReadyH.nil
          go_simp
          go_at_call 101
          refine (wideL HR1.out HLA.out).mono ?_
          rintro e v155 ⟨rfl, bel⟩
          replace belD := belD.trans (bel.mono belD.size)
          replace kQ := heap_keep bel kQ
          replace kF := heap_keep bel kF
          refine hK.out _ _ ?_ (fun hHeld2 => ?_)
          · (try dsimp only); exact next6_0 belD HD0.out
          clear hK K hHeld bel
          have hHeld := hHeld2
          clear hHeld2
          (try simp only [Act.put, List.setIfInBounds_toArray, List.set_cons_zero, List.set_cons_succ, List.getElem_toArray, List.getElem_cons_succ, List.getElem_cons_zero])
          refine wpAnyH_ready (rs := [4]) ?_ (by simp) ?_
          · decide +kernel
          refine AllReadyH.cons rfl (fun K hK => ?_) AllReadyH.nil
          go_simp
          go_at_call 105
          refine (shapeOf).mono ?_
          rintro e v156 ⟨rfl, bel⟩
          replace belD := belD.trans (bel.mono belD.size)
          replace kQ := heap_keep bel kQ
          replace kF := heap_keep bel kF
          refine hK.out _ _ ?_ (fun hHeld2 => ?_)
          · (try dsimp only); exact next6_0 belD HD0.out
          clear hK K hHeld bel
          have hHeld := hHeld2
          clear hHeld2
          (try simp only [Act.put, List.setIfInBounds_toArray, List.set_cons_zero, List.set_cons_succ, List.getElem_toArray, List.getElem_cons_succ, List.getElem_cons_zero])
          refine wpAnyH_ready (rs := [5]) ?_ (by simp) ?_
          · decide +kernel
          refine AllReadyH.cons rfl (fun K hK => ?_) AllReadyH.nil
          go_simp
          go_at_call 101
          refine (wideL HR2.out HLB.out).mono ?_
          rintro e v157 ⟨rfl, bel⟩
          replace belD := belD.trans (bel.mono belD.size)
          replace kQ := heap_keep bel kQ
          replace kF := heap_keep bel kF
          refine hK.out _ _ ?_ (fun hHeld2 => ?_)
          · (try dsimp only); exact next6_0 belD HD0.out
          clear hK K hHeld bel
          have hHeld := hHeld2
          clear hHeld2
          (try simp only [Act.put, List.setIfInBounds_toArray, List.set_cons_zero, List.set_cons_succ, List.getElem_toArray, List.getElem_cons_succ, List.getElem_cons_zero])
          refine wpAnyH_ready (rs := [8]) ?_ (by simp) ?_
          · decide +kernel
          refine AllReadyH.cons rfl (fun K hK => ?_) AllReadyH.nil
          have y0 : v157.cell? ⟨NF, 0, none⟩ = some (.int .i64 0) := Go.Joins.cell_of_block kF 0
          have g0 : v157.frozen? ⟨NF, 0, none⟩ = false := Go.Joins.unfrozen_of_block kF 0
          have HKF := hid kF
          clear kF
          have HKQ := hid kQ
          clear kQ
          go_simp
          clear y0 g0
          have qF := (Go.Joins.block_setCell (i := 0) HKF.out (.int .i64 LA))
          have bz := (belD.setCell (p := ⟨NF, 0, none⟩) lmF (.int .i64 LA))
          have qQ := ((Below.heap_setCell _ ⟨NF, 0, none⟩ (.int .i64 LA) _ nQ_F).trans HKQ.out)
          obtain ⟨v158, hW5⟩ : ∃ v158, v158 = (v157.setCell ⟨NF, 0, none⟩ (.int .i64 LA)) := ⟨_, rfl⟩
          rw [← hW5] at qF bz qQ
          clear HKF belD HKQ
          have kF : v158.heap[NF]? = some (Obj.cells #[.int .i64 LA] 2) := qF
          have belD := bz
          have kQ := qQ
          clear qF bz qQ
          refine hK.out _ _ ?_ (fun hHeld2 => ?_)
          · (try dsimp only); rw [← hW5]; exact next6_0 belD HD0.out
          clear hK K hHeld
          (try dsimp only at hHeld2)
          simp only [← hW5] at hHeld2 ⊢
          clear hW5
          have hHeld := hHeld2
          clear hHeld2
          (try simp only [Act.put, List.setIfInBounds_toArray, List.set_cons_zero, List.set_cons_succ, List.getElem_toArray, List.getElem_cons_succ, List.getElem_cons_zero])
          refine wpAnyH_ready (rs := [9]) ?_ (by simp) ?_
          · decide +kernel
          refine AllReadyH.cons rfl (fun K hK => ?_) AllReadyH.nil
          have y0 : v158.cell? ⟨NS, 0, none⟩ = some (.int .i64 0) := Go.Joins.cell_of_block kQ 0
          have g0 : v158.frozen? ⟨NS, 0, none⟩ = false := Go.Joins.unfrozen_of_block kQ 0
          have HKQ := hid kQ
          clear kQ
          have HKF := hid kF
          clear kF
          go_simp
          clear y0 g0
          have qQ := (Go.Joins.block_setCell (i := 0) HKQ.out (.int .i64 LB))
          have bz := (belD.setCell (p := ⟨NS, 0, none⟩) lmQ (.int .i64 LB))
          have qF := ((Below.heap_setCell _ ⟨NS, 0, none⟩ (.int .i64 LB) _ (Ne.symm nQ_F)).trans HKF.out)
          obtain ⟨v159, hW5⟩ : ∃ v159, v159 = (v158.setCell ⟨NS, 0, none⟩ (.int .i64 LB)) := ⟨_, rfl⟩
          rw [← hW5] at qQ bz qF
          clear HKQ belD HKF
          have kQ : v159.heap[NS]? = some (Obj.cells #[.int .i64 LB] 2) := qQ
          have belD := bz
          have kF := qF
          clear qQ bz qF
          refine hK.out _ _ ?_ (fun hHeld2 => ?_)
          · (try dsimp only); rw [← hW5]; exact next6_0 belD HD0.out
          clear hK K hHeld
          (try dsimp only at hHeld2)
          simp only [← hW5] at hHeld2 ⊢
          clear hW5
          have hHeld := hHeld2
          clear hHeld2
          (try simp only [Act.put, List.setIfInBounds_toArray, List.set_cons_zero, List.set_cons_succ, List.getElem_toArray, List.getElem_cons_succ, List.getElem_cons_zero])
          refine wpAnyH_done (by kernel_rfl) ?_ _
          have hx := next6_0 belD HD0.out
          have kTx := heap_keep belD HKT.out
          have cFx : v159.cell? ⟨NF, 0, none⟩ = some (.int .i64 LA) := Go.Joins.cell_of_block kF 0
          have cSx : v159.cell? ⟨NS, 0, none⟩ = some (.int .i64 LB) := Go.Joins.cell_of_block kQ 0
          exact ⟨rfl, NF, NS, rfl, hx, kTx, cFx, cSx⟩
      · go_simp
        have bel := below1 v137 (Obj.cells #[.int .i64 0] 2)
        have lmS := belD.size
        have ltQ := (heap_lt kQ)
        replace belD := belD.trans (bel.mono belD.size)
        replace kQ := heap_keep bel kQ
        refine hK.out _ _ ?_ (fun hHeld2 => ?_)
        · (try dsimp only); exact next6_0 belD HD0.out
        clear hK K hHeld bel
        obtain ⟨v160, hWa⟩ : ∃ v160, v160 = v137.alloc (Obj.cells #[.int .i64 0] 2) := ⟨_, rfl⟩
        obtain ⟨NF, hNa⟩ : ∃ NF, NF = v137.heap.size := ⟨_, rfl⟩
        have kF : v160.heap[NF]? = some (Obj.cells #[.int .i64 0] 2) := by rw [hWa]; exact FNew.heap_top hNa
        have lmF : wD.heap.size ≤ NF := by rw [hNa]; exact lmS
        clear lmS
        have nQ_F : NS ≠ NF := by rw [hNa]; exact Nat.ne_of_lt ltQ
        clear ltQ
        rw [← hWa] at belD kQ
        (try dsimp only at hHeld2)
        simp only [← hWa, ← hNa] at hHeld2 ⊢
        clear hWa hNa
        have hHeld := hHeld2
        clear hHeld2
        (try simp only [Act.put, List.setIfInBounds_toArray, List.set_cons_zero, List.set_cons_succ, List.getElem_toArray, List.getElem_cons_succ, List.getElem_cons_zero])
        refine wpAnyH_ready (rs := [1]) ?_ (by simp) ?_
        · decide +kernel
        refine AllReadyH.cons rfl (fun K hK => ?_) AllReadyH.nil
        go_simp
        go_at_call 105
        refine (shapeOf).mono ?_
        rintro e v161 ⟨rfl, bel⟩
        replace belD := belD.trans (bel.mono belD.size)
        replace kQ := heap_keep bel kQ
        replace kF := heap_keep bel kF
        refine hK.out _ _ ?_ (fun hHeld2 => ?_)
        · (try dsimp only); exact next6_0 belD HD0.out
        clear hK K hHeld bel
        have hHeld := hHeld2
        clear hHeld2
        (try simp only [Act.put, List.setIfInBounds_toArray, List.set_cons_zero, List.set_cons_succ, List.getElem_toArray, List.getElem_cons_succ, List.getElem_cons_zero])
        refine wpAnyH_ready (rs := [2]) ?_ (by simp) ?_
        · decide +kernel
        refine AllReadyH.cons rfl (fun K hK => ?_) AllReadyH.nil
        go_simp
        go_at_call 101
        refine (wideL HR1.out HLA.out).mono ?_
        rintro e v162 ⟨rfl, bel⟩
        replace belD := belD.trans (bel.mono belD.size)
        replace kQ := heap_keep bel kQ
        replace kF := heap_keep bel kF
        refine hK.out _ _ ?_ (fun hHeld2 => ?_)
        · (try dsimp only); exact next6_0 belD HD0.out
        clear hK K hHeld bel
        have hHeld := hHeld2
        clear hHeld2
        (try simp only [Act.put, List.setIfInBounds_toArray, List.set_cons_zero, List.set_cons_succ, List.getElem_toArray, List.getElem_cons_succ, List.getElem_cons_zero])
        refine wpAnyH_ready (rs := [4]) ?_ (by simp) ?_
        · decide +kernel
        refine AllReadyH.cons rfl (fun K hK => ?_) AllReadyH.nil
        go_simp
        go_at_call 105
        refine (shapeOf).mono ?_
        rintro e v163 ⟨rfl, bel⟩
        replace belD := belD.trans (bel.mono belD.size)
        replace kQ := heap_keep bel kQ
        replace kF := heap_keep bel kF
        refine hK.out _ _ ?_ (fun hHeld2 => ?_)
        · (try dsimp only); exact next6_0 belD HD0.out
        clear hK K hHeld bel
        have hHeld := hHeld2
        clear hHeld2
        (try simp only [Act.put, List.setIfInBounds_toArray, List.set_cons_zero, List.set_cons_succ, List.getElem_toArray, List.getElem_cons_succ, List.getElem_cons_zero])
        refine wpAnyH_ready (rs := [5]) ?_ (by simp) ?_
        · decide +kernel
        refine AllReadyH.cons rfl (fun K hK => ?_) AllReadyH.nil
        go_simp
        go_at_call 101
        refine (wideL HR2.out HLB.out).mono ?_
        rintro e v164 ⟨rfl, bel⟩
        replace belD := belD.trans (bel.mono belD.size)
        replace kQ := heap_keep bel kQ
        replace kF := heap_keep bel kF
        refine hK.out _ _ ?_ (fun hHeld2 => ?_)
        · (try dsimp only); exact next6_0 belD HD0.out
        clear hK K hHeld bel
        have hHeld := hHeld2
        clear hHeld2
        (try simp only [Act.put, List.setIfInBounds_toArray, List.set_cons_zero, List.set_cons_succ, List.getElem_toArray, List.getElem_cons_succ, List.getElem_cons_zero])
        refine wpAnyH_ready (rs := [8]) ?_ (by simp) ?_
        · decide +kernel
        refine AllReadyH.cons rfl (fun K hK => ?_) AllReadyH.nil
        have y0 : v164.cell? ⟨NF, 0, none⟩ = some (.int .i64 0) := Go.Joins.cell_of_block kF 0
        have g0 : v164.frozen? ⟨NF, 0, none⟩ = false := Go.Joins.unfrozen_of_block kF 0
        have HKF := hid kF
        clear kF
        have HKQ := hid kQ
        clear kQ
        go_simp
        clear y0 g0
        have qF := (Go.Joins.block_setCell (i := 0) HKF.out (.int .i64 LA))
        have bz := (belD.setCell (p := ⟨NF, 0, none⟩) lmF (.int .i64 LA))
        have qQ := ((Below.heap_setCell _ ⟨NF, 0, none⟩ (.int .i64 LA) _ nQ_F).trans HKQ.out)
        obtain ⟨v165, hW5⟩ : ∃ v165, v165 = (v164.setCell ⟨NF, 0, none⟩ (.int .i64 LA)) := ⟨_, rfl⟩
        rw [← hW5] at qF bz qQ
        clear HKF belD HKQ
        have kF : v165.heap[NF]? = some (Obj.cells #[.int .i64 LA] 2) := qF
        have belD := bz
        have kQ := qQ
        clear qF bz qQ
        refine hK.out _ _ ?_ (fun hHeld2 => ?_)
        · (try dsimp only); rw [← hW5]; exact next6_0 belD HD0.out
        clear hK K hHeld
        (try dsimp only at hHeld2)
        simp only [← hW5] at hHeld2 ⊢
        clear hW5
        have hHeld := hHeld2
        clear hHeld2
        (try simp only [Act.put, List.setIfInBounds_toArray, List.set_cons_zero, List.set_cons_succ, List.getElem_toArray, List.getElem_cons_succ, List.getElem_cons_zero])
        refine wpAnyH_ready (rs := [9]) ?_ (by simp) ?_
        · decide +kernel
        refine AllReadyH.cons rfl (fun K hK => ?_) AllReadyH.nil
        have y0 : v165.cell? ⟨NS, 0, none⟩ = some (.int .i64 0) := Go.Joins.cell_of_block kQ 0
        have g0 : v165.frozen? ⟨NS, 0, none⟩ = false := Go.Joins.unfrozen_of_block kQ 0
        have HKQ := hid kQ
        clear kQ
        have HKF := hid kF
        clear kF
        go_simp
        clear y0 g0
        have qQ := (Go.Joins.block_setCell (i := 0) HKQ.out (.int .i64 LB))
        have bz := (belD.setCell (p := ⟨NS, 0, none⟩) lmQ (.int .i64 LB))
        have qF := ((Below.heap_setCell _ ⟨NS, 0, none⟩ (.int .i64 LB) _ (Ne.symm nQ_F)).trans HKF.out)
        obtain ⟨v166, hW5⟩ : ∃ v166, v166 = (v165.setCell ⟨NS, 0, none⟩ (.int .i64 LB)) := ⟨_, rfl⟩
        rw [← hW5] at qQ bz qF
        clear HKQ belD HKF
        have kQ : v166.heap[NS]? = some (Obj.cells #[.int .i64 LB] 2) := qQ
        have belD := bz
        have kF := qF
        clear qQ bz qF
        refine hK.out _ _ ?_ (fun hHeld2 => ?_)
        · (try dsimp only); rw [← hW5]; exact next6_0 belD HD0.out
        clear hK K hHeld
        (try dsimp only at hHeld2)
        simp only [← hW5] at hHeld2 ⊢
        clear hW5
        have hHeld := hHeld2
        clear hHeld2
        (try simp only [Act.put, List.setIfInBounds_toArray, List.set_cons_zero, List.set_cons_succ, List.getElem_toArray, List.getElem_cons_succ, List.getElem_cons_zero])
        refine wpAnyH_done (by kernel_rfl) ?_ _
        have hx := next6_0 belD HD0.out
        have kTx := heap_keep belD HKT.out
        have cFx : v166.cell? ⟨NF, 0, none⟩ = some (.int .i64 LA) := Go.Joins.cell_of_block kF 0
        have cSx : v166.cell? ⟨NS, 0, none⟩ = some (.int .i64 LB) := Go.Joins.cell_of_block kQ 0
        exact ⟨rfl, NF, NS, rfl, hx, kTx, cFx, cSx⟩
  · rintro e a' w4 ⟨rfl, NF, NS, rfl, st4, kT4, cF, cS⟩
    clear st kT
    simp only [Act.put, List.setIfInBounds_toArray, List.set_cons_zero, List.set_cons_succ]
    have HST := hid st4
    have HKT := hid kT4
    have HFS := hid (And.intro cF cS)
    have q0 := st4.2.1
    have q1 := st4.2.2.1
    have q2 := st4.2.2.2.2.2.1
    clear st4 kT4 cF cS
    go_wp2_with fail
    go_at_call 120
    refine (tellJoin (w := w4) (M := M) (L := LL) HS.out HRR.out HM.out HLL.out (k0 := .pointer (some ⟨NS, 0, none⟩)) (k1 := .pointer (some ⟨NA, 0, none⟩)) (k2 := .pointer (some ⟨NF, 0, none⟩)) (k3 := .pointer (some ⟨NB, 0, none⟩)) (joinT s tA tB LA LB LL) ?_).mono ?_
    · intro k hk wr b hb hbn ho
      have h4 := HST.out
      have kp : ∀ {p : Addr} {c : Value}, w4.cell? p = some c → wr.cell? p = some c := fun hc => (hb.cell (World.block_lt_of_cell? _ _ hc)).trans hc
      refine (clo (kp HFS.out.2) (kp HFS.out.1) (kp h4.2.1) (kp h4.2.2.1) (kp h4.2.2.2.1) (kp h4.2.2.2.2.1) (kp h4.2.2.2.2.2.1) (kp h4.2.2.2.2.2.2.1) ((H1.out.keep h4.1 (Nat.le_refl _)).keep hb (Nat.le_refl _)) ((H2.out.keep h4.1 (Nat.le_refl _)).keep hb (Nat.le_refl _)) HS.out HlA.out HlB.out HAl.out HL3.out ho).mono ?_
      rintro e w' ⟨rfl, bel⟩
      exact ⟨rfl, bel.mono (Nat.le_of_lt ho.lt)⟩
    rintro e w5 ⟨b', rfl, own, hbn, bel⟩
    have kb5 := heap_keep bel HKT.out
    have HO := hid own
    have HNB : Hid (NT ≠ b') := Nat.ne_of_lt (Nat.lt_of_lt_of_le (heap_lt HKT.out) hbn)
    have HLo := hid (Nat.le_trans HST.out.1.size hbn)
    have HB := hid (HST.out.1.trans (bel.mono HST.out.1.size))
    clear own bel hbn
    have y0 : w5.cell? ⟨NT, 0, none⟩ = some (.int .i64 0) := Go.Joins.cell_of_block kb5 0
    have y1 : w5.cell? ⟨NT, 1, none⟩ = some (.int .i64 0) := Go.Joins.cell_of_block kb5 1
    have y2 : w5.cell? ⟨NT, 2, none⟩ = some (.slice none 0 0) := Go.Joins.cell_of_block kb5 2
    have g0 : w5.frozen? ⟨NT, 0, none⟩ = false := Go.Joins.unfrozen_of_block kb5 0
    have g1 : w5.frozen? ⟨NT, 1, none⟩ = false := Go.Joins.unfrozen_of_block kb5 1
    have g2 : w5.frozen? ⟨NT, 2, none⟩ = false := Go.Joins.unfrozen_of_block kb5 2
    have HKx := hid kb5
    clear kb5
    go_wp2
    obtain ⟨W5, hW⟩ : ∃ W5, W5 = (((w5.setCell ⟨NT, 0, none⟩ (.int .i64 s)).setCell ⟨NT, 1, none⟩ (.int .i64 (rA + rB))).setCell ⟨NT, 2, none⟩ (.slice (some ⟨b', 0, none⟩) M M)) := ⟨_, rfl⟩
    have q0 := (Go.Joins.block_setCell (i := 2) (Go.Joins.block_setCell (i := 1) (Go.Joins.block_setCell (i := 0) HKx.out (.int .i64 s)) (.int .i64 (rA + rB))) (.slice (some ⟨b', 0, none⟩) M M))
    rw [← hW] at q0
    have z0 : W5.cell? ⟨NT, 0, none⟩ = some (.int .i64 s) := Go.Joins.cell_of_block q0 0
    have z1 : W5.cell? ⟨NT, 1, none⟩ = some (.int .i64 (rA + rB)) := Go.Joins.cell_of_block q0 1
    have z2 : W5.cell? ⟨NT, 2, none⟩ = some (.slice (some ⟨b', 0, none⟩) M M) := Go.Joins.cell_of_block q0 2
    have O5 := (own_set (own_set (own_set HO.out ⟨NT, 0, none⟩ (.int .i64 s) HNB.out) ⟨NT, 1, none⟩ (.int .i64 (rA + rB)) HNB.out) ⟨NT, 2, none⟩ (.slice (some ⟨b', 0, none⟩) M M) HNB.out)
    rw [← hW] at O5
    have B5 : Below w.heap.size w W5 := by
      have h1 := HNT.out
      rw [hW]
      exact ((HB.out.setCell (by simp; omega) _).setCell (by simp; omega) _).setCell (by simp; omega) _
    simp only [← hW]
    clear hW q0
    simp [bodyPost, results, Try.results60, go_sem, z0, z1, z2]
    exact ⟨O5, HLo.out, B5⟩

end Go.Proofs.Ytejchjjkehmgaaa.JoiI
