/- MeetFields, the model; both sides agree. -/
import Derived.Test.YtmbimekndhcgaaaMtI
import Derived.Test.YtmbimekndhcgaaaTr
namespace Go.Proofs.Ytmbimekndhcgaaa.MtS
open Go.RowKit Go.Proofs.Ytmbimekndhcgaaa.Rd Go.Proofs.Ytmbimekndhcgaaa.Help Go.Proofs.Ytmbimekndhcgaaa.Ring Go.Proofs.Ytmbimekndhcgaaa.Small Go.Proofs.Ytmbimekndhcgaaa.FVal Go.Proofs.Ytmbimekndhcgaaa.Keep Go.Proofs.Ytmbimekndhcgaaa.Rule Go.Proofs.Ytmbimekndhcgaaa.Grow Go.Proofs.Ytmbimekndhcgaaa.Copy Go.Proofs.Ytmbimekndhcgaaa.FCut Go.Proofs.Ytmbimekndhcgaaa.FPst Go.Proofs.Ytmbimekndhcgaaa.Lf Go.Proofs.Ytmbimekndhcgaaa.Mt Go.Proofs.Ytmbimekndhcgaaa.MtI
set_option linter.unusedVariables false
set_option linter.unusedSimpArgs false

theorem quietMax {w : World} {a b c : Int} (h : max a b = c) :
    Calls Try.prog 88 #[.int .i64 a, .int .i64 b] w fun e w' => e = .returned (.int .i64 c) ∧ w' = w := by
  rw [← h]; exact Tr.l00Max.mono fun _ _ ⟨he, hw⟩ => ⟨he, hw.symm⟩

set_option maxHeartbeats 4000000 in
theorem meetNo3 {w : World} {N M : Nat} {s r s' r' row col : Int} {b b2 : Nat} {v v2 : Value} {zs ps : List Int} (k0 : w.cell? ⟨N, 0, none⟩ = some (.int .i64 s)) (k1 : w.cell? ⟨N, 1, none⟩ = some (.int .i64 r)) (k2 : w.cell? ⟨N, 2, none⟩ = some v) (j0 : w.cell? ⟨M, 0, none⟩ = some (.int .i64 s')) (j1 : w.cell? ⟨M, 1, none⟩ = some (.int .i64 r')) (j2 : w.cell? ⟨M, 2, none⟩ = some v2) (h3q : decide (0 ≤ row ∧ row ≤ 24) = false) :
    Calls Try.prog 60 #[.pointer (some ⟨N, 0, none⟩), .pointer (some ⟨M, 0, none⟩), .int .i64 row, .int .i64 col] w fun e w' => e = .returned (.tuple #[ruleV 0 0 (.slice none 0 0), .bool false]) ∧ Below w.heap.size w w' := by
  have HQ3 := hid h3q
  have HKN := hid (And.intro k0 (And.intro k1 k2))
  have HKM := hid (And.intro j0 (And.intro j1 j2))
  clear k0 k1 k2 j0 j1 j2 h3q
  go_enter Try.func60, Try.ntmps60
  go_wp2_with fail
  obtain ⟨w1, hW⟩ : ∃ w1, w1 = w.alloc (Obj.cells #[.int .i64 0, .int .i64 0, .slice none 0 0] 26) := ⟨_, rfl⟩
  obtain ⟨NT, hM⟩ : ∃ NT, NT = w.heap.size := ⟨_, rfl⟩
  have HB1 : Hid (Below w.heap.size w w1) := by simp only [Hid]; rw [hW]; exact below1 _ _
  have HKT1 : Hid (w1.heap[NT]? = some (Obj.cells #[.int .i64 0, .int .i64 0, .slice none 0 0] 26)) := by simp only [Hid]; rw [hW]; exact FNew.heap_top hM
  have HNT : Hid (w.heap.size ≤ NT) := by simp only [Hid]; omega
  have HNTe := hid hM
  simp only [← hW, ← hM]
  clear hW hM
  go_at_call 50
  refine inB.mono ?_
  rw [HQ3.out]
  rintro e w' ⟨rfl, rfl⟩
  have HB := hid HB1.out
  have kT := HKT1.out
  have y0 : w1.cell? ⟨NT, 0, none⟩ = some (.int .i64 0) := Go.Joins.cell_of_block kT 0
  have y1 : w1.cell? ⟨NT, 1, none⟩ = some (.int .i64 0) := Go.Joins.cell_of_block kT 1
  have y2 : w1.cell? ⟨NT, 2, none⟩ = some (.slice none 0 0) := Go.Joins.cell_of_block kT 2
  have g0 : w1.frozen? ⟨NT, 0, none⟩ = false := Go.Joins.unfrozen_of_block kT 0
  have g1 : w1.frozen? ⟨NT, 1, none⟩ = false := Go.Joins.unfrozen_of_block kT 1
  have g2 : w1.frozen? ⟨NT, 2, none⟩ = false := Go.Joins.unfrozen_of_block kT 2
  have HKx := hid kT
  clear kT
  go_wp2
  obtain ⟨W5, hW⟩ : ∃ W5, W5 = (((w1.setCell ⟨NT, 0, none⟩ (.int .i64 0)).setCell ⟨NT, 1, none⟩ (.int .i64 0)).setCell ⟨NT, 2, none⟩ (.slice none 0 0)) := ⟨_, rfl⟩
  have q0 := (Go.Joins.block_setCell (i := 2) (Go.Joins.block_setCell (i := 1) (Go.Joins.block_setCell (i := 0) HKx.out (.int .i64 0)) (.int .i64 0)) (.slice none 0 0))
  rw [← hW] at q0
  have z0 : W5.cell? ⟨NT, 0, none⟩ = some (.int .i64 0) := Go.Joins.cell_of_block q0 0
  have z1 : W5.cell? ⟨NT, 1, none⟩ = some (.int .i64 0) := Go.Joins.cell_of_block q0 1
  have z2 : W5.cell? ⟨NT, 2, none⟩ = some (.slice none 0 0) := Go.Joins.cell_of_block q0 2
  have B5 : Below w.heap.size w W5 := by
    have h1 := HNT.out
    rw [hW]
    exact ((HB.out.setCell (by simp; omega) _).setCell (by simp; omega) _).setCell (by simp; omega) _
  simp only [← hW]
  clear hW q0
  simp [bodyPost, results, Try.results60, go_sem, z0, z1, z2]
  exact B5

set_option maxHeartbeats 4000000 in
theorem meetNo4 {w : World} {N M : Nat} {s r s' r' row col : Int} {b b2 : Nat} {v v2 : Value} {zs ps : List Int} (k0 : w.cell? ⟨N, 0, none⟩ = some (.int .i64 s)) (k1 : w.cell? ⟨N, 1, none⟩ = some (.int .i64 r)) (k2 : w.cell? ⟨N, 2, none⟩ = some v) (j0 : w.cell? ⟨M, 0, none⟩ = some (.int .i64 s')) (j1 : w.cell? ⟨M, 1, none⟩ = some (.int .i64 r')) (j2 : w.cell? ⟨M, 2, none⟩ = some v2) (h3q : decide (0 ≤ row ∧ row ≤ 24) = true) (h4q : decide (0 ≤ col ∧ col ≤ 24) = false) :
    Calls Try.prog 60 #[.pointer (some ⟨N, 0, none⟩), .pointer (some ⟨M, 0, none⟩), .int .i64 row, .int .i64 col] w fun e w' => e = .returned (.tuple #[ruleV 0 0 (.slice none 0 0), .bool false]) ∧ Below w.heap.size w w' := by
  have HQ3 := hid h3q
  have HQ4 := hid h4q
  have HKN := hid (And.intro k0 (And.intro k1 k2))
  have HKM := hid (And.intro j0 (And.intro j1 j2))
  clear k0 k1 k2 j0 j1 j2 h3q h4q
  go_enter Try.func60, Try.ntmps60
  go_wp2_with fail
  obtain ⟨w1, hW⟩ : ∃ w1, w1 = w.alloc (Obj.cells #[.int .i64 0, .int .i64 0, .slice none 0 0] 26) := ⟨_, rfl⟩
  obtain ⟨NT, hM⟩ : ∃ NT, NT = w.heap.size := ⟨_, rfl⟩
  have HB1 : Hid (Below w.heap.size w w1) := by simp only [Hid]; rw [hW]; exact below1 _ _
  have HKT1 : Hid (w1.heap[NT]? = some (Obj.cells #[.int .i64 0, .int .i64 0, .slice none 0 0] 26)) := by simp only [Hid]; rw [hW]; exact FNew.heap_top hM
  have HNT : Hid (w.heap.size ≤ NT) := by simp only [Hid]; omega
  have HNTe := hid hM
  simp only [← hW, ← hM]
  clear hW hM
  go_at_call 50
  refine inB.mono ?_
  rw [HQ3.out]
  rintro e w' ⟨rfl, rfl⟩
  go_wp2_with fail
  go_at_call 50
  refine inB.mono ?_
  rw [HQ4.out]
  rintro e w' ⟨rfl, rfl⟩
  have HB := hid HB1.out
  have kT := HKT1.out
  have y0 : w1.cell? ⟨NT, 0, none⟩ = some (.int .i64 0) := Go.Joins.cell_of_block kT 0
  have y1 : w1.cell? ⟨NT, 1, none⟩ = some (.int .i64 0) := Go.Joins.cell_of_block kT 1
  have y2 : w1.cell? ⟨NT, 2, none⟩ = some (.slice none 0 0) := Go.Joins.cell_of_block kT 2
  have g0 : w1.frozen? ⟨NT, 0, none⟩ = false := Go.Joins.unfrozen_of_block kT 0
  have g1 : w1.frozen? ⟨NT, 1, none⟩ = false := Go.Joins.unfrozen_of_block kT 1
  have g2 : w1.frozen? ⟨NT, 2, none⟩ = false := Go.Joins.unfrozen_of_block kT 2
  have HKx := hid kT
  clear kT
  go_wp2
  obtain ⟨W5, hW⟩ : ∃ W5, W5 = (((w1.setCell ⟨NT, 0, none⟩ (.int .i64 0)).setCell ⟨NT, 1, none⟩ (.int .i64 0)).setCell ⟨NT, 2, none⟩ (.slice none 0 0)) := ⟨_, rfl⟩
  have q0 := (Go.Joins.block_setCell (i := 2) (Go.Joins.block_setCell (i := 1) (Go.Joins.block_setCell (i := 0) HKx.out (.int .i64 0)) (.int .i64 0)) (.slice none 0 0))
  rw [← hW] at q0
  have z0 : W5.cell? ⟨NT, 0, none⟩ = some (.int .i64 0) := Go.Joins.cell_of_block q0 0
  have z1 : W5.cell? ⟨NT, 1, none⟩ = some (.int .i64 0) := Go.Joins.cell_of_block q0 1
  have z2 : W5.cell? ⟨NT, 2, none⟩ = some (.slice none 0 0) := Go.Joins.cell_of_block q0 2
  have B5 : Below w.heap.size w W5 := by
    have h1 := HNT.out
    rw [hW]
    exact ((HB.out.setCell (by simp; omega) _).setCell (by simp; omega) _).setCell (by simp; omega) _
  simp only [← hW]
  clear hW q0
  simp [bodyPost, results, Try.results60, go_sem, z0, z1, z2]
  exact B5

set_option maxHeartbeats 4000000 in
theorem meetNo5 {w : World} {N M : Nat} {s r s' r' row col : Int} {b b2 : Nat} {v v2 : Value} {zs ps : List Int} (k0 : w.cell? ⟨N, 0, none⟩ = some (.int .i64 s)) (k1 : w.cell? ⟨N, 1, none⟩ = some (.int .i64 r)) (k2 : w.cell? ⟨N, 2, none⟩ = some v) (j0 : w.cell? ⟨M, 0, none⟩ = some (.int .i64 s')) (j1 : w.cell? ⟨M, 1, none⟩ = some (.int .i64 r')) (j2 : w.cell? ⟨M, 2, none⟩ = some v2) (h3q : decide (0 ≤ row ∧ row ≤ 24) = true) (h4q : decide (0 ≤ col ∧ col ≤ 24) = true) (h5q : sidesB (max s (row + s')) (max r (col + r')) = false) (hs1 : sidesB s r = true) (hs2 : sidesB s' r' = true) :
    Calls Try.prog 60 #[.pointer (some ⟨N, 0, none⟩), .pointer (some ⟨M, 0, none⟩), .int .i64 row, .int .i64 col] w fun e w' => e = .returned (.tuple #[ruleV 0 0 (.slice none 0 0), .bool false]) ∧ Below w.heap.size w w' := by
  obtain ⟨MX, hMX⟩ : ∃ MX, max s (row + s') = MX := ⟨_, rfl⟩
  obtain ⟨MY, hMY⟩ : ∃ MY, max r (col + r') = MY := ⟨_, rfl⟩
  rw [hMX, hMY] at h5q
  have HQ3 := hid h3q
  have HQ4 := hid h4q
  have HQ5 := hid h5q
  have HKN := hid (And.intro k0 (And.intro k1 k2))
  have HKM := hid (And.intro j0 (And.intro j1 j2))
  have HS1 := hid hs1
  have HS2 := hid hs2
  have HSB : Hid ((1 ≤ s ∧ s ≤ 24) ∧ (1 ≤ r ∧ r ≤ 24) ∧ (1 ≤ s' ∧ s' ≤ 24) ∧ (1 ≤ r' ∧ r' ≤ 24) ∧ (0 ≤ row ∧ row ≤ 24) ∧ 0 ≤ col ∧ col ≤ 24) := by
    have h3 := HS1.out
    have h4 := HS2.out
    simp [sidesB] at h3 h4
    have h5 := HQ3.out
    have h6 := HQ4.out
    simp only [decide_eq_true_eq] at h5 h6
    simp only [Hid]; omega
  have HMX : Hid (max s (row + s') = MX ∧ max r (col + r') = MY) := ⟨hMX, hMY⟩
  clear hMX hMY
  clear k0 k1 k2 j0 j1 j2 h3q h4q h5q hs1 hs2
  go_enter Try.func60, Try.ntmps60
  go_wp2_with fail
  obtain ⟨w1, hW⟩ : ∃ w1, w1 = w.alloc (Obj.cells #[.int .i64 0, .int .i64 0, .slice none 0 0] 26) := ⟨_, rfl⟩
  obtain ⟨NT, hM⟩ : ∃ NT, NT = w.heap.size := ⟨_, rfl⟩
  have HB1 : Hid (Below w.heap.size w w1) := by simp only [Hid]; rw [hW]; exact below1 _ _
  have HKT1 : Hid (w1.heap[NT]? = some (Obj.cells #[.int .i64 0, .int .i64 0, .slice none 0 0] 26)) := by simp only [Hid]; rw [hW]; exact FNew.heap_top hM
  have HNT : Hid (w.heap.size ≤ NT) := by simp only [Hid]; omega
  have HNTe := hid hM
  simp only [← hW, ← hM]
  clear hW hM
  go_at_call 50
  refine inB.mono ?_
  rw [HQ3.out]
  rintro e w' ⟨rfl, rfl⟩
  go_wp2_with fail
  go_at_call 50
  refine inB.mono ?_
  rw [HQ4.out]
  rintro e w' ⟨rfl, rfl⟩
  have x0 : IntKind.i64.wrap (row + s') = row + s' := by have := HSB.out; rw [IntKind.wrap_i64]; omega
  have x1 : IntKind.i64.wrap (col + r') = col + r' := by have := HSB.out; rw [IntKind.wrap_i64]; omega
  have c0 := cell_keep HB1.out HKN.out.1
  have m0 := cell_keep HB1.out HKM.out.1
  go_wp2_with fail
  go_quiet (first | (go_at_call 88; refine Calls.quiet_of_same (quietMax HMX.out.1)))
  obtain ⟨w2, hw2⟩ : ∃ w2, w2 = w1.drewN nq := ⟨_, rfl⟩
  have HB2 : Hid (Below w.heap.size w w2) := by simp only [Hid]; rw [hw2]; exact HB1.out.trans (FSpec.below_drewN' _ _ _)
  have HKT2 : Hid (w2.heap[NT]? = some (Obj.cells #[.int .i64 0, .int .i64 0, .slice none 0 0] 26)) := by simp only [Hid]; rw [hw2]; exact HKT1.out
  simp only [← hw2]
  clear hw2 c0 m0 nq
  have c1 := cell_keep HB2.out HKN.out.2.1
  have m1' := cell_keep HB2.out HKM.out.2.1
  go_wp2_with fail
  go_quiet (first | (go_at_call 88; refine Calls.quiet_of_same (quietMax HMX.out.2)))
  obtain ⟨w3, hw3⟩ : ∃ w3, w3 = w2.drewN nq := ⟨_, rfl⟩
  have HB3 : Hid (Below w.heap.size w w3) := by simp only [Hid]; rw [hw3]; exact HB2.out.trans (FSpec.below_drewN' _ _ _)
  have HKT3 : Hid (w3.heap[NT]? = some (Obj.cells #[.int .i64 0, .int .i64 0, .slice none 0 0] 26)) := by simp only [Hid]; rw [hw3]; exact HKT2.out
  simp only [← hw3]
  clear hw3 c1 m1' nq x0 x1
  go_wp2_with fail
  go_at_call 51
  refine Gw.l05Sides.mono ?_
  rw [HQ5.out]
  rintro e w' ⟨rfl, rfl⟩
  have HB := hid HB3.out
  have kT := HKT3.out
  have y0 : w3.cell? ⟨NT, 0, none⟩ = some (.int .i64 0) := Go.Joins.cell_of_block kT 0
  have y1 : w3.cell? ⟨NT, 1, none⟩ = some (.int .i64 0) := Go.Joins.cell_of_block kT 1
  have y2 : w3.cell? ⟨NT, 2, none⟩ = some (.slice none 0 0) := Go.Joins.cell_of_block kT 2
  have g0 : w3.frozen? ⟨NT, 0, none⟩ = false := Go.Joins.unfrozen_of_block kT 0
  have g1 : w3.frozen? ⟨NT, 1, none⟩ = false := Go.Joins.unfrozen_of_block kT 1
  have g2 : w3.frozen? ⟨NT, 2, none⟩ = false := Go.Joins.unfrozen_of_block kT 2
  have HKx := hid kT
  clear kT
  go_wp2
  obtain ⟨W5, hW⟩ : ∃ W5, W5 = (((w3.setCell ⟨NT, 0, none⟩ (.int .i64 0)).setCell ⟨NT, 1, none⟩ (.int .i64 0)).setCell ⟨NT, 2, none⟩ (.slice none 0 0)) := ⟨_, rfl⟩
  have q0 := (Go.Joins.block_setCell (i := 2) (Go.Joins.block_setCell (i := 1) (Go.Joins.block_setCell (i := 0) HKx.out (.int .i64 0)) (.int .i64 0)) (.slice none 0 0))
  rw [← hW] at q0
  have z0 : W5.cell? ⟨NT, 0, none⟩ = some (.int .i64 0) := Go.Joins.cell_of_block q0 0
  have z1 : W5.cell? ⟨NT, 1, none⟩ = some (.int .i64 0) := Go.Joins.cell_of_block q0 1
  have z2 : W5.cell? ⟨NT, 2, none⟩ = some (.slice none 0 0) := Go.Joins.cell_of_block q0 2
  have B5 : Below w.heap.size w W5 := by
    have h1 := HNT.out
    rw [hW]
    exact ((HB.out.setCell (by simp; omega) _).setCell (by simp; omega) _).setCell (by simp; omega) _
  simp only [← hW]
  clear hW q0
  simp [bodyPost, results, Try.results60, go_sem, z0, z1, z2]
  exact B5

set_option maxRecDepth 8000 in
set_option maxHeartbeats 16000000 in
theorem meetOk {w : World} {N M : Nat} {A1 B1 A2 B2 ra rb R C n m1 m2 : Nat} {b b2 : Nat} {v v2 : Value} {zs ps : List Int} (k0 : w.cell? ⟨N, 0, none⟩ = some (.int .i64 A1)) (k1 : w.cell? ⟨N, 1, none⟩ = some (.int .i64 B1)) (k2 : w.cell? ⟨N, 2, none⟩ = some v) (j0 : w.cell? ⟨M, 0, none⟩ = some (.int .i64 A2)) (j1 : w.cell? ⟨M, 1, none⟩ = some (.int .i64 B2)) (j2 : w.cell? ⟨M, 2, none⟩ = some v2) (h : Rd w b v zs) (h2 : Rd w b2 v2 ps) (h1q : (fieldB A1 B1 zs && allB zs 2) = true) (h2q : (fieldB A2 B2 ps && allB ps 2) = true) (hr : ra ≤ 24 ∧ rb ≤ 24) (hR : (R : Int) = max (A1 : Int) ((ra : Int) + (A2 : Int))) (hC : (C : Int) = max (B1 : Int) ((rb : Int) + (B2 : Int))) (hle : R ≤ 24 ∧ C ≤ 24) (hn : n = R * C) (hm1 : m1 = A1 * B1) (hm2' : m2 = A2 * B2) :
    Calls Try.prog 60 #[.pointer (some ⟨N, 0, none⟩), .pointer (some ⟨M, 0, none⟩), .int .i64 ra, .int .i64 rb] w fun e w' => ∃ b', e = .returned ((.tuple #[ruleV R C (.slice (some ⟨b', 0, none⟩) n n), .bool true])) ∧ Own 2 w' b' (.slice (some ⟨b', 0, none⟩) n n) ((lay (pasteL (List.replicate n 0) zs R C A1 B1 0 0) ps R C A2 B2 ra rb)) ∧ w.heap.size ≤ b' ∧ Below w.heap.size w w' := by
  have hf1 : fieldB A1 B1 zs = true := by simp only [Bool.and_eq_true] at h1q; exact h1q.1
  have hf2 : fieldB A2 B2 ps = true := by simp only [Bool.and_eq_true] at h2q; exact h2q.1
  have hp1 : plainB zs = true := by simp only [Bool.and_eq_true] at h1q; rw [Can.plain_eq]; exact h1q.2
  have hp2 : plainB ps = true := by simp only [Bool.and_eq_true] at h2q; rw [Can.plain_eq]; exact h2q.2
  have hA1 := (field_nat hf1).1
  have hB1 := (field_nat hf1).2.1
  have hA2 := (field_nat hf2).1
  have hB2 := (field_nat hf2).2.1
  have hl := (field_nat hf1).2.2.1
  have hl2 := (field_nat hf2).2.2.1
  have HF1 := hid hf1
  have HF2 := hid hf2
  have HP1 := hid hp1
  have HP2 := hid hp2
  have HQ1 := hid h1q
  have HQ2 := hid h2q
  have HQ3 : Hid (decide (0 ≤ (ra : Int) ∧ (ra : Int) ≤ 24) = true) := by simp only [Hid, decide_eq_true_eq]; omega
  have HQ4 : Hid (decide (0 ≤ (rb : Int) ∧ (rb : Int) ≤ 24) = true) := by simp only [Hid, decide_eq_true_eq]; omega
  have HQ5 : Hid (sidesB (R : Int) (C : Int) = true) := by simp only [Hid, sidesB]; simp; omega
  have HSB : Hid ((1 ≤ A1 ∧ A1 ≤ 24) ∧ (1 ≤ B1 ∧ B1 ≤ 24) ∧ (1 ≤ A2 ∧ A2 ≤ 24) ∧ (1 ≤ B2 ∧ B2 ≤ 24) ∧ ra ≤ 24 ∧ rb ≤ 24) := by simp only [Hid]; omega
  have HRC : Hid ((1 ≤ R ∧ R ≤ 24) ∧ 1 ≤ C ∧ C ≤ 24) := by simp only [Hid]; omega
  have HK : Hid ((0 + A1 ≤ R ∧ 0 + B1 ≤ C) ∧ ra + A2 ≤ R ∧ rb + B2 ≤ C) := by simp only [Hid]; omega
  have HMX : Hid (max (A1 : Int) ((ra : Int) + (A2 : Int)) = (R : Int) ∧ max (B1 : Int) ((rb : Int) + (B2 : Int)) = (C : Int)) := ⟨hR.symm, hC.symm⟩
  have HN := hid hn
  have HM1 := hid hm1
  have HM2 := hid hm2'
  have HLE : Hid (n ≤ 576) := by simp only [Hid]; rw [hn]; exact Nat.le_trans (Nat.mul_le_mul hle.1 hle.2) (by decide)
  have HH := hid h
  have HH2 := hid h2
  obtain ⟨ao, cap, rfl, hc, hm, h4⟩ := h
  obtain ⟨ao2, cap2, rfl, hc2, hm2, h42⟩ := h2
  have hpos : 0 < zs.length := by rw [hl]; exact Nat.mul_pos hA1.1 hB1.1
  have hpos2 : 0 < ps.length := by rw [hl2]; exact Nat.mul_pos hA2.1 hB2.1
  obtain ⟨off, rfl, hb, hcell⟩ := h4 hpos
  obtain ⟨off2, rfl, hb2, hcell2⟩ := h42 hpos2
  have hln : zs.length = m1 := by rw [hm1]; exact hl
  have hln2 : ps.length = m2 := by rw [hm2']; exact hl2
  rw [hln] at HH hc hcell k2
  rw [hln2] at HH2 hc2 hcell2 j2
  have HL1 := hid hln
  have HL2 := hid hln2
  have HB0 := hid hb
  have HB2b := hid hb2
  have HCell := hid hcell
  have HCell2 := hid hcell2
  have hsz : m1 ≤ cap ∧ cap ≤ 9223372036854775807 := by unfold maxLen at hm; omega
  have hsz2 : m2 ≤ cap2 ∧ cap2 ≤ 9223372036854775807 := by unfold maxLen at hm2; omega
  have HLM1 : Hid (m1 ≤ 576) := by simp only [Hid]; rw [hm1]; exact Nat.le_trans (Nat.mul_le_mul hA1.2 hB1.2) (by decide)
  have HLM2 : Hid (m2 ≤ 576) := by simp only [Hid]; rw [hm2']; exact Nat.le_trans (Nat.mul_le_mul hA2.2 hB2.2) (by decide)
  have HKN := hid (And.intro k0 (And.intro k1 k2))
  have HKM := hid (And.intro j0 (And.intro j1 j2))
  have HNw : Hid (N < w.heap.size ∧ M < w.heap.size) := ⟨World.block_lt_of_cell? w _ k0, World.block_lt_of_cell? w _ j0⟩
  clear k0 k1 k2 j0 j1 j2
  clear hc hm h4 hc2 hm2 h42 hf1 hf2 hp1 hp2 h1q h2q hr hR hC hle hn hm1 hm2' hl hl2 hpos hpos2 hb hb2 hcell hcell2 hln hln2 hA1 hB1 hA2 hB2
  go_enter Try.func60, Try.ntmps60
  go_wp2_with fail
  obtain ⟨w1, hW⟩ : ∃ w1, w1 = w.alloc (Obj.cells #[.int .i64 0, .int .i64 0, .slice none 0 0] 26) := ⟨_, rfl⟩
  obtain ⟨NT, hM⟩ : ∃ NT, NT = w.heap.size := ⟨_, rfl⟩
  have HB1 : Hid (Below w.heap.size w w1) := by simp only [Hid]; rw [hW]; exact below1 _ _
  have HKT1 : Hid (w1.heap[NT]? = some (Obj.cells #[.int .i64 0, .int .i64 0, .slice none 0 0] 26)) := by simp only [Hid]; rw [hW]; exact FNew.heap_top hM
  have HNT : Hid (w.heap.size ≤ NT) := by simp only [Hid]; omega
  have HNTe := hid hM
  simp only [← hW, ← hM]
  clear hW hM
  go_at_call 50
  refine inB.mono ?_
  rw [HQ3.out]
  rintro e w' ⟨rfl, rfl⟩
  go_wp2_with fail
  go_at_call 50
  refine inB.mono ?_
  rw [HQ4.out]
  rintro e w' ⟨rfl, rfl⟩

  have x0 : IntKind.i64.wrap ((ra : Int) + (A2 : Int)) = (ra : Int) + (A2 : Int) := by have := HSB.out; rw [IntKind.wrap_i64]; omega
  have x1 : IntKind.i64.wrap ((rb : Int) + (B2 : Int)) = (rb : Int) + (B2 : Int) := by have := HSB.out; rw [IntKind.wrap_i64]; omega
  have c0 := cell_keep HB1.out HKN.out.1
  have m0 := cell_keep HB1.out HKM.out.1
  go_wp2_with fail
  go_quiet (first | (go_at_call 88; refine Calls.quiet_of_same (quietMax HMX.out.1)))
  obtain ⟨w2, hw2⟩ : ∃ w2, w2 = w1.drewN nq := ⟨_, rfl⟩
  have HB2 : Hid (Below w.heap.size w w2) := by simp only [Hid]; rw [hw2]; exact HB1.out.trans (FSpec.below_drewN' _ _ _)
  have HKT2 : Hid (w2.heap[NT]? = some (Obj.cells #[.int .i64 0, .int .i64 0, .slice none 0 0] 26)) := by simp only [Hid]; rw [hw2]; exact HKT1.out
  simp only [← hw2]
  clear hw2 c0 m0 nq
  have c1 := cell_keep HB2.out HKN.out.2.1
  have m1' := cell_keep HB2.out HKM.out.2.1
  go_wp2_with fail
  go_quiet (first | (go_at_call 88; refine Calls.quiet_of_same (quietMax HMX.out.2)))
  obtain ⟨w3, hw3⟩ : ∃ w3, w3 = w2.drewN nq := ⟨_, rfl⟩
  have HB3 : Hid (Below w.heap.size w w3) := by simp only [Hid]; rw [hw3]; exact HB2.out.trans (FSpec.below_drewN' _ _ _)
  have HKT3 : Hid (w3.heap[NT]? = some (Obj.cells #[.int .i64 0, .int .i64 0, .slice none 0 0] 26)) := by simp only [Hid]; rw [hw3]; exact HKT2.out
  simp only [← hw3]
  clear hw3 c1 m1' nq x0 x1
  go_wp2_with fail
  go_at_call 51
  refine Gw.l05Sides.mono ?_
  rw [HQ5.out]
  rintro e w' ⟨rfl, rfl⟩
  go_wp2_with fail
  go_at_call 44
  refine (FNew.l04New HN.out HLE.out).mono ?_
  rintro e w4 ⟨b', rfl, ow, lo, bel⟩
  have HLo : Hid (w.heap.size ≤ b') := Nat.le_trans HB3.out.size lo
  have HNB : Hid (NT ≠ b') := Nat.ne_of_lt (Nat.lt_of_lt_of_le (Array.getElem?_eq_some_iff.1 HKT3.out).1 lo)
  have HNN2 : Hid (N ≠ b' ∧ M ≠ b') := ⟨Nat.ne_of_lt (Nat.lt_of_lt_of_le HNw.out.1 HLo.out), Nat.ne_of_lt (Nat.lt_of_lt_of_le HNw.out.2 HLo.out)⟩
  have HBne : Hid (b ≠ b' ∧ b2 ≠ b') := ⟨Nat.ne_of_lt (Nat.lt_of_lt_of_le HB0.out HLo.out), Nat.ne_of_lt (Nat.lt_of_lt_of_le HB2b.out HLo.out)⟩
  have HB4 := hid (HB3.out.trans (bel.mono HB3.out.size))
  have HKT4 := hid ((bel.block NT (Array.getElem?_eq_some_iff.1 HKT3.out).1).trans HKT3.out)
  have HO4 := hid ow
  clear lo bel ow
  obtain ⟨w5, hW⟩ : ∃ w5, w5 = w4.alloc (Obj.cells #[.int .i64 R, .int .i64 C, .slice (some ⟨b', 0, none⟩) n n] 26) := ⟨_, rfl⟩
  obtain ⟨NO, hO⟩ : ∃ NO, NO = w4.heap.size := ⟨_, rfl⟩
  have bel : Below w4.heap.size w4 w5 := by rw [hW]; exact below1 _ _
  have HB5 := hid (HB4.out.trans (bel.mono HB4.out.size))
  have HKT5 := hid ((bel.block NT (Array.getElem?_eq_some_iff.1 HKT4.out).1).trans HKT4.out)
  have HO5 := hid (HO4.out.keep bel)
  have HKO : Hid (w5.heap[NO]? = some (Obj.cells #[.int .i64 R, .int .i64 C, .slice (some ⟨b', 0, none⟩) n n] 26)) := by simp only [Hid]; rw [hW]; exact FNew.heap_top hO
  have HNO : Hid (NO ≠ b') := by simp only [Hid]; rw [hO]; exact Nat.ne_of_gt HO4.out.lt
  have HCN : Hid (w5.cell? ⟨N, 0, none⟩ = some (.int .i64 A1) ∧ w5.cell? ⟨N, 1, none⟩ = some (.int .i64 B1) ∧ w5.cell? ⟨N, 2, none⟩ = some (.slice (some ⟨b, off, none⟩) m1 cap)) := ⟨cell_keep HB5.out HKN.out.1, cell_keep HB5.out HKN.out.2.1, cell_keep HB5.out HKN.out.2.2⟩
  have HCM : Hid (w5.cell? ⟨M, 0, none⟩ = some (.int .i64 A2) ∧ w5.cell? ⟨M, 1, none⟩ = some (.int .i64 B2) ∧ w5.cell? ⟨M, 2, none⟩ = some (.slice (some ⟨b2, off2, none⟩) m2 cap2)) := ⟨cell_keep HB5.out HKM.out.1, cell_keep HB5.out HKM.out.2.1, cell_keep HB5.out HKM.out.2.2⟩
  have HCLX : Hid (∀ i, i < m1 → w5.cell? ⟨b, off + i, none⟩ = some (.int .i64 (zs.getD i 0))) := fun i hi => (HB5.out.cell (p := ⟨b, off + i, none⟩) HB0.out).trans (HCell.out i hi)
  have HCLY : Hid (∀ i, i < m2 → w5.cell? ⟨b2, off2 + i, none⟩ = some (.int .i64 (ps.getD i 0))) := fun i hi => (HB5.out.cell (p := ⟨b2, off2 + i, none⟩) HB2b.out).trans (HCell2.out i hi)
  have hB24 : (A1 ≤ 24 ∧ B1 ≤ 24 ∧ A2 ≤ 24 ∧ B2 ≤ 24) ∧ R ≤ 24 ∧ C ≤ 24 := by have := HSB.out; have := HRC.out; omega
  go_wp2
  simp only [← hW, ← hO]
  clear hW hO bel HO4 HB4 HKT4
  go_loopw [13] (fun i wr => ∃ p : Nat, p ≤ A1 ∧ i = .int .i64 p ∧ ∃ ys, AtG ys R C (pst (List.replicate n (0 : Int)) zs C B1 0 0 p 0) ∧ Own 2 wr b' (.slice (some ⟨b', 0, none⟩) n n) ys ∧ w5.grownBy wr (some b')) (fun i _ => A1 - (intOf i).toNat)
  case atStart => exact ⟨0, Nat.zero_le _, rfl, _, pst_start (by rw [HN.out]; simp), HO5.out, g_refl _ _⟩
  case round =>
    obtain ⟨p, hp, rfl, ys, hat, hown, hg⟩ := hrel
    have c0 := g_cell hg HCN.out.1 HNN2.out.1
    have c1 := g_cell hg HCN.out.2.1 HNN2.out.1
    have c2 := g_cell hg HCN.out.2.2 HNN2.out.1
    have d0 : wr.cell? ⟨NO, 0, none⟩ = some (.int .i64 R) := Go.Joins.cell_of_block (g_heap hg HKO.out HNO.out) 0
    have d1 : wr.cell? ⟨NO, 1, none⟩ = some (.int .i64 C) := Go.Joins.cell_of_block (g_heap hg HKO.out HNO.out) 1
    have d2 : wr.cell? ⟨NO, 2, none⟩ = some (.slice (some ⟨b', 0, none⟩) n n) := Go.Joins.cell_of_block (g_heap hg HKO.out HNO.out) 2
    by_cases hlt : p < A1
    · have HO1 := hid hown
      have HG1 := hid hg
      have HAT1 := hid hat
      have hpi : (p : Int) < (A1 : Int) := by omega
      clear hown hg hat
      go_wp2
      clear c0 c1 c2 d0 d1 d2
      go_loopw [14] (fun k wx => ∃ q : Nat, q ≤ B1 ∧ k = .int .i64 q ∧ ∃ ys, AtG ys R C (pst (List.replicate n (0 : Int)) zs C B1 0 0 p q) ∧ Own 2 wx b' (.slice (some ⟨b', 0, none⟩) n n) ys ∧ w5.grownBy wx (some b')) (fun k _ => B1 - (intOf k).toNat)
      case atStart => exact ⟨0, Nat.zero_le _, rfl, ys, HAT1.out, HO1.out, HG1.out⟩
      case round =>
        clear HO1 HG1 HAT1
        obtain ⟨q, hq2, rfl, ys, hat, hown, hg⟩ := hrel
        have c0 := g_cell hg HCN.out.1 HNN2.out.1
        have c1 := g_cell hg HCN.out.2.1 HNN2.out.1
        have c2 := g_cell hg HCN.out.2.2 HNN2.out.1
        have d0 : wr.cell? ⟨NO, 0, none⟩ = some (.int .i64 R) := Go.Joins.cell_of_block (g_heap hg HKO.out HNO.out) 0
        have d1 : wr.cell? ⟨NO, 1, none⟩ = some (.int .i64 C) := Go.Joins.cell_of_block (g_heap hg HKO.out HNO.out) 1
        have d2 : wr.cell? ⟨NO, 2, none⟩ = some (.slice (some ⟨b', 0, none⟩) n n) := Go.Joins.cell_of_block (g_heap hg HKO.out HNO.out) 2
        by_cases hlt2 : q < B1
        · obtain ⟨S, hS⟩ : ∃ S, S = p * B1 + q := ⟨_, rfl⟩
          obtain ⟨T, hT⟩ : ∃ T, T = p * C + q := ⟨_, rfl⟩
          have hSn : S < m1 := by rw [hS, HM1.out]; exact pos_bd hlt hlt2
          have hTn : T < n := by rw [hT, HN.out]; exact pos_bd (by have := HK.out; omega) (by have := HK.out; omega)
          have e4 := (wrap_pos (i := p) (C := B1) (k := q) (by have := HLM1.out; omega)).1
          have e5 := (wrap_pos (i := p) (C := B1) (k := q) (by have := HLM1.out; omega)).2
          have e6 := (wrap_pos (i := p) (C := C) (k := q) (by have := HLE.out; omega)).1
          have e7 := (wrap_pos (i := p) (C := C) (k := q) (by have := HLE.out; omega)).2
          rw [← hS] at e5
          rw [← hT] at e7
          obtain ⟨x, hx⟩ : ∃ x, x = zs.getD S 0 := ⟨_, rfl⟩
          have hcx : wr.cell? ⟨b, off + S, none⟩ = some (.int .i64 x) := by rw [hx]; exact g_cell hg (HCLX.out S hSn) HBne.out.1
          have hox := hown.cell (i := T) (by rw [hat.1, ← HN.out]; exact hTn)
          have hof := hown.free T
          have HSt : Hid (AtG (ys.set T x) R C (pst (List.replicate n (0 : Int)) zs C B1 0 0 p (q + 1))) := by
            have h1 := pst_set hat (by have := HK.out; omega) (by have := HK.out; omega) hlt2
            rw [Nat.zero_add, Nat.zero_add, ← hT, ← hS, ← hx] at h1
            exact h1
          have HO2 := hid hown
          have HG2 := hid hg
          have hpi : (p : Int) < (A1 : Int) := by omega
          have hqi : (q : Int) < (B1 : Int) := by omega
          obtain ⟨P2, hP2⟩ : ∃ P2, P2 = p * B1 := ⟨_, rfl⟩
          obtain ⟨P1, hP1⟩ : ∃ P1, P1 = p * C := ⟨_, rfl⟩
          rw [← hP2] at e4 e5
          rw [← hP1] at e6 e7
          clear hx hown hg hat hS hT hP1 hP2
          go_wp2_with fail
          go_still_tail 22, (by kernel_rfl)
          change wpList _ _ _ _ _ wr.drew
          have hoxd : wr.drew.cell? ⟨b', T, none⟩ = some (.int .i64 (ys.getD T 0)) := hox
          have hofd : wr.drew.frozen? ⟨b', T, none⟩ = false := hof
          obtain ⟨wd, hwd⟩ : ∃ wd, wd = wr.drew := ⟨_, rfl⟩
          have HG3 : Hid (w5.grownBy wd (some b')) := by rw [hwd]; exact g_drew HG2.out
          have HO3 : Hid (Own 2 wd b' (.slice (some ⟨b', 0, none⟩) n n) ys) := by rw [hwd]; exact HO2.out
          rw [← hwd] at hoxd hofd ⊢
          clear hwd hox hof hcx c0 c1 c2 d0 d1 d2
          go_wp2
          go_roundw
          case rel => exact ⟨q + 1, by omega, by go_num, _, HSt.out, HO3.out.set T _, g_set HG3.out T _⟩
          case measure => simp [intOf]; omega
        · have hqR : B1 = q := by omega
          have HO2 := hid hown
          have HG2 := hid hg
          have HAT2 := hid hat
          clear hown hg hat
          have hqe := hqR.symm
          clear hqR
          subst hqe
          go_wp2
          go_roundw
          case rel => exact ⟨p + 1, by omega, by go_num, _, pst_row HAT2.out, HO2.out, HG2.out⟩
          case measure => simp [intOf]; omega
    · have hpC : A1 = p := by omega
      subst hpC
      rw [pst_end hat] at hown
      obtain ⟨Z1, hZ1⟩ : ∃ Z1, Z1 = pasteL (List.replicate n (0 : Int)) zs R C A1 B1 0 0 := ⟨_, rfl⟩
      rw [← hZ1] at hown
      have HZ1e := hid hZ1
      have HZ1L : Hid (Z1.length = R * C) := by simp only [Hid]; rw [hZ1]; unfold pasteL; rw [grid_len]
      have HO9 := hid hown
      have HG9 := hid hg
      clear hown hg hat hZ1 c1 c2 d0 d1 d2
      go_wp2
      clear c0
      go_loopw [15] (fun i wr => ∃ p : Nat, p ≤ A2 ∧ i = .int .i64 p ∧ ∃ ys, AtG ys R C (pst Z1 (laidL Z1 ps C A2 B2 ra rb) C B2 ra rb p 0) ∧ Own 2 wr b' (.slice (some ⟨b', 0, none⟩) n n) ys ∧ w5.grownBy wr (some b')) (fun i _ => A2 - (intOf i).toNat)
      case atStart => exact ⟨0, Nat.zero_le _, rfl, Z1, pst_start HZ1L.out, HO9.out, HG9.out⟩
      case round =>
        obtain ⟨p, hp, rfl, ys, hat, hown, hg⟩ := hrel
        have c0 := g_cell hg HCM.out.1 HNN2.out.2
        have c1 := g_cell hg HCM.out.2.1 HNN2.out.2
        have c2 := g_cell hg HCM.out.2.2 HNN2.out.2
        have d0 : wr.cell? ⟨NO, 0, none⟩ = some (.int .i64 R) := Go.Joins.cell_of_block (g_heap hg HKO.out HNO.out) 0
        have d1 : wr.cell? ⟨NO, 1, none⟩ = some (.int .i64 C) := Go.Joins.cell_of_block (g_heap hg HKO.out HNO.out) 1
        have d2 : wr.cell? ⟨NO, 2, none⟩ = some (.slice (some ⟨b', 0, none⟩) n n) := Go.Joins.cell_of_block (g_heap hg HKO.out HNO.out) 2
        by_cases hlt : p < A2
        · have HO1 := hid hown
          have HG1 := hid hg
          have HAT1 := hid hat
          have hpi : (p : Int) < (A2 : Int) := by omega
          clear hown hg hat
          go_wp2
          clear c0 c1 c2 d0 d1 d2
          go_loopw [16] (fun k wx => ∃ q : Nat, q ≤ B2 ∧ k = .int .i64 q ∧ ∃ ys, AtG ys R C (pst Z1 (laidL Z1 ps C A2 B2 ra rb) C B2 ra rb p q) ∧ Own 2 wx b' (.slice (some ⟨b', 0, none⟩) n n) ys ∧ w5.grownBy wx (some b')) (fun k _ => B2 - (intOf k).toNat)
          case atStart => exact ⟨0, Nat.zero_le _, rfl, ys, HAT1.out, HO1.out, HG1.out⟩
          case round =>
            clear HO1 HG1 HAT1
            obtain ⟨q, hq2, rfl, ys, hat, hown, hg⟩ := hrel
            have c0 := g_cell hg HCM.out.1 HNN2.out.2
            have c1 := g_cell hg HCM.out.2.1 HNN2.out.2
            have c2 := g_cell hg HCM.out.2.2 HNN2.out.2
            have d0 : wr.cell? ⟨NO, 0, none⟩ = some (.int .i64 R) := Go.Joins.cell_of_block (g_heap hg HKO.out HNO.out) 0
            have d1 : wr.cell? ⟨NO, 1, none⟩ = some (.int .i64 C) := Go.Joins.cell_of_block (g_heap hg HKO.out HNO.out) 1
            have d2 : wr.cell? ⟨NO, 2, none⟩ = some (.slice (some ⟨b', 0, none⟩) n n) := Go.Joins.cell_of_block (g_heap hg HKO.out HNO.out) 2
            by_cases hlt2 : q < B2
            · obtain ⟨S, hS⟩ : ∃ S, S = p * B2 + q := ⟨_, rfl⟩
              obtain ⟨T, hT⟩ : ∃ T, T = (ra + p) * C + (rb + q) := ⟨_, rfl⟩
              have hSn : S < m2 := by rw [hS, HM2.out]; exact pos_bd hlt hlt2
              have hTn : T < n := by rw [hT, HN.out]; exact pos_bd (by have := HK.out; omega) (by have := HK.out; omega)
              have HTl : Hid (T < ys.length) := by simp only [Hid]; rw [hat.1, ← HN.out]; exact hTn
              obtain ⟨P1, hP1⟩ : ∃ P1, P1 = (ra + p) * C := ⟨_, rfl⟩
              have hin : P1 + C ≤ n := by rw [hP1, HN.out]; exact Row.row_in (C := C) (show ra + p < R by have := HK.out; omega)
              have hle := HLE.out
              have hkk := HK.out
              have hsb := HSB.out
              have e0 : IntKind.i64.wrap ((ra : Int) + (p : Int)) = (ra : Int) + (p : Int) := by rw [IntKind.wrap_i64]; omega
              have e1 : IntKind.i64.wrap (((ra : Int) + (p : Int)) * (C : Int)) = (P1 : Int) := by rw [show ((ra : Int) + (p : Int)) * (C : Int) = (P1 : Int) by rw [hP1]; simp, IntKind.wrap_i64]; omega
              have e2 : IntKind.i64.wrap ((P1 : Int) + (rb : Int)) = (P1 : Int) + (rb : Int) := by rw [IntKind.wrap_i64]; omega
              have e3 : IntKind.i64.wrap ((P1 : Int) + (rb : Int) + (q : Int)) = (T : Int) := by rw [IntKind.wrap_i64, hT, ← hP1]; omega
              have e4 := (wrap_pos (i := p) (C := B2) (k := q) (by have := HLM2.out; omega)).1
              have e5 := (wrap_pos (i := p) (C := B2) (k := q) (by have := HLM2.out; omega)).2
              rw [← hS] at e5
              obtain ⟨y, hy⟩ : ∃ y, y = ps.getD S 0 := ⟨_, rfl⟩
              have hcy : wr.cell? ⟨b2, off2 + S, none⟩ = some (.int .i64 y) := by rw [hy]; exact g_cell hg (HCLY.out S hSn) HBne.out.2
              have hpi : (p : Int) < (A2 : Int) := by omega
              have hqi : (q : Int) < (B2 : Int) := by omega
              have hTi : (T : Int) < (n : Int) := by omega
              have HS := hid hS
              have HT := hid hT
              have HY := hid hy
              obtain ⟨P2, hP2⟩ : ∃ P2, P2 = p * B2 := ⟨_, rfl⟩
              rw [← hP2] at e4 e5
              clear hP1 hP2 hin hle hkk hsb hS hT hy
              by_cases hy1 : y = 1
              · have HSt : Hid (AtG (ys.set T 1) R C (pst Z1 (laidL Z1 ps C A2 B2 ra rb) C B2 ra rb p (q + 1))) := by
                  have h1 := pst_set hat (by have := HK.out; omega) (by have := HK.out; omega) hlt2
                  have h2 : (laidL Z1 ps C A2 B2 ra rb).getD (p * B2 + q) 0 = 1 := by
                    unfold laidL
                    rw [grid_get _ hlt hlt2, ← HS.out, ← HY.out, cmb, if_pos hy1]
                  rw [h2, ← HT.out] at h1
                  exact h1
                have hox := hown.cell (i := T) (by rw [hat.1, ← HN.out]; exact hTn)
                have hof := hown.free T
                have HO2 := hid hown
                have HG2 := hid hg
                subst hy1
                clear hown hg hat
                go_wp2_with fail
                go_quiet (fail)
                obtain ⟨w6, hw6⟩ : ∃ w6, w6 = wr.drewN nq := ⟨_, rfl⟩
                have HG3 : Hid (w5.grownBy w6 (some b')) := by simp only [Hid]; rw [hw6]; exact g_bel HG2.out (FSpec.below_drewN' _ _ _)
                have HO3 : Hid (Own 2 w6 b' (.slice (some ⟨b', 0, none⟩) n n) ys) := by simp only [Hid]; rw [hw6]; exact HO2.out.keep (FSpec.below_drewN' _ _ _)
                simp only [← hw6]
                clear hw6 hox hof hcy c0 c1 c2 d0 d1 d2
                have d2 : w6.cell? ⟨NO, 2, none⟩ = some (.slice (some ⟨b', 0, none⟩) n n) := Go.Joins.cell_of_block (g_heap HG3.out HKO.out HNO.out) 2
                have hox := HO3.out.cell (i := T) HTl.out
                have hof := HO3.out.free T
                go_wp2
                go_roundw
                case rel => exact ⟨q + 1, by omega, by go_num, _, HSt.out, HO3.out.set T _, g_set HG3.out T _⟩
                case measure => simp [intOf]; omega
              · have HSt : Hid (AtG ys R C (pst Z1 (laidL Z1 ps C A2 B2 ra rb) C B2 ra rb p (q + 1))) := by
                  refine pst_keep hat (by have := HK.out; omega) (by have := HK.out; omega) hlt2 ?_
                  unfold laidL
                  rw [grid_get _ hlt hlt2, ← HS.out, ← HY.out, cmb, if_neg hy1]
                have HO2 := hid hown
                have HG2 := hid hg
                have hy2 : (y == 1) = false := by simpa using hy1
                clear hown hg hat hy1
                go_wp2_with fail
                go_quiet (fail)
                go_wp2
                go_roundw
                case rel => exact ⟨q + 1, by omega, by go_num, ys, HSt.out, HO2.out.keep (FSpec.below_drewN' _ _ _), g_bel HG2.out (FSpec.below_drewN' _ _ _)⟩
                case measure => simp [intOf]; omega
            · have hqR : B2 = q := by omega
              have HO2 := hid hown
              have HG2 := hid hg
              have HAT2 := hid hat
              clear hown hg hat
              have hqe := hqR.symm
              clear hqR
              subst hqe
              go_wp2
              go_roundw
              case rel => exact ⟨p + 1, by omega, by go_num, _, pst_row HAT2.out, HO2.out, HG2.out⟩
              case measure => simp [intOf]; omega
        · have hpC : A2 = p := by omega
          subst hpC
          rw [pst_end hat] at hown
          have kTr := g_heap hg HKT5.out HNB.out
          have HB := hid (g_below HB5.out hg HLo.out)
          have HO := hid hown
          clear hown hg hat c1 c2
          have y0 : wr.cell? ⟨NT, 0, none⟩ = some (.int .i64 0) := Go.Joins.cell_of_block kTr 0
          have y1 : wr.cell? ⟨NT, 1, none⟩ = some (.int .i64 0) := Go.Joins.cell_of_block kTr 1
          have y2 : wr.cell? ⟨NT, 2, none⟩ = some (.slice none 0 0) := Go.Joins.cell_of_block kTr 2
          have g0 : wr.frozen? ⟨NT, 0, none⟩ = false := Go.Joins.unfrozen_of_block kTr 0
          have g1 : wr.frozen? ⟨NT, 1, none⟩ = false := Go.Joins.unfrozen_of_block kTr 1
          have g2 : wr.frozen? ⟨NT, 2, none⟩ = false := Go.Joins.unfrozen_of_block kTr 2
          have HKx := hid kTr
          clear kTr
          go_wp2
          obtain ⟨W5, hW⟩ : ∃ W5, W5 = (((wr.setCell ⟨NT, 0, none⟩ (.int .i64 R)).setCell ⟨NT, 1, none⟩ (.int .i64 C)).setCell ⟨NT, 2, none⟩ (.slice (some ⟨b', 0, none⟩) n n)) := ⟨_, rfl⟩
          have q0 := (Go.Joins.block_setCell (i := 2) (Go.Joins.block_setCell (i := 1) (Go.Joins.block_setCell (i := 0) HKx.out (.int .i64 R)) (.int .i64 C)) (.slice (some ⟨b', 0, none⟩) n n))
          rw [← hW] at q0
          have z0 : W5.cell? ⟨NT, 0, none⟩ = some (.int .i64 R) := Go.Joins.cell_of_block q0 0
          have z1 : W5.cell? ⟨NT, 1, none⟩ = some (.int .i64 C) := Go.Joins.cell_of_block q0 1
          have z2 : W5.cell? ⟨NT, 2, none⟩ = some (.slice (some ⟨b', 0, none⟩) n n) := Go.Joins.cell_of_block q0 2
          have O5 := (own_set (own_set (own_set HO.out ⟨NT, 0, none⟩ (.int .i64 R) HNB.out) ⟨NT, 1, none⟩ (.int .i64 C) HNB.out) ⟨NT, 2, none⟩ (.slice (some ⟨b', 0, none⟩) n n) HNB.out)
          rw [← hW] at O5
          have B5 : Below w.heap.size w W5 := by
            have h1 := HNT.out
            rw [hW]
            exact ((HB.out.setCell (by simp; omega) _).setCell (by simp; omega) _).setCell (by simp; omega) _
          simp only [← hW]
          clear hW q0
          simp [bodyPost, results, Try.results60, go_sem, z0, z1, z2]
          exact ⟨by rw [← HZ1e.out]; exact O5, HLo.out, B5⟩

end Go.Proofs.Ytmbimekndhcgaaa.MtS
