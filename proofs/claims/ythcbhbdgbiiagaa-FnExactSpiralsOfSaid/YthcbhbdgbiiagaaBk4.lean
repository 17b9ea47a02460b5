/- The places of a block. -/
import Derived.Test.YthcbhbdgbiiagaaWnd
import Derived.Test.YthcbhbdgbiiagaaFNew
namespace Go.Proofs.Ythcbhbdgbiiagaa.Bk4
open Go.RowKit Go.Proofs.Ythcbhbdgbiiagaa.Rd Go.Proofs.Ythcbhbdgbiiagaa.Help Go.Proofs.Ythcbhbdgbiiagaa.Ring Go.Proofs.Ythcbhbdgbiiagaa.Small Go.Proofs.Ythcbhbdgbiiagaa.FVal Go.Proofs.Ythcbhbdgbiiagaa.Keep Go.Proofs.Ythcbhbdgbiiagaa.Rule Go.Proofs.Ythcbhbdgbiiagaa.Grow Go.Proofs.Ythcbhbdgbiiagaa.Wav Go.Proofs.Ythcbhbdgbiiagaa.Wnd
set_option linter.unusedVariables false
set_option linter.unusedSimpArgs false

theorem onIn {x m : Int} (h0 : 0 ≤ x) (h1 : x < m) (hm : m ≤ 1000) (ww : World) :
    Calls Try.prog 135 #[.int .i64 x, .int .i64 m] ww fun e w' => e = .returned (.int .i64 x) ∧ w' = ww := by
  have e : x % m = x := Int.emod_eq_of_lt h0 h1
  refine (Round.onRoundI (f := x) (m := m) (by omega) (by omega)).mono ?_
  rw [e]
  rintro e w' ⟨he, hw⟩
  exact ⟨he, hw.symm⟩
theorem wrapK {x : Int} (h1 : -9223372036854775808 ≤ x) (h2 : x ≤ 9223372036854775807) : IntKind.i64.wrap x = x := by
  rw [IntKind.wrap_i64]; have h := wrap_id h1 h2; unfold wrap64 at h; exact h

set_option maxHeartbeats 4000000 in
set_option maxRecDepth 8000 in
theorem blockAt {w : World} {R C i k : Nat} (hR : R ≤ 24) (hC : C ≤ 24) (hi : i + 1 < R) (hk : k + 1 < C) :
    Calls Try.prog 119 #[shapeV R C, .int .i64 i, .int .i64 k] w fun e w' => e = .returned (.agg #[.int .i64 ((i * C + k : Nat) : Int), .int .i64 ((i * C + k + 1 : Nat) : Int), .int .i64 ((i * C + k + C : Nat) : Int), .int .i64 ((i * C + k + C + 1 : Nat) : Int)]) ∧ Below w.heap.size w w' := by
  obtain ⟨_, e2⟩ := at_wrap hR hC hi hk
  obtain ⟨I1, hI1⟩ : ∃ I1, I1 = (i : Int) + 1 := ⟨_, rfl⟩
  obtain ⟨K1, hK1⟩ : ∃ K1, K1 = (k : Int) + 1 := ⟨_, rfl⟩
  obtain ⟨P, hP⟩ : ∃ P, P = i * C := ⟨_, rfl⟩
  have hp1 : (i : Int) * (C : Int) = (P : Int) := by rw [hP]; simp
  have hp2 : I1 * (C : Int) = ((P + C : Nat) : Int) := by rw [hI1, hP]; simp [Int.add_mul]
  rw [← hP] at e2 ⊢
  have Q1 : Hid (∀ ww, Calls Try.prog 135 #[.int .i64 i, .int .i64 R] ww fun e w' => e = .returned (.int .i64 i) ∧ w' = ww) := onIn (by omega) (by omega) (by omega)
  have Q2 : Hid (∀ ww, Calls Try.prog 135 #[.int .i64 I1, .int .i64 R] ww fun e w' => e = .returned (.int .i64 I1) ∧ w' = ww) := onIn (by omega) (by omega) (by omega)
  have Q3 : Hid (∀ ww, Calls Try.prog 135 #[.int .i64 k, .int .i64 C] ww fun e w' => e = .returned (.int .i64 k) ∧ w' = ww) := onIn (by omega) (by omega) (by omega)
  have Q4 : Hid (∀ ww, Calls Try.prog 135 #[.int .i64 K1, .int .i64 C] ww fun e w' => e = .returned (.int .i64 K1) ∧ w' = ww) := onIn (by omega) (by omega) (by omega)
  have hiw : IntKind.i64.wrap ((i : Int) + 1) = I1 := by rw [hI1]; exact wrapK (by omega) (by omega)
  have HKW : Hid (IntKind.i64.wrap ((k : Int) + 1) = K1) := by simp only [Hid]; rw [hK1]; exact wrapK (by omega) (by omega)
  have he1 : IntKind.i64.wrap ((i : Int) * (C : Int)) = (P : Int) := by rw [hp1]; exact wrapK (by omega) (by omega)
  have he3 : IntKind.i64.wrap (I1 * (C : Int)) = ((P + C : Nat) : Int) := by rw [hp2]; exact wrapK (by omega) (by omega)
  have ZZ : Hid (wrap64 ((P : Int) + k) = ((P + k : Nat) : Int) ∧ wrap64 ((P : Int) + K1) = ((P + k + 1 : Nat) : Int) ∧ wrap64 (((P + C : Nat) : Int) + k) = ((P + k + C : Nat) : Int) ∧ wrap64 (((P + C : Nat) : Int) + K1) = ((P + k + C + 1 : Nat) : Int)) := by
    rw [hK1]
    refine ⟨?_, ?_, ?_, ?_⟩
    · rw [show (P : Int) + (k : Int) = ((P + k : Nat) : Int) by omega]; exact wrap_id (by omega) (by omega)
    · rw [show (P : Int) + ((k : Int) + 1) = ((P + k + 1 : Nat) : Int) by omega]; exact wrap_id (by omega) (by omega)
    · rw [show ((P + C : Nat) : Int) + (k : Int) = ((P + k + C : Nat) : Int) by omega]; exact wrap_id (by omega) (by omega)
    · rw [show ((P + C : Nat) : Int) + ((k : Int) + 1) = ((P + k + C + 1 : Nat) : Int) by omega]; exact wrap_id (by omega) (by omega)
  obtain ⟨PC, hPC⟩ : ∃ PC, PC = ((P + C : Nat) : Int) := ⟨_, rfl⟩
  obtain ⟨a0, ha0⟩ : ∃ a0, a0 = ((P + k : Nat) : Int) := ⟨_, rfl⟩
  obtain ⟨a1, ha1⟩ : ∃ a1, a1 = ((P + k + 1 : Nat) : Int) := ⟨_, rfl⟩
  obtain ⟨a2, ha2⟩ : ∃ a2, a2 = ((P + k + C : Nat) : Int) := ⟨_, rfl⟩
  obtain ⟨a3, ha3⟩ : ∃ a3, a3 = ((P + k + C + 1 : Nat) : Int) := ⟨_, rfl⟩
  rw [← hPC] at he3
  rw [← hPC, ← ha0, ← ha1, ← ha2, ← ha3] at ZZ
  rw [← ha0, ← ha1, ← ha2, ← ha3]
  clear hP hI1 hK1 hp1 hp2 e2 hPC ha0 ha1 ha2 ha3
  go_enter Try.func119, Try.ntmps119
  go_wp2_with fail
  obtain ⟨w1, hW⟩ : ∃ w1, w1 = (w.alloc (Obj.cells #[.int .i64 (R : Int), .int .i64 (C : Int)] 113)).alloc (Obj.cells #[.int .i64 0, .int .i64 0, .int .i64 0, .int .i64 0] 133) := ⟨_, rfl⟩
  obtain ⟨N, hN⟩ : ∃ N, N = w.heap.size := ⟨_, rfl⟩
  obtain ⟨NT, hT⟩ : ∃ NT, NT = N + 1 := ⟨_, rfl⟩
  have bel1 : Below w.heap.size w w1 := by rw [hW]; exact Go.Joins.below_alloc2 _ _ _
  have s0 : w1.cell? ⟨N, 0, none⟩ = some (.int .i64 (R : Int)) := by rw [hW, hN]; simp
  have s1 : w1.cell? ⟨N, 1, none⟩ = some (.int .i64 (C : Int)) := by rw [hW, hN]; simp
  have kT : w1.heap[NT]? = some (Obj.cells #[.int .i64 0, .int .i64 0, .int .i64 0, .int .i64 0] 133) := by rw [hW]; exact FNew.heap_top (by rw [hT, hN]; simp)
  have HNT : Hid (w.heap.size ≤ NT) := by simp only [Hid]; omega
  have HB1 := hid bel1
  have HKT := hid kT
  simp only [← hW, ← hN, ← hT]
  clear hW hN hT bel1 kT
  go_quiet (first | (go_at_call_of 135 (Value.int IntKind.i64 (i : Int)); refine Calls.quiet_of_same (Q1.out _)) | (go_at_call 135; refine Calls.quiet_of_same (Q2.out _)))
  obtain ⟨w2, hw2'⟩ : ∃ w2, w2 = w1.drewN nq := ⟨_, rfl⟩
  have bel2 : Below w1.heap.size w1 w2 := by rw [hw2']; exact FSpec.below_drewN' _ _ _
  have HB2 := hid (HB1.out.trans (bel2.mono HB1.out.size))
  have HKT2 := hid ((bel2.block NT (Array.getElem?_eq_some_iff.1 HKT.out).1).trans HKT.out)
  replace s1 := cell_keep bel2 s1
  simp only [← hw2']
  clear hw2' bel2 s0 HB1 HKT hiw he1 he3
  have hkw := HKW.out
  go_wp2_with fail
  go_quiet (first | (go_at_call_of 135 (Value.int IntKind.i64 (k : Int)); refine Calls.quiet_of_same (Q3.out _)) | (go_at_call 135; refine Calls.quiet_of_same (Q4.out _)))
  obtain ⟨w3, hw3'⟩ : ∃ w3, w3 = w2.drewN nq := ⟨_, rfl⟩
  have bel3 : Below w2.heap.size w2 w3 := by rw [hw3']; exact FSpec.below_drewN' _ _ _
  have HB3 := hid (HB2.out.trans (bel3.mono HB2.out.size))
  have kT := (bel3.block NT (Array.getElem?_eq_some_iff.1 HKT2.out).1).trans HKT2.out
  simp only [← hw3']
  clear hw3' bel3 s1 HB2 HKT2
  have y0 : w3.cell? ⟨NT, 0, none⟩ = some (.int .i64 0) := Go.Joins.cell_of_block kT 0
  have y1 : w3.cell? ⟨NT, 1, none⟩ = some (.int .i64 0) := Go.Joins.cell_of_block kT 1
  have y2 : w3.cell? ⟨NT, 2, none⟩ = some (.int .i64 0) := Go.Joins.cell_of_block kT 2
  have y3 : w3.cell? ⟨NT, 3, none⟩ = some (.int .i64 0) := Go.Joins.cell_of_block kT 3
  have g0 : w3.frozen? ⟨NT, 0, none⟩ = false := Go.Joins.unfrozen_of_block kT 0
  have g1 : w3.frozen? ⟨NT, 1, none⟩ = false := Go.Joins.unfrozen_of_block kT 1
  have g2 : w3.frozen? ⟨NT, 2, none⟩ = false := Go.Joins.unfrozen_of_block kT 2
  have g3 : w3.frozen? ⟨NT, 3, none⟩ = false := Go.Joins.unfrozen_of_block kT 3
  have HK := hid kT
  obtain ⟨z1, z2, z3, z4⟩ := ZZ.out
  clear hkw
  clear kT
  go_wp2
  obtain ⟨W5, hW⟩ : ∃ W5, W5 = ((((w3.setCell ⟨NT, 0, none⟩ (.int .i64 a0)).setCell ⟨NT, 1, none⟩ (.int .i64 a1)).setCell ⟨NT, 2, none⟩ (.int .i64 a2)).setCell ⟨NT, 3, none⟩ (.int .i64 a3)) := ⟨_, rfl⟩
  have q0 := Go.Joins.block_setCell (i := 3) (Go.Joins.block_setCell (i := 2) (Go.Joins.block_setCell (i := 1) (Go.Joins.block_setCell (i := 0) HK.out (.int .i64 a0)) (.int .i64 a1)) (.int .i64 a2)) (.int .i64 a3)
  rw [← hW] at q0
  have x0 : W5.cell? ⟨NT, 0, none⟩ = some (.int .i64 a0) := Go.Joins.cell_of_block q0 0
  have x1 : W5.cell? ⟨NT, 1, none⟩ = some (.int .i64 a1) := Go.Joins.cell_of_block q0 1
  have x2 : W5.cell? ⟨NT, 2, none⟩ = some (.int .i64 a2) := Go.Joins.cell_of_block q0 2
  have x3 : W5.cell? ⟨NT, 3, none⟩ = some (.int .i64 a3) := Go.Joins.cell_of_block q0 3
  have B5 : Below w.heap.size w W5 := by
    rw [hW]
    exact (((HB3.out.setCell (p := ⟨NT, 0, none⟩) HNT.out _).setCell (p := ⟨NT, 1, none⟩) HNT.out _).setCell (p := ⟨NT, 2, none⟩) HNT.out _).setCell (p := ⟨NT, 3, none⟩) HNT.out _
  simp only [← hW]
  clear hW q0
  simp [bodyPost, results, Try.results119, go_sem, x0, x1, x2, x3]
  exact B5

end Go.Proofs.Ythcbhbdgbiiagaa.Bk4
