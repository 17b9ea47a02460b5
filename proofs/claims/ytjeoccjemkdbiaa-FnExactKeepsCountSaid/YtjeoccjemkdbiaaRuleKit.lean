/- The helpers of the laws over rules: szRule, toRule, eqRule, markRule, heldRule. -/
import Derived.Test.YtjeoccjemkdbiaaRule
import Derived.Test.YtjeoccjemkdbiaaKit0
namespace Go.Proofs.Ytjeoccjemkdbiaa.Help
open Go.RowKit Go.Proofs.Ytjeoccjemkdbiaa.Rd Go.Proofs.Ytjeoccjemkdbiaa.Keep Go.Proofs.Ytjeoccjemkdbiaa.Rule
set_option linter.unusedVariables false
set_option linter.unusedSimpArgs false

theorem szR {w : World} {s r : Int} {ao : Option Addr} {n cap : Nat} {q : Int} (hn : n ≤ 9223372036854775807) (h0 : 0 ≤ q) (hq : q ≤ 1048576) :
    Calls Try.prog 8 #[ruleV s r (.slice ao n cap), .int .i64 q] w fun e w' => e = .returned (.int .i64 (if (n : Int) ≤ q then q - n else -1)) ∧ Below w.heap.size w w' := by
  by_cases h : (n : Int) ≤ q
  · have HE : Hid ((if (n : Int) ≤ q then q - n else -1) = q - n) := if_pos h
    rw [if_pos h]
    have h1 : decide (q - (n : Int) < 0) = false := by simp; omega
    go_enter Try.func8, Try.ntmps8
    go_wp2_with fail
    go_at_call 23
    refine (szS hn h0 hq).mono ?_
    rw [HE.out]
    rintro e w' ⟨rfl, rfl⟩
    go_wp2
    go_ret
    exact ⟨rfl, below1 _ _⟩
  · have HE : Hid ((if (n : Int) ≤ q then q - n else -1) = -1) := if_neg h
    rw [if_neg h]
    go_enter Try.func8, Try.ntmps8
    go_wp2_with fail
    go_at_call 23
    refine (szS hn h0 hq).mono ?_
    rw [HE.out]
    rintro e w' ⟨rfl, rfl⟩
    go_wp2
    go_ret
    exact ⟨rfl, below1 _ _⟩

set_option maxHeartbeats 1000000 in
theorem toR {w : World} {s r : Int} {b : Nat} {v : Value} {zs : List Int} (h : Rd w b v zs) (hl : zs.length ≤ 1048576) :
    Calls Try.prog 10 #[ruleV s r v] w fun e w' => ∃ b', e = .returned (ruleV s r (.slice (some ⟨b', 0, none⟩) zs.length zs.length)) ∧
      Own 2 w' b' (.slice (some ⟨b', 0, none⟩) zs.length zs.length) zs ∧ w.heap.size ≤ b' ∧ Below w.heap.size w w' := by
  have HH := hid h
  have HL := hid hl
  obtain ⟨ao, cap, rfl, _, _, _⟩ := h
  clear hl
  go_enter Try.func10, Try.ntmps10
  go_wp2_with fail
  obtain ⟨W3, hW⟩ : ∃ W3, W3 = (((w.alloc (Obj.cells #[Value.int IntKind.i64 s, Value.int IntKind.i64 r, Value.slice ao zs.length cap] 24)).alloc (Obj.cells #[Value.int IntKind.i64 0, Value.int IntKind.i64 0, Value.slice none 0 0] 28)).alloc (Obj.cells #[Value.int IntKind.i64 s, Value.int IntKind.i64 r, Value.slice none 0 0] 28)) := ⟨_, rfl⟩
  have B3 : Below w.heap.size w W3 := by rw [hW]; exact Go.Joins.below_alloc3 _ _ _ _
  have hz : W3.heap.size = w.heap.size + 1 + 1 + 1 := by rw [hW]; simp
  have k2 : W3.heap[w.heap.size + 1 + 1]? = some (Obj.cells #[Value.int IntKind.i64 s, Value.int IntKind.i64 r, Value.slice none 0 0] 28) := by
    rw [hW]
    have := heap_alloc_new ((w.alloc (Obj.cells #[Value.int IntKind.i64 s, Value.int IntKind.i64 r, Value.slice ao zs.length cap] 24)).alloc (Obj.cells #[Value.int IntKind.i64 0, Value.int IntKind.i64 0, Value.slice none 0 0] 28)) (Obj.cells #[Value.int IntKind.i64 s, Value.int IntKind.i64 r, Value.slice none 0 0] 28)
    simpa using this
  have k1 : W3.heap[w.heap.size + 1]? = some (Obj.cells #[Value.int IntKind.i64 0, Value.int IntKind.i64 0, Value.slice none 0 0] 28) := by
    rw [hW, Below.heap_alloc _ _ _ (by simp)]
    have := heap_alloc_new (w.alloc (Obj.cells #[Value.int IntKind.i64 s, Value.int IntKind.i64 r, Value.slice ao zs.length cap] 24)) (Obj.cells #[Value.int IntKind.i64 0, Value.int IntKind.i64 0, Value.slice none 0 0] 28)
    simpa using this
  simp only [← hW]
  clear hW
  go_at_call 11
  refine (toS (HH.out.keep B3 (Nat.le_refl _)) HL.out).mono ?_
  rintro e w4 ⟨rfl, own, bel⟩
  obtain ⟨v', hv'⟩ : ∃ v', v' = Value.slice (some ⟨W3.heap.size, 0, none⟩) zs.length zs.length := ⟨_, rfl⟩
  have l1 : w.heap.size + 1 + 1 < W3.heap.size := by omega
  have l2 : w.heap.size + 1 < W3.heap.size := by omega
  replace k2 := (bel.block _ l1).trans k2
  replace k1 := (bel.block _ l2).trans k1
  have x0 : w4.cell? ⟨w.heap.size + 1 + 1, 0, none⟩ = some (.int .i64 s) := Go.Joins.cell_of_block k2 0
  have x1 : w4.cell? ⟨w.heap.size + 1 + 1, 1, none⟩ = some (.int .i64 r) := Go.Joins.cell_of_block k2 1
  have x2 : w4.cell? ⟨w.heap.size + 1 + 1, 2, none⟩ = some (.slice none 0 0) := Go.Joins.cell_of_block k2 2
  have f2 : w4.frozen? ⟨w.heap.size + 1 + 1, 2, none⟩ = false := Go.Joins.unfrozen_of_block k2 2
  have y0 : w4.cell? ⟨w.heap.size + 1, 0, none⟩ = some (.int .i64 0) := Go.Joins.cell_of_block k1 0
  have y1 : w4.cell? ⟨w.heap.size + 1, 1, none⟩ = some (.int .i64 0) := Go.Joins.cell_of_block k1 1
  have y2 : w4.cell? ⟨w.heap.size + 1, 2, none⟩ = some (.slice none 0 0) := Go.Joins.cell_of_block k1 2
  have g0 : w4.frozen? ⟨w.heap.size + 1, 0, none⟩ = false := Go.Joins.unfrozen_of_block k1 0
  have g1 : w4.frozen? ⟨w.heap.size + 1, 1, none⟩ = false := Go.Joins.unfrozen_of_block k1 1
  have g2 : w4.frozen? ⟨w.heap.size + 1, 2, none⟩ = false := Go.Joins.unfrozen_of_block k1 2
  have HK := hid k1
  have HO := hid own
  have HZ := hid hz
  have HB := hid (B3.trans (bel.mono B3.size))
  clear own hz bel B3 l1 l2 hv' k1 k2
  go_wp2
  obtain ⟨W5, hW⟩ : ∃ W5, W5 = ((((w4.setCell { block := w.heap.size + 1 + 1, off := 2 } (Value.slice (some { block := W3.heap.size, off := 0 }) zs.length zs.length)).setCell { block := w.heap.size + 1, off := 0 } (Value.int IntKind.i64 s)).setCell { block := w.heap.size + 1, off := 1 } (Value.int IntKind.i64 r)).setCell { block := w.heap.size + 1, off := 2 } (Value.slice (some { block := W3.heap.size, off := 0 }) zs.length zs.length)) := ⟨_, rfl⟩
  have q0 := Go.Joins.block_setCell (Go.Joins.block_setCell (Go.Joins.block_setCell (i := 0) ((Below.heap_setCell w4 { block := w.heap.size + 1 + 1, off := 2 } (Value.slice (some { block := W3.heap.size, off := 0 }) zs.length zs.length) (w.heap.size + 1) (by simp)).trans HK.out) (Value.int IntKind.i64 s)) (i := 1) (Value.int IntKind.i64 r)) (i := 2) (Value.slice (some { block := W3.heap.size, off := 0 }) zs.length zs.length)
  rw [← hW] at q0
  have z0 : W5.cell? ⟨w.heap.size + 1, 0, none⟩ = some (.int .i64 s) := Go.Joins.cell_of_block q0 0
  have z1 : W5.cell? ⟨w.heap.size + 1, 1, none⟩ = some (.int .i64 r) := Go.Joins.cell_of_block q0 1
  have z2 : W5.cell? ⟨w.heap.size + 1, 2, none⟩ = some (Value.slice (some { block := W3.heap.size, off := 0 }) zs.length zs.length) := Go.Joins.cell_of_block q0 2
  have O5 : Own 2 W5 W3.heap.size (Value.slice (some { block := W3.heap.size, off := 0 }) zs.length zs.length) zs := by
    have hz := HZ.out
    rw [hW]
    exact own_set (own_set (own_set (own_set HO.out _ _ (by simp; omega)) _ _ (by simp; omega)) _ _ (by simp; omega)) _ _ (by simp; omega)
  have B5 : Below w.heap.size w W5 := by
    rw [hW]
    exact (((HB.out.setCell (by simp; omega) _).setCell (by simp) _).setCell (by simp) _).setCell (by simp) _
  simp only [← hW]
  clear hW q0
  simp [bodyPost, results, Try.results10, go_sem, z0, z1, z2]
  exact ⟨O5, by have := HZ.out; omega, B5⟩

set_option maxHeartbeats 1000000 in
theorem eqR {w : World} {s r : Int} {b1 b2 : Nat} {v1 v2 : Value} {zs : List Int} (h1 : Rd w b1 v1 zs) (h2 : Rd w b2 v2 zs) :
    Calls Try.prog 13 #[ruleV s r v1, ruleV s r v2] w fun e w' => e = .returned (.bool true) ∧ Below w.heap.size w w' := by
  have HH1 := hid h1
  have HH2 := hid h2
  obtain ⟨ao1, cap1, rfl, _, _, _⟩ := h1
  obtain ⟨ao2, cap2, rfl, _, _, _⟩ := h2
  go_enter Try.func13, Try.ntmps13
  go_wp2_with fail
  obtain ⟨W2, hW⟩ : ∃ W2, W2 = (w.alloc (Obj.cells #[Value.int IntKind.i64 s, Value.int IntKind.i64 r, Value.slice ao1 zs.length cap1] 28)).alloc (Obj.cells #[Value.int IntKind.i64 s, Value.int IntKind.i64 r, Value.slice ao2 zs.length cap2] 28) := ⟨_, rfl⟩
  have B2 : Below w.heap.size w W2 := by rw [hW]; exact Go.Joins.below_alloc2 _ _ _
  simp only [← hW]
  clear hW
  go_at_call 14
  refine (eqB (HH1.out.keep B2 (Nat.le_refl _)) (HH2.out.keep B2 (Nat.le_refl _))).mono ?_
  rintro e w4 ⟨rfl, bel⟩
  go_wp2
  go_ret
  exact ⟨rfl, B2.trans (bel.mono B2.size)⟩

end Go.Proofs.Ytjeoccjemkdbiaa.Help
