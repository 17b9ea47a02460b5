/- TotalRule: the side of the document. -/
import Derived.Test.YtiijabiijkdhcaaGive
import Derived.Test.YtiijabiijkdhcaaTot
import Derived.Test.YtiijabiijkdhcaaWeigh
import Derived.Test.YtiijabiijkdhcaaSumLaw
namespace Go.Proofs.Ytiijabiijkdhcaa.TotS
open Go.RowKit Go.Proofs.Ytiijabiijkdhcaa.Rd Go.Proofs.Ytiijabiijkdhcaa.Help Go.Proofs.Ytiijabiijkdhcaa.App Go.Proofs.Ytiijabiijkdhcaa.Ring Go.Proofs.Ytiijabiijkdhcaa.Small Go.Proofs.Ytiijabiijkdhcaa.Num Go.Proofs.Ytiijabiijkdhcaa.Keep Go.Proofs.Ytiijabiijkdhcaa.Rule Go.Proofs.Ytiijabiijkdhcaa.Dig Go.Proofs.Ytiijabiijkdhcaa.DigP Go.Proofs.Ytiijabiijkdhcaa.Tell Go.Proofs.Ytiijabiijkdhcaa.Weigh Go.Proofs.Ytiijabiijkdhcaa.Give
set_option linter.unusedVariables false
set_option linter.unusedSimpArgs false

/-- What the rule of sums tells. -/
def totT (s : Int) (told : List Int) (L : Nat) (k : Nat) : Int := told.getD (sumL (dig s k L)).toNat 0

theorem nextg1_0 {N : Nat} {w0 w w' : World} {p0 : Addr} {c0 : Value} {row : Option Nat} (g : w.grownBy w' row) (bel : Below N w w') (h0 : some p0.block ≠ row)
    (h : Below N w0 w ∧ w.cell? p0 = some c0 ∧ N ≤ w.heap.size) : Below N w0 w' ∧ w'.cell? p0 = some c0 ∧ N ≤ w'.heap.size := by
  obtain ⟨a0, a1, a6⟩ := h
  exact ⟨a0.trans bel, (World.cell?_of_block (w := w) (g.block _ (World.block_lt_of_cell? _ _ a1) h0)).trans a1, Nat.le_trans a6 g.size⟩


set_option maxHeartbeats 4000000 in
theorem specNoA {w : World} {s r : Int} {bt : Nat} {vt : Value} {told : List Int} (h : Rd w bt vt told) (hs : ¬ (2 ≤ s ∧ s ≤ 3)) :
    Calls Try.prog 23 #[.int .i64 s, .int .i64 r, vt] w fun e w' => e = .returned (.tuple #[ruleV 0 0 (.slice none 0 0), .bool false]) ∧ Below w.heap.size w w' := by
  obtain ⟨ao, cap, rfl, _, hm, _⟩ := h
  have hn : told.length ≤ 9223372036854775807 := by unfold maxLen at hm; omega
  clear hm
  have HIN : Hid (decide (2 ≤ s ∧ s ≤ 3) = false) := decide_eq_false hs
  clear hs
  go_enter Try.func23, Try.ntmps23
  go_wp2_with fail
  obtain ⟨w1, hW⟩ : ∃ w1, w1 = w.alloc (Obj.cells #[Value.int IntKind.i64 0, Value.int IntKind.i64 0, Value.slice none 0 0] 24) := ⟨_, rfl⟩
  obtain ⟨NT, hN⟩ : ∃ NT, NT = w.heap.size := ⟨_, rfl⟩
  have b1 : Below w.heap.size w w1 := by rw [hW]; exact below1 _ _
  have kb : w1.heap[NT]? = some (Obj.cells #[.int .i64 0, .int .i64 0, .slice none 0 0] 24) := by rw [hW]; exact heap_top hN
  have HNT : Hid (w.heap.size ≤ NT) := by simp only [Hid]; omega
  have HB := hid b1
  have HKB := hid kb
  simp only [← hW, ← hN]
  clear hW hN b1 kb
  go_at_call 57
  refine (SumLaw.quietIn HIN.out).mono ?_
  rintro e w' ⟨rfl, hw'⟩
  subst hw'
  have kb4 := HKB.out
  have y0 : w'.cell? ⟨NT, 0, none⟩ = some (.int .i64 0) := Go.Joins.cell_of_block kb4 0
  have y1 : w'.cell? ⟨NT, 1, none⟩ = some (.int .i64 0) := Go.Joins.cell_of_block kb4 1
  have y2 : w'.cell? ⟨NT, 2, none⟩ = some (.slice none 0 0) := Go.Joins.cell_of_block kb4 2
  have g0 : w'.frozen? ⟨NT, 0, none⟩ = false := Go.Joins.unfrozen_of_block kb4 0
  have g1 : w'.frozen? ⟨NT, 1, none⟩ = false := Go.Joins.unfrozen_of_block kb4 1
  have g2 : w'.frozen? ⟨NT, 2, none⟩ = false := Go.Joins.unfrozen_of_block kb4 2
  have HKx := hid kb4
  clear kb4
  go_wp2
  obtain ⟨W5, hW⟩ : ∃ W5, W5 = (((w'.setCell ⟨NT, 0, none⟩ (.int .i64 0)).setCell ⟨NT, 1, none⟩ (.int .i64 0)).setCell ⟨NT, 2, none⟩ (.slice none 0 0)) := ⟨_, rfl⟩
  have q0 := (Go.Joins.block_setCell (i := 2) (Go.Joins.block_setCell (i := 1) (Go.Joins.block_setCell (i := 0) HKx.out (.int .i64 0)) (.int .i64 0)) (.slice none 0 0))
  rw [← hW] at q0
  have z0 : W5.cell? ⟨NT, 0, none⟩ = some (.int .i64 0) := Go.Joins.cell_of_block q0 0
  have z1 : W5.cell? ⟨NT, 1, none⟩ = some (.int .i64 0) := Go.Joins.cell_of_block q0 1
  have z2 : W5.cell? ⟨NT, 2, none⟩ = some (.slice none 0 0) := Go.Joins.cell_of_block q0 2
  have B5 : Below w.heap.size w W5 := by
    have h1 := HNT.out
    rw [hW]
    exact ((HB.out.setCell (by simp; omega) _).setCell (by simp; omega) _).setCell (by simp; omega) _
  simp only [← hW]
  clear hW q0
  simp [bodyPost, results, Try.results23, go_sem, z0, z1, z2]
  exact B5

set_option maxHeartbeats 4000000 in
theorem specNoB {w : World} {s r : Int} {bt : Nat} {vt : Value} {told : List Int} (h : Rd w bt vt told) (hs : 2 ≤ s ∧ s ≤ 3) (hr : ¬ (0 ≤ r ∧ r ≤ 2)) :
    Calls Try.prog 23 #[.int .i64 s, .int .i64 r, vt] w fun e w' => e = .returned (.tuple #[ruleV 0 0 (.slice none 0 0), .bool false]) ∧ Below w.heap.size w w' := by
  obtain ⟨ao, cap, rfl, _, hm, _⟩ := h
  have hn : told.length ≤ 9223372036854775807 := by unfold maxLen at hm; omega
  clear hm
  have HIN : Hid (decide (2 ≤ s ∧ s ≤ 3) = true) := decide_eq_true hs
  have HIN2 : Hid (decide (0 ≤ r ∧ r ≤ 2) = false) := decide_eq_false hr
  clear hs hr
  go_enter Try.func23, Try.ntmps23
  go_wp2_with fail
  obtain ⟨w1, hW⟩ : ∃ w1, w1 = w.alloc (Obj.cells #[Value.int IntKind.i64 0, Value.int IntKind.i64 0, Value.slice none 0 0] 24) := ⟨_, rfl⟩
  obtain ⟨NT, hN⟩ : ∃ NT, NT = w.heap.size := ⟨_, rfl⟩
  have b1 : Below w.heap.size w w1 := by rw [hW]; exact below1 _ _
  have kb : w1.heap[NT]? = some (Obj.cells #[.int .i64 0, .int .i64 0, .slice none 0 0] 24) := by rw [hW]; exact heap_top hN
  have HNT : Hid (w.heap.size ≤ NT) := by simp only [Hid]; omega
  have HB := hid b1
  have HKB := hid kb
  simp only [← hW, ← hN]
  clear hW hN b1 kb
  go_at_call 57
  refine (SumLaw.quietIn HIN.out).mono ?_
  rintro e w' ⟨rfl, hw'⟩
  subst hw'
  go_wp2_with fail
  go_at_call 57
  refine (SumLaw.quietIn HIN2.out).mono ?_
  rintro e w'' ⟨rfl, hw'⟩
  subst hw'
  have kb4 := HKB.out
  have y0 : w''.cell? ⟨NT, 0, none⟩ = some (.int .i64 0) := Go.Joins.cell_of_block kb4 0
  have y1 : w''.cell? ⟨NT, 1, none⟩ = some (.int .i64 0) := Go.Joins.cell_of_block kb4 1
  have y2 : w''.cell? ⟨NT, 2, none⟩ = some (.slice none 0 0) := Go.Joins.cell_of_block kb4 2
  have g0 : w''.frozen? ⟨NT, 0, none⟩ = false := Go.Joins.unfrozen_of_block kb4 0
  have g1 : w''.frozen? ⟨NT, 1, none⟩ = false := Go.Joins.unfrozen_of_block kb4 1
  have g2 : w''.frozen? ⟨NT, 2, none⟩ = false := Go.Joins.unfrozen_of_block kb4 2
  have HKx := hid kb4
  clear kb4
  go_wp2
  obtain ⟨W5, hW⟩ : ∃ W5, W5 = (((w''.setCell ⟨NT, 0, none⟩ (.int .i64 0)).setCell ⟨NT, 1, none⟩ (.int .i64 0)).setCell ⟨NT, 2, none⟩ (.slice none 0 0)) := ⟨_, rfl⟩
  have q0 := (Go.Joins.block_setCell (i := 2) (Go.Joins.block_setCell (i := 1) (Go.Joins.block_setCell (i := 0) HKx.out (.int .i64 0)) (.int .i64 0)) (.slice none 0 0))
  rw [← hW] at q0
  have z0 : W5.cell? ⟨NT, 0, none⟩ = some (.int .i64 0) := Go.Joins.cell_of_block q0 0
  have z1 : W5.cell? ⟨NT, 1, none⟩ = some (.int .i64 0) := Go.Joins.cell_of_block q0 1
  have z2 : W5.cell? ⟨NT, 2, none⟩ = some (.slice none 0 0) := Go.Joins.cell_of_block q0 2
  have B5 : Below w.heap.size w W5 := by
    have h1 := HNT.out
    rw [hW]
    exact ((HB.out.setCell (by simp; omega) _).setCell (by simp; omega) _).setCell (by simp; omega) _
  simp only [← hW]
  clear hW q0
  simp [bodyPost, results, Try.results23, go_sem, z0, z1, z2]
  exact B5

set_option maxHeartbeats 4000000 in
theorem specNoC {w : World} {s r : Int} {bt : Nat} {vt : Value} {told : List Int} (h : Rd w bt vt told) (hs : 2 ≤ s ∧ s ≤ 3) (hr : 0 ≤ r ∧ r ≤ 2) (hl : ¬ (told.length : Int) = (2 * r + 1) * (s - 1) + 1) :
    Calls Try.prog 23 #[.int .i64 s, .int .i64 r, vt] w fun e w' => e = .returned (.tuple #[ruleV 0 0 (.slice none 0 0), .bool false]) ∧ Below w.heap.size w w' := by
  obtain ⟨ao, cap, rfl, _, hm, _⟩ := h
  have hn : told.length ≤ 9223372036854775807 := by unfold maxLen at hm; omega
  clear hm
  have HIN : Hid (decide (2 ≤ s ∧ s ≤ 3) = true) := decide_eq_true hs
  have HIN2 : Hid (decide (0 ≤ r ∧ r ≤ 2) = true) := decide_eq_true hr
  obtain ⟨s1, s2⟩ := hs
  obtain ⟨r1, r2⟩ := hr
  obtain ⟨D, hD⟩ : ∃ D : Int, D = (2 * r + 1) * (s - 1) := ⟨_, rfl⟩
  have hDb : 1 ≤ D ∧ D ≤ 10 := by rcases (show s = 2 ∨ s = 3 by omega) with rfl | rfl <;> omega
  have e1 : IntKind.i64.wrap (s - 1) = s - 1 := by rw [IntKind.wrap_i64]; omega
  have e2 : IntKind.i64.wrap ((2 * r + 1) * (s - 1)) = D := by rw [IntKind.wrap_i64, ← hD]; omega
  have e3 : IntKind.i64.wrap (D + 1) = D + 1 := by rw [IntKind.wrap_i64]; omega
  have hne : ((told.length : Int) != (D + 1)) = true := by rw [hD]; simpa using hl
  clear hl hD hDb
  go_enter Try.func23, Try.ntmps23
  go_wp2_with fail
  obtain ⟨w1, hW⟩ : ∃ w1, w1 = w.alloc (Obj.cells #[Value.int IntKind.i64 0, Value.int IntKind.i64 0, Value.slice none 0 0] 24) := ⟨_, rfl⟩
  obtain ⟨NT, hN⟩ : ∃ NT, NT = w.heap.size := ⟨_, rfl⟩
  have b1 : Below w.heap.size w w1 := by rw [hW]; exact below1 _ _
  have kb : w1.heap[NT]? = some (Obj.cells #[.int .i64 0, .int .i64 0, .slice none 0 0] 24) := by rw [hW]; exact heap_top hN
  have HNT : Hid (w.heap.size ≤ NT) := by simp only [Hid]; omega
  have HB := hid b1
  have HKB := hid kb
  simp only [← hW, ← hN]
  clear hW hN b1 kb
  go_at_call 57
  refine (SumLaw.quietIn HIN.out).mono ?_
  rintro e w' ⟨rfl, hw'⟩
  subst hw'
  go_wp2_with fail
  go_at_call 57
  refine (SumLaw.quietIn HIN2.out).mono ?_
  rintro e w'' ⟨rfl, hw'⟩
  subst hw'
  have kb4 := HKB.out
  have y0 : w''.cell? ⟨NT, 0, none⟩ = some (.int .i64 0) := Go.Joins.cell_of_block kb4 0
  have y1 : w''.cell? ⟨NT, 1, none⟩ = some (.int .i64 0) := Go.Joins.cell_of_block kb4 1
  have y2 : w''.cell? ⟨NT, 2, none⟩ = some (.slice none 0 0) := Go.Joins.cell_of_block kb4 2
  have g0 : w''.frozen? ⟨NT, 0, none⟩ = false := Go.Joins.unfrozen_of_block kb4 0
  have g1 : w''.frozen? ⟨NT, 1, none⟩ = false := Go.Joins.unfrozen_of_block kb4 1
  have g2 : w''.frozen? ⟨NT, 2, none⟩ = false := Go.Joins.unfrozen_of_block kb4 2
  have HKx := hid kb4
  clear kb4
  go_wp2
  obtain ⟨W5, hW⟩ : ∃ W5, W5 = (((w''.setCell ⟨NT, 0, none⟩ (.int .i64 0)).setCell ⟨NT, 1, none⟩ (.int .i64 0)).setCell ⟨NT, 2, none⟩ (.slice none 0 0)) := ⟨_, rfl⟩
  have q0 := (Go.Joins.block_setCell (i := 2) (Go.Joins.block_setCell (i := 1) (Go.Joins.block_setCell (i := 0) HKx.out (.int .i64 0)) (.int .i64 0)) (.slice none 0 0))
  rw [← hW] at q0
  have z0 : W5.cell? ⟨NT, 0, none⟩ = some (.int .i64 0) := Go.Joins.cell_of_block q0 0
  have z1 : W5.cell? ⟨NT, 1, none⟩ = some (.int .i64 0) := Go.Joins.cell_of_block q0 1
  have z2 : W5.cell? ⟨NT, 2, none⟩ = some (.slice none 0 0) := Go.Joins.cell_of_block q0 2
  have B5 : Below w.heap.size w W5 := by
    have h1 := HNT.out
    rw [hW]
    exact ((HB.out.setCell (by simp; omega) _).setCell (by simp; omega) _).setCell (by simp; omega) _
  simp only [← hW]
  clear hW q0
  simp [bodyPost, results, Try.results23, go_sem, z0, z1, z2]
  exact B5

set_option maxHeartbeats 16000000 in
theorem specOk {w : World} {s r : Int} {L M n bt : Nat} {vt : Value} {told : List Int} (hn : n = told.length) (h : Rd w bt vt told) (hs : 2 ≤ s ∧ s ≤ 3) (hr : 0 ≤ r ∧ r ≤ 2) (hL : (L : Int) = 2 * r + 1) (hM : (M : Int) = s ^ L) (hl : (told.length : Int) = (2 * r + 1) * (s - 1) + 1) (hv : validB s r (tab (totT s told L) M) = true) :
    Calls Try.prog 23 #[.int .i64 s, .int .i64 r, vt] w fun e w' => ∃ v' b', e = .returned (.tuple #[ruleV s r v', .bool true]) ∧
      Own 2 w' b' v' (tab (totT s told L) M) ∧ w.heap.size ≤ b' ∧ Below w.heap.size w w' := by
  have HV := hid hv
  have HS := hid hs
  have HIN : Hid (decide (2 ≤ s ∧ s ≤ 3) = true) := decide_eq_true hs
  have HIN2 : Hid (decide (0 ≤ r ∧ r ≤ 2) = true) := decide_eq_true hr
  have HM := hid hM
  have HLr : Hid (2 * r + 1 = (L : Int)) := hL.symm
  have HL5 : Hid (1 ≤ L ∧ L ≤ 5) := by simp only [Hid]; omega
  have hM2 : 1 ≤ M ∧ M ≤ 243 := by have := pow_bd hs (show L ≤ 5 by omega); omega
  obtain ⟨m1, m2⟩ := hM2
  have HSum : Hid (∀ m : Nat, 0 ≤ sumL (dig s m L) ∧ sumL (dig s m L) < n) := by
    intro m
    have h1 := sumL_bd hs (dig_all hs (m : Int) L)
    rw [dig_length] at h1
    rw [hn, hl, ← hL]; omega
  obtain ⟨ao, cap, rfl, _, _, h4⟩ := h
  obtain ⟨off, rfl, hb, hcell⟩ := h4 (by have := HSum.out 0; omega)
  rw [← hn] at hcell
  have HC := hid hcell
  have HBt := hid hb
  obtain ⟨s1, s2⟩ := hs
  obtain ⟨r1, r2⟩ := hr
  obtain ⟨D, hD⟩ : ∃ D : Int, D = (L : Int) * (s - 1) := ⟨_, rfl⟩
  have hDb : 1 ≤ D ∧ D ≤ 10 := by rcases (show s = 2 ∨ s = 3 by omega) with rfl | rfl <;> omega
  have e1 : IntKind.i64.wrap (s - 1) = s - 1 := by rw [IntKind.wrap_i64]; omega
  have e2 : IntKind.i64.wrap ((L : Int) * (s - 1)) = D := by rw [IntKind.wrap_i64, ← hD]; omega
  have e3 : IntKind.i64.wrap (D + 1) = D + 1 := by rw [IntKind.wrap_i64]; omega
  have hne : ((n : Int) != (D + 1)) = false := by rw [hn, hl, ← hL, ← hD]; simp
  rw [← hn]
  clear hv hl h4 hcell hb hn hM hL hD hDb
  go_enter Try.func23, Try.ntmps23
  go_wp2_with fail
  obtain ⟨w1, hW⟩ : ∃ w1, w1 = w.alloc (Obj.cells #[Value.int IntKind.i64 0, Value.int IntKind.i64 0, Value.slice none 0 0] 24) := ⟨_, rfl⟩
  obtain ⟨NT, hN⟩ : ∃ NT, NT = w.heap.size := ⟨_, rfl⟩
  have b1 : Below w.heap.size w w1 := by rw [hW]; exact below1 _ _
  have kb : w1.heap[NT]? = some (Obj.cells #[.int .i64 0, .int .i64 0, .slice none 0 0] 24) := by rw [hW]; exact heap_top hN
  have HNT : Hid (w.heap.size ≤ NT) := by simp only [Hid]; omega
  have HB := hid b1
  have HKB := hid kb
  simp only [← hW, ← hN]
  clear hW hN b1 kb
  go_at_call 57
  refine (SumLaw.quietIn HIN.out).mono ?_
  rintro e w' ⟨rfl, hw'⟩
  subst hw'
  go_wp2_with fail
  go_at_call 57
  refine (SumLaw.quietIn HIN2.out).mono ?_
  rintro e w'' ⟨rfl, hw'⟩
  subst hw'
  have hLr := HLr.out
  go_wp2
  obtain ⟨w3, hW⟩ : ∃ w3, w3 = w''.alloc (Obj.cells #[Value.int IntKind.i64 s, Value.int IntKind.i64 r, Value.slice none 0 0] 24) := ⟨_, rfl⟩
  obtain ⟨NO, hN⟩ : ∃ NO, NO = w''.heap.size := ⟨_, rfl⟩
  have HTO : Hid (NT < NO) := by simp only [Hid]; rw [hN]; exact (Array.getElem?_eq_some_iff.1 HKB.out).1
  have kT : w3.heap[NT]? = some (Obj.cells #[.int .i64 0, .int .i64 0, .slice none 0 0] 24) := by rw [hW]; exact heap_old HKB.out
  have kO : w3.heap[NO]? = some (Obj.cells #[.int .i64 s, .int .i64 r, .slice none 0 0] 24) := by rw [hW]; exact heap_top hN
  have b3 : Below w.heap.size w w3 := by rw [hW]; exact HB.out.trans ((below1 _ _).mono HB.out.size)
  have HNO : Hid (w.heap.size ≤ NO) := by have := HTO.out; have := HNT.out; simp only [Hid]; omega
  simp only [← hW, ← hN]
  clear hW hN hne
  go_loopw [10] (fun t wr => ∃ m : Nat, m ≤ M ∧ t = .int .i64 m ∧ Below w.heap.size w wr ∧ wr.heap[NT]? = some (Obj.cells #[.int .i64 0, .int .i64 0, .slice none 0 0] 24) ∧
    ∃ ao5 c5, wr.heap[NO]? = some (Obj.cells #[.int .i64 s, .int .i64 r, .slice ao5 m c5] 24) ∧
      wr.ownsRow (NO + 1) 2 1 (.slice ao5 m c5) (tab (totT s told L) m).length ((tab (totT s told L) m).map (Value.int .i64))) (fun t _ => M - (intOf t).toNat)
  case atStart => exact ⟨0, Nat.zero_le _, rfl, b3, kT, none, 0, kO, World.ownsRow_nil w3 (NO + 1) 2 1⟩
  case round =>
    clear b3 kT kO
    obtain ⟨m, hm, rfl, bel0, kT, ao5, c5, kO, hR⟩ := hrel
    have hpw := (specPower (w := wr) (st := s) (k := L) HS.out (by have := HL5.out; omega)).mono (R' := fun e w' => e = .returned (.int .i64 M) ∧ wr = w') (by rintro e w' ⟨rfl, rfl⟩; exact ⟨by rw [← HM.out], rfl⟩)
    by_cases hlt : m < M
    · have hmi : (m : Int) < (M : Int) := by omega
      have HB0 := hid bel0
      have HkT := hid kT
      have HkO := hid kO
      have HhR := hid hR
      clear bel0 kT kO hR
      go_wp2_with fail
      go_at_call 62
      refine hpw.mono ?_
      clear hpw
      rintro e w' ⟨rfl, hw'⟩
      subst hw'
      obtain ⟨mi, hmm⟩ : ∃ mi : Nat, sumL (dig s m L) = mi := ⟨_, (Int.toNat_of_nonneg (HSum.out m).1).symm⟩
      have hmn : (mi : Int) < (n : Int) := by have := (HSum.out m).2; omega
      obtain ⟨x, hx⟩ : ∃ x, x = told.getD mi 0 := ⟨_, rfl⟩
      have HT : Hid (tab (totT s told L) (m + 1) = tab (totT s told L) m ++ [x]) := by
        simp only [Hid]; rw [tab_succ]; congr 2
        unfold totT; rw [hmm, hx]; simp
      have HMi := hid hmm
      have kT0 := hid HkT.out
      have kO0 := hid HkO.out
      have hR0 := hid HhR.out
      have st0 : Below w.heap.size w wr ∧ wr.cell? ⟨bt, off + mi, none⟩ = some (.int .i64 x) ∧ w.heap.size ≤ wr.heap.size := ⟨HB0.out, by rw [hx]; exact (HB0.out.cell (p := ⟨bt, off + mi, none⟩) HBt.out).trans (HC.out mi (by omega)), HB0.out.size⟩
      have HROW : Hid (some bt ≠ (Value.slice ao5 m c5).ownBlock) := by
        have h3 := HBt.out; have h4 := HNO.out
        exact fun e => by have := (HhR.out.lt _ e.symm).1; omega
      have HNEo : Hid ((some bt : Option Nat) ≠ some NO) := by
        have h3 := HBt.out; have h4 := HNO.out
        simp only [Hid]; simp; omega
      clear hmm hx
      go_wp2_with fail
      refine wp_region_held_drew (S := (fun ww => Below w.heap.size w ww ∧ ww.cell? ⟨bt, off + mi, none⟩ = some (.int .i64 x) ∧ w.heap.size ≤ ww.heap.size)) (by kernel_rfl) ?_ (fun hHeld => ?_)
      · ((try dsimp only); exact drew1_0 st0)
      generalize hD : wr.drew = wD at hHeld ⊢
      have kT : wD.heap[NT]? = some (Obj.cells #[.int .i64 0, .int .i64 0, .slice none 0 0] 24) := by rw [← hD]; exact kT0.out
      have kO : wD.heap[NO]? = some (Obj.cells #[.int .i64 s, .int .i64 r, .slice ao5 m c5] 24) := by rw [← hD]; exact kO0.out
      have hR : wD.ownsRow (NO + 1) 2 1 (.slice ao5 m c5) (tab (totT s told L) m).length ((tab (totT s told L) m).map (Value.int .i64)) := by rw [← hD]; exact hR0.out
      clear hD st0
      (refine wpAnyH_take (i := 0) (v := ?_) rfl ?_ ?_ ?_ (fun _ _ _ h => h) (Or.inl ⟨?_, ?_⟩) ?_ ?_; rotate_left 1; (focus decide +kernel); (focus decide +kernel); (focus decide +kernel); (focus rfl); (focus (intro w hSw; (try dsimp only at hSw); go_simp; (try (with_reducible rfl)); done)); (focus assumption); (try simp only [Act.put, List.setIfInBounds_toArray, List.set_cons_zero, List.set_cons_succ, List.getElem_toArray, List.getElem_cons_succ, List.getElem_cons_zero]))
      (refine wpAnyH_take (i := 2) (v := ?_) rfl ?_ ?_ ?_ (fun _ _ _ h => h) (Or.inl ⟨?_, ?_⟩) ?_ ?_; rotate_left 1; (focus decide +kernel); (focus decide +kernel); (focus decide +kernel); (focus rfl); (focus (intro w hSw; (try dsimp only at hSw); go_simp; (try (with_reducible rfl)); done)); (focus assumption); (try simp only [Act.put, List.setIfInBounds_toArray, List.set_cons_zero, List.set_cons_succ, List.getElem_toArray, List.getElem_cons_succ, List.getElem_cons_zero]))
      (refine wpAnyH_take (i := 3) (v := ?_) rfl ?_ ?_ ?_ (fun _ _ _ h => h) (Or.inl ⟨?_, ?_⟩) ?_ ?_; rotate_left 1; (focus decide +kernel); (focus decide +kernel); (focus decide +kernel); (focus rfl); (focus (intro w hSw; (try dsimp only at hSw); go_simp; (try (with_reducible rfl)); done)); (focus assumption); (try simp only [Act.put, List.setIfInBounds_toArray, List.set_cons_zero, List.set_cons_succ, List.getElem_toArray, List.getElem_cons_succ, List.getElem_cons_zero]))
      (refine wpAnyH_take (i := 4) (v := ?_) rfl ?_ ?_ ?_ (fun _ _ _ h => h) (Or.inl ⟨?_, ?_⟩) ?_ ?_; rotate_left 1; (focus decide +kernel); (focus decide +kernel); (focus decide +kernel); (focus rfl); (focus (intro w hSw; (try dsimp only at hSw); go_simp; (try (with_reducible rfl)); done)); (focus assumption); (try simp only [Act.put, List.setIfInBounds_toArray, List.set_cons_zero, List.set_cons_succ, List.getElem_toArray, List.getElem_cons_succ, List.getElem_cons_zero]))
      (refine wpAnyH_take (i := 5) (v := ?_) rfl ?_ ?_ ?_ (fun _ _ _ h => h) (Or.inl ⟨?_, ?_⟩) ?_ ?_; rotate_left 1; (focus decide +kernel); (focus decide +kernel); (focus decide +kernel); (focus rfl); (focus (intro w hSw; (try dsimp only at hSw); go_simp; (try (with_reducible rfl)); done)); (focus assumption); (try simp only [Act.put, List.setIfInBounds_toArray, List.set_cons_zero, List.set_cons_succ, List.getElem_toArray, List.getElem_cons_succ, List.getElem_cons_zero]))
      refine wpAnyH_ready (rs := [1, 6]) ?_ (by simp) ?_
      · decide +kernel
      refine AllReadyH.cons rfl (fun K hK => ?_) (AllReadyH.cons rfl (fun K hK => ?_) AllReadyH.nil)
      · have kv : wD.cell? ⟨NO, 2, none⟩ = some (.slice ao5 m c5) := Go.Joins.cell_of_block (kO) 2
        go_simp
        refine hK.out _ _ ?_ (fun hHeld => ?_)
        · (try dsimp only); exact hHeld
        clear hK K kv
        (try simp only [Act.put, List.setIfInBounds_toArray, List.set_cons_zero, List.set_cons_succ, List.getElem_toArray, List.getElem_cons_succ, List.getElem_cons_zero])
        refine wpAnyH_ready (rs := [6]) ?_ (by simp) ?_
        · decide +kernel
        refine AllReadyH.cons rfl (fun K hK => ?_) AllReadyH.nil
        go_simp
        go_at_call 64
        refine (specDigits HS.out (by omega) (by have := HL5.out; omega)).mono ?_
        rw [dig_length, Int.toNat_natCast]
        rintro e wG ⟨bd, rfl, od, lo, bel⟩
        replace kO := heap_keep bel kO
        replace kT := heap_keep bel kT
        replace hR := rows_keep hR bel
        refine hK.out _ _ ?_ (fun hHeld2 => ?_)
        · (try dsimp only); exact next1_0 bel hHeld
        clear hK K hHeld lo bel
        have hHeld := hHeld2
        clear hHeld2
        (try simp only [Act.put, List.setIfInBounds_toArray, List.set_cons_zero, List.set_cons_succ, List.getElem_toArray, List.getElem_cons_succ, List.getElem_cons_zero])
        refine wpAnyH_ready (rs := [7]) ?_ (by simp) ?_
        · decide +kernel
        refine AllReadyH.cons rfl (fun K hK => ?_) AllReadyH.nil
        go_simp
        go_at_call 63
        refine (specSum od.rd HS.out (by rw [dig_length]; have := HL5.out; omega) (dig_all HS.out _ _)).mono ?_
        rw [HMi.out]
        rintro e w' ⟨rfl, hw'⟩
        subst hw'
        refine hK.out _ _ ?_ (fun hHeld => ?_)
        · (try dsimp only); exact hHeld
        clear hK K od
        (try simp only [Act.put, List.setIfInBounds_toArray, List.set_cons_zero, List.set_cons_succ, List.getElem_toArray, List.getElem_cons_succ, List.getElem_cons_zero])
        (refine wpAnyH_take (i := 8) (v := ?_) rfl ?_ ?_ ?_ (fun _ _ _ h => h) (Or.inl ⟨?_, ?_⟩) ?_ ?_; rotate_left 1; (focus decide +kernel); (focus decide +kernel); (focus decide +kernel); (focus rfl); (focus (intro w hSw; (try dsimp only at hSw); go_simp; (try (with_reducible rfl)); done)); (focus assumption); (try simp only [Act.put, List.setIfInBounds_toArray, List.set_cons_zero, List.set_cons_succ, List.getElem_toArray, List.getElem_cons_succ, List.getElem_cons_zero]))
        (refine wpAnyH_take (i := 9) (v := ?_) rfl ?_ ?_ ?_ (fun _ _ _ h => h) (Or.inl ⟨?_, ?_⟩) ?_ ?_; rotate_left 1; (focus decide +kernel); (focus decide +kernel); (focus decide +kernel); (focus rfl); (focus (intro w hSw; (try dsimp only at hSw); go_simp; (try (with_reducible rfl)); done)); (focus assumption); (try simp only [Act.put, List.setIfInBounds_toArray, List.set_cons_zero, List.set_cons_succ, List.getElem_toArray, List.getElem_cons_succ, List.getElem_cons_zero]))
        refine wpAnyH_ready (rs := [10]) ?_ (by simp) ?_
        · decide +kernel
        refine AllReadyH.cons rfl (fun K hK => ?_) AllReadyH.nil
        go_simp
        refine hK.out _ _ ?_ (fun hHeld2 => ?_)
        · (try dsimp only); have bel := below1 wG (Obj.cells #[.int .i64 x] 2); exact next1_0 bel hHeld
        clear hK K
        have hHeld1 := hHeld
        clear hHeld
        have hHeld := hHeld2
        clear hHeld2
        (try simp only [Act.put, List.setIfInBounds_toArray, List.set_cons_zero, List.set_cons_succ, List.getElem_toArray, List.getElem_cons_succ, List.getElem_cons_zero])
        refine wpAnyH_ready (rs := [11]) ?_ (by simp) ?_
        · decide +kernel
        refine AllReadyH.cons rfl (fun K hK => ?_) AllReadyH.nil
        refine op_append1 rfl _ _ rfl (NO + 1) _ _ rfl hR x rfl ?c1 ?c2 ?_
        case c1 => rw [tab_length]; omega
        case c2 => exact (Array.getElem?_eq_some_iff.1 kO).1
        intro v' w5 hown5 hbel5 g5
        have kO5 := (hbel5.block NO (Nat.lt_succ_self NO)).trans kO
        have kT5 := (hbel5.block _ (Nat.lt_of_lt_of_le HTO.out (Nat.le_succ NO))).trans kT
        have bel : Below w.heap.size wG w5 := hbel5.mono (by have := HNO.out; omega)
        refine hK.out _ _ ?_ (fun hHeld3 => ?_)
        · (try dsimp only); exact nextg1_0 g5 bel HROW.out hHeld1
        clear hK K hHeld hHeld1
        obtain ⟨b5, hb5, ho5⟩ := Own.of hown5
        rcases ho5.form with ⟨_, he⟩ | ⟨c6, rfl, _, _, _⟩
        · exact absurd he (by simp)
        rw [show (tab (totT s told L) m ++ [x]).length = m + 1 by simp [tab_length]] at hown5 ⊢
        have hHeld := hHeld3
        clear hHeld3 bel ho5 hbel5
        (try simp only [Act.put, List.setIfInBounds_toArray, List.set_cons_zero, List.set_cons_succ, List.getElem_toArray, List.getElem_cons_succ, List.getElem_cons_zero])
        (refine wpAnyH_take (i := 12) (v := ?_) rfl ?_ ?_ ?_ (fun _ _ _ h => h) (Or.inl ⟨?_, ?_⟩) ?_ ?_; rotate_left 1; (focus decide +kernel); (focus decide +kernel); (focus decide +kernel); (focus rfl); (focus (intro w hSw; (try dsimp only at hSw); go_simp; (try (with_reducible rfl)); done)); (focus assumption); (try simp only [Act.put, List.setIfInBounds_toArray, List.set_cons_zero, List.set_cons_succ, List.getElem_toArray, List.getElem_cons_succ, List.getElem_cons_zero]))
        refine wpAnyH_ready (rs := [13]) ?_ (by simp) ?_
        · decide +kernel
        refine AllReadyH.cons rfl (fun K hK => ?_) AllReadyH.nil
        have y2 : w5.cell? ⟨NO, 2, none⟩ = some (.slice ao5 m c5) := Go.Joins.cell_of_block kO5 2
        have g2 : w5.frozen? ⟨NO, 2, none⟩ = false := Go.Joins.unfrozen_of_block kO5 2
        go_simp
        have kOs := Go.Joins.block_setCell (i := 2) kO5 (.slice (some ⟨b5, 0, none⟩) (m + 1) c6)
        have hRs := rows_set hown5 ⟨NO, 2, none⟩ (.slice (some ⟨b5, 0, none⟩) (m + 1) c6) (Nat.lt_succ_self NO)
        have kTs := (Below.heap_setCell w5 ⟨NO, 2, none⟩ (.slice (some ⟨b5, 0, none⟩) (m + 1) c6) _ (Nat.ne_of_lt HTO.out)).trans kT5
        have bel : Below w.heap.size w5 (w5.setCell ⟨NO, 2, none⟩ (.slice (some ⟨b5, 0, none⟩) (m + 1) c6)) := (Below.refl _ _).setCell (by have := HNO.out; simp; omega) _
        have gs : w5.grownBy (w5.setCell ⟨NO, 2, none⟩ (.slice (some ⟨b5, 0, none⟩) (m + 1) c6)) (some NO) := setCell_grown w5 ⟨NO, 2, none⟩ (.slice (some ⟨b5, 0, none⟩) (m + 1) c6)
        obtain ⟨wS, hW⟩ : ∃ wS, wS = w5.setCell ⟨NO, 2, none⟩ (.slice (some ⟨b5, 0, none⟩) (m + 1) c6) := ⟨_, rfl⟩
        rw [← hW] at kOs hRs bel gs kTs
        refine hK.out _ _ ?_ (fun hHeld4 => ?_)
        · (try dsimp only); rw [← hW]; exact nextg1_0 gs bel HNEo.out hHeld
        clear hK K
        simp only [← hW] at hHeld4 ⊢
        clear hW y2 g2
        (try simp only [Act.put, List.setIfInBounds_toArray, List.set_cons_zero, List.set_cons_succ, List.getElem_toArray, List.getElem_cons_succ, List.getElem_cons_zero])
        refine wpAnyH_done (by kernel_rfl) ?_ _
        have hBs := hHeld4.1
        clear hHeld4 hHeld
        go_wp2
        go_roundw
        case rel =>
          refine ⟨m + 1, by omega, by go_num, hBs, kTs, some ⟨b5, 0, none⟩, c6, kOs, ?_⟩
          rw [HT.out, List.map_append, List.length_append]
          simpa [tab_length] using hRs
        case measure => simp [intOf]; omega
      · go_simp
        go_at_call 64
        refine (specDigits HS.out (by omega) (by have := HL5.out; omega)).mono ?_
        rw [dig_length, Int.toNat_natCast]
        rintro e wG ⟨bd, rfl, od, lo, bel⟩
        replace kO := heap_keep bel kO
        replace kT := heap_keep bel kT
        replace hR := rows_keep hR bel
        refine hK.out _ _ ?_ (fun hHeld2 => ?_)
        · (try dsimp only); exact next1_0 bel hHeld
        clear hK K hHeld lo bel
        have hHeld := hHeld2
        clear hHeld2
        (try simp only [Act.put, List.setIfInBounds_toArray, List.set_cons_zero, List.set_cons_succ, List.getElem_toArray, List.getElem_cons_succ, List.getElem_cons_zero])
        refine wpAnyH_ready (rs := [1, 7]) ?_ (by simp) ?_
        · decide +kernel
        refine AllReadyH.cons rfl (fun K hK => ?_) (AllReadyH.cons rfl (fun K hK => ?_) AllReadyH.nil)
        · have kv : wG.cell? ⟨NO, 2, none⟩ = some (.slice ao5 m c5) := Go.Joins.cell_of_block (kO) 2
          go_simp
          refine hK.out _ _ ?_ (fun hHeld => ?_)
          · (try dsimp only); exact hHeld
          clear hK K kv
          (try simp only [Act.put, List.setIfInBounds_toArray, List.set_cons_zero, List.set_cons_succ, List.getElem_toArray, List.getElem_cons_succ, List.getElem_cons_zero])
          refine wpAnyH_ready (rs := [7]) ?_ (by simp) ?_
          · decide +kernel
          refine AllReadyH.cons rfl (fun K hK => ?_) AllReadyH.nil
          go_simp
          go_at_call 63
          refine (specSum od.rd HS.out (by rw [dig_length]; have := HL5.out; omega) (dig_all HS.out _ _)).mono ?_
          rw [HMi.out]
          rintro e w' ⟨rfl, hw'⟩
          subst hw'
          refine hK.out _ _ ?_ (fun hHeld => ?_)
          · (try dsimp only); exact hHeld
          clear hK K od
          (try simp only [Act.put, List.setIfInBounds_toArray, List.set_cons_zero, List.set_cons_succ, List.getElem_toArray, List.getElem_cons_succ, List.getElem_cons_zero])
          (refine wpAnyH_take (i := 8) (v := ?_) rfl ?_ ?_ ?_ (fun _ _ _ h => h) (Or.inl ⟨?_, ?_⟩) ?_ ?_; rotate_left 1; (focus decide +kernel); (focus decide +kernel); (focus decide +kernel); (focus rfl); (focus (intro w hSw; (try dsimp only at hSw); go_simp; (try (with_reducible rfl)); done)); (focus assumption); (try simp only [Act.put, List.setIfInBounds_toArray, List.set_cons_zero, List.set_cons_succ, List.getElem_toArray, List.getElem_cons_succ, List.getElem_cons_zero]))
          (refine wpAnyH_take (i := 9) (v := ?_) rfl ?_ ?_ ?_ (fun _ _ _ h => h) (Or.inl ⟨?_, ?_⟩) ?_ ?_; rotate_left 1; (focus decide +kernel); (focus decide +kernel); (focus decide +kernel); (focus rfl); (focus (intro w hSw; (try dsimp only at hSw); go_simp; (try (with_reducible rfl)); done)); (focus assumption); (try simp only [Act.put, List.setIfInBounds_toArray, List.set_cons_zero, List.set_cons_succ, List.getElem_toArray, List.getElem_cons_succ, List.getElem_cons_zero]))
          refine wpAnyH_ready (rs := [10]) ?_ (by simp) ?_
          · decide +kernel
          refine AllReadyH.cons rfl (fun K hK => ?_) AllReadyH.nil
          go_simp
          refine hK.out _ _ ?_ (fun hHeld2 => ?_)
          · (try dsimp only); have bel := below1 wG (Obj.cells #[.int .i64 x] 2); exact next1_0 bel hHeld
          clear hK K
          have hHeld1 := hHeld
          clear hHeld
          have hHeld := hHeld2
          clear hHeld2
          (try simp only [Act.put, List.setIfInBounds_toArray, List.set_cons_zero, List.set_cons_succ, List.getElem_toArray, List.getElem_cons_succ, List.getElem_cons_zero])
          refine wpAnyH_ready (rs := [11]) ?_ (by simp) ?_
          · decide +kernel
          refine AllReadyH.cons rfl (fun K hK => ?_) AllReadyH.nil
          refine op_append1 rfl _ _ rfl (NO + 1) _ _ rfl hR x rfl ?c1 ?c2 ?_
          case c1 => rw [tab_length]; omega
          case c2 => exact (Array.getElem?_eq_some_iff.1 kO).1
          intro v' w5 hown5 hbel5 g5
          have kO5 := (hbel5.block NO (Nat.lt_succ_self NO)).trans kO
          have kT5 := (hbel5.block _ (Nat.lt_of_lt_of_le HTO.out (Nat.le_succ NO))).trans kT
          have bel : Below w.heap.size wG w5 := hbel5.mono (by have := HNO.out; omega)
          refine hK.out _ _ ?_ (fun hHeld3 => ?_)
          · (try dsimp only); exact nextg1_0 g5 bel HROW.out hHeld1
          clear hK K hHeld hHeld1
          obtain ⟨b5, hb5, ho5⟩ := Own.of hown5
          rcases ho5.form with ⟨_, he⟩ | ⟨c6, rfl, _, _, _⟩
          · exact absurd he (by simp)
          rw [show (tab (totT s told L) m ++ [x]).length = m + 1 by simp [tab_length]] at hown5 ⊢
          have hHeld := hHeld3
          clear hHeld3 bel ho5 hbel5
          (try simp only [Act.put, List.setIfInBounds_toArray, List.set_cons_zero, List.set_cons_succ, List.getElem_toArray, List.getElem_cons_succ, List.getElem_cons_zero])
          (refine wpAnyH_take (i := 12) (v := ?_) rfl ?_ ?_ ?_ (fun _ _ _ h => h) (Or.inl ⟨?_, ?_⟩) ?_ ?_; rotate_left 1; (focus decide +kernel); (focus decide +kernel); (focus decide +kernel); (focus rfl); (focus (intro w hSw; (try dsimp only at hSw); go_simp; (try (with_reducible rfl)); done)); (focus assumption); (try simp only [Act.put, List.setIfInBounds_toArray, List.set_cons_zero, List.set_cons_succ, List.getElem_toArray, List.getElem_cons_succ, List.getElem_cons_zero]))
          refine wpAnyH_ready (rs := [13]) ?_ (by simp) ?_
          · decide +kernel
          refine AllReadyH.cons rfl (fun K hK => ?_) AllReadyH.nil
          have y2 : w5.cell? ⟨NO, 2, none⟩ = some (.slice ao5 m c5) := Go.Joins.cell_of_block kO5 2
          have g2 : w5.frozen? ⟨NO, 2, none⟩ = false := Go.Joins.unfrozen_of_block kO5 2
          go_simp
          have kOs := Go.Joins.block_setCell (i := 2) kO5 (.slice (some ⟨b5, 0, none⟩) (m + 1) c6)
          have hRs := rows_set hown5 ⟨NO, 2, none⟩ (.slice (some ⟨b5, 0, none⟩) (m + 1) c6) (Nat.lt_succ_self NO)
          have kTs := (Below.heap_setCell w5 ⟨NO, 2, none⟩ (.slice (some ⟨b5, 0, none⟩) (m + 1) c6) _ (Nat.ne_of_lt HTO.out)).trans kT5
          have bel : Below w.heap.size w5 (w5.setCell ⟨NO, 2, none⟩ (.slice (some ⟨b5, 0, none⟩) (m + 1) c6)) := (Below.refl _ _).setCell (by have := HNO.out; simp; omega) _
          have gs : w5.grownBy (w5.setCell ⟨NO, 2, none⟩ (.slice (some ⟨b5, 0, none⟩) (m + 1) c6)) (some NO) := setCell_grown w5 ⟨NO, 2, none⟩ (.slice (some ⟨b5, 0, none⟩) (m + 1) c6)
          obtain ⟨wS, hW⟩ : ∃ wS, wS = w5.setCell ⟨NO, 2, none⟩ (.slice (some ⟨b5, 0, none⟩) (m + 1) c6) := ⟨_, rfl⟩
          rw [← hW] at kOs hRs bel gs kTs
          refine hK.out _ _ ?_ (fun hHeld4 => ?_)
          · (try dsimp only); rw [← hW]; exact nextg1_0 gs bel HNEo.out hHeld
          clear hK K
          simp only [← hW] at hHeld4 ⊢
          clear hW y2 g2
          (try simp only [Act.put, List.setIfInBounds_toArray, List.set_cons_zero, List.set_cons_succ, List.getElem_toArray, List.getElem_cons_succ, List.getElem_cons_zero])
          refine wpAnyH_done (by kernel_rfl) ?_ _
          have hBs := hHeld4.1
          clear hHeld4 hHeld
          go_wp2
          go_roundw
          case rel =>
            refine ⟨m + 1, by omega, by go_num, hBs, kTs, some ⟨b5, 0, none⟩, c6, kOs, ?_⟩
            rw [HT.out, List.map_append, List.length_append]
            simpa [tab_length] using hRs
          case measure => simp [intOf]; omega
        · go_simp
          go_at_call 63
          refine (specSum od.rd HS.out (by rw [dig_length]; have := HL5.out; omega) (dig_all HS.out _ _)).mono ?_
          rw [HMi.out]
          rintro e w' ⟨rfl, hw'⟩
          subst hw'
          refine hK.out _ _ ?_ (fun hHeld => ?_)
          · (try dsimp only); exact hHeld
          clear hK K od
          (try simp only [Act.put, List.setIfInBounds_toArray, List.set_cons_zero, List.set_cons_succ, List.getElem_toArray, List.getElem_cons_succ, List.getElem_cons_zero])
          (refine wpAnyH_take (i := 8) (v := ?_) rfl ?_ ?_ ?_ (fun _ _ _ h => h) (Or.inl ⟨?_, ?_⟩) ?_ ?_; rotate_left 1; (focus decide +kernel); (focus decide +kernel); (focus decide +kernel); (focus rfl); (focus (intro w hSw; (try dsimp only at hSw); go_simp; (try (with_reducible rfl)); done)); (focus assumption); (try simp only [Act.put, List.setIfInBounds_toArray, List.set_cons_zero, List.set_cons_succ, List.getElem_toArray, List.getElem_cons_succ, List.getElem_cons_zero]))
          (refine wpAnyH_take (i := 9) (v := ?_) rfl ?_ ?_ ?_ (fun _ _ _ h => h) (Or.inl ⟨?_, ?_⟩) ?_ ?_; rotate_left 1; (focus decide +kernel); (focus decide +kernel); (focus decide +kernel); (focus rfl); (focus (intro w hSw; (try dsimp only at hSw); go_simp; (try (with_reducible rfl)); done)); (focus assumption); (try simp only [Act.put, List.setIfInBounds_toArray, List.set_cons_zero, List.set_cons_succ, List.getElem_toArray, List.getElem_cons_succ, List.getElem_cons_zero]))
          refine wpAnyH_ready (rs := [1, 10]) ?_ (by simp) ?_
          · decide +kernel
          refine AllReadyH.cons rfl (fun K hK => ?_) (AllReadyH.cons rfl (fun K hK => ?_) AllReadyH.nil)
          · have kv : wG.cell? ⟨NO, 2, none⟩ = some (.slice ao5 m c5) := Go.Joins.cell_of_block (kO) 2
            go_simp
            refine hK.out _ _ ?_ (fun hHeld => ?_)
            · (try dsimp only); exact hHeld
            clear hK K kv
            (try simp only [Act.put, List.setIfInBounds_toArray, List.set_cons_zero, List.set_cons_succ, List.getElem_toArray, List.getElem_cons_succ, List.getElem_cons_zero])
            refine wpAnyH_ready (rs := [10]) ?_ (by simp) ?_
            · decide +kernel
            refine AllReadyH.cons rfl (fun K hK => ?_) AllReadyH.nil
            go_simp
            refine hK.out _ _ ?_ (fun hHeld2 => ?_)
            · (try dsimp only); have bel := below1 wG (Obj.cells #[.int .i64 x] 2); exact next1_0 bel hHeld
            clear hK K
            have hHeld1 := hHeld
            clear hHeld
            have hHeld := hHeld2
            clear hHeld2
            (try simp only [Act.put, List.setIfInBounds_toArray, List.set_cons_zero, List.set_cons_succ, List.getElem_toArray, List.getElem_cons_succ, List.getElem_cons_zero])
            refine wpAnyH_ready (rs := [11]) ?_ (by simp) ?_
            · decide +kernel
            refine AllReadyH.cons rfl (fun K hK => ?_) AllReadyH.nil
            refine op_append1 rfl _ _ rfl (NO + 1) _ _ rfl hR x rfl ?c1 ?c2 ?_
            case c1 => rw [tab_length]; omega
            case c2 => exact (Array.getElem?_eq_some_iff.1 kO).1
            intro v' w5 hown5 hbel5 g5
            have kO5 := (hbel5.block NO (Nat.lt_succ_self NO)).trans kO
            have kT5 := (hbel5.block _ (Nat.lt_of_lt_of_le HTO.out (Nat.le_succ NO))).trans kT
            have bel : Below w.heap.size wG w5 := hbel5.mono (by have := HNO.out; omega)
            refine hK.out _ _ ?_ (fun hHeld3 => ?_)
            · (try dsimp only); exact nextg1_0 g5 bel HROW.out hHeld1
            clear hK K hHeld hHeld1
            obtain ⟨b5, hb5, ho5⟩ := Own.of hown5
            rcases ho5.form with ⟨_, he⟩ | ⟨c6, rfl, _, _, _⟩
            · exact absurd he (by simp)
            rw [show (tab (totT s told L) m ++ [x]).length = m + 1 by simp [tab_length]] at hown5 ⊢
            have hHeld := hHeld3
            clear hHeld3 bel ho5 hbel5
            (try simp only [Act.put, List.setIfInBounds_toArray, List.set_cons_zero, List.set_cons_succ, List.getElem_toArray, List.getElem_cons_succ, List.getElem_cons_zero])
            (refine wpAnyH_take (i := 12) (v := ?_) rfl ?_ ?_ ?_ (fun _ _ _ h => h) (Or.inl ⟨?_, ?_⟩) ?_ ?_; rotate_left 1; (focus decide +kernel); (focus decide +kernel); (focus decide +kernel); (focus rfl); (focus (intro w hSw; (try dsimp only at hSw); go_simp; (try (with_reducible rfl)); done)); (focus assumption); (try simp only [Act.put, List.setIfInBounds_toArray, List.set_cons_zero, List.set_cons_succ, List.getElem_toArray, List.getElem_cons_succ, List.getElem_cons_zero]))
            refine wpAnyH_ready (rs := [13]) ?_ (by simp) ?_
            · decide +kernel
            refine AllReadyH.cons rfl (fun K hK => ?_) AllReadyH.nil
            have y2 : w5.cell? ⟨NO, 2, none⟩ = some (.slice ao5 m c5) := Go.Joins.cell_of_block kO5 2
            have g2 : w5.frozen? ⟨NO, 2, none⟩ = false := Go.Joins.unfrozen_of_block kO5 2
            go_simp
            have kOs := Go.Joins.block_setCell (i := 2) kO5 (.slice (some ⟨b5, 0, none⟩) (m + 1) c6)
            have hRs := rows_set hown5 ⟨NO, 2, none⟩ (.slice (some ⟨b5, 0, none⟩) (m + 1) c6) (Nat.lt_succ_self NO)
            have kTs := (Below.heap_setCell w5 ⟨NO, 2, none⟩ (.slice (some ⟨b5, 0, none⟩) (m + 1) c6) _ (Nat.ne_of_lt HTO.out)).trans kT5
            have bel : Below w.heap.size w5 (w5.setCell ⟨NO, 2, none⟩ (.slice (some ⟨b5, 0, none⟩) (m + 1) c6)) := (Below.refl _ _).setCell (by have := HNO.out; simp; omega) _
            have gs : w5.grownBy (w5.setCell ⟨NO, 2, none⟩ (.slice (some ⟨b5, 0, none⟩) (m + 1) c6)) (some NO) := setCell_grown w5 ⟨NO, 2, none⟩ (.slice (some ⟨b5, 0, none⟩) (m + 1) c6)
            obtain ⟨wS, hW⟩ : ∃ wS, wS = w5.setCell ⟨NO, 2, none⟩ (.slice (some ⟨b5, 0, none⟩) (m + 1) c6) := ⟨_, rfl⟩
            rw [← hW] at kOs hRs bel gs kTs
            refine hK.out _ _ ?_ (fun hHeld4 => ?_)
            · (try dsimp only); rw [← hW]; exact nextg1_0 gs bel HNEo.out hHeld
            clear hK K
            simp only [← hW] at hHeld4 ⊢
            clear hW y2 g2
            (try simp only [Act.put, List.setIfInBounds_toArray, List.set_cons_zero, List.set_cons_succ, List.getElem_toArray, List.getElem_cons_succ, List.getElem_cons_zero])
            refine wpAnyH_done (by kernel_rfl) ?_ _
            have hBs := hHeld4.1
            clear hHeld4 hHeld
            go_wp2
            go_roundw
            case rel =>
              refine ⟨m + 1, by omega, by go_num, hBs, kTs, some ⟨b5, 0, none⟩, c6, kOs, ?_⟩
              rw [HT.out, List.map_append, List.length_append]
              simpa [tab_length] using hRs
            case measure => simp [intOf]; omega
          · go_simp
            refine hK.out _ _ ?_ (fun hHeld2 => ?_)
            · (try dsimp only); have bel := below1 wG (Obj.cells #[.int .i64 x] 2); exact next1_0 bel hHeld
            clear hK K
            have hHeld1 := hHeld
            clear hHeld
            have hHeld := hHeld2
            clear hHeld2
            (try simp only [Act.put, List.setIfInBounds_toArray, List.set_cons_zero, List.set_cons_succ, List.getElem_toArray, List.getElem_cons_succ, List.getElem_cons_zero])
            refine wpAnyH_ready (rs := [1]) ?_ (by simp) ?_
            · decide +kernel
            refine AllReadyH.cons rfl (fun K hK => ?_) AllReadyH.nil
            have kv : (wG.alloc (Obj.cells #[.int .i64 x] 2)).cell? ⟨NO, 2, none⟩ = some (.slice ao5 m c5) := Go.Joins.cell_of_block (heap_old kO) 2
            go_simp
            refine hK.out _ _ ?_ (fun hHeld => ?_)
            · (try dsimp only); exact hHeld
            clear hK K kv
            (try simp only [Act.put, List.setIfInBounds_toArray, List.set_cons_zero, List.set_cons_succ, List.getElem_toArray, List.getElem_cons_succ, List.getElem_cons_zero])
            refine wpAnyH_ready (rs := [11]) ?_ (by simp) ?_
            · decide +kernel
            refine AllReadyH.cons rfl (fun K hK => ?_) AllReadyH.nil
            refine op_append1 rfl _ _ rfl (NO + 1) _ _ rfl hR x rfl ?c1 ?c2 ?_
            case c1 => rw [tab_length]; omega
            case c2 => exact (Array.getElem?_eq_some_iff.1 kO).1
            intro v' w5 hown5 hbel5 g5
            have kO5 := (hbel5.block NO (Nat.lt_succ_self NO)).trans kO
            have kT5 := (hbel5.block _ (Nat.lt_of_lt_of_le HTO.out (Nat.le_succ NO))).trans kT
            have bel : Below w.heap.size wG w5 := hbel5.mono (by have := HNO.out; omega)
            refine hK.out _ _ ?_ (fun hHeld3 => ?_)
            · (try dsimp only); exact nextg1_0 g5 bel HROW.out hHeld1
            clear hK K hHeld hHeld1
            obtain ⟨b5, hb5, ho5⟩ := Own.of hown5
            rcases ho5.form with ⟨_, he⟩ | ⟨c6, rfl, _, _, _⟩
            · exact absurd he (by simp)
            rw [show (tab (totT s told L) m ++ [x]).length = m + 1 by simp [tab_length]] at hown5 ⊢
            have hHeld := hHeld3
            clear hHeld3 bel ho5 hbel5
            (try simp only [Act.put, List.setIfInBounds_toArray, List.set_cons_zero, List.set_cons_succ, List.getElem_toArray, List.getElem_cons_succ, List.getElem_cons_zero])
            (refine wpAnyH_take (i := 12) (v := ?_) rfl ?_ ?_ ?_ (fun _ _ _ h => h) (Or.inl ⟨?_, ?_⟩) ?_ ?_; rotate_left 1; (focus decide +kernel); (focus decide +kernel); (focus decide +kernel); (focus rfl); (focus (intro w hSw; (try dsimp only at hSw); go_simp; (try (with_reducible rfl)); done)); (focus assumption); (try simp only [Act.put, List.setIfInBounds_toArray, List.set_cons_zero, List.set_cons_succ, List.getElem_toArray, List.getElem_cons_succ, List.getElem_cons_zero]))
            refine wpAnyH_ready (rs := [13]) ?_ (by simp) ?_
            · decide +kernel
            refine AllReadyH.cons rfl (fun K hK => ?_) AllReadyH.nil
            have y2 : w5.cell? ⟨NO, 2, none⟩ = some (.slice ao5 m c5) := Go.Joins.cell_of_block kO5 2
            have g2 : w5.frozen? ⟨NO, 2, none⟩ = false := Go.Joins.unfrozen_of_block kO5 2
            go_simp
            have kOs := Go.Joins.block_setCell (i := 2) kO5 (.slice (some ⟨b5, 0, none⟩) (m + 1) c6)
            have hRs := rows_set hown5 ⟨NO, 2, none⟩ (.slice (some ⟨b5, 0, none⟩) (m + 1) c6) (Nat.lt_succ_self NO)
            have kTs := (Below.heap_setCell w5 ⟨NO, 2, none⟩ (.slice (some ⟨b5, 0, none⟩) (m + 1) c6) _ (Nat.ne_of_lt HTO.out)).trans kT5
            have bel : Below w.heap.size w5 (w5.setCell ⟨NO, 2, none⟩ (.slice (some ⟨b5, 0, none⟩) (m + 1) c6)) := (Below.refl _ _).setCell (by have := HNO.out; simp; omega) _
            have gs : w5.grownBy (w5.setCell ⟨NO, 2, none⟩ (.slice (some ⟨b5, 0, none⟩) (m + 1) c6)) (some NO) := setCell_grown w5 ⟨NO, 2, none⟩ (.slice (some ⟨b5, 0, none⟩) (m + 1) c6)
            obtain ⟨wS, hW⟩ : ∃ wS, wS = w5.setCell ⟨NO, 2, none⟩ (.slice (some ⟨b5, 0, none⟩) (m + 1) c6) := ⟨_, rfl⟩
            rw [← hW] at kOs hRs bel gs kTs
            refine hK.out _ _ ?_ (fun hHeld4 => ?_)
            · (try dsimp only); rw [← hW]; exact nextg1_0 gs bel HNEo.out hHeld
            clear hK K
            simp only [← hW] at hHeld4 ⊢
            clear hW y2 g2
            (try simp only [Act.put, List.setIfInBounds_toArray, List.set_cons_zero, List.set_cons_succ, List.getElem_toArray, List.getElem_cons_succ, List.getElem_cons_zero])
            refine wpAnyH_done (by kernel_rfl) ?_ _
            have hBs := hHeld4.1
            clear hHeld4 hHeld
            go_wp2
            go_roundw
            case rel =>
              refine ⟨m + 1, by omega, by go_num, hBs, kTs, some ⟨b5, 0, none⟩, c6, kOs, ?_⟩
              rw [HT.out, List.map_append, List.length_append]
              simpa [tab_length] using hRs
            case measure => simp [intOf]; omega
    · have hkn : m = M := by omega
      subst hkn
      obtain ⟨b', hb', o'⟩ := Own.of hR
      have hbs : b' < wr.heap.size := by
        rcases o'.form with ⟨_, hz⟩ | ⟨_, _, _, _, hz⟩
        · have h1 := congrArg List.length hz; rw [tab_length] at h1; simp at h1; omega
        · exact hz
      have x0 : wr.cell? ⟨NO, 0, none⟩ = some (.int .i64 s) := Go.Joins.cell_of_block kO 0
      have x1 : wr.cell? ⟨NO, 1, none⟩ = some (.int .i64 r) := Go.Joins.cell_of_block kO 1
      have x2 : wr.cell? ⟨NO, 2, none⟩ = some (.slice ao5 m c5) := Go.Joins.cell_of_block kO 2
      have hneb : NT ≠ b' := by have := HTO.out; omega
      have HNB := hid hneb
      have HLo : Hid (w.heap.size ≤ b') := by have := HNO.out; simp only [Hid]; omega
      have HB0 := hid bel0
      have HO0 := hid o'
      have HkT := hid kT
      have HBs := hid hbs
      clear bel0 hR kO o' hb' hneb kT hbs HB
      go_wp2_with fail
      go_at_call 62
      refine hpw.mono ?_
      clear hpw
      rintro e w' ⟨rfl, hw'⟩
      subst hw'
      go_wp2_with fail
      go_at_call 65
      refine (giveOk HO0.out HBs.out HV.out).mono ?_
      rintro e w5 ⟨rfl, ow, bel⟩
      have kb := heap_keep bel HkT.out
      have HB := hid (HB0.out.trans (bel.mono HB0.out.size))
      have HO := hid ow
      clear ow bel x0 x1 x2
      have y0 : w5.cell? ⟨NT, 0, none⟩ = some (.int .i64 0) := Go.Joins.cell_of_block kb 0
      have y1 : w5.cell? ⟨NT, 1, none⟩ = some (.int .i64 0) := Go.Joins.cell_of_block kb 1
      have y2 : w5.cell? ⟨NT, 2, none⟩ = some (.slice none 0 0) := Go.Joins.cell_of_block kb 2
      have g0 : w5.frozen? ⟨NT, 0, none⟩ = false := Go.Joins.unfrozen_of_block kb 0
      have g1 : w5.frozen? ⟨NT, 1, none⟩ = false := Go.Joins.unfrozen_of_block kb 1
      have g2 : w5.frozen? ⟨NT, 2, none⟩ = false := Go.Joins.unfrozen_of_block kb 2
      have HKx := hid kb
      clear kb
      go_wp2
      obtain ⟨W5, hW⟩ : ∃ W5, W5 = (((w5.setCell ⟨NT, 0, none⟩ (.int .i64 s)).setCell ⟨NT, 1, none⟩ (.int .i64 r)).setCell ⟨NT, 2, none⟩ (.slice ao5 m c5)) := ⟨_, rfl⟩
      have q0 := (Go.Joins.block_setCell (i := 2) (Go.Joins.block_setCell (i := 1) (Go.Joins.block_setCell (i := 0) HKx.out (.int .i64 s)) (.int .i64 r)) (.slice ao5 m c5))
      rw [← hW] at q0
      have z0 : W5.cell? ⟨NT, 0, none⟩ = some (.int .i64 s) := Go.Joins.cell_of_block q0 0
      have z1 : W5.cell? ⟨NT, 1, none⟩ = some (.int .i64 r) := Go.Joins.cell_of_block q0 1
      have z2 : W5.cell? ⟨NT, 2, none⟩ = some (.slice ao5 m c5) := Go.Joins.cell_of_block q0 2
      have O5 := (own_set (own_set (own_set HO.out ⟨NT, 0, none⟩ (.int .i64 s) HNB.out) ⟨NT, 1, none⟩ (.int .i64 r) HNB.out) ⟨NT, 2, none⟩ (.slice ao5 m c5) HNB.out)
      rw [← hW] at O5
      have B5 : Below w.heap.size w W5 := by
        have h1 := HNT.out
        rw [hW]
        exact ((HB.out.setCell (by simp; omega) _).setCell (by simp; omega) _).setCell (by simp; omega) _
      simp only [← hW]
      clear hW q0
      simp [bodyPost, results, Try.results23, go_sem, z0, z1, z2]
      exact ⟨b', O5, HLo.out, B5⟩

set_option maxHeartbeats 16000000 in
theorem specNoD {w : World} {s r : Int} {L M n bt : Nat} {vt : Value} {told : List Int} (hn : n = told.length) (h : Rd w bt vt told) (hs : 2 ≤ s ∧ s ≤ 3) (hr : 0 ≤ r ∧ r ≤ 2) (hL : (L : Int) = 2 * r + 1) (hM : (M : Int) = s ^ L) (hl : (told.length : Int) = (2 * r + 1) * (s - 1) + 1) (hv : validB s r (tab (totT s told L) M) = false) :
    Calls Try.prog 23 #[.int .i64 s, .int .i64 r, vt] w fun e w' => e = .returned (.tuple #[ruleV 0 0 (.slice none 0 0), .bool false]) ∧ Below w.heap.size w w' := by
  have HV := hid hv
  have HS := hid hs
  have HIN : Hid (decide (2 ≤ s ∧ s ≤ 3) = true) := decide_eq_true hs
  have HIN2 : Hid (decide (0 ≤ r ∧ r ≤ 2) = true) := decide_eq_true hr
  have HM := hid hM
  have HLr : Hid (2 * r + 1 = (L : Int)) := hL.symm
  have HL5 : Hid (1 ≤ L ∧ L ≤ 5) := by simp only [Hid]; omega
  have hM2 : 1 ≤ M ∧ M ≤ 243 := by have := pow_bd hs (show L ≤ 5 by omega); omega
  obtain ⟨m1, m2⟩ := hM2
  have HSum : Hid (∀ m : Nat, 0 ≤ sumL (dig s m L) ∧ sumL (dig s m L) < n) := by
    intro m
    have h1 := sumL_bd hs (dig_all hs (m : Int) L)
    rw [dig_length] at h1
    rw [hn, hl, ← hL]; omega
  obtain ⟨ao, cap, rfl, _, _, h4⟩ := h
  obtain ⟨off, rfl, hb, hcell⟩ := h4 (by have := HSum.out 0; omega)
  rw [← hn] at hcell
  have HC := hid hcell
  have HBt := hid hb
  obtain ⟨s1, s2⟩ := hs
  obtain ⟨r1, r2⟩ := hr
  obtain ⟨D, hD⟩ : ∃ D : Int, D = (L : Int) * (s - 1) := ⟨_, rfl⟩
  have hDb : 1 ≤ D ∧ D ≤ 10 := by rcases (show s = 2 ∨ s = 3 by omega) with rfl | rfl <;> omega
  have e1 : IntKind.i64.wrap (s - 1) = s - 1 := by rw [IntKind.wrap_i64]; omega
  have e2 : IntKind.i64.wrap ((L : Int) * (s - 1)) = D := by rw [IntKind.wrap_i64, ← hD]; omega
  have e3 : IntKind.i64.wrap (D + 1) = D + 1 := by rw [IntKind.wrap_i64]; omega
  have hne : ((n : Int) != (D + 1)) = false := by rw [hn, hl, ← hL, ← hD]; simp
  rw [← hn]
  clear hv hl h4 hcell hb hn hM hL hD hDb
  go_enter Try.func23, Try.ntmps23
  go_wp2_with fail
  obtain ⟨w1, hW⟩ : ∃ w1, w1 = w.alloc (Obj.cells #[Value.int IntKind.i64 0, Value.int IntKind.i64 0, Value.slice none 0 0] 24) := ⟨_, rfl⟩
  obtain ⟨NT, hN⟩ : ∃ NT, NT = w.heap.size := ⟨_, rfl⟩
  have b1 : Below w.heap.size w w1 := by rw [hW]; exact below1 _ _
  have kb : w1.heap[NT]? = some (Obj.cells #[.int .i64 0, .int .i64 0, .slice none 0 0] 24) := by rw [hW]; exact heap_top hN
  have HNT : Hid (w.heap.size ≤ NT) := by simp only [Hid]; omega
  have HB := hid b1
  have HKB := hid kb
  simp only [← hW, ← hN]
  clear hW hN b1 kb
  go_at_call 57
  refine (SumLaw.quietIn HIN.out).mono ?_
  rintro e w' ⟨rfl, hw'⟩
  subst hw'
  go_wp2_with fail
  go_at_call 57
  refine (SumLaw.quietIn HIN2.out).mono ?_
  rintro e w'' ⟨rfl, hw'⟩
  subst hw'
  have hLr := HLr.out
  go_wp2
  obtain ⟨w3, hW⟩ : ∃ w3, w3 = w''.alloc (Obj.cells #[Value.int IntKind.i64 s, Value.int IntKind.i64 r, Value.slice none 0 0] 24) := ⟨_, rfl⟩
  obtain ⟨NO, hN⟩ : ∃ NO, NO = w''.heap.size := ⟨_, rfl⟩
  have HTO : Hid (NT < NO) := by simp only [Hid]; rw [hN]; exact (Array.getElem?_eq_some_iff.1 HKB.out).1
  have kT : w3.heap[NT]? = some (Obj.cells #[.int .i64 0, .int .i64 0, .slice none 0 0] 24) := by rw [hW]; exact heap_old HKB.out
  have kO : w3.heap[NO]? = some (Obj.cells #[.int .i64 s, .int .i64 r, .slice none 0 0] 24) := by rw [hW]; exact heap_top hN
  have b3 : Below w.heap.size w w3 := by rw [hW]; exact HB.out.trans ((below1 _ _).mono HB.out.size)
  have HNO : Hid (w.heap.size ≤ NO) := by have := HTO.out; have := HNT.out; simp only [Hid]; omega
  simp only [← hW, ← hN]
  clear hW hN hne
  go_loopw [10] (fun t wr => ∃ m : Nat, m ≤ M ∧ t = .int .i64 m ∧ Below w.heap.size w wr ∧ wr.heap[NT]? = some (Obj.cells #[.int .i64 0, .int .i64 0, .slice none 0 0] 24) ∧
    ∃ ao5 c5, wr.heap[NO]? = some (Obj.cells #[.int .i64 s, .int .i64 r, .slice ao5 m c5] 24) ∧
      wr.ownsRow (NO + 1) 2 1 (.slice ao5 m c5) (tab (totT s told L) m).length ((tab (totT s told L) m).map (Value.int .i64))) (fun t _ => M - (intOf t).toNat)
  case atStart => exact ⟨0, Nat.zero_le _, rfl, b3, kT, none, 0, kO, World.ownsRow_nil w3 (NO + 1) 2 1⟩
  case round =>
    clear b3 kT kO
    obtain ⟨m, hm, rfl, bel0, kT, ao5, c5, kO, hR⟩ := hrel
    have hpw := (specPower (w := wr) (st := s) (k := L) HS.out (by have := HL5.out; omega)).mono (R' := fun e w' => e = .returned (.int .i64 M) ∧ wr = w') (by rintro e w' ⟨rfl, rfl⟩; exact ⟨by rw [← HM.out], rfl⟩)
    by_cases hlt : m < M
    · have hmi : (m : Int) < (M : Int) := by omega
      have HB0 := hid bel0
      have HkT := hid kT
      have HkO := hid kO
      have HhR := hid hR
      clear bel0 kT kO hR
      go_wp2_with fail
      go_at_call 62
      refine hpw.mono ?_
      clear hpw
      rintro e w' ⟨rfl, hw'⟩
      subst hw'
      obtain ⟨mi, hmm⟩ : ∃ mi : Nat, sumL (dig s m L) = mi := ⟨_, (Int.toNat_of_nonneg (HSum.out m).1).symm⟩
      have hmn : (mi : Int) < (n : Int) := by have := (HSum.out m).2; omega
      obtain ⟨x, hx⟩ : ∃ x, x = told.getD mi 0 := ⟨_, rfl⟩
      have HT : Hid (tab (totT s told L) (m + 1) = tab (totT s told L) m ++ [x]) := by
        simp only [Hid]; rw [tab_succ]; congr 2
        unfold totT; rw [hmm, hx]; simp
      have HMi := hid hmm
      have kT0 := hid HkT.out
      have kO0 := hid HkO.out
      have hR0 := hid HhR.out
      have st0 : Below w.heap.size w wr ∧ wr.cell? ⟨bt, off + mi, none⟩ = some (.int .i64 x) ∧ w.heap.size ≤ wr.heap.size := ⟨HB0.out, by rw [hx]; exact (HB0.out.cell (p := ⟨bt, off + mi, none⟩) HBt.out).trans (HC.out mi (by omega)), HB0.out.size⟩
      have HROW : Hid (some bt ≠ (Value.slice ao5 m c5).ownBlock) := by
        have h3 := HBt.out; have h4 := HNO.out
        exact fun e => by have := (HhR.out.lt _ e.symm).1; omega
      have HNEo : Hid ((some bt : Option Nat) ≠ some NO) := by
        have h3 := HBt.out; have h4 := HNO.out
        simp only [Hid]; simp; omega
      clear hmm hx
      go_wp2_with fail
      refine wp_region_held_drew (S := (fun ww => Below w.heap.size w ww ∧ ww.cell? ⟨bt, off + mi, none⟩ = some (.int .i64 x) ∧ w.heap.size ≤ ww.heap.size)) (by kernel_rfl) ?_ (fun hHeld => ?_)
      · ((try dsimp only); exact drew1_0 st0)
      generalize hD : wr.drew = wD at hHeld ⊢
      have kT : wD.heap[NT]? = some (Obj.cells #[.int .i64 0, .int .i64 0, .slice none 0 0] 24) := by rw [← hD]; exact kT0.out
      have kO : wD.heap[NO]? = some (Obj.cells #[.int .i64 s, .int .i64 r, .slice ao5 m c5] 24) := by rw [← hD]; exact kO0.out
      have hR : wD.ownsRow (NO + 1) 2 1 (.slice ao5 m c5) (tab (totT s told L) m).length ((tab (totT s told L) m).map (Value.int .i64)) := by rw [← hD]; exact hR0.out
      clear hD st0
      (refine wpAnyH_take (i := 0) (v := ?_) rfl ?_ ?_ ?_ (fun _ _ _ h => h) (Or.inl ⟨?_, ?_⟩) ?_ ?_; rotate_left 1; (focus decide +kernel); (focus decide +kernel); (focus decide +kernel); (focus rfl); (focus (intro w hSw; (try dsimp only at hSw); go_simp; (try (with_reducible rfl)); done)); (focus assumption); (try simp only [Act.put, List.setIfInBounds_toArray, List.set_cons_zero, List.set_cons_succ, List.getElem_toArray, List.getElem_cons_succ, List.getElem_cons_zero]))
      (refine wpAnyH_take (i := 2) (v := ?_) rfl ?_ ?_ ?_ (fun _ _ _ h => h) (Or.inl ⟨?_, ?_⟩) ?_ ?_; rotate_left 1; (focus decide +kernel); (focus decide +kernel); (focus decide +kernel); (focus rfl); (focus (intro w hSw; (try dsimp only at hSw); go_simp; (try (with_reducible rfl)); done)); (focus assumption); (try simp only [Act.put, List.setIfInBounds_toArray, List.set_cons_zero, List.set_cons_succ, List.getElem_toArray, List.getElem_cons_succ, List.getElem_cons_zero]))
      (refine wpAnyH_take (i := 3) (v := ?_) rfl ?_ ?_ ?_ (fun _ _ _ h => h) (Or.inl ⟨?_, ?_⟩) ?_ ?_; rotate_left 1; (focus decide +kernel); (focus decide +kernel); (focus decide +kernel); (focus rfl); (focus (intro w hSw; (try dsimp only at hSw); go_simp; (try (with_reducible rfl)); done)); (focus assumption); (try simp only [Act.put, List.setIfInBounds_toArray, List.set_cons_zero, List.set_cons_succ, List.getElem_toArray, List.getElem_cons_succ, List.getElem_cons_zero]))
      (refine wpAnyH_take (i := 4) (v := ?_) rfl ?_ ?_ ?_ (fun _ _ _ h => h) (Or.inl ⟨?_, ?_⟩) ?_ ?_; rotate_left 1; (focus decide +kernel); (focus decide +kernel); (focus decide +kernel); (focus rfl); (focus (intro w hSw; (try dsimp only at hSw); go_simp; (try (with_reducible rfl)); done)); (focus assumption); (try simp only [Act.put, List.setIfInBounds_toArray, List.set_cons_zero, List.set_cons_succ, List.getElem_toArray, List.getElem_cons_succ, List.getElem_cons_zero]))
      (refine wpAnyH_take (i := 5) (v := ?_) rfl ?_ ?_ ?_ (fun _ _ _ h => h) (Or.inl ⟨?_, ?_⟩) ?_ ?_; rotate_left 1; (focus decide +kernel); (focus decide +kernel); (focus decide +kernel); (focus rfl); (focus (intro w hSw; (try dsimp only at hSw); go_simp; (try (with_reducible rfl)); done)); (focus assumption); (try simp only [Act.put, List.setIfInBounds_toArray, List.set_cons_zero, List.set_cons_succ, List.getElem_toArray, List.getElem_cons_succ, List.getElem_cons_zero]))
      refine wpAnyH_ready (rs := [1, 6]) ?_ (by simp) ?_
      · decide +kernel
      refine AllReadyH.cons rfl (fun K hK => ?_) (AllReadyH.cons rfl (fun K hK => ?_) AllReadyH.nil)
      · have kv : wD.cell? ⟨NO, 2, none⟩ = some (.slice ao5 m c5) := Go.Joins.cell_of_block (kO) 2
        go_simp
        refine hK.out _ _ ?_ (fun hHeld => ?_)
        · (try dsimp only); exact hHeld
        clear hK K kv
        (try simp only [Act.put, List.setIfInBounds_toArray, List.set_cons_zero, List.set_cons_succ, List.getElem_toArray, List.getElem_cons_succ, List.getElem_cons_zero])
        refine wpAnyH_ready (rs := [6]) ?_ (by simp) ?_
        · decide +kernel
        refine AllReadyH.cons rfl (fun K hK => ?_) AllReadyH.nil
        go_simp
        go_at_call 64
        refine (specDigits HS.out (by omega) (by have := HL5.out; omega)).mono ?_
        rw [dig_length, Int.toNat_natCast]
        rintro e wG ⟨bd, rfl, od, lo, bel⟩
        replace kO := heap_keep bel kO
        replace kT := heap_keep bel kT
        replace hR := rows_keep hR bel
        refine hK.out _ _ ?_ (fun hHeld2 => ?_)
        · (try dsimp only); exact next1_0 bel hHeld
        clear hK K hHeld lo bel
        have hHeld := hHeld2
        clear hHeld2
        (try simp only [Act.put, List.setIfInBounds_toArray, List.set_cons_zero, List.set_cons_succ, List.getElem_toArray, List.getElem_cons_succ, List.getElem_cons_zero])
        refine wpAnyH_ready (rs := [7]) ?_ (by simp) ?_
        · decide +kernel
        refine AllReadyH.cons rfl (fun K hK => ?_) AllReadyH.nil
        go_simp
        go_at_call 63
        refine (specSum od.rd HS.out (by rw [dig_length]; have := HL5.out; omega) (dig_all HS.out _ _)).mono ?_
        rw [HMi.out]
        rintro e w' ⟨rfl, hw'⟩
        subst hw'
        refine hK.out _ _ ?_ (fun hHeld => ?_)
        · (try dsimp only); exact hHeld
        clear hK K od
        (try simp only [Act.put, List.setIfInBounds_toArray, List.set_cons_zero, List.set_cons_succ, List.getElem_toArray, List.getElem_cons_succ, List.getElem_cons_zero])
        (refine wpAnyH_take (i := 8) (v := ?_) rfl ?_ ?_ ?_ (fun _ _ _ h => h) (Or.inl ⟨?_, ?_⟩) ?_ ?_; rotate_left 1; (focus decide +kernel); (focus decide +kernel); (focus decide +kernel); (focus rfl); (focus (intro w hSw; (try dsimp only at hSw); go_simp; (try (with_reducible rfl)); done)); (focus assumption); (try simp only [Act.put, List.setIfInBounds_toArray, List.set_cons_zero, List.set_cons_succ, List.getElem_toArray, List.getElem_cons_succ, List.getElem_cons_zero]))
        (refine wpAnyH_take (i := 9) (v := ?_) rfl ?_ ?_ ?_ (fun _ _ _ h => h) (Or.inl ⟨?_, ?_⟩) ?_ ?_; rotate_left 1; (focus decide +kernel); (focus decide +kernel); (focus decide +kernel); (focus rfl); (focus (intro w hSw; (try dsimp only at hSw); go_simp; (try (with_reducible rfl)); done)); (focus assumption); (try simp only [Act.put, List.setIfInBounds_toArray, List.set_cons_zero, List.set_cons_succ, List.getElem_toArray, List.getElem_cons_succ, List.getElem_cons_zero]))
        refine wpAnyH_ready (rs := [10]) ?_ (by simp) ?_
        · decide +kernel
        refine AllReadyH.cons rfl (fun K hK => ?_) AllReadyH.nil
        go_simp
        refine hK.out _ _ ?_ (fun hHeld2 => ?_)
        · (try dsimp only); have bel := below1 wG (Obj.cells #[.int .i64 x] 2); exact next1_0 bel hHeld
        clear hK K
        have hHeld1 := hHeld
        clear hHeld
        have hHeld := hHeld2
        clear hHeld2
        (try simp only [Act.put, List.setIfInBounds_toArray, List.set_cons_zero, List.set_cons_succ, List.getElem_toArray, List.getElem_cons_succ, List.getElem_cons_zero])
        refine wpAnyH_ready (rs := [11]) ?_ (by simp) ?_
        · decide +kernel
        refine AllReadyH.cons rfl (fun K hK => ?_) AllReadyH.nil
        refine op_append1 rfl _ _ rfl (NO + 1) _ _ rfl hR x rfl ?c1 ?c2 ?_
        case c1 => rw [tab_length]; omega
        case c2 => exact (Array.getElem?_eq_some_iff.1 kO).1
        intro v' w5 hown5 hbel5 g5
        have kO5 := (hbel5.block NO (Nat.lt_succ_self NO)).trans kO
        have kT5 := (hbel5.block _ (Nat.lt_of_lt_of_le HTO.out (Nat.le_succ NO))).trans kT
        have bel : Below w.heap.size wG w5 := hbel5.mono (by have := HNO.out; omega)
        refine hK.out _ _ ?_ (fun hHeld3 => ?_)
        · (try dsimp only); exact nextg1_0 g5 bel HROW.out hHeld1
        clear hK K hHeld hHeld1
        obtain ⟨b5, hb5, ho5⟩ := Own.of hown5
        rcases ho5.form with ⟨_, he⟩ | ⟨c6, rfl, _, _, _⟩
        · exact absurd he (by simp)
        rw [show (tab (totT s told L) m ++ [x]).length = m + 1 by simp [tab_length]] at hown5 ⊢
        have hHeld := hHeld3
        clear hHeld3 bel ho5 hbel5
        (try simp only [Act.put, List.setIfInBounds_toArray, List.set_cons_zero, List.set_cons_succ, List.getElem_toArray, List.getElem_cons_succ, List.getElem_cons_zero])
        (refine wpAnyH_take (i := 12) (v := ?_) rfl ?_ ?_ ?_ (fun _ _ _ h => h) (Or.inl ⟨?_, ?_⟩) ?_ ?_; rotate_left 1; (focus decide +kernel); (focus decide +kernel); (focus decide +kernel); (focus rfl); (focus (intro w hSw; (try dsimp only at hSw); go_simp; (try (with_reducible rfl)); done)); (focus assumption); (try simp only [Act.put, List.setIfInBounds_toArray, List.set_cons_zero, List.set_cons_succ, List.getElem_toArray, List.getElem_cons_succ, List.getElem_cons_zero]))
        refine wpAnyH_ready (rs := [13]) ?_ (by simp) ?_
        · decide +kernel
        refine AllReadyH.cons rfl (fun K hK => ?_) AllReadyH.nil
        have y2 : w5.cell? ⟨NO, 2, none⟩ = some (.slice ao5 m c5) := Go.Joins.cell_of_block kO5 2
        have g2 : w5.frozen? ⟨NO, 2, none⟩ = false := Go.Joins.unfrozen_of_block kO5 2
        go_simp
        have kOs := Go.Joins.block_setCell (i := 2) kO5 (.slice (some ⟨b5, 0, none⟩) (m + 1) c6)
        have hRs := rows_set hown5 ⟨NO, 2, none⟩ (.slice (some ⟨b5, 0, none⟩) (m + 1) c6) (Nat.lt_succ_self NO)
        have kTs := (Below.heap_setCell w5 ⟨NO, 2, none⟩ (.slice (some ⟨b5, 0, none⟩) (m + 1) c6) _ (Nat.ne_of_lt HTO.out)).trans kT5
        have bel : Below w.heap.size w5 (w5.setCell ⟨NO, 2, none⟩ (.slice (some ⟨b5, 0, none⟩) (m + 1) c6)) := (Below.refl _ _).setCell (by have := HNO.out; simp; omega) _
        have gs : w5.grownBy (w5.setCell ⟨NO, 2, none⟩ (.slice (some ⟨b5, 0, none⟩) (m + 1) c6)) (some NO) := setCell_grown w5 ⟨NO, 2, none⟩ (.slice (some ⟨b5, 0, none⟩) (m + 1) c6)
        obtain ⟨wS, hW⟩ : ∃ wS, wS = w5.setCell ⟨NO, 2, none⟩ (.slice (some ⟨b5, 0, none⟩) (m + 1) c6) := ⟨_, rfl⟩
        rw [← hW] at kOs hRs bel gs kTs
        refine hK.out _ _ ?_ (fun hHeld4 => ?_)
        · (try dsimp only); rw [← hW]; exact nextg1_0 gs bel HNEo.out hHeld
        clear hK K
        simp only [← hW] at hHeld4 ⊢
        clear hW y2 g2
        (try simp only [Act.put, List.setIfInBounds_toArray, List.set_cons_zero, List.set_cons_succ, List.getElem_toArray, List.getElem_cons_succ, List.getElem_cons_zero])
        refine wpAnyH_done (by kernel_rfl) ?_ _
        have hBs := hHeld4.1
        clear hHeld4 hHeld
        go_wp2
        go_roundw
        case rel =>
          refine ⟨m + 1, by omega, by go_num, hBs, kTs, some ⟨b5, 0, none⟩, c6, kOs, ?_⟩
          rw [HT.out, List.map_append, List.length_append]
          simpa [tab_length] using hRs
        case measure => simp [intOf]; omega
      · go_simp
        go_at_call 64
        refine (specDigits HS.out (by omega) (by have := HL5.out; omega)).mono ?_
        rw [dig_length, Int.toNat_natCast]
        rintro e wG ⟨bd, rfl, od, lo, bel⟩
        replace kO := heap_keep bel kO
        replace kT := heap_keep bel kT
        replace hR := rows_keep hR bel
        refine hK.out _ _ ?_ (fun hHeld2 => ?_)
        · (try dsimp only); exact next1_0 bel hHeld
        clear hK K hHeld lo bel
        have hHeld := hHeld2
        clear hHeld2
        (try simp only [Act.put, List.setIfInBounds_toArray, List.set_cons_zero, List.set_cons_succ, List.getElem_toArray, List.getElem_cons_succ, List.getElem_cons_zero])
        refine wpAnyH_ready (rs := [1, 7]) ?_ (by simp) ?_
        · decide +kernel
        refine AllReadyH.cons rfl (fun K hK => ?_) (AllReadyH.cons rfl (fun K hK => ?_) AllReadyH.nil)
        · have kv : wG.cell? ⟨NO, 2, none⟩ = some (.slice ao5 m c5) := Go.Joins.cell_of_block (kO) 2
          go_simp
          refine hK.out _ _ ?_ (fun hHeld => ?_)
          · (try dsimp only); exact hHeld
          clear hK K kv
          (try simp only [Act.put, List.setIfInBounds_toArray, List.set_cons_zero, List.set_cons_succ, List.getElem_toArray, List.getElem_cons_succ, List.getElem_cons_zero])
          refine wpAnyH_ready (rs := [7]) ?_ (by simp) ?_
          · decide +kernel
          refine AllReadyH.cons rfl (fun K hK => ?_) AllReadyH.nil
          go_simp
          go_at_call 63
          refine (specSum od.rd HS.out (by rw [dig_length]; have := HL5.out; omega) (dig_all HS.out _ _)).mono ?_
          rw [HMi.out]
          rintro e w' ⟨rfl, hw'⟩
          subst hw'
          refine hK.out _ _ ?_ (fun hHeld => ?_)
          · (try dsimp only); exact hHeld
          clear hK K od
          (try simp only [Act.put, List.setIfInBounds_toArray, List.set_cons_zero, List.set_cons_succ, List.getElem_toArray, List.getElem_cons_succ, List.getElem_cons_zero])
          (refine wpAnyH_take (i := 8) (v := ?_) rfl ?_ ?_ ?_ (fun _ _ _ h => h) (Or.inl ⟨?_, ?_⟩) ?_ ?_; rotate_left 1; (focus decide +kernel); (focus decide +kernel); (focus decide +kernel); (focus rfl); (focus (intro w hSw; (try dsimp only at hSw); go_simp; (try (with_reducible rfl)); done)); (focus assumption); (try simp only [Act.put, List.setIfInBounds_toArray, List.set_cons_zero, List.set_cons_succ, List.getElem_toArray, List.getElem_cons_succ, List.getElem_cons_zero]))
          (refine wpAnyH_take (i := 9) (v := ?_) rfl ?_ ?_ ?_ (fun _ _ _ h => h) (Or.inl ⟨?_, ?_⟩) ?_ ?_; rotate_left 1; (focus decide +kernel); (focus decide +kernel); (focus decide +kernel); (focus rfl); (focus (intro w hSw; (try dsimp only at hSw); go_simp; (try (with_reducible rfl)); done)); (focus assumption); (try simp only [Act.put, List.setIfInBounds_toArray, List.set_cons_zero, List.set_cons_succ, List.getElem_toArray, List.getElem_cons_succ, List.getElem_cons_zero]))
          refine wpAnyH_ready (rs := [10]) ?_ (by simp) ?_
          · decide +kernel
          refine AllReadyH.cons rfl (fun K hK => ?_) AllReadyH.nil
          go_simp
          refine hK.out _ _ ?_ (fun hHeld2 => ?_)
          · (try dsimp only); have bel := below1 wG (Obj.cells #[.int .i64 x] 2); exact next1_0 bel hHeld
          clear hK K
          have hHeld1 := hHeld
          clear hHeld
          have hHeld := hHeld2
          clear hHeld2
          (try simp only [Act.put, List.setIfInBounds_toArray, List.set_cons_zero, List.set_cons_succ, List.getElem_toArray, List.getElem_cons_succ, List.getElem_cons_zero])
          refine wpAnyH_ready (rs := [11]) ?_ (by simp) ?_
          · decide +kernel
          refine AllReadyH.cons rfl (fun K hK => ?_) AllReadyH.nil
          refine op_append1 rfl _ _ rfl (NO + 1) _ _ rfl hR x rfl ?c1 ?c2 ?_
          case c1 => rw [tab_length]; omega
          case c2 => exact (Array.getElem?_eq_some_iff.1 kO).1
          intro v' w5 hown5 hbel5 g5
          have kO5 := (hbel5.block NO (Nat.lt_succ_self NO)).trans kO
          have kT5 := (hbel5.block _ (Nat.lt_of_lt_of_le HTO.out (Nat.le_succ NO))).trans kT
          have bel : Below w.heap.size wG w5 := hbel5.mono (by have := HNO.out; omega)
          refine hK.out _ _ ?_ (fun hHeld3 => ?_)
          · (try dsimp only); exact nextg1_0 g5 bel HROW.out hHeld1
          clear hK K hHeld hHeld1
          obtain ⟨b5, hb5, ho5⟩ := Own.of hown5
          rcases ho5.form with ⟨_, he⟩ | ⟨c6, rfl, _, _, _⟩
          · exact absurd he (by simp)
          rw [show (tab (totT s told L) m ++ [x]).length = m + 1 by simp [tab_length]] at hown5 ⊢
          have hHeld := hHeld3
          clear hHeld3 bel ho5 hbel5
          (try simp only [Act.put, List.setIfInBounds_toArray, List.set_cons_zero, List.set_cons_succ, List.getElem_toArray, List.getElem_cons_succ, List.getElem_cons_zero])
          (refine wpAnyH_take (i := 12) (v := ?_) rfl ?_ ?_ ?_ (fun _ _ _ h => h) (Or.inl ⟨?_, ?_⟩) ?_ ?_; rotate_left 1; (focus decide +kernel); (focus decide +kernel); (focus decide +kernel); (focus rfl); (focus (intro w hSw; (try dsimp only at hSw); go_simp; (try (with_reducible rfl)); done)); (focus assumption); (try simp only [Act.put, List.setIfInBounds_toArray, List.set_cons_zero, List.set_cons_succ, List.getElem_toArray, List.getElem_cons_succ, List.getElem_cons_zero]))
          refine wpAnyH_ready (rs := [13]) ?_ (by simp) ?_
          · decide +kernel
          refine AllReadyH.cons rfl (fun K hK => ?_) AllReadyH.nil
          have y2 : w5.cell? ⟨NO, 2, none⟩ = some (.slice ao5 m c5) := Go.Joins.cell_of_block kO5 2
          have g2 : w5.frozen? ⟨NO, 2, none⟩ = false := Go.Joins.unfrozen_of_block kO5 2
          go_simp
          have kOs := Go.Joins.block_setCell (i := 2) kO5 (.slice (some ⟨b5, 0, none⟩) (m + 1) c6)
          have hRs := rows_set hown5 ⟨NO, 2, none⟩ (.slice (some ⟨b5, 0, none⟩) (m + 1) c6) (Nat.lt_succ_self NO)
          have kTs := (Below.heap_setCell w5 ⟨NO, 2, none⟩ (.slice (some ⟨b5, 0, none⟩) (m + 1) c6) _ (Nat.ne_of_lt HTO.out)).trans kT5
          have bel : Below w.heap.size w5 (w5.setCell ⟨NO, 2, none⟩ (.slice (some ⟨b5, 0, none⟩) (m + 1) c6)) := (Below.refl _ _).setCell (by have := HNO.out; simp; omega) _
          have gs : w5.grownBy (w5.setCell ⟨NO, 2, none⟩ (.slice (some ⟨b5, 0, none⟩) (m + 1) c6)) (some NO) := setCell_grown w5 ⟨NO, 2, none⟩ (.slice (some ⟨b5, 0, none⟩) (m + 1) c6)
          obtain ⟨wS, hW⟩ : ∃ wS, wS = w5.setCell ⟨NO, 2, none⟩ (.slice (some ⟨b5, 0, none⟩) (m + 1) c6) := ⟨_, rfl⟩
          rw [← hW] at kOs hRs bel gs kTs
          refine hK.out _ _ ?_ (fun hHeld4 => ?_)
          · (try dsimp only); rw [← hW]; exact nextg1_0 gs bel HNEo.out hHeld
          clear hK K
          simp only [← hW] at hHeld4 ⊢
          clear hW y2 g2
          (try simp only [Act.put, List.setIfInBounds_toArray, List.set_cons_zero, List.set_cons_succ, List.getElem_toArray, List.getElem_cons_succ, List.getElem_cons_zero])
          refine wpAnyH_done (by kernel_rfl) ?_ _
          have hBs := hHeld4.1
          clear hHeld4 hHeld
          go_wp2
          go_roundw
          case rel =>
            refine ⟨m + 1, by omega, by go_num, hBs, kTs, some ⟨b5, 0, none⟩, c6, kOs, ?_⟩
            rw [HT.out, List.map_append, List.length_append]
            simpa [tab_length] using hRs
          case measure => simp [intOf]; omega
        · go_simp
          go_at_call 63
          refine (specSum od.rd HS.out (by rw [dig_length]; have := HL5.out; omega) (dig_all HS.out _ _)).mono ?_
          rw [HMi.out]
          rintro e w' ⟨rfl, hw'⟩
          subst hw'
          refine hK.out _ _ ?_ (fun hHeld => ?_)
          · (try dsimp only); exact hHeld
          clear hK K od
          (try simp only [Act.put, List.setIfInBounds_toArray, List.set_cons_zero, List.set_cons_succ, List.getElem_toArray, List.getElem_cons_succ, List.getElem_cons_zero])
          (refine wpAnyH_take (i := 8) (v := ?_) rfl ?_ ?_ ?_ (fun _ _ _ h => h) (Or.inl ⟨?_, ?_⟩) ?_ ?_; rotate_left 1; (focus decide +kernel); (focus decide +kernel); (focus decide +kernel); (focus rfl); (focus (intro w hSw; (try dsimp only at hSw); go_simp; (try (with_reducible rfl)); done)); (focus assumption); (try simp only [Act.put, List.setIfInBounds_toArray, List.set_cons_zero, List.set_cons_succ, List.getElem_toArray, List.getElem_cons_succ, List.getElem_cons_zero]))
          (refine wpAnyH_take (i := 9) (v := ?_) rfl ?_ ?_ ?_ (fun _ _ _ h => h) (Or.inl ⟨?_, ?_⟩) ?_ ?_; rotate_left 1; (focus decide +kernel); (focus decide +kernel); (focus decide +kernel); (focus rfl); (focus (intro w hSw; (try dsimp only at hSw); go_simp; (try (with_reducible rfl)); done)); (focus assumption); (try simp only [Act.put, List.setIfInBounds_toArray, List.set_cons_zero, List.set_cons_succ, List.getElem_toArray, List.getElem_cons_succ, List.getElem_cons_zero]))
          refine wpAnyH_ready (rs := [1, 10]) ?_ (by simp) ?_
          · decide +kernel
          refine AllReadyH.cons rfl (fun K hK => ?_) (AllReadyH.cons rfl (fun K hK => ?_) AllReadyH.nil)
          · have kv : wG.cell? ⟨NO, 2, none⟩ = some (.slice ao5 m c5) := Go.Joins.cell_of_block (kO) 2
            go_simp
            refine hK.out _ _ ?_ (fun hHeld => ?_)
            · (try dsimp only); exact hHeld
            clear hK K kv
            (try simp only [Act.put, List.setIfInBounds_toArray, List.set_cons_zero, List.set_cons_succ, List.getElem_toArray, List.getElem_cons_succ, List.getElem_cons_zero])
            refine wpAnyH_ready (rs := [10]) ?_ (by simp) ?_
            · decide +kernel
            refine AllReadyH.cons rfl (fun K hK => ?_) AllReadyH.nil
            go_simp
            refine hK.out _ _ ?_ (fun hHeld2 => ?_)
            · (try dsimp only); have bel := below1 wG (Obj.cells #[.int .i64 x] 2); exact next1_0 bel hHeld
            clear hK K
            have hHeld1 := hHeld
            clear hHeld
            have hHeld := hHeld2
            clear hHeld2
            (try simp only [Act.put, List.setIfInBounds_toArray, List.set_cons_zero, List.set_cons_succ, List.getElem_toArray, List.getElem_cons_succ, List.getElem_cons_zero])
            refine wpAnyH_ready (rs := [11]) ?_ (by simp) ?_
            · decide +kernel
            refine AllReadyH.cons rfl (fun K hK => ?_) AllReadyH.nil
            refine op_append1 rfl _ _ rfl (NO + 1) _ _ rfl hR x rfl ?c1 ?c2 ?_
            case c1 => rw [tab_length]; omega
            case c2 => exact (Array.getElem?_eq_some_iff.1 kO).1
            intro v' w5 hown5 hbel5 g5
            have kO5 := (hbel5.block NO (Nat.lt_succ_self NO)).trans kO
            have kT5 := (hbel5.block _ (Nat.lt_of_lt_of_le HTO.out (Nat.le_succ NO))).trans kT
            have bel : Below w.heap.size wG w5 := hbel5.mono (by have := HNO.out; omega)
            refine hK.out _ _ ?_ (fun hHeld3 => ?_)
            · (try dsimp only); exact nextg1_0 g5 bel HROW.out hHeld1
            clear hK K hHeld hHeld1
            obtain ⟨b5, hb5, ho5⟩ := Own.of hown5
            rcases ho5.form with ⟨_, he⟩ | ⟨c6, rfl, _, _, _⟩
            · exact absurd he (by simp)
            rw [show (tab (totT s told L) m ++ [x]).length = m + 1 by simp [tab_length]] at hown5 ⊢
            have hHeld := hHeld3
            clear hHeld3 bel ho5 hbel5
            (try simp only [Act.put, List.setIfInBounds_toArray, List.set_cons_zero, List.set_cons_succ, List.getElem_toArray, List.getElem_cons_succ, List.getElem_cons_zero])
            (refine wpAnyH_take (i := 12) (v := ?_) rfl ?_ ?_ ?_ (fun _ _ _ h => h) (Or.inl ⟨?_, ?_⟩) ?_ ?_; rotate_left 1; (focus decide +kernel); (focus decide +kernel); (focus decide +kernel); (focus rfl); (focus (intro w hSw; (try dsimp only at hSw); go_simp; (try (with_reducible rfl)); done)); (focus assumption); (try simp only [Act.put, List.setIfInBounds_toArray, List.set_cons_zero, List.set_cons_succ, List.getElem_toArray, List.getElem_cons_succ, List.getElem_cons_zero]))
            refine wpAnyH_ready (rs := [13]) ?_ (by simp) ?_
            · decide +kernel
            refine AllReadyH.cons rfl (fun K hK => ?_) AllReadyH.nil
            have y2 : w5.cell? ⟨NO, 2, none⟩ = some (.slice ao5 m c5) := Go.Joins.cell_of_block kO5 2
            have g2 : w5.frozen? ⟨NO, 2, none⟩ = false := Go.Joins.unfrozen_of_block kO5 2
            go_simp
            have kOs := Go.Joins.block_setCell (i := 2) kO5 (.slice (some ⟨b5, 0, none⟩) (m + 1) c6)
            have hRs := rows_set hown5 ⟨NO, 2, none⟩ (.slice (some ⟨b5, 0, none⟩) (m + 1) c6) (Nat.lt_succ_self NO)
            have kTs := (Below.heap_setCell w5 ⟨NO, 2, none⟩ (.slice (some ⟨b5, 0, none⟩) (m + 1) c6) _ (Nat.ne_of_lt HTO.out)).trans kT5
            have bel : Below w.heap.size w5 (w5.setCell ⟨NO, 2, none⟩ (.slice (some ⟨b5, 0, none⟩) (m + 1) c6)) := (Below.refl _ _).setCell (by have := HNO.out; simp; omega) _
            have gs : w5.grownBy (w5.setCell ⟨NO, 2, none⟩ (.slice (some ⟨b5, 0, none⟩) (m + 1) c6)) (some NO) := setCell_grown w5 ⟨NO, 2, none⟩ (.slice (some ⟨b5, 0, none⟩) (m + 1) c6)
            obtain ⟨wS, hW⟩ : ∃ wS, wS = w5.setCell ⟨NO, 2, none⟩ (.slice (some ⟨b5, 0, none⟩) (m + 1) c6) := ⟨_, rfl⟩
            rw [← hW] at kOs hRs bel gs kTs
            refine hK.out _ _ ?_ (fun hHeld4 => ?_)
            · (try dsimp only); rw [← hW]; exact nextg1_0 gs bel HNEo.out hHeld
            clear hK K
            simp only [← hW] at hHeld4 ⊢
            clear hW y2 g2
            (try simp only [Act.put, List.setIfInBounds_toArray, List.set_cons_zero, List.set_cons_succ, List.getElem_toArray, List.getElem_cons_succ, List.getElem_cons_zero])
            refine wpAnyH_done (by kernel_rfl) ?_ _
            have hBs := hHeld4.1
            clear hHeld4 hHeld
            go_wp2
            go_roundw
            case rel =>
              refine ⟨m + 1, by omega, by go_num, hBs, kTs, some ⟨b5, 0, none⟩, c6, kOs, ?_⟩
              rw [HT.out, List.map_append, List.length_append]
              simpa [tab_length] using hRs
            case measure => simp [intOf]; omega
          · go_simp
            refine hK.out _ _ ?_ (fun hHeld2 => ?_)
            · (try dsimp only); have bel := below1 wG (Obj.cells #[.int .i64 x] 2); exact next1_0 bel hHeld
            clear hK K
            have hHeld1 := hHeld
            clear hHeld
            have hHeld := hHeld2
            clear hHeld2
            (try simp only [Act.put, List.setIfInBounds_toArray, List.set_cons_zero, List.set_cons_succ, List.getElem_toArray, List.getElem_cons_succ, List.getElem_cons_zero])
            refine wpAnyH_ready (rs := [1]) ?_ (by simp) ?_
            · decide +kernel
            refine AllReadyH.cons rfl (fun K hK => ?_) AllReadyH.nil
            have kv : (wG.alloc (Obj.cells #[.int .i64 x] 2)).cell? ⟨NO, 2, none⟩ = some (.slice ao5 m c5) := Go.Joins.cell_of_block (heap_old kO) 2
            go_simp
            refine hK.out _ _ ?_ (fun hHeld => ?_)
            · (try dsimp only); exact hHeld
            clear hK K kv
            (try simp only [Act.put, List.setIfInBounds_toArray, List.set_cons_zero, List.set_cons_succ, List.getElem_toArray, List.getElem_cons_succ, List.getElem_cons_zero])
            refine wpAnyH_ready (rs := [11]) ?_ (by simp) ?_
            · decide +kernel
            refine AllReadyH.cons rfl (fun K hK => ?_) AllReadyH.nil
            refine op_append1 rfl _ _ rfl (NO + 1) _ _ rfl hR x rfl ?c1 ?c2 ?_
            case c1 => rw [tab_length]; omega
            case c2 => exact (Array.getElem?_eq_some_iff.1 kO).1
            intro v' w5 hown5 hbel5 g5
            have kO5 := (hbel5.block NO (Nat.lt_succ_self NO)).trans kO
            have kT5 := (hbel5.block _ (Nat.lt_of_lt_of_le HTO.out (Nat.le_succ NO))).trans kT
            have bel : Below w.heap.size wG w5 := hbel5.mono (by have := HNO.out; omega)
            refine hK.out _ _ ?_ (fun hHeld3 => ?_)
            · (try dsimp only); exact nextg1_0 g5 bel HROW.out hHeld1
            clear hK K hHeld hHeld1
            obtain ⟨b5, hb5, ho5⟩ := Own.of hown5
            rcases ho5.form with ⟨_, he⟩ | ⟨c6, rfl, _, _, _⟩
            · exact absurd he (by simp)
            rw [show (tab (totT s told L) m ++ [x]).length = m + 1 by simp [tab_length]] at hown5 ⊢
            have hHeld := hHeld3
            clear hHeld3 bel ho5 hbel5
            (try simp only [Act.put, List.setIfInBounds_toArray, List.set_cons_zero, List.set_cons_succ, List.getElem_toArray, List.getElem_cons_succ, List.getElem_cons_zero])
            (refine wpAnyH_take (i := 12) (v := ?_) rfl ?_ ?_ ?_ (fun _ _ _ h => h) (Or.inl ⟨?_, ?_⟩) ?_ ?_; rotate_left 1; (focus decide +kernel); (focus decide +kernel); (focus decide +kernel); (focus rfl); (focus (intro w hSw; (try dsimp only at hSw); go_simp; (try (with_reducible rfl)); done)); (focus assumption); (try simp only [Act.put, List.setIfInBounds_toArray, List.set_cons_zero, List.set_cons_succ, List.getElem_toArray, List.getElem_cons_succ, List.getElem_cons_zero]))
            refine wpAnyH_ready (rs := [13]) ?_ (by simp) ?_
            · decide +kernel
            refine AllReadyH.cons rfl (fun K hK => ?_) AllReadyH.nil
            have y2 : w5.cell? ⟨NO, 2, none⟩ = some (.slice ao5 m c5) := Go.Joins.cell_of_block kO5 2
            have g2 : w5.frozen? ⟨NO, 2, none⟩ = false := Go.Joins.unfrozen_of_block kO5 2
            go_simp
            have kOs := Go.Joins.block_setCell (i := 2) kO5 (.slice (some ⟨b5, 0, none⟩) (m + 1) c6)
            have hRs := rows_set hown5 ⟨NO, 2, none⟩ (.slice (some ⟨b5, 0, none⟩) (m + 1) c6) (Nat.lt_succ_self NO)
            have kTs := (Below.heap_setCell w5 ⟨NO, 2, none⟩ (.slice (some ⟨b5, 0, none⟩) (m + 1) c6) _ (Nat.ne_of_lt HTO.out)).trans kT5
            have bel : Below w.heap.size w5 (w5.setCell ⟨NO, 2, none⟩ (.slice (some ⟨b5, 0, none⟩) (m + 1) c6)) := (Below.refl _ _).setCell (by have := HNO.out; simp; omega) _
            have gs : w5.grownBy (w5.setCell ⟨NO, 2, none⟩ (.slice (some ⟨b5, 0, none⟩) (m + 1) c6)) (some NO) := setCell_grown w5 ⟨NO, 2, none⟩ (.slice (some ⟨b5, 0, none⟩) (m + 1) c6)
            obtain ⟨wS, hW⟩ : ∃ wS, wS = w5.setCell ⟨NO, 2, none⟩ (.slice (some ⟨b5, 0, none⟩) (m + 1) c6) := ⟨_, rfl⟩
            rw [← hW] at kOs hRs bel gs kTs
            refine hK.out _ _ ?_ (fun hHeld4 => ?_)
            · (try dsimp only); rw [← hW]; exact nextg1_0 gs bel HNEo.out hHeld
            clear hK K
            simp only [← hW] at hHeld4 ⊢
            clear hW y2 g2
            (try simp only [Act.put, List.setIfInBounds_toArray, List.set_cons_zero, List.set_cons_succ, List.getElem_toArray, List.getElem_cons_succ, List.getElem_cons_zero])
            refine wpAnyH_done (by kernel_rfl) ?_ _
            have hBs := hHeld4.1
            clear hHeld4 hHeld
            go_wp2
            go_roundw
            case rel =>
              refine ⟨m + 1, by omega, by go_num, hBs, kTs, some ⟨b5, 0, none⟩, c6, kOs, ?_⟩
              rw [HT.out, List.map_append, List.length_append]
              simpa [tab_length] using hRs
            case measure => simp [intOf]; omega
    · have hkn : m = M := by omega
      subst hkn
      obtain ⟨b', hb', o'⟩ := Own.of hR
      have hbs : b' < wr.heap.size := by
        rcases o'.form with ⟨_, hz⟩ | ⟨_, _, _, _, hz⟩
        · have h1 := congrArg List.length hz; rw [tab_length] at h1; simp at h1; omega
        · exact hz
      have x0 : wr.cell? ⟨NO, 0, none⟩ = some (.int .i64 s) := Go.Joins.cell_of_block kO 0
      have x1 : wr.cell? ⟨NO, 1, none⟩ = some (.int .i64 r) := Go.Joins.cell_of_block kO 1
      have x2 : wr.cell? ⟨NO, 2, none⟩ = some (.slice ao5 m c5) := Go.Joins.cell_of_block kO 2
      have hneb : NT ≠ b' := by have := HTO.out; omega
      have HNB := hid hneb
      have HLo : Hid (w.heap.size ≤ b') := by have := HNO.out; simp only [Hid]; omega
      have HB0 := hid bel0
      have HO0 := hid o'
      have HkT := hid kT
      have HBs := hid hbs
      clear bel0 hR kO o' hb' hneb kT hbs HB
      go_wp2_with fail
      go_at_call 62
      refine hpw.mono ?_
      clear hpw
      rintro e w' ⟨rfl, hw'⟩
      subst hw'
      go_wp2_with fail
      go_at_call 65
      refine (giveNo HO0.out.rd HV.out).mono ?_
      rintro e w5 ⟨rfl, bel⟩
      have kb := heap_keep bel HkT.out
      have HB := hid (HB0.out.trans (bel.mono HB0.out.size))
      clear bel x0 x1 x2
      have y0 : w5.cell? ⟨NT, 0, none⟩ = some (.int .i64 0) := Go.Joins.cell_of_block kb 0
      have y1 : w5.cell? ⟨NT, 1, none⟩ = some (.int .i64 0) := Go.Joins.cell_of_block kb 1
      have y2 : w5.cell? ⟨NT, 2, none⟩ = some (.slice none 0 0) := Go.Joins.cell_of_block kb 2
      have g0 : w5.frozen? ⟨NT, 0, none⟩ = false := Go.Joins.unfrozen_of_block kb 0
      have g1 : w5.frozen? ⟨NT, 1, none⟩ = false := Go.Joins.unfrozen_of_block kb 1
      have g2 : w5.frozen? ⟨NT, 2, none⟩ = false := Go.Joins.unfrozen_of_block kb 2
      have HKx := hid kb
      clear kb
      go_wp2
      obtain ⟨W5, hW⟩ : ∃ W5, W5 = (((w5.setCell ⟨NT, 0, none⟩ (.int .i64 0)).setCell ⟨NT, 1, none⟩ (.int .i64 0)).setCell ⟨NT, 2, none⟩ (.slice none 0 0)) := ⟨_, rfl⟩
      have q0 := (Go.Joins.block_setCell (i := 2) (Go.Joins.block_setCell (i := 1) (Go.Joins.block_setCell (i := 0) HKx.out (.int .i64 0)) (.int .i64 0)) (.slice none 0 0))
      rw [← hW] at q0
      have z0 : W5.cell? ⟨NT, 0, none⟩ = some (.int .i64 0) := Go.Joins.cell_of_block q0 0
      have z1 : W5.cell? ⟨NT, 1, none⟩ = some (.int .i64 0) := Go.Joins.cell_of_block q0 1
      have z2 : W5.cell? ⟨NT, 2, none⟩ = some (.slice none 0 0) := Go.Joins.cell_of_block q0 2
      have B5 : Below w.heap.size w W5 := by
        have h1 := HNT.out
        rw [hW]
        exact ((HB.out.setCell (by simp; omega) _).setCell (by simp; omega) _).setCell (by simp; omega) _
      simp only [← hW]
      clear hW q0
      simp [bodyPost, results, Try.results23, go_sem, z0, z1, z2]
      exact B5

end Go.Proofs.Ytiijabiijkdhcaa.TotS
