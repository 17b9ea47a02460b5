/- Votes: the closure of the program. -/
import Derived.Test.YthcbhbdgbiiagaaNf
import Derived.Deep.Cut

namespace Go.Proofs.Ythcbhbdgbiiagaa.VtI
open Go.RowKit Go.Proofs.Ythcbhbdgbiiagaa.Rd Go.Proofs.Ythcbhbdgbiiagaa.Help Go.Proofs.Ythcbhbdgbiiagaa.Ring Go.Proofs.Ythcbhbdgbiiagaa.Small Go.Proofs.Ythcbhbdgbiiagaa.FVal Go.Proofs.Ythcbhbdgbiiagaa.Keep Go.Proofs.Ythcbhbdgbiiagaa.Rule Go.Proofs.Ythcbhbdgbiiagaa.Grow Go.Proofs.Ythcbhbdgbiiagaa.Arr Go.Proofs.Ythcbhbdgbiiagaa.Lf Go.Proofs.Ythcbhbdgbiiagaa.Frm Go.Proofs.Ythcbhbdgbiiagaa.Nf
set_option linter.unusedVariables false
set_option linter.unusedSimpArgs false

/-- The table of votes. -/
def vtab : List Int := tabL [5, 6, 7, 8] [4, 5, 6, 7, 8] 4 5
/-- The closure's boxes: the table and round. -/
def Vot (w : World) (NA NR : Nat) (rd : Bool) : Prop := w.heap[NA]? = some (Obj.cells (cellsA vtab) 123) ∧ w.heap[NR]? = some (Obj.cells #[.bool rd] 4)
theorem Vot.keep {w w' : World} {NA NR : Nat} {rd : Bool} (h : Vot w NA NR rd) (bel : Below w.heap.size w w') : Vot w' NA NR rd := ⟨heap_keep bel h.1, heap_keep bel h.2⟩
def votF (NA NR : Nat) : Value := .func (.func 101) #[] #[.pointer (some ⟨NA, 0, none⟩), .pointer (some ⟨NR, 0, none⟩)]

set_option maxHeartbeats 4000000 in
theorem voting {w : World} {rd : Bool} :
    Calls Try.prog 54 #[.bool rd] w fun e w' => ∃ NA NR, e = .returned (.func (.func 101) #[] #[.pointer (some ⟨NA, 0, none⟩), .pointer (some ⟨NR, 0, none⟩)]) ∧ Vot w' NA NR rd ∧ w.heap.size ≤ NA ∧ w.heap.size ≤ NR ∧ Below w.heap.size w w' := by
  have hmf : ∀ (fn : Fn) (first cap : Array Value) (w : World), (Instr.makeFunc fn first cap).run Try.prog w = .ok (.func fn first cap) w := fun _ _ _ _ => rfl
  have HZZ : Hid (#[.int .i64 0, .int .i64 0, .int .i64 0, .int .i64 0, .int .i64 0, .int .i64 0, .int .i64 0, .int .i64 0, .int .i64 0, .int .i64 0, .int .i64 0, .int .i64 0, .int .i64 0, .int .i64 0, .int .i64 0, .int .i64 0, .int .i64 0, .int .i64 0] = cellsA (List.replicate 18 0)) := by show _ = _; rfl
  go_enter Try.func54, Try.ntmps54
  go_wp2_with fail
  obtain ⟨w1, hW⟩ : ∃ w1, w1 = ((w.alloc (Obj.cells #[.bool rd] 4)).alloc (Obj.cells #[.int .i64 5, .int .i64 6, .int .i64 7, .int .i64 8] 2)).alloc (Obj.cells #[.int .i64 4, .int .i64 5, .int .i64 6, .int .i64 7, .int .i64 8] 2) := ⟨_, rfl⟩
  obtain ⟨NR, hR⟩ : ∃ NR, NR = w.heap.size := ⟨_, rfl⟩
  obtain ⟨NX, hX⟩ : ∃ NX, NX = NR + 1 := ⟨_, rfl⟩
  obtain ⟨NY, hY⟩ : ∃ NY, NY = NX + 1 := ⟨_, rfl⟩
  have bel1 : Below w.heap.size w w1 := by rw [hW]; exact Go.Joins.below_alloc3 _ _ _ _
  have kR : w1.heap[NR]? = some (Obj.cells #[.bool rd] 4) := by rw [hW]; exact FNew.heap_old (FNew.heap_old (FNew.heap_top hR))
  have rX : Rd w1 NX (.slice (some ⟨NX, 0, none⟩) 4 4) [5, 6, 7, 8] := by
    refine ⟨some ⟨NX, 0, none⟩, 4, rfl, by simp, by unfold maxLen; omega, fun _ => ⟨0, rfl, by rw [hW, hX, hR]; simp, fun i hi => ?_⟩⟩
    have kX : w1.heap[NX]? = some (Obj.cells #[.int .i64 5, .int .i64 6, .int .i64 7, .int .i64 8] 2) := by rw [hW]; exact FNew.heap_old (FNew.heap_top (by rw [hX, hR]; simp))
    simp at hi
    rcases (show i = 0 ∨ i = 1 ∨ i = 2 ∨ i = 3 by omega) with rfl | rfl | rfl | rfl
    · exact Go.Joins.cell_of_block kX 0
    · exact Go.Joins.cell_of_block kX 1
    · exact Go.Joins.cell_of_block kX 2
    · exact Go.Joins.cell_of_block kX 3
  have rY : Rd w1 NY (.slice (some ⟨NY, 0, none⟩) 5 5) [4, 5, 6, 7, 8] := by
    refine ⟨some ⟨NY, 0, none⟩, 5, rfl, by simp, by unfold maxLen; omega, fun _ => ⟨0, rfl, by rw [hW, hY, hX, hR]; simp, fun i hi => ?_⟩⟩
    have kY : w1.heap[NY]? = some (Obj.cells #[.int .i64 4, .int .i64 5, .int .i64 6, .int .i64 7, .int .i64 8] 2) := by rw [hW]; exact FNew.heap_top (by rw [hY, hX, hR]; simp)
    simp at hi
    rcases (show i = 0 ∨ i = 1 ∨ i = 2 ∨ i = 3 ∨ i = 4 by omega) with rfl | rfl | rfl | rfl | rfl
    · exact Go.Joins.cell_of_block kY 0
    · exact Go.Joins.cell_of_block kY 1
    · exact Go.Joins.cell_of_block kY 2
    · exact Go.Joins.cell_of_block kY 3
    · exact Go.Joins.cell_of_block kY 4
  have HNR : Hid (w.heap.size ≤ NR) := by simp only [Hid]; omega
  simp only [← hW, ← hR, ← hX, ← hY]
  clear hW hR hX hY
  go_at_call 100
  refine (tableOfLife rX rY (by decide) (by decide)).mono ?_
  rintro e w2 ⟨rfl, bel2⟩
  have kR2 := heap_keep bel2 kR
  have HB2 := hid (bel1.trans (bel2.mono bel1.size))
  have HKR := hid kR2
  clear bel1 bel2 kR kR2 rX rY
  have hst : (storeCells ⟨w2.heap.size, 0, none⟩ (cellsA (tabL [5, 6, 7, 8] [4, 5, 6, 7, 8] 4 5)).toList).run Try.prog (w2.alloc (Obj.cells #[.int .i64 0, .int .i64 0, .int .i64 0, .int .i64 0, .int .i64 0, .int .i64 0, .int .i64 0, .int .i64 0, .int .i64 0, .int .i64 0, .int .i64 0, .int .i64 0, .int .i64 0, .int .i64 0, .int .i64 0, .int .i64 0, .int .i64 0, .int .i64 0] 123)) = .ok () ((w2.alloc (Obj.cells #[.int .i64 0, .int .i64 0, .int .i64 0, .int .i64 0, .int .i64 0, .int .i64 0, .int .i64 0, .int .i64 0, .int .i64 0, .int .i64 0, .int .i64 0, .int .i64 0, .int .i64 0, .int .i64 0, .int .i64 0, .int .i64 0, .int .i64 0, .int .i64 0] 123)).setRow w2.heap.size (cellsA (tabL [5, 6, 7, 8] [4, 5, 6, 7, 8] 4 5))) := by
    have hz : (w2.alloc (Obj.cells #[.int .i64 0, .int .i64 0, .int .i64 0, .int .i64 0, .int .i64 0, .int .i64 0, .int .i64 0, .int .i64 0, .int .i64 0, .int .i64 0, .int .i64 0, .int .i64 0, .int .i64 0, .int .i64 0, .int .i64 0, .int .i64 0, .int .i64 0, .int .i64 0] 123)).heap[w2.heap.size]? = some (.cells #[.int .i64 0, .int .i64 0, .int .i64 0, .int .i64 0, .int .i64 0, .int .i64 0, .int .i64 0, .int .i64 0, .int .i64 0, .int .i64 0, .int .i64 0, .int .i64 0, .int .i64 0, .int .i64 0, .int .i64 0, .int .i64 0, .int .i64 0, .int .i64 0] 123 (0, 0)) := FNew.heap_top rfl
    have := run_storeCells_from (P := Try.prog) w2.heap.size 123 (cellsA (tabL [5, 6, 7, 8] [4, 5, 6, 7, 8] 4 5)).toList 0 #[.int .i64 0, .int .i64 0, .int .i64 0, .int .i64 0, .int .i64 0, .int .i64 0, .int .i64 0, .int .i64 0, .int .i64 0, .int .i64 0, .int .i64 0, .int .i64 0, .int .i64 0, .int .i64 0, .int .i64 0, .int .i64 0, .int .i64 0, .int .i64 0] (w2.alloc (Obj.cells #[.int .i64 0, .int .i64 0, .int .i64 0, .int .i64 0, .int .i64 0, .int .i64 0, .int .i64 0, .int .i64 0, .int .i64 0, .int .i64 0, .int .i64 0, .int .i64 0, .int .i64 0, .int .i64 0, .int .i64 0, .int .i64 0, .int .i64 0, .int .i64 0] 123)) hz (by rw [Array.length_toList, cellsA_size, tabL_len]; rfl) (fun v hv => (Array.all_eq_true_iff_forall_mem.1 (cellsA_one _)) v (by simpa using hv))
    rw [List.take_zero, List.nil_append, Array.toArray_toList] at this
    exact this
  go_wp2
  clear hst
  have q1 := setRow_heap (w2.alloc (Obj.cells #[.int .i64 0, .int .i64 0, .int .i64 0, .int .i64 0, .int .i64 0, .int .i64 0, .int .i64 0, .int .i64 0, .int .i64 0, .int .i64 0, .int .i64 0, .int .i64 0, .int .i64 0, .int .i64 0, .int .i64 0, .int .i64 0, .int .i64 0, .int .i64 0] 123)) w2.heap.size _ (cellsA (tabL [5, 6, 7, 8] [4, 5, 6, 7, 8] 4 5)) 123 (0, 0) (FNew.heap_top rfl)
  have q2 := (setRow_other (w2.alloc (Obj.cells #[.int .i64 0, .int .i64 0, .int .i64 0, .int .i64 0, .int .i64 0, .int .i64 0, .int .i64 0, .int .i64 0, .int .i64 0, .int .i64 0, .int .i64 0, .int .i64 0, .int .i64 0, .int .i64 0, .int .i64 0, .int .i64 0, .int .i64 0, .int .i64 0] 123)) w2.heap.size NR (cellsA (tabL [5, 6, 7, 8] [4, 5, 6, 7, 8] 4 5)) (Nat.ne_of_lt (heap_lt HKR.out))).trans (heap_keep (below1 _ _) HKR.out)
  have q3 : Below w.heap.size w ((w2.alloc (Obj.cells #[.int .i64 0, .int .i64 0, .int .i64 0, .int .i64 0, .int .i64 0, .int .i64 0, .int .i64 0, .int .i64 0, .int .i64 0, .int .i64 0, .int .i64 0, .int .i64 0, .int .i64 0, .int .i64 0, .int .i64 0, .int .i64 0, .int .i64 0, .int .i64 0] 123)).setRow w2.heap.size (cellsA (tabL [5, 6, 7, 8] [4, 5, 6, 7, 8] 4 5))) := below_setRow (HB2.out.trans ((below1 _ _).mono HB2.out.size)) HB2.out.size _
  go_ret
  exact ⟨w2.heap.size, NR, rfl, ⟨q1, q2⟩, HB2.out.size, HNR.out, q3⟩

set_option maxHeartbeats 8000000 in
theorem votClo {w : World} {NA NR : Nat} {R C n : Nat} {rd : Bool} {b : Nat} {v : Value} {zs : List Int} (hv : Vot w NA NR rd) (h : Rd w b v zs) (hq : fieldB R C zs = true) (hn : n = R * C) (hpl : plainB zs = true) :
    Calls Try.prog 101 #[ruleV R C v, .pointer (some ⟨NA, 0, none⟩), .pointer (some ⟨NR, 0, none⟩)] w fun e w' => ∃ b', e = .returned (ruleV R C (.slice (some ⟨b', 0, none⟩) n n)) ∧ Own 2 w' b' (.slice (some ⟨b', 0, none⟩) n n) (lifeL [5, 6, 7, 8] [4, 5, 6, 7, 8] zs R C rd) ∧ w.heap.size ≤ b' ∧ Below w.heap.size w w' := by
  have HV := hid hv
  have HQ := hid hq
  have HN := hid hn
  have HPL := hid hpl
  have HH := hid h
  obtain ⟨ao, cap, rfl, hc, hm, _⟩ := h
  clear hv hq hn hpl hc hm
  go_enter Try.func101, Try.ntmps101
  go_upto_region 1 with fail
  obtain ⟨w1, hW⟩ : ∃ w1, w1 = (w.alloc (Obj.cells #[.int .i64 R, .int .i64 C, .slice ao zs.length cap] 26)).alloc (Obj.cells #[.int .i64 0, .int .i64 0, .slice none 0 0] 26) := ⟨_, rfl⟩
  obtain ⟨N, hN⟩ : ∃ N, N = w.heap.size := ⟨_, rfl⟩
  obtain ⟨NT, hT⟩ : ∃ NT, NT = N + 1 := ⟨_, rfl⟩
  have bel1 : Below w.heap.size w w1 := by rw [hW]; exact Go.Joins.below_alloc2 _ _ _
  have c0 : w1.cell? ⟨N, 0, none⟩ = some (.int .i64 R) := by rw [hW, hN]; simp
  have c1 : w1.cell? ⟨N, 1, none⟩ = some (.int .i64 C) := by rw [hW, hN]; simp
  have c2 : w1.cell? ⟨N, 2, none⟩ = some (.slice ao zs.length cap) := by rw [hW, hN]; simp
  have kT : w1.heap[NT]? = some (Obj.cells #[.int .i64 0, .int .i64 0, .slice none 0 0] 26) := by rw [hW]; exact FNew.heap_top (by rw [hT, hN]; simp)
  have HNT : Hid (w.heap.size ≤ NT) := by simp only [Hid]; omega
  have vo := HV.out.keep bel1
  have vr : w1.cell? ⟨NR, 0, none⟩ = some (.bool rd) := Go.Joins.cell_of_block vo.2 0
  have HVA := hid vo.1
  have HR1 := hid (HH.out.keep bel1 (Nat.le_refl _))
  have HB1 := hid bel1
  have HKT := hid kT
  simp only [← hW, ← hN, ← hT]
  clear hW hN hT vo bel1 kT
  refine wp_region_lit ?_
  refine wpList_load_row rfl 123 _ rfl NA rfl 123 _ (0, 0) _ HVA.out Try.underlying123 rfl (by rw [cellsA_size]; unfold vtab; rw [tabL_len]; kernel_rfl) ?_
  go_wp2_with fail
  go_at_call 102
  refine (Nf.nextField HR1.out HQ.out HN.out HPL.out).mono ?_
  rintro e w5 ⟨b', rfl, ow, lo, bel⟩
  have kT := heap_keep bel HKT.out
  have HNB : Hid (NT ≠ b') := Nat.ne_of_lt (Nat.lt_of_lt_of_le (heap_lt HKT.out) lo)
  have HLo : Hid (w.heap.size ≤ b') := Nat.le_trans HB1.out.size lo
  have HB := hid (HB1.out.trans (bel.mono HB1.out.size))
  have HO := hid ow
  clear bel ow lo c0 c1 c2 vr
  have y0 : w5.cell? ⟨NT, 0, none⟩ = some (.int .i64 0) := Go.Joins.cell_of_block kT 0
  have y1 : w5.cell? ⟨NT, 1, none⟩ = some (.int .i64 0) := Go.Joins.cell_of_block kT 1
  have y2 : w5.cell? ⟨NT, 2, none⟩ = some (.slice none 0 0) := Go.Joins.cell_of_block kT 2
  have g0 : w5.frozen? ⟨NT, 0, none⟩ = false := Go.Joins.unfrozen_of_block kT 0
  have g1 : w5.frozen? ⟨NT, 1, none⟩ = false := Go.Joins.unfrozen_of_block kT 1
  have g2 : w5.frozen? ⟨NT, 2, none⟩ = false := Go.Joins.unfrozen_of_block kT 2
  have HKx := hid kT
  clear kT
  go_wp2
  obtain ⟨W5, hW⟩ : ∃ W5, W5 = (((w5.setCell ⟨NT, 0, none⟩ (.int .i64 R)).setCell ⟨NT, 1, none⟩ (.int .i64 C)).setCell ⟨NT, 2, none⟩ (.slice (some ⟨b', 0, none⟩) n n)) := ⟨_, rfl⟩
  have q0 := (Go.Joins.block_setCell (i := 2) (Go.Joins.block_setCell (i := 1) (Go.Joins.block_setCell (i := 0) HKx.out (.int .i64 R)) (.int .i64 C)) (.slice (some ⟨b', 0, none⟩) n n))
  rw [← hW] at q0
  have z0 : W5.cell? ⟨NT, 0, none⟩ = some (.int .i64 R) := Go.Joins.cell_of_block q0 0
  have z1 : W5.cell? ⟨NT, 1, none⟩ = some (.int .i64 C) := Go.Joins.cell_of_block q0 1
  have z2 : W5.cell? ⟨NT, 2, none⟩ = some (.slice (some ⟨b', 0, none⟩) n n) := Go.Joins.cell_of_block q0 2
  have O5 := (own_set (own_set (own_set HO.out ⟨NT, 0, none⟩ (.int .i64 R) HNB.out) ⟨NT, 1, none⟩ (.int .i64 C) HNB.out) ⟨NT, 2, none⟩ (.slice (some ⟨b', 0, none⟩) n n) HNB.out)
  rw [← hW] at O5
  have B5 : Below w.heap.size w W5 := by
    have h1 := HNT.out
    rw [hW]
    exact ((HB.out.setCell (by simp; omega) _).setCell (by simp; omega) _).setCell (by simp; omega) _
  simp only [← hW]
  clear hW q0
  simp [bodyPost, results, Try.results101, go_sem, z0, z1, z2]
  exact ⟨O5, HLo.out, B5⟩

end Go.Proofs.Ythcbhbdgbiiagaa.VtI
