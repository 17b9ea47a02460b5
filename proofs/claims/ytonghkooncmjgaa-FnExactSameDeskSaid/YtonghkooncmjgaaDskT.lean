/- A desk: the law's helpers, second part. -/
import Derived.Test.YtonghkooncmjgaaDsk
import Derived.WideShapes
namespace Go.Proofs.Ytonghkooncmjgaa.DskT
open Go.RowKit Go.Proofs.Ytonghkooncmjgaa.Rd Go.Proofs.Ytonghkooncmjgaa.Help Go.Proofs.Ytonghkooncmjgaa.Keep Go.Proofs.Ytonghkooncmjgaa.Rule Go.Proofs.Ytonghkooncmjgaa.Dsk
set_option linter.unusedVariables false
set_option linter.unusedSimpArgs false

set_option maxHeartbeats 8000000 in
theorem toD {w : World} {s r s2 r2 : Int} {b1 b2 b3 b4 b5 : Nat} {v1 v2 v3 v4 v5 : Value} {z1 z2 z3 z4 z5 : List Int} (h1 : Rd w b1 v1 z1) (h2 : Rd w b2 v2 z2) (h3 : Rd w b3 v3 z3) (h4 : Rd w b4 v4 z4) (h5 : Rd w b5 v5 z5) (l : z1.length ≤ 1048576 ∧ z2.length ≤ 1048576 ∧ z3.length ≤ 1048576 ∧ z4.length ≤ 1048576 ∧ z5.length ≤ 1048576) :
    Calls Try.prog 19 #[deskV s r v1 v2 s2 r2 v3 v4 v5] w fun e w' => ∃ c1 c2 c3 c4 c5, e = .returned (deskV s r (.slice (some ⟨c1, 0, none⟩) z1.length z1.length) (.slice (some ⟨c2, 0, none⟩) z2.length z2.length) s2 r2 (.slice (some ⟨c3, 0, none⟩) z3.length z3.length) (.slice (some ⟨c4, 0, none⟩) z4.length z4.length) (.slice (some ⟨c5, 0, none⟩) z5.length z5.length)) ∧
      Own 2 w' c1 (.slice (some ⟨c1, 0, none⟩) z1.length z1.length) z1 ∧ Own 2 w' c2 (.slice (some ⟨c2, 0, none⟩) z2.length z2.length) z2 ∧ Own 2 w' c3 (.slice (some ⟨c3, 0, none⟩) z3.length z3.length) z3 ∧ Own 2 w' c4 (.slice (some ⟨c4, 0, none⟩) z4.length z4.length) z4 ∧ Own 2 w' c5 (.slice (some ⟨c5, 0, none⟩) z5.length z5.length) z5 ∧ w.heap.size ≤ c1 ∧ c1 < c2 ∧ c2 < c3 ∧ c3 < c4 ∧ c4 < c5 ∧ Below w.heap.size w w' := by
  have HL := hid l
  clear l
  have HH1 := hid h1
  have HH2 := hid h2
  have HH3 := hid h3
  have HH4 := hid h4
  have HH5 := hid h5
  obtain ⟨ao1, cap1, rfl, hc1, hm1, _⟩ := h1
  obtain ⟨ao2, cap2, rfl, hc2, hm2, _⟩ := h2
  obtain ⟨ao3, cap3, rfl, hc3, hm3, _⟩ := h3
  obtain ⟨ao4, cap4, rfl, hc4, hm4, _⟩ := h4
  obtain ⟨ao5, cap5, rfl, hc5, hm5, _⟩ := h5
  clear hc1 hm1 hc2 hm2 hc3 hm3 hc4 hm4 hc5 hm5
  go_enter Try.func19, Try.ntmps19
  go_wp2_with fail
  obtain ⟨w1, hW⟩ : ∃ x, x = ((w.alloc (Obj.cells #[.int .i64 s, .int .i64 r, .slice ao1 z1.length cap1, .slice ao2 z2.length cap2, .int .i64 s2, .int .i64 r2, .slice ao3 z3.length cap3, .slice ao4 z4.length cap4, .slice ao5 z5.length cap5] 30)).alloc (Obj.cells #[.int .i64 0, .int .i64 0, .slice none 0 0, .slice none 0 0, .int .i64 0, .int .i64 0, .slice none 0 0, .slice none 0 0, .slice none 0 0] 37)).alloc (Obj.cells #[.int .i64 0, .int .i64 0, .slice none 0 0, .slice none 0 0, .int .i64 0, .int .i64 0, .slice none 0 0, .slice none 0 0, .slice none 0 0] 37) := ⟨_, rfl⟩
  obtain ⟨NA, hA⟩ : ∃ NA, NA = w.heap.size := ⟨_, rfl⟩
  obtain ⟨NR, hR⟩ : ∃ NR, NR = NA + 1 := ⟨_, rfl⟩
  obtain ⟨NO, hO⟩ : ∃ NO, NO = NR + 1 := ⟨_, rfl⟩
  have HB1 : Hid (Below w.heap.size w w1) := by simp only [Hid]; rw [hW]; exact Go.Joins.below_alloc3 _ _ _ _
  have kA : w1.heap[NA]? = some (Obj.cells #[.int .i64 s, .int .i64 r, .slice ao1 z1.length cap1, .slice ao2 z2.length cap2, .int .i64 s2, .int .i64 r2, .slice ao3 z3.length cap3, .slice ao4 z4.length cap4, .slice ao5 z5.length cap5] 30) := by rw [hW]; exact FNew.heap_old (FNew.heap_old (FNew.heap_top hA))
  have kR : w1.heap[NR]? = some (Obj.cells #[.int .i64 0, .int .i64 0, .slice none 0 0, .slice none 0 0, .int .i64 0, .int .i64 0, .slice none 0 0, .slice none 0 0, .slice none 0 0] 37) := by rw [hW]; exact FNew.heap_old (FNew.heap_top (by rw [hR, hA]; simp))
  have kO : w1.heap[NO]? = some (Obj.cells #[.int .i64 0, .int .i64 0, .slice none 0 0, .slice none 0 0, .int .i64 0, .int .i64 0, .slice none 0 0, .slice none 0 0, .slice none 0 0] 37) := by rw [hW]; exact FNew.heap_top (by rw [hO, hR, hA]; simp)
  have hz : NA + 3 ≤ w1.heap.size := by rw [hW, hA]; simp
  have HNs : Hid (NA = w.heap.size ∧ NR = NA + 1 ∧ NO = NR + 1) := ⟨hA, hR, hO⟩
  simp only [← hW, ← hA, ← hR, ← hO]
  clear hW hA hR hO
  have a0 : w1.cell? ⟨NA, 0, none⟩ = some (.int .i64 s) := Go.Joins.cell_of_block kA 0
  have a1 : w1.cell? ⟨NA, 1, none⟩ = some (.int .i64 r) := Go.Joins.cell_of_block kA 1
  have a2 : w1.cell? ⟨NA, 2, none⟩ = some (.slice ao1 z1.length cap1) := Go.Joins.cell_of_block kA 2
  go_at_call 44
  refine (HelpQ.toR (HH1.out.keep HB1.out (Nat.le_refl _)) HL.out.1).mono ?_
  rintro e w2 ⟨c1, rfl, own1, lo1, bel⟩
  have HB2 := hid (HB1.out.trans (bel.mono HB1.out.size))
  replace kA := heap_keep bel kA
  replace kR := heap_keep bel kR
  replace kO := heap_keep bel kO
  have hc1 : NA + 3 ≤ c1 := by omega
  replace hz : NA + 3 ≤ w2.heap.size := by have := bel.size; omega
  clear bel a0 a1 a2
  have x0 : w2.cell? ⟨NO, 0, none⟩ = some (.int .i64 0) := Go.Joins.cell_of_block kO 0
  have f0 : w2.frozen? ⟨NO, 0, none⟩ = false := Go.Joins.unfrozen_of_block kO 0
  have x1 : w2.cell? ⟨NO, 1, none⟩ = some (.int .i64 0) := Go.Joins.cell_of_block kO 1
  have f1 : w2.frozen? ⟨NO, 1, none⟩ = false := Go.Joins.unfrozen_of_block kO 1
  have x2 : w2.cell? ⟨NO, 2, none⟩ = some (.slice none 0 0) := Go.Joins.cell_of_block kO 2
  have f2 : w2.frozen? ⟨NO, 2, none⟩ = false := Go.Joins.unfrozen_of_block kO 2
  have y3 : w2.cell? ⟨NA, 3, none⟩ = some (.slice ao2 z2.length cap2) := Go.Joins.cell_of_block kA 3
  have HK := hid (And.intro kA (And.intro kR kO))
  have K_own1 := hid own1
  have K_hz := hid hz
  have K_hc1 := hid hc1
  have K_lo1 := hid lo1
  clear kA kR kO own1 hz hc1 lo1
  go_wp2_with fail
  have own1 := K_own1.out
  have hz := K_hz.out
  have hc1 := K_hc1.out
  have lo1 := K_lo1.out
  clear K_own1 K_hz K_hc1 K_lo1
  obtain ⟨w3, hW⟩ : ∃ x, x = (((w2.setCell ⟨NO, 0, none⟩ (.int .i64 s)).setCell ⟨NO, 1, none⟩ (.int .i64 r)).setCell ⟨NO, 2, none⟩ (.slice (some ⟨c1, 0, none⟩) z1.length z1.length)) := ⟨_, rfl⟩
  obtain ⟨kA, kR, kO⟩ := id HK.out
  replace kO : w3.heap[NO]? = some (Obj.cells #[.int .i64 s, .int .i64 r, .slice (some ⟨c1, 0, none⟩) z1.length z1.length, .slice none 0 0, .int .i64 0, .int .i64 0, .slice none 0 0, .slice none 0 0, .slice none 0 0] 37) := by rw [hW]; exact (Go.Joins.block_setCell (i := 2) (Go.Joins.block_setCell (i := 1) (Go.Joins.block_setCell (i := 0) kO _) _) _)
  replace kA : w3.heap[NA]? = some (Obj.cells #[.int .i64 s, .int .i64 r, .slice ao1 z1.length cap1, .slice ao2 z2.length cap2, .int .i64 s2, .int .i64 r2, .slice ao3 z3.length cap3, .slice ao4 z4.length cap4, .slice ao5 z5.length cap5] 30) := by rw [hW, Below.heap_setCell _ _ _ _ (by have := HNs.out; simp; omega), Below.heap_setCell _ _ _ _ (by have := HNs.out; simp; omega), Below.heap_setCell _ _ _ _ (by have := HNs.out; simp; omega)]; exact kA
  replace kR : w3.heap[NR]? = some (Obj.cells #[.int .i64 0, .int .i64 0, .slice none 0 0, .slice none 0 0, .int .i64 0, .int .i64 0, .slice none 0 0, .slice none 0 0, .slice none 0 0] 37) := by rw [hW, Below.heap_setCell _ _ _ _ (by have := HNs.out; simp; omega), Below.heap_setCell _ _ _ _ (by have := HNs.out; simp; omega), Below.heap_setCell _ _ _ _ (by have := HNs.out; simp; omega)]; exact kR
  have HB3 : Hid (Below w.heap.size w w3) := by simp only [Hid]; rw [hW]; have := HNs.out; exact (((HB2.out.setCell (by simp; omega) _).setCell (by simp; omega) _).setCell (by simp; omega) _)
  replace own1 : Own 2 w3 c1 (.slice (some ⟨c1, 0, none⟩) z1.length z1.length) z1 := by rw [hW]; have := HNs.out; exact (own_set (own_set (own_set own1 _ _ (by simp; omega)) _ _ (by simp; omega)) _ _ (by simp; omega))
  have hs' : w3.heap.size = w2.heap.size := by rw [hW]; simp
  replace hz : NA + 3 ≤ w3.heap.size := by omega
  have lt1 : c1 < w3.heap.size := own1.lt
  simp only [← hW]
  clear hW hs' HK x0 f0 x1 f1 x2 f2 y3
  have a3 : w3.cell? ⟨NA, 3, none⟩ = some (.slice ao2 z2.length cap2) := Go.Joins.cell_of_block kA 3
  go_wp2_with fail
  go_at_call 29
  refine (toSE (HH2.out.keep HB3.out (Nat.le_refl _)) HL.out.2.1).mono ?_
  rintro e w4 ⟨c2, rfl, own2, lo2, bel⟩
  have HB4 := hid (HB3.out.trans (bel.mono HB3.out.size))
  replace kA := heap_keep bel kA
  replace kR := heap_keep bel kR
  replace kO := heap_keep bel kO
  replace own1 := own1.keep bel
  have hc2 : c1 < c2 := by have := lt1; omega
  replace hz : NA + 3 ≤ w4.heap.size := by have := bel.size; omega
  clear bel a3
  have x3 : w4.cell? ⟨NO, 3, none⟩ = some (.slice none 0 0) := Go.Joins.cell_of_block kO 3
  have f3 : w4.frozen? ⟨NO, 3, none⟩ = false := Go.Joins.unfrozen_of_block kO 3
  have y4 : w4.cell? ⟨NA, 4, none⟩ = some (.int .i64 s2) := Go.Joins.cell_of_block kA 4
  have y5 : w4.cell? ⟨NA, 5, none⟩ = some (.int .i64 r2) := Go.Joins.cell_of_block kA 5
  have y6 : w4.cell? ⟨NA, 6, none⟩ = some (.slice ao3 z3.length cap3) := Go.Joins.cell_of_block kA 6
  have HK := hid (And.intro kA (And.intro kR kO))
  have K_own1 := hid own1
  have K_own2 := hid own2
  have K_hz := hid hz
  have K_hc1 := hid hc1
  have K_hc2 := hid hc2
  have K_lo1 := hid lo1
  have K_lo2 := hid lo2
  have K_lt1 := hid lt1
  clear kA kR kO own1 own2 hz hc1 hc2 lo1 lo2 lt1
  go_wp2_with fail
  have own1 := K_own1.out
  have own2 := K_own2.out
  have hz := K_hz.out
  have hc1 := K_hc1.out
  have hc2 := K_hc2.out
  have lo1 := K_lo1.out
  have lo2 := K_lo2.out
  have lt1 := K_lt1.out
  clear K_own1 K_own2 K_hz K_hc1 K_hc2 K_lo1 K_lo2 K_lt1
  obtain ⟨w5, hW⟩ : ∃ x, x = (w4.setCell ⟨NO, 3, none⟩ (.slice (some ⟨c2, 0, none⟩) z2.length z2.length)) := ⟨_, rfl⟩
  obtain ⟨kA, kR, kO⟩ := id HK.out
  replace kO : w5.heap[NO]? = some (Obj.cells #[.int .i64 s, .int .i64 r, .slice (some ⟨c1, 0, none⟩) z1.length z1.length, .slice (some ⟨c2, 0, none⟩) z2.length z2.length, .int .i64 0, .int .i64 0, .slice none 0 0, .slice none 0 0, .slice none 0 0] 37) := by rw [hW]; exact (Go.Joins.block_setCell (i := 3) kO _)
  replace kA : w5.heap[NA]? = some (Obj.cells #[.int .i64 s, .int .i64 r, .slice ao1 z1.length cap1, .slice ao2 z2.length cap2, .int .i64 s2, .int .i64 r2, .slice ao3 z3.length cap3, .slice ao4 z4.length cap4, .slice ao5 z5.length cap5] 30) := by rw [hW, Below.heap_setCell _ _ _ _ (by have := HNs.out; simp; omega)]; exact kA
  replace kR : w5.heap[NR]? = some (Obj.cells #[.int .i64 0, .int .i64 0, .slice none 0 0, .slice none 0 0, .int .i64 0, .int .i64 0, .slice none 0 0, .slice none 0 0, .slice none 0 0] 37) := by rw [hW, Below.heap_setCell _ _ _ _ (by have := HNs.out; simp; omega)]; exact kR
  have HB5 : Hid (Below w.heap.size w w5) := by simp only [Hid]; rw [hW]; have := HNs.out; exact (HB4.out.setCell (by simp; omega) _)
  replace own1 : Own 2 w5 c1 (.slice (some ⟨c1, 0, none⟩) z1.length z1.length) z1 := by rw [hW]; have := HNs.out; exact (own_set own1 _ _ (by simp; omega))
  replace own2 : Own 2 w5 c2 (.slice (some ⟨c2, 0, none⟩) z2.length z2.length) z2 := by rw [hW]; have := HNs.out; exact (own_set own2 _ _ (by simp; omega))
  have hs' : w5.heap.size = w4.heap.size := by rw [hW]; simp
  replace hz : NA + 3 ≤ w5.heap.size := by omega
  have lt2 : c2 < w5.heap.size := own2.lt
  simp only [← hW]
  clear hW hs' HK x3 f3 y4 y5 y6
  have a4 : w5.cell? ⟨NA, 4, none⟩ = some (.int .i64 s2) := Go.Joins.cell_of_block kA 4
  have a5 : w5.cell? ⟨NA, 5, none⟩ = some (.int .i64 r2) := Go.Joins.cell_of_block kA 5
  have a6 : w5.cell? ⟨NA, 6, none⟩ = some (.slice ao3 z3.length cap3) := Go.Joins.cell_of_block kA 6
  go_wp2_with fail
  go_at_call 68
  refine (toR (HH3.out.keep HB5.out (Nat.le_refl _)) HL.out.2.2.1).mono ?_
  rintro e w6 ⟨c3, rfl, own3, lo3, bel⟩
  have HB6 := hid (HB5.out.trans (bel.mono HB5.out.size))
  replace kA := heap_keep bel kA
  replace kR := heap_keep bel kR
  replace kO := heap_keep bel kO
  replace own1 := own1.keep bel
  replace own2 := own2.keep bel
  have hc3 : c2 < c3 := by have := lt2; omega
  replace hz : NA + 3 ≤ w6.heap.size := by have := bel.size; omega
  clear bel a4 a5 a6
  have x4 : w6.cell? ⟨NO, 4, none⟩ = some (.int .i64 0) := Go.Joins.cell_of_block kO 4
  have f4 : w6.frozen? ⟨NO, 4, none⟩ = false := Go.Joins.unfrozen_of_block kO 4
  have x5 : w6.cell? ⟨NO, 5, none⟩ = some (.int .i64 0) := Go.Joins.cell_of_block kO 5
  have f5 : w6.frozen? ⟨NO, 5, none⟩ = false := Go.Joins.unfrozen_of_block kO 5
  have x6 : w6.cell? ⟨NO, 6, none⟩ = some (.slice none 0 0) := Go.Joins.cell_of_block kO 6
  have f6 : w6.frozen? ⟨NO, 6, none⟩ = false := Go.Joins.unfrozen_of_block kO 6
  have y7 : w6.cell? ⟨NA, 7, none⟩ = some (.slice ao4 z4.length cap4) := Go.Joins.cell_of_block kA 7
  have y8 : w6.cell? ⟨NA, 8, none⟩ = some (.slice ao5 z5.length cap5) := Go.Joins.cell_of_block kA 8
  have HK := hid (And.intro kA (And.intro kR kO))
  have K_own1 := hid own1
  have K_own2 := hid own2
  have K_own3 := hid own3
  have K_hz := hid hz
  have K_hc1 := hid hc1
  have K_hc2 := hid hc2
  have K_hc3 := hid hc3
  have K_lo1 := hid lo1
  have K_lo2 := hid lo2
  have K_lo3 := hid lo3
  have K_lt1 := hid lt1
  have K_lt2 := hid lt2
  clear kA kR kO own1 own2 own3 hz hc1 hc2 hc3 lo1 lo2 lo3 lt1 lt2
  go_wp2_with fail
  have own1 := K_own1.out
  have own2 := K_own2.out
  have own3 := K_own3.out
  have hz := K_hz.out
  have hc1 := K_hc1.out
  have hc2 := K_hc2.out
  have hc3 := K_hc3.out
  have lo1 := K_lo1.out
  have lo2 := K_lo2.out
  have lo3 := K_lo3.out
  have lt1 := K_lt1.out
  have lt2 := K_lt2.out
  clear K_own1 K_own2 K_own3 K_hz K_hc1 K_hc2 K_hc3 K_lo1 K_lo2 K_lo3 K_lt1 K_lt2
  obtain ⟨w7, hW⟩ : ∃ x, x = (((w6.setCell ⟨NO, 4, none⟩ (.int .i64 s2)).setCell ⟨NO, 5, none⟩ (.int .i64 r2)).setCell ⟨NO, 6, none⟩ (.slice (some ⟨c3, 0, none⟩) z3.length z3.length)) := ⟨_, rfl⟩
  obtain ⟨kA, kR, kO⟩ := id HK.out
  replace kO : w7.heap[NO]? = some (Obj.cells #[.int .i64 s, .int .i64 r, .slice (some ⟨c1, 0, none⟩) z1.length z1.length, .slice (some ⟨c2, 0, none⟩) z2.length z2.length, .int .i64 s2, .int .i64 r2, .slice (some ⟨c3, 0, none⟩) z3.length z3.length, .slice none 0 0, .slice none 0 0] 37) := by rw [hW]; exact (Go.Joins.block_setCell (i := 6) (Go.Joins.block_setCell (i := 5) (Go.Joins.block_setCell (i := 4) kO _) _) _)
  replace kA : w7.heap[NA]? = some (Obj.cells #[.int .i64 s, .int .i64 r, .slice ao1 z1.length cap1, .slice ao2 z2.length cap2, .int .i64 s2, .int .i64 r2, .slice ao3 z3.length cap3, .slice ao4 z4.length cap4, .slice ao5 z5.length cap5] 30) := by rw [hW, Below.heap_setCell _ _ _ _ (by have := HNs.out; simp; omega), Below.heap_setCell _ _ _ _ (by have := HNs.out; simp; omega), Below.heap_setCell _ _ _ _ (by have := HNs.out; simp; omega)]; exact kA
  replace kR : w7.heap[NR]? = some (Obj.cells #[.int .i64 0, .int .i64 0, .slice none 0 0, .slice none 0 0, .int .i64 0, .int .i64 0, .slice none 0 0, .slice none 0 0, .slice none 0 0] 37) := by rw [hW, Below.heap_setCell _ _ _ _ (by have := HNs.out; simp; omega), Below.heap_setCell _ _ _ _ (by have := HNs.out; simp; omega), Below.heap_setCell _ _ _ _ (by have := HNs.out; simp; omega)]; exact kR
  have HB7 : Hid (Below w.heap.size w w7) := by simp only [Hid]; rw [hW]; have := HNs.out; exact (((HB6.out.setCell (by simp; omega) _).setCell (by simp; omega) _).setCell (by simp; omega) _)
  replace own1 : Own 2 w7 c1 (.slice (some ⟨c1, 0, none⟩) z1.length z1.length) z1 := by rw [hW]; have := HNs.out; exact (own_set (own_set (own_set own1 _ _ (by simp; omega)) _ _ (by simp; omega)) _ _ (by simp; omega))
  replace own2 : Own 2 w7 c2 (.slice (some ⟨c2, 0, none⟩) z2.length z2.length) z2 := by rw [hW]; have := HNs.out; exact (own_set (own_set (own_set own2 _ _ (by simp; omega)) _ _ (by simp; omega)) _ _ (by simp; omega))
  replace own3 : Own 2 w7 c3 (.slice (some ⟨c3, 0, none⟩) z3.length z3.length) z3 := by rw [hW]; have := HNs.out; exact (own_set (own_set (own_set own3 _ _ (by simp; omega)) _ _ (by simp; omega)) _ _ (by simp; omega))
  have hs' : w7.heap.size = w6.heap.size := by rw [hW]; simp
  replace hz : NA + 3 ≤ w7.heap.size := by omega
  have lt3 : c3 < w7.heap.size := own3.lt
  simp only [← hW]
  clear hW hs' HK x4 f4 x5 f5 x6 f6 y7 y8
  have a7 : w7.cell? ⟨NA, 7, none⟩ = some (.slice ao4 z4.length cap4) := Go.Joins.cell_of_block kA 7
  have a8 : w7.cell? ⟨NA, 8, none⟩ = some (.slice ao5 z5.length cap5) := Go.Joins.cell_of_block kA 8
  go_wp2_with fail
  go_at_call 34
  refine (toL (HH4.out.keep HB7.out (Nat.le_refl _)) (HH5.out.keep HB7.out (Nat.le_refl _)) HL.out.2.2.2.1 HL.out.2.2.2.2).mono ?_
  rintro e w8 ⟨c4, c5, rfl, own4, own5, lo4, lo5, bel⟩
  have HB8 := hid (HB7.out.trans (bel.mono HB7.out.size))
  replace kA := heap_keep bel kA
  replace kR := heap_keep bel kR
  replace kO := heap_keep bel kO
  replace own1 := own1.keep bel
  replace own2 := own2.keep bel
  replace own3 := own3.keep bel
  have hc4 : c3 < c4 := by have := lt3; omega
  have hc5 : c4 < c5 := lo5
  replace hz : NA + 3 ≤ w8.heap.size := by have := bel.size; omega
  clear bel a7 a8
  obtain ⟨A, hA⟩ : ∃ A : Array Value, A = #[.slice (some ⟨c4, 0, none⟩) z4.length z4.length, .slice (some ⟨c5, 0, none⟩) z5.length z5.length] := ⟨_, rfl⟩
  obtain ⟨W7, hW⟩ : ∃ x, x = ((w8.setCell ⟨NO, 7, none⟩ (.slice (some ⟨c4, 0, none⟩) z4.length z4.length)).setCell ⟨NO, 8, none⟩ (.slice (some ⟨c5, 0, none⟩) z5.length z5.length)) := ⟨_, rfl⟩
  have hst : (storeCells ⟨NO, 7, none⟩ A.toList).run Try.prog w8 = .ok () W7 := by
    have x7 : w8.cell? ⟨NO, 7, none⟩ = some (.slice none 0 0) := Go.Joins.cell_of_block kO 7
    have f7 : w8.frozen? ⟨NO, 7, none⟩ = false := Go.Joins.unfrozen_of_block kO 7
    have x8 : w8.cell? ⟨NO, 8, none⟩ = some (.slice none 0 0) := Go.Joins.cell_of_block kO 8
    have f8 : w8.frozen? ⟨NO, 8, none⟩ = false := Go.Joins.unfrozen_of_block kO 8
    rw [hA, hW]
    simp [storeCells, go_sem, Addr.add, x7, x8, f7, f8]
  replace kO : W7.heap[NO]? = some (Obj.cells #[.int .i64 s, .int .i64 r, .slice (some ⟨c1, 0, none⟩) z1.length z1.length, .slice (some ⟨c2, 0, none⟩) z2.length z2.length, .int .i64 s2, .int .i64 r2, .slice (some ⟨c3, 0, none⟩) z3.length z3.length, .slice (some ⟨c4, 0, none⟩) z4.length z4.length, .slice (some ⟨c5, 0, none⟩) z5.length z5.length] 37) := by rw [hW]; exact (Go.Joins.block_setCell (i := 8) (Go.Joins.block_setCell (i := 7) kO _) _)
  replace kR : W7.heap[NR]? = some (Obj.cells #[.int .i64 0, .int .i64 0, .slice none 0 0, .slice none 0 0, .int .i64 0, .int .i64 0, .slice none 0 0, .slice none 0 0, .slice none 0 0] 37) := by rw [hW, Below.heap_setCell _ _ _ _ (by have := HNs.out; simp; omega), Below.heap_setCell _ _ _ _ (by have := HNs.out; simp; omega)]; exact kR
  have B7 : Below w.heap.size w W7 := by rw [hW]; have := HNs.out; exact ((HB8.out.setCell (by simp; omega) _).setCell (by simp; omega) _)
  replace own1 : Own 2 W7 c1 (.slice (some ⟨c1, 0, none⟩) z1.length z1.length) z1 := by rw [hW]; have := HNs.out; exact (own_set (own_set own1 _ _ (by simp; omega)) _ _ (by simp; omega))
  replace own2 : Own 2 W7 c2 (.slice (some ⟨c2, 0, none⟩) z2.length z2.length) z2 := by rw [hW]; have := HNs.out; exact (own_set (own_set own2 _ _ (by simp; omega)) _ _ (by simp; omega))
  replace own3 : Own 2 W7 c3 (.slice (some ⟨c3, 0, none⟩) z3.length z3.length) z3 := by rw [hW]; have := HNs.out; exact (own_set (own_set own3 _ _ (by simp; omega)) _ _ (by simp; omega))
  replace own4 : Own 2 W7 c4 (.slice (some ⟨c4, 0, none⟩) z4.length z4.length) z4 := by rw [hW]; have := HNs.out; exact (own_set (own_set own4 _ _ (by simp; omega)) _ _ (by simp; omega))
  replace own5 : Own 2 W7 c5 (.slice (some ⟨c5, 0, none⟩) z5.length z5.length) z5 := by rw [hW]; have := HNs.out; exact (own_set (own_set own5 _ _ (by simp; omega)) _ _ (by simp; omega))
  replace hz : NA + 3 ≤ W7.heap.size := by rw [hW]; simpa using hz
  have H7 := hid (And.intro kR (And.intro B7 (And.intro own1 (And.intro own2 (And.intro own3 (And.intro own4 (And.intro own5 hz)))))))
  have HCs := hid (And.intro hc1 (And.intro hc2 (And.intro hc3 (And.intro hc4 hc5))))
  have hAs : A.size = 2 := by rw [hA]; rfl
  simp only [lifeV, ← hA]
  have t0 : W7.cell? ⟨NR, 0, none⟩ = some (.int .i64 0) := Go.Joins.cell_of_block kR 0
  have g0 : W7.frozen? ⟨NR, 0, none⟩ = false := Go.Joins.unfrozen_of_block kR 0
  have x0 : W7.cell? ⟨NO, 0, none⟩ = some (.int .i64 s) := Go.Joins.cell_of_block kO 0
  have t1 : W7.cell? ⟨NR, 1, none⟩ = some (.int .i64 0) := Go.Joins.cell_of_block kR 1
  have g1 : W7.frozen? ⟨NR, 1, none⟩ = false := Go.Joins.unfrozen_of_block kR 1
  have x1 : W7.cell? ⟨NO, 1, none⟩ = some (.int .i64 r) := Go.Joins.cell_of_block kO 1
  have t2 : W7.cell? ⟨NR, 2, none⟩ = some (.slice none 0 0) := Go.Joins.cell_of_block kR 2
  have g2 : W7.frozen? ⟨NR, 2, none⟩ = false := Go.Joins.unfrozen_of_block kR 2
  have x2 : W7.cell? ⟨NO, 2, none⟩ = some (.slice (some ⟨c1, 0, none⟩) z1.length z1.length) := Go.Joins.cell_of_block kO 2
  have t3 : W7.cell? ⟨NR, 3, none⟩ = some (.slice none 0 0) := Go.Joins.cell_of_block kR 3
  have g3 : W7.frozen? ⟨NR, 3, none⟩ = false := Go.Joins.unfrozen_of_block kR 3
  have x3 : W7.cell? ⟨NO, 3, none⟩ = some (.slice (some ⟨c2, 0, none⟩) z2.length z2.length) := Go.Joins.cell_of_block kO 3
  have t4 : W7.cell? ⟨NR, 4, none⟩ = some (.int .i64 0) := Go.Joins.cell_of_block kR 4
  have g4 : W7.frozen? ⟨NR, 4, none⟩ = false := Go.Joins.unfrozen_of_block kR 4
  have x4 : W7.cell? ⟨NO, 4, none⟩ = some (.int .i64 s2) := Go.Joins.cell_of_block kO 4
  have t5 : W7.cell? ⟨NR, 5, none⟩ = some (.int .i64 0) := Go.Joins.cell_of_block kR 5
  have g5 : W7.frozen? ⟨NR, 5, none⟩ = false := Go.Joins.unfrozen_of_block kR 5
  have x5 : W7.cell? ⟨NO, 5, none⟩ = some (.int .i64 r2) := Go.Joins.cell_of_block kO 5
  have t6 : W7.cell? ⟨NR, 6, none⟩ = some (.slice none 0 0) := Go.Joins.cell_of_block kR 6
  have g6 : W7.frozen? ⟨NR, 6, none⟩ = false := Go.Joins.unfrozen_of_block kR 6
  have x6 : W7.cell? ⟨NO, 6, none⟩ = some (.slice (some ⟨c3, 0, none⟩) z3.length z3.length) := Go.Joins.cell_of_block kO 6
  have t7 : W7.cell? ⟨NR, 7, none⟩ = some (.slice none 0 0) := Go.Joins.cell_of_block kR 7
  have g7 : W7.frozen? ⟨NR, 7, none⟩ = false := Go.Joins.unfrozen_of_block kR 7
  have x7 : W7.cell? ⟨NO, 7, none⟩ = some (.slice (some ⟨c4, 0, none⟩) z4.length z4.length) := Go.Joins.cell_of_block kO 7
  have t8 : W7.cell? ⟨NR, 8, none⟩ = some (.slice none 0 0) := Go.Joins.cell_of_block kR 8
  have g8 : W7.frozen? ⟨NR, 8, none⟩ = false := Go.Joins.unfrozen_of_block kR 8
  have x8 : W7.cell? ⟨NO, 8, none⟩ = some (.slice (some ⟨c5, 0, none⟩) z5.length z5.length) := Go.Joins.cell_of_block kO 8
  clear hW hA kA kR kO B7 own1 own2 own3 own4 own5 hz hc1 hc2 hc3 hc4 hc5 lo1 lo2 lo3 lo4 lo5 lt1 lt2 lt3
  go_wp2
  obtain ⟨kR, B7, own1, own2, own3, own4, own5, hz⟩ := id H7.out
  obtain ⟨hA, hR, hO⟩ := id HNs.out
  obtain ⟨hc1, hc2, hc3, hc4, hc5⟩ := id HCs.out
  obtain ⟨W9, hW⟩ : ∃ x, x = (((((((((W7.setCell ⟨NR, 0, none⟩ (.int .i64 s)).setCell ⟨NR, 1, none⟩ (.int .i64 r)).setCell ⟨NR, 2, none⟩ (.slice (some ⟨c1, 0, none⟩) z1.length z1.length)).setCell ⟨NR, 3, none⟩ (.slice (some ⟨c2, 0, none⟩) z2.length z2.length)).setCell ⟨NR, 4, none⟩ (.int .i64 s2)).setCell ⟨NR, 5, none⟩ (.int .i64 r2)).setCell ⟨NR, 6, none⟩ (.slice (some ⟨c3, 0, none⟩) z3.length z3.length)).setCell ⟨NR, 7, none⟩ (.slice (some ⟨c4, 0, none⟩) z4.length z4.length)).setCell ⟨NR, 8, none⟩ (.slice (some ⟨c5, 0, none⟩) z5.length z5.length)) := ⟨_, rfl⟩
  have q1 : (W7.setCell ⟨NR, 0, none⟩ (.int .i64 s)).heap[NR]? = some (Obj.cells #[.int .i64 s, .int .i64 0, .slice none 0 0, .slice none 0 0, .int .i64 0, .int .i64 0, .slice none 0 0, .slice none 0 0, .slice none 0 0] 37) := Go.Joins.block_setCell (i := 0) kR _
  have q2 : ((W7.setCell ⟨NR, 0, none⟩ (.int .i64 s)).setCell ⟨NR, 1, none⟩ (.int .i64 r)).heap[NR]? = some (Obj.cells #[.int .i64 s, .int .i64 r, .slice none 0 0, .slice none 0 0, .int .i64 0, .int .i64 0, .slice none 0 0, .slice none 0 0, .slice none 0 0] 37) := Go.Joins.block_setCell (i := 1) q1 _
  clear q1
  have q3 : (((W7.setCell ⟨NR, 0, none⟩ (.int .i64 s)).setCell ⟨NR, 1, none⟩ (.int .i64 r)).setCell ⟨NR, 2, none⟩ (.slice (some ⟨c1, 0, none⟩) z1.length z1.length)).heap[NR]? = some (Obj.cells #[.int .i64 s, .int .i64 r, .slice (some ⟨c1, 0, none⟩) z1.length z1.length, .slice none 0 0, .int .i64 0, .int .i64 0, .slice none 0 0, .slice none 0 0, .slice none 0 0] 37) := Go.Joins.block_setCell (i := 2) q2 _
  clear q2
  have q4 : ((((W7.setCell ⟨NR, 0, none⟩ (.int .i64 s)).setCell ⟨NR, 1, none⟩ (.int .i64 r)).setCell ⟨NR, 2, none⟩ (.slice (some ⟨c1, 0, none⟩) z1.length z1.length)).setCell ⟨NR, 3, none⟩ (.slice (some ⟨c2, 0, none⟩) z2.length z2.length)).heap[NR]? = some (Obj.cells #[.int .i64 s, .int .i64 r, .slice (some ⟨c1, 0, none⟩) z1.length z1.length, .slice (some ⟨c2, 0, none⟩) z2.length z2.length, .int .i64 0, .int .i64 0, .slice none 0 0, .slice none 0 0, .slice none 0 0] 37) := Go.Joins.block_setCell (i := 3) q3 _
  clear q3
  have q5 : (((((W7.setCell ⟨NR, 0, none⟩ (.int .i64 s)).setCell ⟨NR, 1, none⟩ (.int .i64 r)).setCell ⟨NR, 2, none⟩ (.slice (some ⟨c1, 0, none⟩) z1.length z1.length)).setCell ⟨NR, 3, none⟩ (.slice (some ⟨c2, 0, none⟩) z2.length z2.length)).setCell ⟨NR, 4, none⟩ (.int .i64 s2)).heap[NR]? = some (Obj.cells #[.int .i64 s, .int .i64 r, .slice (some ⟨c1, 0, none⟩) z1.length z1.length, .slice (some ⟨c2, 0, none⟩) z2.length z2.length, .int .i64 s2, .int .i64 0, .slice none 0 0, .slice none 0 0, .slice none 0 0] 37) := Go.Joins.block_setCell (i := 4) q4 _
  clear q4
  have q6 : ((((((W7.setCell ⟨NR, 0, none⟩ (.int .i64 s)).setCell ⟨NR, 1, none⟩ (.int .i64 r)).setCell ⟨NR, 2, none⟩ (.slice (some ⟨c1, 0, none⟩) z1.length z1.length)).setCell ⟨NR, 3, none⟩ (.slice (some ⟨c2, 0, none⟩) z2.length z2.length)).setCell ⟨NR, 4, none⟩ (.int .i64 s2)).setCell ⟨NR, 5, none⟩ (.int .i64 r2)).heap[NR]? = some (Obj.cells #[.int .i64 s, .int .i64 r, .slice (some ⟨c1, 0, none⟩) z1.length z1.length, .slice (some ⟨c2, 0, none⟩) z2.length z2.length, .int .i64 s2, .int .i64 r2, .slice none 0 0, .slice none 0 0, .slice none 0 0] 37) := Go.Joins.block_setCell (i := 5) q5 _
  clear q5
  have q7 : (((((((W7.setCell ⟨NR, 0, none⟩ (.int .i64 s)).setCell ⟨NR, 1, none⟩ (.int .i64 r)).setCell ⟨NR, 2, none⟩ (.slice (some ⟨c1, 0, none⟩) z1.length z1.length)).setCell ⟨NR, 3, none⟩ (.slice (some ⟨c2, 0, none⟩) z2.length z2.length)).setCell ⟨NR, 4, none⟩ (.int .i64 s2)).setCell ⟨NR, 5, none⟩ (.int .i64 r2)).setCell ⟨NR, 6, none⟩ (.slice (some ⟨c3, 0, none⟩) z3.length z3.length)).heap[NR]? = some (Obj.cells #[.int .i64 s, .int .i64 r, .slice (some ⟨c1, 0, none⟩) z1.length z1.length, .slice (some ⟨c2, 0, none⟩) z2.length z2.length, .int .i64 s2, .int .i64 r2, .slice (some ⟨c3, 0, none⟩) z3.length z3.length, .slice none 0 0, .slice none 0 0] 37) := Go.Joins.block_setCell (i := 6) q6 _
  clear q6
  have q8 : ((((((((W7.setCell ⟨NR, 0, none⟩ (.int .i64 s)).setCell ⟨NR, 1, none⟩ (.int .i64 r)).setCell ⟨NR, 2, none⟩ (.slice (some ⟨c1, 0, none⟩) z1.length z1.length)).setCell ⟨NR, 3, none⟩ (.slice (some ⟨c2, 0, none⟩) z2.length z2.length)).setCell ⟨NR, 4, none⟩ (.int .i64 s2)).setCell ⟨NR, 5, none⟩ (.int .i64 r2)).setCell ⟨NR, 6, none⟩ (.slice (some ⟨c3, 0, none⟩) z3.length z3.length)).setCell ⟨NR, 7, none⟩ (.slice (some ⟨c4, 0, none⟩) z4.length z4.length)).heap[NR]? = some (Obj.cells #[.int .i64 s, .int .i64 r, .slice (some ⟨c1, 0, none⟩) z1.length z1.length, .slice (some ⟨c2, 0, none⟩) z2.length z2.length, .int .i64 s2, .int .i64 r2, .slice (some ⟨c3, 0, none⟩) z3.length z3.length, .slice (some ⟨c4, 0, none⟩) z4.length z4.length, .slice none 0 0] 37) := Go.Joins.block_setCell (i := 7) q7 _
  clear q7
  have q9 : (((((((((W7.setCell ⟨NR, 0, none⟩ (.int .i64 s)).setCell ⟨NR, 1, none⟩ (.int .i64 r)).setCell ⟨NR, 2, none⟩ (.slice (some ⟨c1, 0, none⟩) z1.length z1.length)).setCell ⟨NR, 3, none⟩ (.slice (some ⟨c2, 0, none⟩) z2.length z2.length)).setCell ⟨NR, 4, none⟩ (.int .i64 s2)).setCell ⟨NR, 5, none⟩ (.int .i64 r2)).setCell ⟨NR, 6, none⟩ (.slice (some ⟨c3, 0, none⟩) z3.length z3.length)).setCell ⟨NR, 7, none⟩ (.slice (some ⟨c4, 0, none⟩) z4.length z4.length)).setCell ⟨NR, 8, none⟩ (.slice (some ⟨c5, 0, none⟩) z5.length z5.length)).heap[NR]? = some (Obj.cells #[.int .i64 s, .int .i64 r, .slice (some ⟨c1, 0, none⟩) z1.length z1.length, .slice (some ⟨c2, 0, none⟩) z2.length z2.length, .int .i64 s2, .int .i64 r2, .slice (some ⟨c3, 0, none⟩) z3.length z3.length, .slice (some ⟨c4, 0, none⟩) z4.length z4.length, .slice (some ⟨c5, 0, none⟩) z5.length z5.length] 37) := Go.Joins.block_setCell (i := 8) q8 _
  clear q8
  rw [← hW] at q9
  have y0 : W9.cell? ⟨NR, 0, none⟩ = some (.int .i64 s) := Go.Joins.cell_of_block q9 0
  have y1 : W9.cell? ⟨NR, 1, none⟩ = some (.int .i64 r) := Go.Joins.cell_of_block q9 1
  have y2 : W9.cell? ⟨NR, 2, none⟩ = some (.slice (some ⟨c1, 0, none⟩) z1.length z1.length) := Go.Joins.cell_of_block q9 2
  have y3 : W9.cell? ⟨NR, 3, none⟩ = some (.slice (some ⟨c2, 0, none⟩) z2.length z2.length) := Go.Joins.cell_of_block q9 3
  have y4 : W9.cell? ⟨NR, 4, none⟩ = some (.int .i64 s2) := Go.Joins.cell_of_block q9 4
  have y5 : W9.cell? ⟨NR, 5, none⟩ = some (.int .i64 r2) := Go.Joins.cell_of_block q9 5
  have y6 : W9.cell? ⟨NR, 6, none⟩ = some (.slice (some ⟨c3, 0, none⟩) z3.length z3.length) := Go.Joins.cell_of_block q9 6
  have y7 : W9.cell? ⟨NR, 7, none⟩ = some (.slice (some ⟨c4, 0, none⟩) z4.length z4.length) := Go.Joins.cell_of_block q9 7
  have y8 : W9.cell? ⟨NR, 8, none⟩ = some (.slice (some ⟨c5, 0, none⟩) z5.length z5.length) := Go.Joins.cell_of_block q9 8
  have B9 : Below w.heap.size w W9 := by rw [hW]; exact (((((((((B7.setCell (by simp; omega) _).setCell (by simp; omega) _).setCell (by simp; omega) _).setCell (by simp; omega) _).setCell (by simp; omega) _).setCell (by simp; omega) _).setCell (by simp; omega) _).setCell (by simp; omega) _).setCell (by simp; omega) _)
  have O1 : Own 2 W9 c1 (.slice (some ⟨c1, 0, none⟩) z1.length z1.length) z1 := by rw [hW]; exact (own_set (own_set (own_set (own_set (own_set (own_set (own_set (own_set (own_set own1 _ _ (by simp; omega)) _ _ (by simp; omega)) _ _ (by simp; omega)) _ _ (by simp; omega)) _ _ (by simp; omega)) _ _ (by simp; omega)) _ _ (by simp; omega)) _ _ (by simp; omega)) _ _ (by simp; omega))
  have O2 : Own 2 W9 c2 (.slice (some ⟨c2, 0, none⟩) z2.length z2.length) z2 := by rw [hW]; exact (own_set (own_set (own_set (own_set (own_set (own_set (own_set (own_set (own_set own2 _ _ (by simp; omega)) _ _ (by simp; omega)) _ _ (by simp; omega)) _ _ (by simp; omega)) _ _ (by simp; omega)) _ _ (by simp; omega)) _ _ (by simp; omega)) _ _ (by simp; omega)) _ _ (by simp; omega))
  have O3 : Own 2 W9 c3 (.slice (some ⟨c3, 0, none⟩) z3.length z3.length) z3 := by rw [hW]; exact (own_set (own_set (own_set (own_set (own_set (own_set (own_set (own_set (own_set own3 _ _ (by simp; omega)) _ _ (by simp; omega)) _ _ (by simp; omega)) _ _ (by simp; omega)) _ _ (by simp; omega)) _ _ (by simp; omega)) _ _ (by simp; omega)) _ _ (by simp; omega)) _ _ (by simp; omega))
  have O4 : Own 2 W9 c4 (.slice (some ⟨c4, 0, none⟩) z4.length z4.length) z4 := by rw [hW]; exact (own_set (own_set (own_set (own_set (own_set (own_set (own_set (own_set (own_set own4 _ _ (by simp; omega)) _ _ (by simp; omega)) _ _ (by simp; omega)) _ _ (by simp; omega)) _ _ (by simp; omega)) _ _ (by simp; omega)) _ _ (by simp; omega)) _ _ (by simp; omega)) _ _ (by simp; omega))
  have O5 : Own 2 W9 c5 (.slice (some ⟨c5, 0, none⟩) z5.length z5.length) z5 := by rw [hW]; exact (own_set (own_set (own_set (own_set (own_set (own_set (own_set (own_set (own_set own5 _ _ (by simp; omega)) _ _ (by simp; omega)) _ _ (by simp; omega)) _ _ (by simp; omega)) _ _ (by simp; omega)) _ _ (by simp; omega)) _ _ (by simp; omega)) _ _ (by simp; omega)) _ _ (by simp; omega))
  simp only [← hW]
  clear hW q9 t0 g0 x0 t1 g1 x1 t2 g2 x2 t3 g3 x3 t4 g4 x4 t5 g5 x5 t6 g6 x6 t7 g7 x7 t8 g8 x8
  refine (?h : ∀ Q : Ending → World → Prop, Q (.returned (deskV s r (.slice (some ⟨c1, 0, none⟩) z1.length z1.length) (.slice (some ⟨c2, 0, none⟩) z2.length z2.length) s2 r2 (.slice (some ⟨c3, 0, none⟩) z3.length z3.length) (.slice (some ⟨c4, 0, none⟩) z4.length z4.length) (.slice (some ⟨c5, 0, none⟩) z5.length z5.length))) W9 → bodyPost _ _ Q _ _ _) _ ⟨c1, c2, c3, c4, c5, rfl, O1, O2, O3, O4, O5, by omega, hc2, hc3, hc4, hc5, B9⟩
  clear O1 O2 O3 O4 O5 B9
  intro Q hQ
  have HQ := hid hQ
  clear hQ
  simp [bodyPost, results, Try.results19, go_sem, y0, y1, y2, y3, y4, y5, y6, y7, y8]
  exact HQ.out

end Go.Proofs.Ytonghkooncmjgaa.DskT
