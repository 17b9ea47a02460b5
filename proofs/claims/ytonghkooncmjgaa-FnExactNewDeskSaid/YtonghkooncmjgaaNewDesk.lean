/- impl.NewDesk answers as the model of the document does, and its answer owns its memory. No condition. -/
import Derived.Test.YtonghkooncmjgaaRows
import Derived.Test.YtonghkooncmjgaaMayA
import Derived.Test.YtonghkooncmjgaaMayB
import Derived.Test.YtonghkooncmjgaaMayC
import Derived.Test.YtonghkooncmjgaaNwdM
import Derived.Test.YtonghkooncmjgaaDskK
import Derived.WalkKit
import Derived.WalkLawsBesides
import Derived.ProofKit
import Derived.OpenShut
import Derived.ShutString
import Derived.ChangeOld
import Derived.Below
import Derived.IntWalk
import Derived.Lib.SmallJoins
import Derived.Deep.Cut
namespace Go.Proofs.Ytonghkooncmjgaa.lawNewDesk
open Go.ChangeShapes Go.WideShapes Go.ChangeAt Go.RowKit Go.Joins Go.Proofs.Ytonghkooncmjgaa.Rd Go.Proofs.Ytonghkooncmjgaa.Help Go.Proofs.Ytonghkooncmjgaa.Keep Go.Proofs.Ytonghkooncmjgaa.Dsk Go.Proofs.Ytonghkooncmjgaa.Nwd
set_option linter.unusedVariables false
set_option linter.unusedSimpArgs false
theorem own : ownKnob Try.prog.godebug = none := by kernel_rfl
theorem laidOut : laidOutB Try.prog = true := by kernel_rfl
set_option maxHeartbeats 8000000 in
theorem walk {w : World} : Calls Try.prog 5 #[] w fun e w' => e = .returned (.bool true) ∧ Below w.heap.size w w' := by
  go_enter Try.func5, Try.ntmps5
  go_wp2_with fail
  go_at_call 24
  refine (Nwd.specOk).mono ?_
  rintro e w1 ⟨vs, s1, s2, s3, s4, s5, rfl, p1, p2, p3, p4, p5, hs, bel⟩
  obtain ⟨sa, sc, hvs⟩ : ∃ x y, vs = Value.slice x 8 y := by obtain ⟨x, y, h, _⟩ := p1.rd; exact ⟨x, y, h⟩
  subst hvs
  have HB1 := hid bel
  have P1 := hid p1
  have P2 := hid p2
  have P3 := hid p3
  have P4 := hid p4
  have P5 := hid p5
  have hl5 := p5.lt
  have HSo : Hid ((s1 < w1.heap.size ∧ s2 < w1.heap.size ∧ s3 < w1.heap.size ∧ s4 < w1.heap.size ∧ s5 < w1.heap.size) ∧ w.heap.size ≤ s1) := by simp only [Hid]; omega
  clear p1 p2 p3 p4 p5 hs bel hl5
  go_wp2_with fail
  obtain ⟨w2, hW⟩ : ∃ x, x = w1.alloc (Obj.cells #[.int .i64 2, .int .i64 1, .slice sa 8 sc, .slice (some ⟨s2, 0, none⟩) 3 3, .int .i64 3, .int .i64 3, .slice (some ⟨s3, 0, none⟩) 9 9, .slice (some ⟨s4, 0, none⟩) 1 1, .slice (some ⟨s5, 0, none⟩) 2 2] 37) := ⟨_, rfl⟩
  obtain ⟨NW, hN⟩ : ∃ x, x = w1.heap.size := ⟨_, rfl⟩
  have bel : Below w1.heap.size w1 w2 := by rw [hW]; exact Rule.below1 _ _
  have KW := hid (show w2.heap[NW]? = some (Obj.cells #[.int .i64 2, .int .i64 1, .slice sa 8 sc, .slice (some ⟨s2, 0, none⟩) 3 3, .int .i64 3, .int .i64 3, .slice (some ⟨s3, 0, none⟩) 9 9, .slice (some ⟨s4, 0, none⟩) 1 1, .slice (some ⟨s5, 0, none⟩) 2 2] 37) by rw [hW]; exact FNew.heap_top hN)
  have HB2 := hid (HB1.out.trans (bel.mono HB1.out.size))
  have HNW : Hid (NW = w1.heap.size ∧ w2.heap.size = NW + 1) := ⟨hN, by rw [hW, hN]; simp⟩
  have Q1 := hid (P1.out.keep bel)
  have Q2 := hid (P2.out.keep bel)
  have Q3 := hid (P3.out.keep bel)
  have Q4 := hid (P4.out.keep bel)
  have Q5 := hid (P5.out.keep bel)
  simp only [← hW, ← hN]
  clear hW hN bel P1 P2 P3 P4 P5
  go_at_call 25
  refine (Nwd.implOk).mono ?_
  rintro e w3 ⟨vg, c1, c2, c3, c4, c5, rfl, o1, o2, o3, o4, o5, hc, bel⟩
  obtain ⟨ga, gc, hvg⟩ : ∃ x y, vg = Value.slice x 8 y := by obtain ⟨x, y, h, _⟩ := o1.rd; exact ⟨x, y, h⟩
  subst hvg
  have KW3 := hid (heap_keep bel KW.out)
  have HB3 := hid (HB2.out.trans (bel.mono HB2.out.size))
  have HW3 : Hid (w2.heap.size ≤ w3.heap.size) := bel.size
  have R1 := hid (Q1.out.keep bel)
  have R2 := hid (Q2.out.keep bel)
  have R3 := hid (Q3.out.keep bel)
  have R4 := hid (Q4.out.keep bel)
  have R5 := hid (Q5.out.keep bel)
  have hl5 := o5.lt
  have HCo : Hid ((c1 < c2 ∧ c2 < c3 ∧ c3 < c4 ∧ c4 < c5) ∧ (w2.heap.size ≤ c1 ∧ c5 < w3.heap.size)) := ⟨hc.2, hc.1, hl5⟩
  have O1 := hid o1
  have O2 := hid o2
  have O3 := hid o3
  have O4 := hid o4
  have O5 := hid o5
  clear bel o1 o2 o3 o4 o5 hc hl5 Q1 Q2 Q3 Q4 Q5
  have b0 : ∀ o, (w3.alloc o).cell? ⟨NW, 0, none⟩ = some (.int .i64 2) := fun o => Go.Joins.cell_of_block (FNew.heap_old KW3.out) 0
  have b1 : ∀ o, (w3.alloc o).cell? ⟨NW, 1, none⟩ = some (.int .i64 1) := fun o => Go.Joins.cell_of_block (FNew.heap_old KW3.out) 1
  have b2 : ∀ o, (w3.alloc o).cell? ⟨NW, 2, none⟩ = some (.slice sa 8 sc) := fun o => Go.Joins.cell_of_block (FNew.heap_old KW3.out) 2
  have b3 : ∀ o, (w3.alloc o).cell? ⟨NW, 3, none⟩ = some (.slice (some ⟨s2, 0, none⟩) 3 3) := fun o => Go.Joins.cell_of_block (FNew.heap_old KW3.out) 3
  have b4 : ∀ o, (w3.alloc o).cell? ⟨NW, 4, none⟩ = some (.int .i64 3) := fun o => Go.Joins.cell_of_block (FNew.heap_old KW3.out) 4
  have b5 : ∀ o, (w3.alloc o).cell? ⟨NW, 5, none⟩ = some (.int .i64 3) := fun o => Go.Joins.cell_of_block (FNew.heap_old KW3.out) 5
  have b6 : ∀ o, (w3.alloc o).cell? ⟨NW, 6, none⟩ = some (.slice (some ⟨s3, 0, none⟩) 9 9) := fun o => Go.Joins.cell_of_block (FNew.heap_old KW3.out) 6
  have b7 : ∀ o, (w3.alloc o).cell? ⟨NW, 7, none⟩ = some (.slice (some ⟨s4, 0, none⟩) 1 1) := fun o => Go.Joins.cell_of_block (FNew.heap_old KW3.out) 7
  have b8 : ∀ o, (w3.alloc o).cell? ⟨NW, 8, none⟩ = some (.slice (some ⟨s5, 0, none⟩) 2 2) := fun o => Go.Joins.cell_of_block (FNew.heap_old KW3.out) 8
  go_wp2_with fail
  clear b0 b1 b2 b3 b4 b5 b6 b7 b8
  obtain ⟨w4, hW⟩ : ∃ x, x = w3.alloc (Obj.cells #[.int .i64 2, .int .i64 1, .slice ga 8 gc, .slice (some ⟨c2, 0, none⟩) 3 3, .int .i64 3, .int .i64 3, .slice (some ⟨c3, 0, none⟩) 9 9, .slice (some ⟨c4, 0, none⟩) 1 1, .slice (some ⟨c5, 0, none⟩) 2 2] 37) := ⟨_, rfl⟩
  obtain ⟨NG, hN⟩ : ∃ x, x = w3.heap.size := ⟨_, rfl⟩
  have bel : Below w3.heap.size w3 w4 := by rw [hW]; exact Rule.below1 _ _
  have kG : w4.heap[NG]? = some (Obj.cells #[.int .i64 2, .int .i64 1, .slice ga 8 gc, .slice (some ⟨c2, 0, none⟩) 3 3, .int .i64 3, .int .i64 3, .slice (some ⟨c3, 0, none⟩) 9 9, .slice (some ⟨c4, 0, none⟩) 1 1, .slice (some ⟨c5, 0, none⟩) 2 2] 37) := by rw [hW]; exact FNew.heap_top hN
  have kW := heap_keep bel KW3.out
  have HB4 := hid (HB3.out.trans (bel.mono HB3.out.size))
  have HNG : Hid (NG = w3.heap.size ∧ w4.heap.size = NG + 1) := ⟨hN, by rw [hW, hN]; simp⟩
  have S1 := hid (R1.out.keep bel)
  have T1 := hid (O1.out.keep bel)
  have S2 := hid (R2.out.keep bel)
  have T2 := hid (O2.out.keep bel)
  have S3 := hid (R3.out.keep bel)
  have T3 := hid (O3.out.keep bel)
  have S4 := hid (R4.out.keep bel)
  have T4 := hid (O4.out.keep bel)
  have S5 := hid (R5.out.keep bel)
  have T5 := hid (O5.out.keep bel)
  try simp only [← hW, ← hN]
  clear hW hN bel R1 R2 R3 R4 R5 O1 O2 O3 O4 O5
  have a0 : w4.cell? ⟨NG, 0, none⟩ = some (.int .i64 2) := Go.Joins.cell_of_block kG 0
  have b0 : w4.cell? ⟨NW, 0, none⟩ = some (.int .i64 2) := Go.Joins.cell_of_block kW 0
  have a1 : w4.cell? ⟨NG, 1, none⟩ = some (.int .i64 1) := Go.Joins.cell_of_block kG 1
  have b1 : w4.cell? ⟨NW, 1, none⟩ = some (.int .i64 1) := Go.Joins.cell_of_block kW 1
  have a2 : w4.cell? ⟨NG, 2, none⟩ = some (.slice ga 8 gc) := Go.Joins.cell_of_block kG 2
  have b2 : w4.cell? ⟨NW, 2, none⟩ = some (.slice sa 8 sc) := Go.Joins.cell_of_block kW 2
  have a3 : w4.cell? ⟨NG, 3, none⟩ = some (.slice (some ⟨c2, 0, none⟩) 3 3) := Go.Joins.cell_of_block kG 3
  have b3 : w4.cell? ⟨NW, 3, none⟩ = some (.slice (some ⟨s2, 0, none⟩) 3 3) := Go.Joins.cell_of_block kW 3
  have a4 : w4.cell? ⟨NG, 4, none⟩ = some (.int .i64 3) := Go.Joins.cell_of_block kG 4
  have b4 : w4.cell? ⟨NW, 4, none⟩ = some (.int .i64 3) := Go.Joins.cell_of_block kW 4
  have a5 : w4.cell? ⟨NG, 5, none⟩ = some (.int .i64 3) := Go.Joins.cell_of_block kG 5
  have b5 : w4.cell? ⟨NW, 5, none⟩ = some (.int .i64 3) := Go.Joins.cell_of_block kW 5
  have a6 : w4.cell? ⟨NG, 6, none⟩ = some (.slice (some ⟨c3, 0, none⟩) 9 9) := Go.Joins.cell_of_block kG 6
  have b6 : w4.cell? ⟨NW, 6, none⟩ = some (.slice (some ⟨s3, 0, none⟩) 9 9) := Go.Joins.cell_of_block kW 6
  have a7 : w4.cell? ⟨NG, 7, none⟩ = some (.slice (some ⟨c4, 0, none⟩) 1 1) := Go.Joins.cell_of_block kG 7
  have b7 : w4.cell? ⟨NW, 7, none⟩ = some (.slice (some ⟨s4, 0, none⟩) 1 1) := Go.Joins.cell_of_block kW 7
  have a8 : w4.cell? ⟨NG, 8, none⟩ = some (.slice (some ⟨c5, 0, none⟩) 2 2) := Go.Joins.cell_of_block kG 8
  have b8 : w4.cell? ⟨NW, 8, none⟩ = some (.slice (some ⟨s5, 0, none⟩) 2 2) := Go.Joins.cell_of_block kW 8
  have KG := hid kG
  have KW4 := hid kW
  clear kG kW
  go_wp2_with fail
  go_at_call 21
  refine (DskK.eqD T1.out.rd T2.out.rd T3.out.rd T4.out.rd T5.out.rd S1.out.rd S2.out.rd S3.out.rd S4.out.rd S5.out.rd).mono ?_
  rintro e w5 ⟨rfl, bel⟩
  have kG := heap_keep bel KG.out
  have kW := heap_keep bel KW4.out
  have HB5 := hid (HB4.out.trans (bel.mono HB4.out.size))
  have HW5 : Hid (w4.heap.size ≤ w5.heap.size) := bel.size
  have U1 := hid (S1.out.keep bel)
  have V1 := hid (T1.out.keep bel)
  have U2 := hid (S2.out.keep bel)
  have V2 := hid (T2.out.keep bel)
  have U3 := hid (S3.out.keep bel)
  have V3 := hid (T3.out.keep bel)
  have U4 := hid (S4.out.keep bel)
  have V4 := hid (T4.out.keep bel)
  have U5 := hid (S5.out.keep bel)
  have V5 := hid (T5.out.keep bel)
  clear bel a0 b0 a1 b1 a2 b2 a3 b3 a4 b4 a5 b5 a6 b6 a7 b7 a8 b8 S1 S2 S3 S4 S5 T1 T2 T3 T4 T5
  have a0 : w5.cell? ⟨NG, 0, none⟩ = some (.int .i64 2) := Go.Joins.cell_of_block kG 0
  have a1 : w5.cell? ⟨NG, 1, none⟩ = some (.int .i64 1) := Go.Joins.cell_of_block kG 1
  have a2 : w5.cell? ⟨NG, 2, none⟩ = some (.slice ga 8 gc) := Go.Joins.cell_of_block kG 2
  have a3 : w5.cell? ⟨NG, 3, none⟩ = some (.slice (some ⟨c2, 0, none⟩) 3 3) := Go.Joins.cell_of_block kG 3
  have a4 : w5.cell? ⟨NG, 4, none⟩ = some (.int .i64 3) := Go.Joins.cell_of_block kG 4
  have a5 : w5.cell? ⟨NG, 5, none⟩ = some (.int .i64 3) := Go.Joins.cell_of_block kG 5
  have a6 : w5.cell? ⟨NG, 6, none⟩ = some (.slice (some ⟨c3, 0, none⟩) 9 9) := Go.Joins.cell_of_block kG 6
  have a7 : w5.cell? ⟨NG, 7, none⟩ = some (.slice (some ⟨c4, 0, none⟩) 1 1) := Go.Joins.cell_of_block kG 7
  have a8 : w5.cell? ⟨NG, 8, none⟩ = some (.slice (some ⟨c5, 0, none⟩) 2 2) := Go.Joins.cell_of_block kG 8
  have KG5 := hid kG
  have KW5 := hid kW
  clear kG kW
  go_wp2_with fail
  go_at_call 26
  refine (NwdM.markD (B := w.heap.size) V1.out V2.out V3.out V4.out V5.out HCo.out.1 (by have := HCo.out; have := HB2.out.size; omega) HB5.out.size (by intro h; simp at h)).mono ?_
  rintro e w6 ⟨rfl, m1, m2, m3, m4, m5, belm, hh⟩
  have HB6 := hid (HB5.out.trans belm)
  have hlt : NW < w5.heap.size ∧ NG < w5.heap.size ∧ s1 < w5.heap.size ∧ s2 < w5.heap.size ∧ s3 < w5.heap.size ∧ s4 < w5.heap.size ∧ s5 < w5.heap.size := by
    have h1 := HNW.out; have h2 := HNG.out; have h3 := HSo.out; have h4 := HW3.out; have h5 := HW5.out; omega
  have hne : (NW < c1 ∧ c5 < NG) ∧ (s1 < c1 ∧ s2 < c1 ∧ s3 < c1 ∧ s4 < c1 ∧ s5 < c1) := by
    have h1 := HNW.out; have h2 := HNG.out; have h3 := HSo.out; have h4 := HCo.out; omega
  have hcc := HCo.out.1
  have kG := (hh NG hlt.2.1 (by omega) (by omega) (by omega) (by omega) (by omega)).trans KG5.out
  have kW := (hh NW hlt.1 (by omega) (by omega) (by omega) (by omega) (by omega)).trans KW5.out
  have X1 := hid (own_same U1.out (hh s1 (by omega) (by omega) (by omega) (by omega) (by omega) (by omega)))
  have X2 := hid (own_same U2.out (hh s2 (by omega) (by omega) (by omega) (by omega) (by omega) (by omega)))
  have X3 := hid (own_same U3.out (hh s3 (by omega) (by omega) (by omega) (by omega) (by omega) (by omega)))
  have X4 := hid (own_same U4.out (hh s4 (by omega) (by omega) (by omega) (by omega) (by omega) (by omega)))
  have X5 := hid (own_same U5.out (hh s5 (by omega) (by omega) (by omega) (by omega) (by omega) (by omega)))
  have M1 := hid m1
  have M2 := hid m2
  have M3 := hid m3
  have M4 := hid m4
  have M5 := hid m5
  clear hh belm hlt hne hcc m1 m2 m3 m4 m5 a0 a1 a2 a3 a4 a5 a6 a7 a8 U1 U2 U3 U4 U5 V1 V2 V3 V4 V5
  have a0 : w6.cell? ⟨NG, 0, none⟩ = some (.int .i64 2) := Go.Joins.cell_of_block kG 0
  have a1 : w6.cell? ⟨NG, 1, none⟩ = some (.int .i64 1) := Go.Joins.cell_of_block kG 1
  have a2 : w6.cell? ⟨NG, 2, none⟩ = some (.slice ga 8 gc) := Go.Joins.cell_of_block kG 2
  have a3 : w6.cell? ⟨NG, 3, none⟩ = some (.slice (some ⟨c2, 0, none⟩) 3 3) := Go.Joins.cell_of_block kG 3
  have a4 : w6.cell? ⟨NG, 4, none⟩ = some (.int .i64 3) := Go.Joins.cell_of_block kG 4
  have a5 : w6.cell? ⟨NG, 5, none⟩ = some (.int .i64 3) := Go.Joins.cell_of_block kG 5
  have a6 : w6.cell? ⟨NG, 6, none⟩ = some (.slice (some ⟨c3, 0, none⟩) 9 9) := Go.Joins.cell_of_block kG 6
  have a7 : w6.cell? ⟨NG, 7, none⟩ = some (.slice (some ⟨c4, 0, none⟩) 1 1) := Go.Joins.cell_of_block kG 7
  have a8 : w6.cell? ⟨NG, 8, none⟩ = some (.slice (some ⟨c5, 0, none⟩) 2 2) := Go.Joins.cell_of_block kG 8
  have KG6 := hid kG
  have KW6 := hid kW
  clear kG kW
  go_wp2_with fail
  go_at_call 27
  refine (NwdM.heldD M1.out.rd M2.out.rd M3.out.rd M4.out.rd M5.out.rd).mono ?_
  rintro e w7 ⟨rfl, bel⟩
  have KG7 := hid (heap_keep bel KG6.out)
  have KW7 := hid (heap_keep bel KW6.out)
  have HB7 := hid (HB6.out.trans (bel.mono HB6.out.size))
  have Y1 := hid (X1.out.keep bel)
  have L1 := hid (M1.out.keep bel)
  have Y2 := hid (X2.out.keep bel)
  have L2 := hid (M2.out.keep bel)
  have Y3 := hid (X3.out.keep bel)
  have L3 := hid (M3.out.keep bel)
  have Y4 := hid (X4.out.keep bel)
  have L4 := hid (M4.out.keep bel)
  have Y5 := hid (X5.out.keep bel)
  have L5 := hid (M5.out.keep bel)
  clear bel a0 a1 a2 a3 a4 a5 a6 a7 a8 X1 X2 X3 X4 X5 M1 M2 M3 M4 M5
  go_wp2_with fail
  go_at_call 25
  refine (Nwd.implOk).mono ?_
  rintro e w8 ⟨vh, d1, d2, d3, d4, d5, rfl, o1, o2, o3, o4, o5, hd, bel⟩
  obtain ⟨ha, hb, hvh⟩ : ∃ x y, vh = Value.slice x 8 y := by obtain ⟨x, y, h, _⟩ := o1.rd; exact ⟨x, y, h⟩
  subst hvh
  have KG8 := hid (heap_keep bel KG7.out)
  have KW8 := hid (heap_keep bel KW7.out)
  have HB8 := hid (HB7.out.trans (bel.mono HB7.out.size))
  have Z1 := hid (Y1.out.keep bel)
  have J1 := hid (L1.out.keep bel)
  have O1 := hid o1
  have Z2 := hid (Y2.out.keep bel)
  have J2 := hid (L2.out.keep bel)
  have O2 := hid o2
  have Z3 := hid (Y3.out.keep bel)
  have J3 := hid (L3.out.keep bel)
  have O3 := hid o3
  have Z4 := hid (Y4.out.keep bel)
  have J4 := hid (L4.out.keep bel)
  have O4 := hid o4
  have Z5 := hid (Y5.out.keep bel)
  have J5 := hid (L5.out.keep bel)
  have O5 := hid o5
  clear bel hd o1 o2 o3 o4 o5 Y1 Y2 Y3 Y4 Y5 L1 L2 L3 L4 L5
  have b0 : ∀ o, (w8.alloc o).cell? ⟨NW, 0, none⟩ = some (.int .i64 2) := fun o => Go.Joins.cell_of_block (FNew.heap_old KW8.out) 0
  have b1 : ∀ o, (w8.alloc o).cell? ⟨NW, 1, none⟩ = some (.int .i64 1) := fun o => Go.Joins.cell_of_block (FNew.heap_old KW8.out) 1
  have b2 : ∀ o, (w8.alloc o).cell? ⟨NW, 2, none⟩ = some (.slice sa 8 sc) := fun o => Go.Joins.cell_of_block (FNew.heap_old KW8.out) 2
  have b3 : ∀ o, (w8.alloc o).cell? ⟨NW, 3, none⟩ = some (.slice (some ⟨s2, 0, none⟩) 3 3) := fun o => Go.Joins.cell_of_block (FNew.heap_old KW8.out) 3
  have b4 : ∀ o, (w8.alloc o).cell? ⟨NW, 4, none⟩ = some (.int .i64 3) := fun o => Go.Joins.cell_of_block (FNew.heap_old KW8.out) 4
  have b5 : ∀ o, (w8.alloc o).cell? ⟨NW, 5, none⟩ = some (.int .i64 3) := fun o => Go.Joins.cell_of_block (FNew.heap_old KW8.out) 5
  have b6 : ∀ o, (w8.alloc o).cell? ⟨NW, 6, none⟩ = some (.slice (some ⟨s3, 0, none⟩) 9 9) := fun o => Go.Joins.cell_of_block (FNew.heap_old KW8.out) 6
  have b7 : ∀ o, (w8.alloc o).cell? ⟨NW, 7, none⟩ = some (.slice (some ⟨s4, 0, none⟩) 1 1) := fun o => Go.Joins.cell_of_block (FNew.heap_old KW8.out) 7
  have b8 : ∀ o, (w8.alloc o).cell? ⟨NW, 8, none⟩ = some (.slice (some ⟨s5, 0, none⟩) 2 2) := fun o => Go.Joins.cell_of_block (FNew.heap_old KW8.out) 8
  go_wp2_with fail
  clear b0 b1 b2 b3 b4 b5 b6 b7 b8
  obtain ⟨w9, hW⟩ : ∃ x, x = w8.alloc (Obj.cells #[.int .i64 2, .int .i64 1, .slice ha 8 hb, .slice (some ⟨d2, 0, none⟩) 3 3, .int .i64 3, .int .i64 3, .slice (some ⟨d3, 0, none⟩) 9 9, .slice (some ⟨d4, 0, none⟩) 1 1, .slice (some ⟨d5, 0, none⟩) 2 2] 37) := ⟨_, rfl⟩
  obtain ⟨NH, hN⟩ : ∃ x, x = w8.heap.size := ⟨_, rfl⟩
  have bel : Below w8.heap.size w8 w9 := by rw [hW]; exact Rule.below1 _ _
  have kH : w9.heap[NH]? = some (Obj.cells #[.int .i64 2, .int .i64 1, .slice ha 8 hb, .slice (some ⟨d2, 0, none⟩) 3 3, .int .i64 3, .int .i64 3, .slice (some ⟨d3, 0, none⟩) 9 9, .slice (some ⟨d4, 0, none⟩) 1 1, .slice (some ⟨d5, 0, none⟩) 2 2] 37) := by rw [hW]; exact FNew.heap_top hN
  have KG9 := hid (heap_keep bel KG8.out)
  have kW := heap_keep bel KW8.out
  have HB9 := hid (HB8.out.trans (bel.mono HB8.out.size))
  have A1 := hid (Z1.out.keep bel)
  have J1 := hid (J1.out.keep bel)
  have O1 := hid (O1.out.keep bel)
  have A2 := hid (Z2.out.keep bel)
  have J2 := hid (J2.out.keep bel)
  have O2 := hid (O2.out.keep bel)
  have A3 := hid (Z3.out.keep bel)
  have J3 := hid (J3.out.keep bel)
  have O3 := hid (O3.out.keep bel)
  have A4 := hid (Z4.out.keep bel)
  have J4 := hid (J4.out.keep bel)
  have O4 := hid (O4.out.keep bel)
  have A5 := hid (Z5.out.keep bel)
  have J5 := hid (J5.out.keep bel)
  have O5 := hid (O5.out.keep bel)
  try simp only [← hW, ← hN]
  clear hW hN bel Z1 Z2 Z3 Z4 Z5
  have a0 : w9.cell? ⟨NH, 0, none⟩ = some (.int .i64 2) := Go.Joins.cell_of_block kH 0
  have b0 : w9.cell? ⟨NW, 0, none⟩ = some (.int .i64 2) := Go.Joins.cell_of_block kW 0
  have a1 : w9.cell? ⟨NH, 1, none⟩ = some (.int .i64 1) := Go.Joins.cell_of_block kH 1
  have b1 : w9.cell? ⟨NW, 1, none⟩ = some (.int .i64 1) := Go.Joins.cell_of_block kW 1
  have a2 : w9.cell? ⟨NH, 2, none⟩ = some (.slice ha 8 hb) := Go.Joins.cell_of_block kH 2
  have b2 : w9.cell? ⟨NW, 2, none⟩ = some (.slice sa 8 sc) := Go.Joins.cell_of_block kW 2
  have a3 : w9.cell? ⟨NH, 3, none⟩ = some (.slice (some ⟨d2, 0, none⟩) 3 3) := Go.Joins.cell_of_block kH 3
  have b3 : w9.cell? ⟨NW, 3, none⟩ = some (.slice (some ⟨s2, 0, none⟩) 3 3) := Go.Joins.cell_of_block kW 3
  have a4 : w9.cell? ⟨NH, 4, none⟩ = some (.int .i64 3) := Go.Joins.cell_of_block kH 4
  have b4 : w9.cell? ⟨NW, 4, none⟩ = some (.int .i64 3) := Go.Joins.cell_of_block kW 4
  have a5 : w9.cell? ⟨NH, 5, none⟩ = some (.int .i64 3) := Go.Joins.cell_of_block kH 5
  have b5 : w9.cell? ⟨NW, 5, none⟩ = some (.int .i64 3) := Go.Joins.cell_of_block kW 5
  have a6 : w9.cell? ⟨NH, 6, none⟩ = some (.slice (some ⟨d3, 0, none⟩) 9 9) := Go.Joins.cell_of_block kH 6
  have b6 : w9.cell? ⟨NW, 6, none⟩ = some (.slice (some ⟨s3, 0, none⟩) 9 9) := Go.Joins.cell_of_block kW 6
  have a7 : w9.cell? ⟨NH, 7, none⟩ = some (.slice (some ⟨d4, 0, none⟩) 1 1) := Go.Joins.cell_of_block kH 7
  have b7 : w9.cell? ⟨NW, 7, none⟩ = some (.slice (some ⟨s4, 0, none⟩) 1 1) := Go.Joins.cell_of_block kW 7
  have a8 : w9.cell? ⟨NH, 8, none⟩ = some (.slice (some ⟨d5, 0, none⟩) 2 2) := Go.Joins.cell_of_block kH 8
  have b8 : w9.cell? ⟨NW, 8, none⟩ = some (.slice (some ⟨s5, 0, none⟩) 2 2) := Go.Joins.cell_of_block kW 8
  clear kH kW
  go_wp2_with fail
  go_at_call 21
  refine (DskK.eqD O1.out.rd O2.out.rd O3.out.rd O4.out.rd O5.out.rd A1.out.rd A2.out.rd A3.out.rd A4.out.rd A5.out.rd).mono ?_
  rintro e w10 ⟨rfl, bel⟩
  have kG := heap_keep bel KG9.out
  have HB10 := hid (HB9.out.trans (bel.mono HB9.out.size))
  have F1 := hid (J1.out.keep bel)
  have F2 := hid (J2.out.keep bel)
  have F3 := hid (J3.out.keep bel)
  have F4 := hid (J4.out.keep bel)
  have F5 := hid (J5.out.keep bel)
  clear bel a0 b0 a1 b1 a2 b2 a3 b3 a4 b4 a5 b5 a6 b6 a7 b7 a8 b8
  have a0 : w10.cell? ⟨NG, 0, none⟩ = some (.int .i64 2) := Go.Joins.cell_of_block kG 0
  have a1 : w10.cell? ⟨NG, 1, none⟩ = some (.int .i64 1) := Go.Joins.cell_of_block kG 1
  have a2 : w10.cell? ⟨NG, 2, none⟩ = some (.slice ga 8 gc) := Go.Joins.cell_of_block kG 2
  have a3 : w10.cell? ⟨NG, 3, none⟩ = some (.slice (some ⟨c2, 0, none⟩) 3 3) := Go.Joins.cell_of_block kG 3
  have a4 : w10.cell? ⟨NG, 4, none⟩ = some (.int .i64 3) := Go.Joins.cell_of_block kG 4
  have a5 : w10.cell? ⟨NG, 5, none⟩ = some (.int .i64 3) := Go.Joins.cell_of_block kG 5
  have a6 : w10.cell? ⟨NG, 6, none⟩ = some (.slice (some ⟨c3, 0, none⟩) 9 9) := Go.Joins.cell_of_block kG 6
  have a7 : w10.cell? ⟨NG, 7, none⟩ = some (.slice (some ⟨c4, 0, none⟩) 1 1) := Go.Joins.cell_of_block kG 7
  have a8 : w10.cell? ⟨NG, 8, none⟩ = some (.slice (some ⟨c5, 0, none⟩) 2 2) := Go.Joins.cell_of_block kG 8
  clear kG
  go_wp2_with fail
  go_at_call 27
  refine (NwdM.heldD F1.out.rd F2.out.rd F3.out.rd F4.out.rd F5.out.rd).mono ?_
  rintro e w11 ⟨rfl, bel⟩
  have HF := hid (HB10.out.trans (bel.mono HB10.out.size))
  clear bel a0 a1 a2 a3 a4 a5 a6 a7 a8
  go_wp2
  go_ret
  exact ⟨rfl, HF.out⟩

set_option maxRecDepth 100000 in
theorem lifted (os : Os) (started : os.Started) (H : Type) (enc : TypeId × Value → H) :
    ReturnsInHanded {} Try.checked os 5 .any (Rows.fnExactNewDeskSpec.pre6 enc Try.prog Try.f5 Rows.fnExactNewDeskRow.domain false) (Rows.fnExactNewDeskSpec.post enc Try.prog Try.f5 false true false false) := by
  refine returnsInHanded_of_change (C := Try.checked) own started (by kernel_rfl) Try.func5
    (ChangeSpec.witness6 (enc := enc) (C := Try.checked) false ⟨#[], #[], []⟩ 8 (by kernel_rfl) (by kernel_rfl) (by kernel_rfl) (by kernel_rfl)) ?_
  intro W base args ds gs before hval0 hW hcnd hreach
  have hW' := hW
  obtain ⟨p, q, hA0, hV, rfl, hfz, hnd⟩ := hW
  have hA : DataW.TrodAll enc Try.prog W 0 (fun _ => true) true Try.f5.params.toList args.toList ds p := hA0
  rw [Try.params5] at hA
  obtain ⟨hargs, rfl, rfl⟩ := trodAll_nil hA
  obtain rfl : args = #[] := by cases args; simp_all
  obtain ⟨rfl, rfl⟩ := trodVars_none hV
  clear hA0 hval0
  refine walk.mono fun e W' ⟨he, bel⟩ => ?_
  subst he
  exact ⟨_, rfl, _, _, _, [], _, [], hW', trodAll_mk1 (shut_bool Try.underlying4 _), (trodAll_mk0), rfl, bel.frame _, fun h => by cases h⟩

theorem over : Rows.fnExactNewDeskRow.holds Try.pinned (OpenSpec.ofChange Rows.fnExactNewDeskSpec) :=
  OpenClaim.holds_of_wide 5 Try.f5 rfl rfl rfl rfl rfl rfl rfl ⟨rfl, rfl, rfl, rfl, rfl⟩ rfl rfl rfl rfl rfl (by kernel_rfl) Try.func5 (by unfold joinedFacts; rw [MayA.fact, MayB.fact, MayC.fact]; kernel_rfl)
    (of_decide_eq_true (by kernel_rfl)) (by unfold Func.isWrapper; rw [if_neg (of_decide_eq_false (by kernel_rfl))]; exact ⟨rfl, rfl⟩)
    (fun os started H enc _ => lifted os started H enc)

theorem proved : Rows.FnExactNewDeskSaid := over
end Go.Proofs.Ytonghkooncmjgaa.lawNewDesk
