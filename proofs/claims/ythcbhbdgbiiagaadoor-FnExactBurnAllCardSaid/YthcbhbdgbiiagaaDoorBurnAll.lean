/- For every field, the program's BurnAll answers as its model, writes into no argument, and its answer owns its memory. -/
import Derived.Test.YthcbhbdgbiiagaaDoorRows
import Derived.Test.YthcbhbdgbiiagaaDoorCards
import Derived.Test.YthcbhbdgbiiagaaDoorTie
import Derived.Test.YthcbhbdgbiiagaaDoorLaid
import Derived.Test.YthcbhbdgbiiagaaDoorFldKit
import Derived.Test.YthcbhbdgbiiagaaDoorBrn
import Derived.OpenVars
import Derived.LaidMore
import Derived.SevenTiedAt
import Derived.Stop.Joined
import Derived.WalkKit
import Derived.WalkLawsBesides
import Derived.ProofKit
import Derived.OpenShut
import Derived.ShutString
import Derived.ChangeOld
import Derived.Below
import Derived.IntWalk
import Derived.Lib.SmallJoins
namespace Go.Proofs.YthcbhbdgbiiagaaDoor.lawBurnAll
open Go.ChangeShapes Go.WideShapes Go.ChangeAt Go.RowKit Go.Joins Go.Proofs.YthcbhbdgbiiagaaDoor.Rd Go.Proofs.YthcbhbdgbiiagaaDoor.Help Go.Proofs.YthcbhbdgbiiagaaDoor.Keep
set_option linter.unusedVariables false
set_option linter.unusedSimpArgs false
theorem own : ownKnob Tryd.prog.godebug = none := by kernel_rfl
theorem laidOut : laidOutB Tryd.prog = true := by kernel_rfl
theorem agree (s r : Int) (zs : List Int) (hz : zs.length ≤ 1048576) : ∃ (qs qr : Int) (rs : List Int) (q1 : Int) (ok : Bool), rs.length ≤ 1000000 ∧
    (∀ (w : World) (b : Nat) (v : Value), Rd w b v zs → Calls Tryd.prog 18 #[Rule.ruleV s r v] w fun e w' => ∃ ao c b', e = .returned (.tuple #[Rule.ruleV qs qr (.slice ao rs.length c), .int .i64 q1, .bool ok]) ∧ Rd.Own 2 w' b' (.slice ao rs.length c) rs ∧ w.heap.size ≤ b' ∧ Below w.heap.size w w') ∧
    (∀ (w : World) (b : Nat) (v : Value), Bes.GW w → Rd w b v zs → Calls Tryd.prog 19 #[Rule.ruleV s r v] w fun e w' => ∃ ao c b', e = .returned (.tuple #[Rule.ruleV qs qr (.slice ao rs.length c), .int .i64 q1, .bool ok]) ∧ Rd.Own 2 w' b' (.slice ao rs.length c) rs ∧ w.heap.size ≤ b' ∧ Below w.heap.size w w') := Brn.agree s r zs

theorem mcellB {w w' : World} {c n i : Nat} {u v : Value} (g : w.grownBy w' (some c)) (gn : v = .slice none 0 0 → Below w.heap.size w w') (h : w.cell? ⟨n, i, none⟩ = some u) (hne : v = .slice none 0 0 ∨ n ≠ c) : w'.cell? ⟨n, i, none⟩ = some u := by
  rcases hne with hv | hne
  · exact cell_keep (gn hv) h
  · exact mcell g h hne
theorem nx3_1 {N : Nat} {w0 w w' : World} {p0 p1 p2 : Addr} {c0 c1 c2 : Value} {b0 : Nat} {v0 : Value} {z0 : List Int} (bel : Below w.heap.size w w') (h : Below N w0 w ∧ w.cell? p0 = some c0 ∧ w.cell? p1 = some c1 ∧ w.cell? p2 = some c2 ∧ Rd w b0 v0 z0 ∧ N ≤ w.heap.size) : Below N w0 w' ∧ w'.cell? p0 = some c0 ∧ w'.cell? p1 = some c1 ∧ w'.cell? p2 = some c2 ∧ Rd w' b0 v0 z0 ∧ N ≤ w'.heap.size := by obtain ⟨h0, x0, x1, x2, y0, h5⟩ := h; exact ⟨h0.trans (bel.mono h5), cell_keep bel x0, cell_keep bel x1, cell_keep bel x2, y0.keep bel (Nat.le_refl _), Nat.le_trans h5 bel.size⟩
theorem drw3_1 {N : Nat} {w0 w : World} {p0 p1 p2 : Addr} {c0 c1 c2 : Value} {b0 : Nat} {v0 : Value} {z0 : List Int} (h : Below N w0 w ∧ w.cell? p0 = some c0 ∧ w.cell? p1 = some c1 ∧ w.cell? p2 = some c2 ∧ Rd w b0 v0 z0 ∧ N ≤ w.heap.size) : Below N w0 w.drew ∧ w.drew.cell? p0 = some c0 ∧ w.drew.cell? p1 = some c1 ∧ w.drew.cell? p2 = some c2 ∧ Rd w.drew b0 v0 z0 ∧ N ≤ w.drew.heap.size := by obtain ⟨h0, x0, x1, x2, y0, h5⟩ := h; exact ⟨h0.drew, x0, x1, x2, y0, h5⟩
theorem rdx3_1_0 {N : Nat} {w0 w : World} {p0 p1 p2 : Addr} {c0 c1 c2 : Value} {b0 : Nat} {v0 : Value} {z0 : List Int} (h : Below N w0 w ∧ w.cell? p0 = some c0 ∧ w.cell? p1 = some c1 ∧ w.cell? p2 = some c2 ∧ Rd w b0 v0 z0 ∧ N ≤ w.heap.size) : Rd w b0 v0 z0 := by obtain ⟨h0, x0, x1, x2, y0, h5⟩ := h; exact y0
theorem nx6_1 {N : Nat} {w0 w w' : World} {p0 p1 p2 p3 p4 p5 : Addr} {c0 c1 c2 c3 c4 c5 : Value} {b0 : Nat} {v0 : Value} {z0 : List Int} (bel : Below w.heap.size w w') (h : Below N w0 w ∧ w.cell? p0 = some c0 ∧ w.cell? p1 = some c1 ∧ w.cell? p2 = some c2 ∧ w.cell? p3 = some c3 ∧ w.cell? p4 = some c4 ∧ w.cell? p5 = some c5 ∧ Rd w b0 v0 z0 ∧ N ≤ w.heap.size) : Below N w0 w' ∧ w'.cell? p0 = some c0 ∧ w'.cell? p1 = some c1 ∧ w'.cell? p2 = some c2 ∧ w'.cell? p3 = some c3 ∧ w'.cell? p4 = some c4 ∧ w'.cell? p5 = some c5 ∧ Rd w' b0 v0 z0 ∧ N ≤ w'.heap.size := by obtain ⟨h0, x0, x1, x2, x3, x4, x5, y0, h5⟩ := h; exact ⟨h0.trans (bel.mono h5), cell_keep bel x0, cell_keep bel x1, cell_keep bel x2, cell_keep bel x3, cell_keep bel x4, cell_keep bel x5, y0.keep bel (Nat.le_refl _), Nat.le_trans h5 bel.size⟩
theorem drw6_1 {N : Nat} {w0 w : World} {p0 p1 p2 p3 p4 p5 : Addr} {c0 c1 c2 c3 c4 c5 : Value} {b0 : Nat} {v0 : Value} {z0 : List Int} (h : Below N w0 w ∧ w.cell? p0 = some c0 ∧ w.cell? p1 = some c1 ∧ w.cell? p2 = some c2 ∧ w.cell? p3 = some c3 ∧ w.cell? p4 = some c4 ∧ w.cell? p5 = some c5 ∧ Rd w b0 v0 z0 ∧ N ≤ w.heap.size) : Below N w0 w.drew ∧ w.drew.cell? p0 = some c0 ∧ w.drew.cell? p1 = some c1 ∧ w.drew.cell? p2 = some c2 ∧ w.drew.cell? p3 = some c3 ∧ w.drew.cell? p4 = some c4 ∧ w.drew.cell? p5 = some c5 ∧ Rd w.drew b0 v0 z0 ∧ N ≤ w.drew.heap.size := by obtain ⟨h0, x0, x1, x2, x3, x4, x5, y0, h5⟩ := h; exact ⟨h0.drew, x0, x1, x2, x3, x4, x5, y0, h5⟩
theorem rdx6_1_0 {N : Nat} {w0 w : World} {p0 p1 p2 p3 p4 p5 : Addr} {c0 c1 c2 c3 c4 c5 : Value} {b0 : Nat} {v0 : Value} {z0 : List Int} (h : Below N w0 w ∧ w.cell? p0 = some c0 ∧ w.cell? p1 = some c1 ∧ w.cell? p2 = some c2 ∧ w.cell? p3 = some c3 ∧ w.cell? p4 = some c4 ∧ w.cell? p5 = some c5 ∧ Rd w b0 v0 z0 ∧ N ≤ w.heap.size) : Rd w b0 v0 z0 := by obtain ⟨h0, x0, x1, x2, x3, x4, x5, y0, h5⟩ := h; exact y0
theorem nx9_1 {N : Nat} {w0 w w' : World} {p0 p1 p2 p3 p4 p5 p6 p7 p8 : Addr} {c0 c1 c2 c3 c4 c5 c6 c7 c8 : Value} {b0 : Nat} {v0 : Value} {z0 : List Int} (bel : Below w.heap.size w w') (h : Below N w0 w ∧ w.cell? p0 = some c0 ∧ w.cell? p1 = some c1 ∧ w.cell? p2 = some c2 ∧ w.cell? p3 = some c3 ∧ w.cell? p4 = some c4 ∧ w.cell? p5 = some c5 ∧ w.cell? p6 = some c6 ∧ w.cell? p7 = some c7 ∧ w.cell? p8 = some c8 ∧ Rd w b0 v0 z0 ∧ N ≤ w.heap.size) : Below N w0 w' ∧ w'.cell? p0 = some c0 ∧ w'.cell? p1 = some c1 ∧ w'.cell? p2 = some c2 ∧ w'.cell? p3 = some c3 ∧ w'.cell? p4 = some c4 ∧ w'.cell? p5 = some c5 ∧ w'.cell? p6 = some c6 ∧ w'.cell? p7 = some c7 ∧ w'.cell? p8 = some c8 ∧ Rd w' b0 v0 z0 ∧ N ≤ w'.heap.size := by obtain ⟨h0, x0, x1, x2, x3, x4, x5, x6, x7, x8, y0, h5⟩ := h; exact ⟨h0.trans (bel.mono h5), cell_keep bel x0, cell_keep bel x1, cell_keep bel x2, cell_keep bel x3, cell_keep bel x4, cell_keep bel x5, cell_keep bel x6, cell_keep bel x7, cell_keep bel x8, y0.keep bel (Nat.le_refl _), Nat.le_trans h5 bel.size⟩
theorem drw9_1 {N : Nat} {w0 w : World} {p0 p1 p2 p3 p4 p5 p6 p7 p8 : Addr} {c0 c1 c2 c3 c4 c5 c6 c7 c8 : Value} {b0 : Nat} {v0 : Value} {z0 : List Int} (h : Below N w0 w ∧ w.cell? p0 = some c0 ∧ w.cell? p1 = some c1 ∧ w.cell? p2 = some c2 ∧ w.cell? p3 = some c3 ∧ w.cell? p4 = some c4 ∧ w.cell? p5 = some c5 ∧ w.cell? p6 = some c6 ∧ w.cell? p7 = some c7 ∧ w.cell? p8 = some c8 ∧ Rd w b0 v0 z0 ∧ N ≤ w.heap.size) : Below N w0 w.drew ∧ w.drew.cell? p0 = some c0 ∧ w.drew.cell? p1 = some c1 ∧ w.drew.cell? p2 = some c2 ∧ w.drew.cell? p3 = some c3 ∧ w.drew.cell? p4 = some c4 ∧ w.drew.cell? p5 = some c5 ∧ w.drew.cell? p6 = some c6 ∧ w.drew.cell? p7 = some c7 ∧ w.drew.cell? p8 = some c8 ∧ Rd w.drew b0 v0 z0 ∧ N ≤ w.drew.heap.size := by obtain ⟨h0, x0, x1, x2, x3, x4, x5, x6, x7, x8, y0, h5⟩ := h; exact ⟨h0.drew, x0, x1, x2, x3, x4, x5, x6, x7, x8, y0, h5⟩
theorem rdx9_1_0 {N : Nat} {w0 w : World} {p0 p1 p2 p3 p4 p5 p6 p7 p8 : Addr} {c0 c1 c2 c3 c4 c5 c6 c7 c8 : Value} {b0 : Nat} {v0 : Value} {z0 : List Int} (h : Below N w0 w ∧ w.cell? p0 = some c0 ∧ w.cell? p1 = some c1 ∧ w.cell? p2 = some c2 ∧ w.cell? p3 = some c3 ∧ w.cell? p4 = some c4 ∧ w.cell? p5 = some c5 ∧ w.cell? p6 = some c6 ∧ w.cell? p7 = some c7 ∧ w.cell? p8 = some c8 ∧ Rd w b0 v0 z0 ∧ N ≤ w.heap.size) : Rd w b0 v0 z0 := by obtain ⟨h0, x0, x1, x2, x3, x4, x5, x6, x7, x8, y0, h5⟩ := h; exact y0
theorem nx12_1 {N : Nat} {w0 w w' : World} {p0 p1 p2 p3 p4 p5 p6 p7 p8 p9 p10 p11 : Addr} {c0 c1 c2 c3 c4 c5 c6 c7 c8 c9 c10 c11 : Value} {b0 : Nat} {v0 : Value} {z0 : List Int} (bel : Below w.heap.size w w') (h : Below N w0 w ∧ w.cell? p0 = some c0 ∧ w.cell? p1 = some c1 ∧ w.cell? p2 = some c2 ∧ w.cell? p3 = some c3 ∧ w.cell? p4 = some c4 ∧ w.cell? p5 = some c5 ∧ w.cell? p6 = some c6 ∧ w.cell? p7 = some c7 ∧ w.cell? p8 = some c8 ∧ w.cell? p9 = some c9 ∧ w.cell? p10 = some c10 ∧ w.cell? p11 = some c11 ∧ Rd w b0 v0 z0 ∧ N ≤ w.heap.size) : Below N w0 w' ∧ w'.cell? p0 = some c0 ∧ w'.cell? p1 = some c1 ∧ w'.cell? p2 = some c2 ∧ w'.cell? p3 = some c3 ∧ w'.cell? p4 = some c4 ∧ w'.cell? p5 = some c5 ∧ w'.cell? p6 = some c6 ∧ w'.cell? p7 = some c7 ∧ w'.cell? p8 = some c8 ∧ w'.cell? p9 = some c9 ∧ w'.cell? p10 = some c10 ∧ w'.cell? p11 = some c11 ∧ Rd w' b0 v0 z0 ∧ N ≤ w'.heap.size := by obtain ⟨h0, x0, x1, x2, x3, x4, x5, x6, x7, x8, x9, x10, x11, y0, h5⟩ := h; exact ⟨h0.trans (bel.mono h5), cell_keep bel x0, cell_keep bel x1, cell_keep bel x2, cell_keep bel x3, cell_keep bel x4, cell_keep bel x5, cell_keep bel x6, cell_keep bel x7, cell_keep bel x8, cell_keep bel x9, cell_keep bel x10, cell_keep bel x11, y0.keep bel (Nat.le_refl _), Nat.le_trans h5 bel.size⟩
theorem drw12_1 {N : Nat} {w0 w : World} {p0 p1 p2 p3 p4 p5 p6 p7 p8 p9 p10 p11 : Addr} {c0 c1 c2 c3 c4 c5 c6 c7 c8 c9 c10 c11 : Value} {b0 : Nat} {v0 : Value} {z0 : List Int} (h : Below N w0 w ∧ w.cell? p0 = some c0 ∧ w.cell? p1 = some c1 ∧ w.cell? p2 = some c2 ∧ w.cell? p3 = some c3 ∧ w.cell? p4 = some c4 ∧ w.cell? p5 = some c5 ∧ w.cell? p6 = some c6 ∧ w.cell? p7 = some c7 ∧ w.cell? p8 = some c8 ∧ w.cell? p9 = some c9 ∧ w.cell? p10 = some c10 ∧ w.cell? p11 = some c11 ∧ Rd w b0 v0 z0 ∧ N ≤ w.heap.size) : Below N w0 w.drew ∧ w.drew.cell? p0 = some c0 ∧ w.drew.cell? p1 = some c1 ∧ w.drew.cell? p2 = some c2 ∧ w.drew.cell? p3 = some c3 ∧ w.drew.cell? p4 = some c4 ∧ w.drew.cell? p5 = some c5 ∧ w.drew.cell? p6 = some c6 ∧ w.drew.cell? p7 = some c7 ∧ w.drew.cell? p8 = some c8 ∧ w.drew.cell? p9 = some c9 ∧ w.drew.cell? p10 = some c10 ∧ w.drew.cell? p11 = some c11 ∧ Rd w.drew b0 v0 z0 ∧ N ≤ w.drew.heap.size := by obtain ⟨h0, x0, x1, x2, x3, x4, x5, x6, x7, x8, x9, x10, x11, y0, h5⟩ := h; exact ⟨h0.drew, x0, x1, x2, x3, x4, x5, x6, x7, x8, x9, x10, x11, y0, h5⟩
theorem rdx12_1_0 {N : Nat} {w0 w : World} {p0 p1 p2 p3 p4 p5 p6 p7 p8 p9 p10 p11 : Addr} {c0 c1 c2 c3 c4 c5 c6 c7 c8 c9 c10 c11 : Value} {b0 : Nat} {v0 : Value} {z0 : List Int} (h : Below N w0 w ∧ w.cell? p0 = some c0 ∧ w.cell? p1 = some c1 ∧ w.cell? p2 = some c2 ∧ w.cell? p3 = some c3 ∧ w.cell? p4 = some c4 ∧ w.cell? p5 = some c5 ∧ w.cell? p6 = some c6 ∧ w.cell? p7 = some c7 ∧ w.cell? p8 = some c8 ∧ w.cell? p9 = some c9 ∧ w.cell? p10 = some c10 ∧ w.cell? p11 = some c11 ∧ Rd w b0 v0 z0 ∧ N ≤ w.heap.size) : Rd w b0 v0 z0 := by obtain ⟨h0, x0, x1, x2, x3, x4, x5, x6, x7, x8, x9, x10, x11, y0, h5⟩ := h; exact y0
theorem nx15_1 {N : Nat} {w0 w w' : World} {p0 p1 p2 p3 p4 p5 p6 p7 p8 p9 p10 p11 p12 p13 p14 : Addr} {c0 c1 c2 c3 c4 c5 c6 c7 c8 c9 c10 c11 c12 c13 c14 : Value} {b0 : Nat} {v0 : Value} {z0 : List Int} (bel : Below w.heap.size w w') (h : Below N w0 w ∧ w.cell? p0 = some c0 ∧ w.cell? p1 = some c1 ∧ w.cell? p2 = some c2 ∧ w.cell? p3 = some c3 ∧ w.cell? p4 = some c4 ∧ w.cell? p5 = some c5 ∧ w.cell? p6 = some c6 ∧ w.cell? p7 = some c7 ∧ w.cell? p8 = some c8 ∧ w.cell? p9 = some c9 ∧ w.cell? p10 = some c10 ∧ w.cell? p11 = some c11 ∧ w.cell? p12 = some c12 ∧ w.cell? p13 = some c13 ∧ w.cell? p14 = some c14 ∧ Rd w b0 v0 z0 ∧ N ≤ w.heap.size) : Below N w0 w' ∧ w'.cell? p0 = some c0 ∧ w'.cell? p1 = some c1 ∧ w'.cell? p2 = some c2 ∧ w'.cell? p3 = some c3 ∧ w'.cell? p4 = some c4 ∧ w'.cell? p5 = some c5 ∧ w'.cell? p6 = some c6 ∧ w'.cell? p7 = some c7 ∧ w'.cell? p8 = some c8 ∧ w'.cell? p9 = some c9 ∧ w'.cell? p10 = some c10 ∧ w'.cell? p11 = some c11 ∧ w'.cell? p12 = some c12 ∧ w'.cell? p13 = some c13 ∧ w'.cell? p14 = some c14 ∧ Rd w' b0 v0 z0 ∧ N ≤ w'.heap.size := by obtain ⟨h0, x0, x1, x2, x3, x4, x5, x6, x7, x8, x9, x10, x11, x12, x13, x14, y0, h5⟩ := h; exact ⟨h0.trans (bel.mono h5), cell_keep bel x0, cell_keep bel x1, cell_keep bel x2, cell_keep bel x3, cell_keep bel x4, cell_keep bel x5, cell_keep bel x6, cell_keep bel x7, cell_keep bel x8, cell_keep bel x9, cell_keep bel x10, cell_keep bel x11, cell_keep bel x12, cell_keep bel x13, cell_keep bel x14, y0.keep bel (Nat.le_refl _), Nat.le_trans h5 bel.size⟩
theorem drw15_1 {N : Nat} {w0 w : World} {p0 p1 p2 p3 p4 p5 p6 p7 p8 p9 p10 p11 p12 p13 p14 : Addr} {c0 c1 c2 c3 c4 c5 c6 c7 c8 c9 c10 c11 c12 c13 c14 : Value} {b0 : Nat} {v0 : Value} {z0 : List Int} (h : Below N w0 w ∧ w.cell? p0 = some c0 ∧ w.cell? p1 = some c1 ∧ w.cell? p2 = some c2 ∧ w.cell? p3 = some c3 ∧ w.cell? p4 = some c4 ∧ w.cell? p5 = some c5 ∧ w.cell? p6 = some c6 ∧ w.cell? p7 = some c7 ∧ w.cell? p8 = some c8 ∧ w.cell? p9 = some c9 ∧ w.cell? p10 = some c10 ∧ w.cell? p11 = some c11 ∧ w.cell? p12 = some c12 ∧ w.cell? p13 = some c13 ∧ w.cell? p14 = some c14 ∧ Rd w b0 v0 z0 ∧ N ≤ w.heap.size) : Below N w0 w.drew ∧ w.drew.cell? p0 = some c0 ∧ w.drew.cell? p1 = some c1 ∧ w.drew.cell? p2 = some c2 ∧ w.drew.cell? p3 = some c3 ∧ w.drew.cell? p4 = some c4 ∧ w.drew.cell? p5 = some c5 ∧ w.drew.cell? p6 = some c6 ∧ w.drew.cell? p7 = some c7 ∧ w.drew.cell? p8 = some c8 ∧ w.drew.cell? p9 = some c9 ∧ w.drew.cell? p10 = some c10 ∧ w.drew.cell? p11 = some c11 ∧ w.drew.cell? p12 = some c12 ∧ w.drew.cell? p13 = some c13 ∧ w.drew.cell? p14 = some c14 ∧ Rd w.drew b0 v0 z0 ∧ N ≤ w.drew.heap.size := by obtain ⟨h0, x0, x1, x2, x3, x4, x5, x6, x7, x8, x9, x10, x11, x12, x13, x14, y0, h5⟩ := h; exact ⟨h0.drew, x0, x1, x2, x3, x4, x5, x6, x7, x8, x9, x10, x11, x12, x13, x14, y0, h5⟩
theorem rdx15_1_0 {N : Nat} {w0 w : World} {p0 p1 p2 p3 p4 p5 p6 p7 p8 p9 p10 p11 p12 p13 p14 : Addr} {c0 c1 c2 c3 c4 c5 c6 c7 c8 c9 c10 c11 c12 c13 c14 : Value} {b0 : Nat} {v0 : Value} {z0 : List Int} (h : Below N w0 w ∧ w.cell? p0 = some c0 ∧ w.cell? p1 = some c1 ∧ w.cell? p2 = some c2 ∧ w.cell? p3 = some c3 ∧ w.cell? p4 = some c4 ∧ w.cell? p5 = some c5 ∧ w.cell? p6 = some c6 ∧ w.cell? p7 = some c7 ∧ w.cell? p8 = some c8 ∧ w.cell? p9 = some c9 ∧ w.cell? p10 = some c10 ∧ w.cell? p11 = some c11 ∧ w.cell? p12 = some c12 ∧ w.cell? p13 = some c13 ∧ w.cell? p14 = some c14 ∧ Rd w b0 v0 z0 ∧ N ≤ w.heap.size) : Rd w b0 v0 z0 := by obtain ⟨h0, x0, x1, x2, x3, x4, x5, x6, x7, x8, x9, x10, x11, x12, x13, x14, y0, h5⟩ := h; exact y0

set_option maxRecDepth 100000 in
set_option maxHeartbeats 16000000 in
theorem walk {w : World} {s0 r0 : Int} (fs0 : (Lit.int .i64 s0).wf = true) (fr0 : (Lit.int .i64 r0).wf = true) {b0 : Nat} {v0 : Value} {z0 : List Int} (h0 : Rd w b0 v0 z0) (hg : Bes.GW w) :
    Calls Tryd.prog 6 #[Rule.ruleV s0 r0 v0] w fun e w' => e = .returned (.bool true) ∧ Below w.heap.size w w' := by
  have HGW : Hid (Bes.GW w) := hg
  clear hg
  obtain ⟨ao0, cap0, e0, kc0, mc0, _⟩ := id h0
  have H0 : Hid (Rd w b0 v0 z0) := h0
  subst e0; clear h0
  have nb0 : z0.length ≤ 9223372036854775807 := by unfold maxLen at mc0; omega
  clear kc0 mc0
  rcases Nat.lt_or_ge 1048576 z0.length with hx0 | hl0
  · have HE : Hid ((if (z0.length : Int) ≤ 1048576 then 1048576 - (z0.length : Int) else -1) = -1) := if_neg (by omega)
    go_enter Tryd.func6, Tryd.ntmps6
    go_wp2_with fail
    go_at_call 7
    refine (szR nb0 (by omega) (by omega)).mono ?_
    rw [HE.out]
    rintro e w1 ⟨rfl, bel⟩
    go_wp2
    go_ret
    exact ⟨rfl, (Rule.below1 _ _).trans (bel.mono (Rule.below1 _ _).size)⟩
  have hi0 : (z0.length : Int) ≤ 1048576 := by omega
  have HE : Hid ((if (z0.length : Int) ≤ 1048576 then 1048576 - (z0.length : Int) else -1) = 1048576 - (z0.length : Int)) := if_pos hi0
  have HL0 : Hid (z0.length ≤ 1048576) := hl0
  obtain ⟨qs, qr, rs, q1, q2, hlen, hspec, himpl⟩ := agree s0 r0 z0 hl0
  have HN : Hid (rs.length ≤ 1000000) := hlen
  have hlen' : (rs.length : Int) ≤ 1000000 := by omega
  clear hlen
  have HSp := hid @hspec
  have HIm := hid @himpl
  clear hspec himpl hl0
  go_enter Tryd.func6, Tryd.ntmps6
  go_wp2_with fail
  obtain ⟨w1, hW⟩ : ∃ w1, w1 = w.alloc (Obj.cells #[.int .i64 s0, .int .i64 r0, (Value.slice ao0 z0.length cap0)] 24) := ⟨_, rfl⟩
  obtain ⟨NA, hN⟩ : ∃ NA, NA = w.heap.size := ⟨_, rfl⟩
  have st : Below w.heap.size w w1 ∧ w1.cell? ⟨NA, 0, none⟩ = some (.int .i64 s0) ∧ w1.cell? ⟨NA, 1, none⟩ = some (.int .i64 r0) ∧ w1.cell? ⟨NA, 2, none⟩ = some ((Value.slice ao0 z0.length cap0)) ∧ Rd w1 b0 (Value.slice ao0 z0.length cap0) z0 ∧ w.heap.size ≤ w1.heap.size := by
    rw [hW, hN]
    exact ⟨Rule.below1 _ _, by simp, by simp, by simp, H0.out.keep (Rule.below1 _ _) (Nat.le_refl _), by simp⟩
  simp only [← hW, ← hN]
  clear hW hN
  go_wp2_with fail
  go_at_call 7
  refine (szR nb0 (by omega) (by omega)).mono ?_
  rw [HE.out]
  rintro e w2 ⟨rfl, bel⟩
  replace st := nx3_1 bel st
  clear bel
  go_wp2_with fail
  go_at_call 9
  refine (toR (rdx3_1_0 st) HL0.out).mono ?_
  rintro e w3 ⟨bp0, rfl, op0, lo, bel⟩
  have cbp0 : w.heap.size ≤ bp0 := Nat.le_trans (And.left st).size lo
  have nbA_p0 : (Value.slice (some ⟨bp0, 0, none⟩) z0.length z0.length) = Value.slice none 0 0 ∨ NA ≠ bp0 := .inr (Nat.ne_of_lt (Nat.lt_of_lt_of_le (World.block_lt_of_cell? _ _ st.2.1) lo))
  replace st := nx3_1 bel st
  clear bel
  clear lo
  go_wp2_with fail
  go_at_call 18
  refine (HSp.out _ _ _ op0.rd).mono ?_
  rintro e w4 ⟨aoW, cW, bW, rfl, oW, lo, bel⟩
  have nep0W := (lim op0).imp id (fun hx => (by omega : bp0 ≠ bW))
  have cbW : w.heap.size ≤ bW := Nat.le_trans (And.left st).size lo
  have nbA_W : (Value.slice aoW rs.length cW) = Value.slice none 0 0 ∨ NA ≠ bW := .inr (Nat.ne_of_lt (Nat.lt_of_lt_of_le (World.block_lt_of_cell? _ _ st.2.1) lo))
  replace st := nx3_1 bel st
  replace op0 := op0.keep bel
  clear bel
  clear lo
  clear op0
  obtain ⟨w6, hW⟩ : ∃ w6, w6 = w4.alloc (Obj.cells #[.int .i64 qs, .int .i64 qr, (Value.slice aoW rs.length cW)] 26) := ⟨_, rfl⟩
  obtain ⟨NW, hN⟩ : ∃ NW, NW = w4.heap.size := ⟨_, rfl⟩
  have nbW_W : (Value.slice aoW rs.length cW) = Value.slice none 0 0 ∨ NW ≠ bW := (lim oW).imp id (fun hx => by rw [hN]; exact Nat.ne_of_gt hx)
  have bel : Below w4.heap.size w4 w6 := by rw [hW]; exact Rule.below1 _ _
  have st' : Below w.heap.size w w6 ∧ w6.cell? ⟨NA, 0, none⟩ = some (.int .i64 s0) ∧ w6.cell? ⟨NA, 1, none⟩ = some (.int .i64 r0) ∧ w6.cell? ⟨NA, 2, none⟩ = some ((Value.slice ao0 z0.length cap0)) ∧ w6.cell? ⟨NW, 0, none⟩ = some (.int .i64 qs) ∧ w6.cell? ⟨NW, 1, none⟩ = some (.int .i64 qr) ∧ w6.cell? ⟨NW, 2, none⟩ = some ((Value.slice aoW rs.length cW)) ∧ Rd w6 b0 (Value.slice ao0 z0.length cap0) z0 ∧ w.heap.size ≤ w6.heap.size := by
    obtain ⟨t0, c0, c1, c2, d0, tz⟩ := nx3_1 bel st
    exact ⟨t0, c0, c1, c2, by rw [hW, hN]; simp, by rw [hW, hN]; simp, by rw [hW, hN]; simp, d0, tz⟩
  replace oW := oW.keep bel
  clear st bel; have st := st'; clear st'
  have stp := st
  rw [hW, hN] at stp
  go_wp2_with fail
  clear stp
  simp only [← hW, ← hN]
  clear hW hN
  go_at_call 9
  refine (toR (rdx6_1_0 st) HL0.out).mono ?_
  rintro e w5 ⟨bx0, rfl, ox0, lo, bel⟩
  have neWx0 := (lim oW).imp id (fun hx => (by omega : bW ≠ bx0))
  have cbx0 : w.heap.size ≤ bx0 := Nat.le_trans (And.left st).size lo
  have nbA_x0 : (Value.slice (some ⟨bx0, 0, none⟩) z0.length z0.length) = Value.slice none 0 0 ∨ NA ≠ bx0 := .inr (Nat.ne_of_lt (Nat.lt_of_lt_of_le (World.block_lt_of_cell? _ _ st.2.1) lo))
  have nbW_x0 : (Value.slice (some ⟨bx0, 0, none⟩) z0.length z0.length) = Value.slice none 0 0 ∨ NW ≠ bx0 := .inr (Nat.ne_of_lt (Nat.lt_of_lt_of_le (World.block_lt_of_cell? _ _ st.2.2.2.2.1) lo))
  replace st := nx6_1 bel st
  replace oW := oW.keep bel
  clear bel
  clear lo
  obtain ⟨w8, hW⟩ : ∃ w8, w8 = w5.alloc (Obj.cells #[.int .i64 s0, .int .i64 r0, (Value.slice (some ⟨bx0, 0, none⟩) z0.length z0.length)] 26) := ⟨_, rfl⟩
  obtain ⟨NX0, hN⟩ : ∃ NX0, NX0 = w5.heap.size := ⟨_, rfl⟩
  have nbX0_W : (Value.slice aoW rs.length cW) = Value.slice none 0 0 ∨ NX0 ≠ bW := (lim oW).imp id (fun hx => by rw [hN]; exact Nat.ne_of_gt hx)
  have nbX0_x0 : (Value.slice (some ⟨bx0, 0, none⟩) z0.length z0.length) = Value.slice none 0 0 ∨ NX0 ≠ bx0 := (lim ox0).imp id (fun hx => by rw [hN]; exact Nat.ne_of_gt hx)
  have bel : Below w5.heap.size w5 w8 := by rw [hW]; exact Rule.below1 _ _
  have st' : Below w.heap.size w w8 ∧ w8.cell? ⟨NA, 0, none⟩ = some (.int .i64 s0) ∧ w8.cell? ⟨NA, 1, none⟩ = some (.int .i64 r0) ∧ w8.cell? ⟨NA, 2, none⟩ = some ((Value.slice ao0 z0.length cap0)) ∧ w8.cell? ⟨NW, 0, none⟩ = some (.int .i64 qs) ∧ w8.cell? ⟨NW, 1, none⟩ = some (.int .i64 qr) ∧ w8.cell? ⟨NW, 2, none⟩ = some ((Value.slice aoW rs.length cW)) ∧ w8.cell? ⟨NX0, 0, none⟩ = some (.int .i64 s0) ∧ w8.cell? ⟨NX0, 1, none⟩ = some (.int .i64 r0) ∧ w8.cell? ⟨NX0, 2, none⟩ = some ((Value.slice (some ⟨bx0, 0, none⟩) z0.length z0.length)) ∧ Rd w8 b0 (Value.slice ao0 z0.length cap0) z0 ∧ w.heap.size ≤ w8.heap.size := by
    obtain ⟨t0, c0, c1, c2, c3, c4, c5, d0, tz⟩ := nx6_1 bel st
    exact ⟨t0, c0, c1, c2, c3, c4, c5, by rw [hW, hN]; simp, by rw [hW, hN]; simp, by rw [hW, hN]; simp, d0, tz⟩
  replace oW := oW.keep bel
  replace ox0 := ox0.keep bel
  clear st bel; have st := st'; clear st'
  have stp := st
  rw [hW, hN] at stp
  go_wp2_with fail
  clear stp
  simp only [← hW, ← hN]
  clear hW hN
  go_at_call 19
  refine (HIm.out _ _ _ (by first | exact Bes.gw_bel HGW.out (And.left st) | exact Bes.gw_bel HGW.out (And.left hHeld) | exact Bes.gw_bel HGW.out (HD0.out.1.trans (belD.mono HD0.out.1.size))) ox0.rd).mono ?_
  rintro e w7 ⟨aoG, cG, bG, rfl, oG, lo, bel⟩
  have neWG := (lim oW).imp id (fun hx => (by omega : bW ≠ bG))
  have nex0G := (lim ox0).imp id (fun hx => (by omega : bx0 ≠ bG))
  have cbG : w.heap.size ≤ bG := Nat.le_trans (And.left st).size lo
  have nbA_G : (Value.slice aoG rs.length cG) = Value.slice none 0 0 ∨ NA ≠ bG := .inr (Nat.ne_of_lt (Nat.lt_of_lt_of_le (World.block_lt_of_cell? _ _ st.2.1) lo))
  have nbW_G : (Value.slice aoG rs.length cG) = Value.slice none 0 0 ∨ NW ≠ bG := .inr (Nat.ne_of_lt (Nat.lt_of_lt_of_le (World.block_lt_of_cell? _ _ st.2.2.2.2.1) lo))
  have nbX0_G : (Value.slice aoG rs.length cG) = Value.slice none 0 0 ∨ NX0 ≠ bG := .inr (Nat.ne_of_lt (Nat.lt_of_lt_of_le (World.block_lt_of_cell? _ _ st.2.2.2.2.2.2.2.1) lo))
  replace st := nx9_1 bel st
  replace oW := oW.keep bel
  replace ox0 := ox0.keep bel
  clear bel
  clear lo
  obtain ⟨w10, hW⟩ : ∃ w10, w10 = w7.alloc (Obj.cells #[.int .i64 qs, .int .i64 qr, (Value.slice aoG rs.length cG)] 26) := ⟨_, rfl⟩
  obtain ⟨NG, hN⟩ : ∃ NG, NG = w7.heap.size := ⟨_, rfl⟩
  have nbG_W : (Value.slice aoW rs.length cW) = Value.slice none 0 0 ∨ NG ≠ bW := (lim oW).imp id (fun hx => by rw [hN]; exact Nat.ne_of_gt hx)
  have nbG_x0 : (Value.slice (some ⟨bx0, 0, none⟩) z0.length z0.length) = Value.slice none 0 0 ∨ NG ≠ bx0 := (lim ox0).imp id (fun hx => by rw [hN]; exact Nat.ne_of_gt hx)
  have nbG_G : (Value.slice aoG rs.length cG) = Value.slice none 0 0 ∨ NG ≠ bG := (lim oG).imp id (fun hx => by rw [hN]; exact Nat.ne_of_gt hx)
  have bel : Below w7.heap.size w7 w10 := by rw [hW]; exact Rule.below1 _ _
  have st' : Below w.heap.size w w10 ∧ w10.cell? ⟨NA, 0, none⟩ = some (.int .i64 s0) ∧ w10.cell? ⟨NA, 1, none⟩ = some (.int .i64 r0) ∧ w10.cell? ⟨NA, 2, none⟩ = some ((Value.slice ao0 z0.length cap0)) ∧ w10.cell? ⟨NW, 0, none⟩ = some (.int .i64 qs) ∧ w10.cell? ⟨NW, 1, none⟩ = some (.int .i64 qr) ∧ w10.cell? ⟨NW, 2, none⟩ = some ((Value.slice aoW rs.length cW)) ∧ w10.cell? ⟨NX0, 0, none⟩ = some (.int .i64 s0) ∧ w10.cell? ⟨NX0, 1, none⟩ = some (.int .i64 r0) ∧ w10.cell? ⟨NX0, 2, none⟩ = some ((Value.slice (some ⟨bx0, 0, none⟩) z0.length z0.length)) ∧ w10.cell? ⟨NG, 0, none⟩ = some (.int .i64 qs) ∧ w10.cell? ⟨NG, 1, none⟩ = some (.int .i64 qr) ∧ w10.cell? ⟨NG, 2, none⟩ = some ((Value.slice aoG rs.length cG)) ∧ Rd w10 b0 (Value.slice ao0 z0.length cap0) z0 ∧ w.heap.size ≤ w10.heap.size := by
    obtain ⟨t0, c0, c1, c2, c3, c4, c5, c6, c7, c8, d0, tz⟩ := nx9_1 bel st
    exact ⟨t0, c0, c1, c2, c3, c4, c5, c6, c7, c8, by rw [hW, hN]; simp, by rw [hW, hN]; simp, by rw [hW, hN]; simp, d0, tz⟩
  replace oW := oW.keep bel
  replace ox0 := ox0.keep bel
  replace oG := oG.keep bel
  clear st bel; have st := st'; clear st'
  have stp := st
  rw [hW, hN] at stp
  go_wp2_with fail
  clear stp
  simp only [← hW, ← hN]
  clear hW hN
  go_at_call 11
  refine (eqR oG.rd oW.rd).mono ?_
  rintro e w9 ⟨rfl, bel⟩
  replace st := nx12_1 bel st
  replace oW := oW.keep bel
  replace ox0 := ox0.keep bel
  replace oG := oG.keep bel
  clear bel
  go_wp2_with fail
  (try refine Box.wp_noPanic ?_)
  refine wp_region_held_drew (S := (fun ww => Below w.heap.size w ww ∧ ww.cell? ⟨NA, 0, none⟩ = some (.int .i64 s0) ∧ ww.cell? ⟨NA, 1, none⟩ = some (.int .i64 r0) ∧ ww.cell? ⟨NA, 2, none⟩ = some ((Value.slice ao0 z0.length cap0)) ∧ ww.cell? ⟨NW, 0, none⟩ = some (.int .i64 qs) ∧ ww.cell? ⟨NW, 1, none⟩ = some (.int .i64 qr) ∧ ww.cell? ⟨NW, 2, none⟩ = some ((Value.slice aoW rs.length cW)) ∧ ww.cell? ⟨NX0, 0, none⟩ = some (.int .i64 s0) ∧ ww.cell? ⟨NX0, 1, none⟩ = some (.int .i64 r0) ∧ ww.cell? ⟨NX0, 2, none⟩ = some ((Value.slice (some ⟨bx0, 0, none⟩) z0.length z0.length)) ∧ ww.cell? ⟨NG, 0, none⟩ = some (.int .i64 qs) ∧ ww.cell? ⟨NG, 1, none⟩ = some (.int .i64 qr) ∧ ww.cell? ⟨NG, 2, none⟩ = some ((Value.slice aoG rs.length cG)) ∧ Rd ww b0 (Value.slice ao0 z0.length cap0) z0 ∧ w.heap.size ≤ ww.heap.size)) (by kernel_rfl) ?_ (fun hHeld => ?_)
  · ((try dsimp only); exact drw12_1 st)
  first | (refine wpAnyH_take (i := 0) (v := ?_) rfl ?_ ?_ ?_ (fun _ _ _ h => h) (Or.inl ⟨?_, ?_⟩) ?_ ?_; rotate_left 1; (focus decide +kernel); (focus decide +kernel); (focus decide +kernel); (focus rfl); (focus (intro w hSw; (try dsimp only at hSw); go_simp; (try (with_reducible rfl)); done)); (focus assumption); (try simp only [Act.put, List.setIfInBounds_toArray, List.set_cons_zero, List.set_cons_succ, List.getElem_toArray, List.getElem_cons_succ, List.getElem_cons_zero])) | (refine wpAnyH_take (i := 0) (v := undef) rfl ?_ ?_ ?_ (fun _ _ _ h => h) (Or.inr ⟨?_, rfl⟩) ?_ ?_; (focus decide +kernel); (focus decide +kernel); (focus decide +kernel); (focus rfl); (focus assumption); (try simp only [Act.put, List.setIfInBounds_toArray, List.set_cons_zero, List.set_cons_succ, List.getElem_toArray, List.getElem_cons_succ, List.getElem_cons_zero])) | skip
  first | (refine wpAnyH_take (i := 1) (v := ?_) rfl ?_ ?_ ?_ (fun _ _ _ h => h) (Or.inl ⟨?_, ?_⟩) ?_ ?_; rotate_left 1; (focus decide +kernel); (focus decide +kernel); (focus decide +kernel); (focus rfl); (focus (intro w hSw; (try dsimp only at hSw); go_simp; (try (with_reducible rfl)); done)); (focus assumption); (try simp only [Act.put, List.setIfInBounds_toArray, List.set_cons_zero, List.set_cons_succ, List.getElem_toArray, List.getElem_cons_succ, List.getElem_cons_zero])) | (refine wpAnyH_take (i := 1) (v := undef) rfl ?_ ?_ ?_ (fun _ _ _ h => h) (Or.inr ⟨?_, rfl⟩) ?_ ?_; (focus decide +kernel); (focus decide +kernel); (focus decide +kernel); (focus rfl); (focus assumption); (try simp only [Act.put, List.setIfInBounds_toArray, List.set_cons_zero, List.set_cons_succ, List.getElem_toArray, List.getElem_cons_succ, List.getElem_cons_zero])) | skip
  first | (refine wpAnyH_take (i := 4) (v := ?_) rfl ?_ ?_ ?_ (fun _ _ _ h => h) (Or.inl ⟨?_, ?_⟩) ?_ ?_; rotate_left 1; (focus decide +kernel); (focus decide +kernel); (focus decide +kernel); (focus rfl); (focus (intro w hSw; (try dsimp only at hSw); go_simp; (try (with_reducible rfl)); done)); (focus assumption); (try simp only [Act.put, List.setIfInBounds_toArray, List.set_cons_zero, List.set_cons_succ, List.getElem_toArray, List.getElem_cons_succ, List.getElem_cons_zero])) | (refine wpAnyH_take (i := 4) (v := undef) rfl ?_ ?_ ?_ (fun _ _ _ h => h) (Or.inr ⟨?_, rfl⟩) ?_ ?_; (focus decide +kernel); (focus decide +kernel); (focus decide +kernel); (focus rfl); (focus assumption); (try simp only [Act.put, List.setIfInBounds_toArray, List.set_cons_zero, List.set_cons_succ, List.getElem_toArray, List.getElem_cons_succ, List.getElem_cons_zero])) | skip
  first | (refine wpAnyH_take (i := 2) (v := undef) rfl ?_ ?_ ?_ (fun _ _ _ h => h) (Or.inr ⟨?_, rfl⟩) ?_ ?_; (focus decide +kernel); (focus decide +kernel); (focus decide +kernel); (focus rfl); (focus assumption); (try simp only [Act.put, List.setIfInBounds_toArray, List.set_cons_zero, List.set_cons_succ, List.getElem_toArray, List.getElem_cons_succ, List.getElem_cons_zero])) | (refine wpAnyH_ready (rs := [2]) ?_ (by simp) ?_; (focus decide +kernel); refine AllReadyH.cons rfl (fun K hK => ?_) AllReadyH.nil; go_simp; (go_at_call 9; refine (toR (rdx12_1_0 hHeld) HL0.out).mono ?_; rintro e w11 ⟨by', rfl, oy, lo, bel⟩; replace oW : Rd.Own 2 w9.drew bW (Value.slice aoW rs.length cW) rs := oW; replace ox0 : Rd.Own 2 w9.drew bx0 (Value.slice (some ⟨bx0, 0, none⟩) z0.length z0.length) z0 := ox0; replace oG : Rd.Own 2 w9.drew bG (Value.slice aoG rs.length cG) rs := oG; replace oW := oW.keep bel; replace ox0 := ox0.keep bel; replace oG := oG.keep bel; have bel1 := bel; clear lo); refine hK.out _ _ ?_ (fun hHeld => ?_); ((try dsimp only); exact nx12_1 bel hHeld); clear hK K; (try simp only [Act.put, List.setIfInBounds_toArray, List.set_cons_zero, List.set_cons_succ, List.getElem_toArray, List.getElem_cons_succ, List.getElem_cons_zero]))
  first | (refine wpAnyH_take (i := 4) (v := ?_) rfl ?_ ?_ ?_ (fun _ _ _ h => h) (Or.inl ⟨?_, ?_⟩) ?_ ?_; rotate_left 1; (focus decide +kernel); (focus decide +kernel); (focus decide +kernel); (focus rfl); (focus (intro w hSw; (try dsimp only at hSw); go_simp; (try (with_reducible rfl)); done)); (focus assumption); (try simp only [Act.put, List.setIfInBounds_toArray, List.set_cons_zero, List.set_cons_succ, List.getElem_toArray, List.getElem_cons_succ, List.getElem_cons_zero])) | (refine wpAnyH_take (i := 4) (v := undef) rfl ?_ ?_ ?_ (fun _ _ _ h => h) (Or.inr ⟨?_, rfl⟩) ?_ ?_; (focus decide +kernel); (focus decide +kernel); (focus decide +kernel); (focus rfl); (focus assumption); (try simp only [Act.put, List.setIfInBounds_toArray, List.set_cons_zero, List.set_cons_succ, List.getElem_toArray, List.getElem_cons_succ, List.getElem_cons_zero])) | skip
  first | (refine wpAnyH_take (i := 3) (v := undef) rfl ?_ ?_ ?_ (fun _ _ _ h => h) (Or.inr ⟨?_, rfl⟩) ?_ ?_; (focus decide +kernel); (focus decide +kernel); (focus decide +kernel); (focus rfl); (focus assumption); (try simp only [Act.put, List.setIfInBounds_toArray, List.set_cons_zero, List.set_cons_succ, List.getElem_toArray, List.getElem_cons_succ, List.getElem_cons_zero])) | (refine wpAnyH_ready (rs := [3]) ?_ (by simp) ?_; (focus decide +kernel); refine AllReadyH.cons rfl (fun K hK => ?_) AllReadyH.nil; go_simp; (go_at_call 11; refine (eqR ox0.rd oy.rd).mono ?_; rintro e w12 ⟨rfl, bel⟩; replace oW := oW.keep bel; replace ox0 := ox0.keep bel; replace oG := oG.keep bel; clear oy); refine hK.out _ _ ?_ (fun hHeld => ?_); ((try dsimp only); exact nx12_1 bel hHeld); clear hK K; (try simp only [Act.put, List.setIfInBounds_toArray, List.set_cons_zero, List.set_cons_succ, List.getElem_toArray, List.getElem_cons_succ, List.getElem_cons_zero]))
  first | (refine wpAnyH_take (i := 4) (v := ?_) rfl ?_ ?_ ?_ (fun _ _ _ h => h) (Or.inl ⟨?_, ?_⟩) ?_ ?_; rotate_left 1; (focus decide +kernel); (focus decide +kernel); (focus decide +kernel); (focus rfl); (focus (intro w hSw; (try dsimp only at hSw); go_simp; (try (with_reducible rfl)); done)); (focus assumption); (try simp only [Act.put, List.setIfInBounds_toArray, List.set_cons_zero, List.set_cons_succ, List.getElem_toArray, List.getElem_cons_succ, List.getElem_cons_zero])) | (refine wpAnyH_take (i := 4) (v := undef) rfl ?_ ?_ ?_ (fun _ _ _ h => h) (Or.inr ⟨?_, rfl⟩) ?_ ?_; (focus decide +kernel); (focus decide +kernel); (focus decide +kernel); (focus rfl); (focus assumption); (try simp only [Act.put, List.setIfInBounds_toArray, List.set_cons_zero, List.set_cons_succ, List.getElem_toArray, List.getElem_cons_succ, List.getElem_cons_zero])) | skip
  refine wpAnyH_done (by kernel_rfl) ?_ _
  clear st; have st := hHeld; clear hHeld
  go_wp2_with fail
  go_at_call 12
  refine (markR ox0 (by omega) (by have := HL0.out; omega)).mono ?_
  rintro e w13 ⟨rfl, mx0, g, gn⟩
  replace oW := beside oW g neWx0
  replace oG := besideB oG g gn nex0G
  replace ox0 := mx0; clear mx0
  have gB := below_mark (And.left st) g (And.left st).size cbx0
  have st' : Below w.heap.size w w13 ∧ w13.cell? ⟨NA, 0, none⟩ = some (.int .i64 s0) ∧ w13.cell? ⟨NA, 1, none⟩ = some (.int .i64 r0) ∧ w13.cell? ⟨NA, 2, none⟩ = some ((Value.slice ao0 z0.length cap0)) ∧ w13.cell? ⟨NW, 0, none⟩ = some (.int .i64 qs) ∧ w13.cell? ⟨NW, 1, none⟩ = some (.int .i64 qr) ∧ w13.cell? ⟨NW, 2, none⟩ = some ((Value.slice aoW rs.length cW)) ∧ w13.cell? ⟨NX0, 0, none⟩ = some (.int .i64 s0) ∧ w13.cell? ⟨NX0, 1, none⟩ = some (.int .i64 r0) ∧ w13.cell? ⟨NX0, 2, none⟩ = some ((Value.slice (some ⟨bx0, 0, none⟩) z0.length z0.length)) ∧ w13.cell? ⟨NG, 0, none⟩ = some (.int .i64 qs) ∧ w13.cell? ⟨NG, 1, none⟩ = some (.int .i64 qr) ∧ w13.cell? ⟨NG, 2, none⟩ = some ((Value.slice aoG rs.length cG)) ∧ Rd w13 b0 (Value.slice ao0 z0.length cap0) z0 ∧ w.heap.size ≤ w13.heap.size := ⟨gB, mcellB g gn st.2.1 nbA_x0, mcellB g gn st.2.2.1 nbA_x0, mcellB g gn st.2.2.2.1 nbA_x0, mcellB g gn st.2.2.2.2.1 nbW_x0, mcellB g gn st.2.2.2.2.2.1 nbW_x0, mcellB g gn st.2.2.2.2.2.2.1 nbW_x0, mcellB g gn st.2.2.2.2.2.2.2.1 nbX0_x0, mcellB g gn st.2.2.2.2.2.2.2.2.1 nbX0_x0, mcellB g gn st.2.2.2.2.2.2.2.2.2.1 nbX0_x0, mcellB g gn st.2.2.2.2.2.2.2.2.2.2.1 nbG_x0, mcellB g gn st.2.2.2.2.2.2.2.2.2.2.2.1 nbG_x0, mcellB g gn st.2.2.2.2.2.2.2.2.2.2.2.2.1 nbG_x0, H0.out.keep gB (Nat.le_refl _), gB.size⟩
  clear st g gn gB; have st := st'; clear st'
  go_wp2_with fail
  go_at_call 11
  refine (eqR oG.rd oW.rd).mono ?_
  rintro e w14 ⟨rfl, bel⟩
  replace st := nx12_1 bel st
  replace oW := oW.keep bel
  replace ox0 := ox0.keep bel
  replace oG := oG.keep bel
  clear bel
  go_wp2_with fail
  go_at_call 12
  refine (markR oG (by omega) (by have := HN.out; omega)).mono ?_
  rintro e w15 ⟨rfl, mG, g, gn⟩
  replace oW := beside oW g neWG
  replace ox0 := beside ox0 g nex0G
  replace oG := mG; clear mG
  have gB := below_mark (And.left st) g (And.left st).size cbG
  have st' : Below w.heap.size w w15 ∧ w15.cell? ⟨NA, 0, none⟩ = some (.int .i64 s0) ∧ w15.cell? ⟨NA, 1, none⟩ = some (.int .i64 r0) ∧ w15.cell? ⟨NA, 2, none⟩ = some ((Value.slice ao0 z0.length cap0)) ∧ w15.cell? ⟨NW, 0, none⟩ = some (.int .i64 qs) ∧ w15.cell? ⟨NW, 1, none⟩ = some (.int .i64 qr) ∧ w15.cell? ⟨NW, 2, none⟩ = some ((Value.slice aoW rs.length cW)) ∧ w15.cell? ⟨NX0, 0, none⟩ = some (.int .i64 s0) ∧ w15.cell? ⟨NX0, 1, none⟩ = some (.int .i64 r0) ∧ w15.cell? ⟨NX0, 2, none⟩ = some ((Value.slice (some ⟨bx0, 0, none⟩) z0.length z0.length)) ∧ w15.cell? ⟨NG, 0, none⟩ = some (.int .i64 qs) ∧ w15.cell? ⟨NG, 1, none⟩ = some (.int .i64 qr) ∧ w15.cell? ⟨NG, 2, none⟩ = some ((Value.slice aoG rs.length cG)) ∧ Rd w15 b0 (Value.slice ao0 z0.length cap0) z0 ∧ w.heap.size ≤ w15.heap.size := ⟨gB, mcellB g gn st.2.1 nbA_G, mcellB g gn st.2.2.1 nbA_G, mcellB g gn st.2.2.2.1 nbA_G, mcellB g gn st.2.2.2.2.1 nbW_G, mcellB g gn st.2.2.2.2.2.1 nbW_G, mcellB g gn st.2.2.2.2.2.2.1 nbW_G, mcellB g gn st.2.2.2.2.2.2.2.1 nbX0_G, mcellB g gn st.2.2.2.2.2.2.2.2.1 nbX0_G, mcellB g gn st.2.2.2.2.2.2.2.2.2.1 nbX0_G, mcellB g gn st.2.2.2.2.2.2.2.2.2.2.1 nbG_G, mcellB g gn st.2.2.2.2.2.2.2.2.2.2.2.1 nbG_G, mcellB g gn st.2.2.2.2.2.2.2.2.2.2.2.2.1 nbG_G, H0.out.keep gB (Nat.le_refl _), gB.size⟩
  clear st g gn gB; have st := st'; clear st'
  go_wp2_with fail
  go_at_call 13
  refine (heldR oG.rd (by omega) (by have := HN.out; omega)).mono ?_
  rintro e w16 ⟨rfl, bel⟩
  replace st := nx12_1 bel st
  replace oW := oW.keep bel
  replace ox0 := ox0.keep bel
  replace oG := oG.keep bel
  clear bel
  clear ox0
  go_wp2_with fail
  go_at_call 9
  refine (toR (rdx12_1_0 st) HL0.out).mono ?_
  rintro e w17 ⟨bk0, rfl, ok0, lo, bel⟩
  have neWk0 := (lim oW).imp id (fun hx => (by omega : bW ≠ bk0))
  have neGk0 := (lim oG).imp id (fun hx => (by omega : bG ≠ bk0))
  have cbk0 : w.heap.size ≤ bk0 := Nat.le_trans (And.left st).size lo
  have nbA_k0 : (Value.slice (some ⟨bk0, 0, none⟩) z0.length z0.length) = Value.slice none 0 0 ∨ NA ≠ bk0 := .inr (Nat.ne_of_lt (Nat.lt_of_lt_of_le (World.block_lt_of_cell? _ _ st.2.1) lo))
  have nbW_k0 : (Value.slice (some ⟨bk0, 0, none⟩) z0.length z0.length) = Value.slice none 0 0 ∨ NW ≠ bk0 := .inr (Nat.ne_of_lt (Nat.lt_of_lt_of_le (World.block_lt_of_cell? _ _ st.2.2.2.2.1) lo))
  have nbX0_k0 : (Value.slice (some ⟨bk0, 0, none⟩) z0.length z0.length) = Value.slice none 0 0 ∨ NX0 ≠ bk0 := .inr (Nat.ne_of_lt (Nat.lt_of_lt_of_le (World.block_lt_of_cell? _ _ st.2.2.2.2.2.2.2.1) lo))
  have nbG_k0 : (Value.slice (some ⟨bk0, 0, none⟩) z0.length z0.length) = Value.slice none 0 0 ∨ NG ≠ bk0 := .inr (Nat.ne_of_lt (Nat.lt_of_lt_of_le (World.block_lt_of_cell? _ _ st.2.2.2.2.2.2.2.2.2.2.1) lo))
  replace st := nx12_1 bel st
  replace oW := oW.keep bel
  replace oG := oG.keep bel
  clear bel
  clear lo
  go_wp2_with fail
  go_at_call 19
  refine (HIm.out _ _ _ (by first | exact Bes.gw_bel HGW.out (And.left st) | exact Bes.gw_bel HGW.out (And.left hHeld) | exact Bes.gw_bel HGW.out (HD0.out.1.trans (belD.mono HD0.out.1.size))) ok0.rd).mono ?_
  rintro e w18 ⟨aoK, cK, bK, rfl, oK, lo, bel⟩
  have neWK := (lim oW).imp id (fun hx => (by omega : bW ≠ bK))
  have neGK := (lim oG).imp id (fun hx => (by omega : bG ≠ bK))
  have nek0K := (lim ok0).imp id (fun hx => (by omega : bk0 ≠ bK))
  have cbK : w.heap.size ≤ bK := Nat.le_trans (And.left st).size lo
  have nbA_K : (Value.slice aoK rs.length cK) = Value.slice none 0 0 ∨ NA ≠ bK := .inr (Nat.ne_of_lt (Nat.lt_of_lt_of_le (World.block_lt_of_cell? _ _ st.2.1) lo))
  have nbW_K : (Value.slice aoK rs.length cK) = Value.slice none 0 0 ∨ NW ≠ bK := .inr (Nat.ne_of_lt (Nat.lt_of_lt_of_le (World.block_lt_of_cell? _ _ st.2.2.2.2.1) lo))
  have nbX0_K : (Value.slice aoK rs.length cK) = Value.slice none 0 0 ∨ NX0 ≠ bK := .inr (Nat.ne_of_lt (Nat.lt_of_lt_of_le (World.block_lt_of_cell? _ _ st.2.2.2.2.2.2.2.1) lo))
  have nbG_K : (Value.slice aoK rs.length cK) = Value.slice none 0 0 ∨ NG ≠ bK := .inr (Nat.ne_of_lt (Nat.lt_of_lt_of_le (World.block_lt_of_cell? _ _ st.2.2.2.2.2.2.2.2.2.2.1) lo))
  replace st := nx12_1 bel st
  replace oW := oW.keep bel
  replace oG := oG.keep bel
  replace ok0 := ok0.keep bel
  clear bel
  clear lo
  clear ok0
  obtain ⟨w20, hW⟩ : ∃ w20, w20 = w18.alloc (Obj.cells #[.int .i64 qs, .int .i64 qr, (Value.slice aoK rs.length cK)] 26) := ⟨_, rfl⟩
  obtain ⟨NK, hN⟩ : ∃ NK, NK = w18.heap.size := ⟨_, rfl⟩
  have nbK_W : (Value.slice aoW rs.length cW) = Value.slice none 0 0 ∨ NK ≠ bW := (lim oW).imp id (fun hx => by rw [hN]; exact Nat.ne_of_gt hx)
  have nbK_G : (Value.slice aoG rs.length cG) = Value.slice none 0 0 ∨ NK ≠ bG := (lim oG).imp id (fun hx => by rw [hN]; exact Nat.ne_of_gt hx)
  have nbK_K : (Value.slice aoK rs.length cK) = Value.slice none 0 0 ∨ NK ≠ bK := (lim oK).imp id (fun hx => by rw [hN]; exact Nat.ne_of_gt hx)
  have bel : Below w18.heap.size w18 w20 := by rw [hW]; exact Rule.below1 _ _
  have st' : Below w.heap.size w w20 ∧ w20.cell? ⟨NA, 0, none⟩ = some (.int .i64 s0) ∧ w20.cell? ⟨NA, 1, none⟩ = some (.int .i64 r0) ∧ w20.cell? ⟨NA, 2, none⟩ = some ((Value.slice ao0 z0.length cap0)) ∧ w20.cell? ⟨NW, 0, none⟩ = some (.int .i64 qs) ∧ w20.cell? ⟨NW, 1, none⟩ = some (.int .i64 qr) ∧ w20.cell? ⟨NW, 2, none⟩ = some ((Value.slice aoW rs.length cW)) ∧ w20.cell? ⟨NX0, 0, none⟩ = some (.int .i64 s0) ∧ w20.cell? ⟨NX0, 1, none⟩ = some (.int .i64 r0) ∧ w20.cell? ⟨NX0, 2, none⟩ = some ((Value.slice (some ⟨bx0, 0, none⟩) z0.length z0.length)) ∧ w20.cell? ⟨NG, 0, none⟩ = some (.int .i64 qs) ∧ w20.cell? ⟨NG, 1, none⟩ = some (.int .i64 qr) ∧ w20.cell? ⟨NG, 2, none⟩ = some ((Value.slice aoG rs.length cG)) ∧ w20.cell? ⟨NK, 0, none⟩ = some (.int .i64 qs) ∧ w20.cell? ⟨NK, 1, none⟩ = some (.int .i64 qr) ∧ w20.cell? ⟨NK, 2, none⟩ = some ((Value.slice aoK rs.length cK)) ∧ Rd w20 b0 (Value.slice ao0 z0.length cap0) z0 ∧ w.heap.size ≤ w20.heap.size := by
    obtain ⟨t0, c0, c1, c2, c3, c4, c5, c6, c7, c8, c9, c10, c11, d0, tz⟩ := nx12_1 bel st
    exact ⟨t0, c0, c1, c2, c3, c4, c5, c6, c7, c8, c9, c10, c11, by rw [hW, hN]; simp, by rw [hW, hN]; simp, by rw [hW, hN]; simp, d0, tz⟩
  replace oW := oW.keep bel
  replace oG := oG.keep bel
  replace oK := oK.keep bel
  clear st bel; have st := st'; clear st'
  have stp := st
  rw [hW, hN] at stp
  go_wp2_with fail
  clear stp
  simp only [← hW, ← hN]
  clear hW hN
  go_at_call 11
  refine (eqR oK.rd oW.rd).mono ?_
  rintro e w19 ⟨rfl, bel⟩
  replace st := nx15_1 bel st
  replace oW := oW.keep bel
  replace oG := oG.keep bel
  replace oK := oK.keep bel
  clear bel
  go_wp2_with fail
  go_at_call 13
  refine (heldR oG.rd (by omega) (by have := HN.out; omega)).mono ?_
  rintro e w21 ⟨rfl, bel⟩
  replace st := nx15_1 bel st
  replace oW := oW.keep bel
  replace oG := oG.keep bel
  replace oK := oK.keep bel
  clear bel
  go_wp2
  go_ret
  exact ⟨rfl, And.left st⟩

theorem door_met (os : Os) (args : Array Value) : laidMetH Tryd.prog [("loop.example/g01381/impl.fourWays", Rows.laid_loop_example_g01381_impl_fourWays)] ((World.doorLaid Tryd.prog 400 os).forCall (fun _ _ => 0) ⟨#[], args, []⟩).memory :=
  laidMetH_of_parts3 (fuel := 8) (laidMet_of_run' 8 (by kernel_rfl) (by kernel_rfl)) (by kernel_rfl) (by kernel_rfl)

set_option maxRecDepth 100000 in
theorem lifted (os : Os) (started : os.Started) (H : Type) (enc : TypeId × Value → H) :
    ReturnsInHanded {} Tryd.checked os 6 .any (fun w args => (Rows.fnExactBurnAllSpec.pre enc Tryd.prog Tryd.f6 [] false w args ∧ laidMetH Tryd.prog [("loop.example/g01381/impl.fourWays", Rows.laid_loop_example_g01381_impl_fourWays)] w) ∧ sizedMet enc Tryd.prog Tryd.f6 (OpenSpec.ofChange Rows.fnExactBurnAllSpec) false w args) (Rows.fnExactBurnAllSpec.post enc Tryd.prog Tryd.f6 false true false false) := by
  refine returnsInHanded_of_change_and (C := Tryd.checked) (X := fun w _ => laidMetH Tryd.prog [("loop.example/g01381/impl.fourWays", Rows.laid_loop_example_g01381_impl_fourWays)] w) (fun _ _ _ hh h => h.of_heap hh) own started (by kernel_rfl) Tryd.func6
    (ChangeSpec.witness_shaped (enc := enc) (C := Tryd.checked) (os := os) (X := fun w _ => laidMetH Tryd.prog [("loop.example/g01381/impl.fourWays", Rows.laid_loop_example_g01381_impl_fourWays)] w) false (World.doorLaid Tryd.prog 400 os) #[.agg #[.int .i64 0, .int .i64 0, .slice none 0 0]] 8 rfl (World.shaped_of_RefB (by kernel_rfl) (by kernel_rfl)) (by kernel_rfl) (by kernel_rfl) (by kernel_rfl) (door_met os _)) ?_
  intro W base args ds gs before hval0 hW _ _ hL _
  have hval : ∀ (j : Nat) t v, Tryd.f6.params[j]? = some t → args[j]? = some v → Value.okWide Tryd.prog W .any base t v := hval0
  have hW' := hW
  obtain ⟨p, q, hA0, hV, rfl, hfz, hnd⟩ := hW
  have hA : DataW.TrodAll enc Tryd.prog W 0 (fun _ => true) true Tryd.f6.params.toList args.toList ds p := hA0
  rw [Tryd.params6] at hA hval
  obtain ⟨v0, vs0, d0, ds0, p0, q0, hargs, rfl, rfl, h0, r0⟩ := trodAll_cons hA
  obtain ⟨rfl, rfl, rfl⟩ := trodAll_nil r0
  obtain rfl : args = #[v0] := by cases args; simp_all
  have hV2 := hV
  obtain ⟨gq, tq, csq, fq, dq, pq, rfl, hv1, hv2, hv3, hv4, rfl⟩ := trodVars_one hV
  have k0 := h0
  have lt0 : ∀ x ∈ p0, x.block < W.heap.size := by obtain ⟨m, hm⟩ := k0; exact DataW.trod_lt m _ _ _ hm
  obtain ⟨c00, c01, c02, y00, y01, y02, m0, rfl, hd0, hp0, t00, t01, t02⟩ := open_agg3 Tryd.underlying24 (by kernel_rfl) (by kernel_rfl) (hval 0 24 v0 rfl rfl) h0
  obtain ⟨a00, e00, _, w00⟩ := DataW.trod_int Tryd.underlying2 t00
  simp at e00
  subst e00
  obtain ⟨a01, e01, _, w01⟩ := DataW.trod_int Tryd.underlying2 t01
  simp at e01
  subst e01
  obtain ⟨a0, len0, cap0, e0⟩ := slice_form Tryd.underlying22 t02
  simp at e0
  subst e0
  obtain ⟨b0, z0, _, w0⟩ : ∃ b zs, zs.length = len0 ∧ Rd W b (.slice a0 len0 cap0) zs := rd_open Tryd.underlying22 Tryd.underlying2 (by kernel_rfl) t02
  clear hA0 hval0
  refine (walk w00 w01 w0 (Laid.gw_of_laid hL)).mono fun e W' ⟨he, bel⟩ => ?_
  subst he
  exact ⟨_, rfl, _, _, _, [], _, _, hW', trodAll_mk1 (shut_bool Tryd.underlying4 _), (trodAll_cons_mk (Below.trod laidOut (by kernel_rfl) (of_decide_eq_true (by kernel_rfl)) k0 bel lt0) (trodAll_mk0)), Below.trodVars laidOut bel (by kernel_rfl) hV2, bel.frame _, fun h => by cases h⟩

theorem over : Rows.fnExactBurnAllRow.holds Tryd.pinned (OpenSpec.ofChange Rows.fnExactBurnAllSpec) :=
  OpenClaim.holds_of_wide 6 Tryd.f6 rfl rfl rfl rfl rfl rfl rfl ⟨rfl, rfl, rfl, rfl, rfl⟩ rfl rfl rfl rfl rfl (by kernel_rfl) Tryd.func6 (by kernel_rfl)
    (of_decide_eq_true (by kernel_rfl)) (by unfold Func.isWrapper; rw [if_neg (of_decide_eq_false (by kernel_rfl))]; exact ⟨rfl, rfl⟩)
    (fun os started H enc _ => lifted os started H enc)

theorem proved : Rows.FnExactBurnAllCardSaid :=
  Claim7.holds_tied_plain_at .later [] [.data] true (true, "2c9de440e56edeab93e9f3278cfefd0afc7c4a044d34e65c4d12cc95e0d408c3") false
    over (fun _ h => by cases h) (by kernel_rfl) (fun _ h => by cases h) fnExactBurnAll_row_tie rfl ⟨rfl, rfl⟩ (by kernel_rfl) rfl
    (fun f fn hf hfn => by
      obtain rfl : f = 6 := Option.some.inj ((show Tryd.prog.funcNamed "loop.example/g01381/laws.FnExactBurnAll" = some 6 by kernel_rfl).symm.trans hf) |>.symm
      obtain rfl : fn = Tryd.f6 := (Option.some.inj (Tryd.func6.symm.trans hfn)).symm
      exact ⟨by kernel_rfl, fun j t ht => by
        rw [Tryd.params6] at ht
        have hm : t ∈ [24] := by simpa using Array.mem_of_getElem? ht
        have hall : ([24].all fun u => !Tryd.prog.wantsStandIn u) = true := by kernel_rfl
        exact (show Tryd.prog.wantsStandIn t = false by simpa using List.all_eq_true.1 hall t hm)⟩)
    (by kernel_rfl)
end Go.Proofs.YthcbhbdgbiiagaaDoor.lawBurnAll
