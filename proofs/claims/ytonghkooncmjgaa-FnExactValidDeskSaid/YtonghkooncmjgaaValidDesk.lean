/- For every desk, impl.ValidDesk answers as the model of the document does and changes nothing that it is given. No condition. -/
import Derived.Test.YtonghkooncmjgaaRows
import Derived.Test.YtonghkooncmjgaaMayA
import Derived.Test.YtonghkooncmjgaaMayB
import Derived.Test.YtonghkooncmjgaaMayC
import Derived.Test.YtonghkooncmjgaaFldKit
import Derived.Test.YtonghkooncmjgaaDsk
import Derived.Test.YtonghkooncmjgaaDskK
import Derived.Test.YtonghkooncmjgaaDskT
import Derived.WalkKit
import Derived.WalkLawsBesides
import Derived.ProofKit
import Derived.OpenShut
import Derived.ShutString
import Derived.ChangeOld
import Derived.Below
import Derived.IntWalk
import Derived.Lib.SmallJoins
import Derived.Deep.Cut
namespace Go.Proofs.Ytonghkooncmjgaa.lawValidDesk
open Go.ChangeShapes Go.WideShapes Go.ChangeAt Go.RowKit Go.Joins Go.Proofs.Ytonghkooncmjgaa.Rd Go.Proofs.Ytonghkooncmjgaa.Help Go.Proofs.Ytonghkooncmjgaa.Keep
set_option linter.unusedVariables false
set_option linter.unusedSimpArgs false
theorem own : ownKnob Try.prog.godebug = none := by kernel_rfl
theorem laidOut : laidOutB Try.prog = true := by kernel_rfl
theorem agree (s0 r0 t0 u0 : Int) (z0a z0b z0c z0d z0e : List Int) : ∃ (ok : Bool),
    (∀ (w : World), ∀ (b0a : Nat) (v0a : Value), Rd w b0a v0a z0a → ∀ (b0b : Nat) (v0b : Value), Rd w b0b v0b z0b → ∀ (b0c : Nat) (v0c : Value), Rd w b0c v0c z0c → ∀ (b0d : Nat) (v0d : Value), Rd w b0d v0d z0d → ∀ (b0e : Nat) (v0e : Value), Rd w b0e v0e z0e → Calls Try.prog 18 #[Dsk.deskV s0 r0 v0a v0b t0 u0 v0c v0d v0e] w fun e w' => e = .returned (.bool ok) ∧ Below w.heap.size w w') ∧
    (∀ (w : World), ∀ (b0a : Nat) (v0a : Value), Rd w b0a v0a z0a → ∀ (b0b : Nat) (v0b : Value), Rd w b0b v0b z0b → ∀ (b0c : Nat) (v0c : Value), Rd w b0c v0c z0c → ∀ (b0d : Nat) (v0d : Value), Rd w b0d v0d z0d → ∀ (b0e : Nat) (v0e : Value), Rd w b0e v0e z0e → Calls Try.prog 20 #[Dsk.deskV s0 r0 v0a v0b t0 u0 v0c v0d v0e] w fun e w' => e = .returned (.bool ok) ∧ Below w.heap.size w w') :=
  ⟨Dsk.deskB s0 r0 z0a z0b t0 u0 z0c z0d z0e, fun w b0a v0a h0a b0b v0b h0b b0c v0c h0c b0d v0d h0d b0e v0e h0e => Dsk.spec h0a h0b h0c h0d h0e, fun w b0a v0a h0a b0b v0b h0b b0c v0c h0c b0d v0d h0d b0e v0e h0e => Dsk.impl h0a h0b h0c h0d h0e⟩

theorem nx9_IIIII {N : Nat} {w0 w w' : World} {p0 p1 p2 p3 p4 p5 p6 p7 p8 : Addr} {c0 c1 c2 c3 c4 c5 c6 c7 c8 : Value} {b0 : Nat} {v0 : Value} {z0 : List Int} {b1 : Nat} {v1 : Value} {z1 : List Int} {b2 : Nat} {v2 : Value} {z2 : List Int} {b3 : Nat} {v3 : Value} {z3 : List Int} {b4 : Nat} {v4 : Value} {z4 : List Int} (bel : Below w.heap.size w w') (h : Below N w0 w ∧ w.cell? p0 = some c0 ∧ w.cell? p1 = some c1 ∧ w.cell? p2 = some c2 ∧ w.cell? p3 = some c3 ∧ w.cell? p4 = some c4 ∧ w.cell? p5 = some c5 ∧ w.cell? p6 = some c6 ∧ w.cell? p7 = some c7 ∧ w.cell? p8 = some c8 ∧ Rd w b0 v0 z0 ∧ Rd w b1 v1 z1 ∧ Rd w b2 v2 z2 ∧ Rd w b3 v3 z3 ∧ Rd w b4 v4 z4 ∧ N ≤ w.heap.size) : Below N w0 w' ∧ w'.cell? p0 = some c0 ∧ w'.cell? p1 = some c1 ∧ w'.cell? p2 = some c2 ∧ w'.cell? p3 = some c3 ∧ w'.cell? p4 = some c4 ∧ w'.cell? p5 = some c5 ∧ w'.cell? p6 = some c6 ∧ w'.cell? p7 = some c7 ∧ w'.cell? p8 = some c8 ∧ Rd w' b0 v0 z0 ∧ Rd w' b1 v1 z1 ∧ Rd w' b2 v2 z2 ∧ Rd w' b3 v3 z3 ∧ Rd w' b4 v4 z4 ∧ N ≤ w'.heap.size := by obtain ⟨h0, x0, x1, x2, x3, x4, x5, x6, x7, x8, y0, y1, y2, y3, y4, h5⟩ := h; exact ⟨h0.trans (bel.mono h5), cell_keep bel x0, cell_keep bel x1, cell_keep bel x2, cell_keep bel x3, cell_keep bel x4, cell_keep bel x5, cell_keep bel x6, cell_keep bel x7, cell_keep bel x8, y0.keep bel (Nat.le_refl _), y1.keep bel (Nat.le_refl _), y2.keep bel (Nat.le_refl _), y3.keep bel (Nat.le_refl _), y4.keep bel (Nat.le_refl _), Nat.le_trans h5 bel.size⟩
theorem drw9_IIIII {N : Nat} {w0 w : World} {p0 p1 p2 p3 p4 p5 p6 p7 p8 : Addr} {c0 c1 c2 c3 c4 c5 c6 c7 c8 : Value} {b0 : Nat} {v0 : Value} {z0 : List Int} {b1 : Nat} {v1 : Value} {z1 : List Int} {b2 : Nat} {v2 : Value} {z2 : List Int} {b3 : Nat} {v3 : Value} {z3 : List Int} {b4 : Nat} {v4 : Value} {z4 : List Int} (h : Below N w0 w ∧ w.cell? p0 = some c0 ∧ w.cell? p1 = some c1 ∧ w.cell? p2 = some c2 ∧ w.cell? p3 = some c3 ∧ w.cell? p4 = some c4 ∧ w.cell? p5 = some c5 ∧ w.cell? p6 = some c6 ∧ w.cell? p7 = some c7 ∧ w.cell? p8 = some c8 ∧ Rd w b0 v0 z0 ∧ Rd w b1 v1 z1 ∧ Rd w b2 v2 z2 ∧ Rd w b3 v3 z3 ∧ Rd w b4 v4 z4 ∧ N ≤ w.heap.size) : Below N w0 w.drew ∧ w.drew.cell? p0 = some c0 ∧ w.drew.cell? p1 = some c1 ∧ w.drew.cell? p2 = some c2 ∧ w.drew.cell? p3 = some c3 ∧ w.drew.cell? p4 = some c4 ∧ w.drew.cell? p5 = some c5 ∧ w.drew.cell? p6 = some c6 ∧ w.drew.cell? p7 = some c7 ∧ w.drew.cell? p8 = some c8 ∧ Rd w.drew b0 v0 z0 ∧ Rd w.drew b1 v1 z1 ∧ Rd w.drew b2 v2 z2 ∧ Rd w.drew b3 v3 z3 ∧ Rd w.drew b4 v4 z4 ∧ N ≤ w.drew.heap.size := by obtain ⟨h0, x0, x1, x2, x3, x4, x5, x6, x7, x8, y0, y1, y2, y3, y4, h5⟩ := h; exact ⟨h0.drew, x0, x1, x2, x3, x4, x5, x6, x7, x8, y0, y1, y2, y3, y4, h5⟩
theorem rdx9_IIIII_0 {N : Nat} {w0 w : World} {p0 p1 p2 p3 p4 p5 p6 p7 p8 : Addr} {c0 c1 c2 c3 c4 c5 c6 c7 c8 : Value} {b0 : Nat} {v0 : Value} {z0 : List Int} {b1 : Nat} {v1 : Value} {z1 : List Int} {b2 : Nat} {v2 : Value} {z2 : List Int} {b3 : Nat} {v3 : Value} {z3 : List Int} {b4 : Nat} {v4 : Value} {z4 : List Int} (h : Below N w0 w ∧ w.cell? p0 = some c0 ∧ w.cell? p1 = some c1 ∧ w.cell? p2 = some c2 ∧ w.cell? p3 = some c3 ∧ w.cell? p4 = some c4 ∧ w.cell? p5 = some c5 ∧ w.cell? p6 = some c6 ∧ w.cell? p7 = some c7 ∧ w.cell? p8 = some c8 ∧ Rd w b0 v0 z0 ∧ Rd w b1 v1 z1 ∧ Rd w b2 v2 z2 ∧ Rd w b3 v3 z3 ∧ Rd w b4 v4 z4 ∧ N ≤ w.heap.size) : Rd w b0 v0 z0 := by obtain ⟨h0, x0, x1, x2, x3, x4, x5, x6, x7, x8, y0, y1, y2, y3, y4, h5⟩ := h; exact y0
theorem rdx9_IIIII_1 {N : Nat} {w0 w : World} {p0 p1 p2 p3 p4 p5 p6 p7 p8 : Addr} {c0 c1 c2 c3 c4 c5 c6 c7 c8 : Value} {b0 : Nat} {v0 : Value} {z0 : List Int} {b1 : Nat} {v1 : Value} {z1 : List Int} {b2 : Nat} {v2 : Value} {z2 : List Int} {b3 : Nat} {v3 : Value} {z3 : List Int} {b4 : Nat} {v4 : Value} {z4 : List Int} (h : Below N w0 w ∧ w.cell? p0 = some c0 ∧ w.cell? p1 = some c1 ∧ w.cell? p2 = some c2 ∧ w.cell? p3 = some c3 ∧ w.cell? p4 = some c4 ∧ w.cell? p5 = some c5 ∧ w.cell? p6 = some c6 ∧ w.cell? p7 = some c7 ∧ w.cell? p8 = some c8 ∧ Rd w b0 v0 z0 ∧ Rd w b1 v1 z1 ∧ Rd w b2 v2 z2 ∧ Rd w b3 v3 z3 ∧ Rd w b4 v4 z4 ∧ N ≤ w.heap.size) : Rd w b1 v1 z1 := by obtain ⟨h0, x0, x1, x2, x3, x4, x5, x6, x7, x8, y0, y1, y2, y3, y4, h5⟩ := h; exact y1
theorem rdx9_IIIII_2 {N : Nat} {w0 w : World} {p0 p1 p2 p3 p4 p5 p6 p7 p8 : Addr} {c0 c1 c2 c3 c4 c5 c6 c7 c8 : Value} {b0 : Nat} {v0 : Value} {z0 : List Int} {b1 : Nat} {v1 : Value} {z1 : List Int} {b2 : Nat} {v2 : Value} {z2 : List Int} {b3 : Nat} {v3 : Value} {z3 : List Int} {b4 : Nat} {v4 : Value} {z4 : List Int} (h : Below N w0 w ∧ w.cell? p0 = some c0 ∧ w.cell? p1 = some c1 ∧ w.cell? p2 = some c2 ∧ w.cell? p3 = some c3 ∧ w.cell? p4 = some c4 ∧ w.cell? p5 = some c5 ∧ w.cell? p6 = some c6 ∧ w.cell? p7 = some c7 ∧ w.cell? p8 = some c8 ∧ Rd w b0 v0 z0 ∧ Rd w b1 v1 z1 ∧ Rd w b2 v2 z2 ∧ Rd w b3 v3 z3 ∧ Rd w b4 v4 z4 ∧ N ≤ w.heap.size) : Rd w b2 v2 z2 := by obtain ⟨h0, x0, x1, x2, x3, x4, x5, x6, x7, x8, y0, y1, y2, y3, y4, h5⟩ := h; exact y2
theorem rdx9_IIIII_3 {N : Nat} {w0 w : World} {p0 p1 p2 p3 p4 p5 p6 p7 p8 : Addr} {c0 c1 c2 c3 c4 c5 c6 c7 c8 : Value} {b0 : Nat} {v0 : Value} {z0 : List Int} {b1 : Nat} {v1 : Value} {z1 : List Int} {b2 : Nat} {v2 : Value} {z2 : List Int} {b3 : Nat} {v3 : Value} {z3 : List Int} {b4 : Nat} {v4 : Value} {z4 : List Int} (h : Below N w0 w ∧ w.cell? p0 = some c0 ∧ w.cell? p1 = some c1 ∧ w.cell? p2 = some c2 ∧ w.cell? p3 = some c3 ∧ w.cell? p4 = some c4 ∧ w.cell? p5 = some c5 ∧ w.cell? p6 = some c6 ∧ w.cell? p7 = some c7 ∧ w.cell? p8 = some c8 ∧ Rd w b0 v0 z0 ∧ Rd w b1 v1 z1 ∧ Rd w b2 v2 z2 ∧ Rd w b3 v3 z3 ∧ Rd w b4 v4 z4 ∧ N ≤ w.heap.size) : Rd w b3 v3 z3 := by obtain ⟨h0, x0, x1, x2, x3, x4, x5, x6, x7, x8, y0, y1, y2, y3, y4, h5⟩ := h; exact y3
theorem rdx9_IIIII_4 {N : Nat} {w0 w : World} {p0 p1 p2 p3 p4 p5 p6 p7 p8 : Addr} {c0 c1 c2 c3 c4 c5 c6 c7 c8 : Value} {b0 : Nat} {v0 : Value} {z0 : List Int} {b1 : Nat} {v1 : Value} {z1 : List Int} {b2 : Nat} {v2 : Value} {z2 : List Int} {b3 : Nat} {v3 : Value} {z3 : List Int} {b4 : Nat} {v4 : Value} {z4 : List Int} (h : Below N w0 w ∧ w.cell? p0 = some c0 ∧ w.cell? p1 = some c1 ∧ w.cell? p2 = some c2 ∧ w.cell? p3 = some c3 ∧ w.cell? p4 = some c4 ∧ w.cell? p5 = some c5 ∧ w.cell? p6 = some c6 ∧ w.cell? p7 = some c7 ∧ w.cell? p8 = some c8 ∧ Rd w b0 v0 z0 ∧ Rd w b1 v1 z1 ∧ Rd w b2 v2 z2 ∧ Rd w b3 v3 z3 ∧ Rd w b4 v4 z4 ∧ N ≤ w.heap.size) : Rd w b4 v4 z4 := by obtain ⟨h0, x0, x1, x2, x3, x4, x5, x6, x7, x8, y0, y1, y2, y3, y4, h5⟩ := h; exact y4
theorem nx18_IIIII {N : Nat} {w0 w w' : World} {p0 p1 p2 p3 p4 p5 p6 p7 p8 p9 p10 p11 p12 p13 p14 p15 p16 p17 : Addr} {c0 c1 c2 c3 c4 c5 c6 c7 c8 c9 c10 c11 c12 c13 c14 c15 c16 c17 : Value} {b0 : Nat} {v0 : Value} {z0 : List Int} {b1 : Nat} {v1 : Value} {z1 : List Int} {b2 : Nat} {v2 : Value} {z2 : List Int} {b3 : Nat} {v3 : Value} {z3 : List Int} {b4 : Nat} {v4 : Value} {z4 : List Int} (bel : Below w.heap.size w w') (h : Below N w0 w ∧ w.cell? p0 = some c0 ∧ w.cell? p1 = some c1 ∧ w.cell? p2 = some c2 ∧ w.cell? p3 = some c3 ∧ w.cell? p4 = some c4 ∧ w.cell? p5 = some c5 ∧ w.cell? p6 = some c6 ∧ w.cell? p7 = some c7 ∧ w.cell? p8 = some c8 ∧ w.cell? p9 = some c9 ∧ w.cell? p10 = some c10 ∧ w.cell? p11 = some c11 ∧ w.cell? p12 = some c12 ∧ w.cell? p13 = some c13 ∧ w.cell? p14 = some c14 ∧ w.cell? p15 = some c15 ∧ w.cell? p16 = some c16 ∧ w.cell? p17 = some c17 ∧ Rd w b0 v0 z0 ∧ Rd w b1 v1 z1 ∧ Rd w b2 v2 z2 ∧ Rd w b3 v3 z3 ∧ Rd w b4 v4 z4 ∧ N ≤ w.heap.size) : Below N w0 w' ∧ w'.cell? p0 = some c0 ∧ w'.cell? p1 = some c1 ∧ w'.cell? p2 = some c2 ∧ w'.cell? p3 = some c3 ∧ w'.cell? p4 = some c4 ∧ w'.cell? p5 = some c5 ∧ w'.cell? p6 = some c6 ∧ w'.cell? p7 = some c7 ∧ w'.cell? p8 = some c8 ∧ w'.cell? p9 = some c9 ∧ w'.cell? p10 = some c10 ∧ w'.cell? p11 = some c11 ∧ w'.cell? p12 = some c12 ∧ w'.cell? p13 = some c13 ∧ w'.cell? p14 = some c14 ∧ w'.cell? p15 = some c15 ∧ w'.cell? p16 = some c16 ∧ w'.cell? p17 = some c17 ∧ Rd w' b0 v0 z0 ∧ Rd w' b1 v1 z1 ∧ Rd w' b2 v2 z2 ∧ Rd w' b3 v3 z3 ∧ Rd w' b4 v4 z4 ∧ N ≤ w'.heap.size := by obtain ⟨h0, x0, x1, x2, x3, x4, x5, x6, x7, x8, x9, x10, x11, x12, x13, x14, x15, x16, x17, y0, y1, y2, y3, y4, h5⟩ := h; exact ⟨h0.trans (bel.mono h5), cell_keep bel x0, cell_keep bel x1, cell_keep bel x2, cell_keep bel x3, cell_keep bel x4, cell_keep bel x5, cell_keep bel x6, cell_keep bel x7, cell_keep bel x8, cell_keep bel x9, cell_keep bel x10, cell_keep bel x11, cell_keep bel x12, cell_keep bel x13, cell_keep bel x14, cell_keep bel x15, cell_keep bel x16, cell_keep bel x17, y0.keep bel (Nat.le_refl _), y1.keep bel (Nat.le_refl _), y2.keep bel (Nat.le_refl _), y3.keep bel (Nat.le_refl _), y4.keep bel (Nat.le_refl _), Nat.le_trans h5 bel.size⟩
theorem drw18_IIIII {N : Nat} {w0 w : World} {p0 p1 p2 p3 p4 p5 p6 p7 p8 p9 p10 p11 p12 p13 p14 p15 p16 p17 : Addr} {c0 c1 c2 c3 c4 c5 c6 c7 c8 c9 c10 c11 c12 c13 c14 c15 c16 c17 : Value} {b0 : Nat} {v0 : Value} {z0 : List Int} {b1 : Nat} {v1 : Value} {z1 : List Int} {b2 : Nat} {v2 : Value} {z2 : List Int} {b3 : Nat} {v3 : Value} {z3 : List Int} {b4 : Nat} {v4 : Value} {z4 : List Int} (h : Below N w0 w ∧ w.cell? p0 = some c0 ∧ w.cell? p1 = some c1 ∧ w.cell? p2 = some c2 ∧ w.cell? p3 = some c3 ∧ w.cell? p4 = some c4 ∧ w.cell? p5 = some c5 ∧ w.cell? p6 = some c6 ∧ w.cell? p7 = some c7 ∧ w.cell? p8 = some c8 ∧ w.cell? p9 = some c9 ∧ w.cell? p10 = some c10 ∧ w.cell? p11 = some c11 ∧ w.cell? p12 = some c12 ∧ w.cell? p13 = some c13 ∧ w.cell? p14 = some c14 ∧ w.cell? p15 = some c15 ∧ w.cell? p16 = some c16 ∧ w.cell? p17 = some c17 ∧ Rd w b0 v0 z0 ∧ Rd w b1 v1 z1 ∧ Rd w b2 v2 z2 ∧ Rd w b3 v3 z3 ∧ Rd w b4 v4 z4 ∧ N ≤ w.heap.size) : Below N w0 w.drew ∧ w.drew.cell? p0 = some c0 ∧ w.drew.cell? p1 = some c1 ∧ w.drew.cell? p2 = some c2 ∧ w.drew.cell? p3 = some c3 ∧ w.drew.cell? p4 = some c4 ∧ w.drew.cell? p5 = some c5 ∧ w.drew.cell? p6 = some c6 ∧ w.drew.cell? p7 = some c7 ∧ w.drew.cell? p8 = some c8 ∧ w.drew.cell? p9 = some c9 ∧ w.drew.cell? p10 = some c10 ∧ w.drew.cell? p11 = some c11 ∧ w.drew.cell? p12 = some c12 ∧ w.drew.cell? p13 = some c13 ∧ w.drew.cell? p14 = some c14 ∧ w.drew.cell? p15 = some c15 ∧ w.drew.cell? p16 = some c16 ∧ w.drew.cell? p17 = some c17 ∧ Rd w.drew b0 v0 z0 ∧ Rd w.drew b1 v1 z1 ∧ Rd w.drew b2 v2 z2 ∧ Rd w.drew b3 v3 z3 ∧ Rd w.drew b4 v4 z4 ∧ N ≤ w.drew.heap.size := by obtain ⟨h0, x0, x1, x2, x3, x4, x5, x6, x7, x8, x9, x10, x11, x12, x13, x14, x15, x16, x17, y0, y1, y2, y3, y4, h5⟩ := h; exact ⟨h0.drew, x0, x1, x2, x3, x4, x5, x6, x7, x8, x9, x10, x11, x12, x13, x14, x15, x16, x17, y0, y1, y2, y3, y4, h5⟩
theorem rdx18_IIIII_0 {N : Nat} {w0 w : World} {p0 p1 p2 p3 p4 p5 p6 p7 p8 p9 p10 p11 p12 p13 p14 p15 p16 p17 : Addr} {c0 c1 c2 c3 c4 c5 c6 c7 c8 c9 c10 c11 c12 c13 c14 c15 c16 c17 : Value} {b0 : Nat} {v0 : Value} {z0 : List Int} {b1 : Nat} {v1 : Value} {z1 : List Int} {b2 : Nat} {v2 : Value} {z2 : List Int} {b3 : Nat} {v3 : Value} {z3 : List Int} {b4 : Nat} {v4 : Value} {z4 : List Int} (h : Below N w0 w ∧ w.cell? p0 = some c0 ∧ w.cell? p1 = some c1 ∧ w.cell? p2 = some c2 ∧ w.cell? p3 = some c3 ∧ w.cell? p4 = some c4 ∧ w.cell? p5 = some c5 ∧ w.cell? p6 = some c6 ∧ w.cell? p7 = some c7 ∧ w.cell? p8 = some c8 ∧ w.cell? p9 = some c9 ∧ w.cell? p10 = some c10 ∧ w.cell? p11 = some c11 ∧ w.cell? p12 = some c12 ∧ w.cell? p13 = some c13 ∧ w.cell? p14 = some c14 ∧ w.cell? p15 = some c15 ∧ w.cell? p16 = some c16 ∧ w.cell? p17 = some c17 ∧ Rd w b0 v0 z0 ∧ Rd w b1 v1 z1 ∧ Rd w b2 v2 z2 ∧ Rd w b3 v3 z3 ∧ Rd w b4 v4 z4 ∧ N ≤ w.heap.size) : Rd w b0 v0 z0 := by obtain ⟨h0, x0, x1, x2, x3, x4, x5, x6, x7, x8, x9, x10, x11, x12, x13, x14, x15, x16, x17, y0, y1, y2, y3, y4, h5⟩ := h; exact y0
theorem rdx18_IIIII_1 {N : Nat} {w0 w : World} {p0 p1 p2 p3 p4 p5 p6 p7 p8 p9 p10 p11 p12 p13 p14 p15 p16 p17 : Addr} {c0 c1 c2 c3 c4 c5 c6 c7 c8 c9 c10 c11 c12 c13 c14 c15 c16 c17 : Value} {b0 : Nat} {v0 : Value} {z0 : List Int} {b1 : Nat} {v1 : Value} {z1 : List Int} {b2 : Nat} {v2 : Value} {z2 : List Int} {b3 : Nat} {v3 : Value} {z3 : List Int} {b4 : Nat} {v4 : Value} {z4 : List Int} (h : Below N w0 w ∧ w.cell? p0 = some c0 ∧ w.cell? p1 = some c1 ∧ w.cell? p2 = some c2 ∧ w.cell? p3 = some c3 ∧ w.cell? p4 = some c4 ∧ w.cell? p5 = some c5 ∧ w.cell? p6 = some c6 ∧ w.cell? p7 = some c7 ∧ w.cell? p8 = some c8 ∧ w.cell? p9 = some c9 ∧ w.cell? p10 = some c10 ∧ w.cell? p11 = some c11 ∧ w.cell? p12 = some c12 ∧ w.cell? p13 = some c13 ∧ w.cell? p14 = some c14 ∧ w.cell? p15 = some c15 ∧ w.cell? p16 = some c16 ∧ w.cell? p17 = some c17 ∧ Rd w b0 v0 z0 ∧ Rd w b1 v1 z1 ∧ Rd w b2 v2 z2 ∧ Rd w b3 v3 z3 ∧ Rd w b4 v4 z4 ∧ N ≤ w.heap.size) : Rd w b1 v1 z1 := by obtain ⟨h0, x0, x1, x2, x3, x4, x5, x6, x7, x8, x9, x10, x11, x12, x13, x14, x15, x16, x17, y0, y1, y2, y3, y4, h5⟩ := h; exact y1
theorem rdx18_IIIII_2 {N : Nat} {w0 w : World} {p0 p1 p2 p3 p4 p5 p6 p7 p8 p9 p10 p11 p12 p13 p14 p15 p16 p17 : Addr} {c0 c1 c2 c3 c4 c5 c6 c7 c8 c9 c10 c11 c12 c13 c14 c15 c16 c17 : Value} {b0 : Nat} {v0 : Value} {z0 : List Int} {b1 : Nat} {v1 : Value} {z1 : List Int} {b2 : Nat} {v2 : Value} {z2 : List Int} {b3 : Nat} {v3 : Value} {z3 : List Int} {b4 : Nat} {v4 : Value} {z4 : List Int} (h : Below N w0 w ∧ w.cell? p0 = some c0 ∧ w.cell? p1 = some c1 ∧ w.cell? p2 = some c2 ∧ w.cell? p3 = some c3 ∧ w.cell? p4 = some c4 ∧ w.cell? p5 = some c5 ∧ w.cell? p6 = some c6 ∧ w.cell? p7 = some c7 ∧ w.cell? p8 = some c8 ∧ w.cell? p9 = some c9 ∧ w.cell? p10 = some c10 ∧ w.cell? p11 = some c11 ∧ w.cell? p12 = some c12 ∧ w.cell? p13 = some c13 ∧ w.cell? p14 = some c14 ∧ w.cell? p15 = some c15 ∧ w.cell? p16 = some c16 ∧ w.cell? p17 = some c17 ∧ Rd w b0 v0 z0 ∧ Rd w b1 v1 z1 ∧ Rd w b2 v2 z2 ∧ Rd w b3 v3 z3 ∧ Rd w b4 v4 z4 ∧ N ≤ w.heap.size) : Rd w b2 v2 z2 := by obtain ⟨h0, x0, x1, x2, x3, x4, x5, x6, x7, x8, x9, x10, x11, x12, x13, x14, x15, x16, x17, y0, y1, y2, y3, y4, h5⟩ := h; exact y2
theorem rdx18_IIIII_3 {N : Nat} {w0 w : World} {p0 p1 p2 p3 p4 p5 p6 p7 p8 p9 p10 p11 p12 p13 p14 p15 p16 p17 : Addr} {c0 c1 c2 c3 c4 c5 c6 c7 c8 c9 c10 c11 c12 c13 c14 c15 c16 c17 : Value} {b0 : Nat} {v0 : Value} {z0 : List Int} {b1 : Nat} {v1 : Value} {z1 : List Int} {b2 : Nat} {v2 : Value} {z2 : List Int} {b3 : Nat} {v3 : Value} {z3 : List Int} {b4 : Nat} {v4 : Value} {z4 : List Int} (h : Below N w0 w ∧ w.cell? p0 = some c0 ∧ w.cell? p1 = some c1 ∧ w.cell? p2 = some c2 ∧ w.cell? p3 = some c3 ∧ w.cell? p4 = some c4 ∧ w.cell? p5 = some c5 ∧ w.cell? p6 = some c6 ∧ w.cell? p7 = some c7 ∧ w.cell? p8 = some c8 ∧ w.cell? p9 = some c9 ∧ w.cell? p10 = some c10 ∧ w.cell? p11 = some c11 ∧ w.cell? p12 = some c12 ∧ w.cell? p13 = some c13 ∧ w.cell? p14 = some c14 ∧ w.cell? p15 = some c15 ∧ w.cell? p16 = some c16 ∧ w.cell? p17 = some c17 ∧ Rd w b0 v0 z0 ∧ Rd w b1 v1 z1 ∧ Rd w b2 v2 z2 ∧ Rd w b3 v3 z3 ∧ Rd w b4 v4 z4 ∧ N ≤ w.heap.size) : Rd w b3 v3 z3 := by obtain ⟨h0, x0, x1, x2, x3, x4, x5, x6, x7, x8, x9, x10, x11, x12, x13, x14, x15, x16, x17, y0, y1, y2, y3, y4, h5⟩ := h; exact y3
theorem rdx18_IIIII_4 {N : Nat} {w0 w : World} {p0 p1 p2 p3 p4 p5 p6 p7 p8 p9 p10 p11 p12 p13 p14 p15 p16 p17 : Addr} {c0 c1 c2 c3 c4 c5 c6 c7 c8 c9 c10 c11 c12 c13 c14 c15 c16 c17 : Value} {b0 : Nat} {v0 : Value} {z0 : List Int} {b1 : Nat} {v1 : Value} {z1 : List Int} {b2 : Nat} {v2 : Value} {z2 : List Int} {b3 : Nat} {v3 : Value} {z3 : List Int} {b4 : Nat} {v4 : Value} {z4 : List Int} (h : Below N w0 w ∧ w.cell? p0 = some c0 ∧ w.cell? p1 = some c1 ∧ w.cell? p2 = some c2 ∧ w.cell? p3 = some c3 ∧ w.cell? p4 = some c4 ∧ w.cell? p5 = some c5 ∧ w.cell? p6 = some c6 ∧ w.cell? p7 = some c7 ∧ w.cell? p8 = some c8 ∧ w.cell? p9 = some c9 ∧ w.cell? p10 = some c10 ∧ w.cell? p11 = some c11 ∧ w.cell? p12 = some c12 ∧ w.cell? p13 = some c13 ∧ w.cell? p14 = some c14 ∧ w.cell? p15 = some c15 ∧ w.cell? p16 = some c16 ∧ w.cell? p17 = some c17 ∧ Rd w b0 v0 z0 ∧ Rd w b1 v1 z1 ∧ Rd w b2 v2 z2 ∧ Rd w b3 v3 z3 ∧ Rd w b4 v4 z4 ∧ N ≤ w.heap.size) : Rd w b4 v4 z4 := by obtain ⟨h0, x0, x1, x2, x3, x4, x5, x6, x7, x8, x9, x10, x11, x12, x13, x14, x15, x16, x17, y0, y1, y2, y3, y4, h5⟩ := h; exact y4

set_option maxHeartbeats 16000000 in
theorem walk {w : World} {s0 r0 t0 u0 : Int} (fs0 : (Lit.int .i64 s0).wf = true) (fr0 : (Lit.int .i64 r0).wf = true) (ft0 : (Lit.int .i64 t0).wf = true) (fu0 : (Lit.int .i64 u0).wf = true) {b0a : Nat} {v0a : Value} {z0a : List Int} (h0a : Rd w b0a v0a z0a) {b0b : Nat} {v0b : Value} {z0b : List Int} (h0b : Rd w b0b v0b z0b) {b0c : Nat} {v0c : Value} {z0c : List Int} (h0c : Rd w b0c v0c z0c) {b0d : Nat} {v0d : Value} {z0d : List Int} (h0d : Rd w b0d v0d z0d) {b0e : Nat} {v0e : Value} {z0e : List Int} (h0e : Rd w b0e v0e z0e) :
    Calls Try.prog 3 #[Dsk.deskV s0 r0 v0a v0b t0 u0 v0c v0d v0e] w fun e w' => e = .returned (.bool true) ∧ Below w.heap.size w w' := by
  obtain ⟨ao0a, cap0a, e0a, kc0a, mc0a, _⟩ := id h0a
  have H0a : Hid (Rd w b0a v0a z0a) := h0a
  subst e0a; clear h0a
  have nb0a : z0a.length ≤ 9223372036854775807 := by unfold maxLen at mc0a; omega
  clear kc0a mc0a
  obtain ⟨ao0b, cap0b, e0b, kc0b, mc0b, _⟩ := id h0b
  have H0b : Hid (Rd w b0b v0b z0b) := h0b
  subst e0b; clear h0b
  have nb0b : z0b.length ≤ 9223372036854775807 := by unfold maxLen at mc0b; omega
  clear kc0b mc0b
  obtain ⟨ao0c, cap0c, e0c, kc0c, mc0c, _⟩ := id h0c
  have H0c : Hid (Rd w b0c v0c z0c) := h0c
  subst e0c; clear h0c
  have nb0c : z0c.length ≤ 9223372036854775807 := by unfold maxLen at mc0c; omega
  clear kc0c mc0c
  obtain ⟨ao0d, cap0d, e0d, kc0d, mc0d, _⟩ := id h0d
  have H0d : Hid (Rd w b0d v0d z0d) := h0d
  subst e0d; clear h0d
  have nb0d : z0d.length ≤ 9223372036854775807 := by unfold maxLen at mc0d; omega
  clear kc0d mc0d
  obtain ⟨ao0e, cap0e, e0e, kc0e, mc0e, _⟩ := id h0e
  have H0e : Hid (Rd w b0e v0e z0e) := h0e
  subst e0e; clear h0e
  have nb0e : z0e.length ≤ 9223372036854775807 := by unfold maxLen at mc0e; omega
  clear kc0e mc0e
  obtain ⟨q0, hspec, himpl⟩ := agree s0 r0 t0 u0 z0a z0b z0c z0d z0e 
  have HSp := hid @hspec
  have HIm := hid @himpl
  clear hspec himpl 
  go_enter Try.func3, Try.ntmps3
  go_wp2_with fail
  obtain ⟨w1, hW⟩ : ∃ w1, w1 = (w.alloc (Obj.cells #[.int .i64 s0, .int .i64 r0, (Value.slice ao0a z0a.length cap0a), (Value.slice ao0b z0b.length cap0b), .int .i64 t0, .int .i64 u0, (Value.slice ao0c z0c.length cap0c), (Value.slice ao0d z0d.length cap0d), (Value.slice ao0e z0e.length cap0e)] 30)) := ⟨_, rfl⟩
  obtain ⟨N0, hN0⟩ : ∃ N0, N0 = w.heap.size := ⟨_, rfl⟩
  have st : Below w.heap.size w w1 ∧ w1.cell? ⟨N0, 0, none⟩ = some (.int .i64 s0) ∧ w1.cell? ⟨N0, 1, none⟩ = some (.int .i64 r0) ∧ w1.cell? ⟨N0, 2, none⟩ = some ((Value.slice ao0a z0a.length cap0a)) ∧ w1.cell? ⟨N0, 3, none⟩ = some ((Value.slice ao0b z0b.length cap0b)) ∧ w1.cell? ⟨N0, 4, none⟩ = some (.int .i64 t0) ∧ w1.cell? ⟨N0, 5, none⟩ = some (.int .i64 u0) ∧ w1.cell? ⟨N0, 6, none⟩ = some ((Value.slice ao0c z0c.length cap0c)) ∧ w1.cell? ⟨N0, 7, none⟩ = some ((Value.slice ao0d z0d.length cap0d)) ∧ w1.cell? ⟨N0, 8, none⟩ = some ((Value.slice ao0e z0e.length cap0e)) ∧ Rd w1 b0a (Value.slice ao0a z0a.length cap0a) z0a ∧ Rd w1 b0b (Value.slice ao0b z0b.length cap0b) z0b ∧ Rd w1 b0c (Value.slice ao0c z0c.length cap0c) z0c ∧ Rd w1 b0d (Value.slice ao0d z0d.length cap0d) z0d ∧ Rd w1 b0e (Value.slice ao0e z0e.length cap0e) z0e ∧ w.heap.size ≤ w1.heap.size := by
    rw [hW, hN0]
    exact ⟨Rule.below1 _ _, by simp, by simp, by simp, by simp, by simp, by simp, by simp, by simp, by simp, H0a.out.keep (Rule.below1 _ _) (Nat.le_refl _), H0b.out.keep (Rule.below1 _ _) (Nat.le_refl _), H0c.out.keep (Rule.below1 _ _) (Nat.le_refl _), H0d.out.keep (Rule.below1 _ _) (Nat.le_refl _), H0e.out.keep (Rule.below1 _ _) (Nat.le_refl _), by simp <;> omega⟩
  simp only [← hW, ← hN0]
  clear hW hN0
  go_at_call 17
  refine (DskK.sz (rdx9_IIIII_0 st) (rdx9_IIIII_1 st) (rdx9_IIIII_2 st) (rdx9_IIIII_3 st) (rdx9_IIIII_4 st) (q := 1048576) (by omega)).mono ?_
  rintro e w2 ⟨q_0, rfl, hq, bel⟩
  replace st := nx9_IIIII bel st
  clear bel
  rcases hq with rfl | hq
  · go_wp2
    go_ret
    exact ⟨rfl, st.1⟩
  have n_0 : decide (q_0 < 0) = false := decide_eq_false (by omega)
  have HQ_0 : Hid (0 ≤ q_0 ∧ q_0 ≤ 1048576) := ⟨hq.1, hq.2.1⟩
  have HL_0 := hid hq.2.2
  clear hq
  go_wp2_with fail
  go_at_call 19
  refine (DskT.toD (rdx9_IIIII_0 st) (rdx9_IIIII_1 st) (rdx9_IIIII_2 st) (rdx9_IIIII_3 st) (rdx9_IIIII_4 st) HL_0.out).mono ?_
  rintro e w3 ⟨bp0a, bp0b, bp0c, bp0d, bp0e, rfl, op0a, op0b, op0c, op0d, op0e, lo, lt, lt2, lt3, lt4, bel⟩
  replace st := nx9_IIIII bel st
  clear bel
  clear lo lt lt2 lt3 lt4
  go_wp2_with fail
  go_at_call 18
  refine (HSp.out _ _ _ op0a.rd _ _ op0b.rd _ _ op0c.rd _ _ op0d.rd _ _ op0e.rd).mono ?_
  rintro e w4 ⟨rfl, bel⟩
  replace st := nx9_IIIII bel st
  replace op0a := op0a.keep bel
  replace op0b := op0b.keep bel
  replace op0c := op0c.keep bel
  replace op0d := op0d.keep bel
  replace op0e := op0e.keep bel
  clear bel
  clear op0a
  clear op0b
  clear op0c
  clear op0d
  clear op0e
  go_wp2_with fail
  go_at_call 19
  refine (DskT.toD (rdx9_IIIII_0 st) (rdx9_IIIII_1 st) (rdx9_IIIII_2 st) (rdx9_IIIII_3 st) (rdx9_IIIII_4 st) HL_0.out).mono ?_
  rintro e w5 ⟨bx0a, bx0b, bx0c, bx0d, bx0e, rfl, ox0a, ox0b, ox0c, ox0d, ox0e, lo, lt, lt2, lt3, lt4, bel⟩
  replace st := nx9_IIIII bel st
  clear bel
  clear lo lt lt2 lt3 lt4
  obtain ⟨w7, hW⟩ : ∃ w7, w7 = w5.alloc (Obj.cells #[.int .i64 s0, .int .i64 r0, (Value.slice (some ⟨bx0a, 0, none⟩) z0a.length z0a.length), (Value.slice (some ⟨bx0b, 0, none⟩) z0b.length z0b.length), .int .i64 t0, .int .i64 u0, (Value.slice (some ⟨bx0c, 0, none⟩) z0c.length z0c.length), (Value.slice (some ⟨bx0d, 0, none⟩) z0d.length z0d.length), (Value.slice (some ⟨bx0e, 0, none⟩) z0e.length z0e.length)] 37) := ⟨_, rfl⟩
  obtain ⟨NX0, hN⟩ : ∃ NX0, NX0 = w5.heap.size := ⟨_, rfl⟩
  have bel : Below w5.heap.size w5 w7 := by rw [hW]; exact Rule.below1 _ _
  have st' : Below w.heap.size w w7 ∧ w7.cell? ⟨N0, 0, none⟩ = some (.int .i64 s0) ∧ w7.cell? ⟨N0, 1, none⟩ = some (.int .i64 r0) ∧ w7.cell? ⟨N0, 2, none⟩ = some ((Value.slice ao0a z0a.length cap0a)) ∧ w7.cell? ⟨N0, 3, none⟩ = some ((Value.slice ao0b z0b.length cap0b)) ∧ w7.cell? ⟨N0, 4, none⟩ = some (.int .i64 t0) ∧ w7.cell? ⟨N0, 5, none⟩ = some (.int .i64 u0) ∧ w7.cell? ⟨N0, 6, none⟩ = some ((Value.slice ao0c z0c.length cap0c)) ∧ w7.cell? ⟨N0, 7, none⟩ = some ((Value.slice ao0d z0d.length cap0d)) ∧ w7.cell? ⟨N0, 8, none⟩ = some ((Value.slice ao0e z0e.length cap0e)) ∧ w7.cell? ⟨NX0, 0, none⟩ = some (.int .i64 s0) ∧ w7.cell? ⟨NX0, 1, none⟩ = some (.int .i64 r0) ∧ w7.cell? ⟨NX0, 2, none⟩ = some ((Value.slice (some ⟨bx0a, 0, none⟩) z0a.length z0a.length)) ∧ w7.cell? ⟨NX0, 3, none⟩ = some ((Value.slice (some ⟨bx0b, 0, none⟩) z0b.length z0b.length)) ∧ w7.cell? ⟨NX0, 4, none⟩ = some (.int .i64 t0) ∧ w7.cell? ⟨NX0, 5, none⟩ = some (.int .i64 u0) ∧ w7.cell? ⟨NX0, 6, none⟩ = some ((Value.slice (some ⟨bx0c, 0, none⟩) z0c.length z0c.length)) ∧ w7.cell? ⟨NX0, 7, none⟩ = some ((Value.slice (some ⟨bx0d, 0, none⟩) z0d.length z0d.length)) ∧ w7.cell? ⟨NX0, 8, none⟩ = some ((Value.slice (some ⟨bx0e, 0, none⟩) z0e.length z0e.length)) ∧ Rd w7 b0a (Value.slice ao0a z0a.length cap0a) z0a ∧ Rd w7 b0b (Value.slice ao0b z0b.length cap0b) z0b ∧ Rd w7 b0c (Value.slice ao0c z0c.length cap0c) z0c ∧ Rd w7 b0d (Value.slice ao0d z0d.length cap0d) z0d ∧ Rd w7 b0e (Value.slice ao0e z0e.length cap0e) z0e ∧ w.heap.size ≤ w7.heap.size := by
    obtain ⟨t0, c0, c1, c2, c3, c4, c5, c6, c7, c8, d0, d1, d2, d3, d4, tz⟩ := nx9_IIIII bel st
    exact ⟨t0, c0, c1, c2, c3, c4, c5, c6, c7, c8, by rw [hW, hN]; simp, by rw [hW, hN]; simp, by rw [hW, hN]; simp, by rw [hW, hN]; simp, by rw [hW, hN]; simp, by rw [hW, hN]; simp, by rw [hW, hN]; simp, by rw [hW, hN]; simp, by rw [hW, hN]; simp, d0, d1, d2, d3, d4, tz⟩
  replace ox0a := ox0a.keep bel
  replace ox0b := ox0b.keep bel
  replace ox0c := ox0c.keep bel
  replace ox0d := ox0d.keep bel
  replace ox0e := ox0e.keep bel
  clear st bel; have st := st'; clear st'
  have stp := st
  rw [hW, hN] at stp
  go_wp2_with fail
  clear stp
  simp only [← hW, ← hN]
  clear hW hN
  go_at_call 20
  refine (HIm.out _ _ _ ox0a.rd _ _ ox0b.rd _ _ ox0c.rd _ _ ox0d.rd _ _ ox0e.rd).mono ?_
  rintro e w6 ⟨rfl, bel⟩
  replace st := nx18_IIIII bel st
  replace ox0a := ox0a.keep bel
  replace ox0b := ox0b.keep bel
  replace ox0c := ox0c.keep bel
  replace ox0d := ox0d.keep bel
  replace ox0e := ox0e.keep bel
  clear bel
  go_wp2_with fail
  refine wp_region_held_drew (S := (fun ww => Below w.heap.size w ww ∧ ww.cell? ⟨N0, 0, none⟩ = some (.int .i64 s0) ∧ ww.cell? ⟨N0, 1, none⟩ = some (.int .i64 r0) ∧ ww.cell? ⟨N0, 2, none⟩ = some ((Value.slice ao0a z0a.length cap0a)) ∧ ww.cell? ⟨N0, 3, none⟩ = some ((Value.slice ao0b z0b.length cap0b)) ∧ ww.cell? ⟨N0, 4, none⟩ = some (.int .i64 t0) ∧ ww.cell? ⟨N0, 5, none⟩ = some (.int .i64 u0) ∧ ww.cell? ⟨N0, 6, none⟩ = some ((Value.slice ao0c z0c.length cap0c)) ∧ ww.cell? ⟨N0, 7, none⟩ = some ((Value.slice ao0d z0d.length cap0d)) ∧ ww.cell? ⟨N0, 8, none⟩ = some ((Value.slice ao0e z0e.length cap0e)) ∧ ww.cell? ⟨NX0, 0, none⟩ = some (.int .i64 s0) ∧ ww.cell? ⟨NX0, 1, none⟩ = some (.int .i64 r0) ∧ ww.cell? ⟨NX0, 2, none⟩ = some ((Value.slice (some ⟨bx0a, 0, none⟩) z0a.length z0a.length)) ∧ ww.cell? ⟨NX0, 3, none⟩ = some ((Value.slice (some ⟨bx0b, 0, none⟩) z0b.length z0b.length)) ∧ ww.cell? ⟨NX0, 4, none⟩ = some (.int .i64 t0) ∧ ww.cell? ⟨NX0, 5, none⟩ = some (.int .i64 u0) ∧ ww.cell? ⟨NX0, 6, none⟩ = some ((Value.slice (some ⟨bx0c, 0, none⟩) z0c.length z0c.length)) ∧ ww.cell? ⟨NX0, 7, none⟩ = some ((Value.slice (some ⟨bx0d, 0, none⟩) z0d.length z0d.length)) ∧ ww.cell? ⟨NX0, 8, none⟩ = some ((Value.slice (some ⟨bx0e, 0, none⟩) z0e.length z0e.length)) ∧ Rd ww b0a (Value.slice ao0a z0a.length cap0a) z0a ∧ Rd ww b0b (Value.slice ao0b z0b.length cap0b) z0b ∧ Rd ww b0c (Value.slice ao0c z0c.length cap0c) z0c ∧ Rd ww b0d (Value.slice ao0d z0d.length cap0d) z0d ∧ Rd ww b0e (Value.slice ao0e z0e.length cap0e) z0e ∧ w.heap.size ≤ ww.heap.size)) (by kernel_rfl) ?_ (fun hHeld => ?_)
  · ((try dsimp only); exact drw18_IIIII st)
  first | (refine wpAnyH_take (i := 0) (v := ?_) rfl ?_ ?_ ?_ (fun _ _ _ h => h) (Or.inl ⟨?_, ?_⟩) ?_ ?_; rotate_left 1; (focus decide +kernel); (focus decide +kernel); (focus decide +kernel); (focus rfl); (focus (intro w hSw; (try dsimp only at hSw); go_simp; (try (with_reducible rfl)); done)); (focus assumption); (try simp only [Act.put, List.setIfInBounds_toArray, List.set_cons_zero, List.set_cons_succ, List.getElem_toArray, List.getElem_cons_succ, List.getElem_cons_zero])) | (refine wpAnyH_take (i := 0) (v := undef) rfl ?_ ?_ ?_ (fun _ _ _ h => h) (Or.inr ⟨?_, rfl⟩) ?_ ?_; (focus decide +kernel); (focus decide +kernel); (focus decide +kernel); (focus rfl); (focus assumption); (try simp only [Act.put, List.setIfInBounds_toArray, List.set_cons_zero, List.set_cons_succ, List.getElem_toArray, List.getElem_cons_succ, List.getElem_cons_zero])) | skip
  first | (refine wpAnyH_take (i := 1) (v := ?_) rfl ?_ ?_ ?_ (fun _ _ _ h => h) (Or.inl ⟨?_, ?_⟩) ?_ ?_; rotate_left 1; (focus decide +kernel); (focus decide +kernel); (focus decide +kernel); (focus rfl); (focus (intro w hSw; (try dsimp only at hSw); go_simp; (try (with_reducible rfl)); done)); (focus assumption); (try simp only [Act.put, List.setIfInBounds_toArray, List.set_cons_zero, List.set_cons_succ, List.getElem_toArray, List.getElem_cons_succ, List.getElem_cons_zero])) | (refine wpAnyH_take (i := 1) (v := undef) rfl ?_ ?_ ?_ (fun _ _ _ h => h) (Or.inr ⟨?_, rfl⟩) ?_ ?_; (focus decide +kernel); (focus decide +kernel); (focus decide +kernel); (focus rfl); (focus assumption); (try simp only [Act.put, List.setIfInBounds_toArray, List.set_cons_zero, List.set_cons_succ, List.getElem_toArray, List.getElem_cons_succ, List.getElem_cons_zero])) | skip
  first | (refine wpAnyH_take (i := 4) (v := ?_) rfl ?_ ?_ ?_ (fun _ _ _ h => h) (Or.inl ⟨?_, ?_⟩) ?_ ?_; rotate_left 1; (focus decide +kernel); (focus decide +kernel); (focus decide +kernel); (focus rfl); (focus (intro w hSw; (try dsimp only at hSw); go_simp; (try (with_reducible rfl)); done)); (focus assumption); (try simp only [Act.put, List.setIfInBounds_toArray, List.set_cons_zero, List.set_cons_succ, List.getElem_toArray, List.getElem_cons_succ, List.getElem_cons_zero])) | (refine wpAnyH_take (i := 4) (v := undef) rfl ?_ ?_ ?_ (fun _ _ _ h => h) (Or.inr ⟨?_, rfl⟩) ?_ ?_; (focus decide +kernel); (focus decide +kernel); (focus decide +kernel); (focus rfl); (focus assumption); (try simp only [Act.put, List.setIfInBounds_toArray, List.set_cons_zero, List.set_cons_succ, List.getElem_toArray, List.getElem_cons_succ, List.getElem_cons_zero])) | skip
  first | (refine wpAnyH_take (i := 2) (v := undef) rfl ?_ ?_ ?_ (fun _ _ _ h => h) (Or.inr ⟨?_, rfl⟩) ?_ ?_; (focus decide +kernel); (focus decide +kernel); (focus decide +kernel); (focus rfl); (focus assumption); (try simp only [Act.put, List.setIfInBounds_toArray, List.set_cons_zero, List.set_cons_succ, List.getElem_toArray, List.getElem_cons_succ, List.getElem_cons_zero])) | (refine wpAnyH_ready (rs := [2]) ?_ (by simp) ?_; (focus decide +kernel); refine AllReadyH.cons rfl (fun K hK => ?_) AllReadyH.nil; go_simp; (go_at_call 19; refine (DskT.toD (rdx18_IIIII_0 hHeld) (rdx18_IIIII_1 hHeld) (rdx18_IIIII_2 hHeld) (rdx18_IIIII_3 hHeld) (rdx18_IIIII_4 hHeld) HL_0.out).mono ?_; rintro e w8 ⟨by0a, by0b, by0c, by0d, by0e, rfl, oy0a, oy0b, oy0c, oy0d, oy0e, lo, lt, lt2, lt3, lt4, bel⟩; replace ox0a : Own 2 w6.drew bx0a (Value.slice (some ⟨bx0a, 0, none⟩) z0a.length z0a.length) z0a := ox0a; replace ox0b : Own 2 w6.drew bx0b (Value.slice (some ⟨bx0b, 0, none⟩) z0b.length z0b.length) z0b := ox0b; replace ox0c : Own 2 w6.drew bx0c (Value.slice (some ⟨bx0c, 0, none⟩) z0c.length z0c.length) z0c := ox0c; replace ox0d : Own 2 w6.drew bx0d (Value.slice (some ⟨bx0d, 0, none⟩) z0d.length z0d.length) z0d := ox0d; replace ox0e : Own 2 w6.drew bx0e (Value.slice (some ⟨bx0e, 0, none⟩) z0e.length z0e.length) z0e := ox0e; replace ox0a := ox0a.keep bel; replace ox0b := ox0b.keep bel; replace ox0c := ox0c.keep bel; replace ox0d := ox0d.keep bel; replace ox0e := ox0e.keep bel; clear lo lt lt2 lt3 lt4); refine hK.out _ _ ?_ (fun hHeld => ?_); ((try dsimp only); exact nx18_IIIII bel hHeld); clear hK K; (try simp only [Act.put, List.setIfInBounds_toArray, List.set_cons_zero, List.set_cons_succ, List.getElem_toArray, List.getElem_cons_succ, List.getElem_cons_zero]))
  first | (refine wpAnyH_take (i := 4) (v := ?_) rfl ?_ ?_ ?_ (fun _ _ _ h => h) (Or.inl ⟨?_, ?_⟩) ?_ ?_; rotate_left 1; (focus decide +kernel); (focus decide +kernel); (focus decide +kernel); (focus rfl); (focus (intro w hSw; (try dsimp only at hSw); go_simp; (try (with_reducible rfl)); done)); (focus assumption); (try simp only [Act.put, List.setIfInBounds_toArray, List.set_cons_zero, List.set_cons_succ, List.getElem_toArray, List.getElem_cons_succ, List.getElem_cons_zero])) | (refine wpAnyH_take (i := 4) (v := undef) rfl ?_ ?_ ?_ (fun _ _ _ h => h) (Or.inr ⟨?_, rfl⟩) ?_ ?_; (focus decide +kernel); (focus decide +kernel); (focus decide +kernel); (focus rfl); (focus assumption); (try simp only [Act.put, List.setIfInBounds_toArray, List.set_cons_zero, List.set_cons_succ, List.getElem_toArray, List.getElem_cons_succ, List.getElem_cons_zero])) | skip
  first | (refine wpAnyH_take (i := 3) (v := undef) rfl ?_ ?_ ?_ (fun _ _ _ h => h) (Or.inr ⟨?_, rfl⟩) ?_ ?_; (focus decide +kernel); (focus decide +kernel); (focus decide +kernel); (focus rfl); (focus assumption); (try simp only [Act.put, List.setIfInBounds_toArray, List.set_cons_zero, List.set_cons_succ, List.getElem_toArray, List.getElem_cons_succ, List.getElem_cons_zero])) | (refine wpAnyH_ready (rs := [3]) ?_ (by simp) ?_; (focus decide +kernel); refine AllReadyH.cons rfl (fun K hK => ?_) AllReadyH.nil; go_simp; (go_at_call 21; refine (DskK.eqD ox0a.rd ox0b.rd ox0c.rd ox0d.rd ox0e.rd oy0a.rd oy0b.rd oy0c.rd oy0d.rd oy0e.rd).mono ?_; rintro e w9 ⟨rfl, bel⟩; replace ox0a := ox0a.keep bel; replace ox0b := ox0b.keep bel; replace ox0c := ox0c.keep bel; replace ox0d := ox0d.keep bel; replace ox0e := ox0e.keep bel; clear oy0a oy0b oy0c oy0d oy0e); refine hK.out _ _ ?_ (fun hHeld => ?_); ((try dsimp only); exact nx18_IIIII bel hHeld); clear hK K; (try simp only [Act.put, List.setIfInBounds_toArray, List.set_cons_zero, List.set_cons_succ, List.getElem_toArray, List.getElem_cons_succ, List.getElem_cons_zero]))
  first | (refine wpAnyH_take (i := 4) (v := ?_) rfl ?_ ?_ ?_ (fun _ _ _ h => h) (Or.inl ⟨?_, ?_⟩) ?_ ?_; rotate_left 1; (focus decide +kernel); (focus decide +kernel); (focus decide +kernel); (focus rfl); (focus (intro w hSw; (try dsimp only at hSw); go_simp; (try (with_reducible rfl)); done)); (focus assumption); (try simp only [Act.put, List.setIfInBounds_toArray, List.set_cons_zero, List.set_cons_succ, List.getElem_toArray, List.getElem_cons_succ, List.getElem_cons_zero])) | (refine wpAnyH_take (i := 4) (v := undef) rfl ?_ ?_ ?_ (fun _ _ _ h => h) (Or.inr ⟨?_, rfl⟩) ?_ ?_; (focus decide +kernel); (focus decide +kernel); (focus decide +kernel); (focus rfl); (focus assumption); (try simp only [Act.put, List.setIfInBounds_toArray, List.set_cons_zero, List.set_cons_succ, List.getElem_toArray, List.getElem_cons_succ, List.getElem_cons_zero])) | skip
  refine wpAnyH_done (by kernel_rfl) ?_ _
  clear st; have st := hHeld; clear hHeld
  go_wp2
  go_ret
  exact ⟨rfl, And.left st⟩

section
variable {P : Program} {H : Type} {enc : TypeId × Value → H} {w : World} {base : Nat} {spare : Nat → Bool} {held : Bool}
theorem list9 {α : Type} {l : List α} (h : l.length = 9) : ∃ a b c d e f g i j, l = [a, b, c, d, e, f, g, i, j] := by
  match l, h with
  | [a, b, c, d, e, f, g, i, j], _ => exact ⟨a, b, c, d, e, f, g, i, j, rfl⟩
theorem list4 {α : Type} {l : List α} (h : l.length = 4) : ∃ a b c d, l = [a, b, c, d] := by
  match l, h with
  | [a, b, c, d], _ => exact ⟨a, b, c, d, rfl⟩
theorem list3 {α : Type} {l : List α} (h : l.length = 3) : ∃ a b c, l = [a, b, c] := by
  match l, h with
  | [a, b, c], _ => exact ⟨a, b, c, rfl⟩
theorem list2 {α : Type} {l : List α} (h : l.length = 2) : ∃ a b, l = [a, b] := by
  match l, h with
  | [a, b], _ => exact ⟨a, b, rfl⟩
theorem three_of {t : TypeId} {f0 f1 f2 : Field} {fuel : Nat} {a b c : Value} {x : DataW H × List MemPlace} (hs : P.underlying t = some (.struct #[f0, f1, f2])) (k0 : f0.offset = 0 ∧ P.cellsOf f0.type = 1) (k1 : f1.offset = 1 ∧ P.cellsOf f1.type = 1) (k2 : f2.offset = 2 ∧ P.cellsOf f2.type = 1) (h : DataW.trod enc P w base spare held fuel t [a, b, c] = some x) :
    ∃ n, (∃ y, DataW.trod enc P w base spare held n f0.type [a] = some y) ∧ (∃ y, DataW.trod enc P w base spare held n f1.type [b] = some y) ∧ (∃ y, DataW.trod enc P w base spare held n f2.type [c] = some y) := by
  obtain ⟨xs, n, _, _, _, hlen, hg⟩ := DataW.trod_struct hs h
  obtain ⟨y0, y1, y2, rfl⟩ := list3 (show xs.length = 3 from hlen)
  exact ⟨n, ⟨y0, by simpa [k0.1, k0.2] using hg 0 f0 rfl⟩, ⟨y1, by simpa [k1.1, k1.2] using hg 1 f1 rfl⟩, ⟨y2, by simpa [k2.1, k2.2] using hg 2 f2 rfl⟩⟩
theorem two_of {t : TypeId} {f0 f1 : Field} {fuel : Nat} {a b : Value} {x : DataW H × List MemPlace} (hs : P.underlying t = some (.struct #[f0, f1])) (k0 : f0.offset = 0 ∧ P.cellsOf f0.type = 1) (k1 : f1.offset = 1 ∧ P.cellsOf f1.type = 1) (h : DataW.trod enc P w base spare held fuel t [a, b] = some x) :
    ∃ n, (∃ y, DataW.trod enc P w base spare held n f0.type [a] = some y) ∧ (∃ y, DataW.trod enc P w base spare held n f1.type [b] = some y) := by
  obtain ⟨xs, n, _, _, _, hlen, hg⟩ := DataW.trod_struct hs h
  obtain ⟨y0, y1, rfl⟩ := list2 (show xs.length = 2 from hlen)
  exact ⟨n, ⟨y0, by simpa [k0.1, k0.2] using hg 0 f0 rfl⟩, ⟨y1, by simpa [k1.1, k1.2] using hg 1 f1 rfl⟩⟩
theorem open_desk {r : Reach} {b0 : Nat} {t : TypeId} {f0 f1 f2 f3 : Field} {v : Value} {d : DataW H} {p : List MemPlace} (hs : P.underlying t = some (.struct #[f0, f1, f2, f3])) (hC : P.cellsOf t = 9) (k0 : f0.offset = 0 ∧ P.cellsOf f0.type = 3) (k1 : f1.offset = 3 ∧ P.cellsOf f1.type = 1) (k2 : f2.offset = 4 ∧ P.cellsOf f2.type = 3) (k3 : f3.offset = 7 ∧ P.cellsOf f3.type = 2)
    (hv : Value.okWide P w r b0 t v) (h : DataW.Trod enc P w base spare held t v d p) :
    ∃ (n : Nat) (c0 c1 c2 c3 c4 c5 c6 c7 c8 : Value), v = .agg #[c0, c1, c2, c3, c4, c5, c6, c7, c8] ∧ (∃ y, DataW.trod enc P w base spare held n f0.type [c0, c1, c2] = some y) ∧ (∃ y, DataW.trod enc P w base spare held n f1.type [c3] = some y) ∧ (∃ y, DataW.trod enc P w base spare held n f2.type [c4, c5, c6] = some y) ∧ (∃ y, DataW.trod enc P w base spare held n f3.type [c7, c8] = some y) := by
  obtain ⟨cs, rfl, hsz⟩ := okWide_struct hs hv
  obtain ⟨l⟩ := cs
  obtain ⟨c0, c1, c2, c3, c4, c5, c6, c7, c8, rfl⟩ := list9 (show l.length = 9 from hsz.trans hC)
  obtain ⟨fuel, hf⟩ := h
  obtain ⟨xs, n, _, _, _, hlen, hg⟩ := DataW.trod_struct hs hf
  obtain ⟨y0, y1, y2, y3, rfl⟩ := list4 (show xs.length = 4 from hlen)
  exact ⟨n, c0, c1, c2, c3, c4, c5, c6, c7, c8, rfl, ⟨y0, by simpa [Value.cells, k0.1, k0.2] using hg 0 f0 rfl⟩, ⟨y1, by simpa [Value.cells, k1.1, k1.2] using hg 1 f1 rfl⟩, ⟨y2, by simpa [Value.cells, k2.1, k2.2] using hg 2 f2 rfl⟩, ⟨y3, by simpa [Value.cells, k3.1, k3.2] using hg 3 f3 rfl⟩⟩
end

set_option maxRecDepth 100000 in
theorem lifted (os : Os) (started : os.Started) (H : Type) (enc : TypeId × Value → H) :
    ReturnsInHanded {} Try.checked os 3 .any (Rows.fnExactValidDeskSpec.pre6 enc Try.prog Try.f3 Rows.fnExactValidDeskRow.domain false) (Rows.fnExactValidDeskSpec.post enc Try.prog Try.f3 false true false false) := by
  refine returnsInHanded_of_change (C := Try.checked) own started (by kernel_rfl) Try.func3
    (ChangeSpec.witness6 (enc := enc) (C := Try.checked) false ⟨#[], #[.agg #[.int .i64 0, .int .i64 0, .slice none 0 0, .slice none 0 0, .int .i64 0, .int .i64 0, .slice none 0 0, .slice none 0 0, .slice none 0 0]], []⟩ 8 (by kernel_rfl) (by kernel_rfl) (by kernel_rfl) (by kernel_rfl)) ?_
  intro W base args ds gs before hval0 hW hcnd hreach
  have hval : ∀ (j : Nat) t v, Try.f3.params[j]? = some t → args[j]? = some v → Value.okWide Try.prog W .any base t v := hval0
  have hW' := hW
  obtain ⟨p, q, hA0, hV, rfl, hfz, hnd⟩ := hW
  have hA : DataW.TrodAll enc Try.prog W 0 (fun _ => true) true Try.f3.params.toList args.toList ds p := hA0
  rw [Try.params3] at hA hval
  obtain ⟨v0, vs0, d0, ds0, p0, q0, hargs, rfl, rfl, h0, r0⟩ := trodAll_cons hA
  obtain ⟨rfl, rfl, rfl⟩ := trodAll_nil r0
  obtain rfl : args = #[v0] := by cases args; simp_all
  obtain ⟨rfl, rfl⟩ := trodVars_none hV
  have k0 := h0
  have lt0 : ∀ x ∈ p0, x.block < W.heap.size := by obtain ⟨m, hm⟩ := k0; exact DataW.trod_lt m _ _ _ hm
  obtain ⟨m0, c0, c1, c2, c3, c4, c5, c6, c7, c8, rfl, ⟨_, td0⟩, ⟨_, td1⟩, ⟨_, td2⟩, ⟨_, td3⟩⟩ := open_desk Try.underlying30 (by kernel_rfl) ⟨by kernel_rfl, by kernel_rfl⟩ ⟨by kernel_rfl, by kernel_rfl⟩ ⟨by kernel_rfl, by kernel_rfl⟩ ⟨by kernel_rfl, by kernel_rfl⟩ (hval 0 30 v0 rfl rfl) h0
  obtain ⟨n0a, ⟨_, s0a0⟩, ⟨_, s0a1⟩, ⟨_, s0a2⟩⟩ := three_of Try.underlying24 ⟨by kernel_rfl, by kernel_rfl⟩ ⟨by kernel_rfl, by kernel_rfl⟩ ⟨by kernel_rfl, by kernel_rfl⟩ td0
  obtain ⟨i0a0, e0a0, _, w0a0⟩ := DataW.trod_int Try.underlying2 s0a0
  simp at e0a0
  subst e0a0
  obtain ⟨i0a1, e0a1, _, w0a1⟩ := DataW.trod_int Try.underlying2 s0a1
  simp at e0a1
  subst e0a1
  obtain ⟨a0a, len0a, cap0a, e0a⟩ := slice_form Try.underlying22 s0a2
  simp at e0a
  subst e0a
  obtain ⟨b0a, z0a, _, w0a⟩ : ∃ b zs, zs.length = len0a ∧ Rd W b (.slice a0a len0a cap0a) zs := rd_open Try.underlying22 Try.underlying2 (by kernel_rfl) s0a2
  obtain ⟨a0b, len0b, cap0b, e0b⟩ := slice_form Try.underlying22 td1
  simp at e0b
  subst e0b
  obtain ⟨b0b, z0b, _, w0b⟩ : ∃ b zs, zs.length = len0b ∧ Rd W b (.slice a0b len0b cap0b) zs := rd_open Try.underlying22 Try.underlying2 (by kernel_rfl) td1
  obtain ⟨n0c, ⟨_, s0c0⟩, ⟨_, s0c1⟩, ⟨_, s0c2⟩⟩ := three_of Try.underlying26 ⟨by kernel_rfl, by kernel_rfl⟩ ⟨by kernel_rfl, by kernel_rfl⟩ ⟨by kernel_rfl, by kernel_rfl⟩ td2
  obtain ⟨i0c0, e0c0, _, w0c0⟩ := DataW.trod_int Try.underlying2 s0c0
  simp at e0c0
  subst e0c0
  obtain ⟨i0c1, e0c1, _, w0c1⟩ := DataW.trod_int Try.underlying2 s0c1
  simp at e0c1
  subst e0c1
  obtain ⟨a0c, len0c, cap0c, e0c⟩ := slice_form Try.underlying22 s0c2
  simp at e0c
  subst e0c
  obtain ⟨b0c, z0c, _, w0c⟩ : ∃ b zs, zs.length = len0c ∧ Rd W b (.slice a0c len0c cap0c) zs := rd_open Try.underlying22 Try.underlying2 (by kernel_rfl) s0c2
  obtain ⟨nl0, ⟨_, sl00⟩, ⟨_, sl01⟩⟩ := two_of Try.underlying28 ⟨by kernel_rfl, by kernel_rfl⟩ ⟨by kernel_rfl, by kernel_rfl⟩ td3
  obtain ⟨a0d, len0d, cap0d, e0d⟩ := slice_form Try.underlying22 sl00
  simp at e0d
  subst e0d
  obtain ⟨b0d, z0d, _, w0d⟩ : ∃ b zs, zs.length = len0d ∧ Rd W b (.slice a0d len0d cap0d) zs := rd_open Try.underlying22 Try.underlying2 (by kernel_rfl) sl00
  obtain ⟨a0e, len0e, cap0e, e0e⟩ := slice_form Try.underlying22 sl01
  simp at e0e
  subst e0e
  obtain ⟨b0e, z0e, _, w0e⟩ : ∃ b zs, zs.length = len0e ∧ Rd W b (.slice a0e len0e cap0e) zs := rd_open Try.underlying22 Try.underlying2 (by kernel_rfl) sl01
  clear hA0 hval0
  refine (walk w0a0 w0a1 w0c0 w0c1 w0a w0b w0c w0d w0e).mono fun e W' ⟨he, bel⟩ => ?_
  subst he
  exact ⟨_, rfl, _, _, _, [], _, [], hW', trodAll_mk1 (shut_bool Try.underlying4 _), (trodAll_cons_mk (Below.trod laidOut (by kernel_rfl) (of_decide_eq_true (by kernel_rfl)) k0 bel lt0) (trodAll_mk0)), rfl, bel.frame _, fun h => by cases h⟩

theorem over : Rows.fnExactValidDeskRow.holds Try.pinned (OpenSpec.ofChange Rows.fnExactValidDeskSpec) :=
  OpenClaim.holds_of_wide 3 Try.f3 rfl rfl rfl rfl rfl rfl rfl ⟨rfl, rfl, rfl, rfl, rfl⟩ rfl rfl rfl rfl rfl (by kernel_rfl) Try.func3 (by unfold joinedFacts; rw [MayA.fact, MayB.fact, MayC.fact]; kernel_rfl)
    (of_decide_eq_true (by kernel_rfl)) (by unfold Func.isWrapper; rw [if_neg (of_decide_eq_false (by kernel_rfl))]; exact ⟨rfl, rfl⟩)
    (fun os started H enc _ => lifted os started H enc)

theorem proved : Rows.FnExactValidDeskSaid := over
end Go.Proofs.Ytonghkooncmjgaa.lawValidDesk
