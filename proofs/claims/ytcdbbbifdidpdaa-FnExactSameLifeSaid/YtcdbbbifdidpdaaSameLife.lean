/- For every two lives, the program's SameLife answers as its model, writes into no argument, and shares no memory. -/
import Derived.Test.YtcdbbbifdidpdaaRows
import Derived.Test.YtcdbbbifdidpdaaLife
import Derived.Test.YtcdbbbifdidpdaaLSame
import Derived.WalkKit
import Derived.WalkLawsBesides
import Derived.ProofKit
import Derived.OpenShut
import Derived.ShutString
import Derived.ChangeOld
import Derived.Below
import Derived.IntWalk
import Derived.Lib.SmallJoins
namespace Go.Proofs.Ytcdbbbifdidpdaa.lawSameLife
open Go.ChangeShapes Go.WideShapes Go.ChangeAt Go.RowKit Go.Joins Go.Proofs.Ytcdbbbifdidpdaa.Rd Go.Proofs.Ytcdbbbifdidpdaa.Help Go.Proofs.Ytcdbbbifdidpdaa.Keep
set_option linter.unusedVariables false
set_option linter.unusedSimpArgs false
theorem own : ownKnob Try.prog.godebug = none := by kernel_rfl
theorem laidOut : laidOutB Try.prog = true := by kernel_rfl
theorem agree (xs ys xs' ys' : List Int) (hx : xs.length ≤ 1048576) (hy : ys.length ≤ 1048576) (hx' : xs'.length ≤ 1048576) (hy' : ys'.length ≤ 1048576) : ∃ (ok : Bool),
    (∀ (w : World) (b : Nat) (v : Value), Rd w b v xs → ∀ (b1 : Nat) (v1 : Value), Rd w b1 v1 ys → ∀ (b2 : Nat) (v2 : Value), Rd w b2 v2 xs' → ∀ (b3 : Nat) (v3 : Value), Rd w b3 v3 ys' → Calls Try.prog 35 #[lifeV v v1, lifeV v2 v3] w fun e w' => e = .returned (.bool ok) ∧ Below w.heap.size w w') ∧
    (∀ (w : World) (b : Nat) (v : Value), Rd w b v xs → ∀ (b1 : Nat) (v1 : Value), Rd w b1 v1 ys → ∀ (b2 : Nat) (v2 : Value), Rd w b2 v2 xs' → ∀ (b3 : Nat) (v3 : Value), Rd w b3 v3 ys' → Calls Try.prog 36 #[lifeV v v1, lifeV v2 v3] w fun e w' => e = .returned (.bool ok) ∧ Below w.heap.size w w') :=
  ⟨LSame.sameL xs ys xs' ys', fun w b v h b1 v1 h1 b2 v2 h2 b3 v3 h3 => LSame.spec_two h h1 h2 h3, fun w b v h b1 v1 h1 b2 v2 h2 b3 v3 h3 => LSame.impl_two h h1 h2 h3⟩

theorem nx4_4 {N : Nat} {w0 w w' : World} {p0 p1 p2 p3 : Addr} {c0 c1 c2 c3 : Value} {b0 : Nat} {v0 : Value} {z0 : List Int} {b1 : Nat} {v1 : Value} {z1 : List Int} {b2 : Nat} {v2 : Value} {z2 : List Int} {b3 : Nat} {v3 : Value} {z3 : List Int} (bel : Below w.heap.size w w') (h : Below N w0 w ∧ w.cell? p0 = some c0 ∧ w.cell? p1 = some c1 ∧ w.cell? p2 = some c2 ∧ w.cell? p3 = some c3 ∧ Rd w b0 v0 z0 ∧ Rd w b1 v1 z1 ∧ Rd w b2 v2 z2 ∧ Rd w b3 v3 z3 ∧ N ≤ w.heap.size) : Below N w0 w' ∧ w'.cell? p0 = some c0 ∧ w'.cell? p1 = some c1 ∧ w'.cell? p2 = some c2 ∧ w'.cell? p3 = some c3 ∧ Rd w' b0 v0 z0 ∧ Rd w' b1 v1 z1 ∧ Rd w' b2 v2 z2 ∧ Rd w' b3 v3 z3 ∧ N ≤ w'.heap.size := by obtain ⟨h0, x0, x1, x2, x3, y0, y1, y2, y3, h5⟩ := h; exact ⟨h0.trans (bel.mono h5), cell_keep bel x0, cell_keep bel x1, cell_keep bel x2, cell_keep bel x3, y0.keep bel (Nat.le_refl _), y1.keep bel (Nat.le_refl _), y2.keep bel (Nat.le_refl _), y3.keep bel (Nat.le_refl _), Nat.le_trans h5 bel.size⟩
theorem drw4_4 {N : Nat} {w0 w : World} {p0 p1 p2 p3 : Addr} {c0 c1 c2 c3 : Value} {b0 : Nat} {v0 : Value} {z0 : List Int} {b1 : Nat} {v1 : Value} {z1 : List Int} {b2 : Nat} {v2 : Value} {z2 : List Int} {b3 : Nat} {v3 : Value} {z3 : List Int} (h : Below N w0 w ∧ w.cell? p0 = some c0 ∧ w.cell? p1 = some c1 ∧ w.cell? p2 = some c2 ∧ w.cell? p3 = some c3 ∧ Rd w b0 v0 z0 ∧ Rd w b1 v1 z1 ∧ Rd w b2 v2 z2 ∧ Rd w b3 v3 z3 ∧ N ≤ w.heap.size) : Below N w0 w.drew ∧ w.drew.cell? p0 = some c0 ∧ w.drew.cell? p1 = some c1 ∧ w.drew.cell? p2 = some c2 ∧ w.drew.cell? p3 = some c3 ∧ Rd w.drew b0 v0 z0 ∧ Rd w.drew b1 v1 z1 ∧ Rd w.drew b2 v2 z2 ∧ Rd w.drew b3 v3 z3 ∧ N ≤ w.drew.heap.size := by obtain ⟨h0, x0, x1, x2, x3, y0, y1, y2, y3, h5⟩ := h; exact ⟨h0.drew, x0, x1, x2, x3, y0, y1, y2, y3, h5⟩
theorem rdx4_4_0 {N : Nat} {w0 w : World} {p0 p1 p2 p3 : Addr} {c0 c1 c2 c3 : Value} {b0 : Nat} {v0 : Value} {z0 : List Int} {b1 : Nat} {v1 : Value} {z1 : List Int} {b2 : Nat} {v2 : Value} {z2 : List Int} {b3 : Nat} {v3 : Value} {z3 : List Int} (h : Below N w0 w ∧ w.cell? p0 = some c0 ∧ w.cell? p1 = some c1 ∧ w.cell? p2 = some c2 ∧ w.cell? p3 = some c3 ∧ Rd w b0 v0 z0 ∧ Rd w b1 v1 z1 ∧ Rd w b2 v2 z2 ∧ Rd w b3 v3 z3 ∧ N ≤ w.heap.size) : Rd w b0 v0 z0 := by obtain ⟨h0, x0, x1, x2, x3, y0, y1, y2, y3, h5⟩ := h; exact y0
theorem rdx4_4_1 {N : Nat} {w0 w : World} {p0 p1 p2 p3 : Addr} {c0 c1 c2 c3 : Value} {b0 : Nat} {v0 : Value} {z0 : List Int} {b1 : Nat} {v1 : Value} {z1 : List Int} {b2 : Nat} {v2 : Value} {z2 : List Int} {b3 : Nat} {v3 : Value} {z3 : List Int} (h : Below N w0 w ∧ w.cell? p0 = some c0 ∧ w.cell? p1 = some c1 ∧ w.cell? p2 = some c2 ∧ w.cell? p3 = some c3 ∧ Rd w b0 v0 z0 ∧ Rd w b1 v1 z1 ∧ Rd w b2 v2 z2 ∧ Rd w b3 v3 z3 ∧ N ≤ w.heap.size) : Rd w b1 v1 z1 := by obtain ⟨h0, x0, x1, x2, x3, y0, y1, y2, y3, h5⟩ := h; exact y1
theorem rdx4_4_2 {N : Nat} {w0 w : World} {p0 p1 p2 p3 : Addr} {c0 c1 c2 c3 : Value} {b0 : Nat} {v0 : Value} {z0 : List Int} {b1 : Nat} {v1 : Value} {z1 : List Int} {b2 : Nat} {v2 : Value} {z2 : List Int} {b3 : Nat} {v3 : Value} {z3 : List Int} (h : Below N w0 w ∧ w.cell? p0 = some c0 ∧ w.cell? p1 = some c1 ∧ w.cell? p2 = some c2 ∧ w.cell? p3 = some c3 ∧ Rd w b0 v0 z0 ∧ Rd w b1 v1 z1 ∧ Rd w b2 v2 z2 ∧ Rd w b3 v3 z3 ∧ N ≤ w.heap.size) : Rd w b2 v2 z2 := by obtain ⟨h0, x0, x1, x2, x3, y0, y1, y2, y3, h5⟩ := h; exact y2
theorem rdx4_4_3 {N : Nat} {w0 w : World} {p0 p1 p2 p3 : Addr} {c0 c1 c2 c3 : Value} {b0 : Nat} {v0 : Value} {z0 : List Int} {b1 : Nat} {v1 : Value} {z1 : List Int} {b2 : Nat} {v2 : Value} {z2 : List Int} {b3 : Nat} {v3 : Value} {z3 : List Int} (h : Below N w0 w ∧ w.cell? p0 = some c0 ∧ w.cell? p1 = some c1 ∧ w.cell? p2 = some c2 ∧ w.cell? p3 = some c3 ∧ Rd w b0 v0 z0 ∧ Rd w b1 v1 z1 ∧ Rd w b2 v2 z2 ∧ Rd w b3 v3 z3 ∧ N ≤ w.heap.size) : Rd w b3 v3 z3 := by obtain ⟨h0, x0, x1, x2, x3, y0, y1, y2, y3, h5⟩ := h; exact y3
theorem nx6_4 {N : Nat} {w0 w w' : World} {p0 p1 p2 p3 p4 p5 : Addr} {c0 c1 c2 c3 c4 c5 : Value} {b0 : Nat} {v0 : Value} {z0 : List Int} {b1 : Nat} {v1 : Value} {z1 : List Int} {b2 : Nat} {v2 : Value} {z2 : List Int} {b3 : Nat} {v3 : Value} {z3 : List Int} (bel : Below w.heap.size w w') (h : Below N w0 w ∧ w.cell? p0 = some c0 ∧ w.cell? p1 = some c1 ∧ w.cell? p2 = some c2 ∧ w.cell? p3 = some c3 ∧ w.cell? p4 = some c4 ∧ w.cell? p5 = some c5 ∧ Rd w b0 v0 z0 ∧ Rd w b1 v1 z1 ∧ Rd w b2 v2 z2 ∧ Rd w b3 v3 z3 ∧ N ≤ w.heap.size) : Below N w0 w' ∧ w'.cell? p0 = some c0 ∧ w'.cell? p1 = some c1 ∧ w'.cell? p2 = some c2 ∧ w'.cell? p3 = some c3 ∧ w'.cell? p4 = some c4 ∧ w'.cell? p5 = some c5 ∧ Rd w' b0 v0 z0 ∧ Rd w' b1 v1 z1 ∧ Rd w' b2 v2 z2 ∧ Rd w' b3 v3 z3 ∧ N ≤ w'.heap.size := by obtain ⟨h0, x0, x1, x2, x3, x4, x5, y0, y1, y2, y3, h5⟩ := h; exact ⟨h0.trans (bel.mono h5), cell_keep bel x0, cell_keep bel x1, cell_keep bel x2, cell_keep bel x3, cell_keep bel x4, cell_keep bel x5, y0.keep bel (Nat.le_refl _), y1.keep bel (Nat.le_refl _), y2.keep bel (Nat.le_refl _), y3.keep bel (Nat.le_refl _), Nat.le_trans h5 bel.size⟩
theorem drw6_4 {N : Nat} {w0 w : World} {p0 p1 p2 p3 p4 p5 : Addr} {c0 c1 c2 c3 c4 c5 : Value} {b0 : Nat} {v0 : Value} {z0 : List Int} {b1 : Nat} {v1 : Value} {z1 : List Int} {b2 : Nat} {v2 : Value} {z2 : List Int} {b3 : Nat} {v3 : Value} {z3 : List Int} (h : Below N w0 w ∧ w.cell? p0 = some c0 ∧ w.cell? p1 = some c1 ∧ w.cell? p2 = some c2 ∧ w.cell? p3 = some c3 ∧ w.cell? p4 = some c4 ∧ w.cell? p5 = some c5 ∧ Rd w b0 v0 z0 ∧ Rd w b1 v1 z1 ∧ Rd w b2 v2 z2 ∧ Rd w b3 v3 z3 ∧ N ≤ w.heap.size) : Below N w0 w.drew ∧ w.drew.cell? p0 = some c0 ∧ w.drew.cell? p1 = some c1 ∧ w.drew.cell? p2 = some c2 ∧ w.drew.cell? p3 = some c3 ∧ w.drew.cell? p4 = some c4 ∧ w.drew.cell? p5 = some c5 ∧ Rd w.drew b0 v0 z0 ∧ Rd w.drew b1 v1 z1 ∧ Rd w.drew b2 v2 z2 ∧ Rd w.drew b3 v3 z3 ∧ N ≤ w.drew.heap.size := by obtain ⟨h0, x0, x1, x2, x3, x4, x5, y0, y1, y2, y3, h5⟩ := h; exact ⟨h0.drew, x0, x1, x2, x3, x4, x5, y0, y1, y2, y3, h5⟩
theorem rdx6_4_0 {N : Nat} {w0 w : World} {p0 p1 p2 p3 p4 p5 : Addr} {c0 c1 c2 c3 c4 c5 : Value} {b0 : Nat} {v0 : Value} {z0 : List Int} {b1 : Nat} {v1 : Value} {z1 : List Int} {b2 : Nat} {v2 : Value} {z2 : List Int} {b3 : Nat} {v3 : Value} {z3 : List Int} (h : Below N w0 w ∧ w.cell? p0 = some c0 ∧ w.cell? p1 = some c1 ∧ w.cell? p2 = some c2 ∧ w.cell? p3 = some c3 ∧ w.cell? p4 = some c4 ∧ w.cell? p5 = some c5 ∧ Rd w b0 v0 z0 ∧ Rd w b1 v1 z1 ∧ Rd w b2 v2 z2 ∧ Rd w b3 v3 z3 ∧ N ≤ w.heap.size) : Rd w b0 v0 z0 := by obtain ⟨h0, x0, x1, x2, x3, x4, x5, y0, y1, y2, y3, h5⟩ := h; exact y0
theorem rdx6_4_1 {N : Nat} {w0 w : World} {p0 p1 p2 p3 p4 p5 : Addr} {c0 c1 c2 c3 c4 c5 : Value} {b0 : Nat} {v0 : Value} {z0 : List Int} {b1 : Nat} {v1 : Value} {z1 : List Int} {b2 : Nat} {v2 : Value} {z2 : List Int} {b3 : Nat} {v3 : Value} {z3 : List Int} (h : Below N w0 w ∧ w.cell? p0 = some c0 ∧ w.cell? p1 = some c1 ∧ w.cell? p2 = some c2 ∧ w.cell? p3 = some c3 ∧ w.cell? p4 = some c4 ∧ w.cell? p5 = some c5 ∧ Rd w b0 v0 z0 ∧ Rd w b1 v1 z1 ∧ Rd w b2 v2 z2 ∧ Rd w b3 v3 z3 ∧ N ≤ w.heap.size) : Rd w b1 v1 z1 := by obtain ⟨h0, x0, x1, x2, x3, x4, x5, y0, y1, y2, y3, h5⟩ := h; exact y1
theorem rdx6_4_2 {N : Nat} {w0 w : World} {p0 p1 p2 p3 p4 p5 : Addr} {c0 c1 c2 c3 c4 c5 : Value} {b0 : Nat} {v0 : Value} {z0 : List Int} {b1 : Nat} {v1 : Value} {z1 : List Int} {b2 : Nat} {v2 : Value} {z2 : List Int} {b3 : Nat} {v3 : Value} {z3 : List Int} (h : Below N w0 w ∧ w.cell? p0 = some c0 ∧ w.cell? p1 = some c1 ∧ w.cell? p2 = some c2 ∧ w.cell? p3 = some c3 ∧ w.cell? p4 = some c4 ∧ w.cell? p5 = some c5 ∧ Rd w b0 v0 z0 ∧ Rd w b1 v1 z1 ∧ Rd w b2 v2 z2 ∧ Rd w b3 v3 z3 ∧ N ≤ w.heap.size) : Rd w b2 v2 z2 := by obtain ⟨h0, x0, x1, x2, x3, x4, x5, y0, y1, y2, y3, h5⟩ := h; exact y2
theorem rdx6_4_3 {N : Nat} {w0 w : World} {p0 p1 p2 p3 p4 p5 : Addr} {c0 c1 c2 c3 c4 c5 : Value} {b0 : Nat} {v0 : Value} {z0 : List Int} {b1 : Nat} {v1 : Value} {z1 : List Int} {b2 : Nat} {v2 : Value} {z2 : List Int} {b3 : Nat} {v3 : Value} {z3 : List Int} (h : Below N w0 w ∧ w.cell? p0 = some c0 ∧ w.cell? p1 = some c1 ∧ w.cell? p2 = some c2 ∧ w.cell? p3 = some c3 ∧ w.cell? p4 = some c4 ∧ w.cell? p5 = some c5 ∧ Rd w b0 v0 z0 ∧ Rd w b1 v1 z1 ∧ Rd w b2 v2 z2 ∧ Rd w b3 v3 z3 ∧ N ≤ w.heap.size) : Rd w b3 v3 z3 := by obtain ⟨h0, x0, x1, x2, x3, x4, x5, y0, y1, y2, y3, h5⟩ := h; exact y3
theorem nx8_4 {N : Nat} {w0 w w' : World} {p0 p1 p2 p3 p4 p5 p6 p7 : Addr} {c0 c1 c2 c3 c4 c5 c6 c7 : Value} {b0 : Nat} {v0 : Value} {z0 : List Int} {b1 : Nat} {v1 : Value} {z1 : List Int} {b2 : Nat} {v2 : Value} {z2 : List Int} {b3 : Nat} {v3 : Value} {z3 : List Int} (bel : Below w.heap.size w w') (h : Below N w0 w ∧ w.cell? p0 = some c0 ∧ w.cell? p1 = some c1 ∧ w.cell? p2 = some c2 ∧ w.cell? p3 = some c3 ∧ w.cell? p4 = some c4 ∧ w.cell? p5 = some c5 ∧ w.cell? p6 = some c6 ∧ w.cell? p7 = some c7 ∧ Rd w b0 v0 z0 ∧ Rd w b1 v1 z1 ∧ Rd w b2 v2 z2 ∧ Rd w b3 v3 z3 ∧ N ≤ w.heap.size) : Below N w0 w' ∧ w'.cell? p0 = some c0 ∧ w'.cell? p1 = some c1 ∧ w'.cell? p2 = some c2 ∧ w'.cell? p3 = some c3 ∧ w'.cell? p4 = some c4 ∧ w'.cell? p5 = some c5 ∧ w'.cell? p6 = some c6 ∧ w'.cell? p7 = some c7 ∧ Rd w' b0 v0 z0 ∧ Rd w' b1 v1 z1 ∧ Rd w' b2 v2 z2 ∧ Rd w' b3 v3 z3 ∧ N ≤ w'.heap.size := by obtain ⟨h0, x0, x1, x2, x3, x4, x5, x6, x7, y0, y1, y2, y3, h5⟩ := h; exact ⟨h0.trans (bel.mono h5), cell_keep bel x0, cell_keep bel x1, cell_keep bel x2, cell_keep bel x3, cell_keep bel x4, cell_keep bel x5, cell_keep bel x6, cell_keep bel x7, y0.keep bel (Nat.le_refl _), y1.keep bel (Nat.le_refl _), y2.keep bel (Nat.le_refl _), y3.keep bel (Nat.le_refl _), Nat.le_trans h5 bel.size⟩
theorem drw8_4 {N : Nat} {w0 w : World} {p0 p1 p2 p3 p4 p5 p6 p7 : Addr} {c0 c1 c2 c3 c4 c5 c6 c7 : Value} {b0 : Nat} {v0 : Value} {z0 : List Int} {b1 : Nat} {v1 : Value} {z1 : List Int} {b2 : Nat} {v2 : Value} {z2 : List Int} {b3 : Nat} {v3 : Value} {z3 : List Int} (h : Below N w0 w ∧ w.cell? p0 = some c0 ∧ w.cell? p1 = some c1 ∧ w.cell? p2 = some c2 ∧ w.cell? p3 = some c3 ∧ w.cell? p4 = some c4 ∧ w.cell? p5 = some c5 ∧ w.cell? p6 = some c6 ∧ w.cell? p7 = some c7 ∧ Rd w b0 v0 z0 ∧ Rd w b1 v1 z1 ∧ Rd w b2 v2 z2 ∧ Rd w b3 v3 z3 ∧ N ≤ w.heap.size) : Below N w0 w.drew ∧ w.drew.cell? p0 = some c0 ∧ w.drew.cell? p1 = some c1 ∧ w.drew.cell? p2 = some c2 ∧ w.drew.cell? p3 = some c3 ∧ w.drew.cell? p4 = some c4 ∧ w.drew.cell? p5 = some c5 ∧ w.drew.cell? p6 = some c6 ∧ w.drew.cell? p7 = some c7 ∧ Rd w.drew b0 v0 z0 ∧ Rd w.drew b1 v1 z1 ∧ Rd w.drew b2 v2 z2 ∧ Rd w.drew b3 v3 z3 ∧ N ≤ w.drew.heap.size := by obtain ⟨h0, x0, x1, x2, x3, x4, x5, x6, x7, y0, y1, y2, y3, h5⟩ := h; exact ⟨h0.drew, x0, x1, x2, x3, x4, x5, x6, x7, y0, y1, y2, y3, h5⟩
theorem rdx8_4_0 {N : Nat} {w0 w : World} {p0 p1 p2 p3 p4 p5 p6 p7 : Addr} {c0 c1 c2 c3 c4 c5 c6 c7 : Value} {b0 : Nat} {v0 : Value} {z0 : List Int} {b1 : Nat} {v1 : Value} {z1 : List Int} {b2 : Nat} {v2 : Value} {z2 : List Int} {b3 : Nat} {v3 : Value} {z3 : List Int} (h : Below N w0 w ∧ w.cell? p0 = some c0 ∧ w.cell? p1 = some c1 ∧ w.cell? p2 = some c2 ∧ w.cell? p3 = some c3 ∧ w.cell? p4 = some c4 ∧ w.cell? p5 = some c5 ∧ w.cell? p6 = some c6 ∧ w.cell? p7 = some c7 ∧ Rd w b0 v0 z0 ∧ Rd w b1 v1 z1 ∧ Rd w b2 v2 z2 ∧ Rd w b3 v3 z3 ∧ N ≤ w.heap.size) : Rd w b0 v0 z0 := by obtain ⟨h0, x0, x1, x2, x3, x4, x5, x6, x7, y0, y1, y2, y3, h5⟩ := h; exact y0
theorem rdx8_4_1 {N : Nat} {w0 w : World} {p0 p1 p2 p3 p4 p5 p6 p7 : Addr} {c0 c1 c2 c3 c4 c5 c6 c7 : Value} {b0 : Nat} {v0 : Value} {z0 : List Int} {b1 : Nat} {v1 : Value} {z1 : List Int} {b2 : Nat} {v2 : Value} {z2 : List Int} {b3 : Nat} {v3 : Value} {z3 : List Int} (h : Below N w0 w ∧ w.cell? p0 = some c0 ∧ w.cell? p1 = some c1 ∧ w.cell? p2 = some c2 ∧ w.cell? p3 = some c3 ∧ w.cell? p4 = some c4 ∧ w.cell? p5 = some c5 ∧ w.cell? p6 = some c6 ∧ w.cell? p7 = some c7 ∧ Rd w b0 v0 z0 ∧ Rd w b1 v1 z1 ∧ Rd w b2 v2 z2 ∧ Rd w b3 v3 z3 ∧ N ≤ w.heap.size) : Rd w b1 v1 z1 := by obtain ⟨h0, x0, x1, x2, x3, x4, x5, x6, x7, y0, y1, y2, y3, h5⟩ := h; exact y1
theorem rdx8_4_2 {N : Nat} {w0 w : World} {p0 p1 p2 p3 p4 p5 p6 p7 : Addr} {c0 c1 c2 c3 c4 c5 c6 c7 : Value} {b0 : Nat} {v0 : Value} {z0 : List Int} {b1 : Nat} {v1 : Value} {z1 : List Int} {b2 : Nat} {v2 : Value} {z2 : List Int} {b3 : Nat} {v3 : Value} {z3 : List Int} (h : Below N w0 w ∧ w.cell? p0 = some c0 ∧ w.cell? p1 = some c1 ∧ w.cell? p2 = some c2 ∧ w.cell? p3 = some c3 ∧ w.cell? p4 = some c4 ∧ w.cell? p5 = some c5 ∧ w.cell? p6 = some c6 ∧ w.cell? p7 = some c7 ∧ Rd w b0 v0 z0 ∧ Rd w b1 v1 z1 ∧ Rd w b2 v2 z2 ∧ Rd w b3 v3 z3 ∧ N ≤ w.heap.size) : Rd w b2 v2 z2 := by obtain ⟨h0, x0, x1, x2, x3, x4, x5, x6, x7, y0, y1, y2, y3, h5⟩ := h; exact y2
theorem rdx8_4_3 {N : Nat} {w0 w : World} {p0 p1 p2 p3 p4 p5 p6 p7 : Addr} {c0 c1 c2 c3 c4 c5 c6 c7 : Value} {b0 : Nat} {v0 : Value} {z0 : List Int} {b1 : Nat} {v1 : Value} {z1 : List Int} {b2 : Nat} {v2 : Value} {z2 : List Int} {b3 : Nat} {v3 : Value} {z3 : List Int} (h : Below N w0 w ∧ w.cell? p0 = some c0 ∧ w.cell? p1 = some c1 ∧ w.cell? p2 = some c2 ∧ w.cell? p3 = some c3 ∧ w.cell? p4 = some c4 ∧ w.cell? p5 = some c5 ∧ w.cell? p6 = some c6 ∧ w.cell? p7 = some c7 ∧ Rd w b0 v0 z0 ∧ Rd w b1 v1 z1 ∧ Rd w b2 v2 z2 ∧ Rd w b3 v3 z3 ∧ N ≤ w.heap.size) : Rd w b3 v3 z3 := by obtain ⟨h0, x0, x1, x2, x3, x4, x5, x6, x7, y0, y1, y2, y3, h5⟩ := h; exact y3

set_option maxHeartbeats 16000000 in
theorem walk {w : World} {b0x : Nat} {v0x : Value} {z0x : List Int} (h0x : Rd w b0x v0x z0x) {b0y : Nat} {v0y : Value} {z0y : List Int} (h0y : Rd w b0y v0y z0y) {b1x : Nat} {v1x : Value} {z1x : List Int} (h1x : Rd w b1x v1x z1x) {b1y : Nat} {v1y : Value} {z1y : List Int} (h1y : Rd w b1y v1y z1y) :
    Calls Try.prog 9 #[lifeV v0x v0y, lifeV v1x v1y] w fun e w' => e = .returned (.bool true) ∧ Below w.heap.size w w' := by
  obtain ⟨ao0x, cap0x, e0x, kc0x, mc0x, _⟩ := id h0x
  have H0x : Hid (Rd w b0x v0x z0x) := h0x
  subst e0x; clear h0x
  have nb0x : z0x.length ≤ 9223372036854775807 := by unfold maxLen at mc0x; omega
  clear kc0x mc0x
  obtain ⟨ao0y, cap0y, e0y, kc0y, mc0y, _⟩ := id h0y
  have H0y : Hid (Rd w b0y v0y z0y) := h0y
  subst e0y; clear h0y
  have nb0y : z0y.length ≤ 9223372036854775807 := by unfold maxLen at mc0y; omega
  clear kc0y mc0y
  obtain ⟨ao1x, cap1x, e1x, kc1x, mc1x, _⟩ := id h1x
  have H1x : Hid (Rd w b1x v1x z1x) := h1x
  subst e1x; clear h1x
  have nb1x : z1x.length ≤ 9223372036854775807 := by unfold maxLen at mc1x; omega
  clear kc1x mc1x
  obtain ⟨ao1y, cap1y, e1y, kc1y, mc1y, _⟩ := id h1y
  have H1y : Hid (Rd w b1y v1y z1y) := h1y
  subst e1y; clear h1y
  have nb1y : z1y.length ≤ 9223372036854775807 := by unfold maxLen at mc1y; omega
  clear kc1y mc1y
  by_cases hs0 : (z0x.length : Int) + (z0y.length : Int) ≤ 1048576
  rotate_left 1
  · go_enter Try.func9, Try.ntmps9
    go_wp2_with fail
    obtain ⟨w1, hW⟩ : ∃ w1, w1 = ((w.alloc (Obj.cells #[(Value.slice ao0x z0x.length cap0x), (Value.slice ao0y z0y.length cap0y)] 41)).alloc (Obj.cells #[(Value.slice ao1x z1x.length cap1x), (Value.slice ao1y z1y.length cap1y)] 41)) := ⟨_, rfl⟩
    obtain ⟨N0, hN0⟩ : ∃ N0, N0 = w.heap.size := ⟨_, rfl⟩
    obtain ⟨N1, hN1⟩ : ∃ N1, N1 = N0 + 1 := ⟨_, rfl⟩
    have st : Below w.heap.size w w1 ∧ w1.cell? ⟨N0, 0, none⟩ = some ((Value.slice ao0x z0x.length cap0x)) ∧ w1.cell? ⟨N0, 1, none⟩ = some ((Value.slice ao0y z0y.length cap0y)) ∧ w1.cell? ⟨N1, 0, none⟩ = some ((Value.slice ao1x z1x.length cap1x)) ∧ w1.cell? ⟨N1, 1, none⟩ = some ((Value.slice ao1y z1y.length cap1y)) ∧ Rd w1 b0x (Value.slice ao0x z0x.length cap0x) z0x ∧ Rd w1 b0y (Value.slice ao0y z0y.length cap0y) z0y ∧ Rd w1 b1x (Value.slice ao1x z1x.length cap1x) z1x ∧ Rd w1 b1y (Value.slice ao1y z1y.length cap1y) z1y ∧ w.heap.size ≤ w1.heap.size := by
      rw [hW, hN1, hN0]
      exact ⟨Go.Joins.below_alloc2 _ _ _, by simp, by simp, by simp, by simp, H0x.out.keep (Go.Joins.below_alloc2 _ _ _) (Nat.le_refl _), H0y.out.keep (Go.Joins.below_alloc2 _ _ _) (Nat.le_refl _), H1x.out.keep (Go.Joins.below_alloc2 _ _ _) (Nat.le_refl _), H1y.out.keep (Go.Joins.below_alloc2 _ _ _) (Nat.le_refl _), by simp <;> omega⟩
    simp only [← hW, ← hN0, ← hN1]
    clear hW hN0 hN1
    go_at_call 30
    refine (szL_no nb0x nb0y (q := 1048576) (by omega) (by omega) (by omega)).mono ?_
    rintro e w2 ⟨rfl, bel⟩
    replace st := nx4_4 bel st
    clear bel
    go_wp2
    go_ret
    exact ⟨rfl, st.1⟩
  by_cases hs1 : (z1x.length : Int) + (z1y.length : Int) ≤ 1048576 - (z0x.length : Int) - (z0y.length : Int)
  rotate_left 1
  · go_enter Try.func9, Try.ntmps9
    go_wp2_with fail
    obtain ⟨w1, hW⟩ : ∃ w1, w1 = ((w.alloc (Obj.cells #[(Value.slice ao0x z0x.length cap0x), (Value.slice ao0y z0y.length cap0y)] 41)).alloc (Obj.cells #[(Value.slice ao1x z1x.length cap1x), (Value.slice ao1y z1y.length cap1y)] 41)) := ⟨_, rfl⟩
    obtain ⟨N0, hN0⟩ : ∃ N0, N0 = w.heap.size := ⟨_, rfl⟩
    obtain ⟨N1, hN1⟩ : ∃ N1, N1 = N0 + 1 := ⟨_, rfl⟩
    have st : Below w.heap.size w w1 ∧ w1.cell? ⟨N0, 0, none⟩ = some ((Value.slice ao0x z0x.length cap0x)) ∧ w1.cell? ⟨N0, 1, none⟩ = some ((Value.slice ao0y z0y.length cap0y)) ∧ w1.cell? ⟨N1, 0, none⟩ = some ((Value.slice ao1x z1x.length cap1x)) ∧ w1.cell? ⟨N1, 1, none⟩ = some ((Value.slice ao1y z1y.length cap1y)) ∧ Rd w1 b0x (Value.slice ao0x z0x.length cap0x) z0x ∧ Rd w1 b0y (Value.slice ao0y z0y.length cap0y) z0y ∧ Rd w1 b1x (Value.slice ao1x z1x.length cap1x) z1x ∧ Rd w1 b1y (Value.slice ao1y z1y.length cap1y) z1y ∧ w.heap.size ≤ w1.heap.size := by
      rw [hW, hN1, hN0]
      exact ⟨Go.Joins.below_alloc2 _ _ _, by simp, by simp, by simp, by simp, H0x.out.keep (Go.Joins.below_alloc2 _ _ _) (Nat.le_refl _), H0y.out.keep (Go.Joins.below_alloc2 _ _ _) (Nat.le_refl _), H1x.out.keep (Go.Joins.below_alloc2 _ _ _) (Nat.le_refl _), H1y.out.keep (Go.Joins.below_alloc2 _ _ _) (Nat.le_refl _), by simp <;> omega⟩
    simp only [← hW, ← hN0, ← hN1]
    clear hW hN0 hN1
    go_at_call 30
    refine (szL_ok nb0x nb0y (q := 1048576) (by omega) (by omega) (by omega)).mono ?_
    rintro e w2 ⟨rfl, bel⟩
    replace st := nx4_4 bel st
    clear bel
    go_wp2_with fail
    go_at_call 30
    refine (szL_no nb1x nb1y (q := 1048576 - (z0x.length : Int) - (z0y.length : Int)) (by omega) (by omega) (by omega)).mono ?_
    rintro e w3 ⟨rfl, bel⟩
    replace st := nx4_4 bel st
    clear bel
    go_wp2
    go_ret
    exact ⟨rfl, st.1⟩
  have hl0x : z0x.length ≤ 1048576 := by omega
  have HL0x : Hid (z0x.length ≤ 1048576) := hl0x
  have hl0y : z0y.length ≤ 1048576 := by omega
  have HL0y : Hid (z0y.length ≤ 1048576) := hl0y
  have hl1x : z1x.length ≤ 1048576 := by omega
  have HL1x : Hid (z1x.length ≤ 1048576) := hl1x
  have hl1y : z1y.length ≤ 1048576 := by omega
  have HL1y : Hid (z1y.length ≤ 1048576) := hl1y
  obtain ⟨q0, hspec, himpl⟩ := agree z0x z0y z1x z1y hl0x hl0y hl1x hl1y
  have HSp := hid @hspec
  have HIm := hid @himpl
  clear hspec himpl hl0x hl0y hl1x hl1y
  go_enter Try.func9, Try.ntmps9
  go_wp2_with fail
  obtain ⟨w1, hW⟩ : ∃ w1, w1 = ((w.alloc (Obj.cells #[(Value.slice ao0x z0x.length cap0x), (Value.slice ao0y z0y.length cap0y)] 41)).alloc (Obj.cells #[(Value.slice ao1x z1x.length cap1x), (Value.slice ao1y z1y.length cap1y)] 41)) := ⟨_, rfl⟩
  obtain ⟨N0, hN0⟩ : ∃ N0, N0 = w.heap.size := ⟨_, rfl⟩
  obtain ⟨N1, hN1⟩ : ∃ N1, N1 = N0 + 1 := ⟨_, rfl⟩
  have st : Below w.heap.size w w1 ∧ w1.cell? ⟨N0, 0, none⟩ = some ((Value.slice ao0x z0x.length cap0x)) ∧ w1.cell? ⟨N0, 1, none⟩ = some ((Value.slice ao0y z0y.length cap0y)) ∧ w1.cell? ⟨N1, 0, none⟩ = some ((Value.slice ao1x z1x.length cap1x)) ∧ w1.cell? ⟨N1, 1, none⟩ = some ((Value.slice ao1y z1y.length cap1y)) ∧ Rd w1 b0x (Value.slice ao0x z0x.length cap0x) z0x ∧ Rd w1 b0y (Value.slice ao0y z0y.length cap0y) z0y ∧ Rd w1 b1x (Value.slice ao1x z1x.length cap1x) z1x ∧ Rd w1 b1y (Value.slice ao1y z1y.length cap1y) z1y ∧ w.heap.size ≤ w1.heap.size := by
    rw [hW, hN1, hN0]
    exact ⟨Go.Joins.below_alloc2 _ _ _, by simp, by simp, by simp, by simp, H0x.out.keep (Go.Joins.below_alloc2 _ _ _) (Nat.le_refl _), H0y.out.keep (Go.Joins.below_alloc2 _ _ _) (Nat.le_refl _), H1x.out.keep (Go.Joins.below_alloc2 _ _ _) (Nat.le_refl _), H1y.out.keep (Go.Joins.below_alloc2 _ _ _) (Nat.le_refl _), by simp <;> omega⟩
  simp only [← hW, ← hN0, ← hN1]
  clear hW hN0 hN1
  go_at_call 30
  refine (szL_ok nb0x nb0y (q := 1048576) (by omega) (by omega) (by omega)).mono ?_
  rintro e w2 ⟨rfl, bel⟩
  replace st := nx4_4 bel st
  clear bel
  go_wp2_with fail
  go_at_call 30
  refine (szL_ok nb1x nb1y (q := 1048576 - (z0x.length : Int) - (z0y.length : Int)) (by omega) (by omega) (by omega)).mono ?_
  rintro e w3 ⟨rfl, bel⟩
  replace st := nx4_4 bel st
  clear bel
  go_wp2_with fail
  refine wp_region_held_drew (S := (fun ww => Below w.heap.size w ww ∧ ww.cell? ⟨N0, 0, none⟩ = some ((Value.slice ao0x z0x.length cap0x)) ∧ ww.cell? ⟨N0, 1, none⟩ = some ((Value.slice ao0y z0y.length cap0y)) ∧ ww.cell? ⟨N1, 0, none⟩ = some ((Value.slice ao1x z1x.length cap1x)) ∧ ww.cell? ⟨N1, 1, none⟩ = some ((Value.slice ao1y z1y.length cap1y)) ∧ Rd ww b0x (Value.slice ao0x z0x.length cap0x) z0x ∧ Rd ww b0y (Value.slice ao0y z0y.length cap0y) z0y ∧ Rd ww b1x (Value.slice ao1x z1x.length cap1x) z1x ∧ Rd ww b1y (Value.slice ao1y z1y.length cap1y) z1y ∧ w.heap.size ≤ ww.heap.size)) (by kernel_rfl) ?_ (fun hHeld => ?_)
  · ((try dsimp only); exact drw4_4 st)
  first | (refine wpAnyH_take (i := 0) (v := ?_) rfl ?_ ?_ ?_ (fun _ _ _ h => h) (Or.inl ⟨?_, ?_⟩) ?_ ?_; rotate_left 1; (focus decide +kernel); (focus decide +kernel); (focus decide +kernel); (focus rfl); (focus (intro w hSw; (try dsimp only at hSw); go_simp; (try (with_reducible rfl)); done)); (focus assumption); (try simp only [Act.put, List.setIfInBounds_toArray, List.set_cons_zero, List.set_cons_succ, List.getElem_toArray, List.getElem_cons_succ, List.getElem_cons_zero])) | (refine wpAnyH_take (i := 0) (v := undef) rfl ?_ ?_ ?_ (fun _ _ _ h => h) (Or.inr ⟨?_, rfl⟩) ?_ ?_; (focus decide +kernel); (focus decide +kernel); (focus decide +kernel); (focus rfl); (focus assumption); (try simp only [Act.put, List.setIfInBounds_toArray, List.set_cons_zero, List.set_cons_succ, List.getElem_toArray, List.getElem_cons_succ, List.getElem_cons_zero])) | skip
  first | (refine wpAnyH_take (i := 2) (v := ?_) rfl ?_ ?_ ?_ (fun _ _ _ h => h) (Or.inl ⟨?_, ?_⟩) ?_ ?_; rotate_left 1; (focus decide +kernel); (focus decide +kernel); (focus decide +kernel); (focus rfl); (focus (intro w hSw; (try dsimp only at hSw); go_simp; (try (with_reducible rfl)); done)); (focus assumption); (try simp only [Act.put, List.setIfInBounds_toArray, List.set_cons_zero, List.set_cons_succ, List.getElem_toArray, List.getElem_cons_succ, List.getElem_cons_zero])) | (refine wpAnyH_take (i := 2) (v := undef) rfl ?_ ?_ ?_ (fun _ _ _ h => h) (Or.inr ⟨?_, rfl⟩) ?_ ?_; (focus decide +kernel); (focus decide +kernel); (focus decide +kernel); (focus rfl); (focus assumption); (try simp only [Act.put, List.setIfInBounds_toArray, List.set_cons_zero, List.set_cons_succ, List.getElem_toArray, List.getElem_cons_succ, List.getElem_cons_zero])) | skip
  first | (refine wpAnyH_take (i := 5) (v := ?_) rfl ?_ ?_ ?_ (fun _ _ _ h => h) (Or.inl ⟨?_, ?_⟩) ?_ ?_; rotate_left 1; (focus decide +kernel); (focus decide +kernel); (focus decide +kernel); (focus rfl); (focus (intro w hSw; (try dsimp only at hSw); go_simp; (try (with_reducible rfl)); done)); (focus assumption); (try simp only [Act.put, List.setIfInBounds_toArray, List.set_cons_zero, List.set_cons_succ, List.getElem_toArray, List.getElem_cons_succ, List.getElem_cons_zero])) | (refine wpAnyH_take (i := 5) (v := undef) rfl ?_ ?_ ?_ (fun _ _ _ h => h) (Or.inr ⟨?_, rfl⟩) ?_ ?_; (focus decide +kernel); (focus decide +kernel); (focus decide +kernel); (focus rfl); (focus assumption); (try simp only [Act.put, List.setIfInBounds_toArray, List.set_cons_zero, List.set_cons_succ, List.getElem_toArray, List.getElem_cons_succ, List.getElem_cons_zero])) | skip
  first | (refine wpAnyH_take (i := 1) (v := undef) rfl ?_ ?_ ?_ (fun _ _ _ h => h) (Or.inr ⟨?_, rfl⟩) ?_ ?_; (focus decide +kernel); (focus decide +kernel); (focus decide +kernel); (focus rfl); (focus assumption); (try simp only [Act.put, List.setIfInBounds_toArray, List.set_cons_zero, List.set_cons_succ, List.getElem_toArray, List.getElem_cons_succ, List.getElem_cons_zero])) | (refine wpAnyH_ready (rs := [1]) ?_ (by simp) ?_; (focus decide +kernel); refine AllReadyH.cons rfl (fun K hK => ?_) AllReadyH.nil; go_simp; (go_at_call 32; refine (toL (rdx4_4_0 hHeld) (rdx4_4_1 hHeld) HL0x.out HL0y.out).mono ?_; rintro e w4 ⟨bp0x, bp0y, rfl, op0x, op0y, lo, lt, bel⟩; clear lo lt); refine hK.out _ _ ?_ (fun hHeld => ?_); ((try dsimp only); exact nx4_4 bel hHeld); clear hK K; (try simp only [Act.put, List.setIfInBounds_toArray, List.set_cons_zero, List.set_cons_succ, List.getElem_toArray, List.getElem_cons_succ, List.getElem_cons_zero]))
  first | (refine wpAnyH_take (i := 2) (v := ?_) rfl ?_ ?_ ?_ (fun _ _ _ h => h) (Or.inl ⟨?_, ?_⟩) ?_ ?_; rotate_left 1; (focus decide +kernel); (focus decide +kernel); (focus decide +kernel); (focus rfl); (focus (intro w hSw; (try dsimp only at hSw); go_simp; (try (with_reducible rfl)); done)); (focus assumption); (try simp only [Act.put, List.setIfInBounds_toArray, List.set_cons_zero, List.set_cons_succ, List.getElem_toArray, List.getElem_cons_succ, List.getElem_cons_zero])) | (refine wpAnyH_take (i := 2) (v := undef) rfl ?_ ?_ ?_ (fun _ _ _ h => h) (Or.inr ⟨?_, rfl⟩) ?_ ?_; (focus decide +kernel); (focus decide +kernel); (focus decide +kernel); (focus rfl); (focus assumption); (try simp only [Act.put, List.setIfInBounds_toArray, List.set_cons_zero, List.set_cons_succ, List.getElem_toArray, List.getElem_cons_succ, List.getElem_cons_zero])) | skip
  first | (refine wpAnyH_take (i := 5) (v := ?_) rfl ?_ ?_ ?_ (fun _ _ _ h => h) (Or.inl ⟨?_, ?_⟩) ?_ ?_; rotate_left 1; (focus decide +kernel); (focus decide +kernel); (focus decide +kernel); (focus rfl); (focus (intro w hSw; (try dsimp only at hSw); go_simp; (try (with_reducible rfl)); done)); (focus assumption); (try simp only [Act.put, List.setIfInBounds_toArray, List.set_cons_zero, List.set_cons_succ, List.getElem_toArray, List.getElem_cons_succ, List.getElem_cons_zero])) | (refine wpAnyH_take (i := 5) (v := undef) rfl ?_ ?_ ?_ (fun _ _ _ h => h) (Or.inr ⟨?_, rfl⟩) ?_ ?_; (focus decide +kernel); (focus decide +kernel); (focus decide +kernel); (focus rfl); (focus assumption); (try simp only [Act.put, List.setIfInBounds_toArray, List.set_cons_zero, List.set_cons_succ, List.getElem_toArray, List.getElem_cons_succ, List.getElem_cons_zero])) | skip
  first | (refine wpAnyH_take (i := 3) (v := undef) rfl ?_ ?_ ?_ (fun _ _ _ h => h) (Or.inr ⟨?_, rfl⟩) ?_ ?_; (focus decide +kernel); (focus decide +kernel); (focus decide +kernel); (focus rfl); (focus assumption); (try simp only [Act.put, List.setIfInBounds_toArray, List.set_cons_zero, List.set_cons_succ, List.getElem_toArray, List.getElem_cons_succ, List.getElem_cons_zero])) | (refine wpAnyH_ready (rs := [3]) ?_ (by simp) ?_; (focus decide +kernel); refine AllReadyH.cons rfl (fun K hK => ?_) AllReadyH.nil; go_simp; (go_at_call 32; refine (toL (rdx4_4_2 hHeld) (rdx4_4_3 hHeld) HL1x.out HL1y.out).mono ?_; rintro e w5 ⟨bp1x, bp1y, rfl, op1x, op1y, lo, lt, bel⟩; clear lo lt; replace op0x := op0x.keep bel; replace op0y := op0y.keep bel); refine hK.out _ _ ?_ (fun hHeld => ?_); ((try dsimp only); exact nx4_4 bel hHeld); clear hK K; (try simp only [Act.put, List.setIfInBounds_toArray, List.set_cons_zero, List.set_cons_succ, List.getElem_toArray, List.getElem_cons_succ, List.getElem_cons_zero]))
  first | (refine wpAnyH_take (i := 5) (v := ?_) rfl ?_ ?_ ?_ (fun _ _ _ h => h) (Or.inl ⟨?_, ?_⟩) ?_ ?_; rotate_left 1; (focus decide +kernel); (focus decide +kernel); (focus decide +kernel); (focus rfl); (focus (intro w hSw; (try dsimp only at hSw); go_simp; (try (with_reducible rfl)); done)); (focus assumption); (try simp only [Act.put, List.setIfInBounds_toArray, List.set_cons_zero, List.set_cons_succ, List.getElem_toArray, List.getElem_cons_succ, List.getElem_cons_zero])) | (refine wpAnyH_take (i := 5) (v := undef) rfl ?_ ?_ ?_ (fun _ _ _ h => h) (Or.inr ⟨?_, rfl⟩) ?_ ?_; (focus decide +kernel); (focus decide +kernel); (focus decide +kernel); (focus rfl); (focus assumption); (try simp only [Act.put, List.setIfInBounds_toArray, List.set_cons_zero, List.set_cons_succ, List.getElem_toArray, List.getElem_cons_succ, List.getElem_cons_zero])) | skip
  first | (refine wpAnyH_take (i := 4) (v := undef) rfl ?_ ?_ ?_ (fun _ _ _ h => h) (Or.inr ⟨?_, rfl⟩) ?_ ?_; (focus decide +kernel); (focus decide +kernel); (focus decide +kernel); (focus rfl); (focus assumption); (try simp only [Act.put, List.setIfInBounds_toArray, List.set_cons_zero, List.set_cons_succ, List.getElem_toArray, List.getElem_cons_succ, List.getElem_cons_zero])) | (refine wpAnyH_ready (rs := [4]) ?_ (by simp) ?_; (focus decide +kernel); refine AllReadyH.cons rfl (fun K hK => ?_) AllReadyH.nil; go_simp; (go_at_call 35; refine (HSp.out _ _ _ op0x.rd _ _ op0y.rd _ _ op1x.rd _ _ op1y.rd).mono ?_; rintro e w6 ⟨rfl, bel⟩; clear op0x op0y op1x op1y); refine hK.out _ _ ?_ (fun hHeld => ?_); ((try dsimp only); exact nx4_4 bel hHeld); clear hK K; (try simp only [Act.put, List.setIfInBounds_toArray, List.set_cons_zero, List.set_cons_succ, List.getElem_toArray, List.getElem_cons_succ, List.getElem_cons_zero]))
  first | (refine wpAnyH_take (i := 5) (v := ?_) rfl ?_ ?_ ?_ (fun _ _ _ h => h) (Or.inl ⟨?_, ?_⟩) ?_ ?_; rotate_left 1; (focus decide +kernel); (focus decide +kernel); (focus decide +kernel); (focus rfl); (focus (intro w hSw; (try dsimp only at hSw); go_simp; (try (with_reducible rfl)); done)); (focus assumption); (try simp only [Act.put, List.setIfInBounds_toArray, List.set_cons_zero, List.set_cons_succ, List.getElem_toArray, List.getElem_cons_succ, List.getElem_cons_zero])) | (refine wpAnyH_take (i := 5) (v := undef) rfl ?_ ?_ ?_ (fun _ _ _ h => h) (Or.inr ⟨?_, rfl⟩) ?_ ?_; (focus decide +kernel); (focus decide +kernel); (focus decide +kernel); (focus rfl); (focus assumption); (try simp only [Act.put, List.setIfInBounds_toArray, List.set_cons_zero, List.set_cons_succ, List.getElem_toArray, List.getElem_cons_succ, List.getElem_cons_zero])) | skip
  refine wpAnyH_done (by kernel_rfl) ?_ _
  clear st; have st := hHeld; clear hHeld
  go_wp2_with fail
  go_at_call 32
  refine (toL (rdx4_4_0 st) (rdx4_4_1 st) HL0x.out HL0y.out).mono ?_
  rintro e w7 ⟨bx0x, bx0y, rfl, ox0x, ox0y, lo, lt, bel⟩
  replace st := nx4_4 bel st
  clear bel
  clear lo lt
  obtain ⟨w9, hW⟩ : ∃ w9, w9 = w7.alloc (Obj.cells #[(Value.slice (some ⟨bx0x, 0, none⟩) z0x.length z0x.length), (Value.slice (some ⟨bx0y, 0, none⟩) z0y.length z0y.length)] 44) := ⟨_, rfl⟩
  obtain ⟨NX0, hN⟩ : ∃ NX0, NX0 = w7.heap.size := ⟨_, rfl⟩
  have bel : Below w7.heap.size w7 w9 := by rw [hW]; exact Rule.below1 _ _
  have st' : Below w.heap.size w w9 ∧ w9.cell? ⟨N0, 0, none⟩ = some ((Value.slice ao0x z0x.length cap0x)) ∧ w9.cell? ⟨N0, 1, none⟩ = some ((Value.slice ao0y z0y.length cap0y)) ∧ w9.cell? ⟨N1, 0, none⟩ = some ((Value.slice ao1x z1x.length cap1x)) ∧ w9.cell? ⟨N1, 1, none⟩ = some ((Value.slice ao1y z1y.length cap1y)) ∧ w9.cell? ⟨NX0, 0, none⟩ = some ((Value.slice (some ⟨bx0x, 0, none⟩) z0x.length z0x.length)) ∧ w9.cell? ⟨NX0, 1, none⟩ = some ((Value.slice (some ⟨bx0y, 0, none⟩) z0y.length z0y.length)) ∧ Rd w9 b0x (Value.slice ao0x z0x.length cap0x) z0x ∧ Rd w9 b0y (Value.slice ao0y z0y.length cap0y) z0y ∧ Rd w9 b1x (Value.slice ao1x z1x.length cap1x) z1x ∧ Rd w9 b1y (Value.slice ao1y z1y.length cap1y) z1y ∧ w.heap.size ≤ w9.heap.size := by
    obtain ⟨t0, c0, c1, c2, c3, d0, d1, d2, d3, tz⟩ := nx4_4 bel st
    exact ⟨t0, c0, c1, c2, c3, by rw [hW, hN]; simp, by rw [hW, hN]; simp, d0, d1, d2, d3, tz⟩
  replace ox0x := ox0x.keep bel
  replace ox0y := ox0y.keep bel
  clear st bel; have st := st'; clear st'
  have stp := st
  rw [hW, hN] at stp
  go_wp2_with fail
  clear stp
  simp only [← hW, ← hN]
  clear hW hN
  go_at_call 32
  refine (toL (rdx6_4_2 st) (rdx6_4_3 st) HL1x.out HL1y.out).mono ?_
  rintro e w8 ⟨bx1x, bx1y, rfl, ox1x, ox1y, lo, lt, bel⟩
  replace st := nx6_4 bel st
  replace ox0x := ox0x.keep bel
  replace ox0y := ox0y.keep bel
  clear bel
  clear lo lt
  obtain ⟨w11, hW⟩ : ∃ w11, w11 = w8.alloc (Obj.cells #[(Value.slice (some ⟨bx1x, 0, none⟩) z1x.length z1x.length), (Value.slice (some ⟨bx1y, 0, none⟩) z1y.length z1y.length)] 44) := ⟨_, rfl⟩
  obtain ⟨NX1, hN⟩ : ∃ NX1, NX1 = w8.heap.size := ⟨_, rfl⟩
  have bel : Below w8.heap.size w8 w11 := by rw [hW]; exact Rule.below1 _ _
  have st' : Below w.heap.size w w11 ∧ w11.cell? ⟨N0, 0, none⟩ = some ((Value.slice ao0x z0x.length cap0x)) ∧ w11.cell? ⟨N0, 1, none⟩ = some ((Value.slice ao0y z0y.length cap0y)) ∧ w11.cell? ⟨N1, 0, none⟩ = some ((Value.slice ao1x z1x.length cap1x)) ∧ w11.cell? ⟨N1, 1, none⟩ = some ((Value.slice ao1y z1y.length cap1y)) ∧ w11.cell? ⟨NX0, 0, none⟩ = some ((Value.slice (some ⟨bx0x, 0, none⟩) z0x.length z0x.length)) ∧ w11.cell? ⟨NX0, 1, none⟩ = some ((Value.slice (some ⟨bx0y, 0, none⟩) z0y.length z0y.length)) ∧ w11.cell? ⟨NX1, 0, none⟩ = some ((Value.slice (some ⟨bx1x, 0, none⟩) z1x.length z1x.length)) ∧ w11.cell? ⟨NX1, 1, none⟩ = some ((Value.slice (some ⟨bx1y, 0, none⟩) z1y.length z1y.length)) ∧ Rd w11 b0x (Value.slice ao0x z0x.length cap0x) z0x ∧ Rd w11 b0y (Value.slice ao0y z0y.length cap0y) z0y ∧ Rd w11 b1x (Value.slice ao1x z1x.length cap1x) z1x ∧ Rd w11 b1y (Value.slice ao1y z1y.length cap1y) z1y ∧ w.heap.size ≤ w11.heap.size := by
    obtain ⟨t0, c0, c1, c2, c3, c4, c5, d0, d1, d2, d3, tz⟩ := nx6_4 bel st
    exact ⟨t0, c0, c1, c2, c3, c4, c5, by rw [hW, hN]; simp, by rw [hW, hN]; simp, d0, d1, d2, d3, tz⟩
  replace ox0x := ox0x.keep bel
  replace ox0y := ox0y.keep bel
  replace ox1x := ox1x.keep bel
  replace ox1y := ox1y.keep bel
  clear st bel; have st := st'; clear st'
  have stp := st
  rw [hW, hN] at stp
  go_wp2_with fail
  clear stp
  simp only [← hW, ← hN]
  clear hW hN
  go_at_call 36
  refine (HIm.out _ _ _ ox0x.rd _ _ ox0y.rd _ _ ox1x.rd _ _ ox1y.rd).mono ?_
  rintro e w10 ⟨rfl, bel⟩
  replace st := nx8_4 bel st
  replace ox0x := ox0x.keep bel
  replace ox0y := ox0y.keep bel
  replace ox1x := ox1x.keep bel
  replace ox1y := ox1y.keep bel
  clear bel
  go_wp2_with fail
  refine wp_region_held_drew (S := (fun ww => Below w.heap.size w ww ∧ ww.cell? ⟨N0, 0, none⟩ = some ((Value.slice ao0x z0x.length cap0x)) ∧ ww.cell? ⟨N0, 1, none⟩ = some ((Value.slice ao0y z0y.length cap0y)) ∧ ww.cell? ⟨N1, 0, none⟩ = some ((Value.slice ao1x z1x.length cap1x)) ∧ ww.cell? ⟨N1, 1, none⟩ = some ((Value.slice ao1y z1y.length cap1y)) ∧ ww.cell? ⟨NX0, 0, none⟩ = some ((Value.slice (some ⟨bx0x, 0, none⟩) z0x.length z0x.length)) ∧ ww.cell? ⟨NX0, 1, none⟩ = some ((Value.slice (some ⟨bx0y, 0, none⟩) z0y.length z0y.length)) ∧ ww.cell? ⟨NX1, 0, none⟩ = some ((Value.slice (some ⟨bx1x, 0, none⟩) z1x.length z1x.length)) ∧ ww.cell? ⟨NX1, 1, none⟩ = some ((Value.slice (some ⟨bx1y, 0, none⟩) z1y.length z1y.length)) ∧ Rd ww b0x (Value.slice ao0x z0x.length cap0x) z0x ∧ Rd ww b0y (Value.slice ao0y z0y.length cap0y) z0y ∧ Rd ww b1x (Value.slice ao1x z1x.length cap1x) z1x ∧ Rd ww b1y (Value.slice ao1y z1y.length cap1y) z1y ∧ w.heap.size ≤ ww.heap.size)) (by kernel_rfl) ?_ (fun hHeld => ?_)
  · ((try dsimp only); exact drw8_4 st)
  first | (refine wpAnyH_take (i := 0) (v := ?_) rfl ?_ ?_ ?_ (fun _ _ _ h => h) (Or.inl ⟨?_, ?_⟩) ?_ ?_; rotate_left 1; (focus decide +kernel); (focus decide +kernel); (focus decide +kernel); (focus rfl); (focus (intro w hSw; (try dsimp only at hSw); go_simp; (try (with_reducible rfl)); done)); (focus assumption); (try simp only [Act.put, List.setIfInBounds_toArray, List.set_cons_zero, List.set_cons_succ, List.getElem_toArray, List.getElem_cons_succ, List.getElem_cons_zero])) | (refine wpAnyH_take (i := 0) (v := undef) rfl ?_ ?_ ?_ (fun _ _ _ h => h) (Or.inr ⟨?_, rfl⟩) ?_ ?_; (focus decide +kernel); (focus decide +kernel); (focus decide +kernel); (focus rfl); (focus assumption); (try simp only [Act.put, List.setIfInBounds_toArray, List.set_cons_zero, List.set_cons_succ, List.getElem_toArray, List.getElem_cons_succ, List.getElem_cons_zero])) | skip
  first | (refine wpAnyH_take (i := 1) (v := ?_) rfl ?_ ?_ ?_ (fun _ _ _ h => h) (Or.inl ⟨?_, ?_⟩) ?_ ?_; rotate_left 1; (focus decide +kernel); (focus decide +kernel); (focus decide +kernel); (focus rfl); (focus (intro w hSw; (try dsimp only at hSw); go_simp; (try (with_reducible rfl)); done)); (focus assumption); (try simp only [Act.put, List.setIfInBounds_toArray, List.set_cons_zero, List.set_cons_succ, List.getElem_toArray, List.getElem_cons_succ, List.getElem_cons_zero])) | (refine wpAnyH_take (i := 1) (v := undef) rfl ?_ ?_ ?_ (fun _ _ _ h => h) (Or.inr ⟨?_, rfl⟩) ?_ ?_; (focus decide +kernel); (focus decide +kernel); (focus decide +kernel); (focus rfl); (focus assumption); (try simp only [Act.put, List.setIfInBounds_toArray, List.set_cons_zero, List.set_cons_succ, List.getElem_toArray, List.getElem_cons_succ, List.getElem_cons_zero])) | skip
  first | (refine wpAnyH_take (i := 4) (v := ?_) rfl ?_ ?_ ?_ (fun _ _ _ h => h) (Or.inl ⟨?_, ?_⟩) ?_ ?_; rotate_left 1; (focus decide +kernel); (focus decide +kernel); (focus decide +kernel); (focus rfl); (focus (intro w hSw; (try dsimp only at hSw); go_simp; (try (with_reducible rfl)); done)); (focus assumption); (try simp only [Act.put, List.setIfInBounds_toArray, List.set_cons_zero, List.set_cons_succ, List.getElem_toArray, List.getElem_cons_succ, List.getElem_cons_zero])) | (refine wpAnyH_take (i := 4) (v := undef) rfl ?_ ?_ ?_ (fun _ _ _ h => h) (Or.inr ⟨?_, rfl⟩) ?_ ?_; (focus decide +kernel); (focus decide +kernel); (focus decide +kernel); (focus rfl); (focus assumption); (try simp only [Act.put, List.setIfInBounds_toArray, List.set_cons_zero, List.set_cons_succ, List.getElem_toArray, List.getElem_cons_succ, List.getElem_cons_zero])) | skip
  first | (refine wpAnyH_take (i := 2) (v := undef) rfl ?_ ?_ ?_ (fun _ _ _ h => h) (Or.inr ⟨?_, rfl⟩) ?_ ?_; (focus decide +kernel); (focus decide +kernel); (focus decide +kernel); (focus rfl); (focus assumption); (try simp only [Act.put, List.setIfInBounds_toArray, List.set_cons_zero, List.set_cons_succ, List.getElem_toArray, List.getElem_cons_succ, List.getElem_cons_zero])) | (refine wpAnyH_ready (rs := [2]) ?_ (by simp) ?_; (focus decide +kernel); refine AllReadyH.cons rfl (fun K hK => ?_) AllReadyH.nil; go_simp; (go_at_call 32; refine (toL (rdx8_4_0 hHeld) (rdx8_4_1 hHeld) HL0x.out HL0y.out).mono ?_; rintro e w12 ⟨by0x, by0y, rfl, oy0x, oy0y, lo, lt, bel⟩; replace ox0x : Own 2 w10.drew bx0x (Value.slice (some ⟨bx0x, 0, none⟩) z0x.length z0x.length) z0x := ox0x; replace ox0y : Own 2 w10.drew bx0y (Value.slice (some ⟨bx0y, 0, none⟩) z0y.length z0y.length) z0y := ox0y; replace ox1x : Own 2 w10.drew bx1x (Value.slice (some ⟨bx1x, 0, none⟩) z1x.length z1x.length) z1x := ox1x; replace ox1y : Own 2 w10.drew bx1y (Value.slice (some ⟨bx1y, 0, none⟩) z1y.length z1y.length) z1y := ox1y; replace ox0x := ox0x.keep bel; replace ox0y := ox0y.keep bel; replace ox1x := ox1x.keep bel; replace ox1y := ox1y.keep bel; clear lo lt); refine hK.out _ _ ?_ (fun hHeld => ?_); ((try dsimp only); exact nx8_4 bel hHeld); clear hK K; (try simp only [Act.put, List.setIfInBounds_toArray, List.set_cons_zero, List.set_cons_succ, List.getElem_toArray, List.getElem_cons_succ, List.getElem_cons_zero]))
  first | (refine wpAnyH_take (i := 4) (v := ?_) rfl ?_ ?_ ?_ (fun _ _ _ h => h) (Or.inl ⟨?_, ?_⟩) ?_ ?_; rotate_left 1; (focus decide +kernel); (focus decide +kernel); (focus decide +kernel); (focus rfl); (focus (intro w hSw; (try dsimp only at hSw); go_simp; (try (with_reducible rfl)); done)); (focus assumption); (try simp only [Act.put, List.setIfInBounds_toArray, List.set_cons_zero, List.set_cons_succ, List.getElem_toArray, List.getElem_cons_succ, List.getElem_cons_zero])) | (refine wpAnyH_take (i := 4) (v := undef) rfl ?_ ?_ ?_ (fun _ _ _ h => h) (Or.inr ⟨?_, rfl⟩) ?_ ?_; (focus decide +kernel); (focus decide +kernel); (focus decide +kernel); (focus rfl); (focus assumption); (try simp only [Act.put, List.setIfInBounds_toArray, List.set_cons_zero, List.set_cons_succ, List.getElem_toArray, List.getElem_cons_succ, List.getElem_cons_zero])) | skip
  first | (refine wpAnyH_take (i := 3) (v := undef) rfl ?_ ?_ ?_ (fun _ _ _ h => h) (Or.inr ⟨?_, rfl⟩) ?_ ?_; (focus decide +kernel); (focus decide +kernel); (focus decide +kernel); (focus rfl); (focus assumption); (try simp only [Act.put, List.setIfInBounds_toArray, List.set_cons_zero, List.set_cons_succ, List.getElem_toArray, List.getElem_cons_succ, List.getElem_cons_zero])) | (refine wpAnyH_ready (rs := [3]) ?_ (by simp) ?_; (focus decide +kernel); refine AllReadyH.cons rfl (fun K hK => ?_) AllReadyH.nil; go_simp; (go_at_call 34; refine (eqL ox0x.rd ox0y.rd oy0x.rd oy0y.rd).mono ?_; rintro e w13 ⟨rfl, bel⟩; replace ox0x := ox0x.keep bel; replace ox0y := ox0y.keep bel; replace ox1x := ox1x.keep bel; replace ox1y := ox1y.keep bel; clear oy0x oy0y); refine hK.out _ _ ?_ (fun hHeld => ?_); ((try dsimp only); exact nx8_4 bel hHeld); clear hK K; (try simp only [Act.put, List.setIfInBounds_toArray, List.set_cons_zero, List.set_cons_succ, List.getElem_toArray, List.getElem_cons_succ, List.getElem_cons_zero]))
  first | (refine wpAnyH_take (i := 4) (v := ?_) rfl ?_ ?_ ?_ (fun _ _ _ h => h) (Or.inl ⟨?_, ?_⟩) ?_ ?_; rotate_left 1; (focus decide +kernel); (focus decide +kernel); (focus decide +kernel); (focus rfl); (focus (intro w hSw; (try dsimp only at hSw); go_simp; (try (with_reducible rfl)); done)); (focus assumption); (try simp only [Act.put, List.setIfInBounds_toArray, List.set_cons_zero, List.set_cons_succ, List.getElem_toArray, List.getElem_cons_succ, List.getElem_cons_zero])) | (refine wpAnyH_take (i := 4) (v := undef) rfl ?_ ?_ ?_ (fun _ _ _ h => h) (Or.inr ⟨?_, rfl⟩) ?_ ?_; (focus decide +kernel); (focus decide +kernel); (focus decide +kernel); (focus rfl); (focus assumption); (try simp only [Act.put, List.setIfInBounds_toArray, List.set_cons_zero, List.set_cons_succ, List.getElem_toArray, List.getElem_cons_succ, List.getElem_cons_zero])) | skip
  refine wpAnyH_done (by kernel_rfl) ?_ _
  clear st; have st := hHeld; clear hHeld
  go_wp2_with fail
  refine wp_region_held_drew (S := (fun ww => Below w.heap.size w ww ∧ ww.cell? ⟨N0, 0, none⟩ = some ((Value.slice ao0x z0x.length cap0x)) ∧ ww.cell? ⟨N0, 1, none⟩ = some ((Value.slice ao0y z0y.length cap0y)) ∧ ww.cell? ⟨N1, 0, none⟩ = some ((Value.slice ao1x z1x.length cap1x)) ∧ ww.cell? ⟨N1, 1, none⟩ = some ((Value.slice ao1y z1y.length cap1y)) ∧ ww.cell? ⟨NX0, 0, none⟩ = some ((Value.slice (some ⟨bx0x, 0, none⟩) z0x.length z0x.length)) ∧ ww.cell? ⟨NX0, 1, none⟩ = some ((Value.slice (some ⟨bx0y, 0, none⟩) z0y.length z0y.length)) ∧ ww.cell? ⟨NX1, 0, none⟩ = some ((Value.slice (some ⟨bx1x, 0, none⟩) z1x.length z1x.length)) ∧ ww.cell? ⟨NX1, 1, none⟩ = some ((Value.slice (some ⟨bx1y, 0, none⟩) z1y.length z1y.length)) ∧ Rd ww b0x (Value.slice ao0x z0x.length cap0x) z0x ∧ Rd ww b0y (Value.slice ao0y z0y.length cap0y) z0y ∧ Rd ww b1x (Value.slice ao1x z1x.length cap1x) z1x ∧ Rd ww b1y (Value.slice ao1y z1y.length cap1y) z1y ∧ w.heap.size ≤ ww.heap.size)) (by kernel_rfl) ?_ (fun hHeld => ?_)
  · ((try dsimp only); exact drw8_4 st)
  first | (refine wpAnyH_take (i := 0) (v := ?_) rfl ?_ ?_ ?_ (fun _ _ _ h => h) (Or.inl ⟨?_, ?_⟩) ?_ ?_; rotate_left 1; (focus decide +kernel); (focus decide +kernel); (focus decide +kernel); (focus rfl); (focus (intro w hSw; (try dsimp only at hSw); go_simp; (try (with_reducible rfl)); done)); (focus assumption); (try simp only [Act.put, List.setIfInBounds_toArray, List.set_cons_zero, List.set_cons_succ, List.getElem_toArray, List.getElem_cons_succ, List.getElem_cons_zero])) | (refine wpAnyH_take (i := 0) (v := undef) rfl ?_ ?_ ?_ (fun _ _ _ h => h) (Or.inr ⟨?_, rfl⟩) ?_ ?_; (focus decide +kernel); (focus decide +kernel); (focus decide +kernel); (focus rfl); (focus assumption); (try simp only [Act.put, List.setIfInBounds_toArray, List.set_cons_zero, List.set_cons_succ, List.getElem_toArray, List.getElem_cons_succ, List.getElem_cons_zero])) | skip
  first | (refine wpAnyH_take (i := 1) (v := ?_) rfl ?_ ?_ ?_ (fun _ _ _ h => h) (Or.inl ⟨?_, ?_⟩) ?_ ?_; rotate_left 1; (focus decide +kernel); (focus decide +kernel); (focus decide +kernel); (focus rfl); (focus (intro w hSw; (try dsimp only at hSw); go_simp; (try (with_reducible rfl)); done)); (focus assumption); (try simp only [Act.put, List.setIfInBounds_toArray, List.set_cons_zero, List.set_cons_succ, List.getElem_toArray, List.getElem_cons_succ, List.getElem_cons_zero])) | (refine wpAnyH_take (i := 1) (v := undef) rfl ?_ ?_ ?_ (fun _ _ _ h => h) (Or.inr ⟨?_, rfl⟩) ?_ ?_; (focus decide +kernel); (focus decide +kernel); (focus decide +kernel); (focus rfl); (focus assumption); (try simp only [Act.put, List.setIfInBounds_toArray, List.set_cons_zero, List.set_cons_succ, List.getElem_toArray, List.getElem_cons_succ, List.getElem_cons_zero])) | skip
  first | (refine wpAnyH_take (i := 4) (v := ?_) rfl ?_ ?_ ?_ (fun _ _ _ h => h) (Or.inl ⟨?_, ?_⟩) ?_ ?_; rotate_left 1; (focus decide +kernel); (focus decide +kernel); (focus decide +kernel); (focus rfl); (focus (intro w hSw; (try dsimp only at hSw); go_simp; (try (with_reducible rfl)); done)); (focus assumption); (try simp only [Act.put, List.setIfInBounds_toArray, List.set_cons_zero, List.set_cons_succ, List.getElem_toArray, List.getElem_cons_succ, List.getElem_cons_zero])) | (refine wpAnyH_take (i := 4) (v := undef) rfl ?_ ?_ ?_ (fun _ _ _ h => h) (Or.inr ⟨?_, rfl⟩) ?_ ?_; (focus decide +kernel); (focus decide +kernel); (focus decide +kernel); (focus rfl); (focus assumption); (try simp only [Act.put, List.setIfInBounds_toArray, List.set_cons_zero, List.set_cons_succ, List.getElem_toArray, List.getElem_cons_succ, List.getElem_cons_zero])) | skip
  first | (refine wpAnyH_take (i := 2) (v := undef) rfl ?_ ?_ ?_ (fun _ _ _ h => h) (Or.inr ⟨?_, rfl⟩) ?_ ?_; (focus decide +kernel); (focus decide +kernel); (focus decide +kernel); (focus rfl); (focus assumption); (try simp only [Act.put, List.setIfInBounds_toArray, List.set_cons_zero, List.set_cons_succ, List.getElem_toArray, List.getElem_cons_succ, List.getElem_cons_zero])) | (refine wpAnyH_ready (rs := [2]) ?_ (by simp) ?_; (focus decide +kernel); refine AllReadyH.cons rfl (fun K hK => ?_) AllReadyH.nil; go_simp; (go_at_call 32; refine (toL (rdx8_4_2 hHeld) (rdx8_4_3 hHeld) HL1x.out HL1y.out).mono ?_; rintro e w14 ⟨by1x, by1y, rfl, oy1x, oy1y, lo, lt, bel⟩; replace ox0x : Own 2 w13.drew bx0x (Value.slice (some ⟨bx0x, 0, none⟩) z0x.length z0x.length) z0x := ox0x; replace ox0y : Own 2 w13.drew bx0y (Value.slice (some ⟨bx0y, 0, none⟩) z0y.length z0y.length) z0y := ox0y; replace ox1x : Own 2 w13.drew bx1x (Value.slice (some ⟨bx1x, 0, none⟩) z1x.length z1x.length) z1x := ox1x; replace ox1y : Own 2 w13.drew bx1y (Value.slice (some ⟨bx1y, 0, none⟩) z1y.length z1y.length) z1y := ox1y; replace ox0x := ox0x.keep bel; replace ox0y := ox0y.keep bel; replace ox1x := ox1x.keep bel; replace ox1y := ox1y.keep bel; clear lo lt); refine hK.out _ _ ?_ (fun hHeld => ?_); ((try dsimp only); exact nx8_4 bel hHeld); clear hK K; (try simp only [Act.put, List.setIfInBounds_toArray, List.set_cons_zero, List.set_cons_succ, List.getElem_toArray, List.getElem_cons_succ, List.getElem_cons_zero]))
  first | (refine wpAnyH_take (i := 4) (v := ?_) rfl ?_ ?_ ?_ (fun _ _ _ h => h) (Or.inl ⟨?_, ?_⟩) ?_ ?_; rotate_left 1; (focus decide +kernel); (focus decide +kernel); (focus decide +kernel); (focus rfl); (focus (intro w hSw; (try dsimp only at hSw); go_simp; (try (with_reducible rfl)); done)); (focus assumption); (try simp only [Act.put, List.setIfInBounds_toArray, List.set_cons_zero, List.set_cons_succ, List.getElem_toArray, List.getElem_cons_succ, List.getElem_cons_zero])) | (refine wpAnyH_take (i := 4) (v := undef) rfl ?_ ?_ ?_ (fun _ _ _ h => h) (Or.inr ⟨?_, rfl⟩) ?_ ?_; (focus decide +kernel); (focus decide +kernel); (focus decide +kernel); (focus rfl); (focus assumption); (try simp only [Act.put, List.setIfInBounds_toArray, List.set_cons_zero, List.set_cons_succ, List.getElem_toArray, List.getElem_cons_succ, List.getElem_cons_zero])) | skip
  first | (refine wpAnyH_take (i := 3) (v := undef) rfl ?_ ?_ ?_ (fun _ _ _ h => h) (Or.inr ⟨?_, rfl⟩) ?_ ?_; (focus decide +kernel); (focus decide +kernel); (focus decide +kernel); (focus rfl); (focus assumption); (try simp only [Act.put, List.setIfInBounds_toArray, List.set_cons_zero, List.set_cons_succ, List.getElem_toArray, List.getElem_cons_succ, List.getElem_cons_zero])) | (refine wpAnyH_ready (rs := [3]) ?_ (by simp) ?_; (focus decide +kernel); refine AllReadyH.cons rfl (fun K hK => ?_) AllReadyH.nil; go_simp; (go_at_call 34; refine (eqL ox1x.rd ox1y.rd oy1x.rd oy1y.rd).mono ?_; rintro e w15 ⟨rfl, bel⟩; replace ox0x := ox0x.keep bel; replace ox0y := ox0y.keep bel; replace ox1x := ox1x.keep bel; replace ox1y := ox1y.keep bel; clear oy1x oy1y); refine hK.out _ _ ?_ (fun hHeld => ?_); ((try dsimp only); exact nx8_4 bel hHeld); clear hK K; (try simp only [Act.put, List.setIfInBounds_toArray, List.set_cons_zero, List.set_cons_succ, List.getElem_toArray, List.getElem_cons_succ, List.getElem_cons_zero]))
  first | (refine wpAnyH_take (i := 4) (v := ?_) rfl ?_ ?_ ?_ (fun _ _ _ h => h) (Or.inl ⟨?_, ?_⟩) ?_ ?_; rotate_left 1; (focus decide +kernel); (focus decide +kernel); (focus decide +kernel); (focus rfl); (focus (intro w hSw; (try dsimp only at hSw); go_simp; (try (with_reducible rfl)); done)); (focus assumption); (try simp only [Act.put, List.setIfInBounds_toArray, List.set_cons_zero, List.set_cons_succ, List.getElem_toArray, List.getElem_cons_succ, List.getElem_cons_zero])) | (refine wpAnyH_take (i := 4) (v := undef) rfl ?_ ?_ ?_ (fun _ _ _ h => h) (Or.inr ⟨?_, rfl⟩) ?_ ?_; (focus decide +kernel); (focus decide +kernel); (focus decide +kernel); (focus rfl); (focus assumption); (try simp only [Act.put, List.setIfInBounds_toArray, List.set_cons_zero, List.set_cons_succ, List.getElem_toArray, List.getElem_cons_succ, List.getElem_cons_zero])) | skip
  refine wpAnyH_done (by kernel_rfl) ?_ _
  clear st; have st := hHeld; clear hHeld
  go_wp2
  go_ret
  exact ⟨rfl, And.left st⟩

set_option maxRecDepth 100000 in
theorem lifted (os : Os) (started : os.Started) (H : Type) (enc : TypeId × Value → H) :
    ReturnsInHanded {} Try.checked os 9 .any (Rows.fnExactSameLifeSpec.pre6 enc Try.prog Try.f9 Rows.fnExactSameLifeRow.domain false) (Rows.fnExactSameLifeSpec.post enc Try.prog Try.f9 false true false false) := by
  refine returnsInHanded_of_change (C := Try.checked) own started (by kernel_rfl) Try.func9
    (ChangeSpec.witness6 (enc := enc) (C := Try.checked) false ⟨#[], #[.agg #[.slice none 0 0, .slice none 0 0], .agg #[.slice none 0 0, .slice none 0 0]], []⟩ 8 (by kernel_rfl) (by kernel_rfl) (by kernel_rfl) (by kernel_rfl)) ?_
  intro W base args ds gs before hval0 hW hcnd hreach
  have hval : ∀ (j : Nat) t v, Try.f9.params[j]? = some t → args[j]? = some v → Value.okWide Try.prog W .any base t v := hval0
  have hW' := hW
  obtain ⟨p, q, hA0, hV, rfl, hfz, hnd⟩ := hW
  have hA : DataW.TrodAll enc Try.prog W 0 (fun _ => true) true Try.f9.params.toList args.toList ds p := hA0
  rw [Try.params9] at hA hval
  obtain ⟨v0, vs0, d0, ds0, p0, q0, hargs, rfl, rfl, h0, r0⟩ := trodAll_cons hA
  obtain ⟨v1, vs1, d1, ds1, p1, q1, rfl, rfl, rfl, h1, r1⟩ := trodAll_cons r0
  obtain ⟨rfl, rfl, rfl⟩ := trodAll_nil r1
  obtain rfl : args = #[v0, v1] := by cases args; simp_all
  obtain ⟨rfl, rfl⟩ := trodVars_none hV
  have k0 := h0
  have lt0 : ∀ x ∈ p0, x.block < W.heap.size := by obtain ⟨m, hm⟩ := k0; exact DataW.trod_lt m _ _ _ hm
  obtain ⟨c00, c01, y00, y01, m0, rfl, hd0, hp0, t00, t01⟩ := open_agg2 Try.underlying41 (by kernel_rfl) (by kernel_rfl) (hval 0 41 v0 rfl rfl) h0
  obtain ⟨a00, len00, cap00, e00⟩ := slice_form Try.underlying22 t00
  simp at e00
  subst e00
  obtain ⟨b00, z00, _, w00⟩ : ∃ b zs, zs.length = len00 ∧ Rd W b (.slice a00 len00 cap00) zs := rd_open Try.underlying22 Try.underlying2 (by kernel_rfl) t00
  obtain ⟨a01, len01, cap01, e01⟩ := slice_form Try.underlying22 t01
  simp at e01
  subst e01
  obtain ⟨b01, z01, _, w01⟩ : ∃ b zs, zs.length = len01 ∧ Rd W b (.slice a01 len01 cap01) zs := rd_open Try.underlying22 Try.underlying2 (by kernel_rfl) t01
  have k1 := h1
  have lt1 : ∀ x ∈ p1, x.block < W.heap.size := by obtain ⟨m, hm⟩ := k1; exact DataW.trod_lt m _ _ _ hm
  obtain ⟨c10, c11, y10, y11, m1, rfl, hd1, hp1, t10, t11⟩ := open_agg2 Try.underlying41 (by kernel_rfl) (by kernel_rfl) (hval 1 41 v1 rfl rfl) h1
  obtain ⟨a10, len10, cap10, e10⟩ := slice_form Try.underlying22 t10
  simp at e10
  subst e10
  obtain ⟨b10, z10, _, w10⟩ : ∃ b zs, zs.length = len10 ∧ Rd W b (.slice a10 len10 cap10) zs := rd_open Try.underlying22 Try.underlying2 (by kernel_rfl) t10
  obtain ⟨a11, len11, cap11, e11⟩ := slice_form Try.underlying22 t11
  simp at e11
  subst e11
  obtain ⟨b11, z11, _, w11⟩ : ∃ b zs, zs.length = len11 ∧ Rd W b (.slice a11 len11 cap11) zs := rd_open Try.underlying22 Try.underlying2 (by kernel_rfl) t11
  clear hA0 hval0
  refine (walk w00 w01 w10 w11).mono fun e W' ⟨he, bel⟩ => ?_
  subst he
  exact ⟨_, rfl, _, _, _, [], _, [], hW', trodAll_mk1 (shut_bool Try.underlying4 _), (trodAll_cons_mk (Below.trod laidOut (by kernel_rfl) (of_decide_eq_true (by kernel_rfl)) k0 bel lt0) (trodAll_cons_mk (Below.trod laidOut (by kernel_rfl) (of_decide_eq_true (by kernel_rfl)) k1 bel lt1) (trodAll_mk0))), rfl, bel.frame _, fun h => by cases h⟩

theorem over : Rows.fnExactSameLifeRow.holds Try.pinned (OpenSpec.ofChange Rows.fnExactSameLifeSpec) :=
  OpenClaim.holds_of_wide 9 Try.f9 rfl rfl rfl rfl rfl rfl rfl ⟨rfl, rfl, rfl, rfl, rfl⟩ rfl rfl rfl rfl rfl (by kernel_rfl) Try.func9 (by kernel_rfl)
    (of_decide_eq_true (by kernel_rfl)) (by unfold Func.isWrapper; rw [if_neg (of_decide_eq_false (by kernel_rfl))]; exact ⟨rfl, rfl⟩)
    (fun os started H enc _ => lifted os started H enc)

theorem proved : Rows.FnExactSameLifeSaid := over
end Go.Proofs.Ytcdbbbifdidpdaa.lawSameLife
