/- For every gas, impl.WayOfGas answers as the model of the document does, and changes nothing that it is given. The variables fourWays and sixWays hold what their texts lay. -/
import Derived.Test.YtnpjhhkhdeomcaaDoorRows
import Derived.Test.YtnpjhhkhdeomcaaDoorCards
import Derived.Test.YtnpjhhkhdeomcaaDoorTie
import Derived.Test.YtnpjhhkhdeomcaaDoorLaid2
import Derived.Test.YtnpjhhkhdeomcaaDoorFldKit
import Derived.Test.YtnpjhhkhdeomcaaDoorGas
import Derived.Test.YtnpjhhkhdeomcaaDoorGVal
import Derived.Test.YtnpjhhkhdeomcaaDoorWayB
import Derived.OpenVars
import Derived.LaidMore
import Derived.SevenTiedAt
import Derived.Stop.Joined
import Derived.WalkKit
import Derived.WalkLawsBesides
import Derived.ProofKit
import Derived.OpenShut
import Derived.ShutString
import Derived.ChangeOld
import Derived.Below
import Derived.IntWalk
import Derived.Lib.SmallJoins
namespace Go.Proofs.YtnpjhhkhdeomcaaDoor.lawWayOfGas
open Go.ChangeShapes Go.WideShapes Go.ChangeAt Go.RowKit Go.Joins Go.Proofs.YtnpjhhkhdeomcaaDoor.Rd Go.Proofs.YtnpjhhkhdeomcaaDoor.Rdb Go.Proofs.YtnpjhhkhdeomcaaDoor.Help Go.Proofs.YtnpjhhkhdeomcaaDoor.Keep
set_option linter.unusedVariables false
set_option linter.unusedSimpArgs false
theorem own : ownKnob Tryd.prog.godebug = none := by kernel_rfl
theorem laidOut : laidOutB Tryd.prog = true := by kernel_rfl
theorem agree (g s r : Int) (xs : List Int) (ys : List Bool) (hx : xs.length ≤ 1048576) (hy : ys.length ≤ 1048576) : ∃ (q0 q1 : Int) (q2 : Bool), (∀ (w : World) (b1 : Nat) (v1 : Value), Rd w b1 v1 xs → ∀ (b2 : Nat) (v2 : Value), RdB w b2 v2 ys → Calls Tryd.prog 13 #[gasV g s r v1 v2] w fun e w' => e = .returned (.tuple #[.int .i64 q0, .int .i64 q1, .bool q2]) ∧ Below w.heap.size w w') ∧ (∀ (w : World) (b1 : Nat) (v1 : Value), Way.GG w → Rd w b1 v1 xs → ∀ (b2 : Nat) (v2 : Value), RdB w b2 v2 ys → Calls Tryd.prog 15 #[gasV g s r v1 v2] w fun e w' => e = .returned (.tuple #[.int .i64 q0, .int .i64 q1, .bool q2]) ∧ Below w.heap.size w w') := Way.agree g s r xs ys

theorem nx5_IB {N : Nat} {w0 w w' : World} {p0 p1 p2 p3 p4 : Addr} {c0 c1 c2 c3 c4 : Value} {b0 : Nat} {v0 : Value} {z0 : List Int} {b1 : Nat} {v1 : Value} {z1 : List Bool} (bel : Below w.heap.size w w') (h : Below N w0 w ∧ w.cell? p0 = some c0 ∧ w.cell? p1 = some c1 ∧ w.cell? p2 = some c2 ∧ w.cell? p3 = some c3 ∧ w.cell? p4 = some c4 ∧ Rd w b0 v0 z0 ∧ RdB w b1 v1 z1 ∧ N ≤ w.heap.size) : Below N w0 w' ∧ w'.cell? p0 = some c0 ∧ w'.cell? p1 = some c1 ∧ w'.cell? p2 = some c2 ∧ w'.cell? p3 = some c3 ∧ w'.cell? p4 = some c4 ∧ Rd w' b0 v0 z0 ∧ RdB w' b1 v1 z1 ∧ N ≤ w'.heap.size := by obtain ⟨h0, x0, x1, x2, x3, x4, y0, y1, h5⟩ := h; exact ⟨h0.trans (bel.mono h5), cell_keep bel x0, cell_keep bel x1, cell_keep bel x2, cell_keep bel x3, cell_keep bel x4, y0.keep bel (Nat.le_refl _), y1.keep bel (Nat.le_refl _), Nat.le_trans h5 bel.size⟩
theorem drw5_IB {N : Nat} {w0 w : World} {p0 p1 p2 p3 p4 : Addr} {c0 c1 c2 c3 c4 : Value} {b0 : Nat} {v0 : Value} {z0 : List Int} {b1 : Nat} {v1 : Value} {z1 : List Bool} (h : Below N w0 w ∧ w.cell? p0 = some c0 ∧ w.cell? p1 = some c1 ∧ w.cell? p2 = some c2 ∧ w.cell? p3 = some c3 ∧ w.cell? p4 = some c4 ∧ Rd w b0 v0 z0 ∧ RdB w b1 v1 z1 ∧ N ≤ w.heap.size) : Below N w0 w.drew ∧ w.drew.cell? p0 = some c0 ∧ w.drew.cell? p1 = some c1 ∧ w.drew.cell? p2 = some c2 ∧ w.drew.cell? p3 = some c3 ∧ w.drew.cell? p4 = some c4 ∧ Rd w.drew b0 v0 z0 ∧ RdB w.drew b1 v1 z1 ∧ N ≤ w.drew.heap.size := by obtain ⟨h0, x0, x1, x2, x3, x4, y0, y1, h5⟩ := h; exact ⟨h0.drew, x0, x1, x2, x3, x4, y0, y1, h5⟩
theorem rdx5_IB_0 {N : Nat} {w0 w : World} {p0 p1 p2 p3 p4 : Addr} {c0 c1 c2 c3 c4 : Value} {b0 : Nat} {v0 : Value} {z0 : List Int} {b1 : Nat} {v1 : Value} {z1 : List Bool} (h : Below N w0 w ∧ w.cell? p0 = some c0 ∧ w.cell? p1 = some c1 ∧ w.cell? p2 = some c2 ∧ w.cell? p3 = some c3 ∧ w.cell? p4 = some c4 ∧ Rd w b0 v0 z0 ∧ RdB w b1 v1 z1 ∧ N ≤ w.heap.size) : Rd w b0 v0 z0 := by obtain ⟨h0, x0, x1, x2, x3, x4, y0, y1, h5⟩ := h; exact y0
theorem rdx5_IB_1 {N : Nat} {w0 w : World} {p0 p1 p2 p3 p4 : Addr} {c0 c1 c2 c3 c4 : Value} {b0 : Nat} {v0 : Value} {z0 : List Int} {b1 : Nat} {v1 : Value} {z1 : List Bool} (h : Below N w0 w ∧ w.cell? p0 = some c0 ∧ w.cell? p1 = some c1 ∧ w.cell? p2 = some c2 ∧ w.cell? p3 = some c3 ∧ w.cell? p4 = some c4 ∧ Rd w b0 v0 z0 ∧ RdB w b1 v1 z1 ∧ N ≤ w.heap.size) : RdB w b1 v1 z1 := by obtain ⟨h0, x0, x1, x2, x3, x4, y0, y1, h5⟩ := h; exact y1
theorem nx10_IB {N : Nat} {w0 w w' : World} {p0 p1 p2 p3 p4 p5 p6 p7 p8 p9 : Addr} {c0 c1 c2 c3 c4 c5 c6 c7 c8 c9 : Value} {b0 : Nat} {v0 : Value} {z0 : List Int} {b1 : Nat} {v1 : Value} {z1 : List Bool} (bel : Below w.heap.size w w') (h : Below N w0 w ∧ w.cell? p0 = some c0 ∧ w.cell? p1 = some c1 ∧ w.cell? p2 = some c2 ∧ w.cell? p3 = some c3 ∧ w.cell? p4 = some c4 ∧ w.cell? p5 = some c5 ∧ w.cell? p6 = some c6 ∧ w.cell? p7 = some c7 ∧ w.cell? p8 = some c8 ∧ w.cell? p9 = some c9 ∧ Rd w b0 v0 z0 ∧ RdB w b1 v1 z1 ∧ N ≤ w.heap.size) : Below N w0 w' ∧ w'.cell? p0 = some c0 ∧ w'.cell? p1 = some c1 ∧ w'.cell? p2 = some c2 ∧ w'.cell? p3 = some c3 ∧ w'.cell? p4 = some c4 ∧ w'.cell? p5 = some c5 ∧ w'.cell? p6 = some c6 ∧ w'.cell? p7 = some c7 ∧ w'.cell? p8 = some c8 ∧ w'.cell? p9 = some c9 ∧ Rd w' b0 v0 z0 ∧ RdB w' b1 v1 z1 ∧ N ≤ w'.heap.size := by obtain ⟨h0, x0, x1, x2, x3, x4, x5, x6, x7, x8, x9, y0, y1, h5⟩ := h; exact ⟨h0.trans (bel.mono h5), cell_keep bel x0, cell_keep bel x1, cell_keep bel x2, cell_keep bel x3, cell_keep bel x4, cell_keep bel x5, cell_keep bel x6, cell_keep bel x7, cell_keep bel x8, cell_keep bel x9, y0.keep bel (Nat.le_refl _), y1.keep bel (Nat.le_refl _), Nat.le_trans h5 bel.size⟩
theorem drw10_IB {N : Nat} {w0 w : World} {p0 p1 p2 p3 p4 p5 p6 p7 p8 p9 : Addr} {c0 c1 c2 c3 c4 c5 c6 c7 c8 c9 : Value} {b0 : Nat} {v0 : Value} {z0 : List Int} {b1 : Nat} {v1 : Value} {z1 : List Bool} (h : Below N w0 w ∧ w.cell? p0 = some c0 ∧ w.cell? p1 = some c1 ∧ w.cell? p2 = some c2 ∧ w.cell? p3 = some c3 ∧ w.cell? p4 = some c4 ∧ w.cell? p5 = some c5 ∧ w.cell? p6 = some c6 ∧ w.cell? p7 = some c7 ∧ w.cell? p8 = some c8 ∧ w.cell? p9 = some c9 ∧ Rd w b0 v0 z0 ∧ RdB w b1 v1 z1 ∧ N ≤ w.heap.size) : Below N w0 w.drew ∧ w.drew.cell? p0 = some c0 ∧ w.drew.cell? p1 = some c1 ∧ w.drew.cell? p2 = some c2 ∧ w.drew.cell? p3 = some c3 ∧ w.drew.cell? p4 = some c4 ∧ w.drew.cell? p5 = some c5 ∧ w.drew.cell? p6 = some c6 ∧ w.drew.cell? p7 = some c7 ∧ w.drew.cell? p8 = some c8 ∧ w.drew.cell? p9 = some c9 ∧ Rd w.drew b0 v0 z0 ∧ RdB w.drew b1 v1 z1 ∧ N ≤ w.drew.heap.size := by obtain ⟨h0, x0, x1, x2, x3, x4, x5, x6, x7, x8, x9, y0, y1, h5⟩ := h; exact ⟨h0.drew, x0, x1, x2, x3, x4, x5, x6, x7, x8, x9, y0, y1, h5⟩
theorem rdx10_IB_0 {N : Nat} {w0 w : World} {p0 p1 p2 p3 p4 p5 p6 p7 p8 p9 : Addr} {c0 c1 c2 c3 c4 c5 c6 c7 c8 c9 : Value} {b0 : Nat} {v0 : Value} {z0 : List Int} {b1 : Nat} {v1 : Value} {z1 : List Bool} (h : Below N w0 w ∧ w.cell? p0 = some c0 ∧ w.cell? p1 = some c1 ∧ w.cell? p2 = some c2 ∧ w.cell? p3 = some c3 ∧ w.cell? p4 = some c4 ∧ w.cell? p5 = some c5 ∧ w.cell? p6 = some c6 ∧ w.cell? p7 = some c7 ∧ w.cell? p8 = some c8 ∧ w.cell? p9 = some c9 ∧ Rd w b0 v0 z0 ∧ RdB w b1 v1 z1 ∧ N ≤ w.heap.size) : Rd w b0 v0 z0 := by obtain ⟨h0, x0, x1, x2, x3, x4, x5, x6, x7, x8, x9, y0, y1, h5⟩ := h; exact y0
theorem rdx10_IB_1 {N : Nat} {w0 w : World} {p0 p1 p2 p3 p4 p5 p6 p7 p8 p9 : Addr} {c0 c1 c2 c3 c4 c5 c6 c7 c8 c9 : Value} {b0 : Nat} {v0 : Value} {z0 : List Int} {b1 : Nat} {v1 : Value} {z1 : List Bool} (h : Below N w0 w ∧ w.cell? p0 = some c0 ∧ w.cell? p1 = some c1 ∧ w.cell? p2 = some c2 ∧ w.cell? p3 = some c3 ∧ w.cell? p4 = some c4 ∧ w.cell? p5 = some c5 ∧ w.cell? p6 = some c6 ∧ w.cell? p7 = some c7 ∧ w.cell? p8 = some c8 ∧ w.cell? p9 = some c9 ∧ Rd w b0 v0 z0 ∧ RdB w b1 v1 z1 ∧ N ≤ w.heap.size) : RdB w b1 v1 z1 := by obtain ⟨h0, x0, x1, x2, x3, x4, x5, x6, x7, x8, x9, y0, y1, h5⟩ := h; exact y1

set_option maxRecDepth 100000 in
set_option maxHeartbeats 16000000 in
theorem walk {w : World} {s0 r0 k0 : Int} (fs0 : (Lit.int .i64 s0).wf = true) (fr0 : (Lit.int .i64 r0).wf = true) (fk0 : (Lit.int .i64 k0).wf = true) {b0x : Nat} {v0x : Value} {z0x : List Int} (h0x : Rd w b0x v0x z0x) {b0y : Nat} {v0y : Value} {z0y : List Bool} (h0y : RdB w b0y v0y z0y) (hg : Way.GG w) :
    Calls Tryd.prog 4 #[gasV s0 r0 k0 v0x v0y] w fun e w' => e = .returned (.bool true) ∧ Below w.heap.size w w' := by
  have HGW : Hid (Way.GG w) := hg
  clear hg
  obtain ⟨ao0x, cap0x, e0x, kc0x, mc0x, _⟩ := id h0x
  have H0x : Hid (Rd w b0x v0x z0x) := h0x
  subst e0x; clear h0x
  have nb0x : z0x.length ≤ 9223372036854775807 := by unfold maxLen at mc0x; omega
  clear kc0x mc0x
  obtain ⟨ao0y, cap0y, e0y, kc0y, mc0y, _⟩ := id h0y
  have H0y : Hid (RdB w b0y v0y z0y) := h0y
  subst e0y; clear h0y
  have nb0y : z0y.length ≤ 9223372036854775807 := by unfold maxLen at mc0y; omega
  clear kc0y mc0y
  by_cases hs0 : (z0x.length : Int) + (z0y.length : Int) ≤ 1048576
  rotate_left 1
  · go_enter Tryd.func4, Tryd.ntmps4
    go_wp2_with fail
    obtain ⟨w1, hW⟩ : ∃ w1, w1 = (w.alloc (Obj.cells #[.int .i64 s0, .int .i64 r0, .int .i64 k0, (Value.slice ao0x z0x.length cap0x), (Value.slice ao0y z0y.length cap0y)] 34)) := ⟨_, rfl⟩
    obtain ⟨N0, hN0⟩ : ∃ N0, N0 = w.heap.size := ⟨_, rfl⟩
    have st : Below w.heap.size w w1 ∧ w1.cell? ⟨N0, 0, none⟩ = some (.int .i64 s0) ∧ w1.cell? ⟨N0, 1, none⟩ = some (.int .i64 r0) ∧ w1.cell? ⟨N0, 2, none⟩ = some (.int .i64 k0) ∧ w1.cell? ⟨N0, 3, none⟩ = some ((Value.slice ao0x z0x.length cap0x)) ∧ w1.cell? ⟨N0, 4, none⟩ = some ((Value.slice ao0y z0y.length cap0y)) ∧ Rd w1 b0x (Value.slice ao0x z0x.length cap0x) z0x ∧ RdB w1 b0y (Value.slice ao0y z0y.length cap0y) z0y ∧ w.heap.size ≤ w1.heap.size := by
      rw [hW, hN0]
      exact ⟨Rule.below1 _ _, by simp, by simp, by simp, by simp, by simp, H0x.out.keep (Rule.below1 _ _) (Nat.le_refl _), H0y.out.keep (Rule.below1 _ _) (Nat.le_refl _), by simp <;> omega⟩
    simp only [← hW, ← hN0]
    clear hW hN0
    go_at_call 12
    refine (szG_no nb0x nb0y (q := 1048576) (by omega) (by omega) (by omega)).mono ?_
    rintro e w2 ⟨rfl, bel⟩
    replace st := nx5_IB bel st
    clear bel
    go_wp2
    go_ret
    exact ⟨rfl, st.1⟩
  have hl0x : z0x.length ≤ 1048576 := by omega
  have HL0x : Hid (z0x.length ≤ 1048576) := hl0x
  have hl0y : z0y.length ≤ 1048576 := by omega
  have HL0y : Hid (z0y.length ≤ 1048576) := hl0y
  obtain ⟨q0, q1, q2, hspec, himpl⟩ := agree s0 r0 k0 z0x z0y hl0x hl0y
  have HSp := hid @hspec
  have HIm := hid @himpl
  clear hspec himpl hl0x hl0y
  go_enter Tryd.func4, Tryd.ntmps4
  go_wp2_with fail
  obtain ⟨w1, hW⟩ : ∃ w1, w1 = (w.alloc (Obj.cells #[.int .i64 s0, .int .i64 r0, .int .i64 k0, (Value.slice ao0x z0x.length cap0x), (Value.slice ao0y z0y.length cap0y)] 34)) := ⟨_, rfl⟩
  obtain ⟨N0, hN0⟩ : ∃ N0, N0 = w.heap.size := ⟨_, rfl⟩
  have st : Below w.heap.size w w1 ∧ w1.cell? ⟨N0, 0, none⟩ = some (.int .i64 s0) ∧ w1.cell? ⟨N0, 1, none⟩ = some (.int .i64 r0) ∧ w1.cell? ⟨N0, 2, none⟩ = some (.int .i64 k0) ∧ w1.cell? ⟨N0, 3, none⟩ = some ((Value.slice ao0x z0x.length cap0x)) ∧ w1.cell? ⟨N0, 4, none⟩ = some ((Value.slice ao0y z0y.length cap0y)) ∧ Rd w1 b0x (Value.slice ao0x z0x.length cap0x) z0x ∧ RdB w1 b0y (Value.slice ao0y z0y.length cap0y) z0y ∧ w.heap.size ≤ w1.heap.size := by
    rw [hW, hN0]
    exact ⟨Rule.below1 _ _, by simp, by simp, by simp, by simp, by simp, H0x.out.keep (Rule.below1 _ _) (Nat.le_refl _), H0y.out.keep (Rule.below1 _ _) (Nat.le_refl _), by simp <;> omega⟩
  simp only [← hW, ← hN0]
  clear hW hN0
  go_at_call 12
  refine (szG_ok nb0x nb0y (q := 1048576) (by omega) (by omega) (by omega)).mono ?_
  rintro e w2 ⟨rfl, bel⟩
  replace st := nx5_IB bel st
  clear bel
  go_wp2_with fail
  go_at_call 14
  refine (toG (rdx5_IB_0 st) (rdx5_IB_1 st) HL0x.out HL0y.out).mono ?_
  rintro e w3 ⟨bp0x, bp0y, rfl, op0x, op0y, lo, lt, bel⟩
  replace st := nx5_IB bel st
  clear bel
  clear lo lt
  go_wp2_with fail
  go_at_call 13
  refine (HSp.out _ _ _ op0x.rd _ _ op0y.rd).mono ?_
  rintro e w4 ⟨rfl, bel⟩
  replace st := nx5_IB bel st
  replace op0x := op0x.keep bel
  replace op0y := op0y.keep bel
  clear bel
  clear op0x
  clear op0y
  go_wp2_with fail
  go_at_call 14
  refine (toG (rdx5_IB_0 st) (rdx5_IB_1 st) HL0x.out HL0y.out).mono ?_
  rintro e w5 ⟨bx0x, bx0y, rfl, ox0x, ox0y, lo, lt, bel⟩
  replace st := nx5_IB bel st
  clear bel
  clear lo lt
  obtain ⟨w7, hW⟩ : ∃ w7, w7 = w5.alloc (Obj.cells #[.int .i64 s0, .int .i64 r0, .int .i64 k0, (Value.slice (some ⟨bx0x, 0, none⟩) z0x.length z0x.length), (Value.slice (some ⟨bx0y, 0, none⟩) z0y.length z0y.length)] 38) := ⟨_, rfl⟩
  obtain ⟨NX0, hN⟩ : ∃ NX0, NX0 = w5.heap.size := ⟨_, rfl⟩
  have bel : Below w5.heap.size w5 w7 := by rw [hW]; exact Rule.below1 _ _
  have st' : Below w.heap.size w w7 ∧ w7.cell? ⟨N0, 0, none⟩ = some (.int .i64 s0) ∧ w7.cell? ⟨N0, 1, none⟩ = some (.int .i64 r0) ∧ w7.cell? ⟨N0, 2, none⟩ = some (.int .i64 k0) ∧ w7.cell? ⟨N0, 3, none⟩ = some ((Value.slice ao0x z0x.length cap0x)) ∧ w7.cell? ⟨N0, 4, none⟩ = some ((Value.slice ao0y z0y.length cap0y)) ∧ w7.cell? ⟨NX0, 0, none⟩ = some (.int .i64 s0) ∧ w7.cell? ⟨NX0, 1, none⟩ = some (.int .i64 r0) ∧ w7.cell? ⟨NX0, 2, none⟩ = some (.int .i64 k0) ∧ w7.cell? ⟨NX0, 3, none⟩ = some ((Value.slice (some ⟨bx0x, 0, none⟩) z0x.length z0x.length)) ∧ w7.cell? ⟨NX0, 4, none⟩ = some ((Value.slice (some ⟨bx0y, 0, none⟩) z0y.length z0y.length)) ∧ Rd w7 b0x (Value.slice ao0x z0x.length cap0x) z0x ∧ RdB w7 b0y (Value.slice ao0y z0y.length cap0y) z0y ∧ w.heap.size ≤ w7.heap.size := by
    obtain ⟨t0, c0, c1, c2, c3, c4, d0, d1, tz⟩ := nx5_IB bel st
    exact ⟨t0, c0, c1, c2, c3, c4, by rw [hW, hN]; simp, by rw [hW, hN]; simp, by rw [hW, hN]; simp, by rw [hW, hN]; simp, by rw [hW, hN]; simp, d0, d1, tz⟩
  replace ox0x := ox0x.keep bel
  replace ox0y := ox0y.keep bel
  clear st bel; have st := st'; clear st'
  have stp := st
  rw [hW, hN] at stp
  go_wp2_with fail
  clear stp
  simp only [← hW, ← hN]
  clear hW hN
  go_at_call 15
  refine (HIm.out _ _ _ (by first | exact Way.gg_bel HGW.out (And.left st) | exact Way.gg_bel HGW.out (And.left hHeld) | exact Way.gg_bel HGW.out (HD0.out.1.trans (belD.mono HD0.out.1.size))) ox0x.rd _ _ ox0y.rd).mono ?_
  rintro e w6 ⟨rfl, bel⟩
  replace st := nx10_IB bel st
  replace ox0x := ox0x.keep bel
  replace ox0y := ox0y.keep bel
  clear bel
  go_wp2_with fail
  (try refine Box.wp_noPanic ?_)
  refine wp_region_held_drew (S := (fun ww => Below w.heap.size w ww ∧ ww.cell? ⟨N0, 0, none⟩ = some (.int .i64 s0) ∧ ww.cell? ⟨N0, 1, none⟩ = some (.int .i64 r0) ∧ ww.cell? ⟨N0, 2, none⟩ = some (.int .i64 k0) ∧ ww.cell? ⟨N0, 3, none⟩ = some ((Value.slice ao0x z0x.length cap0x)) ∧ ww.cell? ⟨N0, 4, none⟩ = some ((Value.slice ao0y z0y.length cap0y)) ∧ ww.cell? ⟨NX0, 0, none⟩ = some (.int .i64 s0) ∧ ww.cell? ⟨NX0, 1, none⟩ = some (.int .i64 r0) ∧ ww.cell? ⟨NX0, 2, none⟩ = some (.int .i64 k0) ∧ ww.cell? ⟨NX0, 3, none⟩ = some ((Value.slice (some ⟨bx0x, 0, none⟩) z0x.length z0x.length)) ∧ ww.cell? ⟨NX0, 4, none⟩ = some ((Value.slice (some ⟨bx0y, 0, none⟩) z0y.length z0y.length)) ∧ Rd ww b0x (Value.slice ao0x z0x.length cap0x) z0x ∧ RdB ww b0y (Value.slice ao0y z0y.length cap0y) z0y ∧ w.heap.size ≤ ww.heap.size)) (by kernel_rfl) ?_ (fun hHeld => ?_)
  · ((try dsimp only); exact drw10_IB st)
  first | (refine wpAnyH_take (i := 0) (v := ?_) rfl ?_ ?_ ?_ (fun _ _ _ h => h) (Or.inl ⟨?_, ?_⟩) ?_ ?_; rotate_left 1; (focus decide +kernel); (focus decide +kernel); (focus decide +kernel); (focus rfl); (focus (intro w hSw; (try dsimp only at hSw); go_simp; (try (with_reducible rfl)); done)); (focus assumption); (try simp only [Act.put, List.setIfInBounds_toArray, List.set_cons_zero, List.set_cons_succ, List.getElem_toArray, List.getElem_cons_succ, List.getElem_cons_zero])) | (refine wpAnyH_take (i := 0) (v := undef) rfl ?_ ?_ ?_ (fun _ _ _ h => h) (Or.inr ⟨?_, rfl⟩) ?_ ?_; (focus decide +kernel); (focus decide +kernel); (focus decide +kernel); (focus rfl); (focus assumption); (try simp only [Act.put, List.setIfInBounds_toArray, List.set_cons_zero, List.set_cons_succ, List.getElem_toArray, List.getElem_cons_succ, List.getElem_cons_zero])) | skip
  first | (refine wpAnyH_take (i := 1) (v := ?_) rfl ?_ ?_ ?_ (fun _ _ _ h => h) (Or.inl ⟨?_, ?_⟩) ?_ ?_; rotate_left 1; (focus decide +kernel); (focus decide +kernel); (focus decide +kernel); (focus rfl); (focus (intro w hSw; (try dsimp only at hSw); go_simp; (try (with_reducible rfl)); done)); (focus assumption); (try simp only [Act.put, List.setIfInBounds_toArray, List.set_cons_zero, List.set_cons_succ, List.getElem_toArray, List.getElem_cons_succ, List.getElem_cons_zero])) | (refine wpAnyH_take (i := 1) (v := undef) rfl ?_ ?_ ?_ (fun _ _ _ h => h) (Or.inr ⟨?_, rfl⟩) ?_ ?_; (focus decide +kernel); (focus decide +kernel); (focus decide +kernel); (focus rfl); (focus assumption); (try simp only [Act.put, List.setIfInBounds_toArray, List.set_cons_zero, List.set_cons_succ, List.getElem_toArray, List.getElem_cons_succ, List.getElem_cons_zero])) | skip
  first | (refine wpAnyH_take (i := 4) (v := ?_) rfl ?_ ?_ ?_ (fun _ _ _ h => h) (Or.inl ⟨?_, ?_⟩) ?_ ?_; rotate_left 1; (focus decide +kernel); (focus decide +kernel); (focus decide +kernel); (focus rfl); (focus (intro w hSw; (try dsimp only at hSw); go_simp; (try (with_reducible rfl)); done)); (focus assumption); (try simp only [Act.put, List.setIfInBounds_toArray, List.set_cons_zero, List.set_cons_succ, List.getElem_toArray, List.getElem_cons_succ, List.getElem_cons_zero])) | (refine wpAnyH_take (i := 4) (v := undef) rfl ?_ ?_ ?_ (fun _ _ _ h => h) (Or.inr ⟨?_, rfl⟩) ?_ ?_; (focus decide +kernel); (focus decide +kernel); (focus decide +kernel); (focus rfl); (focus assumption); (try simp only [Act.put, List.setIfInBounds_toArray, List.set_cons_zero, List.set_cons_succ, List.getElem_toArray, List.getElem_cons_succ, List.getElem_cons_zero])) | skip
  first | (refine wpAnyH_take (i := 2) (v := undef) rfl ?_ ?_ ?_ (fun _ _ _ h => h) (Or.inr ⟨?_, rfl⟩) ?_ ?_; (focus decide +kernel); (focus decide +kernel); (focus decide +kernel); (focus rfl); (focus assumption); (try simp only [Act.put, List.setIfInBounds_toArray, List.set_cons_zero, List.set_cons_succ, List.getElem_toArray, List.getElem_cons_succ, List.getElem_cons_zero])) | (refine wpAnyH_ready (rs := [2]) ?_ (by simp) ?_; (focus decide +kernel); refine AllReadyH.cons rfl (fun K hK => ?_) AllReadyH.nil; go_simp; (go_at_call 14; refine (toG (rdx10_IB_0 hHeld) (rdx10_IB_1 hHeld) HL0x.out HL0y.out).mono ?_; rintro e w8 ⟨by0x, by0y, rfl, oy0x, oy0y, lo, lt, bel⟩; replace ox0x : Rd.Own 2 w6.drew bx0x (Value.slice (some ⟨bx0x, 0, none⟩) z0x.length z0x.length) z0x := ox0x; replace ox0y : OwnB 4 w6.drew bx0y (Value.slice (some ⟨bx0y, 0, none⟩) z0y.length z0y.length) z0y := ox0y; replace ox0x := ox0x.keep bel; replace ox0y := ox0y.keep bel; clear lo lt); refine hK.out _ _ ?_ (fun hHeld => ?_); ((try dsimp only); exact nx10_IB bel hHeld); clear hK K; (try simp only [Act.put, List.setIfInBounds_toArray, List.set_cons_zero, List.set_cons_succ, List.getElem_toArray, List.getElem_cons_succ, List.getElem_cons_zero]))
  first | (refine wpAnyH_take (i := 4) (v := ?_) rfl ?_ ?_ ?_ (fun _ _ _ h => h) (Or.inl ⟨?_, ?_⟩) ?_ ?_; rotate_left 1; (focus decide +kernel); (focus decide +kernel); (focus decide +kernel); (focus rfl); (focus (intro w hSw; (try dsimp only at hSw); go_simp; (try (with_reducible rfl)); done)); (focus assumption); (try simp only [Act.put, List.setIfInBounds_toArray, List.set_cons_zero, List.set_cons_succ, List.getElem_toArray, List.getElem_cons_succ, List.getElem_cons_zero])) | (refine wpAnyH_take (i := 4) (v := undef) rfl ?_ ?_ ?_ (fun _ _ _ h => h) (Or.inr ⟨?_, rfl⟩) ?_ ?_; (focus decide +kernel); (focus decide +kernel); (focus decide +kernel); (focus rfl); (focus assumption); (try simp only [Act.put, List.setIfInBounds_toArray, List.set_cons_zero, List.set_cons_succ, List.getElem_toArray, List.getElem_cons_succ, List.getElem_cons_zero])) | skip
  first | (refine wpAnyH_take (i := 3) (v := undef) rfl ?_ ?_ ?_ (fun _ _ _ h => h) (Or.inr ⟨?_, rfl⟩) ?_ ?_; (focus decide +kernel); (focus decide +kernel); (focus decide +kernel); (focus rfl); (focus assumption); (try simp only [Act.put, List.setIfInBounds_toArray, List.set_cons_zero, List.set_cons_succ, List.getElem_toArray, List.getElem_cons_succ, List.getElem_cons_zero])) | (refine wpAnyH_ready (rs := [3]) ?_ (by simp) ?_; (focus decide +kernel); refine AllReadyH.cons rfl (fun K hK => ?_) AllReadyH.nil; go_simp; (go_at_call 16; refine (eqG ox0x.rd ox0y.rd oy0x.rd oy0y.rd).mono ?_; rintro e w9 ⟨rfl, bel⟩; replace ox0x := ox0x.keep bel; replace ox0y := ox0y.keep bel; clear oy0x oy0y); refine hK.out _ _ ?_ (fun hHeld => ?_); ((try dsimp only); exact nx10_IB bel hHeld); clear hK K; (try simp only [Act.put, List.setIfInBounds_toArray, List.set_cons_zero, List.set_cons_succ, List.getElem_toArray, List.getElem_cons_succ, List.getElem_cons_zero]))
  first | (refine wpAnyH_take (i := 4) (v := ?_) rfl ?_ ?_ ?_ (fun _ _ _ h => h) (Or.inl ⟨?_, ?_⟩) ?_ ?_; rotate_left 1; (focus decide +kernel); (focus decide +kernel); (focus decide +kernel); (focus rfl); (focus (intro w hSw; (try dsimp only at hSw); go_simp; (try (with_reducible rfl)); done)); (focus assumption); (try simp only [Act.put, List.setIfInBounds_toArray, List.set_cons_zero, List.set_cons_succ, List.getElem_toArray, List.getElem_cons_succ, List.getElem_cons_zero])) | (refine wpAnyH_take (i := 4) (v := undef) rfl ?_ ?_ ?_ (fun _ _ _ h => h) (Or.inr ⟨?_, rfl⟩) ?_ ?_; (focus decide +kernel); (focus decide +kernel); (focus decide +kernel); (focus rfl); (focus assumption); (try simp only [Act.put, List.setIfInBounds_toArray, List.set_cons_zero, List.set_cons_succ, List.getElem_toArray, List.getElem_cons_succ, List.getElem_cons_zero])) | skip
  refine wpAnyH_done (by kernel_rfl) ?_ _
  clear st; have st := hHeld; clear hHeld
  go_wp2
  go_ret
  exact ⟨rfl, And.left st⟩

theorem door_met (os : Os) (args : Array Value) : laidMetH Tryd.prog [("loop.example/g01381/impl.fourWays", Rows.laid_loop_example_g01381_impl_fourWays), ("loop.example/g01381/impl.sixWays", Rows.laid_loop_example_g01381_impl_sixWays)] ((World.doorLaid Tryd.prog 400 os).forCall (fun _ _ => 0) ⟨#[], args, []⟩).memory :=
  laidMetH_of_parts3 (fuel := 8) (laidMet_of_run' 8 (by kernel_rfl) (by kernel_rfl)) (by kernel_rfl) (by kernel_rfl)

set_option maxRecDepth 100000 in
theorem lifted (os : Os) (started : os.Started) (H : Type) (enc : TypeId × Value → H) :
    ReturnsInHanded {} Tryd.checked os 4 .any (fun w args => (Rows.fnExactWayOfGasSpec.pre enc Tryd.prog Tryd.f4 [] false w args ∧ laidMetH Tryd.prog [("loop.example/g01381/impl.fourWays", Rows.laid_loop_example_g01381_impl_fourWays), ("loop.example/g01381/impl.sixWays", Rows.laid_loop_example_g01381_impl_sixWays)] w) ∧ sizedMet enc Tryd.prog Tryd.f4 (OpenSpec.ofChange Rows.fnExactWayOfGasSpec) false w args) (Rows.fnExactWayOfGasSpec.post enc Tryd.prog Tryd.f4 false true false false) := by
  refine returnsInHanded_of_change_and (C := Tryd.checked) (X := fun w _ => laidMetH Tryd.prog [("loop.example/g01381/impl.fourWays", Rows.laid_loop_example_g01381_impl_fourWays), ("loop.example/g01381/impl.sixWays", Rows.laid_loop_example_g01381_impl_sixWays)] w) (fun _ _ _ hh h => h.of_heap hh) own started (by kernel_rfl) Tryd.func4
    (ChangeSpec.witness_shaped (enc := enc) (C := Tryd.checked) (os := os) (X := fun w _ => laidMetH Tryd.prog [("loop.example/g01381/impl.fourWays", Rows.laid_loop_example_g01381_impl_fourWays), ("loop.example/g01381/impl.sixWays", Rows.laid_loop_example_g01381_impl_sixWays)] w) false (World.doorLaid Tryd.prog 400 os) #[.agg #[.int .i64 0, .int .i64 0, .int .i64 0, .slice none 0 0, .slice none 0 0]] 8 rfl (World.shaped_of_RefB (by kernel_rfl) (by kernel_rfl)) (by kernel_rfl) (by kernel_rfl) (by kernel_rfl) (door_met os _)) ?_
  intro W base args ds gs before hval0 hW _ _ hL _
  have hval : ∀ (j : Nat) t v, Tryd.f4.params[j]? = some t → args[j]? = some v → Value.okWide Tryd.prog W .any base t v := hval0
  have hW' := hW
  obtain ⟨p, q, hA0, hV, rfl, hfz, hnd⟩ := hW
  have hA : DataW.TrodAll enc Tryd.prog W 0 (fun _ => true) true Tryd.f4.params.toList args.toList ds p := hA0
  rw [Tryd.params4] at hA hval
  obtain ⟨v0, vs0, d0, ds0, p0, q0, hargs, rfl, rfl, h0, r0⟩ := trodAll_cons hA
  obtain ⟨rfl, rfl, rfl⟩ := trodAll_nil r0
  obtain rfl : args = #[v0] := by cases args; simp_all
  have hV2 := hV
  obtain ⟨gq0, tq0, csq0, fq0, dq0, pq0, gq, tq, csq, fq, dq, pq, rfl, hu1, hu2, hu3, hu4, hv1, hv2, hv3, hv4, rfl⟩ := trodVars_two hV
  have k0 := h0
  have lt0 : ∀ x ∈ p0, x.block < W.heap.size := by obtain ⟨m, hm⟩ := k0; exact DataW.trod_lt m _ _ _ hm
  obtain ⟨c00, c01, c02, c03, c04, m0, rfl, ⟨y00, t00⟩, ⟨y01, t01⟩, ⟨y02, t02⟩, ⟨y03, t03⟩, ⟨y04, t04⟩⟩ := open_five Tryd.underlying34 (by kernel_rfl) (by kernel_rfl) (hval 0 34 v0 rfl rfl) h0
  obtain ⟨a00, e00, _, w00⟩ := DataW.trod_int Tryd.underlying2 t00
  simp at e00
  subst e00
  obtain ⟨a01, e01, _, w01⟩ := DataW.trod_int Tryd.underlying2 t01
  simp at e01
  subst e01
  obtain ⟨a02, e02, _, w02⟩ := DataW.trod_int Tryd.underlying2 t02
  simp at e02
  subst e02
  obtain ⟨a03, len03, cap03, e03⟩ := slice_form Tryd.underlying22 t03
  simp at e03
  subst e03
  obtain ⟨b03, z03, _, w03⟩ : ∃ b zs, zs.length = len03 ∧ Rd W b (.slice a03 len03 cap03) zs := rd_open Tryd.underlying22 Tryd.underlying2 (by kernel_rfl) t03
  obtain ⟨a04, len04, cap04, e04⟩ := slice_form Tryd.underlying32 t04
  simp at e04
  subst e04
  obtain ⟨b04, z04, _, w04⟩ : ∃ b zs, zs.length = len04 ∧ RdB W b (.slice a04 len04 cap04) zs := rdB_open Tryd.underlying32 Tryd.underlying4 (by kernel_rfl) t04
  clear hA0 hval0
  refine (walk w00 w01 w02 w03 w04 (Laid2.gg_of_laid hL)).mono fun e W' ⟨he, bel⟩ => ?_
  subst he
  exact ⟨_, rfl, _, _, _, [], _, _, hW', trodAll_mk1 (shut_bool Tryd.underlying4 _), (trodAll_cons_mk (Below.trod laidOut (by kernel_rfl) (of_decide_eq_true (by kernel_rfl)) k0 bel lt0) (trodAll_mk0)), Below.trodVars laidOut bel (by kernel_rfl) hV2, bel.frame _, fun h => by cases h⟩

theorem over : Rows.fnExactWayOfGasRow.holds Tryd.pinned (OpenSpec.ofChange Rows.fnExactWayOfGasSpec) :=
  OpenClaim.holds_of_wide 4 Tryd.f4 rfl rfl rfl rfl rfl rfl rfl ⟨rfl, rfl, rfl, rfl, rfl⟩ rfl rfl rfl rfl rfl (by kernel_rfl) Tryd.func4 (by kernel_rfl)
    (of_decide_eq_true (by kernel_rfl)) (by unfold Func.isWrapper; rw [if_neg (of_decide_eq_false (by kernel_rfl))]; exact ⟨rfl, rfl⟩)
    (fun os started H enc _ => lifted os started H enc)

theorem proved : Rows.FnExactWayOfGasCardSaid :=
  Claim7.holds_tied_plain_at .later [] [.data, .data] true (true, "51c199b62997dfb89718e3f91b7dad2a95198123c9a72d266c23a7a1c388752a") true
    over (fun _ h => by cases h) (by kernel_rfl) (fun _ h => by cases h) fnExactWayOfGas_row_tie rfl ⟨rfl, rfl⟩ (by kernel_rfl) rfl
    (fun f fn hf hfn => by
      obtain rfl : f = 4 := Option.some.inj ((show Tryd.prog.funcNamed "loop.example/g01381/laws.FnExactWayOfGas" = some 4 by kernel_rfl).symm.trans hf) |>.symm
      obtain rfl : fn = Tryd.f4 := (Option.some.inj (Tryd.func4.symm.trans hfn)).symm
      exact ⟨by kernel_rfl, fun j t ht => by
        rw [Tryd.params4] at ht
        have hm : t ∈ [34] := by simpa using Array.mem_of_getElem? ht
        have hall : ([34].all fun u => !Tryd.prog.wantsStandIn u) = true := by kernel_rfl
        exact (show Tryd.prog.wantsStandIn t = false by simpa using List.all_eq_true.1 hall t hm)⟩)
    (by kernel_rfl)
end Go.Proofs.YtnpjhhkhdeomcaaDoor.lawWayOfGas
