/- For every flow, impl.MassOf answers as the model of the document does, and changes nothing that it is given. No condition. -/
import Derived.Test.YtejchjjkehmgaaaRows
import Derived.Test.YtejchjjkehmgaaaMayA
import Derived.Test.YtejchjjkehmgaaaMayB
import Derived.Test.YtejchjjkehmgaaaMayC
import Derived.Test.YtejchjjkehmgaaaHelpF
import Derived.Test.YtejchjjkehmgaaaFlw
import Derived.Test.YtejchjjkehmgaaaOpn4
import Derived.Test.YtejchjjkehmgaaaMasO
import Derived.WalkKit
import Derived.WalkLawsBesides
import Derived.ProofKit
import Derived.OpenShut
import Derived.ShutString
import Derived.ChangeOld
import Derived.Below
import Derived.IntWalk
import Derived.Lib.SmallJoins
import Derived.Deep.Cut
namespace Go.Proofs.Ytejchjjkehmgaaa.lawMassOf
open Go.ChangeShapes Go.WideShapes Go.ChangeAt Go.RowKit Go.Joins Go.Proofs.Ytejchjjkehmgaaa.Rd Go.Proofs.Ytejchjjkehmgaaa.Help Go.Proofs.Ytejchjjkehmgaaa.Rdb Go.Proofs.Ytejchjjkehmgaaa.Rdf Go.Proofs.Ytejchjjkehmgaaa.Fl Go.Proofs.Ytejchjjkehmgaaa.Keep
set_option linter.unusedVariables false
set_option linter.unusedSimpArgs false
theorem own : ownKnob Try.prog.godebug = none := by kernel_rfl
theorem laidOut : laidOutB Try.prog = true := by kernel_rfl
theorem agree (s r : Int) (xs : List Nat) (ys : List Bool) (hx : xs.length ≤ 1048576) (hy : ys.length ≤ 1048576) : ∃ (q0 : Option Nat) (q1 : Bool), (∀ (w : World) (b1 : Nat) (v1 : Value), RdF w b1 v1 xs → ∀ (b2 : Nat) (v2 : Value), RdB w b2 v2 ys → Calls Try.prog 23 #[flowV s r v1 v2] w fun e w' => ∃ q, e = .returned (.tuple #[.float .f32 q, .bool q1]) ∧ Is .f32 q q0 ∧ Below w.heap.size w w') ∧ (∀ (w : World) (b1 : Nat) (v1 : Value), RdF w b1 v1 xs → ∀ (b2 : Nat) (v2 : Value), RdB w b2 v2 ys → Calls Try.prog 25 #[flowV s r v1 v2] w fun e w' => ∃ q, e = .returned (.tuple #[.float .f32 q, .bool q1]) ∧ Is .f32 q q0 ∧ Below w.heap.size w w') :=
  ⟨MasS.massV s r xs ys, MasS.massB s r xs ys, fun w b1 v1 h1 b2 v2 h2 => MasS.specMass h1 h2, fun w b1 v1 h1 b2 v2 h2 => MasO.implMass h1 h2⟩

theorem nx4_FB {N : Nat} {w0 w w' : World} {p0 p1 p2 p3 : Addr} {c0 c1 c2 c3 : Value} {b0 : Nat} {v0 : Value} {z0 : List Nat} {b1 : Nat} {v1 : Value} {z1 : List Bool} (bel : Below w.heap.size w w') (h : Below N w0 w ∧ w.cell? p0 = some c0 ∧ w.cell? p1 = some c1 ∧ w.cell? p2 = some c2 ∧ w.cell? p3 = some c3 ∧ RdF w b0 v0 z0 ∧ RdB w b1 v1 z1 ∧ N ≤ w.heap.size) : Below N w0 w' ∧ w'.cell? p0 = some c0 ∧ w'.cell? p1 = some c1 ∧ w'.cell? p2 = some c2 ∧ w'.cell? p3 = some c3 ∧ RdF w' b0 v0 z0 ∧ RdB w' b1 v1 z1 ∧ N ≤ w'.heap.size := by obtain ⟨h0, x0, x1, x2, x3, y0, y1, h5⟩ := h; exact ⟨h0.trans (bel.mono h5), cell_keep bel x0, cell_keep bel x1, cell_keep bel x2, cell_keep bel x3, y0.keep bel (Nat.le_refl _), y1.keep bel (Nat.le_refl _), Nat.le_trans h5 bel.size⟩
theorem drw4_FB {N : Nat} {w0 w : World} {p0 p1 p2 p3 : Addr} {c0 c1 c2 c3 : Value} {b0 : Nat} {v0 : Value} {z0 : List Nat} {b1 : Nat} {v1 : Value} {z1 : List Bool} (h : Below N w0 w ∧ w.cell? p0 = some c0 ∧ w.cell? p1 = some c1 ∧ w.cell? p2 = some c2 ∧ w.cell? p3 = some c3 ∧ RdF w b0 v0 z0 ∧ RdB w b1 v1 z1 ∧ N ≤ w.heap.size) : Below N w0 w.drew ∧ w.drew.cell? p0 = some c0 ∧ w.drew.cell? p1 = some c1 ∧ w.drew.cell? p2 = some c2 ∧ w.drew.cell? p3 = some c3 ∧ RdF w.drew b0 v0 z0 ∧ RdB w.drew b1 v1 z1 ∧ N ≤ w.drew.heap.size := by obtain ⟨h0, x0, x1, x2, x3, y0, y1, h5⟩ := h; exact ⟨h0.drew, x0, x1, x2, x3, y0, y1, h5⟩
theorem rdx4_FB_0 {N : Nat} {w0 w : World} {p0 p1 p2 p3 : Addr} {c0 c1 c2 c3 : Value} {b0 : Nat} {v0 : Value} {z0 : List Nat} {b1 : Nat} {v1 : Value} {z1 : List Bool} (h : Below N w0 w ∧ w.cell? p0 = some c0 ∧ w.cell? p1 = some c1 ∧ w.cell? p2 = some c2 ∧ w.cell? p3 = some c3 ∧ RdF w b0 v0 z0 ∧ RdB w b1 v1 z1 ∧ N ≤ w.heap.size) : RdF w b0 v0 z0 := by obtain ⟨h0, x0, x1, x2, x3, y0, y1, h5⟩ := h; exact y0
theorem rdx4_FB_1 {N : Nat} {w0 w : World} {p0 p1 p2 p3 : Addr} {c0 c1 c2 c3 : Value} {b0 : Nat} {v0 : Value} {z0 : List Nat} {b1 : Nat} {v1 : Value} {z1 : List Bool} (h : Below N w0 w ∧ w.cell? p0 = some c0 ∧ w.cell? p1 = some c1 ∧ w.cell? p2 = some c2 ∧ w.cell? p3 = some c3 ∧ RdF w b0 v0 z0 ∧ RdB w b1 v1 z1 ∧ N ≤ w.heap.size) : RdB w b1 v1 z1 := by obtain ⟨h0, x0, x1, x2, x3, y0, y1, h5⟩ := h; exact y1
theorem nx8_FB {N : Nat} {w0 w w' : World} {p0 p1 p2 p3 p4 p5 p6 p7 : Addr} {c0 c1 c2 c3 c4 c5 c6 c7 : Value} {b0 : Nat} {v0 : Value} {z0 : List Nat} {b1 : Nat} {v1 : Value} {z1 : List Bool} (bel : Below w.heap.size w w') (h : Below N w0 w ∧ w.cell? p0 = some c0 ∧ w.cell? p1 = some c1 ∧ w.cell? p2 = some c2 ∧ w.cell? p3 = some c3 ∧ w.cell? p4 = some c4 ∧ w.cell? p5 = some c5 ∧ w.cell? p6 = some c6 ∧ w.cell? p7 = some c7 ∧ RdF w b0 v0 z0 ∧ RdB w b1 v1 z1 ∧ N ≤ w.heap.size) : Below N w0 w' ∧ w'.cell? p0 = some c0 ∧ w'.cell? p1 = some c1 ∧ w'.cell? p2 = some c2 ∧ w'.cell? p3 = some c3 ∧ w'.cell? p4 = some c4 ∧ w'.cell? p5 = some c5 ∧ w'.cell? p6 = some c6 ∧ w'.cell? p7 = some c7 ∧ RdF w' b0 v0 z0 ∧ RdB w' b1 v1 z1 ∧ N ≤ w'.heap.size := by obtain ⟨h0, x0, x1, x2, x3, x4, x5, x6, x7, y0, y1, h5⟩ := h; exact ⟨h0.trans (bel.mono h5), cell_keep bel x0, cell_keep bel x1, cell_keep bel x2, cell_keep bel x3, cell_keep bel x4, cell_keep bel x5, cell_keep bel x6, cell_keep bel x7, y0.keep bel (Nat.le_refl _), y1.keep bel (Nat.le_refl _), Nat.le_trans h5 bel.size⟩
theorem drw8_FB {N : Nat} {w0 w : World} {p0 p1 p2 p3 p4 p5 p6 p7 : Addr} {c0 c1 c2 c3 c4 c5 c6 c7 : Value} {b0 : Nat} {v0 : Value} {z0 : List Nat} {b1 : Nat} {v1 : Value} {z1 : List Bool} (h : Below N w0 w ∧ w.cell? p0 = some c0 ∧ w.cell? p1 = some c1 ∧ w.cell? p2 = some c2 ∧ w.cell? p3 = some c3 ∧ w.cell? p4 = some c4 ∧ w.cell? p5 = some c5 ∧ w.cell? p6 = some c6 ∧ w.cell? p7 = some c7 ∧ RdF w b0 v0 z0 ∧ RdB w b1 v1 z1 ∧ N ≤ w.heap.size) : Below N w0 w.drew ∧ w.drew.cell? p0 = some c0 ∧ w.drew.cell? p1 = some c1 ∧ w.drew.cell? p2 = some c2 ∧ w.drew.cell? p3 = some c3 ∧ w.drew.cell? p4 = some c4 ∧ w.drew.cell? p5 = some c5 ∧ w.drew.cell? p6 = some c6 ∧ w.drew.cell? p7 = some c7 ∧ RdF w.drew b0 v0 z0 ∧ RdB w.drew b1 v1 z1 ∧ N ≤ w.drew.heap.size := by obtain ⟨h0, x0, x1, x2, x3, x4, x5, x6, x7, y0, y1, h5⟩ := h; exact ⟨h0.drew, x0, x1, x2, x3, x4, x5, x6, x7, y0, y1, h5⟩
theorem rdx8_FB_0 {N : Nat} {w0 w : World} {p0 p1 p2 p3 p4 p5 p6 p7 : Addr} {c0 c1 c2 c3 c4 c5 c6 c7 : Value} {b0 : Nat} {v0 : Value} {z0 : List Nat} {b1 : Nat} {v1 : Value} {z1 : List Bool} (h : Below N w0 w ∧ w.cell? p0 = some c0 ∧ w.cell? p1 = some c1 ∧ w.cell? p2 = some c2 ∧ w.cell? p3 = some c3 ∧ w.cell? p4 = some c4 ∧ w.cell? p5 = some c5 ∧ w.cell? p6 = some c6 ∧ w.cell? p7 = some c7 ∧ RdF w b0 v0 z0 ∧ RdB w b1 v1 z1 ∧ N ≤ w.heap.size) : RdF w b0 v0 z0 := by obtain ⟨h0, x0, x1, x2, x3, x4, x5, x6, x7, y0, y1, h5⟩ := h; exact y0
theorem rdx8_FB_1 {N : Nat} {w0 w : World} {p0 p1 p2 p3 p4 p5 p6 p7 : Addr} {c0 c1 c2 c3 c4 c5 c6 c7 : Value} {b0 : Nat} {v0 : Value} {z0 : List Nat} {b1 : Nat} {v1 : Value} {z1 : List Bool} (h : Below N w0 w ∧ w.cell? p0 = some c0 ∧ w.cell? p1 = some c1 ∧ w.cell? p2 = some c2 ∧ w.cell? p3 = some c3 ∧ w.cell? p4 = some c4 ∧ w.cell? p5 = some c5 ∧ w.cell? p6 = some c6 ∧ w.cell? p7 = some c7 ∧ RdF w b0 v0 z0 ∧ RdB w b1 v1 z1 ∧ N ≤ w.heap.size) : RdB w b1 v1 z1 := by obtain ⟨h0, x0, x1, x2, x3, x4, x5, x6, x7, y0, y1, h5⟩ := h; exact y1

set_option maxHeartbeats 16000000 in
theorem walk {w : World} {s0 : Int} (fs0 : (Lit.int .i64 s0).wf = true) {r0 : Int} (fr0 : (Lit.int .i64 r0).wf = true) {b0x : Nat} {v0x : Value} {z0x : List Nat} (h0x : RdF w b0x v0x z0x) {b0y : Nat} {v0y : Value} {z0y : List Bool} (h0y : RdB w b0y v0y z0y) :
    Calls Try.prog 5 #[flowV s0 r0 v0x v0y] w fun e w' => e = .returned (.bool true) ∧ Below w.heap.size w w' := by
  obtain ⟨ao0x, cap0x, e0x, kc0x, mc0x, _⟩ := id h0x
  have H0x : Hid (RdF w b0x v0x z0x) := h0x
  subst e0x; clear h0x
  have nb0x : z0x.length ≤ 9223372036854775807 := by unfold maxLen at mc0x; omega
  clear kc0x mc0x
  obtain ⟨ao0y, cap0y, e0y, kc0y, mc0y, _⟩ := id h0y
  have H0y : Hid (RdB w b0y v0y z0y) := h0y
  subst e0y; clear h0y
  have nb0y : z0y.length ≤ 9223372036854775807 := by unfold maxLen at mc0y; omega
  clear kc0y mc0y
  by_cases hs0 : (z0x.length : Int) + (z0y.length : Int) ≤ 1048576
  rotate_left 1
  · go_enter Try.func5, Try.ntmps5
    go_wp2_with fail
    obtain ⟨w1, hW⟩ : ∃ w1, w1 = (w.alloc (Obj.cells #[.int .i64 s0, .int .i64 r0, (Value.slice ao0x z0x.length cap0x), (Value.slice ao0y z0y.length cap0y)] 34)) := ⟨_, rfl⟩
    obtain ⟨N0, hN0⟩ : ∃ N0, N0 = w.heap.size := ⟨_, rfl⟩
    have st : Below w.heap.size w w1 ∧ w1.cell? ⟨N0, 0, none⟩ = some (.int .i64 s0) ∧ w1.cell? ⟨N0, 1, none⟩ = some (.int .i64 r0) ∧ w1.cell? ⟨N0, 2, none⟩ = some ((Value.slice ao0x z0x.length cap0x)) ∧ w1.cell? ⟨N0, 3, none⟩ = some ((Value.slice ao0y z0y.length cap0y)) ∧ RdF w1 b0x (Value.slice ao0x z0x.length cap0x) z0x ∧ RdB w1 b0y (Value.slice ao0y z0y.length cap0y) z0y ∧ w.heap.size ≤ w1.heap.size := by
      rw [hW, hN0]
      exact ⟨Rule.below1 _ _, by simp, by simp, by simp, by simp, H0x.out.keep (Rule.below1 _ _) (Nat.le_refl _), H0y.out.keep (Rule.below1 _ _) (Nat.le_refl _), by simp <;> omega⟩
    simp only [← hW, ← hN0]
    clear hW hN0
    go_at_call 22
    refine (szFl_no nb0x nb0y (q := 1048576) (by omega) (by omega) (by omega)).mono ?_
    rintro e w2 ⟨rfl, bel⟩
    replace st := nx4_FB bel st
    clear bel
    go_wp2
    go_ret
    exact ⟨rfl, st.1⟩
  have hl0x : z0x.length ≤ 1048576 := by omega
  have HL0x : Hid (z0x.length ≤ 1048576) := hl0x
  have hl0y : z0y.length ≤ 1048576 := by omega
  have HL0y : Hid (z0y.length ≤ 1048576) := hl0y
  obtain ⟨q0, q1, hspec, himpl⟩ := agree s0 r0 z0x z0y hl0x hl0y
  have HSp := hid @hspec
  have HIm := hid @himpl
  clear hspec himpl hl0x hl0y
  go_enter Try.func5, Try.ntmps5
  go_wp2_with fail
  obtain ⟨w1, hW⟩ : ∃ w1, w1 = (w.alloc (Obj.cells #[.int .i64 s0, .int .i64 r0, (Value.slice ao0x z0x.length cap0x), (Value.slice ao0y z0y.length cap0y)] 34)) := ⟨_, rfl⟩
  obtain ⟨N0, hN0⟩ : ∃ N0, N0 = w.heap.size := ⟨_, rfl⟩
  have st : Below w.heap.size w w1 ∧ w1.cell? ⟨N0, 0, none⟩ = some (.int .i64 s0) ∧ w1.cell? ⟨N0, 1, none⟩ = some (.int .i64 r0) ∧ w1.cell? ⟨N0, 2, none⟩ = some ((Value.slice ao0x z0x.length cap0x)) ∧ w1.cell? ⟨N0, 3, none⟩ = some ((Value.slice ao0y z0y.length cap0y)) ∧ RdF w1 b0x (Value.slice ao0x z0x.length cap0x) z0x ∧ RdB w1 b0y (Value.slice ao0y z0y.length cap0y) z0y ∧ w.heap.size ≤ w1.heap.size := by
    rw [hW, hN0]
    exact ⟨Rule.below1 _ _, by simp, by simp, by simp, by simp, H0x.out.keep (Rule.below1 _ _) (Nat.le_refl _), H0y.out.keep (Rule.below1 _ _) (Nat.le_refl _), by simp <;> omega⟩
  simp only [← hW, ← hN0]
  clear hW hN0
  go_at_call 22
  refine (szFl_ok nb0x nb0y (q := 1048576) (by omega) (by omega) (by omega)).mono ?_
  rintro e w2 ⟨rfl, bel⟩
  replace st := nx4_FB bel st
  clear bel
  go_wp2_with fail
  go_at_call 24
  refine (toFl (rdx4_FB_0 st) (rdx4_FB_1 st) HL0x.out HL0y.out).mono ?_
  rintro e w3 ⟨bp0x, bp0y, rfl, op0x, op0y, lo, lt, bel⟩
  replace st := nx4_FB bel st
  clear bel
  clear lo lt
  go_wp2_with fail
  go_at_call 23
  refine (HSp.out _ _ _ op0x.rd _ _ op0y.rd).mono ?_
  rintro e w4 ⟨fW0, rfl, hW0, bel⟩
  replace st := nx4_FB bel st
  replace op0x := op0x.keep bel
  replace op0y := op0y.keep bel
  clear bel
  clear op0x
  clear op0y
  go_wp2_with fail
  go_at_call 24
  refine (toFl (rdx4_FB_0 st) (rdx4_FB_1 st) HL0x.out HL0y.out).mono ?_
  rintro e w5 ⟨bx0x, bx0y, rfl, ox0x, ox0y, lo, lt, bel⟩
  replace st := nx4_FB bel st
  clear bel
  clear lo lt
  obtain ⟨w7, hW⟩ : ∃ w7, w7 = w5.alloc (Obj.cells #[.int .i64 s0, .int .i64 r0, (Value.slice (some ⟨bx0x, 0, none⟩) z0x.length z0x.length), (Value.slice (some ⟨bx0y, 0, none⟩) z0y.length z0y.length)] 37) := ⟨_, rfl⟩
  obtain ⟨NX0, hN⟩ : ∃ NX0, NX0 = w5.heap.size := ⟨_, rfl⟩
  have bel : Below w5.heap.size w5 w7 := by rw [hW]; exact Rule.below1 _ _
  have st' : Below w.heap.size w w7 ∧ w7.cell? ⟨N0, 0, none⟩ = some (.int .i64 s0) ∧ w7.cell? ⟨N0, 1, none⟩ = some (.int .i64 r0) ∧ w7.cell? ⟨N0, 2, none⟩ = some ((Value.slice ao0x z0x.length cap0x)) ∧ w7.cell? ⟨N0, 3, none⟩ = some ((Value.slice ao0y z0y.length cap0y)) ∧ w7.cell? ⟨NX0, 0, none⟩ = some (.int .i64 s0) ∧ w7.cell? ⟨NX0, 1, none⟩ = some (.int .i64 r0) ∧ w7.cell? ⟨NX0, 2, none⟩ = some ((Value.slice (some ⟨bx0x, 0, none⟩) z0x.length z0x.length)) ∧ w7.cell? ⟨NX0, 3, none⟩ = some ((Value.slice (some ⟨bx0y, 0, none⟩) z0y.length z0y.length)) ∧ RdF w7 b0x (Value.slice ao0x z0x.length cap0x) z0x ∧ RdB w7 b0y (Value.slice ao0y z0y.length cap0y) z0y ∧ w.heap.size ≤ w7.heap.size := by
    obtain ⟨t0, c0, c1, c2, c3, d0, d1, tz⟩ := nx4_FB bel st
    exact ⟨t0, c0, c1, c2, c3, by rw [hW, hN]; simp, by rw [hW, hN]; simp, by rw [hW, hN]; simp, by rw [hW, hN]; simp, d0, d1, tz⟩
  replace ox0x := ox0x.keep bel
  replace ox0y := ox0y.keep bel
  clear st bel; have st := st'; clear st'
  have stp := st
  rw [hW, hN] at stp
  go_wp2_with fail
  clear stp
  simp only [← hW, ← hN]
  clear hW hN
  go_at_call 25
  refine (HIm.out _ _ _ ox0x.rd _ _ ox0y.rd).mono ?_
  rintro e w6 ⟨fG0, rfl, hG0, bel⟩
  replace st := nx8_FB bel st
  replace ox0x := ox0x.keep bel
  replace ox0y := ox0y.keep bel
  clear bel
  go_wp2_with (first | (refine wpList_fconv rfl _ _ _ rfl _ _ _ rfl (by rw [Try.underlying23]; rfl) Try.underlying28 hG0 (fits_widen_is hG0) ?_; intro cG0 mG0 iG0) | (refine wpList_fconv rfl _ _ _ rfl _ _ _ rfl (by rw [Try.underlying23]; rfl) Try.underlying28 hW0 (fits_widen_is hW0) ?_; intro cW0 mW0 iW0) | (go_at_call 18; refine (sameFloat _ iG0 iW0).mono ?_; rintro e wS ⟨rfl, mS0, rfl⟩))
  have bel : Below w6.heap.size w6 (w6.drewN (mG0 + mW0 + mS0)) := ⟨rfl, rfl, rfl, Nat.le_refl _, fun _ _ => rfl⟩
  obtain ⟨w8, hW⟩ : ∃ w8, w8 = w6.drewN (mG0 + mW0 + mS0) := ⟨_, rfl⟩
  rw [← hW] at bel ⊢
  clear hW
  replace st := nx8_FB bel st
  replace ox0x := ox0x.keep bel
  replace ox0y := ox0y.keep bel
  clear bel
  go_wp2_with fail
  refine wp_region_held_drew (S := (fun ww => Below w.heap.size w ww ∧ ww.cell? ⟨N0, 0, none⟩ = some (.int .i64 s0) ∧ ww.cell? ⟨N0, 1, none⟩ = some (.int .i64 r0) ∧ ww.cell? ⟨N0, 2, none⟩ = some ((Value.slice ao0x z0x.length cap0x)) ∧ ww.cell? ⟨N0, 3, none⟩ = some ((Value.slice ao0y z0y.length cap0y)) ∧ ww.cell? ⟨NX0, 0, none⟩ = some (.int .i64 s0) ∧ ww.cell? ⟨NX0, 1, none⟩ = some (.int .i64 r0) ∧ ww.cell? ⟨NX0, 2, none⟩ = some ((Value.slice (some ⟨bx0x, 0, none⟩) z0x.length z0x.length)) ∧ ww.cell? ⟨NX0, 3, none⟩ = some ((Value.slice (some ⟨bx0y, 0, none⟩) z0y.length z0y.length)) ∧ RdF ww b0x (Value.slice ao0x z0x.length cap0x) z0x ∧ RdB ww b0y (Value.slice ao0y z0y.length cap0y) z0y ∧ w.heap.size ≤ ww.heap.size)) (by kernel_rfl) ?_ (fun hHeld => ?_)
  · ((try dsimp only); exact drw8_FB st)
  first | (refine wpAnyH_take (i := 0) (v := ?_) rfl ?_ ?_ ?_ (fun _ _ _ h => h) (Or.inl ⟨?_, ?_⟩) ?_ ?_; rotate_left 1; (focus decide +kernel); (focus decide +kernel); (focus decide +kernel); (focus rfl); (focus (intro w hSw; (try dsimp only at hSw); go_simp; (try (with_reducible rfl)); done)); (focus assumption); (try simp only [Act.put, List.setIfInBounds_toArray, List.set_cons_zero, List.set_cons_succ, List.getElem_toArray, List.getElem_cons_succ, List.getElem_cons_zero])) | (refine wpAnyH_take (i := 0) (v := undef) rfl ?_ ?_ ?_ (fun _ _ _ h => h) (Or.inr ⟨?_, rfl⟩) ?_ ?_; (focus decide +kernel); (focus decide +kernel); (focus decide +kernel); (focus rfl); (focus assumption); (try simp only [Act.put, List.setIfInBounds_toArray, List.set_cons_zero, List.set_cons_succ, List.getElem_toArray, List.getElem_cons_succ, List.getElem_cons_zero])) | skip
  first | (refine wpAnyH_take (i := 1) (v := ?_) rfl ?_ ?_ ?_ (fun _ _ _ h => h) (Or.inl ⟨?_, ?_⟩) ?_ ?_; rotate_left 1; (focus decide +kernel); (focus decide +kernel); (focus decide +kernel); (focus rfl); (focus (intro w hSw; (try dsimp only at hSw); go_simp; (try (with_reducible rfl)); done)); (focus assumption); (try simp only [Act.put, List.setIfInBounds_toArray, List.set_cons_zero, List.set_cons_succ, List.getElem_toArray, List.getElem_cons_succ, List.getElem_cons_zero])) | (refine wpAnyH_take (i := 1) (v := undef) rfl ?_ ?_ ?_ (fun _ _ _ h => h) (Or.inr ⟨?_, rfl⟩) ?_ ?_; (focus decide +kernel); (focus decide +kernel); (focus decide +kernel); (focus rfl); (focus assumption); (try simp only [Act.put, List.setIfInBounds_toArray, List.set_cons_zero, List.set_cons_succ, List.getElem_toArray, List.getElem_cons_succ, List.getElem_cons_zero])) | skip
  first | (refine wpAnyH_take (i := 4) (v := ?_) rfl ?_ ?_ ?_ (fun _ _ _ h => h) (Or.inl ⟨?_, ?_⟩) ?_ ?_; rotate_left 1; (focus decide +kernel); (focus decide +kernel); (focus decide +kernel); (focus rfl); (focus (intro w hSw; (try dsimp only at hSw); go_simp; (try (with_reducible rfl)); done)); (focus assumption); (try simp only [Act.put, List.setIfInBounds_toArray, List.set_cons_zero, List.set_cons_succ, List.getElem_toArray, List.getElem_cons_succ, List.getElem_cons_zero])) | (refine wpAnyH_take (i := 4) (v := undef) rfl ?_ ?_ ?_ (fun _ _ _ h => h) (Or.inr ⟨?_, rfl⟩) ?_ ?_; (focus decide +kernel); (focus decide +kernel); (focus decide +kernel); (focus rfl); (focus assumption); (try simp only [Act.put, List.setIfInBounds_toArray, List.set_cons_zero, List.set_cons_succ, List.getElem_toArray, List.getElem_cons_succ, List.getElem_cons_zero])) | skip
  first | (refine wpAnyH_take (i := 2) (v := undef) rfl ?_ ?_ ?_ (fun _ _ _ h => h) (Or.inr ⟨?_, rfl⟩) ?_ ?_; (focus decide +kernel); (focus decide +kernel); (focus decide +kernel); (focus rfl); (focus assumption); (try simp only [Act.put, List.setIfInBounds_toArray, List.set_cons_zero, List.set_cons_succ, List.getElem_toArray, List.getElem_cons_succ, List.getElem_cons_zero])) | (refine wpAnyH_ready (rs := [2]) ?_ (by simp) ?_; (focus decide +kernel); refine AllReadyH.cons rfl (fun K hK => ?_) AllReadyH.nil; go_simp; (go_at_call 24; refine (toFl (rdx8_FB_0 hHeld) (rdx8_FB_1 hHeld) HL0x.out HL0y.out).mono ?_; rintro e w9 ⟨by0x, by0y, rfl, oy0x, oy0y, lo, lt, bel⟩; replace ox0x : OwnF 23 w8.drew bx0x (Value.slice (some ⟨bx0x, 0, none⟩) z0x.length z0x.length) z0x := ox0x; replace ox0y : OwnB 4 w8.drew bx0y (Value.slice (some ⟨bx0y, 0, none⟩) z0y.length z0y.length) z0y := ox0y; replace ox0x := ox0x.keep bel; replace ox0y := ox0y.keep bel; clear lo lt); refine hK.out _ _ ?_ (fun hHeld => ?_); ((try dsimp only); exact nx8_FB bel hHeld); clear hK K; (try simp only [Act.put, List.setIfInBounds_toArray, List.set_cons_zero, List.set_cons_succ, List.getElem_toArray, List.getElem_cons_succ, List.getElem_cons_zero]))
  first | (refine wpAnyH_take (i := 4) (v := ?_) rfl ?_ ?_ ?_ (fun _ _ _ h => h) (Or.inl ⟨?_, ?_⟩) ?_ ?_; rotate_left 1; (focus decide +kernel); (focus decide +kernel); (focus decide +kernel); (focus rfl); (focus (intro w hSw; (try dsimp only at hSw); go_simp; (try (with_reducible rfl)); done)); (focus assumption); (try simp only [Act.put, List.setIfInBounds_toArray, List.set_cons_zero, List.set_cons_succ, List.getElem_toArray, List.getElem_cons_succ, List.getElem_cons_zero])) | (refine wpAnyH_take (i := 4) (v := undef) rfl ?_ ?_ ?_ (fun _ _ _ h => h) (Or.inr ⟨?_, rfl⟩) ?_ ?_; (focus decide +kernel); (focus decide +kernel); (focus decide +kernel); (focus rfl); (focus assumption); (try simp only [Act.put, List.setIfInBounds_toArray, List.set_cons_zero, List.set_cons_succ, List.getElem_toArray, List.getElem_cons_succ, List.getElem_cons_zero])) | skip
  first | (refine wpAnyH_take (i := 3) (v := undef) rfl ?_ ?_ ?_ (fun _ _ _ h => h) (Or.inr ⟨?_, rfl⟩) ?_ ?_; (focus decide +kernel); (focus decide +kernel); (focus decide +kernel); (focus rfl); (focus assumption); (try simp only [Act.put, List.setIfInBounds_toArray, List.set_cons_zero, List.set_cons_succ, List.getElem_toArray, List.getElem_cons_succ, List.getElem_cons_zero])) | (refine wpAnyH_ready (rs := [3]) ?_ (by simp) ?_; (focus decide +kernel); refine AllReadyH.cons rfl (fun K hK => ?_) AllReadyH.nil; go_simp; (go_at_call 26; refine (eqFl ox0x.rd ox0y.rd oy0x.rd oy0y.rd).mono ?_; rintro e w10 ⟨rfl, bel⟩; replace ox0x := ox0x.keep bel; replace ox0y := ox0y.keep bel; clear oy0x oy0y); refine hK.out _ _ ?_ (fun hHeld => ?_); ((try dsimp only); exact nx8_FB bel hHeld); clear hK K; (try simp only [Act.put, List.setIfInBounds_toArray, List.set_cons_zero, List.set_cons_succ, List.getElem_toArray, List.getElem_cons_succ, List.getElem_cons_zero]))
  first | (refine wpAnyH_take (i := 4) (v := ?_) rfl ?_ ?_ ?_ (fun _ _ _ h => h) (Or.inl ⟨?_, ?_⟩) ?_ ?_; rotate_left 1; (focus decide +kernel); (focus decide +kernel); (focus decide +kernel); (focus rfl); (focus (intro w hSw; (try dsimp only at hSw); go_simp; (try (with_reducible rfl)); done)); (focus assumption); (try simp only [Act.put, List.setIfInBounds_toArray, List.set_cons_zero, List.set_cons_succ, List.getElem_toArray, List.getElem_cons_succ, List.getElem_cons_zero])) | (refine wpAnyH_take (i := 4) (v := undef) rfl ?_ ?_ ?_ (fun _ _ _ h => h) (Or.inr ⟨?_, rfl⟩) ?_ ?_; (focus decide +kernel); (focus decide +kernel); (focus decide +kernel); (focus rfl); (focus assumption); (try simp only [Act.put, List.setIfInBounds_toArray, List.set_cons_zero, List.set_cons_succ, List.getElem_toArray, List.getElem_cons_succ, List.getElem_cons_zero])) | skip
  refine wpAnyH_done (by kernel_rfl) ?_ _
  clear st; have st := hHeld; clear hHeld
  go_wp2
  go_ret
  exact ⟨rfl, And.left st⟩

set_option maxRecDepth 100000 in
theorem lifted (os : Os) (started : os.Started) (H : Type) (enc : TypeId × Value → H) :
    ReturnsInHanded {} Try.checked os 5 .any (Rows.fnExactMassOfSpec.pre6 enc Try.prog Try.f5 Rows.fnExactMassOfRow.domain false) (Rows.fnExactMassOfSpec.post enc Try.prog Try.f5 false true false false) := by
  refine returnsInHanded_of_change (C := Try.checked) own started (by kernel_rfl) Try.func5
    (ChangeSpec.witness6 (enc := enc) (C := Try.checked) false ⟨#[], #[.agg #[.int .i64 0, .int .i64 0, .slice none 0 0, .slice none 0 0]], []⟩ 8 (by kernel_rfl) (by kernel_rfl) (by kernel_rfl) (by kernel_rfl)) ?_
  intro W base args ds gs before hval0 hW hcnd hreach
  have hval : ∀ (j : Nat) t v, Try.f5.params[j]? = some t → args[j]? = some v → Value.okWide Try.prog W .any base t v := hval0
  have hW' := hW
  obtain ⟨p, q, hA0, hV, rfl, hfz, hnd⟩ := hW
  have hA : DataW.TrodAll enc Try.prog W 0 (fun _ => true) true Try.f5.params.toList args.toList ds p := hA0
  rw [Try.params5] at hA hval
  obtain ⟨v0, vs0, d0, ds0, p0, q0, hargs, rfl, rfl, h0, r0⟩ := trodAll_cons hA
  obtain ⟨rfl, rfl, rfl⟩ := trodAll_nil r0
  obtain rfl : args = #[v0] := by cases args; simp_all
  obtain ⟨rfl, rfl⟩ := trodVars_none hV
  have k0 := h0
  have lt0 : ∀ x ∈ p0, x.block < W.heap.size := by obtain ⟨m, hm⟩ := k0; exact DataW.trod_lt m _ _ _ hm
  obtain ⟨c00, c01, c02, c03, m0, rfl, ⟨y00, t00⟩, ⟨y01, t01⟩, ⟨y02, t02⟩, ⟨y03, t03⟩⟩ := open_four Try.underlying34 (by kernel_rfl) (by kernel_rfl) (hval 0 34 v0 rfl rfl) h0
  obtain ⟨a00, e00, _, w00⟩ := DataW.trod_int Try.underlying2 t00
  simp at e00
  subst e00
  obtain ⟨a01, e01, _, w01⟩ := DataW.trod_int Try.underlying2 t01
  simp at e01
  subst e01
  obtain ⟨a02, len02, cap02, e02⟩ := slice_form Try.underlying22 t02
  simp at e02
  subst e02
  obtain ⟨b02, z02, _, w02⟩ : ∃ b zs, zs.length = len02 ∧ RdF W b (.slice a02 len02 cap02) zs := rdF_open Try.underlying22 Try.underlying23 (by kernel_rfl) t02
  obtain ⟨a03, len03, cap03, e03⟩ := slice_form Try.underlying32 t03
  simp at e03
  subst e03
  obtain ⟨b03, z03, _, w03⟩ : ∃ b zs, zs.length = len03 ∧ RdB W b (.slice a03 len03 cap03) zs := rdB_open Try.underlying32 Try.underlying4 (by kernel_rfl) t03
  clear hA0 hval0
  refine (walk w00 w01 w02 w03).mono fun e W' ⟨he, bel⟩ => ?_
  subst he
  exact ⟨_, rfl, _, _, _, [], _, [], hW', trodAll_mk1 (shut_bool Try.underlying4 _), (trodAll_cons_mk (Below.trod laidOut (by kernel_rfl) (of_decide_eq_true (by kernel_rfl)) k0 bel lt0) (trodAll_mk0)), rfl, bel.frame _, fun h => by cases h⟩

theorem over : Rows.fnExactMassOfRow.holds Try.pinned (OpenSpec.ofChange Rows.fnExactMassOfSpec) :=
  OpenClaim.holds_of_wide 5 Try.f5 rfl rfl rfl rfl rfl rfl rfl ⟨rfl, rfl, rfl, rfl, rfl⟩ rfl rfl rfl rfl rfl (by kernel_rfl) Try.func5 (by unfold joinedFacts; rw [MayA.fact, MayB.fact, MayC.fact]; kernel_rfl)
    (of_decide_eq_true (by kernel_rfl)) (by unfold Func.isWrapper; rw [if_neg (of_decide_eq_false (by kernel_rfl))]; exact ⟨rfl, rfl⟩)
    (fun os started H enc _ => lifted os started H enc)

theorem proved : Rows.FnExactMassOfSaid := over
end Go.Proofs.Ytejchjjkehmgaaa.lawMassOf
