/- FnExactSumRule: at every argument impl.SumRule answers as the model, changes no argument, and its answer owns its memory. -/
import Derived.Test.YtiijabiijkdhcaaRows
import Derived.Test.YtiijabiijkdhcaaLawKit
import Derived.Test.YtiijabiijkdhcaaRuleKit
import Derived.Test.YtiijabiijkdhcaaSumLaw
import Derived.WalkKit
import Derived.WalkLawsBesides
import Derived.ProofKit
import Derived.OpenShut
import Derived.ShutString
import Derived.ChangeOld
import Derived.Below
import Derived.IntWalk
import Derived.Lib.SmallJoins
namespace Go.Proofs.Ytiijabiijkdhcaa.lawSumRule
open Go.ChangeShapes Go.WideShapes Go.ChangeAt Go.RowKit Go.Joins Go.Proofs.Ytiijabiijkdhcaa.Rd Go.Proofs.Ytiijabiijkdhcaa.Help Go.Proofs.Ytiijabiijkdhcaa.Keep
set_option linter.unusedVariables false
set_option linter.unusedSimpArgs false
theorem own : ownKnob Try.prog.godebug = none := by kernel_rfl
theorem laidOut : laidOutB Try.prog = true := by kernel_rfl
theorem agree (s : Int) (zs : List Int) (hz : zs.length ≤ 1048576) : ∃ (qs qr : Int) (rs : List Int) (ok : Bool), rs.length ≤ 1000000 ∧
    (∀ (w : World) (b : Nat) (v : Value), Rd w b v zs → Calls Try.prog 28 #[.int .i64 s, v] w fun e w' => ∃ ao c b', e = .returned (.tuple #[Rule.ruleV qs qr (.slice ao rs.length c), .bool ok]) ∧ Own 2 w' b' (.slice ao rs.length c) rs ∧ w.heap.size ≤ b' ∧ Below w.heap.size w w') ∧
    (∀ (w : World) (b : Nat) (v : Value), Rd w b v zs → Calls Try.prog 29 #[.int .i64 s, v] w fun e w' => ∃ ao c b', e = .returned (.tuple #[Rule.ruleV qs qr (.slice ao rs.length c), .bool ok]) ∧ Own 2 w' b' (.slice ao rs.length c) rs ∧ w.heap.size ≤ b' ∧ Below w.heap.size w w') := SumLaw.agree s zs hz

theorem mcellB {w w' : World} {c n i : Nat} {u v : Value} (g : w.grownBy w' (some c)) (gn : v = .slice none 0 0 → Below w.heap.size w w') (h : w.cell? ⟨n, i, none⟩ = some u) (hne : v = .slice none 0 0 ∨ n ≠ c) : w'.cell? ⟨n, i, none⟩ = some u := by
  rcases hne with hv | hne
  · exact cell_keep (gn hv) h
  · exact mcell g h hne
theorem nx0_1 {N : Nat} {w0 w w' : World} {b0 : Nat} {v0 : Value} {z0 : List Int} (bel : Below w.heap.size w w') (h : Below N w0 w ∧ Rd w b0 v0 z0 ∧ N ≤ w.heap.size) : Below N w0 w' ∧ Rd w' b0 v0 z0 ∧ N ≤ w'.heap.size := by obtain ⟨h0, y0, h5⟩ := h; exact ⟨h0.trans (bel.mono h5), y0.keep bel (Nat.le_refl _), Nat.le_trans h5 bel.size⟩
theorem drw0_1 {N : Nat} {w0 w : World} {b0 : Nat} {v0 : Value} {z0 : List Int} (h : Below N w0 w ∧ Rd w b0 v0 z0 ∧ N ≤ w.heap.size) : Below N w0 w.drew ∧ Rd w.drew b0 v0 z0 ∧ N ≤ w.drew.heap.size := by obtain ⟨h0, y0, h5⟩ := h; exact ⟨h0.drew, y0, h5⟩
theorem rdx0_1_0 {N : Nat} {w0 w : World} {b0 : Nat} {v0 : Value} {z0 : List Int} (h : Below N w0 w ∧ Rd w b0 v0 z0 ∧ N ≤ w.heap.size) : Rd w b0 v0 z0 := by obtain ⟨h0, y0, h5⟩ := h; exact y0
theorem nx3_1 {N : Nat} {w0 w w' : World} {p0 p1 p2 : Addr} {c0 c1 c2 : Value} {b0 : Nat} {v0 : Value} {z0 : List Int} (bel : Below w.heap.size w w') (h : Below N w0 w ∧ w.cell? p0 = some c0 ∧ w.cell? p1 = some c1 ∧ w.cell? p2 = some c2 ∧ Rd w b0 v0 z0 ∧ N ≤ w.heap.size) : Below N w0 w' ∧ w'.cell? p0 = some c0 ∧ w'.cell? p1 = some c1 ∧ w'.cell? p2 = some c2 ∧ Rd w' b0 v0 z0 ∧ N ≤ w'.heap.size := by obtain ⟨h0, x0, x1, x2, y0, h5⟩ := h; exact ⟨h0.trans (bel.mono h5), cell_keep bel x0, cell_keep bel x1, cell_keep bel x2, y0.keep bel (Nat.le_refl _), Nat.le_trans h5 bel.size⟩
theorem drw3_1 {N : Nat} {w0 w : World} {p0 p1 p2 : Addr} {c0 c1 c2 : Value} {b0 : Nat} {v0 : Value} {z0 : List Int} (h : Below N w0 w ∧ w.cell? p0 = some c0 ∧ w.cell? p1 = some c1 ∧ w.cell? p2 = some c2 ∧ Rd w b0 v0 z0 ∧ N ≤ w.heap.size) : Below N w0 w.drew ∧ w.drew.cell? p0 = some c0 ∧ w.drew.cell? p1 = some c1 ∧ w.drew.cell? p2 = some c2 ∧ Rd w.drew b0 v0 z0 ∧ N ≤ w.drew.heap.size := by obtain ⟨h0, x0, x1, x2, y0, h5⟩ := h; exact ⟨h0.drew, x0, x1, x2, y0, h5⟩
theorem rdx3_1_0 {N : Nat} {w0 w : World} {p0 p1 p2 : Addr} {c0 c1 c2 : Value} {b0 : Nat} {v0 : Value} {z0 : List Int} (h : Below N w0 w ∧ w.cell? p0 = some c0 ∧ w.cell? p1 = some c1 ∧ w.cell? p2 = some c2 ∧ Rd w b0 v0 z0 ∧ N ≤ w.heap.size) : Rd w b0 v0 z0 := by obtain ⟨h0, x0, x1, x2, y0, h5⟩ := h; exact y0
theorem nx6_1 {N : Nat} {w0 w w' : World} {p0 p1 p2 p3 p4 p5 : Addr} {c0 c1 c2 c3 c4 c5 : Value} {b0 : Nat} {v0 : Value} {z0 : List Int} (bel : Below w.heap.size w w') (h : Below N w0 w ∧ w.cell? p0 = some c0 ∧ w.cell? p1 = some c1 ∧ w.cell? p2 = some c2 ∧ w.cell? p3 = some c3 ∧ w.cell? p4 = some c4 ∧ w.cell? p5 = some c5 ∧ Rd w b0 v0 z0 ∧ N ≤ w.heap.size) : Below N w0 w' ∧ w'.cell? p0 = some c0 ∧ w'.cell? p1 = some c1 ∧ w'.cell? p2 = some c2 ∧ w'.cell? p3 = some c3 ∧ w'.cell? p4 = some c4 ∧ w'.cell? p5 = some c5 ∧ Rd w' b0 v0 z0 ∧ N ≤ w'.heap.size := by obtain ⟨h0, x0, x1, x2, x3, x4, x5, y0, h5⟩ := h; exact ⟨h0.trans (bel.mono h5), cell_keep bel x0, cell_keep bel x1, cell_keep bel x2, cell_keep bel x3, cell_keep bel x4, cell_keep bel x5, y0.keep bel (Nat.le_refl _), Nat.le_trans h5 bel.size⟩
theorem drw6_1 {N : Nat} {w0 w : World} {p0 p1 p2 p3 p4 p5 : Addr} {c0 c1 c2 c3 c4 c5 : Value} {b0 : Nat} {v0 : Value} {z0 : List Int} (h : Below N w0 w ∧ w.cell? p0 = some c0 ∧ w.cell? p1 = some c1 ∧ w.cell? p2 = some c2 ∧ w.cell? p3 = some c3 ∧ w.cell? p4 = some c4 ∧ w.cell? p5 = some c5 ∧ Rd w b0 v0 z0 ∧ N ≤ w.heap.size) : Below N w0 w.drew ∧ w.drew.cell? p0 = some c0 ∧ w.drew.cell? p1 = some c1 ∧ w.drew.cell? p2 = some c2 ∧ w.drew.cell? p3 = some c3 ∧ w.drew.cell? p4 = some c4 ∧ w.drew.cell? p5 = some c5 ∧ Rd w.drew b0 v0 z0 ∧ N ≤ w.drew.heap.size := by obtain ⟨h0, x0, x1, x2, x3, x4, x5, y0, h5⟩ := h; exact ⟨h0.drew, x0, x1, x2, x3, x4, x5, y0, h5⟩
theorem rdx6_1_0 {N : Nat} {w0 w : World} {p0 p1 p2 p3 p4 p5 : Addr} {c0 c1 c2 c3 c4 c5 : Value} {b0 : Nat} {v0 : Value} {z0 : List Int} (h : Below N w0 w ∧ w.cell? p0 = some c0 ∧ w.cell? p1 = some c1 ∧ w.cell? p2 = some c2 ∧ w.cell? p3 = some c3 ∧ w.cell? p4 = some c4 ∧ w.cell? p5 = some c5 ∧ Rd w b0 v0 z0 ∧ N ≤ w.heap.size) : Rd w b0 v0 z0 := by obtain ⟨h0, x0, x1, x2, x3, x4, x5, y0, h5⟩ := h; exact y0
theorem nx9_1 {N : Nat} {w0 w w' : World} {p0 p1 p2 p3 p4 p5 p6 p7 p8 : Addr} {c0 c1 c2 c3 c4 c5 c6 c7 c8 : Value} {b0 : Nat} {v0 : Value} {z0 : List Int} (bel : Below w.heap.size w w') (h : Below N w0 w ∧ w.cell? p0 = some c0 ∧ w.cell? p1 = some c1 ∧ w.cell? p2 = some c2 ∧ w.cell? p3 = some c3 ∧ w.cell? p4 = some c4 ∧ w.cell? p5 = some c5 ∧ w.cell? p6 = some c6 ∧ w.cell? p7 = some c7 ∧ w.cell? p8 = some c8 ∧ Rd w b0 v0 z0 ∧ N ≤ w.heap.size) : Below N w0 w' ∧ w'.cell? p0 = some c0 ∧ w'.cell? p1 = some c1 ∧ w'.cell? p2 = some c2 ∧ w'.cell? p3 = some c3 ∧ w'.cell? p4 = some c4 ∧ w'.cell? p5 = some c5 ∧ w'.cell? p6 = some c6 ∧ w'.cell? p7 = some c7 ∧ w'.cell? p8 = some c8 ∧ Rd w' b0 v0 z0 ∧ N ≤ w'.heap.size := by obtain ⟨h0, x0, x1, x2, x3, x4, x5, x6, x7, x8, y0, h5⟩ := h; exact ⟨h0.trans (bel.mono h5), cell_keep bel x0, cell_keep bel x1, cell_keep bel x2, cell_keep bel x3, cell_keep bel x4, cell_keep bel x5, cell_keep bel x6, cell_keep bel x7, cell_keep bel x8, y0.keep bel (Nat.le_refl _), Nat.le_trans h5 bel.size⟩
theorem drw9_1 {N : Nat} {w0 w : World} {p0 p1 p2 p3 p4 p5 p6 p7 p8 : Addr} {c0 c1 c2 c3 c4 c5 c6 c7 c8 : Value} {b0 : Nat} {v0 : Value} {z0 : List Int} (h : Below N w0 w ∧ w.cell? p0 = some c0 ∧ w.cell? p1 = some c1 ∧ w.cell? p2 = some c2 ∧ w.cell? p3 = some c3 ∧ w.cell? p4 = some c4 ∧ w.cell? p5 = some c5 ∧ w.cell? p6 = some c6 ∧ w.cell? p7 = some c7 ∧ w.cell? p8 = some c8 ∧ Rd w b0 v0 z0 ∧ N ≤ w.heap.size) : Below N w0 w.drew ∧ w.drew.cell? p0 = some c0 ∧ w.drew.cell? p1 = some c1 ∧ w.drew.cell? p2 = some c2 ∧ w.drew.cell? p3 = some c3 ∧ w.drew.cell? p4 = some c4 ∧ w.drew.cell? p5 = some c5 ∧ w.drew.cell? p6 = some c6 ∧ w.drew.cell? p7 = some c7 ∧ w.drew.cell? p8 = some c8 ∧ Rd w.drew b0 v0 z0 ∧ N ≤ w.drew.heap.size := by obtain ⟨h0, x0, x1, x2, x3, x4, x5, x6, x7, x8, y0, h5⟩ := h; exact ⟨h0.drew, x0, x1, x2, x3, x4, x5, x6, x7, x8, y0, h5⟩
theorem rdx9_1_0 {N : Nat} {w0 w : World} {p0 p1 p2 p3 p4 p5 p6 p7 p8 : Addr} {c0 c1 c2 c3 c4 c5 c6 c7 c8 : Value} {b0 : Nat} {v0 : Value} {z0 : List Int} (h : Below N w0 w ∧ w.cell? p0 = some c0 ∧ w.cell? p1 = some c1 ∧ w.cell? p2 = some c2 ∧ w.cell? p3 = some c3 ∧ w.cell? p4 = some c4 ∧ w.cell? p5 = some c5 ∧ w.cell? p6 = some c6 ∧ w.cell? p7 = some c7 ∧ w.cell? p8 = some c8 ∧ Rd w b0 v0 z0 ∧ N ≤ w.heap.size) : Rd w b0 v0 z0 := by obtain ⟨h0, x0, x1, x2, x3, x4, x5, x6, x7, x8, y0, h5⟩ := h; exact y0

set_option maxHeartbeats 16000000 in
theorem walk {w : World} {a0 : Int} (f0 : (Lit.int .i64 a0).wf = true) {b1 : Nat} {v1 : Value} {z1 : List Int} (h1 : Rd w b1 v1 z1) :
    Calls Try.prog 5 #[.int .i64 a0, v1] w fun e w' => e = .returned (.bool true) ∧ Below w.heap.size w w' := by
  obtain ⟨ao1, cap1, e1, kc1, mc1, _⟩ := id h1
  have H1 : Hid (Rd w b1 v1 z1) := h1
  subst e1; clear h1
  have nb1 : z1.length ≤ 9223372036854775807 := by unfold maxLen at mc1; omega
  clear kc1 mc1
  rcases Nat.lt_or_ge 1048576 z1.length with hx1 | hl1
  · go_enter Try.func5, Try.ntmps5
    go_wp2
    go_ret
    exact ⟨rfl, Below.refl _ _⟩
  have hi1 : (z1.length : Int) ≤ 1048576 := by omega
  have HL1 : Hid (z1.length ≤ 1048576) := hl1
  obtain ⟨qs, qr, rs, q1, hlen, hspec, himpl⟩ := agree a0 z1 hl1
  have HN : Hid (rs.length ≤ 1000000) := hlen
  have hlen' : (rs.length : Int) ≤ 1000000 := by omega
  clear hlen
  have HSp := hid @hspec
  have HIm := hid @himpl
  clear hspec himpl hl1
  go_enter Try.func5, Try.ntmps5
  have st : Below w.heap.size w w ∧ Rd w b1 (Value.slice ao1 z1.length cap1) z1 ∧ w.heap.size ≤ w.heap.size := ⟨Below.refl _ _, H1.out, Nat.le_refl _⟩
  go_wp2_with fail
  go_at_call 24
  refine (toSE (rdx0_1_0 st) HL1.out).mono ?_
  rintro e w1 ⟨bp1, rfl, op1, lo, bel⟩
  have cbp1 : w.heap.size ≤ bp1 := Nat.le_trans (And.left st).size lo
  replace st := nx0_1 bel st
  clear bel
  clear lo
  go_wp2_with fail
  go_at_call 28
  refine (HSp.out _ _ _ op1.rd).mono ?_
  rintro e w2 ⟨aoW, cW, bW, rfl, oW, lo, bel⟩
  have nep1W := (lim op1).imp id (fun hx => (by omega : bp1 ≠ bW))
  have cbW : w.heap.size ≤ bW := Nat.le_trans (And.left st).size lo
  replace st := nx0_1 bel st
  replace op1 := op1.keep bel
  clear bel
  clear lo
  clear op1
  obtain ⟨w4, hW⟩ : ∃ w4, w4 = w2.alloc (Obj.cells #[.int .i64 qs, .int .i64 qr, (Value.slice aoW rs.length cW)] 24) := ⟨_, rfl⟩
  obtain ⟨NW, hN⟩ : ∃ NW, NW = w2.heap.size := ⟨_, rfl⟩
  have nbW_W : (Value.slice aoW rs.length cW) = Value.slice none 0 0 ∨ NW ≠ bW := (lim oW).imp id (fun hx => by rw [hN]; exact Nat.ne_of_gt hx)
  have bel : Below w2.heap.size w2 w4 := by rw [hW]; exact Rule.below1 _ _
  have st' : Below w.heap.size w w4 ∧ w4.cell? ⟨NW, 0, none⟩ = some (.int .i64 qs) ∧ w4.cell? ⟨NW, 1, none⟩ = some (.int .i64 qr) ∧ w4.cell? ⟨NW, 2, none⟩ = some ((Value.slice aoW rs.length cW)) ∧ Rd w4 b1 (Value.slice ao1 z1.length cap1) z1 ∧ w.heap.size ≤ w4.heap.size := by
    obtain ⟨t0, d0, tz⟩ := nx0_1 bel st
    exact ⟨t0, by rw [hW, hN]; simp, by rw [hW, hN]; simp, by rw [hW, hN]; simp, d0, tz⟩
  replace oW := oW.keep bel
  clear st bel; have st := st'; clear st'
  have stp := st
  rw [hW, hN] at stp
  go_wp2_with fail
  clear stp
  simp only [← hW, ← hN]
  clear hW hN
  go_at_call 24
  refine (toSE (rdx3_1_0 st) HL1.out).mono ?_
  rintro e w3 ⟨bx1, rfl, ox1, lo, bel⟩
  have neWx1 := (lim oW).imp id (fun hx => (by omega : bW ≠ bx1))
  have cbx1 : w.heap.size ≤ bx1 := Nat.le_trans (And.left st).size lo
  have nbW_x1 : (Value.slice (some ⟨bx1, 0, none⟩) z1.length z1.length) = Value.slice none 0 0 ∨ NW ≠ bx1 := .inr (Nat.ne_of_lt (Nat.lt_of_lt_of_le (World.block_lt_of_cell? _ _ st.2.1) lo))
  replace st := nx3_1 bel st
  replace oW := oW.keep bel
  clear bel
  clear lo
  go_wp2_with fail
  go_at_call 29
  refine (HIm.out _ _ _ ox1.rd).mono ?_
  rintro e w5 ⟨aoG, cG, bG, rfl, oG, lo, bel⟩
  have neWG := (lim oW).imp id (fun hx => (by omega : bW ≠ bG))
  have nex1G := (lim ox1).imp id (fun hx => (by omega : bx1 ≠ bG))
  have cbG : w.heap.size ≤ bG := Nat.le_trans (And.left st).size lo
  have nbW_G : (Value.slice aoG rs.length cG) = Value.slice none 0 0 ∨ NW ≠ bG := .inr (Nat.ne_of_lt (Nat.lt_of_lt_of_le (World.block_lt_of_cell? _ _ st.2.1) lo))
  replace st := nx3_1 bel st
  replace oW := oW.keep bel
  replace ox1 := ox1.keep bel
  clear bel
  clear lo
  obtain ⟨w7, hW⟩ : ∃ w7, w7 = w5.alloc (Obj.cells #[.int .i64 qs, .int .i64 qr, (Value.slice aoG rs.length cG)] 24) := ⟨_, rfl⟩
  obtain ⟨NG, hN⟩ : ∃ NG, NG = w5.heap.size := ⟨_, rfl⟩
  have nbG_W : (Value.slice aoW rs.length cW) = Value.slice none 0 0 ∨ NG ≠ bW := (lim oW).imp id (fun hx => by rw [hN]; exact Nat.ne_of_gt hx)
  have nbG_x1 : (Value.slice (some ⟨bx1, 0, none⟩) z1.length z1.length) = Value.slice none 0 0 ∨ NG ≠ bx1 := (lim ox1).imp id (fun hx => by rw [hN]; exact Nat.ne_of_gt hx)
  have nbG_G : (Value.slice aoG rs.length cG) = Value.slice none 0 0 ∨ NG ≠ bG := (lim oG).imp id (fun hx => by rw [hN]; exact Nat.ne_of_gt hx)
  have bel : Below w5.heap.size w5 w7 := by rw [hW]; exact Rule.below1 _ _
  have st' : Below w.heap.size w w7 ∧ w7.cell? ⟨NW, 0, none⟩ = some (.int .i64 qs) ∧ w7.cell? ⟨NW, 1, none⟩ = some (.int .i64 qr) ∧ w7.cell? ⟨NW, 2, none⟩ = some ((Value.slice aoW rs.length cW)) ∧ w7.cell? ⟨NG, 0, none⟩ = some (.int .i64 qs) ∧ w7.cell? ⟨NG, 1, none⟩ = some (.int .i64 qr) ∧ w7.cell? ⟨NG, 2, none⟩ = some ((Value.slice aoG rs.length cG)) ∧ Rd w7 b1 (Value.slice ao1 z1.length cap1) z1 ∧ w.heap.size ≤ w7.heap.size := by
    obtain ⟨t0, c0, c1, c2, d0, tz⟩ := nx3_1 bel st
    exact ⟨t0, c0, c1, c2, by rw [hW, hN]; simp, by rw [hW, hN]; simp, by rw [hW, hN]; simp, d0, tz⟩
  replace oW := oW.keep bel
  replace ox1 := ox1.keep bel
  replace oG := oG.keep bel
  clear st bel; have st := st'; clear st'
  have stp := st
  rw [hW, hN] at stp
  go_wp2_with fail
  clear stp
  simp only [← hW, ← hN]
  clear hW hN
  go_at_call 20
  refine (eqR oG.rd oW.rd).mono ?_
  rintro e w6 ⟨rfl, bel⟩
  replace st := nx6_1 bel st
  replace oW := oW.keep bel
  replace ox1 := ox1.keep bel
  replace oG := oG.keep bel
  clear bel
  go_wp2_with fail
  go_at_call 24
  refine (toSE (rdx6_1_0 st) HL1.out).mono ?_
  rintro e w8 ⟨by1, rfl, oy1, lo, bel⟩
  have neWy1 := (lim oW).imp id (fun hx => (by omega : bW ≠ by1))
  have nex1y1 := (lim ox1).imp id (fun hx => (by omega : bx1 ≠ by1))
  have neGy1 := (lim oG).imp id (fun hx => (by omega : bG ≠ by1))
  have cby1 : w.heap.size ≤ by1 := Nat.le_trans (And.left st).size lo
  have nbW_y1 : (Value.slice (some ⟨by1, 0, none⟩) z1.length z1.length) = Value.slice none 0 0 ∨ NW ≠ by1 := .inr (Nat.ne_of_lt (Nat.lt_of_lt_of_le (World.block_lt_of_cell? _ _ st.2.1) lo))
  have nbG_y1 : (Value.slice (some ⟨by1, 0, none⟩) z1.length z1.length) = Value.slice none 0 0 ∨ NG ≠ by1 := .inr (Nat.ne_of_lt (Nat.lt_of_lt_of_le (World.block_lt_of_cell? _ _ st.2.2.2.2.1) lo))
  replace st := nx6_1 bel st
  replace oW := oW.keep bel
  replace ox1 := ox1.keep bel
  replace oG := oG.keep bel
  clear bel
  clear lo
  go_wp2_with fail
  go_at_call 26
  refine (eqB ox1.rd oy1.rd).mono ?_
  rintro e w9 ⟨rfl, bel⟩
  replace st := nx6_1 bel st
  replace oW := oW.keep bel
  replace ox1 := ox1.keep bel
  replace oG := oG.keep bel
  replace oy1 := oy1.keep bel
  clear bel
  clear oy1
  go_wp2_with fail
  go_at_call 27
  refine (markSB ox1 (by omega) (by have := HL1.out; omega)).mono ?_
  rintro e w10 ⟨rfl, mx1, g, gn⟩
  replace oW := beside oW g neWx1
  replace oG := besideB oG g gn nex1G
  replace ox1 := mx1; clear mx1
  have gB := below_mark (And.left st) g (And.left st).size cbx1
  have st' : Below w.heap.size w w10 ∧ w10.cell? ⟨NW, 0, none⟩ = some (.int .i64 qs) ∧ w10.cell? ⟨NW, 1, none⟩ = some (.int .i64 qr) ∧ w10.cell? ⟨NW, 2, none⟩ = some ((Value.slice aoW rs.length cW)) ∧ w10.cell? ⟨NG, 0, none⟩ = some (.int .i64 qs) ∧ w10.cell? ⟨NG, 1, none⟩ = some (.int .i64 qr) ∧ w10.cell? ⟨NG, 2, none⟩ = some ((Value.slice aoG rs.length cG)) ∧ Rd w10 b1 (Value.slice ao1 z1.length cap1) z1 ∧ w.heap.size ≤ w10.heap.size := ⟨gB, mcellB g gn st.2.1 nbW_x1, mcellB g gn st.2.2.1 nbW_x1, mcellB g gn st.2.2.2.1 nbW_x1, mcellB g gn st.2.2.2.2.1 nbG_x1, mcellB g gn st.2.2.2.2.2.1 nbG_x1, mcellB g gn st.2.2.2.2.2.2.1 nbG_x1, H1.out.keep gB (Nat.le_refl _), gB.size⟩
  clear st g gn gB; have st := st'; clear st'
  go_wp2_with fail
  go_at_call 20
  refine (eqR oG.rd oW.rd).mono ?_
  rintro e w11 ⟨rfl, bel⟩
  replace st := nx6_1 bel st
  replace oW := oW.keep bel
  replace ox1 := ox1.keep bel
  replace oG := oG.keep bel
  clear bel
  go_wp2_with fail
  go_at_call 21
  refine (markR oG (by omega) (by have := HN.out; omega)).mono ?_
  rintro e w12 ⟨rfl, mG, g, gn⟩
  replace oW := beside oW g neWG
  replace ox1 := beside ox1 g nex1G
  replace oG := mG; clear mG
  have gB := below_mark (And.left st) g (And.left st).size cbG
  have st' : Below w.heap.size w w12 ∧ w12.cell? ⟨NW, 0, none⟩ = some (.int .i64 qs) ∧ w12.cell? ⟨NW, 1, none⟩ = some (.int .i64 qr) ∧ w12.cell? ⟨NW, 2, none⟩ = some ((Value.slice aoW rs.length cW)) ∧ w12.cell? ⟨NG, 0, none⟩ = some (.int .i64 qs) ∧ w12.cell? ⟨NG, 1, none⟩ = some (.int .i64 qr) ∧ w12.cell? ⟨NG, 2, none⟩ = some ((Value.slice aoG rs.length cG)) ∧ Rd w12 b1 (Value.slice ao1 z1.length cap1) z1 ∧ w.heap.size ≤ w12.heap.size := ⟨gB, mcellB g gn st.2.1 nbW_G, mcellB g gn st.2.2.1 nbW_G, mcellB g gn st.2.2.2.1 nbW_G, mcellB g gn st.2.2.2.2.1 nbG_G, mcellB g gn st.2.2.2.2.2.1 nbG_G, mcellB g gn st.2.2.2.2.2.2.1 nbG_G, H1.out.keep gB (Nat.le_refl _), gB.size⟩
  clear st g gn gB; have st := st'; clear st'
  go_wp2_with fail
  go_at_call 22
  refine (heldR oG.rd (by omega) (by have := HN.out; omega)).mono ?_
  rintro e w13 ⟨rfl, bel⟩
  replace st := nx6_1 bel st
  replace oW := oW.keep bel
  replace ox1 := ox1.keep bel
  replace oG := oG.keep bel
  clear bel
  clear ox1
  go_wp2_with fail
  go_at_call 24
  refine (toSE (rdx6_1_0 st) HL1.out).mono ?_
  rintro e w14 ⟨bk1, rfl, ok1, lo, bel⟩
  have neWk1 := (lim oW).imp id (fun hx => (by omega : bW ≠ bk1))
  have neGk1 := (lim oG).imp id (fun hx => (by omega : bG ≠ bk1))
  have cbk1 : w.heap.size ≤ bk1 := Nat.le_trans (And.left st).size lo
  have nbW_k1 : (Value.slice (some ⟨bk1, 0, none⟩) z1.length z1.length) = Value.slice none 0 0 ∨ NW ≠ bk1 := .inr (Nat.ne_of_lt (Nat.lt_of_lt_of_le (World.block_lt_of_cell? _ _ st.2.1) lo))
  have nbG_k1 : (Value.slice (some ⟨bk1, 0, none⟩) z1.length z1.length) = Value.slice none 0 0 ∨ NG ≠ bk1 := .inr (Nat.ne_of_lt (Nat.lt_of_lt_of_le (World.block_lt_of_cell? _ _ st.2.2.2.2.1) lo))
  replace st := nx6_1 bel st
  replace oW := oW.keep bel
  replace oG := oG.keep bel
  clear bel
  clear lo
  go_wp2_with fail
  go_at_call 29
  refine (HIm.out _ _ _ ok1.rd).mono ?_
  rintro e w15 ⟨aoK, cK, bK, rfl, oK, lo, bel⟩
  have neWK := (lim oW).imp id (fun hx => (by omega : bW ≠ bK))
  have neGK := (lim oG).imp id (fun hx => (by omega : bG ≠ bK))
  have nek1K := (lim ok1).imp id (fun hx => (by omega : bk1 ≠ bK))
  have cbK : w.heap.size ≤ bK := Nat.le_trans (And.left st).size lo
  have nbW_K : (Value.slice aoK rs.length cK) = Value.slice none 0 0 ∨ NW ≠ bK := .inr (Nat.ne_of_lt (Nat.lt_of_lt_of_le (World.block_lt_of_cell? _ _ st.2.1) lo))
  have nbG_K : (Value.slice aoK rs.length cK) = Value.slice none 0 0 ∨ NG ≠ bK := .inr (Nat.ne_of_lt (Nat.lt_of_lt_of_le (World.block_lt_of_cell? _ _ st.2.2.2.2.1) lo))
  replace st := nx6_1 bel st
  replace oW := oW.keep bel
  replace oG := oG.keep bel
  replace ok1 := ok1.keep bel
  clear bel
  clear lo
  clear ok1
  obtain ⟨w17, hW⟩ : ∃ w17, w17 = w15.alloc (Obj.cells #[.int .i64 qs, .int .i64 qr, (Value.slice aoK rs.length cK)] 24) := ⟨_, rfl⟩
  obtain ⟨NK, hN⟩ : ∃ NK, NK = w15.heap.size := ⟨_, rfl⟩
  have nbK_W : (Value.slice aoW rs.length cW) = Value.slice none 0 0 ∨ NK ≠ bW := (lim oW).imp id (fun hx => by rw [hN]; exact Nat.ne_of_gt hx)
  have nbK_G : (Value.slice aoG rs.length cG) = Value.slice none 0 0 ∨ NK ≠ bG := (lim oG).imp id (fun hx => by rw [hN]; exact Nat.ne_of_gt hx)
  have nbK_K : (Value.slice aoK rs.length cK) = Value.slice none 0 0 ∨ NK ≠ bK := (lim oK).imp id (fun hx => by rw [hN]; exact Nat.ne_of_gt hx)
  have bel : Below w15.heap.size w15 w17 := by rw [hW]; exact Rule.below1 _ _
  have st' : Below w.heap.size w w17 ∧ w17.cell? ⟨NW, 0, none⟩ = some (.int .i64 qs) ∧ w17.cell? ⟨NW, 1, none⟩ = some (.int .i64 qr) ∧ w17.cell? ⟨NW, 2, none⟩ = some ((Value.slice aoW rs.length cW)) ∧ w17.cell? ⟨NG, 0, none⟩ = some (.int .i64 qs) ∧ w17.cell? ⟨NG, 1, none⟩ = some (.int .i64 qr) ∧ w17.cell? ⟨NG, 2, none⟩ = some ((Value.slice aoG rs.length cG)) ∧ w17.cell? ⟨NK, 0, none⟩ = some (.int .i64 qs) ∧ w17.cell? ⟨NK, 1, none⟩ = some (.int .i64 qr) ∧ w17.cell? ⟨NK, 2, none⟩ = some ((Value.slice aoK rs.length cK)) ∧ Rd w17 b1 (Value.slice ao1 z1.length cap1) z1 ∧ w.heap.size ≤ w17.heap.size := by
    obtain ⟨t0, c0, c1, c2, c3, c4, c5, d0, tz⟩ := nx6_1 bel st
    exact ⟨t0, c0, c1, c2, c3, c4, c5, by rw [hW, hN]; simp, by rw [hW, hN]; simp, by rw [hW, hN]; simp, d0, tz⟩
  replace oW := oW.keep bel
  replace oG := oG.keep bel
  replace oK := oK.keep bel
  clear st bel; have st := st'; clear st'
  have stp := st
  rw [hW, hN] at stp
  go_wp2_with fail
  clear stp
  simp only [← hW, ← hN]
  clear hW hN
  go_at_call 20
  refine (eqR oK.rd oW.rd).mono ?_
  rintro e w16 ⟨rfl, bel⟩
  replace st := nx9_1 bel st
  replace oW := oW.keep bel
  replace oG := oG.keep bel
  replace oK := oK.keep bel
  clear bel
  go_wp2_with fail
  go_at_call 22
  refine (heldR oG.rd (by omega) (by have := HN.out; omega)).mono ?_
  rintro e w18 ⟨rfl, bel⟩
  replace st := nx9_1 bel st
  replace oW := oW.keep bel
  replace oG := oG.keep bel
  replace oK := oK.keep bel
  clear bel
  go_wp2
  go_ret
  exact ⟨rfl, And.left st⟩

set_option maxRecDepth 100000 in
theorem lifted (os : Os) (started : os.Started) (H : Type) (enc : TypeId × Value → H) :
    ReturnsInHanded {} Try.checked os 5 .any (Rows.fnExactSumRuleSpec.pre6 enc Try.prog Try.f5 Rows.fnExactSumRuleRow.domain false) (Rows.fnExactSumRuleSpec.post enc Try.prog Try.f5 false true false false) := by
  refine returnsInHanded_of_change (C := Try.checked) own started (by kernel_rfl) Try.func5
    (ChangeSpec.witness6 (enc := enc) (C := Try.checked) false ⟨#[], #[.int .i64 0, .slice none 0 0], []⟩ 8 (by kernel_rfl) (by kernel_rfl) (by kernel_rfl) (by kernel_rfl)) ?_
  intro W base args ds gs before hval0 hW hcnd hreach
  have hval : ∀ (j : Nat) t v, Try.f5.params[j]? = some t → args[j]? = some v → Value.okWide Try.prog W .any base t v := hval0
  have hW' := hW
  obtain ⟨p, q, hA0, hV, rfl, hfz, hnd⟩ := hW
  have hA : DataW.TrodAll enc Try.prog W 0 (fun _ => true) true Try.f5.params.toList args.toList ds p := hA0
  rw [Try.params5] at hA hval
  obtain ⟨v0, vs0, d0, ds0, p0, q0, hargs, rfl, rfl, h0, r0⟩ := trodAll_cons hA
  obtain ⟨v1, vs1, d1, ds1, p1, q1, rfl, rfl, rfl, h1, r1⟩ := trodAll_cons r0
  obtain ⟨rfl, rfl, rfl⟩ := trodAll_nil r1
  obtain rfl : args = #[v0, v1] := by cases args; simp_all
  obtain ⟨rfl, rfl⟩ := trodVars_none hV
  obtain ⟨a0, rfl, rfl, rfl, w0⟩ := open_int Try.underlying2 (hval 0 2 v0 rfl rfl) h0
  have k1 := h1
  have lt1 : ∀ x ∈ p1, x.block < W.heap.size := by obtain ⟨m, hm⟩ := k1; exact DataW.trod_lt m _ _ _ hm
  obtain ⟨a1, len1, cap1, rfl⟩ := okWide_slice Try.underlying22 (hval 1 22 v1 rfl rfl)
  obtain ⟨b1, z1, _, w1⟩ : ∃ b zs, zs.length = len1 ∧ Rd W b (.slice a1 len1 cap1) zs := by
    obtain ⟨fuel, hf⟩ := h1
    exact rd_open Try.underlying22 Try.underlying2 (by kernel_rfl) (by simpa [Value.cells] using hf)
  clear hA0 hval0
  refine (walk w0 w1).mono fun e W' ⟨he, bel⟩ => ?_
  subst he
  exact ⟨_, rfl, _, _, _, [], _, [], hW', trodAll_mk1 (shut_bool Try.underlying4 _), (trodAll_cons_mk (shut_int Try.underlying2 w0) (trodAll_cons_mk (Below.trod laidOut (by kernel_rfl) (of_decide_eq_true (by kernel_rfl)) k1 bel lt1) (trodAll_mk0))), rfl, bel.frame _, fun h => by cases h⟩

theorem over : Rows.fnExactSumRuleRow.holds Try.pinned (OpenSpec.ofChange Rows.fnExactSumRuleSpec) :=
  OpenClaim.holds_of_wide 5 Try.f5 rfl rfl rfl rfl rfl rfl rfl ⟨rfl, rfl, rfl, rfl, rfl⟩ rfl rfl rfl rfl rfl (by kernel_rfl) Try.func5 (by kernel_rfl)
    (of_decide_eq_true (by kernel_rfl)) (by unfold Func.isWrapper; rw [if_neg (of_decide_eq_false (by kernel_rfl))]; exact ⟨rfl, rfl⟩)
    (fun os started H enc _ => lifted os started H enc)

theorem proved : Rows.FnExactSumRuleSaid := over
end Go.Proofs.Ytiijabiijkdhcaa.lawSumRule
