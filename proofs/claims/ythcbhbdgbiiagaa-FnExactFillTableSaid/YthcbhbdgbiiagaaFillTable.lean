/- For every two numbers, every list and every number, impl.FillTable answers as the model of the document does, changes nothing that it is given, and its answer is memory of its own. No condition. -/
import Derived.Test.YthcbhbdgbiiagaaRows
import Derived.Test.YthcbhbdgbiiagaaRuleKit
import Derived.Test.YthcbhbdgbiiagaaFil
import Derived.WalkKit
import Derived.WalkLawsBesides
import Derived.ProofKit
import Derived.OpenShut
import Derived.ShutString
import Derived.ChangeOld
import Derived.Below
import Derived.IntWalk
import Derived.Lib.SmallJoins
namespace Go.Proofs.Ythcbhbdgbiiagaa.lawFillTable
open Go.ChangeShapes Go.WideShapes Go.ChangeAt Go.RowKit Go.Joins Go.Proofs.Ythcbhbdgbiiagaa.Rd Go.Proofs.Ythcbhbdgbiiagaa.Help Go.Proofs.Ythcbhbdgbiiagaa.Keep
set_option linter.unusedVariables false
set_option linter.unusedSimpArgs false
theorem own : ownKnob Try.prog.godebug = none := by kernel_rfl
theorem laidOut : laidOutB Try.prog = true := by kernel_rfl
theorem agree (s r : Int) (zs : List Int) (st : Int) (hz : zs.length ≤ 1048576) : ∃ (qs qr : Int) (rs : List Int) (ok : Bool), rs.length ≤ 1000000 ∧
    (∀ (w : World) (b : Nat) (v : Value), Rd w b v zs → Calls Try.prog 33 #[.int .i64 s, .int .i64 r, v, .int .i64 st] w fun e w' => ∃ ao c b', e = .returned (.tuple #[Rule.ruleV qs qr (.slice ao rs.length c), .bool ok]) ∧ Own 2 w' b' (.slice ao rs.length c) rs ∧ w.heap.size ≤ b' ∧ Below w.heap.size w w') ∧
    (∀ (w : World) (b : Nat) (v : Value), Rd w b v zs → Calls Try.prog 34 #[.int .i64 s, .int .i64 r, v, .int .i64 st] w fun e w' => ∃ ao c b', e = .returned (.tuple #[Rule.ruleV qs qr (.slice ao rs.length c), .bool ok]) ∧ Own 2 w' b' (.slice ao rs.length c) rs ∧ w.heap.size ≤ b' ∧ Below w.heap.size w w') := Fil.agree s r zs st hz

theorem mcellB {w w' : World} {c n i : Nat} {u v : Value} (g : w.grownBy w' (some c)) (gn : v = .slice none 0 0 → Below w.heap.size w w') (h : w.cell? ⟨n, i, none⟩ = some u) (hne : v = .slice none 0 0 ∨ n ≠ c) : w'.cell? ⟨n, i, none⟩ = some u := by
  rcases hne with hv | hne
  · exact cell_keep (gn hv) h
  · exact mcell g h hne
theorem nx0_1 {N : Nat} {w0 w w' : World} {b0 : Nat} {v0 : Value} {z0 : List Int} (bel : Below w.heap.size w w') (h : Below N w0 w ∧ Rd w b0 v0 z0 ∧ N ≤ w.heap.size) : Below N w0 w' ∧ Rd w' b0 v0 z0 ∧ N ≤ w'.heap.size := by obtain ⟨h0, y0, h5⟩ := h; exact ⟨h0.trans (bel.mono h5), y0.keep bel (Nat.le_refl _), Nat.le_trans h5 bel.size⟩
theorem drw0_1 {N : Nat} {w0 w : World} {b0 : Nat} {v0 : Value} {z0 : List Int} (h : Below N w0 w ∧ Rd w b0 v0 z0 ∧ N ≤ w.heap.size) : Below N w0 w.drew ∧ Rd w.drew b0 v0 z0 ∧ N ≤ w.drew.heap.size := by obtain ⟨h0, y0, h5⟩ := h; exact ⟨h0.drew, y0, h5⟩
theorem rdx0_1_0 {N : Nat} {w0 w : World} {b0 : Nat} {v0 : Value} {z0 : List Int} (h : Below N w0 w ∧ Rd w b0 v0 z0 ∧ N ≤ w.heap.size) : Rd w b0 v0 z0 := by obtain ⟨h0, y0, h5⟩ := h; exact y0
theorem nx3_1 {N : Nat} {w0 w w' : World} {p0 p1 p2 : Addr} {c0 c1 c2 : Value} {b0 : Nat} {v0 : Value} {z0 : List Int} (bel : Below w.heap.size w w') (h : Below N w0 w ∧ w.cell? p0 = some c0 ∧ w.cell? p1 = some c1 ∧ w.cell? p2 = some c2 ∧ Rd w b0 v0 z0 ∧ N ≤ w.heap.size) : Below N w0 w' ∧ w'.cell? p0 = some c0 ∧ w'.cell? p1 = some c1 ∧ w'.cell? p2 = some c2 ∧ Rd w' b0 v0 z0 ∧ N ≤ w'.heap.size := by obtain ⟨h0, x0, x1, x2, y0, h5⟩ := h; exact ⟨h0.trans (bel.mono h5), cell_keep bel x0, cell_keep bel x1, cell_keep bel x2, y0.keep bel (Nat.le_refl _), Nat.le_trans h5 bel.size⟩
theorem drw3_1 {N : Nat} {w0 w : World} {p0 p1 p2 : Addr} {c0 c1 c2 : Value} {b0 : Nat} {v0 : Value} {z0 : List Int} (h : Below N w0 w ∧ w.cell? p0 = some c0 ∧ w.cell? p1 = some c1 ∧ w.cell? p2 = some c2 ∧ Rd w b0 v0 z0 ∧ N ≤ w.heap.size) : Below N w0 w.drew ∧ w.drew.cell? p0 = some c0 ∧ w.drew.cell? p1 = some c1 ∧ w.drew.cell? p2 = some c2 ∧ Rd w.drew b0 v0 z0 ∧ N ≤ w.drew.heap.size := by obtain ⟨h0, x0, x1, x2, y0, h5⟩ := h; exact ⟨h0.drew, x0, x1, x2, y0, h5⟩
theorem rdx3_1_0 {N : Nat} {w0 w : World} {p0 p1 p2 : Addr} {c0 c1 c2 : Value} {b0 : Nat} {v0 : Value} {z0 : List Int} (h : Below N w0 w ∧ w.cell? p0 = some c0 ∧ w.cell? p1 = some c1 ∧ w.cell? p2 = some c2 ∧ Rd w b0 v0 z0 ∧ N ≤ w.heap.size) : Rd w b0 v0 z0 := by obtain ⟨h0, x0, x1, x2, y0, h5⟩ := h; exact y0
theorem nx6_1 {N : Nat} {w0 w w' : World} {p0 p1 p2 p3 p4 p5 : Addr} {c0 c1 c2 c3 c4 c5 : Value} {b0 : Nat} {v0 : Value} {z0 : List Int} (bel : Below w.heap.size w w') (h : Below N w0 w ∧ w.cell? p0 = some c0 ∧ w.cell? p1 = some c1 ∧ w.cell? p2 = some c2 ∧ w.cell? p3 = some c3 ∧ w.cell? p4 = some c4 ∧ w.cell? p5 = some c5 ∧ Rd w b0 v0 z0 ∧ N ≤ w.heap.size) : Below N w0 w' ∧ w'.cell? p0 = some c0 ∧ w'.cell? p1 = some c1 ∧ w'.cell? p2 = some c2 ∧ w'.cell? p3 = some c3 ∧ w'.cell? p4 = some c4 ∧ w'.cell? p5 = some c5 ∧ Rd w' b0 v0 z0 ∧ N ≤ w'.heap.size := by obtain ⟨h0, x0, x1, x2, x3, x4, x5, y0, h5⟩ := h; exact ⟨h0.trans (bel.mono h5), cell_keep bel x0, cell_keep bel x1, cell_keep bel x2, cell_keep bel x3, cell_keep bel x4, cell_keep bel x5, y0.keep bel (Nat.le_refl _), Nat.le_trans h5 bel.size⟩
theorem drw6_1 {N : Nat} {w0 w : World} {p0 p1 p2 p3 p4 p5 : Addr} {c0 c1 c2 c3 c4 c5 : Value} {b0 : Nat} {v0 : Value} {z0 : List Int} (h : Below N w0 w ∧ w.cell? p0 = some c0 ∧ w.cell? p1 = some c1 ∧ w.cell? p2 = some c2 ∧ w.cell? p3 = some c3 ∧ w.cell? p4 = some c4 ∧ w.cell? p5 = some c5 ∧ Rd w b0 v0 z0 ∧ N ≤ w.heap.size) : Below N w0 w.drew ∧ w.drew.cell? p0 = some c0 ∧ w.drew.cell? p1 = some c1 ∧ w.drew.cell? p2 = some c2 ∧ w.drew.cell? p3 = some c3 ∧ w.drew.cell? p4 = some c4 ∧ w.drew.cell? p5 = some c5 ∧ Rd w.drew b0 v0 z0 ∧ N ≤ w.drew.heap.size := by obtain ⟨h0, x0, x1, x2, x3, x4, x5, y0, h5⟩ := h; exact ⟨h0.drew, x0, x1, x2, x3, x4, x5, y0, h5⟩
theorem rdx6_1_0 {N : Nat} {w0 w : World} {p0 p1 p2 p3 p4 p5 : Addr} {c0 c1 c2 c3 c4 c5 : Value} {b0 : Nat} {v0 : Value} {z0 : List Int} (h : Below N w0 w ∧ w.cell? p0 = some c0 ∧ w.cell? p1 = some c1 ∧ w.cell? p2 = some c2 ∧ w.cell? p3 = some c3 ∧ w.cell? p4 = some c4 ∧ w.cell? p5 = some c5 ∧ Rd w b0 v0 z0 ∧ N ≤ w.heap.size) : Rd w b0 v0 z0 := by obtain ⟨h0, x0, x1, x2, x3, x4, x5, y0, h5⟩ := h; exact y0
theorem nx9_1 {N : Nat} {w0 w w' : World} {p0 p1 p2 p3 p4 p5 p6 p7 p8 : Addr} {c0 c1 c2 c3 c4 c5 c6 c7 c8 : Value} {b0 : Nat} {v0 : Value} {z0 : List Int} (bel : Below w.heap.size w w') (h : Below N w0 w ∧ w.cell? p0 = some c0 ∧ w.cell? p1 = some c1 ∧ w.cell? p2 = some c2 ∧ w.cell? p3 = some c3 ∧ w.cell? p4 = some c4 ∧ w.cell? p5 = some c5 ∧ w.cell? p6 = some c6 ∧ w.cell? p7 = some c7 ∧ w.cell? p8 = some c8 ∧ Rd w b0 v0 z0 ∧ N ≤ w.heap.size) : Below N w0 w' ∧ w'.cell? p0 = some c0 ∧ w'.cell? p1 = some c1 ∧ w'.cell? p2 = some c2 ∧ w'.cell? p3 = some c3 ∧ w'.cell? p4 = some c4 ∧ w'.cell? p5 = some c5 ∧ w'.cell? p6 = some c6 ∧ w'.cell? p7 = some c7 ∧ w'.cell? p8 = some c8 ∧ Rd w' b0 v0 z0 ∧ N ≤ w'.heap.size := by obtain ⟨h0, x0, x1, x2, x3, x4, x5, x6, x7, x8, y0, h5⟩ := h; exact ⟨h0.trans (bel.mono h5), cell_keep bel x0, cell_keep bel x1, cell_keep bel x2, cell_keep bel x3, cell_keep bel x4, cell_keep bel x5, cell_keep bel x6, cell_keep bel x7, cell_keep bel x8, y0.keep bel (Nat.le_refl _), Nat.le_trans h5 bel.size⟩
theorem drw9_1 {N : Nat} {w0 w : World} {p0 p1 p2 p3 p4 p5 p6 p7 p8 : Addr} {c0 c1 c2 c3 c4 c5 c6 c7 c8 : Value} {b0 : Nat} {v0 : Value} {z0 : List Int} (h : Below N w0 w ∧ w.cell? p0 = some c0 ∧ w.cell? p1 = some c1 ∧ w.cell? p2 = some c2 ∧ w.cell? p3 = some c3 ∧ w.cell? p4 = some c4 ∧ w.cell? p5 = some c5 ∧ w.cell? p6 = some c6 ∧ w.cell? p7 = some c7 ∧ w.cell? p8 = some c8 ∧ Rd w b0 v0 z0 ∧ N ≤ w.heap.size) : Below N w0 w.drew ∧ w.drew.cell? p0 = some c0 ∧ w.drew.cell? p1 = some c1 ∧ w.drew.cell? p2 = some c2 ∧ w.drew.cell? p3 = some c3 ∧ w.drew.cell? p4 = some c4 ∧ w.drew.cell? p5 = some c5 ∧ w.drew.cell? p6 = some c6 ∧ w.drew.cell? p7 = some c7 ∧ w.drew.cell? p8 = some c8 ∧ Rd w.drew b0 v0 z0 ∧ N ≤ w.drew.heap.size := by obtain ⟨h0, x0, x1, x2, x3, x4, x5, x6, x7, x8, y0, h5⟩ := h; exact ⟨h0.drew, x0, x1, x2, x3, x4, x5, x6, x7, x8, y0, h5⟩
theorem rdx9_1_0 {N : Nat} {w0 w : World} {p0 p1 p2 p3 p4 p5 p6 p7 p8 : Addr} {c0 c1 c2 c3 c4 c5 c6 c7 c8 : Value} {b0 : Nat} {v0 : Value} {z0 : List Int} (h : Below N w0 w ∧ w.cell? p0 = some c0 ∧ w.cell? p1 = some c1 ∧ w.cell? p2 = some c2 ∧ w.cell? p3 = some c3 ∧ w.cell? p4 = some c4 ∧ w.cell? p5 = some c5 ∧ w.cell? p6 = some c6 ∧ w.cell? p7 = some c7 ∧ w.cell? p8 = some c8 ∧ Rd w b0 v0 z0 ∧ N ≤ w.heap.size) : Rd w b0 v0 z0 := by obtain ⟨h0, x0, x1, x2, x3, x4, x5, x6, x7, x8, y0, h5⟩ := h; exact y0

set_option maxHeartbeats 16000000 in
theorem walk {w : World} {a0 : Int} (f0 : (Lit.int .i64 a0).wf = true) {a1 : Int} (f1 : (Lit.int .i64 a1).wf = true) {b2 : Nat} {v2 : Value} {z2 : List Int} (h2 : Rd w b2 v2 z2) {a3 : Int} (f3 : (Lit.int .i64 a3).wf = true) :
    Calls Try.prog 7 #[.int .i64 a0, .int .i64 a1, v2, .int .i64 a3] w fun e w' => e = .returned (.bool true) ∧ Below w.heap.size w w' := by
  obtain ⟨ao2, cap2, e2, kc2, mc2, _⟩ := id h2
  have H2 : Hid (Rd w b2 v2 z2) := h2
  subst e2; clear h2
  have nb2 : z2.length ≤ 9223372036854775807 := by unfold maxLen at mc2; omega
  clear kc2 mc2
  rcases Nat.lt_or_ge 1048576 z2.length with hx2 | hl2
  · go_enter Try.func7, Try.ntmps7
    go_wp2
    go_ret
    exact ⟨rfl, Below.refl _ _⟩
  have hi2 : (z2.length : Int) ≤ 1048576 := by omega
  have HL2 : Hid (z2.length ≤ 1048576) := hl2
  obtain ⟨qs, qr, rs, q1, hlen, hspec, himpl⟩ := agree a0 a1 z2 a3 hl2
  have HN : Hid (rs.length ≤ 1000000) := hlen
  have hlen' : (rs.length : Int) ≤ 1000000 := by omega
  clear hlen
  have HSp := hid @hspec
  have HIm := hid @himpl
  clear hspec himpl hl2
  go_enter Try.func7, Try.ntmps7
  have st : Below w.heap.size w w ∧ Rd w b2 (Value.slice ao2 z2.length cap2) z2 ∧ w.heap.size ≤ w.heap.size := ⟨Below.refl _ _, H2.out, Nat.le_refl _⟩
  go_wp2_with fail
  go_at_call 23
  refine (toSE (rdx0_1_0 st) HL2.out).mono ?_
  rintro e w1 ⟨bp2, rfl, op2, lo, bel⟩
  have cbp2 : w.heap.size ≤ bp2 := Nat.le_trans (And.left st).size lo
  replace st := nx0_1 bel st
  clear bel
  clear lo
  go_wp2_with fail
  go_at_call 33
  refine (HSp.out _ _ _ op2.rd).mono ?_
  rintro e w2 ⟨aoW, cW, bW, rfl, oW, lo, bel⟩
  have nep2W := (lim op2).imp id (fun hx => (by omega : bp2 ≠ bW))
  have cbW : w.heap.size ≤ bW := Nat.le_trans (And.left st).size lo
  replace st := nx0_1 bel st
  replace op2 := op2.keep bel
  clear bel
  clear lo
  clear op2
  obtain ⟨w4, hW⟩ : ∃ w4, w4 = w2.alloc (Obj.cells #[.int .i64 qs, .int .i64 qr, (Value.slice aoW rs.length cW)] 44) := ⟨_, rfl⟩
  obtain ⟨NW, hN⟩ : ∃ NW, NW = w2.heap.size := ⟨_, rfl⟩
  have nbW_W : (Value.slice aoW rs.length cW) = Value.slice none 0 0 ∨ NW ≠ bW := (lim oW).imp id (fun hx => by rw [hN]; exact Nat.ne_of_gt hx)
  have bel : Below w2.heap.size w2 w4 := by rw [hW]; exact Rule.below1 _ _
  have st' : Below w.heap.size w w4 ∧ w4.cell? ⟨NW, 0, none⟩ = some (.int .i64 qs) ∧ w4.cell? ⟨NW, 1, none⟩ = some (.int .i64 qr) ∧ w4.cell? ⟨NW, 2, none⟩ = some ((Value.slice aoW rs.length cW)) ∧ Rd w4 b2 (Value.slice ao2 z2.length cap2) z2 ∧ w.heap.size ≤ w4.heap.size := by
    obtain ⟨t0, d0, tz⟩ := nx0_1 bel st
    exact ⟨t0, by rw [hW, hN]; simp, by rw [hW, hN]; simp, by rw [hW, hN]; simp, d0, tz⟩
  replace oW := oW.keep bel
  clear st bel; have st := st'; clear st'
  have stp := st
  rw [hW, hN] at stp
  go_wp2_with fail
  clear stp
  simp only [← hW, ← hN]
  clear hW hN
  go_at_call 23
  refine (toSE (rdx3_1_0 st) HL2.out).mono ?_
  rintro e w3 ⟨bx2, rfl, ox2, lo, bel⟩
  have neWx2 := (lim oW).imp id (fun hx => (by omega : bW ≠ bx2))
  have cbx2 : w.heap.size ≤ bx2 := Nat.le_trans (And.left st).size lo
  have nbW_x2 : (Value.slice (some ⟨bx2, 0, none⟩) z2.length z2.length) = Value.slice none 0 0 ∨ NW ≠ bx2 := .inr (Nat.ne_of_lt (Nat.lt_of_lt_of_le (World.block_lt_of_cell? _ _ st.2.1) lo))
  replace st := nx3_1 bel st
  replace oW := oW.keep bel
  clear bel
  clear lo
  go_wp2_with fail
  go_at_call 34
  refine (HIm.out _ _ _ ox2.rd).mono ?_
  rintro e w5 ⟨aoG, cG, bG, rfl, oG, lo, bel⟩
  have neWG := (lim oW).imp id (fun hx => (by omega : bW ≠ bG))
  have nex2G := (lim ox2).imp id (fun hx => (by omega : bx2 ≠ bG))
  have cbG : w.heap.size ≤ bG := Nat.le_trans (And.left st).size lo
  have nbW_G : (Value.slice aoG rs.length cG) = Value.slice none 0 0 ∨ NW ≠ bG := .inr (Nat.ne_of_lt (Nat.lt_of_lt_of_le (World.block_lt_of_cell? _ _ st.2.1) lo))
  replace st := nx3_1 bel st
  replace oW := oW.keep bel
  replace ox2 := ox2.keep bel
  clear bel
  clear lo
  obtain ⟨w7, hW⟩ : ∃ w7, w7 = w5.alloc (Obj.cells #[.int .i64 qs, .int .i64 qr, (Value.slice aoG rs.length cG)] 44) := ⟨_, rfl⟩
  obtain ⟨NG, hN⟩ : ∃ NG, NG = w5.heap.size := ⟨_, rfl⟩
  have nbG_W : (Value.slice aoW rs.length cW) = Value.slice none 0 0 ∨ NG ≠ bW := (lim oW).imp id (fun hx => by rw [hN]; exact Nat.ne_of_gt hx)
  have nbG_x2 : (Value.slice (some ⟨bx2, 0, none⟩) z2.length z2.length) = Value.slice none 0 0 ∨ NG ≠ bx2 := (lim ox2).imp id (fun hx => by rw [hN]; exact Nat.ne_of_gt hx)
  have nbG_G : (Value.slice aoG rs.length cG) = Value.slice none 0 0 ∨ NG ≠ bG := (lim oG).imp id (fun hx => by rw [hN]; exact Nat.ne_of_gt hx)
  have bel : Below w5.heap.size w5 w7 := by rw [hW]; exact Rule.below1 _ _
  have st' : Below w.heap.size w w7 ∧ w7.cell? ⟨NW, 0, none⟩ = some (.int .i64 qs) ∧ w7.cell? ⟨NW, 1, none⟩ = some (.int .i64 qr) ∧ w7.cell? ⟨NW, 2, none⟩ = some ((Value.slice aoW rs.length cW)) ∧ w7.cell? ⟨NG, 0, none⟩ = some (.int .i64 qs) ∧ w7.cell? ⟨NG, 1, none⟩ = some (.int .i64 qr) ∧ w7.cell? ⟨NG, 2, none⟩ = some ((Value.slice aoG rs.length cG)) ∧ Rd w7 b2 (Value.slice ao2 z2.length cap2) z2 ∧ w.heap.size ≤ w7.heap.size := by
    obtain ⟨t0, c0, c1, c2, d0, tz⟩ := nx3_1 bel st
    exact ⟨t0, c0, c1, c2, by rw [hW, hN]; simp, by rw [hW, hN]; simp, by rw [hW, hN]; simp, d0, tz⟩
  replace oW := oW.keep bel
  replace ox2 := ox2.keep bel
  replace oG := oG.keep bel
  clear st bel; have st := st'; clear st'
  have stp := st
  rw [hW, hN] at stp
  go_wp2_with fail
  clear stp
  simp only [← hW, ← hN]
  clear hW hN
  go_at_call 30
  refine (eqR oG.rd oW.rd).mono ?_
  rintro e w6 ⟨rfl, bel⟩
  replace st := nx6_1 bel st
  replace oW := oW.keep bel
  replace ox2 := ox2.keep bel
  replace oG := oG.keep bel
  clear bel
  go_wp2_with fail
  go_at_call 23
  refine (toSE (rdx6_1_0 st) HL2.out).mono ?_
  rintro e w8 ⟨by2, rfl, oy2, lo, bel⟩
  have neWy2 := (lim oW).imp id (fun hx => (by omega : bW ≠ by2))
  have nex2y2 := (lim ox2).imp id (fun hx => (by omega : bx2 ≠ by2))
  have neGy2 := (lim oG).imp id (fun hx => (by omega : bG ≠ by2))
  have cby2 : w.heap.size ≤ by2 := Nat.le_trans (And.left st).size lo
  have nbW_y2 : (Value.slice (some ⟨by2, 0, none⟩) z2.length z2.length) = Value.slice none 0 0 ∨ NW ≠ by2 := .inr (Nat.ne_of_lt (Nat.lt_of_lt_of_le (World.block_lt_of_cell? _ _ st.2.1) lo))
  have nbG_y2 : (Value.slice (some ⟨by2, 0, none⟩) z2.length z2.length) = Value.slice none 0 0 ∨ NG ≠ by2 := .inr (Nat.ne_of_lt (Nat.lt_of_lt_of_le (World.block_lt_of_cell? _ _ st.2.2.2.2.1) lo))
  replace st := nx6_1 bel st
  replace oW := oW.keep bel
  replace ox2 := ox2.keep bel
  replace oG := oG.keep bel
  clear bel
  clear lo
  go_wp2_with fail
  go_at_call 25
  refine (eqB ox2.rd oy2.rd).mono ?_
  rintro e w9 ⟨rfl, bel⟩
  replace st := nx6_1 bel st
  replace oW := oW.keep bel
  replace ox2 := ox2.keep bel
  replace oG := oG.keep bel
  replace oy2 := oy2.keep bel
  clear bel
  clear oy2
  go_wp2_with fail
  go_at_call 35
  refine (markSB ox2 (by omega) (by have := HL2.out; omega)).mono ?_
  rintro e w10 ⟨rfl, mx2, g, gn⟩
  replace oW := beside oW g neWx2
  replace oG := besideB oG g gn nex2G
  replace ox2 := mx2; clear mx2
  have gB := below_mark (And.left st) g (And.left st).size cbx2
  have st' : Below w.heap.size w w10 ∧ w10.cell? ⟨NW, 0, none⟩ = some (.int .i64 qs) ∧ w10.cell? ⟨NW, 1, none⟩ = some (.int .i64 qr) ∧ w10.cell? ⟨NW, 2, none⟩ = some ((Value.slice aoW rs.length cW)) ∧ w10.cell? ⟨NG, 0, none⟩ = some (.int .i64 qs) ∧ w10.cell? ⟨NG, 1, none⟩ = some (.int .i64 qr) ∧ w10.cell? ⟨NG, 2, none⟩ = some ((Value.slice aoG rs.length cG)) ∧ Rd w10 b2 (Value.slice ao2 z2.length cap2) z2 ∧ w.heap.size ≤ w10.heap.size := ⟨gB, mcellB g gn st.2.1 nbW_x2, mcellB g gn st.2.2.1 nbW_x2, mcellB g gn st.2.2.2.1 nbW_x2, mcellB g gn st.2.2.2.2.1 nbG_x2, mcellB g gn st.2.2.2.2.2.1 nbG_x2, mcellB g gn st.2.2.2.2.2.2.1 nbG_x2, H2.out.keep gB (Nat.le_refl _), gB.size⟩
  clear st g gn gB; have st := st'; clear st'
  go_wp2_with fail
  go_at_call 30
  refine (eqR oG.rd oW.rd).mono ?_
  rintro e w11 ⟨rfl, bel⟩
  replace st := nx6_1 bel st
  replace oW := oW.keep bel
  replace ox2 := ox2.keep bel
  replace oG := oG.keep bel
  clear bel
  go_wp2_with fail
  go_at_call 31
  refine (markR oG (by omega) (by have := HN.out; omega)).mono ?_
  rintro e w12 ⟨rfl, mG, g, gn⟩
  replace oW := beside oW g neWG
  replace ox2 := beside ox2 g nex2G
  replace oG := mG; clear mG
  have gB := below_mark (And.left st) g (And.left st).size cbG
  have st' : Below w.heap.size w w12 ∧ w12.cell? ⟨NW, 0, none⟩ = some (.int .i64 qs) ∧ w12.cell? ⟨NW, 1, none⟩ = some (.int .i64 qr) ∧ w12.cell? ⟨NW, 2, none⟩ = some ((Value.slice aoW rs.length cW)) ∧ w12.cell? ⟨NG, 0, none⟩ = some (.int .i64 qs) ∧ w12.cell? ⟨NG, 1, none⟩ = some (.int .i64 qr) ∧ w12.cell? ⟨NG, 2, none⟩ = some ((Value.slice aoG rs.length cG)) ∧ Rd w12 b2 (Value.slice ao2 z2.length cap2) z2 ∧ w.heap.size ≤ w12.heap.size := ⟨gB, mcellB g gn st.2.1 nbW_G, mcellB g gn st.2.2.1 nbW_G, mcellB g gn st.2.2.2.1 nbW_G, mcellB g gn st.2.2.2.2.1 nbG_G, mcellB g gn st.2.2.2.2.2.1 nbG_G, mcellB g gn st.2.2.2.2.2.2.1 nbG_G, H2.out.keep gB (Nat.le_refl _), gB.size⟩
  clear st g gn gB; have st := st'; clear st'
  go_wp2_with fail
  go_at_call 32
  refine (heldR oG.rd (by omega) (by have := HN.out; omega)).mono ?_
  rintro e w13 ⟨rfl, bel⟩
  replace st := nx6_1 bel st
  replace oW := oW.keep bel
  replace ox2 := ox2.keep bel
  replace oG := oG.keep bel
  clear bel
  clear ox2
  go_wp2_with fail
  go_at_call 23
  refine (toSE (rdx6_1_0 st) HL2.out).mono ?_
  rintro e w14 ⟨bk2, rfl, ok2, lo, bel⟩
  have neWk2 := (lim oW).imp id (fun hx => (by omega : bW ≠ bk2))
  have neGk2 := (lim oG).imp id (fun hx => (by omega : bG ≠ bk2))
  have cbk2 : w.heap.size ≤ bk2 := Nat.le_trans (And.left st).size lo
  have nbW_k2 : (Value.slice (some ⟨bk2, 0, none⟩) z2.length z2.length) = Value.slice none 0 0 ∨ NW ≠ bk2 := .inr (Nat.ne_of_lt (Nat.lt_of_lt_of_le (World.block_lt_of_cell? _ _ st.2.1) lo))
  have nbG_k2 : (Value.slice (some ⟨bk2, 0, none⟩) z2.length z2.length) = Value.slice none 0 0 ∨ NG ≠ bk2 := .inr (Nat.ne_of_lt (Nat.lt_of_lt_of_le (World.block_lt_of_cell? _ _ st.2.2.2.2.1) lo))
  replace st := nx6_1 bel st
  replace oW := oW.keep bel
  replace oG := oG.keep bel
  clear bel
  clear lo
  go_wp2_with fail
  go_at_call 34
  refine (HIm.out _ _ _ ok2.rd).mono ?_
  rintro e w15 ⟨aoK, cK, bK, rfl, oK, lo, bel⟩
  have neWK := (lim oW).imp id (fun hx => (by omega : bW ≠ bK))
  have neGK := (lim oG).imp id (fun hx => (by omega : bG ≠ bK))
  have nek2K := (lim ok2).imp id (fun hx => (by omega : bk2 ≠ bK))
  have cbK : w.heap.size ≤ bK := Nat.le_trans (And.left st).size lo
  have nbW_K : (Value.slice aoK rs.length cK) = Value.slice none 0 0 ∨ NW ≠ bK := .inr (Nat.ne_of_lt (Nat.lt_of_lt_of_le (World.block_lt_of_cell? _ _ st.2.1) lo))
  have nbG_K : (Value.slice aoK rs.length cK) = Value.slice none 0 0 ∨ NG ≠ bK := .inr (Nat.ne_of_lt (Nat.lt_of_lt_of_le (World.block_lt_of_cell? _ _ st.2.2.2.2.1) lo))
  replace st := nx6_1 bel st
  replace oW := oW.keep bel
  replace oG := oG.keep bel
  replace ok2 := ok2.keep bel
  clear bel
  clear lo
  clear ok2
  obtain ⟨w17, hW⟩ : ∃ w17, w17 = w15.alloc (Obj.cells #[.int .i64 qs, .int .i64 qr, (Value.slice aoK rs.length cK)] 44) := ⟨_, rfl⟩
  obtain ⟨NK, hN⟩ : ∃ NK, NK = w15.heap.size := ⟨_, rfl⟩
  have nbK_W : (Value.slice aoW rs.length cW) = Value.slice none 0 0 ∨ NK ≠ bW := (lim oW).imp id (fun hx => by rw [hN]; exact Nat.ne_of_gt hx)
  have nbK_G : (Value.slice aoG rs.length cG) = Value.slice none 0 0 ∨ NK ≠ bG := (lim oG).imp id (fun hx => by rw [hN]; exact Nat.ne_of_gt hx)
  have nbK_K : (Value.slice aoK rs.length cK) = Value.slice none 0 0 ∨ NK ≠ bK := (lim oK).imp id (fun hx => by rw [hN]; exact Nat.ne_of_gt hx)
  have bel : Below w15.heap.size w15 w17 := by rw [hW]; exact Rule.below1 _ _
  have st' : Below w.heap.size w w17 ∧ w17.cell? ⟨NW, 0, none⟩ = some (.int .i64 qs) ∧ w17.cell? ⟨NW, 1, none⟩ = some (.int .i64 qr) ∧ w17.cell? ⟨NW, 2, none⟩ = some ((Value.slice aoW rs.length cW)) ∧ w17.cell? ⟨NG, 0, none⟩ = some (.int .i64 qs) ∧ w17.cell? ⟨NG, 1, none⟩ = some (.int .i64 qr) ∧ w17.cell? ⟨NG, 2, none⟩ = some ((Value.slice aoG rs.length cG)) ∧ w17.cell? ⟨NK, 0, none⟩ = some (.int .i64 qs) ∧ w17.cell? ⟨NK, 1, none⟩ = some (.int .i64 qr) ∧ w17.cell? ⟨NK, 2, none⟩ = some ((Value.slice aoK rs.length cK)) ∧ Rd w17 b2 (Value.slice ao2 z2.length cap2) z2 ∧ w.heap.size ≤ w17.heap.size := by
    obtain ⟨t0, c0, c1, c2, c3, c4, c5, d0, tz⟩ := nx6_1 bel st
    exact ⟨t0, c0, c1, c2, c3, c4, c5, by rw [hW, hN]; simp, by rw [hW, hN]; simp, by rw [hW, hN]; simp, d0, tz⟩
  replace oW := oW.keep bel
  replace oG := oG.keep bel
  replace oK := oK.keep bel
  clear st bel; have st := st'; clear st'
  have stp := st
  rw [hW, hN] at stp
  go_wp2_with fail
  clear stp
  simp only [← hW, ← hN]
  clear hW hN
  go_at_call 30
  refine (eqR oK.rd oW.rd).mono ?_
  rintro e w16 ⟨rfl, bel⟩
  replace st := nx9_1 bel st
  replace oW := oW.keep bel
  replace oG := oG.keep bel
  replace oK := oK.keep bel
  clear bel
  go_wp2_with fail
  go_at_call 32
  refine (heldR oG.rd (by omega) (by have := HN.out; omega)).mono ?_
  rintro e w18 ⟨rfl, bel⟩
  replace st := nx9_1 bel st
  replace oW := oW.keep bel
  replace oG := oG.keep bel
  replace oK := oK.keep bel
  clear bel
  go_wp2
  go_ret
  exact ⟨rfl, And.left st⟩

set_option maxRecDepth 100000 in
theorem lifted (os : Os) (started : os.Started) (H : Type) (enc : TypeId × Value → H) :
    ReturnsInHanded {} Try.checked os 7 .any (Rows.fnExactFillTableSpec.pre6 enc Try.prog Try.f7 Rows.fnExactFillTableRow.domain false) (Rows.fnExactFillTableSpec.post enc Try.prog Try.f7 false true false false) := by
  refine returnsInHanded_of_change (C := Try.checked) own started (by kernel_rfl) Try.func7
    (ChangeSpec.witness6 (enc := enc) (C := Try.checked) false ⟨#[], #[.int .i64 0, .int .i64 0, .slice none 0 0, .int .i64 0], []⟩ 8 (by kernel_rfl) (by kernel_rfl) (by kernel_rfl) (by kernel_rfl)) ?_
  intro W base args ds gs before hval0 hW hcnd hreach
  have hval : ∀ (j : Nat) t v, Try.f7.params[j]? = some t → args[j]? = some v → Value.okWide Try.prog W .any base t v := hval0
  have hW' := hW
  obtain ⟨p, q, hA0, hV, rfl, hfz, hnd⟩ := hW
  have hA : DataW.TrodAll enc Try.prog W 0 (fun _ => true) true Try.f7.params.toList args.toList ds p := hA0
  rw [Try.params7] at hA hval
  obtain ⟨v0, vs0, d0, ds0, p0, q0, hargs, rfl, rfl, h0, r0⟩ := trodAll_cons hA
  obtain ⟨v1, vs1, d1, ds1, p1, q1, rfl, rfl, rfl, h1, r1⟩ := trodAll_cons r0
  obtain ⟨v2, vs2, d2, ds2, p2, q2, rfl, rfl, rfl, h2, r2⟩ := trodAll_cons r1
  obtain ⟨v3, vs3, d3, ds3, p3, q3, rfl, rfl, rfl, h3, r3⟩ := trodAll_cons r2
  obtain ⟨rfl, rfl, rfl⟩ := trodAll_nil r3
  obtain rfl : args = #[v0, v1, v2, v3] := by cases args; simp_all
  obtain ⟨rfl, rfl⟩ := trodVars_none hV
  obtain ⟨a0, rfl, rfl, rfl, w0⟩ := open_int Try.underlying2 (hval 0 2 v0 rfl rfl) h0
  obtain ⟨a1, rfl, rfl, rfl, w1⟩ := open_int Try.underlying2 (hval 1 2 v1 rfl rfl) h1
  have k2 := h2
  have lt2 : ∀ x ∈ p2, x.block < W.heap.size := by obtain ⟨m, hm⟩ := k2; exact DataW.trod_lt m _ _ _ hm
  obtain ⟨a2, len2, cap2, rfl⟩ := okWide_slice Try.underlying22 (hval 2 22 v2 rfl rfl)
  obtain ⟨b2, z2, _, w2⟩ : ∃ b zs, zs.length = len2 ∧ Rd W b (.slice a2 len2 cap2) zs := by
    obtain ⟨fuel, hf⟩ := h2
    exact rd_open Try.underlying22 Try.underlying2 (by kernel_rfl) (by simpa [Value.cells] using hf)
  obtain ⟨a3, rfl, rfl, rfl, w3⟩ := open_int Try.underlying2 (hval 3 2 v3 rfl rfl) h3
  clear hA0 hval0
  refine (walk w0 w1 w2 w3).mono fun e W' ⟨he, bel⟩ => ?_
  subst he
  exact ⟨_, rfl, _, _, _, [], _, [], hW', trodAll_mk1 (shut_bool Try.underlying4 _), (trodAll_cons_mk (shut_int Try.underlying2 w0) (trodAll_cons_mk (shut_int Try.underlying2 w1) (trodAll_cons_mk (Below.trod laidOut (by kernel_rfl) (of_decide_eq_true (by kernel_rfl)) k2 bel lt2) (trodAll_cons_mk (shut_int Try.underlying2 w3) (trodAll_mk0))))), rfl, bel.frame _, fun h => by cases h⟩

theorem over : Rows.fnExactFillTableRow.holds Try.pinned (OpenSpec.ofChange Rows.fnExactFillTableSpec) :=
  OpenClaim.holds_of_wide 7 Try.f7 rfl rfl rfl rfl rfl rfl rfl ⟨rfl, rfl, rfl, rfl, rfl⟩ rfl rfl rfl rfl rfl (by kernel_rfl) Try.func7 (by kernel_rfl)
    (of_decide_eq_true (by kernel_rfl)) (by unfold Func.isWrapper; rw [if_neg (of_decide_eq_false (by kernel_rfl))]; exact ⟨rfl, rfl⟩)
    (fun os started H enc _ => lifted os started H enc)

theorem proved : Rows.FnExactFillTableSaid := over
end Go.Proofs.Ythcbhbdgbiiagaa.lawFillTable
