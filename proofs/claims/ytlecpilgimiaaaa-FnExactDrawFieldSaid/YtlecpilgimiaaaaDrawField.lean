/- For every two numbers, every share and every seed, impl.DrawField answers as the model of the document does, and its answer is memory of its own. No condition. -/
import Derived.Test.YtlecpilgimiaaaaRows
import Derived.Test.YtlecpilgimiaaaaMayA
import Derived.Test.YtlecpilgimiaaaaMayB
import Derived.Test.YtlecpilgimiaaaaMayC
import Derived.Test.YtlecpilgimiaaaaFldKit
import Derived.Test.YtlecpilgimiaaaaDrg
import Derived.WalkKit
import Derived.WalkLawsBesides
import Derived.ProofKit
import Derived.OpenShut
import Derived.ShutString
import Derived.ChangeOld
import Derived.Below
import Derived.IntWalk
import Derived.Lib.SmallJoins
namespace Go.Proofs.Ytlecpilgimiaaaa.lawDrawField
open Go.ChangeShapes Go.WideShapes Go.ChangeAt Go.RowKit Go.Joins Go.Proofs.Ytlecpilgimiaaaa.Rd Go.Proofs.Ytlecpilgimiaaaa.Help Go.Proofs.Ytlecpilgimiaaaa.Keep
set_option linter.unusedVariables false
set_option linter.unusedSimpArgs false
theorem own : ownKnob Try.prog.godebug = none := by kernel_rfl
theorem laidOut : laidOutB Try.prog = true := by kernel_rfl
theorem agree (a b : Int) (X : Nat) (hX : (Lit.float .f32 X).wf = true) (sd : Int) : ∃ (qs qr : Int) (rs : List Int) (q1 : Int) (q2 : Bool), rs.length ≤ 1000000 ∧ (∀ (w : World), Calls Try.prog 4 #[.int .i64 a, .int .i64 b, .float .f32 X, .int .i64 sd] w fun e w' => ∃ ao c b', e = .returned (.tuple #[Rule.ruleV qs qr (.slice ao rs.length c), .int .i64 q1, .bool q2]) ∧ Own 2 w' b' (.slice ao rs.length c) rs ∧ w.heap.size ≤ b' ∧ Below w.heap.size w w') ∧ (∀ (w : World), Calls Try.prog 5 #[.int .i64 a, .int .i64 b, .float .f32 X, .int .i64 sd] w fun e w' => ∃ ao c b', e = .returned (.tuple #[Rule.ruleV qs qr (.slice ao rs.length c), .int .i64 q1, .bool q2]) ∧ Own 2 w' b' (.slice ao rs.length c) rs ∧ w.heap.size ≤ b' ∧ Below w.heap.size w w') := Drg.agree a b X (by simpa [Lit.wf] using hX) sd

theorem mcellB {w w' : World} {c n i : Nat} {u v : Value} (g : w.grownBy w' (some c)) (gn : v = .slice none 0 0 → Below w.heap.size w w') (h : w.cell? ⟨n, i, none⟩ = some u) (hne : v = .slice none 0 0 ∨ n ≠ c) : w'.cell? ⟨n, i, none⟩ = some u := by
  rcases hne with hv | hne
  · exact cell_keep (gn hv) h
  · exact mcell g h hne
theorem nx0_0 {N : Nat} {w0 w w' : World} (bel : Below w.heap.size w w') (h : Below N w0 w ∧ N ≤ w.heap.size) : Below N w0 w' ∧ N ≤ w'.heap.size := by obtain ⟨h0, h5⟩ := h; exact ⟨h0.trans (bel.mono h5), Nat.le_trans h5 bel.size⟩
theorem drw0_0 {N : Nat} {w0 w : World} (h : Below N w0 w ∧ N ≤ w.heap.size) : Below N w0 w.drew ∧ N ≤ w.drew.heap.size := by obtain ⟨h0, h5⟩ := h; exact ⟨h0.drew, h5⟩
theorem nx3_0 {N : Nat} {w0 w w' : World} {p0 p1 p2 : Addr} {c0 c1 c2 : Value} (bel : Below w.heap.size w w') (h : Below N w0 w ∧ w.cell? p0 = some c0 ∧ w.cell? p1 = some c1 ∧ w.cell? p2 = some c2 ∧ N ≤ w.heap.size) : Below N w0 w' ∧ w'.cell? p0 = some c0 ∧ w'.cell? p1 = some c1 ∧ w'.cell? p2 = some c2 ∧ N ≤ w'.heap.size := by obtain ⟨h0, x0, x1, x2, h5⟩ := h; exact ⟨h0.trans (bel.mono h5), cell_keep bel x0, cell_keep bel x1, cell_keep bel x2, Nat.le_trans h5 bel.size⟩
theorem drw3_0 {N : Nat} {w0 w : World} {p0 p1 p2 : Addr} {c0 c1 c2 : Value} (h : Below N w0 w ∧ w.cell? p0 = some c0 ∧ w.cell? p1 = some c1 ∧ w.cell? p2 = some c2 ∧ N ≤ w.heap.size) : Below N w0 w.drew ∧ w.drew.cell? p0 = some c0 ∧ w.drew.cell? p1 = some c1 ∧ w.drew.cell? p2 = some c2 ∧ N ≤ w.drew.heap.size := by obtain ⟨h0, x0, x1, x2, h5⟩ := h; exact ⟨h0.drew, x0, x1, x2, h5⟩
theorem nx6_0 {N : Nat} {w0 w w' : World} {p0 p1 p2 p3 p4 p5 : Addr} {c0 c1 c2 c3 c4 c5 : Value} (bel : Below w.heap.size w w') (h : Below N w0 w ∧ w.cell? p0 = some c0 ∧ w.cell? p1 = some c1 ∧ w.cell? p2 = some c2 ∧ w.cell? p3 = some c3 ∧ w.cell? p4 = some c4 ∧ w.cell? p5 = some c5 ∧ N ≤ w.heap.size) : Below N w0 w' ∧ w'.cell? p0 = some c0 ∧ w'.cell? p1 = some c1 ∧ w'.cell? p2 = some c2 ∧ w'.cell? p3 = some c3 ∧ w'.cell? p4 = some c4 ∧ w'.cell? p5 = some c5 ∧ N ≤ w'.heap.size := by obtain ⟨h0, x0, x1, x2, x3, x4, x5, h5⟩ := h; exact ⟨h0.trans (bel.mono h5), cell_keep bel x0, cell_keep bel x1, cell_keep bel x2, cell_keep bel x3, cell_keep bel x4, cell_keep bel x5, Nat.le_trans h5 bel.size⟩
theorem drw6_0 {N : Nat} {w0 w : World} {p0 p1 p2 p3 p4 p5 : Addr} {c0 c1 c2 c3 c4 c5 : Value} (h : Below N w0 w ∧ w.cell? p0 = some c0 ∧ w.cell? p1 = some c1 ∧ w.cell? p2 = some c2 ∧ w.cell? p3 = some c3 ∧ w.cell? p4 = some c4 ∧ w.cell? p5 = some c5 ∧ N ≤ w.heap.size) : Below N w0 w.drew ∧ w.drew.cell? p0 = some c0 ∧ w.drew.cell? p1 = some c1 ∧ w.drew.cell? p2 = some c2 ∧ w.drew.cell? p3 = some c3 ∧ w.drew.cell? p4 = some c4 ∧ w.drew.cell? p5 = some c5 ∧ N ≤ w.drew.heap.size := by obtain ⟨h0, x0, x1, x2, x3, x4, x5, h5⟩ := h; exact ⟨h0.drew, x0, x1, x2, x3, x4, x5, h5⟩
theorem nx9_0 {N : Nat} {w0 w w' : World} {p0 p1 p2 p3 p4 p5 p6 p7 p8 : Addr} {c0 c1 c2 c3 c4 c5 c6 c7 c8 : Value} (bel : Below w.heap.size w w') (h : Below N w0 w ∧ w.cell? p0 = some c0 ∧ w.cell? p1 = some c1 ∧ w.cell? p2 = some c2 ∧ w.cell? p3 = some c3 ∧ w.cell? p4 = some c4 ∧ w.cell? p5 = some c5 ∧ w.cell? p6 = some c6 ∧ w.cell? p7 = some c7 ∧ w.cell? p8 = some c8 ∧ N ≤ w.heap.size) : Below N w0 w' ∧ w'.cell? p0 = some c0 ∧ w'.cell? p1 = some c1 ∧ w'.cell? p2 = some c2 ∧ w'.cell? p3 = some c3 ∧ w'.cell? p4 = some c4 ∧ w'.cell? p5 = some c5 ∧ w'.cell? p6 = some c6 ∧ w'.cell? p7 = some c7 ∧ w'.cell? p8 = some c8 ∧ N ≤ w'.heap.size := by obtain ⟨h0, x0, x1, x2, x3, x4, x5, x6, x7, x8, h5⟩ := h; exact ⟨h0.trans (bel.mono h5), cell_keep bel x0, cell_keep bel x1, cell_keep bel x2, cell_keep bel x3, cell_keep bel x4, cell_keep bel x5, cell_keep bel x6, cell_keep bel x7, cell_keep bel x8, Nat.le_trans h5 bel.size⟩
theorem drw9_0 {N : Nat} {w0 w : World} {p0 p1 p2 p3 p4 p5 p6 p7 p8 : Addr} {c0 c1 c2 c3 c4 c5 c6 c7 c8 : Value} (h : Below N w0 w ∧ w.cell? p0 = some c0 ∧ w.cell? p1 = some c1 ∧ w.cell? p2 = some c2 ∧ w.cell? p3 = some c3 ∧ w.cell? p4 = some c4 ∧ w.cell? p5 = some c5 ∧ w.cell? p6 = some c6 ∧ w.cell? p7 = some c7 ∧ w.cell? p8 = some c8 ∧ N ≤ w.heap.size) : Below N w0 w.drew ∧ w.drew.cell? p0 = some c0 ∧ w.drew.cell? p1 = some c1 ∧ w.drew.cell? p2 = some c2 ∧ w.drew.cell? p3 = some c3 ∧ w.drew.cell? p4 = some c4 ∧ w.drew.cell? p5 = some c5 ∧ w.drew.cell? p6 = some c6 ∧ w.drew.cell? p7 = some c7 ∧ w.drew.cell? p8 = some c8 ∧ N ≤ w.drew.heap.size := by obtain ⟨h0, x0, x1, x2, x3, x4, x5, x6, x7, x8, h5⟩ := h; exact ⟨h0.drew, x0, x1, x2, x3, x4, x5, x6, x7, x8, h5⟩

set_option maxHeartbeats 16000000 in
theorem walk {w : World} {a0 : Int} (f0 : (Lit.int .i64 a0).wf = true) {a1 : Int} (f1 : (Lit.int .i64 a1).wf = true) {a2 : Nat} (f2 : (Lit.float .f32 a2).wf = true) {a3 : Int} (f3 : (Lit.int .i64 a3).wf = true) :
    Calls Try.prog 3 #[.int .i64 a0, .int .i64 a1, .float .f32 a2, .int .i64 a3] w fun e w' => e = .returned (.bool true) ∧ Below w.heap.size w w' := by
  obtain ⟨qs, qr, rs, q1, q2, hlen, hspec, himpl⟩ := agree a0 a1 a2 f2 a3 
  have HN : Hid (rs.length ≤ 1000000) := hlen
  have hlen' : (rs.length : Int) ≤ 1000000 := by omega
  clear hlen
  have HSp := hid @hspec
  have HIm := hid @himpl
  clear hspec himpl 
  go_enter Try.func3, Try.ntmps3
  have st : Below w.heap.size w w ∧ w.heap.size ≤ w.heap.size := ⟨Below.refl _ _, Nat.le_refl _⟩
  go_wp2_with fail
  go_at_call 4
  refine (HSp.out _ ).mono ?_
  rintro e w1 ⟨aoW, cW, bW, rfl, oW, lo, bel⟩
  have cbW : w.heap.size ≤ bW := Nat.le_trans (And.left st).size lo
  replace st := nx0_0 bel st
  clear bel
  clear lo
  obtain ⟨w3, hW⟩ : ∃ w3, w3 = w1.alloc (Obj.cells #[.int .i64 qs, .int .i64 qr, (Value.slice aoW rs.length cW)] 25) := ⟨_, rfl⟩
  obtain ⟨NW, hN⟩ : ∃ NW, NW = w1.heap.size := ⟨_, rfl⟩
  have nbW_W : (Value.slice aoW rs.length cW) = Value.slice none 0 0 ∨ NW ≠ bW := (lim oW).imp id (fun hx => by rw [hN]; exact Nat.ne_of_gt hx)
  have bel : Below w1.heap.size w1 w3 := by rw [hW]; exact Rule.below1 _ _
  have st' : Below w.heap.size w w3 ∧ w3.cell? ⟨NW, 0, none⟩ = some (.int .i64 qs) ∧ w3.cell? ⟨NW, 1, none⟩ = some (.int .i64 qr) ∧ w3.cell? ⟨NW, 2, none⟩ = some ((Value.slice aoW rs.length cW)) ∧ w.heap.size ≤ w3.heap.size := by
    obtain ⟨t0, tz⟩ := nx0_0 bel st
    exact ⟨t0, by rw [hW, hN]; simp, by rw [hW, hN]; simp, by rw [hW, hN]; simp, tz⟩
  replace oW := oW.keep bel
  clear st bel; have st := st'; clear st'
  have stp := st
  rw [hW, hN] at stp
  go_wp2_with fail
  clear stp
  simp only [← hW, ← hN]
  clear hW hN
  go_at_call 5
  refine (HIm.out _ ).mono ?_
  rintro e w2 ⟨aoG, cG, bG, rfl, oG, lo, bel⟩
  have neWG := (lim oW).imp id (fun hx => (by omega : bW ≠ bG))
  have cbG : w.heap.size ≤ bG := Nat.le_trans (And.left st).size lo
  have nbW_G : (Value.slice aoG rs.length cG) = Value.slice none 0 0 ∨ NW ≠ bG := .inr (Nat.ne_of_lt (Nat.lt_of_lt_of_le (World.block_lt_of_cell? _ _ st.2.1) lo))
  replace st := nx3_0 bel st
  replace oW := oW.keep bel
  clear bel
  clear lo
  obtain ⟨w5, hW⟩ : ∃ w5, w5 = w2.alloc (Obj.cells #[.int .i64 qs, .int .i64 qr, (Value.slice aoG rs.length cG)] 25) := ⟨_, rfl⟩
  obtain ⟨NG, hN⟩ : ∃ NG, NG = w2.heap.size := ⟨_, rfl⟩
  have nbG_W : (Value.slice aoW rs.length cW) = Value.slice none 0 0 ∨ NG ≠ bW := (lim oW).imp id (fun hx => by rw [hN]; exact Nat.ne_of_gt hx)
  have nbG_G : (Value.slice aoG rs.length cG) = Value.slice none 0 0 ∨ NG ≠ bG := (lim oG).imp id (fun hx => by rw [hN]; exact Nat.ne_of_gt hx)
  have bel : Below w2.heap.size w2 w5 := by rw [hW]; exact Rule.below1 _ _
  have st' : Below w.heap.size w w5 ∧ w5.cell? ⟨NW, 0, none⟩ = some (.int .i64 qs) ∧ w5.cell? ⟨NW, 1, none⟩ = some (.int .i64 qr) ∧ w5.cell? ⟨NW, 2, none⟩ = some ((Value.slice aoW rs.length cW)) ∧ w5.cell? ⟨NG, 0, none⟩ = some (.int .i64 qs) ∧ w5.cell? ⟨NG, 1, none⟩ = some (.int .i64 qr) ∧ w5.cell? ⟨NG, 2, none⟩ = some ((Value.slice aoG rs.length cG)) ∧ w.heap.size ≤ w5.heap.size := by
    obtain ⟨t0, c0, c1, c2, tz⟩ := nx3_0 bel st
    exact ⟨t0, c0, c1, c2, by rw [hW, hN]; simp, by rw [hW, hN]; simp, by rw [hW, hN]; simp, tz⟩
  replace oW := oW.keep bel
  replace oG := oG.keep bel
  clear st bel; have st := st'; clear st'
  have stp := st
  rw [hW, hN] at stp
  go_wp2_with fail
  clear stp
  simp only [← hW, ← hN]
  clear hW hN
  go_at_call 6
  refine (eqR oG.rd oW.rd).mono ?_
  rintro e w4 ⟨rfl, bel⟩
  replace st := nx6_0 bel st
  replace oW := oW.keep bel
  replace oG := oG.keep bel
  clear bel
  go_wp2_with fail
  go_at_call 7
  refine (markR oG (by omega) (by have := HN.out; omega)).mono ?_
  rintro e w6 ⟨rfl, mG, g, gn⟩
  replace oW := beside oW g neWG
  replace oG := mG; clear mG
  have gB := below_mark (And.left st) g (And.left st).size cbG
  have st' : Below w.heap.size w w6 ∧ w6.cell? ⟨NW, 0, none⟩ = some (.int .i64 qs) ∧ w6.cell? ⟨NW, 1, none⟩ = some (.int .i64 qr) ∧ w6.cell? ⟨NW, 2, none⟩ = some ((Value.slice aoW rs.length cW)) ∧ w6.cell? ⟨NG, 0, none⟩ = some (.int .i64 qs) ∧ w6.cell? ⟨NG, 1, none⟩ = some (.int .i64 qr) ∧ w6.cell? ⟨NG, 2, none⟩ = some ((Value.slice aoG rs.length cG)) ∧ w.heap.size ≤ w6.heap.size := ⟨gB, mcellB g gn st.2.1 nbW_G, mcellB g gn st.2.2.1 nbW_G, mcellB g gn st.2.2.2.1 nbW_G, mcellB g gn st.2.2.2.2.1 nbG_G, mcellB g gn st.2.2.2.2.2.1 nbG_G, mcellB g gn st.2.2.2.2.2.2.1 nbG_G, gB.size⟩
  clear st g gn gB; have st := st'; clear st'
  go_wp2_with fail
  go_at_call 8
  refine (heldR oG.rd (by omega) (by have := HN.out; omega)).mono ?_
  rintro e w7 ⟨rfl, bel⟩
  replace st := nx6_0 bel st
  replace oW := oW.keep bel
  replace oG := oG.keep bel
  clear bel
  go_wp2_with fail
  go_at_call 5
  refine (HIm.out _ ).mono ?_
  rintro e w8 ⟨aoK, cK, bK, rfl, oK, lo, bel⟩
  have neWK := (lim oW).imp id (fun hx => (by omega : bW ≠ bK))
  have neGK := (lim oG).imp id (fun hx => (by omega : bG ≠ bK))
  have cbK : w.heap.size ≤ bK := Nat.le_trans (And.left st).size lo
  have nbW_K : (Value.slice aoK rs.length cK) = Value.slice none 0 0 ∨ NW ≠ bK := .inr (Nat.ne_of_lt (Nat.lt_of_lt_of_le (World.block_lt_of_cell? _ _ st.2.1) lo))
  have nbG_K : (Value.slice aoK rs.length cK) = Value.slice none 0 0 ∨ NG ≠ bK := .inr (Nat.ne_of_lt (Nat.lt_of_lt_of_le (World.block_lt_of_cell? _ _ st.2.2.2.2.1) lo))
  replace st := nx6_0 bel st
  replace oW := oW.keep bel
  replace oG := oG.keep bel
  clear bel
  clear lo
  obtain ⟨w10, hW⟩ : ∃ w10, w10 = w8.alloc (Obj.cells #[.int .i64 qs, .int .i64 qr, (Value.slice aoK rs.length cK)] 25) := ⟨_, rfl⟩
  obtain ⟨NK, hN⟩ : ∃ NK, NK = w8.heap.size := ⟨_, rfl⟩
  have nbK_W : (Value.slice aoW rs.length cW) = Value.slice none 0 0 ∨ NK ≠ bW := (lim oW).imp id (fun hx => by rw [hN]; exact Nat.ne_of_gt hx)
  have nbK_G : (Value.slice aoG rs.length cG) = Value.slice none 0 0 ∨ NK ≠ bG := (lim oG).imp id (fun hx => by rw [hN]; exact Nat.ne_of_gt hx)
  have nbK_K : (Value.slice aoK rs.length cK) = Value.slice none 0 0 ∨ NK ≠ bK := (lim oK).imp id (fun hx => by rw [hN]; exact Nat.ne_of_gt hx)
  have bel : Below w8.heap.size w8 w10 := by rw [hW]; exact Rule.below1 _ _
  have st' : Below w.heap.size w w10 ∧ w10.cell? ⟨NW, 0, none⟩ = some (.int .i64 qs) ∧ w10.cell? ⟨NW, 1, none⟩ = some (.int .i64 qr) ∧ w10.cell? ⟨NW, 2, none⟩ = some ((Value.slice aoW rs.length cW)) ∧ w10.cell? ⟨NG, 0, none⟩ = some (.int .i64 qs) ∧ w10.cell? ⟨NG, 1, none⟩ = some (.int .i64 qr) ∧ w10.cell? ⟨NG, 2, none⟩ = some ((Value.slice aoG rs.length cG)) ∧ w10.cell? ⟨NK, 0, none⟩ = some (.int .i64 qs) ∧ w10.cell? ⟨NK, 1, none⟩ = some (.int .i64 qr) ∧ w10.cell? ⟨NK, 2, none⟩ = some ((Value.slice aoK rs.length cK)) ∧ w.heap.size ≤ w10.heap.size := by
    obtain ⟨t0, c0, c1, c2, c3, c4, c5, tz⟩ := nx6_0 bel st
    exact ⟨t0, c0, c1, c2, c3, c4, c5, by rw [hW, hN]; simp, by rw [hW, hN]; simp, by rw [hW, hN]; simp, tz⟩
  replace oW := oW.keep bel
  replace oG := oG.keep bel
  replace oK := oK.keep bel
  clear st bel; have st := st'; clear st'
  have stp := st
  rw [hW, hN] at stp
  go_wp2_with fail
  clear stp
  simp only [← hW, ← hN]
  clear hW hN
  go_at_call 6
  refine (eqR oK.rd oW.rd).mono ?_
  rintro e w9 ⟨rfl, bel⟩
  replace st := nx9_0 bel st
  replace oW := oW.keep bel
  replace oG := oG.keep bel
  replace oK := oK.keep bel
  clear bel
  go_wp2_with fail
  go_at_call 8
  refine (heldR oG.rd (by omega) (by have := HN.out; omega)).mono ?_
  rintro e w11 ⟨rfl, bel⟩
  replace st := nx9_0 bel st
  replace oW := oW.keep bel
  replace oG := oG.keep bel
  replace oK := oK.keep bel
  clear bel
  go_wp2
  go_ret
  exact ⟨rfl, And.left st⟩

set_option maxRecDepth 100000 in
theorem lifted (os : Os) (started : os.Started) (H : Type) (enc : TypeId × Value → H) :
    ReturnsInHanded {} Try.checked os 3 .any (Rows.fnExactDrawFieldSpec.pre6 enc Try.prog Try.f3 Rows.fnExactDrawFieldRow.domain false) (Rows.fnExactDrawFieldSpec.post enc Try.prog Try.f3 false true false false) := by
  refine returnsInHanded_of_change (C := Try.checked) own started (by kernel_rfl) Try.func3
    (ChangeSpec.witness6 (enc := enc) (C := Try.checked) false ⟨#[], #[.int .i64 0, .int .i64 0, .float .f32 0, .int .i64 0], []⟩ 8 (by kernel_rfl) (by kernel_rfl) (by kernel_rfl) (by kernel_rfl)) ?_
  intro W base args ds gs before hval0 hW hcnd hreach
  have hval : ∀ (j : Nat) t v, Try.f3.params[j]? = some t → args[j]? = some v → Value.okWide Try.prog W .any base t v := hval0
  have hW' := hW
  obtain ⟨p, q, hA0, hV, rfl, hfz, hnd⟩ := hW
  have hA : DataW.TrodAll enc Try.prog W 0 (fun _ => true) true Try.f3.params.toList args.toList ds p := hA0
  rw [Try.params3] at hA hval
  obtain ⟨v0, vs0, d0, ds0, p0, q0, hargs, rfl, rfl, h0, r0⟩ := trodAll_cons hA
  obtain ⟨v1, vs1, d1, ds1, p1, q1, rfl, rfl, rfl, h1, r1⟩ := trodAll_cons r0
  obtain ⟨v2, vs2, d2, ds2, p2, q2, rfl, rfl, rfl, h2, r2⟩ := trodAll_cons r1
  obtain ⟨v3, vs3, d3, ds3, p3, q3, rfl, rfl, rfl, h3, r3⟩ := trodAll_cons r2
  obtain ⟨rfl, rfl, rfl⟩ := trodAll_nil r3
  obtain rfl : args = #[v0, v1, v2, v3] := by cases args; simp_all
  obtain ⟨rfl, rfl⟩ := trodVars_none hV
  obtain ⟨a0, rfl, rfl, rfl, w0⟩ := open_int Try.underlying2 (hval 0 2 v0 rfl rfl) h0
  obtain ⟨a1, rfl, rfl, rfl, w1⟩ := open_int Try.underlying2 (hval 1 2 v1 rfl rfl) h1
  obtain ⟨a2, rfl, rfl, rfl, w2⟩ := open_float Try.underlying22 (hval 2 22 v2 rfl rfl) h2
  obtain ⟨a3, rfl, rfl, rfl, w3⟩ := open_int Try.underlying2 (hval 3 2 v3 rfl rfl) h3
  clear hA0 hval0
  refine (walk w0 w1 w2 w3).mono fun e W' ⟨he, bel⟩ => ?_
  subst he
  exact ⟨_, rfl, _, _, _, [], _, [], hW', trodAll_mk1 (shut_bool Try.underlying4 _), (trodAll_cons_mk (shut_int Try.underlying2 w0) (trodAll_cons_mk (shut_int Try.underlying2 w1) (trodAll_cons_mk (shut_float Try.underlying22 w2) (trodAll_cons_mk (shut_int Try.underlying2 w3) (trodAll_mk0))))), rfl, bel.frame _, fun h => by cases h⟩

theorem over : Rows.fnExactDrawFieldRow.holds Try.pinned (OpenSpec.ofChange Rows.fnExactDrawFieldSpec) :=
  OpenClaim.holds_of_wide 3 Try.f3 rfl rfl rfl rfl rfl rfl rfl ⟨rfl, rfl, rfl, rfl, rfl⟩ rfl rfl rfl rfl rfl (by kernel_rfl) Try.func3 (by unfold joinedFacts; rw [MayA.fact, MayB.fact, MayC.fact]; kernel_rfl)
    (of_decide_eq_true (by kernel_rfl)) (by unfold Func.isWrapper; rw [if_neg (of_decide_eq_false (by kernel_rfl))]; exact ⟨rfl, rfl⟩)
    (fun os started H enc _ => lifted os started H enc)

theorem proved : Rows.FnExactDrawFieldSaid := over
end Go.Proofs.Ytlecpilgimiaaaa.lawDrawField
