/- For every field and every number of states, impl.WindingOf answers as the model of the document does, owns its answer, and changes nothing that it is given. No condition. -/
import Derived.Test.YthcbhbdgbiiagaaRows
import Derived.Test.YthcbhbdgbiiagaaFldKit
import Derived.Test.YthcbhbdgbiiagaaWin
import Derived.WalkKit
import Derived.WalkLawsBesides
import Derived.ProofKit
import Derived.OpenShut
import Derived.ShutString
import Derived.ChangeOld
import Derived.Below
import Derived.IntWalk
import Derived.Lib.SmallJoins
import Derived.Deep.Cut
namespace Go.Proofs.Ythcbhbdgbiiagaa.lawWindingOf
open Go.ChangeShapes Go.WideShapes Go.ChangeAt Go.RowKit Go.Joins Go.Proofs.Ythcbhbdgbiiagaa.Rd Go.Proofs.Ythcbhbdgbiiagaa.Help Go.Proofs.Ythcbhbdgbiiagaa.Keep
set_option linter.unusedVariables false
set_option linter.unusedSimpArgs false
theorem own : ownKnob Try.prog.godebug = none := by kernel_rfl
theorem laidOut : laidOutB Try.prog = true := by kernel_rfl
theorem agree (s r : Int) (zs : List Int) (st : Int) (hz : zs.length ≤ 1048576) : ∃ (rs : List Int) (ok : Bool), rs.length ≤ 1000000 ∧ (∀ (w : World) (b : Nat) (v : Value), Rd w b v zs → Calls Try.prog 40 #[Rule.ruleV s r v, .int .i64 st] w fun e w' => ∃ ao c b', e = .returned (.tuple #[.slice ao rs.length c, .bool ok]) ∧ Own 2 w' b' (.slice ao rs.length c) rs ∧ w.heap.size ≤ b' ∧ Below w.heap.size w w') ∧ (∀ (w : World) (b : Nat) (v : Value), Rd w b v zs → Calls Try.prog 41 #[Rule.ruleV s r v, .int .i64 st] w fun e w' => ∃ ao c b', e = .returned (.tuple #[.slice ao rs.length c, .bool ok]) ∧ Own 2 w' b' (.slice ao rs.length c) rs ∧ w.heap.size ≤ b' ∧ Below w.heap.size w w') := Win.agree s r st zs

theorem heap_top0 (w : World) (o : Obj) : (w.alloc o).heap[w.heap.size]? = some o := by
  show (w.heap.push o)[w.heap.size]? = some o
  simp
theorem own_setB {E : TypeId} {w : World} {b : Nat} {v : Value} {zs : List Int} (h : Own E w b v zs) (a : Addr) (u : Value) (hne : v = .slice none 0 0 ∨ a.block ≠ b) : Own E (w.setCell a u) b v zs := by
  rcases hne with hv | hne
  · rcases h.form with ⟨_, he⟩ | ⟨cap, hv2, _⟩
    · subst hv; rw [he]; exact Own.nil _ _ _
    · rw [hv] at hv2; cases hv2
  · exact own_set h a u hne
theorem heap_keep {w w' : World} {n : Nat} {o : Obj} (bel : Below w.heap.size w w') (h : w.heap[n]? = some o) : w'.heap[n]? = some o :=
  (bel.block n (Array.getElem?_eq_some_iff.1 h).1).trans h
theorem mcellB {w w' : World} {c n i : Nat} {u v : Value} (g : w.grownBy w' (some c)) (gn : v = .slice none 0 0 → Below w.heap.size w w') (h : w.cell? ⟨n, i, none⟩ = some u) (hne : v = .slice none 0 0 ∨ n ≠ c) : w'.cell? ⟨n, i, none⟩ = some u := by
  rcases hne with hv | hne
  · exact cell_keep (gn hv) h
  · exact mcell g h hne
theorem heldSB {w : World} {b : Nat} {v : Value} {n : Nat} {q : Int} (h : Rd w b v (marks q n)) (h0 : 0 ≤ q) (hq : q + n ≤ 4611686018427387904) : Calls Try.prog 42 #[v, .int .i64 q] w fun e w' => e = .returned (.int .i64 (q + n)) ∧ Below w.heap.size w w' := by
  refine (heldS h h0 hq).mono ?_
  rintro e w' ⟨rfl, rfl⟩
  exact ⟨rfl, Below.refl _ _⟩
theorem szF_ok {w : World} {s r : Int} {ao : Option Addr} {n cap : Nat} {q : Int} (hn : n ≤ 9223372036854775807) (h0 : 0 ≤ q) (hq : q ≤ 1048576) (h : (n : Int) ≤ q) : Calls Try.prog 13 #[Rule.ruleV s r (.slice ao n cap), .int .i64 q] w fun e w' => e = .returned (.int .i64 (q - n)) ∧ Below w.heap.size w w' := by
  refine (szR hn h0 hq).mono ?_
  rw [if_pos h]
  exact fun e w' h => h
theorem szF_no {w : World} {s r : Int} {ao : Option Addr} {n cap : Nat} {q : Int} (hn : n ≤ 9223372036854775807) (h0 : 0 ≤ q) (hq : q ≤ 1048576) (h : ¬ (n : Int) ≤ q) : Calls Try.prog 13 #[Rule.ruleV s r (.slice ao n cap), .int .i64 q] w fun e w' => e = .returned (.int .i64 (-1)) ∧ Below w.heap.size w w' := by
  refine (szR hn h0 hq).mono ?_
  rw [if_neg h]
  exact fun e w' h => h
theorem nx3_I {N : Nat} {w0 w w' : World} {p0 p1 p2 : Addr} {c0 c1 c2 : Value} {b0 : Nat} {v0 : Value} {z0 : List Int} (bel : Below w.heap.size w w') (h : Below N w0 w ∧ w.cell? p0 = some c0 ∧ w.cell? p1 = some c1 ∧ w.cell? p2 = some c2 ∧ Rd w b0 v0 z0 ∧ N ≤ w.heap.size) : Below N w0 w' ∧ w'.cell? p0 = some c0 ∧ w'.cell? p1 = some c1 ∧ w'.cell? p2 = some c2 ∧ Rd w' b0 v0 z0 ∧ N ≤ w'.heap.size := by obtain ⟨h0, x0, x1, x2, y0, h5⟩ := h; exact ⟨h0.trans (bel.mono h5), cell_keep bel x0, cell_keep bel x1, cell_keep bel x2, y0.keep bel (Nat.le_refl _), Nat.le_trans h5 bel.size⟩
theorem drw3_I {N : Nat} {w0 w : World} {p0 p1 p2 : Addr} {c0 c1 c2 : Value} {b0 : Nat} {v0 : Value} {z0 : List Int} (h : Below N w0 w ∧ w.cell? p0 = some c0 ∧ w.cell? p1 = some c1 ∧ w.cell? p2 = some c2 ∧ Rd w b0 v0 z0 ∧ N ≤ w.heap.size) : Below N w0 w.drew ∧ w.drew.cell? p0 = some c0 ∧ w.drew.cell? p1 = some c1 ∧ w.drew.cell? p2 = some c2 ∧ Rd w.drew b0 v0 z0 ∧ N ≤ w.drew.heap.size := by obtain ⟨h0, x0, x1, x2, y0, h5⟩ := h; exact ⟨h0.drew, x0, x1, x2, y0, h5⟩
theorem rdx3_I_0 {N : Nat} {w0 w : World} {p0 p1 p2 : Addr} {c0 c1 c2 : Value} {b0 : Nat} {v0 : Value} {z0 : List Int} (h : Below N w0 w ∧ w.cell? p0 = some c0 ∧ w.cell? p1 = some c1 ∧ w.cell? p2 = some c2 ∧ Rd w b0 v0 z0 ∧ N ≤ w.heap.size) : Rd w b0 v0 z0 := by obtain ⟨h0, x0, x1, x2, y0, h5⟩ := h; exact y0
theorem nx6_I {N : Nat} {w0 w w' : World} {p0 p1 p2 p3 p4 p5 : Addr} {c0 c1 c2 c3 c4 c5 : Value} {b0 : Nat} {v0 : Value} {z0 : List Int} (bel : Below w.heap.size w w') (h : Below N w0 w ∧ w.cell? p0 = some c0 ∧ w.cell? p1 = some c1 ∧ w.cell? p2 = some c2 ∧ w.cell? p3 = some c3 ∧ w.cell? p4 = some c4 ∧ w.cell? p5 = some c5 ∧ Rd w b0 v0 z0 ∧ N ≤ w.heap.size) : Below N w0 w' ∧ w'.cell? p0 = some c0 ∧ w'.cell? p1 = some c1 ∧ w'.cell? p2 = some c2 ∧ w'.cell? p3 = some c3 ∧ w'.cell? p4 = some c4 ∧ w'.cell? p5 = some c5 ∧ Rd w' b0 v0 z0 ∧ N ≤ w'.heap.size := by obtain ⟨h0, x0, x1, x2, x3, x4, x5, y0, h5⟩ := h; exact ⟨h0.trans (bel.mono h5), cell_keep bel x0, cell_keep bel x1, cell_keep bel x2, cell_keep bel x3, cell_keep bel x4, cell_keep bel x5, y0.keep bel (Nat.le_refl _), Nat.le_trans h5 bel.size⟩
theorem drw6_I {N : Nat} {w0 w : World} {p0 p1 p2 p3 p4 p5 : Addr} {c0 c1 c2 c3 c4 c5 : Value} {b0 : Nat} {v0 : Value} {z0 : List Int} (h : Below N w0 w ∧ w.cell? p0 = some c0 ∧ w.cell? p1 = some c1 ∧ w.cell? p2 = some c2 ∧ w.cell? p3 = some c3 ∧ w.cell? p4 = some c4 ∧ w.cell? p5 = some c5 ∧ Rd w b0 v0 z0 ∧ N ≤ w.heap.size) : Below N w0 w.drew ∧ w.drew.cell? p0 = some c0 ∧ w.drew.cell? p1 = some c1 ∧ w.drew.cell? p2 = some c2 ∧ w.drew.cell? p3 = some c3 ∧ w.drew.cell? p4 = some c4 ∧ w.drew.cell? p5 = some c5 ∧ Rd w.drew b0 v0 z0 ∧ N ≤ w.drew.heap.size := by obtain ⟨h0, x0, x1, x2, x3, x4, x5, y0, h5⟩ := h; exact ⟨h0.drew, x0, x1, x2, x3, x4, x5, y0, h5⟩
theorem rdx6_I_0 {N : Nat} {w0 w : World} {p0 p1 p2 p3 p4 p5 : Addr} {c0 c1 c2 c3 c4 c5 : Value} {b0 : Nat} {v0 : Value} {z0 : List Int} (h : Below N w0 w ∧ w.cell? p0 = some c0 ∧ w.cell? p1 = some c1 ∧ w.cell? p2 = some c2 ∧ w.cell? p3 = some c3 ∧ w.cell? p4 = some c4 ∧ w.cell? p5 = some c5 ∧ Rd w b0 v0 z0 ∧ N ≤ w.heap.size) : Rd w b0 v0 z0 := by obtain ⟨h0, x0, x1, x2, x3, x4, x5, y0, h5⟩ := h; exact y0

set_option maxHeartbeats 64000000 in
set_option maxRecDepth 4000 in
theorem walk {w : World} {s0 r0 : Int} (fs0 : (Lit.int .i64 s0).wf = true) (fr0 : (Lit.int .i64 r0).wf = true) {b0x : Nat} {v0x : Value} {z0x : List Int} (h0x : Rd w b0x v0x z0x) {a1 : Int} (f1 : (Lit.int .i64 a1).wf = true) :
    Calls Try.prog 10 #[Rule.ruleV s0 r0 v0x, .int .i64 a1] w fun e w' => e = .returned (.bool true) ∧ Below w.heap.size w w' := by
  obtain ⟨ao0x, cap0x, e0x, kc0x, mc0x, _⟩ := id h0x
  have H0x : Hid (Rd w b0x v0x z0x) := h0x
  subst e0x; clear h0x
  have nb0x : z0x.length ≤ 9223372036854775807 := by unfold maxLen at mc0x; omega
  clear kc0x mc0x
  by_cases hs0 : (z0x.length : Int) ≤ 1048576
  rotate_left 1
  · go_enter Try.func10, Try.ntmps10
    go_wp2_with fail
    obtain ⟨w1, hW⟩ : ∃ w1, w1 = (w.alloc (Obj.cells #[.int .i64 s0, .int .i64 r0, (Value.slice ao0x z0x.length cap0x)] 24)) := ⟨_, rfl⟩
    obtain ⟨N0, hN0⟩ : ∃ N0, N0 = w.heap.size := ⟨_, rfl⟩
    have st : Below w.heap.size w w1 ∧ w1.cell? ⟨N0, 0, none⟩ = some (.int .i64 s0) ∧ w1.cell? ⟨N0, 1, none⟩ = some (.int .i64 r0) ∧ w1.cell? ⟨N0, 2, none⟩ = some ((Value.slice ao0x z0x.length cap0x)) ∧ Rd w1 b0x (Value.slice ao0x z0x.length cap0x) z0x ∧ w.heap.size ≤ w1.heap.size := by
      rw [hW, hN0]
      exact ⟨Rule.below1 _ _, by simp, by simp, by simp, H0x.out.keep (Rule.below1 _ _) (Nat.le_refl _), by simp <;> omega⟩
    simp only [← hW, ← hN0]
    clear hW hN0
    go_at_call 13
    refine (szF_no nb0x (q := 1048576) (by omega) (by omega) (by omega)).mono ?_
    rintro e w2 ⟨rfl, bel⟩
    replace st := nx3_I bel st
    clear bel
    go_wp2
    go_ret
    exact ⟨rfl, st.1⟩
  have hl0x : z0x.length ≤ 1048576 := by omega
  have HL0x : Hid (z0x.length ≤ 1048576) := hl0x
  obtain ⟨rs, q1, hlen, hspec, himpl⟩ := agree s0 r0 z0x a1 hl0x
  have HN : Hid (rs.length ≤ 1000000) := hlen
  have hlen' : (rs.length : Int) ≤ 1000000 := by omega
  clear hlen
  have HSp := hid @hspec
  have HIm := hid @himpl
  clear hspec himpl hl0x
  go_enter Try.func10, Try.ntmps10
  go_wp2_with fail
  obtain ⟨w1, hW⟩ : ∃ w1, w1 = (w.alloc (Obj.cells #[.int .i64 s0, .int .i64 r0, (Value.slice ao0x z0x.length cap0x)] 24)) := ⟨_, rfl⟩
  obtain ⟨N0, hN0⟩ : ∃ N0, N0 = w.heap.size := ⟨_, rfl⟩
  have st : Below w.heap.size w w1 ∧ w1.cell? ⟨N0, 0, none⟩ = some (.int .i64 s0) ∧ w1.cell? ⟨N0, 1, none⟩ = some (.int .i64 r0) ∧ w1.cell? ⟨N0, 2, none⟩ = some ((Value.slice ao0x z0x.length cap0x)) ∧ Rd w1 b0x (Value.slice ao0x z0x.length cap0x) z0x ∧ w.heap.size ≤ w1.heap.size := by
    rw [hW, hN0]
    exact ⟨Rule.below1 _ _, by simp, by simp, by simp, H0x.out.keep (Rule.below1 _ _) (Nat.le_refl _), by simp <;> omega⟩
  simp only [← hW, ← hN0]
  clear hW hN0
  go_at_call 13
  refine (szF_ok nb0x (q := 1048576) (by omega) (by omega) (by omega)).mono ?_
  rintro e w2 ⟨rfl, bel⟩
  replace st := nx3_I bel st
  clear bel
  go_wp2_with fail
  go_at_call 15
  refine (toR (rdx3_I_0 st) HL0x.out).mono ?_
  rintro e w3 ⟨bp0x, rfl, op0x, lo, bel⟩
  have cbp0x : w.heap.size ≤ bp0x := Nat.le_trans (And.left st).size lo
  have nbN0_p0x : (Value.slice (some ⟨bp0x, 0, none⟩) z0x.length z0x.length) = Value.slice none 0 0 ∨ N0 ≠ bp0x := .inr (Nat.ne_of_lt (Nat.lt_of_lt_of_le (World.block_lt_of_cell? _ _ st.2.1) lo))
  replace st := nx3_I bel st
  clear bel
  clear lo
  go_wp2_with fail
  go_at_call 40
  refine (HSp.out _ _ _ op0x.rd).mono ?_
  rintro e w4 ⟨aoW, cW, bW, rfl, oW, lo, bel⟩
  have nep0x_W := (lim op0x).imp id (fun hx => (Nat.ne_of_lt (Nat.lt_of_lt_of_le hx lo) : bp0x ≠ bW))
  have cbW : w.heap.size ≤ bW := Nat.le_trans (And.left st).size lo
  have nbN0_W : (Value.slice aoW rs.length cW) = Value.slice none 0 0 ∨ N0 ≠ bW := .inr (Nat.ne_of_lt (Nat.lt_of_lt_of_le (World.block_lt_of_cell? _ _ st.2.1) lo))
  replace st := nx3_I bel st
  replace op0x := op0x.keep bel
  clear bel
  clear lo
  clear op0x
  go_wp2_with fail
  go_at_call 15
  refine (toR (rdx3_I_0 st) HL0x.out).mono ?_
  rintro e w5 ⟨bx0x, rfl, ox0x, lo, bel⟩
  have neW_x0x := (lim oW).imp id (fun hx => (Nat.ne_of_lt (Nat.lt_of_lt_of_le hx lo) : bW ≠ bx0x))
  have cbx0x : w.heap.size ≤ bx0x := Nat.le_trans (And.left st).size lo
  have nbN0_x0x : (Value.slice (some ⟨bx0x, 0, none⟩) z0x.length z0x.length) = Value.slice none 0 0 ∨ N0 ≠ bx0x := .inr (Nat.ne_of_lt (Nat.lt_of_lt_of_le (World.block_lt_of_cell? _ _ st.2.1) lo))
  replace st := nx3_I bel st
  replace oW := oW.keep bel
  clear bel
  clear lo
  obtain ⟨w7, hW⟩ : ∃ w7, w7 = w5.alloc (Obj.cells #[.int .i64 s0, .int .i64 r0, (Value.slice (some ⟨bx0x, 0, none⟩) z0x.length z0x.length)] 26) := ⟨_, rfl⟩
  obtain ⟨NX0, hN⟩ : ∃ NX0, NX0 = w5.heap.size := ⟨_, rfl⟩
  have nbNX0_W : (Value.slice aoW rs.length cW) = Value.slice none 0 0 ∨ NX0 ≠ bW := (lim oW).imp id (fun hx => by rw [hN]; exact Nat.ne_of_gt hx)
  have nbNX0_x0x : (Value.slice (some ⟨bx0x, 0, none⟩) z0x.length z0x.length) = Value.slice none 0 0 ∨ NX0 ≠ bx0x := (lim ox0x).imp id (fun hx => by rw [hN]; exact Nat.ne_of_gt hx)
  have bel : Below w5.heap.size w5 w7 := by rw [hW]; exact Rule.below1 _ _
  have st' : Below w.heap.size w w7 ∧ w7.cell? ⟨N0, 0, none⟩ = some (.int .i64 s0) ∧ w7.cell? ⟨N0, 1, none⟩ = some (.int .i64 r0) ∧ w7.cell? ⟨N0, 2, none⟩ = some ((Value.slice ao0x z0x.length cap0x)) ∧ w7.cell? ⟨NX0, 0, none⟩ = some (.int .i64 s0) ∧ w7.cell? ⟨NX0, 1, none⟩ = some (.int .i64 r0) ∧ w7.cell? ⟨NX0, 2, none⟩ = some ((Value.slice (some ⟨bx0x, 0, none⟩) z0x.length z0x.length)) ∧ Rd w7 b0x (Value.slice ao0x z0x.length cap0x) z0x ∧ w.heap.size ≤ w7.heap.size := by
    obtain ⟨t0, c0, c1, c2, d0, tz⟩ := nx3_I bel st
    exact ⟨t0, c0, c1, c2, by rw [hW, hN]; simp, by rw [hW, hN]; simp, by rw [hW, hN]; simp, d0, tz⟩
  replace oW := oW.keep bel
  replace ox0x := ox0x.keep bel
  clear st bel; have st := st'; clear st'
  have stp := st
  rw [hW, hN] at stp
  go_wp2_with fail
  clear stp
  simp only [← hW, ← hN]
  clear hW hN
  go_at_call 41
  refine (HIm.out _ _ _ ox0x.rd).mono ?_
  rintro e w6 ⟨aoG, cG, bG, rfl, oG, lo, bel⟩
  have neW_G := (lim oW).imp id (fun hx => (Nat.ne_of_lt (Nat.lt_of_lt_of_le hx lo) : bW ≠ bG))
  have nex0x_G := (lim ox0x).imp id (fun hx => (Nat.ne_of_lt (Nat.lt_of_lt_of_le hx lo) : bx0x ≠ bG))
  have cbG : w.heap.size ≤ bG := Nat.le_trans (And.left st).size lo
  have nbN0_G : (Value.slice aoG rs.length cG) = Value.slice none 0 0 ∨ N0 ≠ bG := .inr (Nat.ne_of_lt (Nat.lt_of_lt_of_le (World.block_lt_of_cell? _ _ st.2.1) lo))
  have nbNX0_G : (Value.slice aoG rs.length cG) = Value.slice none 0 0 ∨ NX0 ≠ bG := .inr (Nat.ne_of_lt (Nat.lt_of_lt_of_le (World.block_lt_of_cell? _ _ st.2.2.2.2.1) lo))
  replace st := nx6_I bel st
  replace oW := oW.keep bel
  replace ox0x := ox0x.keep bel
  clear bel
  clear lo
  go_wp2_with fail
  go_at_call 25
  refine (eqB oG.rd oW.rd).mono ?_
  rintro e w8 ⟨rfl, bel⟩
  replace st := nx6_I bel st
  replace oW := oW.keep bel
  replace ox0x := ox0x.keep bel
  replace oG := oG.keep bel
  clear bel
  go_wp2_with fail
  refine wp_region_held_drew (S := (fun ww => Below w.heap.size w ww ∧ ww.cell? ⟨N0, 0, none⟩ = some (.int .i64 s0) ∧ ww.cell? ⟨N0, 1, none⟩ = some (.int .i64 r0) ∧ ww.cell? ⟨N0, 2, none⟩ = some ((Value.slice ao0x z0x.length cap0x)) ∧ ww.cell? ⟨NX0, 0, none⟩ = some (.int .i64 s0) ∧ ww.cell? ⟨NX0, 1, none⟩ = some (.int .i64 r0) ∧ ww.cell? ⟨NX0, 2, none⟩ = some ((Value.slice (some ⟨bx0x, 0, none⟩) z0x.length z0x.length)) ∧ Rd ww b0x (Value.slice ao0x z0x.length cap0x) z0x ∧ w.heap.size ≤ ww.heap.size)) (by kernel_rfl) ?_ (fun hHeld => ?_)
  · ((try dsimp only); exact drw6_I st)
  first | (refine wpAnyH_take (i := 0) (v := ?_) rfl ?_ ?_ ?_ (fun _ _ _ h => h) (Or.inl ⟨?_, ?_⟩) ?_ ?_; rotate_left 1; (focus decide +kernel); (focus decide +kernel); (focus decide +kernel); (focus rfl); (focus (intro w hSw; (try dsimp only at hSw); go_simp; (try (with_reducible rfl)); done)); (focus assumption); (try simp only [Act.put, List.setIfInBounds_toArray, List.set_cons_zero, List.set_cons_succ, List.getElem_toArray, List.getElem_cons_succ, List.getElem_cons_zero])) | (refine wpAnyH_take (i := 0) (v := undef) rfl ?_ ?_ ?_ (fun _ _ _ h => h) (Or.inr ⟨?_, rfl⟩) ?_ ?_; (focus decide +kernel); (focus decide +kernel); (focus decide +kernel); (focus rfl); (focus assumption); (try simp only [Act.put, List.setIfInBounds_toArray, List.set_cons_zero, List.set_cons_succ, List.getElem_toArray, List.getElem_cons_succ, List.getElem_cons_zero])) | skip
  first | (refine wpAnyH_take (i := 1) (v := ?_) rfl ?_ ?_ ?_ (fun _ _ _ h => h) (Or.inl ⟨?_, ?_⟩) ?_ ?_; rotate_left 1; (focus decide +kernel); (focus decide +kernel); (focus decide +kernel); (focus rfl); (focus (intro w hSw; (try dsimp only at hSw); go_simp; (try (with_reducible rfl)); done)); (focus assumption); (try simp only [Act.put, List.setIfInBounds_toArray, List.set_cons_zero, List.set_cons_succ, List.getElem_toArray, List.getElem_cons_succ, List.getElem_cons_zero])) | (refine wpAnyH_take (i := 1) (v := undef) rfl ?_ ?_ ?_ (fun _ _ _ h => h) (Or.inr ⟨?_, rfl⟩) ?_ ?_; (focus decide +kernel); (focus decide +kernel); (focus decide +kernel); (focus rfl); (focus assumption); (try simp only [Act.put, List.setIfInBounds_toArray, List.set_cons_zero, List.set_cons_succ, List.getElem_toArray, List.getElem_cons_succ, List.getElem_cons_zero])) | skip
  first | (refine wpAnyH_take (i := 4) (v := ?_) rfl ?_ ?_ ?_ (fun _ _ _ h => h) (Or.inl ⟨?_, ?_⟩) ?_ ?_; rotate_left 1; (focus decide +kernel); (focus decide +kernel); (focus decide +kernel); (focus rfl); (focus (intro w hSw; (try dsimp only at hSw); go_simp; (try (with_reducible rfl)); done)); (focus assumption); (try simp only [Act.put, List.setIfInBounds_toArray, List.set_cons_zero, List.set_cons_succ, List.getElem_toArray, List.getElem_cons_succ, List.getElem_cons_zero])) | (refine wpAnyH_take (i := 4) (v := undef) rfl ?_ ?_ ?_ (fun _ _ _ h => h) (Or.inr ⟨?_, rfl⟩) ?_ ?_; (focus decide +kernel); (focus decide +kernel); (focus decide +kernel); (focus rfl); (focus assumption); (try simp only [Act.put, List.setIfInBounds_toArray, List.set_cons_zero, List.set_cons_succ, List.getElem_toArray, List.getElem_cons_succ, List.getElem_cons_zero])) | skip
  first | (refine wpAnyH_take (i := 2) (v := undef) rfl ?_ ?_ ?_ (fun _ _ _ h => h) (Or.inr ⟨?_, rfl⟩) ?_ ?_; (focus decide +kernel); (focus decide +kernel); (focus decide +kernel); (focus rfl); (focus assumption); (try simp only [Act.put, List.setIfInBounds_toArray, List.set_cons_zero, List.set_cons_succ, List.getElem_toArray, List.getElem_cons_succ, List.getElem_cons_zero])) | (refine wpAnyH_ready (rs := [2]) ?_ (by simp) ?_; (focus decide +kernel); refine AllReadyH.cons rfl (fun K hK => ?_) AllReadyH.nil; go_simp; (go_at_call 15; refine (toR (rdx6_I_0 hHeld) HL0x.out).mono ?_; rintro e w9 ⟨by0x, rfl, oy0x, lo, bel⟩; replace oW : Own 2 w8.drew bW (Value.slice aoW rs.length cW) rs := oW; replace ox0x : Own 2 w8.drew bx0x (Value.slice (some ⟨bx0x, 0, none⟩) z0x.length z0x.length) z0x := ox0x; replace oG : Own 2 w8.drew bG (Value.slice aoG rs.length cG) rs := oG; replace oW := oW.keep bel; replace ox0x := ox0x.keep bel; replace oG := oG.keep bel; clear lo); refine hK.out _ _ ?_ (fun hHeld => ?_); ((try dsimp only); exact nx6_I bel hHeld); clear hK K; (try simp only [Act.put, List.setIfInBounds_toArray, List.set_cons_zero, List.set_cons_succ, List.getElem_toArray, List.getElem_cons_succ, List.getElem_cons_zero]))
  first | (refine wpAnyH_take (i := 4) (v := ?_) rfl ?_ ?_ ?_ (fun _ _ _ h => h) (Or.inl ⟨?_, ?_⟩) ?_ ?_; rotate_left 1; (focus decide +kernel); (focus decide +kernel); (focus decide +kernel); (focus rfl); (focus (intro w hSw; (try dsimp only at hSw); go_simp; (try (with_reducible rfl)); done)); (focus assumption); (try simp only [Act.put, List.setIfInBounds_toArray, List.set_cons_zero, List.set_cons_succ, List.getElem_toArray, List.getElem_cons_succ, List.getElem_cons_zero])) | (refine wpAnyH_take (i := 4) (v := undef) rfl ?_ ?_ ?_ (fun _ _ _ h => h) (Or.inr ⟨?_, rfl⟩) ?_ ?_; (focus decide +kernel); (focus decide +kernel); (focus decide +kernel); (focus rfl); (focus assumption); (try simp only [Act.put, List.setIfInBounds_toArray, List.set_cons_zero, List.set_cons_succ, List.getElem_toArray, List.getElem_cons_succ, List.getElem_cons_zero])) | skip
  first | (refine wpAnyH_take (i := 3) (v := undef) rfl ?_ ?_ ?_ (fun _ _ _ h => h) (Or.inr ⟨?_, rfl⟩) ?_ ?_; (focus decide +kernel); (focus decide +kernel); (focus decide +kernel); (focus rfl); (focus assumption); (try simp only [Act.put, List.setIfInBounds_toArray, List.set_cons_zero, List.set_cons_succ, List.getElem_toArray, List.getElem_cons_succ, List.getElem_cons_zero])) | (refine wpAnyH_ready (rs := [3]) ?_ (by simp) ?_; (focus decide +kernel); refine AllReadyH.cons rfl (fun K hK => ?_) AllReadyH.nil; go_simp; (go_at_call 17; refine (eqR ox0x.rd oy0x.rd).mono ?_; rintro e w10 ⟨rfl, bel⟩; replace oW := oW.keep bel; replace ox0x := ox0x.keep bel; replace oG := oG.keep bel; clear oy0x); refine hK.out _ _ ?_ (fun hHeld => ?_); ((try dsimp only); exact nx6_I bel hHeld); clear hK K; (try simp only [Act.put, List.setIfInBounds_toArray, List.set_cons_zero, List.set_cons_succ, List.getElem_toArray, List.getElem_cons_succ, List.getElem_cons_zero]))
  first | (refine wpAnyH_take (i := 4) (v := ?_) rfl ?_ ?_ ?_ (fun _ _ _ h => h) (Or.inl ⟨?_, ?_⟩) ?_ ?_; rotate_left 1; (focus decide +kernel); (focus decide +kernel); (focus decide +kernel); (focus rfl); (focus (intro w hSw; (try dsimp only at hSw); go_simp; (try (with_reducible rfl)); done)); (focus assumption); (try simp only [Act.put, List.setIfInBounds_toArray, List.set_cons_zero, List.set_cons_succ, List.getElem_toArray, List.getElem_cons_succ, List.getElem_cons_zero])) | (refine wpAnyH_take (i := 4) (v := undef) rfl ?_ ?_ ?_ (fun _ _ _ h => h) (Or.inr ⟨?_, rfl⟩) ?_ ?_; (focus decide +kernel); (focus decide +kernel); (focus decide +kernel); (focus rfl); (focus assumption); (try simp only [Act.put, List.setIfInBounds_toArray, List.set_cons_zero, List.set_cons_succ, List.getElem_toArray, List.getElem_cons_succ, List.getElem_cons_zero])) | skip
  refine wpAnyH_done (by kernel_rfl) ?_ _
  clear st; have st := hHeld; clear hHeld
  go_wp2_with fail
  go_at_call 18
  refine (markR ox0x (by omega) (by have := HL0x.out; omega)).mono ?_
  rintro e w11 ⟨rfl, mx0x, g, gn⟩
  replace oW := beside oW g neW_x0x
  replace oG := besideB oG g gn nex0x_G
  replace ox0x := mx0x; clear mx0x
  have gB := below_mark (And.left st) g (And.left st).size cbx0x
  have st' : Below w.heap.size w w11 ∧ w11.cell? ⟨N0, 0, none⟩ = some (.int .i64 s0) ∧ w11.cell? ⟨N0, 1, none⟩ = some (.int .i64 r0) ∧ w11.cell? ⟨N0, 2, none⟩ = some ((Value.slice ao0x z0x.length cap0x)) ∧ w11.cell? ⟨NX0, 0, none⟩ = some (.int .i64 s0) ∧ w11.cell? ⟨NX0, 1, none⟩ = some (.int .i64 r0) ∧ w11.cell? ⟨NX0, 2, none⟩ = some ((Value.slice (some ⟨bx0x, 0, none⟩) z0x.length z0x.length)) ∧ Rd w11 b0x (Value.slice ao0x z0x.length cap0x) z0x ∧ w.heap.size ≤ w11.heap.size := ⟨gB, mcellB g gn st.2.1 nbN0_x0x, mcellB g gn st.2.2.1 nbN0_x0x, mcellB g gn st.2.2.2.1 nbN0_x0x, mcellB g gn st.2.2.2.2.1 nbNX0_x0x, mcellB g gn st.2.2.2.2.2.1 nbNX0_x0x, mcellB g gn st.2.2.2.2.2.2.1 nbNX0_x0x, H0x.out.keep gB (Nat.le_refl _), gB.size⟩
  clear st g gn gB; have st := st'; clear st'
  have hk0 : decide ((1 + (z0x.length : Int)) < 0) = false := by simp; omega
  go_wp2_with fail
  go_at_call 25
  refine (eqB oG.rd oW.rd).mono ?_
  rintro e w12 ⟨rfl, bel⟩
  replace st := nx6_I bel st
  replace oW := oW.keep bel
  replace ox0x := ox0x.keep bel
  replace oG := oG.keep bel
  clear bel
  go_wp2_with fail
  go_at_call 35
  refine (markSB oG (by omega) (by have := HN.out; omega)).mono ?_
  rintro e w13 ⟨rfl, mG, g, gn⟩
  replace oW := beside oW g neW_G
  replace ox0x := beside ox0x g nex0x_G
  replace oG := mG; clear mG
  have gB := below_mark (And.left st) g (And.left st).size cbG
  have st' : Below w.heap.size w w13 ∧ w13.cell? ⟨N0, 0, none⟩ = some (.int .i64 s0) ∧ w13.cell? ⟨N0, 1, none⟩ = some (.int .i64 r0) ∧ w13.cell? ⟨N0, 2, none⟩ = some ((Value.slice ao0x z0x.length cap0x)) ∧ w13.cell? ⟨NX0, 0, none⟩ = some (.int .i64 s0) ∧ w13.cell? ⟨NX0, 1, none⟩ = some (.int .i64 r0) ∧ w13.cell? ⟨NX0, 2, none⟩ = some ((Value.slice (some ⟨bx0x, 0, none⟩) z0x.length z0x.length)) ∧ Rd w13 b0x (Value.slice ao0x z0x.length cap0x) z0x ∧ w.heap.size ≤ w13.heap.size := ⟨gB, mcellB g gn st.2.1 nbN0_G, mcellB g gn st.2.2.1 nbN0_G, mcellB g gn st.2.2.2.1 nbN0_G, mcellB g gn st.2.2.2.2.1 nbNX0_G, mcellB g gn st.2.2.2.2.2.1 nbNX0_G, mcellB g gn st.2.2.2.2.2.2.1 nbNX0_G, H0x.out.keep gB (Nat.le_refl _), gB.size⟩
  clear st g gn gB; have st := st'; clear st'
  go_wp2_with fail
  go_at_call 42
  refine (heldSB oG.rd (by omega) (by have := HN.out; omega)).mono ?_
  rintro e w14 ⟨rfl, bel⟩
  replace st := nx6_I bel st
  replace oW := oW.keep bel
  replace ox0x := ox0x.keep bel
  replace oG := oG.keep bel
  clear bel
  clear ox0x
  go_wp2_with fail
  go_at_call 15
  refine (toR (rdx6_I_0 st) HL0x.out).mono ?_
  rintro e w15 ⟨bz0x, rfl, oz0x, lo, bel⟩
  have neW_z0x := (lim oW).imp id (fun hx => (Nat.ne_of_lt (Nat.lt_of_lt_of_le hx lo) : bW ≠ bz0x))
  have neG_z0x := (lim oG).imp id (fun hx => (Nat.ne_of_lt (Nat.lt_of_lt_of_le hx lo) : bG ≠ bz0x))
  have cbz0x : w.heap.size ≤ bz0x := Nat.le_trans (And.left st).size lo
  have nbN0_z0x : (Value.slice (some ⟨bz0x, 0, none⟩) z0x.length z0x.length) = Value.slice none 0 0 ∨ N0 ≠ bz0x := .inr (Nat.ne_of_lt (Nat.lt_of_lt_of_le (World.block_lt_of_cell? _ _ st.2.1) lo))
  have nbNX0_z0x : (Value.slice (some ⟨bz0x, 0, none⟩) z0x.length z0x.length) = Value.slice none 0 0 ∨ NX0 ≠ bz0x := .inr (Nat.ne_of_lt (Nat.lt_of_lt_of_le (World.block_lt_of_cell? _ _ st.2.2.2.2.1) lo))
  replace st := nx6_I bel st
  replace oW := oW.keep bel
  replace oG := oG.keep bel
  clear bel
  clear lo
  go_wp2_with fail
  go_at_call 41
  refine (HIm.out _ _ _ oz0x.rd).mono ?_
  rintro e w16 ⟨aoK, cK, bK, rfl, oK, lo, bel⟩
  have neW_K := (lim oW).imp id (fun hx => (Nat.ne_of_lt (Nat.lt_of_lt_of_le hx lo) : bW ≠ bK))
  have neG_K := (lim oG).imp id (fun hx => (Nat.ne_of_lt (Nat.lt_of_lt_of_le hx lo) : bG ≠ bK))
  have nez0x_K := (lim oz0x).imp id (fun hx => (Nat.ne_of_lt (Nat.lt_of_lt_of_le hx lo) : bz0x ≠ bK))
  have cbK : w.heap.size ≤ bK := Nat.le_trans (And.left st).size lo
  have nbN0_K : (Value.slice aoK rs.length cK) = Value.slice none 0 0 ∨ N0 ≠ bK := .inr (Nat.ne_of_lt (Nat.lt_of_lt_of_le (World.block_lt_of_cell? _ _ st.2.1) lo))
  have nbNX0_K : (Value.slice aoK rs.length cK) = Value.slice none 0 0 ∨ NX0 ≠ bK := .inr (Nat.ne_of_lt (Nat.lt_of_lt_of_le (World.block_lt_of_cell? _ _ st.2.2.2.2.1) lo))
  replace st := nx6_I bel st
  replace oW := oW.keep bel
  replace oG := oG.keep bel
  replace oz0x := oz0x.keep bel
  clear bel
  clear lo
  clear oz0x
  go_wp2_with fail
  go_at_call 25
  refine (eqB oK.rd oW.rd).mono ?_
  rintro e w17 ⟨rfl, bel⟩
  replace st := nx6_I bel st
  replace oW := oW.keep bel
  replace oG := oG.keep bel
  replace oK := oK.keep bel
  clear bel
  go_wp2_with fail
  go_at_call 42
  refine (heldSB oG.rd (by omega) (by have := HN.out; omega)).mono ?_
  rintro e w18 ⟨rfl, bel⟩
  replace st := nx6_I bel st
  replace oW := oW.keep bel
  replace oG := oG.keep bel
  replace oK := oK.keep bel
  clear bel
  go_wp2
  go_ret
  exact ⟨rfl, And.left st⟩

set_option maxRecDepth 100000 in
theorem lifted (os : Os) (started : os.Started) (H : Type) (enc : TypeId × Value → H) :
    ReturnsInHanded {} Try.checked os 10 .any (Rows.fnExactWindingOfSpec.pre6 enc Try.prog Try.f10 Rows.fnExactWindingOfRow.domain false) (Rows.fnExactWindingOfSpec.post enc Try.prog Try.f10 false true false false) := by
  refine returnsInHanded_of_change (C := Try.checked) own started (by kernel_rfl) Try.func10
    (ChangeSpec.witness6 (enc := enc) (C := Try.checked) false ⟨#[], #[.agg #[.int .i64 0, .int .i64 0, .slice none 0 0], .int .i64 0], []⟩ 8 (by kernel_rfl) (by kernel_rfl) (by kernel_rfl) (by kernel_rfl)) ?_
  intro W base args ds gs before hval0 hW hcnd hreach
  have hval : ∀ (j : Nat) t v, Try.f10.params[j]? = some t → args[j]? = some v → Value.okWide Try.prog W .any base t v := hval0
  have hW' := hW
  obtain ⟨p, q, hA0, hV, rfl, hfz, hnd⟩ := hW
  have hA : DataW.TrodAll enc Try.prog W 0 (fun _ => true) true Try.f10.params.toList args.toList ds p := hA0
  rw [Try.params10] at hA hval
  obtain ⟨v0, vs0, d0, ds0, p0, q0, hargs, rfl, rfl, h0, r0⟩ := trodAll_cons hA
  obtain ⟨v1, vs1, d1, ds1, p1, q1, rfl, rfl, rfl, h1, r1⟩ := trodAll_cons r0
  obtain ⟨rfl, rfl, rfl⟩ := trodAll_nil r1
  obtain rfl : args = #[v0, v1] := by cases args; simp_all
  obtain ⟨rfl, rfl⟩ := trodVars_none hV
  have k0 := h0
  have lt0 : ∀ x ∈ p0, x.block < W.heap.size := by obtain ⟨m, hm⟩ := k0; exact DataW.trod_lt m _ _ _ hm
  obtain ⟨c00, c01, c02, y00, y01, y02, m0, rfl, hd0, hp0, t00, t01, t02⟩ := open_agg3 Try.underlying24 (by kernel_rfl) (by kernel_rfl) (hval 0 24 v0 rfl rfl) h0
  obtain ⟨a00, e00, _, w00⟩ := DataW.trod_int Try.underlying2 t00
  simp at e00
  subst e00
  obtain ⟨a01, e01, _, w01⟩ := DataW.trod_int Try.underlying2 t01
  simp at e01
  subst e01
  obtain ⟨a0, len0, cap0, e0⟩ := slice_form Try.underlying22 t02
  simp at e0
  subst e0
  obtain ⟨b0, z0, _, w0⟩ : ∃ b zs, zs.length = len0 ∧ Rd W b (.slice a0 len0 cap0) zs := rd_open Try.underlying22 Try.underlying2 (by kernel_rfl) t02
  obtain ⟨a1, rfl, rfl, rfl, w1⟩ := open_int Try.underlying2 (hval 1 2 v1 rfl rfl) h1
  clear hA0 hval0
  refine (walk w00 w01 w0 w1).mono fun e W' ⟨he, bel⟩ => ?_
  subst he
  exact ⟨_, rfl, _, _, _, [], _, [], hW', trodAll_mk1 (shut_bool Try.underlying4 _), (trodAll_cons_mk (Below.trod laidOut (by kernel_rfl) (of_decide_eq_true (by kernel_rfl)) k0 bel lt0) (trodAll_cons_mk (shut_int Try.underlying2 w1) (trodAll_mk0))), rfl, bel.frame _, fun h => by cases h⟩

theorem over : Rows.fnExactWindingOfRow.holds Try.pinned (OpenSpec.ofChange Rows.fnExactWindingOfSpec) :=
  OpenClaim.holds_of_wide 10 Try.f10 rfl rfl rfl rfl rfl rfl rfl ⟨rfl, rfl, rfl, rfl, rfl⟩ rfl rfl rfl rfl rfl (by kernel_rfl) Try.func10 (by kernel_rfl)
    (of_decide_eq_true (by kernel_rfl)) (by unfold Func.isWrapper; rw [if_neg (of_decide_eq_false (by kernel_rfl))]; exact ⟨rfl, rfl⟩)
    (fun os started H enc _ => lifted os started H enc)

theorem proved : Rows.FnExactWindingOfSaid := over
end Go.Proofs.Ythcbhbdgbiiagaa.lawWindingOf
